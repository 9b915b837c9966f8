import Derived.Test.YtpbnpmeigdjfdaaGreatDoorXEcf
import Derived.Deep.Cut
namespace Go.Proofs.YtpbnpmeigdjfdaaGreatDoor.Ce
open Go.Maps Go.RowKit
set_option linter.unusedSimpArgs false
set_option linter.unusedVariables false
set_option maxHeartbeats 16000000
set_option maxRecDepth 100000
def lenV : Value → Nat
 | .slice _ n _ => n
 | _ => 0
theorem own_lenV {w : World} {base e size n : Nat} {v : Value} {xs : List Value} (h : w.ownsRow base e size v n xs) : lenV v = n := by
 rcases h.2 with ⟨rfl, rfl⟩ | ⟨g, cap, cur, rfl, _⟩ <;> rfl
theorem rows_ints_at {w : World} {b n : Nat} {s : Sl} {xs : List Value} {l : List Int} (h : w.ownsRow b 3 1 (.slice s.a s.n s.c) n xs) (hx : xs = l.map fun x => I x) (hn : n = l.length) : RowsAt w 1 intP s l := by
 obtain ⟨s', e, hR⟩ := rows_ints h hx hn
 obtain ⟨a, m, k⟩ := s
 obtain ⟨a', m', k'⟩ := s'
 injection e with e1 e2 e3
 dsimp only at e1 e2 e3
 subst e1 e2 e3
 exact hR
theorem grown_same {a b d : World} {r : Nat} (h : a.grownBy b (some r)) (k : b.grownBy d (some r)) : a.grownBy d (some r) :=
 ⟨k.os.trans h.os, k.tape.trans h.tape, k.output.trans h.output, Nat.le_trans h.size k.size, fun i hi hne => (k.block i (Nat.lt_of_lt_of_le hi h.size) hne).trans (h.block i hi hne)⟩
structure FI (c : Cf) (ks : List Nat) (id : Nat) (w wq : World) (b : Nat) (lv : Value) (way : List Nat) (z : Nat) (ks1 : List Nat) (f1 : Nat → Int) : Prop where
 own : wq.ownsRow w.heap.size 3 1 lv way.length (way.map fun (k : Nat) => I (k : Int))
 map : MapOf wq b c.ress.length ks1 f1
 gr : w.grownBy wq (some b)
 kp : Keeps w wq
 ch : Chain c (way.map fun (k : Nat) => (k : Int)) z
 zn : z < c.ress.length
 rt : rootN c id = rootN c z
 idm : (id = z ∧ way = []) ∨ id ∈ way
 mem : ∀ k, k ∈ ks1 ↔ k ∈ ks ∨ k ∈ way
 fw : ∀ k ∈ way, f1 k = -1
 fk : ∀ k ∈ ks, f1 k = rootN c k
 ln : way.length + ks.length = ks1.length
structure FJ (c : Cf) (ks : List Nat) (id : Nat) (w wr : World) (b : Nat) (lv : Value) (way : List Nat) (j : Nat) (ks2 : List Nat) (f2 : Nat → Int) : Prop where
 own : wr.ownsRow w.heap.size 3 1 lv way.length (way.map fun (k : Nat) => I (k : Int))
 map : MapOf wr b c.ress.length ks2 f2
 gr : w.grownBy wr (some b)
 kp : Keeps w wr
 sub : ∀ k ∈ ks2, k ∈ ks ∨ k ∈ way
 kk : ∀ k ∈ ks, k ∈ ks2
 kw : ∀ k ∈ way.take j, k ∈ ks2
 ff : ∀ k ∈ ks2, f2 k = rootN c k ∨ k ∈ way.drop j
theorem FJ_step {c : Cf} {ks : List Nat} {id : Nat} {w wr w1 : World} {b : Nat} {lv : Value} {way : List Nat} {j x : Nat} {ks2 : List Nat} {f2 : Nat → Int} {e : Int} (h : FJ c ks id w wr b lv way j ks2 f2) (hm : MapOf wr b c.ress.length ks2 f2)
  (hm1 : MapOf w1 b c.ress.length (insK ks2 x) (setF f2 x e)) (hg : wr.grownBy w1 (some b)) (hx : way[j]? = some x) (hbl : b < w.heap.size) (he : rootN c x = e) : FJ c ks id w w1 b lv way (j + 1) (insK ks2 x) (setF f2 x e) := by
 obtain ⟨hj, ex⟩ := List.getElem?_eq_some_iff.1 hx
 refine ⟨h.own.kept hg ?_, hm1, grown_same h.gr hg, h.kp.trans (keeps_map hm hg), fun k hk => ?_, fun k hk => mem_insK.2 (.inr (h.kk k hk)), fun k hk => ?_, fun k hk => ?_⟩
 ·cases hv : lv.ownBlock with
  | none => exact .inl rfl
  | some g => exact .inr (fun q => by have := (h.own.lt g hv).1; cases q; omega)
 ·rcases mem_insK.1 hk with rfl | hk
  ·exact .inr (List.mem_of_getElem? hx)
  ·exact h.sub k hk
 ·rw [List.take_add_one, hx, Option.toList_some, List.mem_append, List.mem_singleton] at hk
  rcases hk with hk | rfl
  ·exact mem_insK.2 (.inr (h.kw k hk))
  ·exact mem_insK.2 (.inl rfl)
 ·unfold setF
  by_cases hkx : k = x
  ·exact .inl (by rw [if_pos hkx, hkx, he])
  ·rw [if_neg hkx]
   rcases mem_insK.1 hk with h1 | hk
   ·exact absurd h1 hkx
   ·rcases h.ff k hk with h1 | h1
    ·exact .inl h1
    ·rw [List.drop_eq_getElem_cons hj, ex, List.mem_cons] at h1
     exact .inr (h1.resolve_left hkx)
theorem FI_step {c : Cf} {ks : List Nat} {id : Nat} {w wq w1 : World} {b : Nat} {lv lv1 : Value} {way : List Nat} {z : Nat} {ks1 : List Nat} {f1 : Nat → Int} {y : Rs} {q : Nat} (h : FI c ks id w wq b lv way z ks1 f1) (hz : ¬ z ∈ ks1)
  (hy : c.ress[z]? = some y) (hk : y.kind = 2) (hq : y.link = (q : Int)) (hqn : q < c.ress.length)
  (own : w1.ownsRow w.heap.size 3 1 lv1 (way.length + 1) ((way.map fun (k : Nat) => I (k : Int)) ++ [I (z : Int)])) (map : MapOf w1 b c.ress.length (insK ks1 z) (setF f1 z (-1))) (gr : w.grownBy w1 (some b)) (kp : Keeps w w1) :
  FI c ks id w w1 b lv1 (way ++ [z]) q (insK ks1 z) (setF f1 z (-1)) := by
 have hid : isId (z : Int) c.ress.length = true := isId_nat h.zn
 have hrk : rkind c (z : Int) = 2 := by rw [rkind_at hy]; exact hk
 have hrl : rlink c (z : Int) = (q : Int) := by rw [rlink_at hy]; exact hq
 have hzk : z ∉ ks ∧ z ∉ way := ⟨fun h1 => hz ((h.mem z).2 (.inl h1)), fun h1 => hz ((h.mem z).2 (.inr h1))⟩
 refine ⟨by rw [List.length_append, List.map_append]; exact own, map, gr, kp, ?_, hqn, ?_, ?_, fun k => ?_, fun k hk => ?_, fun k hk => ?_, ?_⟩
 ·rw [List.map_append]
  have := chain_snoc h.ch hid hrk
  rw [hrl] at this
  exact this
 ·rw [h.rt, root_step hid hrk, hrl]
 ·rcases h.idm with ⟨rfl, rfl⟩ | h1
  ·exact .inr (by simp)
  ·exact .inr (by simp [h1])
 ·rw [mem_insK, h.mem k, List.mem_append, List.mem_singleton]
  constructor
  ·rintro (rfl | h1 | h1)
   ·exact .inr (.inr rfl)
   ·exact .inl h1
   ·exact .inr (.inl h1)
  ·rintro (h1 | h1 | rfl)
   ·exact .inr (.inl h1)
   ·exact .inr (.inr h1)
   ·exact .inl rfl
 ·unfold setF
  by_cases hkz : k = z
  ·rw [if_pos hkz]
  ·rw [if_neg hkz]
   rw [List.mem_append, List.mem_singleton] at hk
   exact h.fw k (hk.resolve_right hkz)
 ·unfold setF
  rw [if_neg (fun e => hzk.1 (by rw [← e]; exact hk))]
  exact h.fk k hk
 ·rw [List.length_append, List.length_singleton, insK, if_neg hz, List.length_cons]
  have := h.ln
  omega
theorem FI_met {c : Cf} {ks : List Nat} {id : Nat} {w wq : World} {b : Nat} {lv : Value} {way : List Nat} {z : Nat} {ks1 : List Nat} {f1 : Nat → Int} (h : FI c ks id w wq b lv way z ks1 f1) (hz : z ∈ ks1) (hpos : ∀ k ∈ ks, 0 ≤ rootN c k) :
  f1 z = rootN c id ∧ (∀ k ∈ way, k < c.ress.length ∧ rootN c k = f1 z) ∧ (id ∈ ks ∨ id ∈ way) := by
 have hw : ∀ k ∈ way, k < c.ress.length := fun k hk => h.map.lt k ((h.mem k).2 (.inr hk))
 have hin : ∀ k ∈ way, ((k : Nat) : Int) ∈ way.map fun (k : Nat) => (k : Int) := fun k hk => List.mem_map.2 ⟨k, hk, rfl⟩
 by_cases hzw : z ∈ way
 ·have hr := chain_ring h.ch (hin z hzw)
  have hf := h.fw z hzw
  refine ⟨?_, fun k hk => ⟨hw k hk, by rw [hf]; exact hr _ (hin k hk)⟩, ?_⟩
  ·rw [hf, h.rt]; exact (hr _ (hin z hzw)).symm
  ·rcases h.idm with ⟨rfl, rfl⟩ | h1
   ·cases hzw
   ·exact .inr h1
 ·have hzk : z ∈ ks := ((h.mem z).1 hz).resolve_right hzw
  have hf := h.fk z hzk
  refine ⟨by rw [hf, h.rt], fun k hk => ⟨hw k hk, by rw [hf]; exact chain_root h.ch _ (hin k hk)⟩, ?_⟩
  rcases h.idm with ⟨rfl, rfl⟩ | h1
  ·exact .inl hzk
  ·exact .inr h1
theorem FI_last {c : Cf} {ks : List Nat} {id : Nat} {w wq : World} {b : Nat} {lv : Value} {way : List Nat} {z : Nat} {ks1 : List Nat} {f1 : Nat → Int} {y : Rs} (h : FI c ks id w wq b lv way z ks1 f1) (hy : c.ress[z]? = some y) (hk : y.kind ≠ 2) :
  (z : Int) = rootN c id ∧ (∀ k ∈ way ++ [z], k < c.ress.length ∧ rootN c k = (z : Int)) ∧ (id ∈ ks ∨ id ∈ way ++ [z]) := by
 have hz : rootN c (z : Int) = z := root_end (isId_nat h.zn) (by rw [rkind_at hy]; exact hk)
 refine ⟨by rw [h.rt, hz], fun k hk => ?_, ?_⟩
 ·rw [List.mem_append, List.mem_singleton] at hk
  rcases hk with hk | rfl
  ·exact ⟨h.map.lt k ((h.mem k).2 (.inr hk)), by rw [← hz]; exact chain_root h.ch _ (List.mem_map.2 ⟨k, hk, rfl⟩)⟩
  ·exact ⟨h.zn, hz⟩
 ·rcases h.idm with ⟨rfl, rfl⟩ | h1
  ·exact .inr (by simp)
  ·exact .inr (by simp [h1])
theorem wf_root (c : Cf) (hn : c.ress.length ≤ 8796093022208) (r : Int) : (Lit.int .i64 (rootN c r)).wf = true := WalkArith.wf_i64 (by have := root_range c r; omega)
theorem FI_app {c : Cf} {ks : List Nat} {id : Nat} {w wq w6 : World} {b : Nat} {lv : Value} {way : List Nat} {z : Nat} {ks1 : List Nat} {f1 : Nat → Int} {o : Obj} (h : FI c ks id w wq b lv way z ks1 f1) (hbl : b < w.heap.size) (hg : (wq.alloc o).grownBy w6 lv.ownBlock) :
  MapOf w6 b c.ress.length ks1 f1 ∧ w.grownBy w6 (some b) ∧ Keeps w w6 := by
 have hrow : ∀ k, lv.ownBlock = some k → w.heap.size ≤ k := fun k hk => (h.own.lt k hk).1
 have hne : some b ≠ lv.ownBlock := fun e => by have := hrow b e.symm; omega
 have hal : wq.grownBy (wq.alloc o) none := World.grownBy_alloc wq o none
 have hs : wq.heap.size ≤ (wq.alloc o).heap.size := hal.size
 refine ⟨(h.map.kept hal (by simp)).kept hg hne, ?_, ?_⟩
 ·refine ⟨hg.os.trans (hal.os.trans h.gr.os), hg.tape.trans (hal.tape.trans h.gr.tape), hg.output.trans (hal.output.trans h.gr.output), Nat.le_trans h.gr.size (Nat.le_trans hs hg.size), fun i hi hb => ?_⟩
  have h1 := h.gr.size
  rw [hg.block i (by omega) (fun e => by have := hrow i e.symm; omega), hal.block i (by omega) (by simp), h.gr.block i hi hb]
 ·refine ⟨Nat.le_trans h.kp.size (Nat.le_trans hs hg.size), fun g i u e => ?_⟩
  have hgl := World.block_lt_of_cell? w _ e
  have e1 := h.kp.cell g i u e
  have e2 := hal.cell e1 (by simp)
  exact hg.cell e2 (fun q => by have := hrow g q.symm; simp at hgl; omega)
def FindPost (c : Cf) (ks : List Nat) (id b : Nat) (w : World) (e : Ending) (w' : World) : Prop := e = .returned (I (rootN c id)) ∧ w.grownBy w' (some b) ∧ Keeps w w' ∧ ∃ ks', MapOf w' b c.ress.length ks' (fun k => rootN c k) ∧ id ∈ ks' ∧ (∀ k ∈ ks, k ∈ ks') ∧ ∀ k ∈ ks', k ∈ ks ∨ rootN c k = rootN c id
theorem find_any (w : World) (c : Cf) (v : Vs) (h : CfAt w c v) (hn : c.ress.length ≤ 8796093022208) (hlk : ∀ x ∈ c.ress, x.kind = 2 → isId x.link c.ress.length = true) (b : Nat) (ks : List Nat)
  (hM : MapOf w b c.ress.length ks (fun k => rootN c k)) (hpos : ∀ k ∈ ks, 0 ≤ rootN c k) (id : Nat) (hid : id < c.ress.length) :
  Calls Tryz.prog 162 #[.map (some b), .slice v.r.a v.r.n v.r.c, I id] w fun e w' => FindPost c ks id b w e w' := by
 obtain ⟨i0, hi0, hz0, hz1, hz2⟩ := info_parts Tryz.infoInt
 have hbl := hM.block
 have HN : Hid (v.r.n = c.ress.length) := h.r.n
 have HH : Hid (CfAt w c v) := h
 have HL : Hid (∀ x ∈ c.ress, x.kind = 2 → isId x.link c.ress.length = true) := hlk
 have HPS : Hid (∀ k ∈ ks, 0 ≤ rootN c k) := hpos
 have hFI0 : FI c ks id w w b (.slice none 0 0) [] id ks (fun k => rootN c k) := ⟨World.ownsRow_nil _ _ _ _, hM, grown_refl _ _, Keeps.refl _, trivial, hid, rfl, .inl ⟨rfl, rfl⟩, (fun k => by simp), (fun k hk => by cases hk), (fun k _ => rfl), by simp⟩
 have HFI0 : Hid (FI c ks id w w b (.slice none 0 0) [] id ks (fun k => rootN c k)) := hFI0
 have hid63 : id < 9223372036854775808 := by omega
 clear hFI0 h hlk hpos
 go_enter Tryz.func162, Tryz.ntmps162
 go_wp2_with (at_lookup; refine wpList_find_ok rfl _ _ 132 rfl Tryz.underlying132 b c.ress.length ks _ rfl hM id hid63 rfl ?_; intro e0 m0 HX0)
 clear hM hid63
 go_loopw [2, 7, 8, 9] (fun zv lv ev mv wq => ∃ (way : List Nat) (z : Nat) (ks1 : List Nat) (f1 : Nat → Int) (e : Int) (mt : Bool), zv = .int .i64 z ∧ ev = .int .i64 e ∧ mv = .bool mt ∧ Hid (e = (if z ∈ ks1 then f1 z else 0) ∧ mt = decide (z ∈ ks1)) ∧ Hid (FI c ks id w wq b lv way z ks1 f1)) (fun _ lv _ _ _ => c.ress.length - lenV lv)
 case atStart => exact ⟨[], id, ks, _, _, _, rfl, rfl, rfl, HX0, HFI0⟩
 case round =>
  clear HFI0
  obtain ⟨way, z, ks1, f1, e, mt, rfl, rfl, rfl, HX, HI⟩ := hrel
  cases mt with
  | true =>
   have hz : z ∈ ks1 := by simpa using HX.out.2.symm
   have he : e = f1 z := by rw [HX.out.1, if_pos hz]
   subst he
   have HE : Hid (f1 z = rootN c id ∧ (∀ k ∈ way, k < c.ress.length ∧ rootN c k = f1 z) ∧ (id ∈ ks ∨ id ∈ way)) := FI_met HI.out hz HPS.out
   have HO : Hid (_) := HI.out.own
   have HM : Hid (_) := HI.out.map
   have HG : Hid (_) := HI.out.gr
   have HP : Hid (_) := HI.out.kp
   have HA : Hid ((∀ k ∈ ks1, k ∈ ks ∨ k ∈ way) ∧ (∀ k ∈ ks, k ∈ ks1) ∧ ∀ k ∈ ks1, f1 k = rootN c k ∨ k ∈ way.drop 0) := ⟨fun k hk => (HI.out.mem k).1 hk, fun k hk => (HI.out.mem k).2 (.inl hk), fun k hk => ((HI.out.mem k).1 hk).imp (fun h => HI.out.fk k h) (fun h => by simpa using h)⟩
   have hwf : (Lit.int .i64 (f1 z)).wf = true := by rw [HE.out.1]; exact wf_root c hn _
   clear HI HX hz
   generalize hee : f1 z = ez at *
   clear hee
   obtain ⟨s, hlv, hR0⟩ := rows_ints HO.out (l := way.map fun (k : Nat) => (k : Int)) (by rw [List.map_map]; rfl) (by simp)
   subst hlv
   have hsn : Hid (s.n = way.length) := by have := hR0.n; show _ = _; simpa using this
   have hsc : s.n ≤ s.c := hR0.c
   have hsm : s.c ≤ maxLen := hR0.m
   unfold maxLen at hsm
   clear hR0
   generalize hW : way = way' at *
   clear hW
   go_wp2
   go_loopw [11, 46] (fun _ jv wr => ∃ (j : Nat) (ks2 : List Nat) (f2 : Nat → Int), j ≤ s.n ∧ jv = .int .i64 j ∧ Hid (FJ c ks id w wr b (.slice s.a s.n s.c) way' j ks2 f2)) (fun _ jv _ => s.n - (intOf jv).toNat)
   case atStart => exact ⟨0, _, _, by omega, rfl, ⟨HO.out, HM.out, HG.out, HP.out, HA.out.1, HA.out.2.1, (fun k hk => by simp at hk), HA.out.2.2⟩⟩
   case round =>
    clear HO HM HG HP HA
    obtain ⟨j, ks2, f2, hj, rfl, HJ⟩ := hrel
    by_cases hjl : j < s.n
    ·have hjl' : (j : Int) < s.n := by omega
     obtain ⟨x, hx⟩ : ∃ x, way'[j]? = some x := ⟨_, List.getElem?_eq_getElem (by rw [← hsn.out]; exact hjl)⟩
     have hxm : x ∈ way' := List.mem_of_getElem? hx
     have hxn := (HE.out.2.1 x hxm).1
     obtain ⟨g, off, eg, hg, cx⟩ := ints_at (rows_ints_at HJ.out.own (l := way'.map fun (k : Nat) => (k : Int)) (by simp) (by simp)) (j := j) (x := (x : Int)) (by rw [List.getElem?_map, hx]; rfl)
     have hm := HJ.out.map
     have HJl : Hid (FJ c ks id w wr b (.slice (some ⟨g, off, none⟩) s.n s.c) way' j ks2 f2) := by have h7 := HJ.out; rw [eg] at h7; exact h7
     rw [eg]
     clear HJ
     have HX : Hid (way'[j]? = some x) := hx
     clear hx hxm
     go_wp2_with (at_mapUpdate; refine wpList_put_at rfl _ _ _ 132 rfl Tryz.underlying132 b c.ress.length ks2 f2 rfl hm hn x hxn rfl ez hwf rfl ?_; intro w1 hm1 hg1)
     have HJ2 : Hid (FJ c ks id w w1 b (.slice (some ⟨g, off, none⟩) s.n s.c) way' (j + 1) (insK ks2 x) (setF f2 x ez)) := FJ_step HJl.out hm hm1 hg1 HX.out hbl (HE.out.2.1 x (List.mem_of_getElem? HX.out)).2
     clear hm hm1 hg1 HJl
     go_roundw
     case rel => exact ⟨j + 1, _, _, by omega, by go_num, HJ2.out⟩
     case measure => simp [intOf]; omega
    ·obtain rfl : j = s.n := by omega
     have hjl' : ¬ ((s.n : Nat) : Int) < (s.n : Nat) := by omega
     go_wp2
     go_ret
     refine ⟨ret_int HE.out.1, HJ.out.gr, HJ.out.kp, ks2, HJ.out.map.congr (fun k hk => ?_), ?_, HJ.out.kk, fun k hk => ?_⟩
     ·rcases HJ.out.ff k hk with h1 | h1
      ·exact h1
      ·rw [List.drop_eq_nil_of_le (by rw [hsn.out]; exact Nat.le_refl _)] at h1; cases h1
     ·rcases HE.out.2.2 with h1 | h1
      ·exact HJ.out.kk _ h1
      ·exact HJ.out.kw _ (by rw [List.take_of_length_le (by rw [hsn.out]; exact Nat.le_refl _)]; exact h1)
     ·rcases HJ.out.sub k hk with h1 | h1
      ·exact .inl h1
      ·exact .inr (by rw [(HE.out.2.1 k h1).2, HE.out.1])
  | false =>
   have hz : ¬ z ∈ ks1 := by simpa using HX.out.2.symm
   clear HX
   have hzn := HI.out.zn
   have hzn' : (z : Int) < v.r.n := by have := HN.out; omega
   have hlen : way.length < c.ress.length := by
    have h1 := HI.out.map.len
    have h2 := nodup_len (List.nodup_cons.2 ⟨hz, HI.out.map.nd⟩) (n := c.ress.length) (fun x hx => by rcases List.mem_cons.1 hx with rfl | hx; exact hzn; exact HI.out.map.lt x hx)
    have h3 := HI.out.ln
    rw [List.length_cons] at h2
    omega
   obtain ⟨y, hy⟩ : ∃ y, c.ress[z]? = some y := ⟨_, List.getElem?_eq_getElem hzn⟩
   have Hy : Hid (c.ress[z]? = some y) := hy
   obtain ⟨g, off, eg, hg, d0, d1, d2⟩ := rs_at HH.out hy
   have hO2 := HI.out.own.alloc (.cells #[I (z : Int)] 3)
   have hbase : w.heap.size ≤ wr.heap.size := HI.out.gr.size
   have hn47 : way.length + 1 ≤ 8796093022208 := by omega
   have Hd : Hid (w.cell? ⟨g, off + z * 3 + 1, none⟩ = some (I y.kind) ∧ w.cell? ⟨g, off + z * 3 + 2, none⟩ = some (I y.link)) := ⟨d1, d2⟩
   rw [eg]
   clear hy d0 d1 d2
   cases hk2 : y.kind == 2 with
   | false =>
    have hk2' : (y.kind != 2) = true := by simp only [bne, hk2]; rfl
    have hkn : y.kind ≠ 2 := by simpa using hk2
    go_upto_region 10 with (at_builtin; refine wpList_append_own _ rfl (.tmp 20) (.tmp 22) 64 rfl w.heap.size 3 i0 (.int .i64 0) 1 8 Tryz.underlying64 hi0 hz0 hz1 hz2 rfl (by decide) _ _ _ rfl hO2 ⟨wr.heap.size, 0, none⟩ 1 1 [I (z : Int)] rfl rfl (cell_one_new _ _ _) (by intro u hu; simp at hu; subst hu; rfl) (by unfold maxLen; omega) (by omega) (by simp; omega) ?_; intro v6 w6 ho6 hg6 _; obtain ⟨hM6, hG6, hK6⟩ := FI_app HI.out hbl hg6; have d1 := hK6.cell _ _ _ Hd.out.1; clear hg6 hO2)
    have HO : Hid (w6.ownsRow w.heap.size 3 1 v6 (way ++ [z]).length ((way ++ [z]).map fun (k : Nat) => I (k : Int))) := by
     show World.ownsRow _ _ _ _ _ _ _
     rw [List.length_append, List.map_append]
     exact ho6
    have HE : Hid ((z : Int) = rootN c id ∧ (∀ k ∈ way ++ [z], k < c.ress.length ∧ rootN c k = (z : Int)) ∧ (id ∈ ks ∨ id ∈ way ++ [z])) := FI_last HI.out Hy.out hkn
    have HM : Hid (MapOf w6 b c.ress.length ks1 f1) := hM6
    have HG : Hid (w.grownBy w6 (some b)) := hG6
    have HP : Hid (Keeps w w6) := hK6
    have HA : Hid ((∀ k ∈ ks1, k ∈ ks ∨ k ∈ way ++ [z]) ∧ (∀ k ∈ ks, k ∈ ks1) ∧ ∀ k ∈ ks1, f1 k = rootN c k ∨ k ∈ (way ++ [z]).drop 0) := ⟨fun k hk => ((HI.out.mem k).1 hk).imp (fun h => h) (fun h => by simp [h]), fun k hk => (HI.out.mem k).2 (.inl hk), fun k hk => ((HI.out.mem k).1 hk).imp (fun h => HI.out.fk k h) (fun h => by simp [h])⟩
    have hwf : (Lit.int .i64 (z : Int)).wf = true := wf_nat (by omega)
    clear HI ho6 hM6 hG6 hK6 d1 hk2 hk2' hkn hlen hn47 Hy Hd hz
    generalize hee : (z : Int) = ez at *
    clear hee
    obtain ⟨s, hlv, hR0⟩ := rows_ints HO.out (l := (way ++ [z]).map fun (k : Nat) => (k : Int)) (by rw [List.map_map]; rfl) (by simp)
    subst hlv
    have hsn : Hid (s.n = (way ++ [z]).length) := by have := hR0.n; show _ = _; simpa using this
    have hsc : s.n ≤ s.c := hR0.c
    have hsm : s.c ≤ maxLen := hR0.m
    unfold maxLen at hsm
    clear hR0
    generalize hW : (way ++ [z]) = way' at *
    clear hW
    go_wp2
    go_loopw [11, 46] (fun _ jv wr => ∃ (j : Nat) (ks2 : List Nat) (f2 : Nat → Int), j ≤ s.n ∧ jv = .int .i64 j ∧ Hid (FJ c ks id w wr b (.slice s.a s.n s.c) way' j ks2 f2)) (fun _ jv _ => s.n - (intOf jv).toNat)
    case atStart => exact ⟨0, _, _, by omega, rfl, ⟨HO.out, HM.out, HG.out, HP.out, HA.out.1, HA.out.2.1, (fun k hk => by simp at hk), HA.out.2.2⟩⟩
    case round =>
     clear HO HM HG HP HA
     obtain ⟨j, ks2, f2, hj, rfl, HJ⟩ := hrel
     by_cases hjl : j < s.n
     ·have hjl' : (j : Int) < s.n := by omega
      obtain ⟨x, hx⟩ : ∃ x, way'[j]? = some x := ⟨_, List.getElem?_eq_getElem (by rw [← hsn.out]; exact hjl)⟩
      have hxm : x ∈ way' := List.mem_of_getElem? hx
      have hxn := (HE.out.2.1 x hxm).1
      obtain ⟨g, off, eg, hg, cx⟩ := ints_at (rows_ints_at HJ.out.own (l := way'.map fun (k : Nat) => (k : Int)) (by simp) (by simp)) (j := j) (x := (x : Int)) (by rw [List.getElem?_map, hx]; rfl)
      have hm := HJ.out.map
      have HJl : Hid (FJ c ks id w wr b (.slice (some ⟨g, off, none⟩) s.n s.c) way' j ks2 f2) := by have h7 := HJ.out; rw [eg] at h7; exact h7
      rw [eg]
      clear HJ
      have HX : Hid (way'[j]? = some x) := hx
      clear hx hxm
      go_wp2_with (at_mapUpdate; refine wpList_put_at rfl _ _ _ 132 rfl Tryz.underlying132 b c.ress.length ks2 f2 rfl hm hn x hxn rfl ez hwf rfl ?_; intro w1 hm1 hg1)
      have HJ2 : Hid (FJ c ks id w w1 b (.slice (some ⟨g, off, none⟩) s.n s.c) way' (j + 1) (insK ks2 x) (setF f2 x ez)) := FJ_step HJl.out hm hm1 hg1 HX.out hbl (HE.out.2.1 x (List.mem_of_getElem? HX.out)).2
      clear hm hm1 hg1 HJl
      go_roundw
      case rel => exact ⟨j + 1, _, _, by omega, by go_num, HJ2.out⟩
      case measure => simp [intOf]; omega
     ·obtain rfl : j = s.n := by omega
      have hjl' : ¬ ((s.n : Nat) : Int) < (s.n : Nat) := by omega
      go_wp2
      go_ret
      refine ⟨ret_int HE.out.1, HJ.out.gr, HJ.out.kp, ks2, HJ.out.map.congr (fun k hk => ?_), ?_, HJ.out.kk, fun k hk => ?_⟩
      ·rcases HJ.out.ff k hk with h1 | h1
       ·exact h1
       ·rw [List.drop_eq_nil_of_le (by rw [hsn.out]; exact Nat.le_refl _)] at h1; cases h1
      ·rcases HE.out.2.2 with h1 | h1
       ·exact HJ.out.kk _ h1
       ·exact HJ.out.kw _ (by rw [List.take_of_length_le (by rw [hsn.out]; exact Nat.le_refl _)]; exact h1)
      ·rcases HJ.out.sub k hk with h1 | h1
       ·exact .inl h1
       ·exact .inr (by rw [(HE.out.2.1 k h1).2, HE.out.1])
   | true =>
    have hk2' : (y.kind != 2) = false := by simp only [bne, hk2]; rfl
    have hkn : y.kind = 2 := by simpa using hk2
    have hlq : 0 ≤ y.link ∧ y.link < c.ress.length := by simpa [isId] using HL.out y (List.mem_of_getElem? Hy.out) hkn
    obtain ⟨q, hq⟩ := Int.eq_ofNat_of_zero_le hlq.1
    have hqn : q < c.ress.length := by omega
    have hq63 : q < 9223372036854775808 := by omega
    rw [hq] at Hd
    clear hlq
    go_wp2_with (first | (at_builtin; refine wpList_append_own _ rfl (.tmp 20) (.tmp 22) 64 rfl w.heap.size 3 i0 (.int .i64 0) 1 8 Tryz.underlying64 hi0 hz0 hz1 hz2 rfl (by decide) _ _ _ rfl hO2 ⟨wr.heap.size, 0, none⟩ 1 1 [I (z : Int)] rfl rfl (cell_one_new _ _ _) (by intro u hu; simp at hu; subst hu; rfl) (by unfold maxLen; omega) (by omega) (by simp; omega) ?_; intro v6 w6 ho6 hg6 _; obtain ⟨hM6, hG6, hK6⟩ := FI_app HI.out hbl hg6; have d1 := hK6.cell _ _ _ Hd.out.1; clear hg6 hO2) | (at_mapUpdate; refine wpList_put_at rfl _ _ _ 132 rfl Tryz.underlying132 b c.ress.length ks1 f1 rfl hM6 hn z hzn rfl (-1) rfl rfl ?_; intro w7 hM7 hg7; have hK7 := hK6.trans (keeps_map hM6 hg7); have d2 := hK7.cell _ _ _ Hd.out.2) | (at_lookup; refine wpList_find_ok rfl _ _ 132 rfl Tryz.underlying132 b c.ress.length _ _ rfl hM7 q hq63 rfl ?_; intro e7 m7 HX7))
    have HI7 : Hid (FI c ks id w w7 b v6 (way ++ [z]) q (insK ks1 z) (setF f1 z (-1))) := FI_step HI.out hz Hy.out hkn hq hqn (ho6.kept hg7 (by
     cases hv : v6.ownBlock with
     | none => exact .inl rfl
     | some g => exact .inr (fun e => by have := (ho6.lt g hv).1; cases e; omega))) hM7 (grown_same hG6 hg7) hK7
    have HLV : Hid (lenV v6 = way.length + 1 ∧ lenV u7 = way.length) := ⟨own_lenV ho6, own_lenV HI.out.own⟩
    clear ho6 hM6 hG6 hK6 d1 d2 hM7 hg7 hK7 HI hz
    go_roundw
    case rel => exact ⟨_, q, _, _, _, _, rfl, rfl, rfl, HX7, HI7⟩
    case measure =>
     have e1 := HLV.out.1
     have e2 := HLV.out.2
     show c.ress.length - lenV v6 < c.ress.length - lenV _
     omega
end Go.Proofs.YtpbnpmeigdjfdaaGreatDoor.Ce
