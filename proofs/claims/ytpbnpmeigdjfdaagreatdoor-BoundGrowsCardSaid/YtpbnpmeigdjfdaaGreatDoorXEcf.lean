import Derived.Test.YtpbnpmeigdjfdaaGreatDoorXEcl
import Derived.Maps.OwnSet
import Derived.Maps.OwnOps
namespace Go.Proofs.YtpbnpmeigdjfdaaGreatDoor.Ce
open Go.Maps Go.RowKit
set_option linter.unusedSimpArgs false
set_option linter.unusedVariables false
set_option maxHeartbeats 16000000
set_option maxRecDepth 100000
theorem keyI : Keyed Tryz.prog 3 := int_keyed Tryz.underlying3
theorem zeroI (w : World) : (zeroValue 3).run Tryz.prog w = .ok (.int .i64 0) w := by kernel_rfl
theorem wf_nat {j : Nat} (h : j < 9223372036854775808) : (Lit.int .i64 (j : Int)).wf = true := WalkArith.wf_i64 (by omega)
theorem own_tight {H : Type} {w : World} {P : Program} {k : TypeId} {R : Value → Option (DataW H × List MemPlace)} {b n : Nat} {D : DataW H} (h : w.ownsMap P k R b n D) : w.ownsMap P k R b (Maps.size D) D := by
 obtain ⟨es, clock, hb, F, hs, rfl⟩ := h
 refine ⟨es, clock, hb, F, ?_, rfl⟩
 rw [Maps.size_eq, length_sorted]
 simp
structure MapOf (w : World) (b n : Nat) (ks : List Nat) (f : Nat → Int) : Prop where
 nd : ks.Nodup
 lt : ∀ k ∈ ks, k < n
 ex : ∃ D : DataW Unit, w.ownsMap Tryz.prog 3 (plainElem Tryz.prog 3) b ks.length D ∧ Maps.size D = ks.length ∧ ∀ j : Nat, Maps.has D (.int .i64 j) = decide (j ∈ ks) ∧ D.atKey (.int .i64 j) (.lit (.int .i64 0)) = .lit (.int .i64 (if j ∈ ks then f j else 0))
theorem MapOf.made (w : World) (n : Nat) (f : Nat → Int) : MapOf (w.alloc (.map #[] 0)) w.heap.size n [] f :=
 ⟨List.nodup_nil, (fun k hk => by cases hk), .map [], World.ownsMap_made _ _ _ _, rfl, fun j => ⟨by simp [Maps.has], by simp [DataW.atKey]⟩⟩
theorem MapOf.block {w : World} {b n : Nat} {ks : List Nat} {f : Nat → Int} (h : MapOf w b n ks f) : b < w.heap.size := by
 obtain ⟨D, hD, _⟩ := h.ex
 exact hD.lt
theorem MapOf.kept {w w' : World} {b n : Nat} {ks : List Nat} {f : Nat → Int} {row : Option Nat} (h : MapOf w b n ks f) (hg : w.grownBy w' row) (hne : some b ≠ row) : MapOf w' b n ks f := by
 obtain ⟨D, hD, h2⟩ := h.ex
 exact ⟨h.nd, h.lt, D, hD.kept hg hne, h2⟩
theorem MapOf.below {w w' : World} {b n : Nat} {ks : List Nat} {f : Nat → Int} (h : MapOf w b n ks f) (hb : Below w.heap.size w w') : MapOf w' b n ks f := h.kept (grown_of_below (r := none) hb) (by simp)
theorem MapOf.congr {w : World} {b n : Nat} {ks : List Nat} {f g : Nat → Int} (h : MapOf w b n ks f) (e : ∀ k ∈ ks, f k = g k) : MapOf w b n ks g := by
 obtain ⟨D, hD, hs, h2⟩ := h.ex
 refine ⟨h.nd, h.lt, D, hD, hs, fun j => ⟨(h2 j).1, ?_⟩⟩
 rw [(h2 j).2]
 by_cases hj : j ∈ ks
 ·rw [if_pos hj, if_pos hj, e j hj]
 ·rw [if_neg hj, if_neg hj]
def insK (ks : List Nat) (j : Nat) : List Nat := if j ∈ ks then ks else j :: ks
theorem mem_insK {ks : List Nat} {j i : Nat} : i ∈ insK ks j ↔ i = j ∨ i ∈ ks := by
 unfold insK
 by_cases h : j ∈ ks
 ·rw [if_pos h]
  constructor
  ·exact .inr
  ·rintro (rfl | h2)
   ·exact h
   ·exact h2
 ·rw [if_neg h, List.mem_cons]
def setF (f : Nat → Int) (j : Nat) (e : Int) (i : Nat) : Int := if i = j then e else f i
theorem MapOf.len {w : World} {b n : Nat} {ks : List Nat} {f : Nat → Int} (h : MapOf w b n ks f) : ks.length ≤ n := nodup_len h.nd h.lt
section
variable {w : World} {ops : Array Oper} {rest : List Oper} {o : Oper} {a : Act} {Q : Exit → Act → World → Prop}
theorem wpList_find_ok (hg : o.guard = none) (m x : Operand) (t : TypeId) (hop : o.op = Op.lookup t m x true) (ht : Tryz.prog.underlying t = some (.map 3 3)) (b n : Nat) (ks : List Nat) (f : Nat → Int)
  (hm : a.eval m = .map (some b)) (h : MapOf w b n ks f) (j : Nat) (hj : j < 9223372036854775808) (hx : a.eval x = .int .i64 (j : Int))
  (hK : ∀ (e : Int) (mt : Bool), Hid (e = (if j ∈ ks then f j else 0) ∧ mt = decide (j ∈ ks)) → wpList Tryz.prog ops Q rest (a.put o.dst (.tuple #[.int .i64 e, .bool mt])) w) : wpList Tryz.prog ops Q (o :: rest) a w := by
 obtain ⟨D, hD, hs, h2⟩ := h.ex
 refine wpList_lookup_own_ok_int w hg m x t hop 3 3 .i64 keyI ht Tryz.underlying3 (zeroI w) b ks.length D hm hD _ (.int .i64 (j : Int)) hx (keyOf_int_mk Tryz.underlying3 (wf_nat hj)) (fun c hat _ => ?_)
 rw [(h2 j).2] at hat
 have hc : c = if j ∈ ks then f j else 0 := by cases hat; rfl
 rw [(h2 j).1]
 exact hK c _ ⟨hc, rfl⟩
theorem wpList_put_at (hg : o.guard = none) (m x u : Operand) (t : TypeId) (hop : o.op = Op.mapUpdate t m x u) (ht : Tryz.prog.underlying t = some (.map 3 3)) (b n : Nat) (ks : List Nat) (f : Nat → Int)
  (hm : a.eval m = .map (some b)) (h : MapOf w b n ks f) (hn : n ≤ 8796093022208) (j : Nat) (hj : j < n) (hx : a.eval x = .int .i64 (j : Int)) (e : Int) (he : (Lit.int .i64 e).wf = true) (hu : a.eval u = .int .i64 e)
  (hK : ∀ w', MapOf w' b n (insK ks j) (setF f j e) → w.grownBy w' (some b) → wpList Tryz.prog ops Q rest (a.put o.dst undef) w') : wpList Tryz.prog ops Q (o :: rest) a w := by
 have hlen := h.len
 obtain ⟨D, hD, hs, h2⟩ := h.ex
 have hT := hD.tidy keyI
 have hkl : WideAt.IsKeyLit (.int .i64 (j : Int)) := trivial
 refine wpList_mapUpdate_own w hg m x u t hop 3 3 keyI ht _ b ks.length D hm hD (by unfold maxLen; omega) _ _ (.int .i64 (j : Int)) hx hu (keyOf_int_mk Tryz.underlying3 (wf_nat (by omega))) _ [] (plainElem_int Tryz.underlying3 he) (fun w' hown hgr => hK w' ?_ hgr)
 have hsz : Maps.size (D.put (.int .i64 (j : Int)) (.lit (.int .i64 e))) = (insK ks j).length := by
  rw [Maps.size_put hT, (h2 j).1, hs]
  unfold insK
  by_cases hm : j ∈ ks <;> simp [hm]
 refine ⟨?_, ?_, _, by rw [← hsz]; exact own_tight hown, hsz, fun i => ?_⟩
 ·unfold insK
  by_cases hm : j ∈ ks
  ·rw [if_pos hm]; exact h.nd
  ·rw [if_neg hm]; exact List.nodup_cons.2 ⟨hm, h.nd⟩
 ·intro k hk
  rcases mem_insK.1 hk with rfl | hk
  ·exact hj
  ·exact h.lt k hk
 ·by_cases hij : i = j
  ·subst hij
   refine ⟨by rw [Maps.has_put_same hT.isMap hkl]; simp [mem_insK], ?_⟩
   rw [Maps.atKey_put_same hT.isMap hkl, if_pos (mem_insK.2 (.inl rfl)), setF, if_pos rfl]
  ·have hne : (Lit.int .i64 (i : Int)) ≠ .int .i64 (j : Int) := fun e => by
    have : (i : Int) = j := by injection e
    omega
   refine ⟨by rw [Maps.has_put_other hne, (h2 i).1]; simp [mem_insK, hij], ?_⟩
   rw [Maps.atKey_put_other hne, (h2 i).2, setF, if_neg hij]
   by_cases hi : i ∈ ks
   ·rw [if_pos hi, if_pos (mem_insK.2 (.inr hi))]
   ·rw [if_neg hi, if_neg (fun h => (mem_insK.1 h).elim hij hi)]
end
end Go.Proofs.YtpbnpmeigdjfdaaGreatDoor.Ce
namespace Go.Proofs.YtpbnpmeigdjfdaaGreatDoor.Ce
open Go.RowKit
set_option linter.unusedSimpArgs false
set_option linter.unusedVariables false
set_option maxHeartbeats 16000000
set_option maxRecDepth 100000
structure Keeps (w w' : World) : Prop where
 size : w.heap.size ≤ w'.heap.size
 cell : ∀ g i u, w.cell? ⟨g, i, none⟩ = some u → w'.cell? ⟨g, i, none⟩ = some u
theorem Keeps.refl (w : World) : Keeps w w := ⟨Nat.le_refl _, fun _ _ _ h => h⟩
theorem Keeps.trans {a b d : World} (h : Keeps a b) (k : Keeps b d) : Keeps a d := ⟨Nat.le_trans h.size k.size, fun g i u e => k.cell g i u (h.cell g i u e)⟩
theorem Below.keeps {w w' : World} (h : Below w.heap.size w w') : Keeps w w' := ⟨h.size, fun g i u e => by rw [cell_below h g i (World.block_lt_of_cell? w _ e)]; exact e⟩
theorem keeps_map {w w' : World} {b n : Nat} {ks : List Nat} {f : Nat → Int} (h : MapOf w b n ks f) (hg : w.grownBy w' (some b)) : Keeps w w' := by
 obtain ⟨D, ⟨es, clock, hb, _⟩, _⟩ := h.ex
 refine ⟨hg.size, fun g i u e => hg.cell e (fun q => ?_)⟩
 have q2 : g = b := Option.some.inj q
 subst q2
 simp [World.cell?, hb] at e
theorem _root_.Go.Proofs.YtpbnpmeigdjfdaaGreatDoor.RowsAt.keeps {α : Type} {w w' : World} {k : Nat} {P Q : α → Nat → Value → Prop} {s : Sl} {l : List α} (h : RowsAt w k P s l) (hb : Keeps w w') (hPQ : ∀ x i u, x ∈ l → P x i u → Q x i u) : RowsAt w' k Q s l := by
 refine ⟨h.n, h.c, h.m, fun j x hj => ?_⟩
 obtain ⟨g, off, e, hg, hr⟩ := h.row j x hj
 refine ⟨g, off, e, Nat.lt_of_lt_of_le hg hb.size, fun i hi => ?_⟩
 obtain ⟨u, h1, h2⟩ := hr i hi
 exact ⟨u, hb.cell _ _ _ h1, hPQ x i u (List.mem_of_getElem? hj) h2⟩
theorem _root_.Go.Proofs.YtpbnpmeigdjfdaaGreatDoor.IntsV.keeps {w w' : World} {l : List Int} {u : Value} (h : IntsV w l u) (hb : Keeps w w') : IntsV w' l u := by
 obtain ⟨s, e, h⟩ := h
 exact ⟨s, e, h.keeps hb (fun _ _ _ _ h => h)⟩
theorem _root_.Go.Proofs.YtpbnpmeigdjfdaaGreatDoor.CfAt.keeps {w w' : World} {c : Cf} {v : Vs} (h : CfAt w c v) (hb : Keeps w w') : CfAt w' c v := by
 refine ⟨h.m.keeps hb (fun _ _ _ _ h => h), h.t.keeps hb (fun x i u _ h => ?_), h.r.keeps hb (fun _ _ _ _ h => h), h.e.keeps hb (fun _ _ _ _ h => h), h.k.keeps hb (fun _ _ _ _ h => h), h.a.keeps hb (fun x i u _ h => ?_), h.i.keeps hb (fun x i u _ h => ?_), h.s.keeps hb (fun _ _ _ _ h => h)⟩
 ·unfold tkP at h ⊢
  split at h <;> first | exact h | exact IntsV.keeps h hb
 ·unfold alP at h ⊢
  split at h <;> first | exact h | exact IntsV.keeps h hb
 ·unfold isP at h ⊢
  split at h <;> first | exact h | exact IntsV.keeps h hb
theorem rows_ints {w : World} {b n : Nat} {u : Value} {xs : List Value} {l : List Int} (h : w.ownsRow b 3 1 u n xs) (hx : xs = l.map fun x => I x) (hn : n = l.length) : ∃ s : Sl, u = .slice s.a s.n s.c ∧ RowsAt w 1 intP s l := by
 rcases h.2 with ⟨rfl, rfl⟩ | ⟨g, cap, cur, rfl, hb, hg, hc, hm, hs, ht⟩
 ·refine ⟨⟨none, 0, 0⟩, rfl, hn, Nat.le_refl _, Nat.zero_le _, fun j x hj => ?_⟩
  have := (List.getElem?_eq_some_iff.1 hj).1
  omega
 ·refine ⟨⟨some ⟨g, 0, none⟩, n, cap⟩, rfl, hn, hc, hm, fun j x hj => ⟨g, 0, rfl, (h.lt g rfl).2, fun i hi => ?_⟩⟩
  obtain rfl : i = 0 := by omega
  refine ⟨I x, ?_, rfl⟩
  have hc2 := h.cells (g := g) rfl j (I x) (by rw [hx, List.getElem?_map, hj]; rfl)
  have hadd : (⟨g, 0, none⟩ : Addr).add j = ⟨g, j, none⟩ := by unfold Addr.add; split <;> simp_all
  rw [hadd] at hc2
  rw [show 0 + j * 1 + 0 = j by omega]
  exact hc2
theorem Tryz.infoInt : (Tryz.prog.info? 3).map (fun i => (i.zero, i.size, i.bytes)) = some (some (.int .i64 0), 1, 8) := by kernel_rfl
end Go.Proofs.YtpbnpmeigdjfdaaGreatDoor.Ce
