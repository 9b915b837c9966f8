import Derived.Test.YtpbnpmeigdjfdaaGreatDoorXEcy
import Derived.Lib.QuietBelow
import Derived.Maps.AppendAt
namespace Go.Proofs.YtpbnpmeigdjfdaaGreatDoor.Ce
open Go.Maps Go.RowKit
set_option linter.unusedSimpArgs false
set_option linter.unusedVariables false
set_option maxHeartbeats 16000000
set_option maxRecDepth 100000
theorem ceilings_any (w : World) (c : Cf) (v : Vs) (h : CfAt w c v) (hn : c.ress.length ≤ 8796093022208) (hmt : meetB c = true) (hends : endsB c = true) (b : Nat) (hE : EndsAt w b c) :
  Calls Tryz.prog 59 #[.agg (cfC c v), .map (some b)] w fun e w' => OwnI w (ceilL c) e w' := by
 have hmm := @run_makeMap Tryz.prog
 obtain ⟨i0, hi0, hz0, hz1, hz2⟩ := info_parts Tryz.infoInt
 have hi18 : (Tryz.prog.info? 33).map (·.size) = some (cfC c v).size := by rw [show (cfC c v).size = 18 from rfl]; kernel_rfl
 have HN : Hid (v.r.n = c.ress.length) := h.r.n
 have hn2 : v.r.n ≤ 8796093022208 := by have := h.r.n; omega
 have w2s : ((w.alloc (.cells (cfC c v) 33)).alloc (.cells #[.map (some b)] 132)).heap.size = w.heap.size + 2 := by simp
 have q3 : BoxC ((((w.alloc (.cells (cfC c v) 33)).alloc (.cells #[.map (some b)] 132)).alloc (.map #[] 0)).alloc (.cells #[.map (some (w.heap.size + 2))] 178)) w.heap.size c v := heap_over _ _ (heap_over _ _ (heap_two0 w _ _))
 have q2 : BoxM ((((w.alloc (.cells (cfC c v) 33)).alloc (.cells #[.map (some b)] 132)).alloc (.map #[] 0)).alloc (.cells #[.map (some (w.heap.size + 2))] 178)) (w.heap.size + 1) b 132 := heap_over _ _ (heap_over _ _ (heap_two w _ _))
 have q1 : BoxM ((((w.alloc (.cells (cfC c v) 33)).alloc (.cells #[.map (some b)] 132)).alloc (.map #[] 0)).alloc (.cells #[.map (some (w.heap.size + 2))] 178)) (w.heap.size + 3) (w.heap.size + 2) 178 := by
  have := heap_alloc_new (((w.alloc (.cells (cfC c v) 33)).alloc (.cells #[.map (some b)] 132)).alloc (.map #[] 0)) (.cells #[.map (some (w.heap.size + 2))] 178)
  simp only [World.size_alloc] at this
  exact this
 have q4 : MapT ((((w.alloc (.cells (cfC c v) 33)).alloc (.cells #[.map (some b)] 132)).alloc (.map #[] 0)).alloc (.cells #[.map (some (w.heap.size + 2))] 178)) (w.heap.size + 2) c.ress.length [] (fun _ => none) := by
  have := (MapT.made ((w.alloc (.cells (cfC c v) 33)).alloc (.cells #[.map (some b)] 132)) c.ress.length).below (below_alloc _ (.cells #[.map (some (w.heap.size + 2))] 178))
  rw [w2s] at this
  exact this
 have hb4 : Below w.heap.size w ((((w.alloc (.cells (cfC c v) 33)).alloc (.cells #[.map (some b)] 132)).alloc (.map #[] 0)).alloc (.cells #[.map (some (w.heap.size + 2))] 178)) := ((((Below.refl w.heap.size w).alloc (Nat.le_refl _) _).alloc (by simp) _).alloc (by simp; omega) _).alloc (by simp; omega) _
 have hs4 : ((((w.alloc (.cells (cfC c v) 33)).alloc (.cells #[.map (some b)] 132)).alloc (.map #[] 0)).alloc (.cells #[.map (some (w.heap.size + 2))] 178)).heap.size = w.heap.size + 4 := by simp
 have ke := users_tops w c v h hn hmt hends b hE _ hs4 hb4 q1 q2 q3 q4
 have hV4 : ((((w.alloc (.cells (cfC c v) 33)).alloc (.cells #[.map (some b)] 132)).alloc (.map #[] 0)).alloc (.cells #[.map (some (w.heap.size + 2))] 178)).heap[w.heap.size]? = some (.cells (cfC c v) 33 (0, 0)) := q3
 have hcv : ∀ W : World, BoxC W w.heap.size c v → W.cell? ⟨w.heap.size, 12, none⟩ = some (.slice v.r.a v.r.n v.r.c) := fun W hW => by
  obtain ⟨_, h10, h11, h12, h13, h14, h15, h16, h17⟩ := var18_all hW
  exact h12
 have HCV : Hid (∀ W : World, BoxC W w.heap.size c v → W.cell? ⟨w.heap.size, 12, none⟩ = some (.slice v.r.a v.r.n v.r.c)) := hcv
 have HEN : Hid (endsB c = true) := hends
 generalize hCC : cfC c v = C at *
 clear q1 q2 q3 q4 hb4 hs4 w2s hcv hE hends hmt h
 go_enter Tryz.func59, Tryz.ntmps59
 go_upto_region 3 with (first | (refine wpList_load_row rfl 33 _ rfl w.heap.size rfl 33 _ (0, 0) _ hV4 Tryz.underlying33 rfl hi18 ?_) | (go_at_call 103; refine ke.mono ?_; clear ke; rintro e w5 ⟨rfl, hI⟩))
 obtain ⟨k1, k2, k3, k4, k5, ks, k6⟩ := hI
 have y12 := HCV.out _ k3
 have H5 : Hid (BoxM w5 (w.heap.size + 3) (w.heap.size + 2) 178 ∧ BoxM w5 (w.heap.size + 1) b 132 ∧ EndsAt w5 b c ∧ Below w.heap.size w w5 ∧ MapT w5 (w.heap.size + 2) c.ress.length ks (topI c c.isrs.length)) := ⟨k1, k2, k4, k5, k6⟩
 have hws := k5.size
 clear hmm hV4 k1 k2 k3 k4 k5 k6 HCV
 go_wp2_with (refine wpList_make_full _ rfl _ _ 64 rfl w.heap.size 3 i0 (.int .i64 0) 1 Tryz.underlying64 hi0 hz0 hz1 .i64 .i64 _ _ v.r.n rfl rfl rfl rfl (by rw [hz2]; omega) (by unfold maxLen; omega) hws ?_; intro w6 hO6 hg6)
 have HB6 : Hid (Below w5.heap.size w5 w6) := below_none hg6
 have HO6 : Hid (w6.ownsRow w.heap.size 3 1 (.slice (some ⟨w5.heap.size, 0, none⟩) v.r.n v.r.n) v.r.n (rowJ c 0)) := by
  rw [rowJ_zero, ← HN.out]
  have := hO6
  rw [show (Value.int .i64 0).cells = #[.int .i64 0] from rfl, Nat.mul_one, toList_madeCells_one] at this
  exact this
 clear hO6 hg6 y12
 go_loopw [7, 18] (fun _ iv wr => ∃ j : Nat, j ≤ v.r.n ∧ iv = .int .i64 j ∧ Hid (wr.ownsRow w.heap.size 3 1 (.slice (some ⟨w5.heap.size, 0, none⟩) v.r.n v.r.n) v.r.n (rowJ c j) ∧ Below w5.heap.size w5 wr)) (fun _ iv _ => v.r.n - (intOf iv).toNat)
 case atStart => exact ⟨0, by omega, rfl, HO6.out, HB6.out⟩
 case round =>
  clear HB6 HO6
  obtain ⟨j, hj, rfl, HJ⟩ := hrel
  obtain ⟨hO, hB⟩ := HJ.out
  by_cases hlt : j < v.r.n
  ·have hlt' : (j : Int) < v.r.n := by omega
   have hjn : j < c.ress.length := by rw [← HN.out]; exact hlt
   obtain ⟨p1, p2, p3, p4, p5⟩ := H5.out
   have y1 : wr.cell? ⟨w.heap.size + 3, 0, none⟩ = some (.map (some (w.heap.size + 2))) := BoxM.cell ((hB.block _ (heap_lt p1)).trans p1)
   have y2 : wr.cell? ⟨w.heap.size + 1, 0, none⟩ = some (.map (some b)) := BoxM.cell ((hB.block _ (heap_lt p2)).trans p2)
   have hE := p3.below hB
   have hM := p5.below hB
   have hr0 := endsB_at HEN.out hjn
   have hrl := rootF_lt c c.ress.length (j : Int)
   obtain ⟨q, hq⟩ := Int.eq_ofNat_of_zero_le hr0
   have hq63 : q < 9223372036854775808 := by have : rootN c (j : Int) < c.ress.length := hrl; omega
   have Hq : Hid (rootN c (j : Int) = (q : Int)) := hq
   have kt := told_any wr (topI c c.isrs.length q)
   have HT : Hid (toldI (topI c c.isrs.length q) = ceilE c j) := by show _ = _; unfold ceilE; rw [hq]; rfl
   obtain ⟨ce, hce⟩ : ∃ ce, ce = ceilE c j := ⟨_, rfl⟩
   rw [HT.out, ← hce] at kt
   have Hce : Hid (ce = ceilE c j) := hce
   clear hce HT
   have hin : j < v.r.n * 1 := by omega
   have HF : Hid (∀ w2, Below wr.heap.size wr w2 → w2.ownsRow w.heap.size 3 1 (.slice (some ⟨w5.heap.size, 0, none⟩) v.r.n v.r.n) v.r.n (rowJ c j) ∧ Below w5.heap.size w5 w2 ∧ ∃ u, w2.cell? ⟨w5.heap.size, j, none⟩ = some u) := fun w2 h2 => by
    have o2 := own_below hO h2
    refine ⟨o2, hB.trans (h2.mono hB.size), ?_⟩
    rw [o2.cellAt j hin]
    exact ⟨_, List.getElem?_eq_getElem (by unfold rowJ; simpa using hjn)⟩
   clear HJ p1 p2 p3 p4 p5 hr0 hrl hq hO hB hin
   go_wp2_with (first | (at_lookup; refine wpList_find_g _ _ 132 rfl Tryz.underlying132 b c rfl hE hn j hjn rfl (by kernel_rfl) ?_; intro e7 HX7; have h7 := HX7.out; rw [Hq.out] at h7; subst h7) | (at_lookup; refine wpList_top_at rfl _ _ 178 rfl Tryz.underlying178 (w.heap.size + 2) c.ress.length ks _ rfl hM q hq63 rfl ?_) | (go_at_call 106; refine kt.mono ?_; clear kt; rintro e w2 ⟨rfl, hb2⟩; obtain ⟨hO2, hB2, u2, z2⟩ := HF.out _ hb2; have fz := hO2.frozenAt j; have HO2 : Hid (w2.ownsRow w.heap.size 3 1 (.slice (some ⟨w5.heap.size, 0, none⟩) v.r.n v.r.n) v.r.n (rowJ c j)) := hO2; have HB2 : Hid (Below w5.heap.size w5 w2) := hB2; clear hb2 hO2 hB2))
   have HJ2 : Hid ((w2.setCell ⟨w5.heap.size, j, none⟩ (I ce)).ownsRow w.heap.size 3 1 (.slice (some ⟨w5.heap.size, 0, none⟩) v.r.n v.r.n) v.r.n (rowJ c (j + 1)) ∧ Below w5.heap.size w5 (w2.setCell ⟨w5.heap.size, j, none⟩ (I ce))) := by
    have st := HO2.out.stored j (I ce)
    refine ⟨?_, HB2.out.grown st.2 HB2.out.size (fun k e => by cases e; exact Nat.le_refl _)⟩
    rw [← rowJ_set, ← Hce.out]
    exact st.1
   go_roundw
   case rel => exact ⟨j + 1, by omega, by go_num, HJ2.out⟩
   case measure => simp [intOf]; omega
  ·obtain rfl : j = v.r.n := by omega
   have hlt' : ¬ ((v.r.n : Nat) : Int) < (v.r.n : Nat) := by omega
   have HO9 : Hid (wr.ownsRow w.heap.size 3 1 (.slice (some ⟨w5.heap.size, 0, none⟩) v.r.n v.r.n) (ceilL c).length ((ceilL c).map fun x => I x)) := by
    have := hO
    rw [show rowJ c v.r.n = rowJ c c.ress.length by rw [HN.out], rowJ_end] at this
    rw [show (ceilL c).length = v.r.n by unfold ceilL; rw [List.length_map, List.length_range, HN.out]]
    exact this
   have HB9 : Hid (Below w.heap.size w wr) := H5.out.2.2.2.1.trans (hB.mono hws)
   clear hO hB HJ
   go_wp2
   go_ret
   exact ⟨_, rfl, HO9.out, HB9.out⟩
end Go.Proofs.YtpbnpmeigdjfdaaGreatDoor.Ce
namespace Go.Proofs.YtpbnpmeigdjfdaaGreatDoor.Ce
open Go.RowKit Go.Sort
set_option linter.unusedSimpArgs false
set_option linter.unusedVariables false
set_option maxHeartbeats 16000000
set_option maxRecDepth 100000
theorem wpQuiet_load_row {P : Program} {ops : Array Oper} {C : World → Prop} {Q : Act → Prop} {a : Act} {o : Oper} {rest : List Oper} (hgd : Region.wanted o (yielded ops a.tmps) = true) (ty : TypeId) (x : Operand) (ho : o.op = .load ty x)
  (g : Nat) (hx : a.eval x = .pointer (some ⟨g, 0, none⟩)) (t : TypeId) (cs : Array Value) (fr : Nat × Nat) (d : TypeDesc) (hg : ∀ w, C w → w.heap[g]? = some (.cells cs t fr))
  (hu : P.underlying ty = some d) (hd : (match d with | .struct _ | .array _ _ => true | _ => false) = true) (hi : (P.info? ty).map (·.size) = some cs.size)
  (h : wpQuiet P ops C Q rest (a.put o.dst (.agg cs))) : wpQuiet P ops C Q (o :: rest) a := by
 unfold wpQuiet
 rw [if_pos hgd]
 refine ⟨.agg cs, fun w hw => ?_, h⟩
 unfold Oper.quietAt execOp
 simp only [ho, hx, Instr.loadAt, Instr.sureAddr, Sem.run_bind, Sem.run_pure, Result.andThen_ok, run_loadVar_row w g t ty cs fr d (hg w hw) hu hd hi]
 exact ⟨rfl, rfl⟩
theorem heap_regrown {w : World} {g : Nat} {o : Obj} (h : w.heap[g]? = some o) : ∀ w', (∃ p : Regrown, w' = grow (redrawn w p.d) p.os) → w'.heap[g]? = some o := by
 rintro w' ⟨p, rfl⟩
 exact ((below_regrown w p.d p.os).block g (heap_lt h)).trans h
theorem own_mono {w : World} {base base' : Nat} {e : TypeId} {size : Nat} {v : Value} {n : Nat} {xs : List Value} (h : w.ownsRow base e size v n xs) (hb : base' ≤ base) : w.ownsRow base' e size v n xs :=
 ⟨h.1, h.2.imp id (fun ⟨g, cap, cur, he, h1, h2⟩ => ⟨g, cap, cur, he, Nat.le_trans hb h1, h2⟩)⟩
theorem look_lk {c : Cf} (h : lookE c = 0) : meetB c = true ∧ lkB c = true ∧ endsB c = true := by
 unfold lookE at h
 cases h1 : meetB c with
 | false => rw [h1] at h; simp at h
 | true =>
  cases h2 : lkB c with
  | false => rw [h1, h2] at h; simp at h
  | true =>
   cases h3 : endsB c with
   | false => rw [h1, h2, h3] at h; simp at h
   | true => exact ⟨rfl, rfl, rfl⟩
end Go.Proofs.YtpbnpmeigdjfdaaGreatDoor.Ce
namespace Go.Proofs.YtpbnpmeigdjfdaaGreatDoor.Ce
open Go.Maps Go.RowKit Go.Sort
set_option linter.unusedSimpArgs false
set_option linter.unusedVariables false
set_option maxHeartbeats 16000000
set_option maxRecDepth 100000
theorem LookP.mono {c : Cf} {R : Int} {w w1 w' : World} {e : Ending} (h : LookP c R w1 e w') (hb : Below w.heap.size w w1) : LookP c R w e w' :=
 ⟨hb.trans (h.1.mono hb.size), h.2.imp (fun ⟨a, b, he, hl, hE⟩ => ⟨a, b, he, Nat.le_trans hb.size hl, hE⟩) id⟩
theorem LookP.got {c : Cf} {R : Int} {w w' : World} {e : Ending} (h : LookP c R w e w') (hR : R = 0) : ∃ b, e = .returned (.tuple #[.map (some b), I 0]) ∧ w.heap.size ≤ b ∧ EndsAt w' b c := by
 rcases h.2 with ⟨_, h⟩ | ⟨h, _⟩
 ·exact h
 ·exact absurd hR h
theorem LookP.not {c : Cf} {R : Int} {w w' : World} {e : Ending} (h : LookP c R w e w') (hR : R ≠ 0) : e = .returned (.tuple #[.map none, I R]) := by
 rcases h.2 with ⟨h, _⟩ | ⟨_, h⟩
 ·exact absurd h hR
 ·exact h
end Go.Proofs.YtpbnpmeigdjfdaaGreatDoor.Ce
namespace Go.Proofs.YtpbnpmeigdjfdaaGreatDoor.Ce
open Go.RowKit Go.Sort
set_option linter.unusedSimpArgs false
set_option linter.unusedVariables false
set_option maxHeartbeats 16000000
set_option maxRecDepth 100000
structure Ce where
 res : List Int
 sch : Int
 run : List Int
 tks : List Int
 isr : List Int
def ceC (k : Int) (s0 s2 s3 s4 : Sl) : Array Value := #[.slice s0.a s0.n s0.c, I k, .slice s2.a s2.n s2.c, .slice s3.a s3.n s3.c, .slice s4.a s4.n s4.c]
end Go.Proofs.YtpbnpmeigdjfdaaGreatDoor.Ce
namespace Go.Proofs.YtpbnpmeigdjfdaaGreatDoor.Ce
open Go.Maps Go.RowKit
set_option linter.unusedSimpArgs false
set_option linter.unusedVariables false
set_option maxHeartbeats 16000000
set_option maxRecDepth 100000
def BoxS (w : World) (b : Nat) (u : Value) : Prop := w.heap[b]? = some (.cells #[u] 64 (0, 0))
structure Two (w : World) (base b1 b2 : Nat) (u1 u2 : Value) (l1 l2 : List Int) : Prop where
 x1 : BoxS w b1 u1
 x2 : BoxS w b2 u2
 o1 : w.ownsRow base 3 1 u1 l1.length (l1.map fun x => I x)
 o2 : w.ownsRow base 3 1 u2 l2.length (l2.map fun x => I x)
 ap : ∀ g, u1.ownBlock = some g → u2.ownBlock ≠ some g
 n1 : b1 < base
 n2 : b2 < base
 ne : b1 ≠ b2
 sz : base ≤ w.heap.size
theorem Two.swap {w : World} {base b1 b2 : Nat} {u1 u2 : Value} {l1 l2 : List Int} (h : Two w base b1 b2 u1 u2 l1 l2) : Two w base b2 b1 u2 u1 l2 l1 :=
 ⟨h.x2, h.x1, h.o2, h.o1, fun g h2 h1 => h.ap g h1 h2, h.n2, h.n1, h.ne.symm, h.sz⟩
theorem Two.below {w w' : World} {base b1 b2 : Nat} {u1 u2 : Value} {l1 l2 : List Int} (h : Two w base b1 b2 u1 u2 l1 l2) (hb : Below w.heap.size w w') : Two w' base b1 b2 u1 u2 l1 l2 :=
 ⟨(hb.block _ (heap_lt h.x1)).trans h.x1, (hb.block _ (heap_lt h.x2)).trans h.x2, own_below h.o1 hb, own_below h.o2 hb, h.ap, h.n1, h.n2, h.ne, Nat.le_trans h.sz hb.size⟩
structure Fr2 (base b1 b2 : Nat) (w w' : World) : Prop where
 os : w'.os = w.os
 tape : w'.tape = w.tape
 output : w'.output = w.output
 size : w.heap.size ≤ w'.heap.size
 block : ∀ k, k < base → k ≠ b1 → k ≠ b2 → w'.heap[k]? = w.heap[k]?
theorem Fr2.swap {base b1 b2 : Nat} {w w' : World} (h : Fr2 base b1 b2 w w') : Fr2 base b2 b1 w w' := ⟨h.os, h.tape, h.output, h.size, fun k a b c => h.block k a c b⟩
theorem Fr2.of {base b1 b2 : Nat} {w w' w'' : World} (h : Below w.heap.size w w') (hs : base ≤ w.heap.size) (k : Fr2 base b1 b2 w' w'') : Fr2 base b1 b2 w w'' :=
 ⟨k.os.trans h.os, k.tape.trans h.tape, k.output.trans h.output, Nat.le_trans h.size k.size, fun g a b c => (k.block g a b c).trans (h.block g (by omega))⟩
theorem Fr2.below {base b1 b2 n : Nat} {w w' : World} (h : Fr2 base b1 b2 w w') (h0 : n ≤ base) (h1 : n ≤ b1) (h2 : n ≤ b2) : Below n w w' :=
 ⟨h.os, h.tape, h.output, h.size, fun k hk => h.block k (by omega) (by omega) (by omega)⟩
theorem two_app {w w6 : World} {base b1 b2 : Nat} {u1 u2 v6 : Value} {l1 l2 : List Int} (h : Two w base b1 b2 u1 u2 l1 l2) (o : Obj) (x : Int)
  (ho : w6.ownsRow base 3 1 v6 (l1.length + 1) (l1.map (fun x => I x) ++ [I x])) (hg : (w.alloc o).grownBy w6 u1.ownBlock) (hw : v6.ownBlock = u1.ownBlock ∨ v6.ownBlock = some (w.heap.size + 1)) :
  (BoxS w6 b1 u1) ∧ Two (w6.setCell ⟨b1, 0, none⟩ v6) base b1 b2 v6 u2 (l1 ++ [x]) l2 ∧ Fr2 base b1 b2 w (w6.setCell ⟨b1, 0, none⟩ v6) := by
 have hsz : (w.alloc o).heap.size = w.heap.size + 1 := by simp
 have hb1 : (some b1 : Option Nat) ≠ u1.ownBlock := fun e => by have := (h.o1.lt b1 e.symm).1; have := h.n1; omega
 have hb2 : (some b2 : Option Nat) ≠ u1.ownBlock := fun e => by have := (h.o1.lt b2 e.symm).1; have := h.n2; omega
 have x1 : BoxS w6 b1 u1 := heap_kept (heap_over w o h.x1) hg hb1
 have x2 : BoxS w6 b2 u2 := heap_kept (heap_over w o h.x2) hg hb2
 have gs := grown_set w6 b1 0 v6
 have o2 : w6.ownsRow base 3 1 u2 l2.length (l2.map fun x => I x) := by
  refine (h.o2.alloc o).kept hg ?_
  cases hu : u2.ownBlock with
  | none => exact .inl rfl
  | some g => exact .inr (fun e => h.ap g e.symm hu)
 have n6 : v6.ownBlock = none ∨ v6.ownBlock ≠ some b1 := .inr (fun e => by have := (ho.lt b1 e).1; have := h.n1; omega)
 have n2 : u2.ownBlock = none ∨ u2.ownBlock ≠ some b1 := .inr (fun e => by have := (o2.lt b1 e).1; have := h.n1; omega)
 refine ⟨x1, ⟨heap_setCell_same w6 b1 0 _ _ v6 x1, heap_kept x2 gs (fun e => h.ne (Option.some.inj e).symm), ?_, o2.kept gs n2, ?_, h.n1, h.n2, h.ne, ?_⟩, ?_⟩
 ·have := ho.kept gs n6
  rw [List.length_append, List.map_append]
  exact this
 ·intro g h6 h2
  rcases hw with hw | hw
  ·exact h.ap g (hw.symm.trans h6) h2
  ·have := (h.o2.lt g h2).2
   rw [hw] at h6
   have := Option.some.inj h6
   omega
 ·exact Nat.le_trans h.sz (Nat.le_trans (by omega) (Nat.le_trans hg.size gs.size))
 ·refine ⟨gs.os.trans hg.os, gs.tape.trans hg.tape, gs.output.trans hg.output, Nat.le_trans (by omega) (Nat.le_trans hg.size gs.size), fun k hk hk1 hk2 => ?_⟩
  have hkw : k < w.heap.size := by have := h.sz; omega
  have hk6 : (some k : Option Nat) ≠ u1.ownBlock := fun e => by have := (h.o1.lt k e.symm).1; omega
  rw [gs.block k (by have := hg.size; omega) (fun e => hk1 (Option.some.inj e)), hg.block k (by omega) hk6]
  exact (below_alloc w o).block k hkw
end Go.Proofs.YtpbnpmeigdjfdaaGreatDoor.Ce
