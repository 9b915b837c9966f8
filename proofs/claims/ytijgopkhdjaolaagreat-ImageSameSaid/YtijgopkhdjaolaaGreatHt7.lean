import Derived.Test.YtijgopkhdjaolaaGreatHt6
import Derived.Deep.RegionHeldLaw
namespace Go.Proofs.YtijgopkhdjaolaaGreat
open Go.RowKit Go.Shelf Go.Sort
open Go.Proofs.YtijgopkhdjaolaaGreat.Ob (leB leV qac qam crc Rd RdAll qad)
set_option linter.unusedVariables false
set_option linter.unusedSimpArgs false
set_option maxRecDepth 100000
set_option maxHeartbeats 8000000
noncomputable def ddT (a b : Tb) : Bool := @decide (a = b) (Classical.propDecidable _)
theorem dd_t {a b : Tb} (E : a = b) : ddT a b = true := by unfold ddT; exact @decide_eq_true _ (Classical.propDecidable _) E
theorem dd_f {a b : Tb} (E : ¬ a = b) : ddT a b = false := by unfold ddT; exact @decide_eq_false _ (Classical.propDecidable _) E
theorem qpc {e : Ending} {a b : Tb} (h : Says e (a = b)) : e = .returned (.bool (ddT a b)) := by
 by_cases E : a = b
 ·rw [qag h E,dd_t E]
 ·rw [qct h E,dd_f E]
theorem qpd (a b : Tb) : ddT a b = ddT b a := by
 by_cases E : a = b
 ·rw [E]
 ·rw [dd_f E,dd_f (fun e => E e.symm)]
theorem qpe (a : Tb) : ddT a a = true := dd_t rfl
theorem imageSame_any (w : World) (ta : Tb) (va : Ts) (hA : TbAt w ta va) (hz : SzT ta) (tb : Tb) (vb : Ts) (hB : TbAt w tb vb) : Calls Tryz.prog 6 #[.agg (tbC ta va), .agg (tbC tb vb)] w fun e w' => e = .returned (.bool true) ∧ Below w.heap.size w w' := by
 have hb1 := qa0 w (tO ta va)
 have hb2 := qa0 (w.alloc (tO ta va)) (tO tb vb)
 have hv1 := heap_alloc_new w (tO ta va)
 have hv2 := heap_alloc_new (w.alloc (tO ta va)) (tO tb vb)
 have hb := belT hb1 hb2
 have HBB : Hid (Below w.heap.size w ((w.alloc (tO ta va)).alloc (tO tb vb))) := hb
 have HS0 : Hid (∀ W,Below ((w.alloc (tO ta va)).alloc (tO tb vb)).heap.size ((w.alloc (tO ta va)).alloc (tO tb vb)) W → (fun X0 X1 => (W.cell? ⟨X0,0,none⟩ = some (I ta.uses) ∧ W.cell? ⟨X0,1,none⟩ = some (I ta.modes) ∧ W.cell? ⟨X0,2,none⟩ = some (.slice va.t.a va.t.n va.t.c) ∧ W.cell? ⟨X0,3,none⟩ = some (.slice va.g.a va.g.n va.g.c) ∧ W.cell? ⟨X0,4,none⟩ = some (.slice va.r.a va.r.n va.r.c) ∧ W.cell? ⟨X0,5,none⟩ = some (.slice va.k.a va.k.n va.k.c) ∧ W.cell? ⟨X0,6,none⟩ = some (.slice va.a.a va.a.n va.a.c) ∧ W.cell? ⟨X0,7,none⟩ = some (.slice va.i.a va.i.n va.i.c) ∧ W.cell? ⟨X0,8,none⟩ = some (.slice va.s.a va.s.n va.s.c) ∧ W.cell? ⟨X0,9,none⟩ = some (I ta.depth) ∧ W.cell? ⟨X0,10,none⟩ = some (I ta.frames) ∧ W.cell? ⟨X0,11,none⟩ = some (I ta.errors) ∧ W.cell? ⟨X0,12,none⟩ = some (I ta.calls)) ∧ (W.cell? ⟨X1,0,none⟩ = some (I tb.uses) ∧ W.cell? ⟨X1,1,none⟩ = some (I tb.modes) ∧ W.cell? ⟨X1,2,none⟩ = some (.slice vb.t.a vb.t.n vb.t.c) ∧ W.cell? ⟨X1,3,none⟩ = some (.slice vb.g.a vb.g.n vb.g.c) ∧ W.cell? ⟨X1,4,none⟩ = some (.slice vb.r.a vb.r.n vb.r.c) ∧ W.cell? ⟨X1,5,none⟩ = some (.slice vb.k.a vb.k.n vb.k.c) ∧ W.cell? ⟨X1,6,none⟩ = some (.slice vb.a.a vb.a.n vb.a.c) ∧ W.cell? ⟨X1,7,none⟩ = some (.slice vb.i.a vb.i.n vb.i.c) ∧ W.cell? ⟨X1,8,none⟩ = some (.slice vb.s.a vb.s.n vb.s.c) ∧ W.cell? ⟨X1,9,none⟩ = some (I tb.depth) ∧ W.cell? ⟨X1,10,none⟩ = some (I tb.frames) ∧ W.cell? ⟨X1,11,none⟩ = some (I tb.errors) ∧ W.cell? ⟨X1,12,none⟩ = some (I tb.calls))) w.heap.size (w.heap.size + 1)) := fun W hW => by
  have q0 := (hb2.block _ (qa4 hv1)).trans hv1
  have q := (hW.block _ (qa4 q0)).trans q0
  have p := (hW.block _ (qa4 hv2)).trans hv2
  rw [qle] at p
  exact ⟨ql0 q,ql0 p⟩
 have HT : Hid (∀ W,Below ((w.alloc (tO ta va)).alloc (tO tb vb)).heap.size ((w.alloc (tO ta va)).alloc (tO tb vb)) W → TbAt W ta va ∧ TbAt W tb vb) := fun W hW => ⟨hA.below (belT hb hW),hB.below (belT hb hW)⟩
 have hSP : ∀ (W : World) (t1 t2 : Tb) (v1 v2 : Ts),TbAt W t1 v1 → TbAt W t2 v2 → Calls Tryz.prog 17 #[.agg (tbC t1 v1), .agg (tbC t2 v2)] W fun e w' => e = .returned (.bool (ddT t1 t2)) ∧ Below W.heap.size W w' := fun W t1 t2 v1 v2 h1 h2 => (qkt W t1 t2 v1 v2 h1 h2).mono fun e w' q => ⟨qpc q.1,q.2⟩
 have hSR : ∀ (W : World),TbAt W ta va → TbAt W tb vb → Calls Tryz.prog 16 #[.agg (tbC ta va), .agg (tbC tb vb)] W fun e w' => e = .returned (.bool (ddT ta tb)) ∧ Below W.heap.size W w' := fun W h1 h2 => (qk4 W ta tb va vb h1 h2).mono fun e w' q => ⟨qpc q.1,q.2⟩
 have hCp : ∀ W,TbAt W ta va → Calls Tryz.prog 20 #[.agg (tbC ta va)] W fun e w' => ∃ v',e = .returned (.agg (tbC ta v')) ∧ TbAt w' ta v' ∧ Below W.heap.size W w' := fun W h => (rcopy_any W ta va h hz).mono fun e w' ⟨v',q1,q2,q3⟩ => ⟨v',q1,q2.at,q3⟩
 have hAl := fun W => qp3 W
 have hd3 := qpe ta
 have hd2 := qpd tb ta
 obtain ⟨z,hd1⟩ : ∃ z,ddT ta tb = z := ⟨_,rfl⟩
 rw [hd1] at hd2
 have hzz : (z == z) = true := by simp
 unfold tbC at *
 clear hb1 hb2 hv1 hv2 hb hA hB hz
 go_enter Tryz.func6,Tryz.ntmps6
 go_upto_region 1 with fail
 generalize (w.alloc (.cells #[I ta.uses,I ta.modes, .slice va.t.a va.t.n va.t.c, .slice va.g.a va.g.n va.g.c, .slice va.r.a va.r.n va.r.c, .slice va.k.a va.k.n va.k.c, .slice va.a.a va.a.n va.a.c, .slice va.i.a va.i.n va.i.c, .slice va.s.a va.s.n va.s.c,I ta.depth,I ta.frames,I ta.errors,I ta.calls] 30)).alloc (.cells #[I tb.uses,I tb.modes, .slice vb.t.a vb.t.n vb.t.c, .slice vb.g.a vb.g.n vb.g.c, .slice vb.r.a vb.r.n vb.r.c, .slice vb.k.a vb.k.n vb.k.c, .slice vb.a.a vb.a.n vb.a.c, .slice vb.i.a vb.i.n vb.i.c, .slice vb.s.a vb.s.n vb.s.c,I tb.depth,I tb.frames,I tb.errors,I tb.calls] 30) = w1 at *
 generalize w.heap.size + 1 = X1 at *
 generalize hX0 : w.heap.size = X0 at *
 have HX0 : Hid (w.heap.size = X0) := hX0
 clear hX0
 have HS : Hid (∀ W,Below w1.heap.size w1 W → (W.cell? ⟨X0,0,none⟩ = some (I ta.uses) ∧ W.cell? ⟨X0,1,none⟩ = some (I ta.modes) ∧ W.cell? ⟨X0,2,none⟩ = some (.slice va.t.a va.t.n va.t.c) ∧ W.cell? ⟨X0,3,none⟩ = some (.slice va.g.a va.g.n va.g.c) ∧ W.cell? ⟨X0,4,none⟩ = some (.slice va.r.a va.r.n va.r.c) ∧ W.cell? ⟨X0,5,none⟩ = some (.slice va.k.a va.k.n va.k.c) ∧ W.cell? ⟨X0,6,none⟩ = some (.slice va.a.a va.a.n va.a.c) ∧ W.cell? ⟨X0,7,none⟩ = some (.slice va.i.a va.i.n va.i.c) ∧ W.cell? ⟨X0,8,none⟩ = some (.slice va.s.a va.s.n va.s.c) ∧ W.cell? ⟨X0,9,none⟩ = some (I ta.depth) ∧ W.cell? ⟨X0,10,none⟩ = some (I ta.frames) ∧ W.cell? ⟨X0,11,none⟩ = some (I ta.errors) ∧ W.cell? ⟨X0,12,none⟩ = some (I ta.calls)) ∧ (W.cell? ⟨X1,0,none⟩ = some (I tb.uses) ∧ W.cell? ⟨X1,1,none⟩ = some (I tb.modes) ∧ W.cell? ⟨X1,2,none⟩ = some (.slice vb.t.a vb.t.n vb.t.c) ∧ W.cell? ⟨X1,3,none⟩ = some (.slice vb.g.a vb.g.n vb.g.c) ∧ W.cell? ⟨X1,4,none⟩ = some (.slice vb.r.a vb.r.n vb.r.c) ∧ W.cell? ⟨X1,5,none⟩ = some (.slice vb.k.a vb.k.n vb.k.c) ∧ W.cell? ⟨X1,6,none⟩ = some (.slice vb.a.a vb.a.n vb.a.c) ∧ W.cell? ⟨X1,7,none⟩ = some (.slice vb.i.a vb.i.n vb.i.c) ∧ W.cell? ⟨X1,8,none⟩ = some (.slice vb.s.a vb.s.n vb.s.c) ∧ W.cell? ⟨X1,9,none⟩ = some (I tb.depth) ∧ W.cell? ⟨X1,10,none⟩ = some (I tb.frames) ∧ W.cell? ⟨X1,11,none⟩ = some (I tb.errors) ∧ W.cell? ⟨X1,12,none⟩ = some (I tb.calls))) := HS0.out
 clear HS0
 have HY := HS.out w1.drew (Below.refl w1.heap.size w1).drew
 have hbz : Below w1.heap.size w1 w1.drew := (Below.refl w1.heap.size w1).drew
 go_region_held_law (fun W => (W.cell? ⟨X0,0,none⟩ = some (I ta.uses) ∧ W.cell? ⟨X0,1,none⟩ = some (I ta.modes) ∧ W.cell? ⟨X0,2,none⟩ = some (.slice va.t.a va.t.n va.t.c) ∧ W.cell? ⟨X0,3,none⟩ = some (.slice va.g.a va.g.n va.g.c) ∧ W.cell? ⟨X0,4,none⟩ = some (.slice va.r.a va.r.n va.r.c) ∧ W.cell? ⟨X0,5,none⟩ = some (.slice va.k.a va.k.n va.k.c) ∧ W.cell? ⟨X0,6,none⟩ = some (.slice va.a.a va.a.n va.a.c) ∧ W.cell? ⟨X0,7,none⟩ = some (.slice va.i.a va.i.n va.i.c) ∧ W.cell? ⟨X0,8,none⟩ = some (.slice va.s.a va.s.n va.s.c) ∧ W.cell? ⟨X0,9,none⟩ = some (I ta.depth) ∧ W.cell? ⟨X0,10,none⟩ = some (I ta.frames) ∧ W.cell? ⟨X0,11,none⟩ = some (I ta.errors) ∧ W.cell? ⟨X0,12,none⟩ = some (I ta.calls)) ∧ (W.cell? ⟨X1,0,none⟩ = some (I tb.uses) ∧ W.cell? ⟨X1,1,none⟩ = some (I tb.modes) ∧ W.cell? ⟨X1,2,none⟩ = some (.slice vb.t.a vb.t.n vb.t.c) ∧ W.cell? ⟨X1,3,none⟩ = some (.slice vb.g.a vb.g.n vb.g.c) ∧ W.cell? ⟨X1,4,none⟩ = some (.slice vb.r.a vb.r.n vb.r.c) ∧ W.cell? ⟨X1,5,none⟩ = some (.slice vb.k.a vb.k.n vb.k.c) ∧ W.cell? ⟨X1,6,none⟩ = some (.slice vb.a.a vb.a.n vb.a.c) ∧ W.cell? ⟨X1,7,none⟩ = some (.slice vb.i.a vb.i.n vb.i.c) ∧ W.cell? ⟨X1,8,none⟩ = some (.slice vb.s.a vb.s.n vb.s.c) ∧ W.cell? ⟨X1,9,none⟩ = some (I tb.depth) ∧ W.cell? ⟨X1,10,none⟩ = some (I tb.frames) ∧ W.cell? ⟨X1,11,none⟩ = some (I tb.errors) ∧ W.cell? ⟨X1,12,none⟩ = some (I tb.calls))) (first | exact HY | exact HS.out _ (by repeat' (first | exact hbz | apply Below.drew | apply belA)) | (go_keep; done)) (first
  | (go_at_call 16; refine (hSR _ (HT.out _ hbz).1 (HT.out _ hbz).2).mono ?_; rintro e wr ⟨rfl,br⟩; have hbz := belT hbz br; have HY := HS.out _ hbz; clear br)
  | (go_at_call 20; refine (hCp _ (HT.out _ hbz).1).mono ?_; rintro e wc ⟨v3,rfl,hT3,bc⟩; have hbz := belT hbz bc; have HY := HS.out _ hbz; clear bc)
  | (go_at_call 17; refine (hSP _ _ _ _ _ (by first | exact (HT.out _ hbz).1 | exact (HT.out _ hbz).2) (by first | exact hT3 | exact (HT.out _ hbz).1 | exact (HT.out _ hbz).2)).mono ?_; rintro e ws ⟨rfl,bs⟩; have hbz := belT hbz bs; have HY := HS.out _ hbz; clear bs)
  | (go_at_call 12; refine (hAl _).mono ?_; rintro e wl ⟨rfl,bl⟩; have hbz := belT hbz bl; have HY := HS.out _ hbz; clear bl))
 go_wp2
 go_ret
 have hB0 := HBB.out
 rw [← HX0.out] at hB0
 exact ⟨rfl,belT hB0 hbz⟩
end Go.Proofs.YtijgopkhdjaolaaGreat
