import Derived.Test.YtmidaeljeoifdaaGreatDoorEel
namespace Go.Proofs.YtmidaeljeoifdaaGreatDoor.Ce
set_option maxRecDepth 100000
set_option maxHeartbeats 16000000
open Go.RowKit Go.Maps
set_option linter.unusedVariables false
set_option linter.unusedSimpArgs false
theorem res_two {fn : Func} {n m : Nat} (hf : fn.results = #[.cell n 54, .cell m 54]) (tmps : Array Value) (b d : Nat) (w : World) (s t : Sl)
  (h2 : tmps[n]? = some (.pointer (some ⟨b, 0, none⟩))) (h3 : tmps[m]? = some (.pointer (some ⟨d, 0, none⟩))) (hk : w.cell? ⟨b, 0, none⟩ = some (.slice s.a s.n s.c)) (hl : w.cell? ⟨d, 0, none⟩ = some (.slice t.a t.n t.c)) :
  (results fn tmps).run Tryz.prog w = .ok (.tuple #[.slice s.a s.n s.c, .slice t.a t.n t.c]) w := by
 simp [results, hf, go_sem, h2, h3, hk, hl]
def OwnB (w : World) (l m : List Int) (e : Ending) (w' : World) : Prop := ∃ u1 u2, e = .returned (.tuple #[u1, u2]) ∧ w'.ownsRow w.heap.size 3 1 u1 l.length (l.map fun x => I x) ∧ w'.ownsRow w.heap.size 3 1 u2 m.length (m.map fun x => I x) ∧ (∀ g, u1.ownBlock = some g → u2.ownBlock ≠ some g) ∧ Below w.heap.size w w'
theorem two_again {w w1 : World} {si st : Sl} {LI LT : List Int} (h : TwoN w1 (w.heap.size + 4) (w.heap.size + 2) (w.heap.size + 1) (.slice si.a si.n si.c) (.slice st.a st.n st.c) LI LT ∧ Below w.heap.size w w1) :
  TwoN ((w1.setCell ⟨w.heap.size + 1, 0, none⟩ (.slice st.a st.n st.c)).setCell ⟨w.heap.size + 1 + 1, 0, none⟩ (.slice si.a si.n si.c)).drew (w.heap.size + 4) (w.heap.size + 1 + 1) (w.heap.size + 1) (.slice si.a si.n si.c) (.slice st.a st.n st.c) LI LT ∧ Below w.heap.size w ((w1.setCell ⟨w.heap.size + 1, 0, none⟩ (.slice st.a st.n st.c)).setCell ⟨w.heap.size + 1 + 1, 0, none⟩ (.slice si.a si.n si.c)).drew := by
 obtain ⟨h, hb⟩ := h
 have g1 := grown_set w1 (w.heap.size + 1) 0 (.slice st.a st.n st.c)
 have a2 : BoxS (w1.setCell ⟨w.heap.size + 1, 0, none⟩ (.slice st.a st.n st.c)) (w.heap.size + 1) (.slice st.a st.n st.c) := heap_setCell_same w1 _ 0 _ _ _ h.x2
 have a1 : BoxS (w1.setCell ⟨w.heap.size + 1, 0, none⟩ (.slice st.a st.n st.c)) (w.heap.size + 1 + 1) (.slice si.a si.n si.c) := heap_kept h.x1 g1 (fun e => by have := Option.some.inj e; omega)
 have o1 := h.o1.kept g1 (.inr (fun e => by have := (h.o1.lt _ e).1; omega))
 have o2 := h.o2.kept g1 (.inr (fun e => by have := (h.o2.lt _ e).1; omega))
 have b1 := hb.grown g1 hb.size (fun k e => by cases e; omega)
 generalize w1.setCell ⟨w.heap.size + 1, 0, none⟩ (.slice st.a st.n st.c) = w2 at *
 have g2 := grown_set w2 (w.heap.size + 1 + 1) 0 (.slice si.a si.n si.c)
 have c1 : BoxS (w2.setCell ⟨w.heap.size + 1 + 1, 0, none⟩ (.slice si.a si.n si.c)) (w.heap.size + 1 + 1) (.slice si.a si.n si.c) := heap_setCell_same w2 _ 0 _ _ _ a1
 have c2 : BoxS (w2.setCell ⟨w.heap.size + 1 + 1, 0, none⟩ (.slice si.a si.n si.c)) (w.heap.size + 1) (.slice st.a st.n st.c) := heap_kept a2 g2 (fun e => by have := Option.some.inj e; omega)
 have p1 := o1.kept g2 (.inr (fun e => by have := (o1.lt _ e).1; omega))
 have p2 := o2.kept g2 (.inr (fun e => by have := (o2.lt _ e).1; omega))
 have b2 := b1.grown g2 b1.size (fun k e => by cases e; omega)
 exact ⟨⟨c1, c2, p1.drew, p2.drew, h.ap⟩, ⟨b2.os, b2.tape, b2.output, b2.size, b2.block⟩⟩
theorem counts_any (w : World) (c : Cf) (v : Vs) (h : CfAt w c v) (hn : c.ress.length ≤ 8796093022208) (hnt : c.tasks.length ≤ 8796093022208) (hni : c.isrs.length ≤ 8796093022208) (hm : meetB c = true) :
  Calls Tryz.prog 82 #[.agg (cfC c v)] w fun e w' => OwnB w (cntT c c.tasks.length) (cntI c c.isrs.length) e w' := by
 have hi18 : (Tryz.prog.info? 47).map (·.size) = some (cfC c v).size := by rw [show (cfC c v).size = 18 from rfl]; kernel_rfl
 have hb3 : Below w.heap.size w (((w.alloc (.cells (cfC c v) 47)).alloc (.cells #[.slice none 0 0] 54)).alloc (.cells #[.slice none 0 0] 54)) := (((Below.refl w.heap.size w).alloc (Nat.le_refl _) _).alloc (by simp) _).alloc (by simp; omega) _
 have hs3 : (((w.alloc (.cells (cfC c v) 47)).alloc (.cells #[.slice none 0 0] 54)).alloc (.cells #[.slice none 0 0] 54)).heap.size = w.heap.size + 3 := by simp
 have hc3 := heap_over _ (.cells #[.slice none 0 0] 54) (heap_two0 w (.cells (cfC c v) 47) (.cells #[.slice none 0 0] 54))
 have ht3 := heap_over _ (.cells #[.slice none 0 0] 54) (heap_two w (.cells (cfC c v) 47) (.cells #[.slice none 0 0] 54))
 have hi3 := heap_two (w.alloc (.cells (cfC c v) 47)) (.cells #[.slice none 0 0] 54) (.cells #[.slice none 0 0] 54)
 rw [show (w.alloc (.cells (cfC c v) 47)).heap.size + 1 = w.heap.size + 2 by simp] at hi3
 have ke := counts_users w _ c v h hn hnt hni hm hb3 hs3 hc3 ht3 hi3
 generalize cntT c c.tasks.length = LT at *
 generalize cntI c c.isrs.length = LI at *
 generalize cfC c v = C at *
 clear h hm hb3 hs3 ht3 hi3
 go_enter Tryz.func82, Tryz.ntmps82
 go_wp2_with (first | (refine wpList_load_row rfl 47 _ rfl w.heap.size rfl 47 _ (0, 0) _ hc3 Tryz.underlying47 rfl hi18 ?_) | (go_at_call 130; refine ke.mono ?_; clear ke; rintro e w1 ⟨rfl, ui, ut, hT, hbw⟩; obtain ⟨si, rfl, hsi⟩ := slice_of_own hT.o1; obtain ⟨st, rfl, hst⟩ := slice_of_own hT.o2; have zi : w1.cell? ⟨w.heap.size + 2, 0, none⟩ = some (.slice si.a si.n si.c) := (by rw [cell_of_row w1 _ 0 _ _ (0, 0) hT.x1]; rfl); have zt : w1.cell? ⟨w.heap.size + 1, 0, none⟩ = some (.slice st.a st.n st.c) := (by rw [cell_of_row w1 _ 0 _ _ (0, 0) hT.x2]; rfl); have fi : w1.frozen? ⟨w.heap.size + 2, 0, none⟩ = false := frozen_of_row w1 _ 0 _ _ hT.x1; have ft : w1.frozen? ⟨w.heap.size + 1, 0, none⟩ = false := frozen_of_row w1 _ 0 _ _ hT.x2; have HT : Hid (TwoN w1 (w.heap.size + 4) (w.heap.size + 2) (w.heap.size + 1) (.slice si.a si.n si.c) (.slice st.a st.n st.c) LI LT ∧ Below w.heap.size w w1) := ⟨hT, hbw⟩; clear hT hbw hsi hst hc3))
 go_big_region
 have HE := two_again HT.out
 clear HT
 generalize ((w1.setCell ⟨w.heap.size + 1, 0, none⟩ (.slice st.a st.n st.c)).setCell ⟨w.heap.size + 1 + 1, 0, none⟩ (.slice si.a si.n si.c)).drew = w9 at *
 clear zi zt fi ft
 have zi : w9.cell? ⟨w.heap.size + 1 + 1, 0, none⟩ = some (.slice si.a si.n si.c) := by rw [cell_of_row w9 _ 0 _ _ (0, 0) HE.1.x1]; rfl
 have zt : w9.cell? ⟨w.heap.size + 1, 0, none⟩ = some (.slice st.a st.n st.c) := by rw [cell_of_row w9 _ 0 _ _ (0, 0) HE.1.x2]; rfl
 go_wp2
 (try simp only [Exit.inBlock, Exit.then])
 refine bodyPost_ret (res_two Tryz.results82 _ (w.heap.size + 1) (w.heap.size + 1 + 1) w9 st si rfl rfl zt zi) rfl ?_
 exact ⟨_, _, rfl, own_mono HE.1.o2 (by omega), own_mono HE.1.o1 (by omega), fun g h1 h2 => HE.1.ap g h2 h1, HE.2⟩
end Go.Proofs.YtmidaeljeoifdaaGreatDoor.Ce
