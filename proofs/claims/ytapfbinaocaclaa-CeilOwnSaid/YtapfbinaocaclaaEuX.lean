import Derived.Test.YtapfbinaocaclaaErsX
import Derived.Lib.SliceRun
namespace Go.Proofs.Ytapfbinaocaclaa
open Go.RowKit Go.Maps
set_option linter.unusedVariables false
set_option linter.unusedSimpArgs false

/-! ### Users: the program's -/
theorem EndsAt.at {w w' : World} {b : Nat} {c : Cf} (h : EndsAt w b c) (hb : w'.heap[b]? = w.heap[b]?) : EndsAt w' b c := by
  obtain ⟨ks, ⟨nd, lt, D, ⟨es, clock, hb1, F, hs, hD⟩, h2⟩, hall⟩ := h
  exact ⟨ks, ⟨nd, lt, D, ⟨es, clock, hb.trans hb1, F, hs, hD⟩, h2⟩, hall⟩
theorem EndsAt.lt {w : World} {b : Nat} {c : Cf} (h : EndsAt w b c) : b < w.heap.size := by
  obtain ⟨ks, hM, _⟩ := h
  exact hM.block
/-- What stands beside the two rows. -/
structure UsE (w : World) (c : Cf) (bf b br q bo : Nat) (W : World) : Prop where
  bl : Below w.heap.size w W
  f : BoxM W bf b 72
  r : W.heap[br]? = some (.cells #[I (q : Int)] 3 (0, 0))
  e : EndsAt W b c
  o : BoxF W bo 33 #[.pointer (some ⟨bf, 0, none⟩), .pointer (some ⟨br, 0, none⟩)]
theorem UsE.below {w : World} {c : Cf} {bf b br q bo : Nat} {W W' : World} (h : UsE w c bf b br q bo W) (hb : Below W.heap.size W W') : UsE w c bf b br q bo W' :=
  ⟨h.bl.trans (hb.mono h.bl.size), (hb.block _ (heap_lt h.f)).trans h.f, (hb.block _ (heap_lt h.r)).trans h.r, h.e.below hb, (hb.block _ (heap_lt h.o)).trans h.o⟩
theorem UsE.fr {w : World} {c : Cf} {bf b br q bo base bi bt : Nat} {W W' : World} (h : UsE w c bf b br q bo W) (hf : Fr2 base bi bt W W') (hw : w.heap.size ≤ bi ∧ w.heap.size ≤ bt ∧ w.heap.size ≤ base) (l1 : bf < base ∧ bf ≠ bi ∧ bf ≠ bt) (l2 : br < base ∧ br ≠ bi ∧ br ≠ bt) (l3 : b < base ∧ b ≠ bi ∧ b ≠ bt) (l4 : bo < base ∧ bo ≠ bi ∧ bo ≠ bt) : UsE w c bf b br q bo W' :=
  ⟨h.bl.trans (hf.below hw.2.2 hw.1 hw.2.1), (hf.block _ l1.1 l1.2.1 l1.2.2).trans h.f, (hf.block _ l2.1 l2.2.1 l2.2.2).trans h.r, h.e.at (hf.block _ l3.1 l3.2.1 l3.2.2), (hf.block _ l4.1 l4.2.1 l4.2.2).trans h.o⟩
theorem users1_of {w : World} {c : Cf} {bf b br q bo : Nat} {W : World} (hn : c.ress.length ≤ 8796093022208) (hq : q < c.ress.length) (h : UsE w c bf b br q bo W) (l : List Int) (hid : ∀ x ∈ l, isId x c.ress.length = true) :
    ∀ W', Below W.heap.size W W' → ∀ x ∈ l, Calls Try.prog 33 (#[I x] ++ #[.pointer (some ⟨bf, 0, none⟩), .pointer (some ⟨br, 0, none⟩)]) W' fun e w' => e = .returned (.bool (rootN c x == rootN c (q : Int))) ∧ Below W'.heap.size W' w' := by
  intro W' hW x hx
  have h' := h.below hW
  have hbd : 0 ≤ x ∧ x < c.ress.length := by simpa [isId] using hid x hx
  obtain ⟨j, rfl⟩ := Int.eq_ofNat_of_zero_le hbd.1
  exact users1_any W' c hn b bf br h'.f j q (by rw [cell_of_row W' br 0 _ _ (0, 0) h'.r]; rfl) h'.e (by omega) hq
def usT (c : Cf) (q : Nat) (j : Nat) : List Int := idxL (fun x : Tk => usesB c x.res (q : Int)) c.tasks j
def usI (c : Cf) (q : Nat) (j : Nat) : List Int := idxL (fun x : Is => usesB c x.res (q : Int)) c.isrs j
set_option maxHeartbeats 8000000 in
theorem users_users (w W0 : World) (c : Cf) (v : Vs) (h : CfAt w c v) (hn : c.ress.length ≤ 8796093022208) (hnt : c.tasks.length ≤ 8796093022208) (hni : c.isrs.length ≤ 8796093022208) (hm : meetB c = true) (bf b br q bo bi bt : Nat) (hq : q < c.ress.length)
    (hE : UsE w c bf b br q bo W0) (hw : w.heap.size ≤ bi ∧ w.heap.size ≤ bt) (l1 : bf ≠ bi ∧ bf ≠ bt) (l2 : br ≠ bi ∧ br ≠ bt) (l3 : b ≠ bi ∧ b ≠ bt) (l4 : bo ≠ bi ∧ bo ≠ bt) (l5 : bi ≠ bt) (hi3 : BoxS W0 bi (.slice none 0 0)) (ht3 : BoxS W0 bt (.slice none 0 0)) :
    Calls Try.prog 34 #[.agg (cfC c v), .func (.func 35) #[] #[.pointer (some ⟨bo, 0, none⟩), .pointer (some ⟨bi, 0, none⟩), .pointer (some ⟨bt, 0, none⟩)]] W0 fun e w' => e = .returned (.tuple #[]) ∧ ∃ ui ut, TwoN w' (W0.heap.size + 1) bi bt ui ut (usI c q c.isrs.length) (usT c q c.tasks.length) ∧ Below w.heap.size w w' := by
  have zf := heap_lt hE.f
  have zr := heap_lt hE.r
  have zb := hE.e.lt
  have zo := heap_lt hE.o
  have zi := heap_lt hi3
  have zt := heap_lt ht3
  have hws := hE.bl.size
  have fr : ∀ {W W' : World}, UsE w c bf b br q bo W → Fr2 (W0.heap.size + 1) bi bt W W' → UsE w c bf b br q bo W' := fun hW hf => hW.fr hf ⟨hw.1, hw.2, by omega⟩ ⟨by omega, l1⟩ ⟨by omega, l2⟩ ⟨by omega, l3⟩ ⟨by omega, l4⟩
  refine (eachUser_any W0 c v 35 #[.pointer (some ⟨bo, 0, none⟩), .pointer (some ⟨bi, 0, none⟩), .pointer (some ⟨bt, 0, none⟩)] (enters_of Try.func35 (by kernel_rfl) rfl)
    (fun j W => ∃ ui ut, TwoN W (W0.heap.size + 1) bi bt ui ut [] (usT c q j) ∧ UsE w c bf b br q bo W)
    (fun j W => ∃ ui ut, TwoN W (W0.heap.size + 1) bi bt ui ut (usI c q j) (usT c q c.tasks.length) ∧ UsE w c bf b br q bo W)
    (fun j W W' ⟨ui, ut, h1, h2⟩ hb => ⟨ui, ut, h1.below hb, h2.below hb⟩)
    (fun j W W' ⟨ui, ut, h1, h2⟩ hb => ⟨ui, ut, h1.below hb, h2.below hb⟩)
    (fun j W ⟨_, _, _, h2⟩ => h.below h2.bl) (fun j W ⟨_, _, _, h2⟩ => h.below h2.bl)
    ⟨_, _, ⟨hi3, ht3, World.ownsRow_nil _ _ _ _, World.ownsRow_nil _ _ _ _, (fun g h => by cases h)⟩, hE⟩
    (fun W ⟨ui, ut, h1, h2⟩ => ⟨ui, ut, h1, h2⟩) ?_ ?_).mono ?_
  · rintro j x s W hx hr ⟨ui, ut, h1, h2⟩ hlt
    have hme := meet_task hm hn (List.mem_of_getElem? hx)
    refine (users2_any W false j x.prio s x.res hr 33 _ (enters_of Try.func33 (by kernel_rfl) rfl) (fun z => rootN c z == rootN c (q : Int)) bo bi bt (W0.heap.size + 1) h2.o (users1_of hn hq h2 x.res hme.1) ui ut [] (usT c q j) ⟨h1.x1, h1.x2, h1.o1, h1.o2, h1.ap, by omega, by omega, l5, by omega⟩ (by simp) (Nat.le_trans (idxL_len _ _ _) (Nat.le_trans (Nat.le_of_lt (List.getElem?_eq_some_iff.1 hx).1) hnt))).mono ?_
    rintro e w' ⟨rfl, hf, ui', ut', ht⟩
    refine ⟨rfl, ⟨ui', ut', ?_, fr h2 hf⟩, ?_, hf.size⟩
    · have e1 : usT c q (j + 1) = if ((x.res.any fun z => rootN c z == rootN c (q : Int)) && !false) = true then usT c q j ++ [(j : Int)] else usT c q j := by
        unfold usT
        rw [idxL_snoc _ hx, Bool.not_false, Bool.and_true]
        unfold usesB
        by_cases hz : (x.res.any fun z => rootN c z == rootN c (q : Int)) = true
        · rw [if_pos hz, if_pos hz]
        · rw [if_neg hz, if_neg hz, List.append_nil]
      simp only [Bool.and_false, Bool.false_eq_true, if_false] at ht
      rw [e1]
      exact ⟨ht.x1, ht.x2, ht.o1, ht.o2, ht.ap⟩
    · exact hf.block _ (by omega) (by omega) (by omega)
  · rintro j x s W hx hr ⟨ui, ut, h1, h2⟩ hlt
    have hme := meet_isr hm hn (List.mem_of_getElem? hx)
    refine (users2_any W true j x.prio s x.res hr 33 _ (enters_of Try.func33 (by kernel_rfl) rfl) (fun z => rootN c z == rootN c (q : Int)) bo bi bt (W0.heap.size + 1) h2.o (users1_of hn hq h2 x.res hme.1) ui ut (usI c q j) (usT c q c.tasks.length) ⟨h1.x1, h1.x2, h1.o1, h1.o2, h1.ap, by omega, by omega, l5, by omega⟩ (Nat.le_trans (idxL_len _ _ _) (Nat.le_trans (Nat.le_of_lt (List.getElem?_eq_some_iff.1 hx).1) hni)) (Nat.le_trans (idxL_len _ _ _) hnt)).mono ?_
    rintro e w' ⟨rfl, hf, ui', ut', ht⟩
    refine ⟨rfl, ⟨ui', ut', ?_, fr h2 hf⟩, ?_, hf.size⟩
    · have e1 : usI c q (j + 1) = if ((x.res.any fun z => rootN c z == rootN c (q : Int)) && true) = true then usI c q j ++ [(j : Int)] else usI c q j := by
        unfold usI
        rw [idxL_snoc _ hx, Bool.and_true]
        unfold usesB
        by_cases hz : (x.res.any fun z => rootN c z == rootN c (q : Int)) = true
        · rw [if_pos hz, if_pos hz]
        · rw [if_neg hz, if_neg hz, List.append_nil]
      simp only [Bool.not_true, Bool.and_false, Bool.false_eq_true, if_false] at ht
      rw [e1]
      exact ⟨ht.x1, ht.x2, ht.o1, ht.o2, ht.ap⟩
    · exact hf.block _ (by omega) (by omega) (by omega)
  · rintro e w' ⟨rfl, ui, ut, h1, h2⟩
    exact ⟨rfl, ui, ut, h1, h2.bl⟩
set_option maxHeartbeats 8000000 in
set_option maxRecDepth 100000 in
theorem users_any (w : World) (c : Cf) (v : Vs) (h : CfAt w c v) (hn : c.ress.length ≤ 8796093022208) (hnt : c.tasks.length ≤ 8796093022208) (hni : c.isrs.length ≤ 8796093022208) (r : Int) : Calls Try.prog 14 #[.agg (cfC c v), I r] w fun e w' => Own3 w (usrT c r) (usrI c r) (grpE c r) e w' := by
  have hi18 : (Try.prog.info? 33).map (·.size) = some (cfC c v).size := by rw [show (cfC c v).size = 18 from rfl]; kernel_rfl
  have hV0 := heap_two0 w (.cells (cfC c v) 33) (.cells #[I r] 3)
  have hV1 := heap_two w (.cells (cfC c v) 33) (.cells #[I r] 3)
  have hb2 : Below w.heap.size w ((w.alloc (.cells (cfC c v) 33)).alloc (.cells #[I r] 3)) := ((Below.refl w.heap.size w).alloc (Nat.le_refl _) _).alloc (by simp) _
  have krf := lookAt_any _ c v (h.below hb2) hn r
  obtain ⟨W2, hW2⟩ : ∃ W2, W2 = (w.alloc (.cells (cfC c v) 33)).alloc (.cells #[I r] 3) := ⟨_, rfl⟩
  have hs2 : W2.heap.size = w.heap.size + 2 := by rw [hW2]; simp
  rw [← hW2] at hV0 hV1 hb2 krf
  have HS2 : Hid (W2.heap.size = w.heap.size + 2) := hs2
  have HV : Hid (W2.heap[w.heap.size]? = some (.cells (cfC c v) 33 (0, 0)) ∧ W2.heap[w.heap.size + 1]? = some (.cells #[I r] 3 (0, 0)) ∧ Below w.heap.size w W2) := ⟨hV0, hV1, hb2⟩
  have y1 : W2.cell? ⟨w.heap.size + 1, 0, none⟩ = some (I r) := by rw [cell_of_row W2 _ 0 _ _ (0, 0) hV1]; rfl
  obtain ⟨R, hR⟩ : ∃ R, R = grpE c r := ⟨_, rfl⟩
  rw [← hR]
  rw [← hR] at krf
  have HR : Hid (R = grpE c r) := hR
  have HCf : Hid (CfAt w c v) := h
  clear h hb2 hR hs2 hV1
  by_cases hR0 : R = 0
  · subst hR0
    obtain ⟨hlk, hid⟩ := grp_zero HR.out.symm
    have hbd : 0 ≤ r ∧ r < c.ress.length := by simpa [isId] using hid
    obtain ⟨q, rfl⟩ := Int.eq_ofNat_of_zero_le hbd.1
    have hq : q < c.ress.length := by omega
    have HT : Hid (usrT c (q : Int) = usT c q c.tasks.length) := by show _ = _; unfold usrT usT; rw [if_pos HR.out.symm]
    have HI : Hid (usrI c (q : Int) = usI c q c.isrs.length) := by show _ = _; unfold usrI usI; rw [if_pos HR.out.symm]
    have HUU : Hid (∀ (W0 : World) (bf b br q bo bi bt : Nat) (hq : q < c.ress.length)
      (hE : UsE w c bf b br q bo W0) (hw : w.heap.size ≤ bi ∧ w.heap.size ≤ bt) (l1 : bf ≠ bi ∧ bf ≠ bt) (l2 : br ≠ bi ∧ br ≠ bt) (l3 : b ≠ bi ∧ b ≠ bt) (l4 : bo ≠ bi ∧ bo ≠ bt) (l5 : bi ≠ bt) (hi3 : BoxS W0 bi (.slice none 0 0)) (ht3 : BoxS W0 bt (.slice none 0 0)),
      Calls Try.prog 34 #[.agg (cfC c v), .func (.func 35) #[] #[.pointer (some ⟨bo, 0, none⟩), .pointer (some ⟨bi, 0, none⟩), .pointer (some ⟨bt, 0, none⟩)]] W0 fun e w' => e = .returned (.tuple #[]) ∧ ∃ ui ut, TwoN w' (W0.heap.size + 1) bi bt ui ut (usI c q c.isrs.length) (usT c q c.tasks.length) ∧ Below w.heap.size w w') := fun W0 bf b br q bo bi bt hq hE hw l1 l2 l3 l4 l5 hi3 ht3 => users_users w W0 c v HCf.out hn hnt hni (look_lk hlk).1 bf b br q bo bi bt hq hE hw l1 l2 l3 l4 l5 hi3 ht3
    have hsf : ∀ (caps : Array Value) (a : Addr) (m : Mode) (W : World), (store a (.func (.func 33) #[] caps) m).run Try.prog W = stored Try.prog W a (.func (.func 33) #[] caps) m := fun caps a m W => run_store _ W a _ m rfl
    generalize cfC c v = C at *
    clear HR hlk hid hbd
    go_enter Try.func14, Try.ntmps14
    go_upto_region 1 with fail
    rw [← hW2]
    clear hW2
    go_upto_region 6 with (first | (refine wpList_load_row rfl 33 _ rfl w.heap.size rfl 33 _ (0, 0) _ hV0 Try.underlying33 rfl hi18 ?_) | (go_at_call 31; refine krf.mono ?_; rintro e w1 hp; obtain ⟨b1, rfl, hl1, hE1⟩ := hp.got rfl; have H1 : Hid (Below W2.heap.size W2 w1 ∧ EndsAt w1 b1 c) := ⟨hp.1, hE1⟩; clear krf hp hl1 hE1 hV0 y1))
    have H4 : Hid (UsE w c w1.heap.size b1 (w.heap.size + 1) q (w1.heap.size + 3) ((((w1.alloc (.cells #[.map (some b1)] 72)).alloc (.cells #[.slice none 0 0] 34)).alloc (.cells #[.slice none 0 0] 34)).alloc (.cells #[.func (.func 33) #[] #[.pointer (some ⟨w1.heap.size, 0, none⟩), .pointer (some ⟨w.heap.size + 1, 0, none⟩)]] 81)) ∧ BoxS ((((w1.alloc (.cells #[.map (some b1)] 72)).alloc (.cells #[.slice none 0 0] 34)).alloc (.cells #[.slice none 0 0] 34)).alloc (.cells #[.func (.func 33) #[] #[.pointer (some ⟨w1.heap.size, 0, none⟩), .pointer (some ⟨w.heap.size + 1, 0, none⟩)]] 81)) (w1.heap.size + 2) (.slice none 0 0) ∧ BoxS ((((w1.alloc (.cells #[.map (some b1)] 72)).alloc (.cells #[.slice none 0 0] 34)).alloc (.cells #[.slice none 0 0] 34)).alloc (.cells #[.func (.func 33) #[] #[.pointer (some ⟨w1.heap.size, 0, none⟩), .pointer (some ⟨w.heap.size + 1, 0, none⟩)]] 81)) (w1.heap.size + 1) (.slice none 0 0) ∧ ((((w1.alloc (.cells #[.map (some b1)] 72)).alloc (.cells #[.slice none 0 0] 34)).alloc (.cells #[.slice none 0 0] 34)).alloc (.cells #[.func (.func 33) #[] #[.pointer (some ⟨w1.heap.size, 0, none⟩), .pointer (some ⟨w.heap.size + 1, 0, none⟩)]] 81)).heap[w.heap.size]? = some (.cells C 33 (0, 0))) := by
      obtain ⟨hb1, hE1⟩ := H1.out
      obtain ⟨v0, v1, hbw⟩ := HV.out
      have hs := HS2.out
      have hsz := hb1.size
      have b4 : ∀ o1 o2 o3 o4, Below w1.heap.size w1 ((((w1.alloc o1).alloc o2).alloc o3).alloc o4) := fun o1 o2 o3 o4 => ((((Below.refl w1.heap.size w1).alloc (Nat.le_refl _) _).alloc (by simp) _).alloc (by simp; omega) _).alloc (by simp; omega) _
      have u0 := (hb1.block _ (heap_lt v0)).trans v0
      have u1 := (hb1.block _ (heap_lt v1)).trans v1
      refine ⟨⟨(hbw.trans (hb1.mono (by omega))).trans ((b4 _ _ _ _).mono (by omega)), ?_, ((b4 _ _ _ _).block _ (heap_lt u1)).trans u1, hE1.below (b4 _ _ _ _), ?_⟩, ?_, ?_, ((b4 _ _ _ _).block _ (heap_lt u0)).trans u0⟩
      · exact heap_over _ _ (heap_over _ _ (heap_two0 w1 _ _))
      · have := heap_alloc_new (((w1.alloc (.cells #[.map (some b1)] 72)).alloc (.cells #[.slice none 0 0] 34)).alloc (.cells #[.slice none 0 0] 34)) (.cells #[.func (.func 33) #[] #[.pointer (some ⟨w1.heap.size, 0, none⟩), .pointer (some ⟨w.heap.size + 1, 0, none⟩)]] 81)
        simp only [World.size_alloc] at this
        exact this
      · have := heap_alloc_new ((w1.alloc (.cells #[.map (some b1)] 72)).alloc (.cells #[.slice none 0 0] 34)) (.cells #[.slice none 0 0] 34)
        simp only [World.size_alloc] at this
        exact heap_over _ _ this
      · exact heap_over _ _ (heap_over _ _ (heap_two w1 _ _))
    have HL : Hid (b1 < w1.heap.size ∧ w.heap.size + 2 ≤ w1.heap.size) := ⟨H1.out.2.lt, by have := H1.out.1.size; have := HS2.out; omega⟩
    clear H1 hsf
    generalize ((((w1.alloc (.cells #[.map (some b1)] 72)).alloc (.cells #[.slice none 0 0] 34)).alloc (.cells #[.slice none 0 0] 34)).alloc (.cells #[.func (.func 33) #[] #[.pointer (some ⟨w1.heap.size, 0, none⟩), .pointer (some ⟨w.heap.size + 1, 0, none⟩)]] 81)) = w5 at *
    have ku := HUU.out w5 w1.heap.size b1 (w.heap.size + 1) q (w1.heap.size + 3) (w1.heap.size + 2) (w1.heap.size + 1) hq H4.out.1 (by have := HL.out; omega) (by omega) (by have := HL.out; omega) (by have := HL.out; omega) (by omega) (by omega) H4.out.2.1 H4.out.2.2.1
    have hV5 := H4.out.2.2.2
    have hw5 : Hid (w.heap.size ≤ w5.heap.size) := H4.out.1.bl.size
    clear H4 HUU
    go_upto_region 7 with (first | (refine wpList_load_row rfl 33 _ rfl w.heap.size rfl 33 _ (0, 0) _ hV5 Try.underlying33 rfl hi18 ?_) | (go_at_call 34; refine ku.mono ?_; clear ku; rintro e w6 ⟨rfl, ui, ut, hT, hbw⟩; obtain ⟨si, rfl, hsi⟩ := slice_of_own hT.o1; obtain ⟨st, rfl, hst⟩ := slice_of_own hT.o2; have zi : w6.cell? ⟨w1.heap.size + 1 + 1, 0, none⟩ = some (.slice si.a si.n si.c) := (by rw [cell_of_row w6 _ 0 _ _ (0, 0) hT.x1]; rfl); have zt : w6.cell? ⟨w1.heap.size + 1, 0, none⟩ = some (.slice st.a st.n st.c) := (by rw [cell_of_row w6 _ 0 _ _ (0, 0) hT.x2]; rfl); have HTT : Hid (TwoN w6 (w5.heap.size + 1) (w1.heap.size + 2) (w1.heap.size + 1) (.slice si.a si.n si.c) (.slice st.a st.n st.c) (usI c q c.isrs.length) (usT c q c.tasks.length) ∧ Below w.heap.size w w6) := ⟨hT, hbw⟩; clear hT hbw hsi hst hV5))
    go_big_region
    clear zi zt
    go_wp2
    refine bodyPost_ret (v := .tuple #[.slice st.a st.n st.c, .slice si.a si.n si.c, I 0]) ?_ rfl ?_
    · simp [results, Try.results14, go_sem]
    · obtain ⟨hT, hbw⟩ := HTT.out
      have hw5 := hw5.out
      refine ⟨_, _, rfl, ?_, ?_, fun g h1 h2 => hT.ap g h2 h1, ⟨hbw.os, hbw.tape, hbw.output, hbw.size, hbw.block⟩⟩
      · rw [HT.out]; exact own_mono hT.o2.drew (by omega)
      · rw [HI.out]; exact own_mono hT.o1.drew (by omega)
  · have HT : Hid (usrT c r = []) := by show _ = _; unfold usrT; rw [if_neg (by rw [← HR.out]; exact hR0)]
    have HI : Hid (usrI c r = []) := by show _ = _; unfold usrI; rw [if_neg (by rw [← HR.out]; exact hR0)]
    have hE1 : (R != 0) = true := by simpa using hR0
    generalize cfC c v = C at *
    clear HR
    go_enter Try.func14, Try.ntmps14
    go_upto_region 1 with fail
    rw [← hW2]
    clear hW2
    go_wp2_with (first | (refine wpList_load_row rfl 33 _ rfl w.heap.size rfl 33 _ (0, 0) _ hV0 Try.underlying33 rfl hi18 ?_) | (go_at_call 31; refine krf.mono ?_; rintro e w1 hp; obtain rfl := hp.not hR0; have HB1 : Hid (Below W2.heap.size W2 w1) := hp.1; clear krf hp hV0 y1))
    refine bodyPost_ret (v := .tuple #[.slice none 0 0, .slice none 0 0, I R]) ?_ rfl ?_
    · simp [results, Try.results14, go_sem]
    · have hb1 := HB1.out
      have hs := HS2.out
      have hsz := hb1.size
      exact own3_nil ((HV.out.2.2.trans (hb1.mono (by omega))).trans ((below_alloc w1 _).mono (by omega))) HT.out HI.out
end Go.Proofs.Ytapfbinaocaclaa

namespace Go.Proofs.Ytapfbinaocaclaa
open Go.RowKit Go.Maps
set_option linter.unusedVariables false
set_option linter.unusedSimpArgs false

/-! ### slices.DeleteFunc of a row of one's own -/
theorem grown_belo {a b d : World} {r : Option Nat} (h : a.grownBy b r) (k : Below b.heap.size b d) : a.grownBy d r :=
  ⟨k.os.trans h.os, k.tape.trans h.tape, k.output.trans h.output, Nat.le_trans h.size k.size, fun i hi hne => (k.block i (Nat.lt_of_lt_of_le hi h.size)).trans (h.block i hi hne)⟩
theorem own_setCells {base e g n cap : Nat} (i : Nat) : ∀ (vs : List Value) (o : Nat) (w : World) (xs : List Value), i ≤ o → w.ownsRow base e 1 (.slice (some ⟨g, 0, none⟩) n cap) n xs → ∃ xs', (w.setCells g o vs).ownsRow base e 1 (.slice (some ⟨g, 0, none⟩) n cap) n xs' ∧ xs'.take i = xs.take i ∧ w.grownBy (w.setCells g o vs) (some g)
  | [], o, w, xs, _, h => ⟨xs, h, rfl, grown_refl _ _⟩
  | v :: r, o, w, xs, ho, h => by
    have st := h.stored o v
    obtain ⟨xs', h1, h2, h3⟩ := own_setCells i r (o + 1) _ _ (by omega) st.1
    refine ⟨xs', h1, ?_, grown_same st.2 h3⟩
    rw [h2]
    rw [List.take_set]
    apply List.set_eq_of_length_le
    simp
    omega
theorem own_cut {w : World} {base e g n cap i : Nat} {xs : List Value} (h : w.ownsRow base e 1 (.slice (some ⟨g, 0, none⟩) n cap) n xs) (hi : i ≤ n) : w.ownsRow base e 1 (.slice (some ⟨g, 0, none⟩) i cap) i (xs.take i) := by
  rcases h.2 with ⟨h', _⟩ | ⟨g', cap', cur, h', hb, hg, hnc, hcm, hcs, htake⟩
  · simp at h'
  · simp only [Value.slice.injEq, Option.some.injEq, Addr.mk.injEq, and_true, true_and] at h'
    obtain ⟨rfl, rfl⟩ := h'
    have hl := h.1
    refine ⟨by rw [List.length_take]; omega, .inr ⟨g, cap, cur, rfl, hb, hg, by omega, hcm, hcs, ?_⟩⟩
    rw [← htake, List.take_take]
    congr 1
    omega
structure KpI (p : Int → Bool) (l : List Int) (i j : Nat) (xs : List Value) : Prop where
  ei : i = ((l.take j).filter fun x => !p x).length
  lt : i < j
  t : xs.take i = ((l.take j).filter fun x => !p x).map fun x => I x
  d : xs.drop j = (l.drop j).map fun x => I x
theorem KpI.keep {p : Int → Bool} {l : List Int} {i j : Nat} {xs : List Value} (h : KpI p l i j xs) {x : Int} (hx : l[j]? = some x) (hp : p x = false) (hl : xs.length = l.length) : KpI p l (i + 1) (j + 1) (xs.set i (I x)) := by
  have hj := (List.getElem?_eq_some_iff.1 hx).1
  have e : (l.take (j + 1)).filter (fun x => !p x) = (l.take j).filter (fun x => !p x) ++ [x] := by
    rw [List.take_add_one, hx, Option.toList_some, List.filter_append]
    congr 1
    simp [hp]
  have hlt := h.lt
  refine ⟨by rw [e, List.length_append, ← h.ei]; rfl, by omega, ?_, ?_⟩
  · rw [e, List.map_append, ← h.t, List.take_add_one]
    congr 1
    · rw [List.take_set]
      apply List.set_eq_of_length_le
      rw [List.length_take]
      omega
    · rw [List.getElem?_set]
      simp
      omega
  · rw [List.drop_set]
    rw [if_pos (by omega)]
    have := congrArg (List.drop 1) h.d
    rw [List.drop_drop, ← List.map_drop, List.drop_drop] at this
    exact this
theorem KpI.skip {p : Int → Bool} {l : List Int} {i j : Nat} {xs : List Value} (h : KpI p l i j xs) {x : Int} (hx : l[j]? = some x) (hp : p x = true) : KpI p l i (j + 1) xs := by
  have e : (l.take (j + 1)).filter (fun x => !p x) = (l.take j).filter (fun x => !p x) := by
    rw [List.take_add_one, hx, Option.toList_some, List.filter_append]
    simp [hp]
  have hlt := h.lt
  refine ⟨by rw [e]; exact h.ei, by omega, by rw [e]; exact h.t, ?_⟩
  have := congrArg (List.drop 1) h.d
  rw [List.drop_drop, ← List.map_drop, List.drop_drop] at this
  exact this
theorem KpI.start {p : Int → Bool} {l : List Int} {j : Nat} {x : Int} (h : (l.take j).any p = false) (hx : l[j]? = some x) (hp : p x = true) : KpI p l j (j + 1) (l.map fun x => I x) := by
  have e0 : (l.take j).filter (fun x => !p x) = l.take j := by
    rw [List.filter_eq_self]
    intro a ha
    rw [List.any_eq_false] at h
    have := h a ha
    simpa using this
  have e : (l.take (j + 1)).filter (fun x => !p x) = l.take j := by
    rw [List.take_add_one, hx, Option.toList_some, List.filter_append, e0]
    simp [hp]
  have hj := (List.getElem?_eq_some_iff.1 hx).1
  refine ⟨by rw [e, List.length_take]; omega, by omega, by rw [e, List.map_take], by rw [List.map_drop]⟩
theorem KpI.at {p : Int → Bool} {l : List Int} {i j : Nat} {xs : List Value} (h : KpI p l i j xs) {x : Int} (hx : l[j]? = some x) : xs[j]? = some (I x) := by
  have := congrArg (fun z => z[0]?) h.d
  simp only [List.getElem?_drop, List.getElem?_map, Nat.add_zero] at this
  rw [this, hx]
  rfl
theorem idx_cases (p : Int → Bool) (l : List Int) : (l.any p = false ∧ idxI p l = -1) ∨ ∃ (j : Nat) (x : Int), (l.take j).any p = false ∧ l[j]? = some x ∧ p x = true ∧ idxI p l = (j : Int) := by
  cases h : l.any p with
  | false => exact .inl ⟨rfl, idxI_none h⟩
  | true =>
    right
    have h2 : (l.findIdx? p).isSome := by
      rw [List.findIdx?_isSome]
      exact h
    obtain ⟨j, hj⟩ := Option.isSome_iff_exists.1 h2
    have hj2 := List.findIdx?_eq_some_iff_getElem.1 hj
    obtain ⟨hl, hp, hn⟩ := hj2
    have hx : l[j]? = some l[j] := List.getElem?_eq_getElem hl
    have ht : (l.take j).any p = false := by
      rw [List.any_eq_false]
      intro a ha
      obtain ⟨k, hk⟩ := List.mem_iff_getElem?.1 ha
      rw [List.getElem?_take] at hk
      split at hk
      · rename_i hkj
        have := hn k hkj
        rw [List.getElem?_eq_getElem (by omega)] at hk
        cases hk
        simpa using this
      · cases hk
    exact ⟨j, _, ht, hx, hp, idxI_hit ht hx hp⟩
/-- A row of its own, cut down in place. -/
def OwnD (w : World) (base : Nat) (b : Option Nat) (l : List Int) (e : Ending) (w' : World) : Prop := ∃ u, e = .returned u ∧ w'.ownsRow base 3 1 u l.length (l.map fun x => I x) ∧ u.ownBlock = b ∧ w.grownBy w' b
set_option maxHeartbeats 4000000 in
set_option maxRecDepth 100000 in
theorem delete_any (w : World) (base : Nat) (u : Value) (l : List Int) (hO : w.ownsRow base 3 1 u l.length (l.map fun x => I x)) (hn : l.length ≤ 8796093022208) (f : Nat) (caps : Array Value) (eg : ∀ args W, (callFunc f args).run Try.prog W = .ok (.enter f args) W) (p : Int → Bool)
    (hf : ∀ W, w.grownBy W u.ownBlock → ∀ x ∈ l, Calls Try.prog f (#[I x] ++ caps) W fun e w' => e = .returned (.bool (p x)) ∧ Below W.heap.size W w') :
    Calls Try.prog 44 #[u, .func (.func f) #[] caps] w fun e w' => OwnD w base u.ownBlock (l.filter fun x => !p x) e w' := by
  obtain ⟨s, hu, hR⟩ := rows_ints hO (l := l) rfl rfl
  have kx := index_any w s l hR f caps eg p (fun W hW => hf W (grown_of_below hW))
  rcases idx_cases p l with ⟨ha, hi⟩ | ⟨j, x, ht, hx, hp, hi⟩
  · rw [hi] at kx
    have HE : Hid (l.filter (fun x => !p x) = l) := by
      show _ = _
      rw [List.filter_eq_self]
      intro a ha2
      rw [List.any_eq_false] at ha
      have := ha a ha2
      simpa using this
    have HO : Hid (w.ownsRow base 3 1 u l.length (l.map fun x => I x)) := hO
    clear hO hf hR ha hi
    subst hu
    go_enter Try.func44, Try.ntmps44
    go_wp2_with (go_at_call 56; refine kx.mono ?_; clear kx; rintro e w1 ⟨rfl, hb1⟩)
    go_ret
    refine ⟨_, rfl, ?_, rfl, grown_of_below hb1⟩
    rw [HE.out]
    exact own_below HO.out hb1
  · rw [hi] at kx
    have hjl := (List.getElem?_eq_some_iff.1 hx).1
    rcases hO.2 with ⟨h0, h1⟩ | ⟨g, cap, cur, hv, hb, hg, hnc, hcm, hcs, htk⟩
    · omega
    have hus : (.slice s.a s.n s.c : Value) = .slice (some ⟨g, 0, none⟩) l.length cap := hu.symm.trans hv
    rw [hus] at kx
    subst hv
    have HO : Hid (w.ownsRow base 3 1 (.slice (some ⟨g, 0, none⟩) l.length cap) l.length (l.map fun x => I x)) := hO
    have HK : Hid (KpI p l j (j + 1) (l.map fun x => I x)) := KpI.start ht hx hp
    have HFF : Hid (∀ W, w.grownBy W (some g) → ∀ x ∈ l, Calls Try.prog f (#[I x] ++ caps) W fun e w' => e = .returned (.bool (p x)) ∧ Below W.heap.size W w') := hf
    obtain ⟨n, hnl⟩ : ∃ n, n = l.length := ⟨_, rfl⟩
    have HN : Hid (n = l.length) := hnl
    rw [← hnl] at kx HO hnc hn hjl ⊢
    have hjm : ((j : Int) == -1) = false := beq_eq_false_iff_ne.2 (by omega)
    have h22 : Try.prog.underlying 34 = some (.slice 3) := Try.underlying34
    have hzv : ∀ w, (zeroValue 3).run Try.prog w = .ok (.int .i64 0) w := zeroI
    unfold maxLen at hcm
    clear hO hf hR hi hx hp ht hu hus htk hg hb hcs hnl
    go_enter Try.func44, Try.ntmps44
    go_wp2_with (go_at_call 56; refine kx.mono ?_; clear kx; rintro e w1 ⟨rfl, hb1⟩)
    have H1 : Hid (w1.ownsRow base 3 1 (.slice (some ⟨g, 0, none⟩) n cap) n (l.map fun x => I x) ∧ w.grownBy w1 (some g)) := ⟨own_below HO.out hb1, grown_of_below hb1⟩
    clear hb1 HO
    go_loopw [5, 6, 7] (fun iv jv _ wr => ∃ (i j : Nat) (xs : List Value), iv = .int .i64 i ∧ jv = .int .i64 j ∧ j ≤ n ∧ i < j ∧ Hid (wr.ownsRow base 3 1 (.slice (some ⟨g, 0, none⟩) n cap) n xs ∧ KpI p l i j xs ∧ w.grownBy wr (some g))) (fun _ jv _ _ => n - (intOf jv).toNat)
    case atStart => exact ⟨j, j + 1, _, rfl, by go_num, by omega, by omega, H1.out.1, HK.out, H1.out.2⟩
    case round =>
      clear H1 HK
      obtain ⟨i, j, xs, rfl, rfl, hjn, hij, HJ⟩ := hrel
      obtain ⟨hO, hK, hG⟩ := HJ.out
      by_cases hlt : j < n
      · have hlt' : (j : Int) < n := by omega
        obtain ⟨x, hx⟩ : ∃ x, l[j]? = some x := ⟨_, List.getElem?_eq_getElem (by rw [← HN.out]; exact hlt)⟩
        have cj : wr.cell? ⟨g, j, none⟩ = some (I x) := by rw [hO.cellAt j (by omega)]; exact hK.at hx
        have cx := HFF.out _ hG x (List.mem_of_getElem? hx)
        have hxl : xs.length = l.length := by have := hO.1; have := HN.out; omega
        cases he : p x with
        | false =>
          rw [he] at cx
          have HK2 : Hid (KpI p l (i + 1) (j + 1) (xs.set i (I x))) := hK.keep hx he hxl
          have HO : Hid (wr.ownsRow base 3 1 (.slice (some ⟨g, 0, none⟩) n cap) n xs) := hO
          have HG : Hid (w.grownBy wr (some g)) := hG
          have hil : i < xs.length := by have := hO.1; omega
          obtain ⟨xo, hxo⟩ : ∃ xo, xs[i]? = some xo := ⟨_, List.getElem?_eq_getElem hil⟩
          have HXO : Hid (xs[i]? = some xo) := hxo
          clear hO hK hG HJ hx hxl hxo hil
          go_wp2
          refine cx.mono ?_
          clear cx
          rintro e7 w7 ⟨rfl, hb7⟩
          have hO7 := own_below HO.out hb7
          have ci : w7.cell? ⟨g, i, none⟩ = some xo := by rw [hO7.cellAt i (by omega)]; exact HXO.out
          have fi := hO7.frozenAt i
          have st := hO7.stored i (I x)
          have HO7 : Hid ((w7.setCell ⟨g, i, none⟩ (I x)).ownsRow base 3 1 (.slice (some ⟨g, 0, none⟩) n cap) n (xs.set i (I x)) ∧ w.grownBy (w7.setCell ⟨g, i, none⟩ (I x)) (some g)) := ⟨st.1, grown_same (grown_belo HG.out hb7) st.2⟩
          clear hO7 hb7 st
          go_wp2
          go_roundw
          case rel => exact ⟨i + 1, j + 1, _, by go_num, by go_num, by omega, by omega, HO7.out.1, HK2.out, HO7.out.2⟩
          case measure => simp [intOf]; omega
        | true =>
          rw [he] at cx
          have HK2 : Hid (KpI p l i (j + 1) xs) := hK.skip hx he
          have HO : Hid (wr.ownsRow base 3 1 (.slice (some ⟨g, 0, none⟩) n cap) n xs) := hO
          have HG : Hid (w.grownBy wr (some g)) := hG
          clear hO hK hG HJ hx hxl
          go_wp2
          refine cx.mono ?_
          clear cx
          rintro e7 w7 ⟨rfl, hb7⟩
          have HO7 : Hid (w7.ownsRow base 3 1 (.slice (some ⟨g, 0, none⟩) n cap) n xs ∧ w.grownBy w7 (some g)) := ⟨own_below HO.out hb7, grown_belo HG.out hb7⟩
          clear hb7
          go_wp2
          go_roundw
          case rel => exact ⟨i, j + 1, _, rfl, by go_num, by omega, by omega, HO7.out.1, HK2.out, HO7.out.2⟩
          case measure => simp [intOf]; omega
      · obtain rfl : j = n := by omega
        have hlt' : ¬ ((j : Nat) : Int) < (j : Nat) := by omega
        have hcl : ∀ ty, (Builtin.clear_ #[34] ty #[.slice (some ⟨g, i, none⟩) (j - i) (cap - i)]).run Try.prog wr = .ok (.tuple #[]) (wr.setCells g i (List.replicate (j - i) (.int .i64 0))) :=
          fun ty => Lib.run_clear_slice wr _ _ ty _ h22 hzv rfl rfl g i _ _ (by omega) (fun t ht => by rw [hO.cellAt (i + t) (by omega)]; rw [List.getElem?_eq_getElem (by have := hO.1; omega)]; rfl) (fun t ht => hO.frozenAt (i + t))
        obtain ⟨xs', o1, t1, g1⟩ := own_setCells i (List.replicate (j - i) (.int .i64 0)) i wr xs (Nat.le_refl _) hO
        have HE : Hid (OwnD w base (some g) (l.filter fun x => !p x) (.returned (.slice (some ⟨g, 0, none⟩) i cap)) (wr.setCells g i (List.replicate (j - i) (.int .i64 0)))) := by
          refine ⟨_, rfl, ?_, rfl, grown_same hG g1⟩
          have := own_cut o1 (i := i) (by omega)
          rw [t1, hK.t, List.take_of_length_le (by rw [HN.out]; exact Nat.le_refl _)] at this
          have e := hK.ei
          rw [List.take_of_length_le (by rw [HN.out]; exact Nat.le_refl _)] at e
          rw [← e]
          exact this
        clear hO hK hG HJ o1 t1 g1 h22 hzv
        go_wp2
        go_ret
        exact HE.out
end Go.Proofs.Ytapfbinaocaclaa

