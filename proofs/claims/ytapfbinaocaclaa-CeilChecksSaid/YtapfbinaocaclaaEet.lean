import Derived.Test.YtapfbinaocaclaaEes
namespace Go.Proofs.Ytapfbinaocaclaa
open Go.RowKit Go.Maps
set_option linter.unusedVariables false
set_option linter.unusedSimpArgs false

/-! ### Users: the program's -/
theorem EndsAt.at {w w' : World} {b : Nat} {c : Cf} (h : EndsAt w b c) (hb : w'.heap[b]? = w.heap[b]?) : EndsAt w' b c := by
  obtain ⟨ks, ⟨nd, lt, D, ⟨es, clock, hb1, F, hs, hD⟩, h2⟩, hall⟩ := h
  exact ⟨ks, ⟨nd, lt, D, ⟨es, clock, hb.trans hb1, F, hs, hD⟩, h2⟩, hall⟩
theorem EndsAt.lt {w : World} {b : Nat} {c : Cf} (h : EndsAt w b c) : b < w.heap.size := by
  obtain ⟨ks, hM, _⟩ := h
  exact hM.block
/-- What stands beside the two rows. -/
structure UsE (w : World) (c : Cf) (bf b br q bo : Nat) (W : World) : Prop where
  bl : Below w.heap.size w W
  f : BoxM W bf b 72
  r : W.heap[br]? = some (.cells #[I (q : Int)] 3 (0, 0))
  e : EndsAt W b c
  o : BoxF W bo 33 #[.pointer (some ⟨bf, 0, none⟩), .pointer (some ⟨br, 0, none⟩)]
theorem UsE.below {w : World} {c : Cf} {bf b br q bo : Nat} {W W' : World} (h : UsE w c bf b br q bo W) (hb : Below W.heap.size W W') : UsE w c bf b br q bo W' :=
  ⟨h.bl.trans (hb.mono h.bl.size), (hb.block _ (heap_lt h.f)).trans h.f, (hb.block _ (heap_lt h.r)).trans h.r, h.e.below hb, (hb.block _ (heap_lt h.o)).trans h.o⟩
theorem UsE.fr {w : World} {c : Cf} {bf b br q bo base bi bt : Nat} {W W' : World} (h : UsE w c bf b br q bo W) (hf : Fr2 base bi bt W W') (hw : w.heap.size ≤ bi ∧ w.heap.size ≤ bt ∧ w.heap.size ≤ base) (l1 : bf < base ∧ bf ≠ bi ∧ bf ≠ bt) (l2 : br < base ∧ br ≠ bi ∧ br ≠ bt) (l3 : b < base ∧ b ≠ bi ∧ b ≠ bt) (l4 : bo < base ∧ bo ≠ bi ∧ bo ≠ bt) : UsE w c bf b br q bo W' :=
  ⟨h.bl.trans (hf.below hw.2.2 hw.1 hw.2.1), (hf.block _ l1.1 l1.2.1 l1.2.2).trans h.f, (hf.block _ l2.1 l2.2.1 l2.2.2).trans h.r, h.e.at (hf.block _ l3.1 l3.2.1 l3.2.2), (hf.block _ l4.1 l4.2.1 l4.2.2).trans h.o⟩
theorem users1_of {w : World} {c : Cf} {bf b br q bo : Nat} {W : World} (hn : c.ress.length ≤ 8796093022208) (hq : q < c.ress.length) (h : UsE w c bf b br q bo W) (l : List Int) (hid : ∀ x ∈ l, isId x c.ress.length = true) :
    ∀ W', Below W.heap.size W W' → ∀ x ∈ l, Calls Try.prog 33 (#[I x] ++ #[.pointer (some ⟨bf, 0, none⟩), .pointer (some ⟨br, 0, none⟩)]) W' fun e w' => e = .returned (.bool (rootN c x == rootN c (q : Int))) ∧ Below W'.heap.size W' w' := by
  intro W' hW x hx
  have h' := h.below hW
  have hbd : 0 ≤ x ∧ x < c.ress.length := by simpa [isId] using hid x hx
  obtain ⟨j, rfl⟩ := Int.eq_ofNat_of_zero_le hbd.1
  exact users1_any W' c hn b bf br h'.f j q (by rw [cell_of_row W' br 0 _ _ (0, 0) h'.r]; rfl) h'.e (by omega) hq
def usT (c : Cf) (q : Nat) (j : Nat) : List Int := idxL (fun x : Tk => usesB c x.res (q : Int)) c.tasks j
def usI (c : Cf) (q : Nat) (j : Nat) : List Int := idxL (fun x : Is => usesB c x.res (q : Int)) c.isrs j
set_option maxHeartbeats 8000000 in
theorem users_users (w W0 : World) (c : Cf) (v : Vs) (h : CfAt w c v) (hn : c.ress.length ≤ 8796093022208) (hnt : c.tasks.length ≤ 8796093022208) (hni : c.isrs.length ≤ 8796093022208) (hm : meetB c = true) (bf b br q bo bi bt : Nat) (hq : q < c.ress.length)
    (hE : UsE w c bf b br q bo W0) (hw : w.heap.size ≤ bi ∧ w.heap.size ≤ bt) (l1 : bf ≠ bi ∧ bf ≠ bt) (l2 : br ≠ bi ∧ br ≠ bt) (l3 : b ≠ bi ∧ b ≠ bt) (l4 : bo ≠ bi ∧ bo ≠ bt) (l5 : bi ≠ bt) (hi3 : BoxS W0 bi (.slice none 0 0)) (ht3 : BoxS W0 bt (.slice none 0 0)) :
    Calls Try.prog 34 #[.agg (cfC c v), .func (.func 35) #[] #[.pointer (some ⟨bo, 0, none⟩), .pointer (some ⟨bi, 0, none⟩), .pointer (some ⟨bt, 0, none⟩)]] W0 fun e w' => e = .returned (.tuple #[]) ∧ ∃ ui ut, TwoN w' (W0.heap.size + 1) bi bt ui ut (usI c q c.isrs.length) (usT c q c.tasks.length) ∧ Below w.heap.size w w' := by
  have zf := heap_lt hE.f
  have zr := heap_lt hE.r
  have zb := hE.e.lt
  have zo := heap_lt hE.o
  have zi := heap_lt hi3
  have zt := heap_lt ht3
  have hws := hE.bl.size
  have fr : ∀ {W W' : World}, UsE w c bf b br q bo W → Fr2 (W0.heap.size + 1) bi bt W W' → UsE w c bf b br q bo W' := fun hW hf => hW.fr hf ⟨hw.1, hw.2, by omega⟩ ⟨by omega, l1⟩ ⟨by omega, l2⟩ ⟨by omega, l3⟩ ⟨by omega, l4⟩
  refine (eachUser_any W0 c v 35 #[.pointer (some ⟨bo, 0, none⟩), .pointer (some ⟨bi, 0, none⟩), .pointer (some ⟨bt, 0, none⟩)] (enters_of Try.func35 (by kernel_rfl) rfl)
    (fun j W => ∃ ui ut, TwoN W (W0.heap.size + 1) bi bt ui ut [] (usT c q j) ∧ UsE w c bf b br q bo W)
    (fun j W => ∃ ui ut, TwoN W (W0.heap.size + 1) bi bt ui ut (usI c q j) (usT c q c.tasks.length) ∧ UsE w c bf b br q bo W)
    (fun j W W' ⟨ui, ut, h1, h2⟩ hb => ⟨ui, ut, h1.below hb, h2.below hb⟩)
    (fun j W W' ⟨ui, ut, h1, h2⟩ hb => ⟨ui, ut, h1.below hb, h2.below hb⟩)
    (fun j W ⟨_, _, _, h2⟩ => h.below h2.bl) (fun j W ⟨_, _, _, h2⟩ => h.below h2.bl)
    ⟨_, _, ⟨hi3, ht3, World.ownsRow_nil _ _ _ _, World.ownsRow_nil _ _ _ _, (fun g h => by cases h)⟩, hE⟩
    (fun W ⟨ui, ut, h1, h2⟩ => ⟨ui, ut, h1, h2⟩) ?_ ?_).mono ?_
  · rintro j x s W hx hr ⟨ui, ut, h1, h2⟩ hlt
    have hme := meet_task hm hn (List.mem_of_getElem? hx)
    refine (users2_any W false j x.prio s x.res hr 33 _ (enters_of Try.func33 (by kernel_rfl) rfl) (fun z => rootN c z == rootN c (q : Int)) bo bi bt (W0.heap.size + 1) h2.o (users1_of hn hq h2 x.res hme.1) ui ut [] (usT c q j) ⟨h1.x1, h1.x2, h1.o1, h1.o2, h1.ap, by omega, by omega, l5, by omega⟩ (by simp) (Nat.le_trans (idxL_len _ _ _) (Nat.le_trans (Nat.le_of_lt (List.getElem?_eq_some_iff.1 hx).1) hnt))).mono ?_
    rintro e w' ⟨rfl, hf, ui', ut', ht⟩
    refine ⟨rfl, ⟨ui', ut', ?_, fr h2 hf⟩, ?_, hf.size⟩
    · have e1 : usT c q (j + 1) = if ((x.res.any fun z => rootN c z == rootN c (q : Int)) && !false) = true then usT c q j ++ [(j : Int)] else usT c q j := by
        unfold usT
        rw [idxL_snoc _ hx, Bool.not_false, Bool.and_true]
        unfold usesB
        by_cases hz : (x.res.any fun z => rootN c z == rootN c (q : Int)) = true
        · rw [if_pos hz, if_pos hz]
        · rw [if_neg hz, if_neg hz, List.append_nil]
      simp only [Bool.and_false, Bool.false_eq_true, if_false] at ht
      rw [e1]
      exact ⟨ht.x1, ht.x2, ht.o1, ht.o2, ht.ap⟩
    · exact hf.block _ (by omega) (by omega) (by omega)
  · rintro j x s W hx hr ⟨ui, ut, h1, h2⟩ hlt
    have hme := meet_isr hm hn (List.mem_of_getElem? hx)
    refine (users2_any W true j x.prio s x.res hr 33 _ (enters_of Try.func33 (by kernel_rfl) rfl) (fun z => rootN c z == rootN c (q : Int)) bo bi bt (W0.heap.size + 1) h2.o (users1_of hn hq h2 x.res hme.1) ui ut (usI c q j) (usT c q c.tasks.length) ⟨h1.x1, h1.x2, h1.o1, h1.o2, h1.ap, by omega, by omega, l5, by omega⟩ (Nat.le_trans (idxL_len _ _ _) (Nat.le_trans (Nat.le_of_lt (List.getElem?_eq_some_iff.1 hx).1) hni)) (Nat.le_trans (idxL_len _ _ _) hnt)).mono ?_
    rintro e w' ⟨rfl, hf, ui', ut', ht⟩
    refine ⟨rfl, ⟨ui', ut', ?_, fr h2 hf⟩, ?_, hf.size⟩
    · have e1 : usI c q (j + 1) = if ((x.res.any fun z => rootN c z == rootN c (q : Int)) && true) = true then usI c q j ++ [(j : Int)] else usI c q j := by
        unfold usI
        rw [idxL_snoc _ hx, Bool.and_true]
        unfold usesB
        by_cases hz : (x.res.any fun z => rootN c z == rootN c (q : Int)) = true
        · rw [if_pos hz, if_pos hz]
        · rw [if_neg hz, if_neg hz, List.append_nil]
      simp only [Bool.not_true, Bool.and_false, Bool.false_eq_true, if_false] at ht
      rw [e1]
      exact ⟨ht.x1, ht.x2, ht.o1, ht.o2, ht.ap⟩
    · exact hf.block _ (by omega) (by omega) (by omega)
  · rintro e w' ⟨rfl, ui, ut, h1, h2⟩
    exact ⟨rfl, ui, ut, h1, h2.bl⟩
set_option maxHeartbeats 8000000 in
set_option maxRecDepth 100000 in
theorem users_any (w : World) (c : Cf) (v : Vs) (h : CfAt w c v) (hn : c.ress.length ≤ 8796093022208) (hnt : c.tasks.length ≤ 8796093022208) (hni : c.isrs.length ≤ 8796093022208) (r : Int) : Calls Try.prog 14 #[.agg (cfC c v), I r] w fun e w' => Own3 w (usrT c r) (usrI c r) (grpE c r) e w' := by
  have hi18 : (Try.prog.info? 33).map (·.size) = some (cfC c v).size := by rw [show (cfC c v).size = 18 from rfl]; kernel_rfl
  have hV0 := heap_two0 w (.cells (cfC c v) 33) (.cells #[I r] 3)
  have hV1 := heap_two w (.cells (cfC c v) 33) (.cells #[I r] 3)
  have hb2 : Below w.heap.size w ((w.alloc (.cells (cfC c v) 33)).alloc (.cells #[I r] 3)) := ((Below.refl w.heap.size w).alloc (Nat.le_refl _) _).alloc (by simp) _
  have krf := lookAt_any _ c v (h.below hb2) hn r
  obtain ⟨W2, hW2⟩ : ∃ W2, W2 = (w.alloc (.cells (cfC c v) 33)).alloc (.cells #[I r] 3) := ⟨_, rfl⟩
  have hs2 : W2.heap.size = w.heap.size + 2 := by rw [hW2]; simp
  rw [← hW2] at hV0 hV1 hb2 krf
  have HS2 : Hid (W2.heap.size = w.heap.size + 2) := hs2
  have HV : Hid (W2.heap[w.heap.size]? = some (.cells (cfC c v) 33 (0, 0)) ∧ W2.heap[w.heap.size + 1]? = some (.cells #[I r] 3 (0, 0)) ∧ Below w.heap.size w W2) := ⟨hV0, hV1, hb2⟩
  have y1 : W2.cell? ⟨w.heap.size + 1, 0, none⟩ = some (I r) := by rw [cell_of_row W2 _ 0 _ _ (0, 0) hV1]; rfl
  obtain ⟨R, hR⟩ : ∃ R, R = grpE c r := ⟨_, rfl⟩
  rw [← hR]
  rw [← hR] at krf
  have HR : Hid (R = grpE c r) := hR
  have HCf : Hid (CfAt w c v) := h
  clear h hb2 hR hs2 hV1
  by_cases hR0 : R = 0
  · subst hR0
    obtain ⟨hlk, hid⟩ := grp_zero HR.out.symm
    have hbd : 0 ≤ r ∧ r < c.ress.length := by simpa [isId] using hid
    obtain ⟨q, rfl⟩ := Int.eq_ofNat_of_zero_le hbd.1
    have hq : q < c.ress.length := by omega
    have HT : Hid (usrT c (q : Int) = usT c q c.tasks.length) := by show _ = _; unfold usrT usT; rw [if_pos HR.out.symm]
    have HI : Hid (usrI c (q : Int) = usI c q c.isrs.length) := by show _ = _; unfold usrI usI; rw [if_pos HR.out.symm]
    have HUU : Hid (∀ (W0 : World) (bf b br q bo bi bt : Nat) (hq : q < c.ress.length)
      (hE : UsE w c bf b br q bo W0) (hw : w.heap.size ≤ bi ∧ w.heap.size ≤ bt) (l1 : bf ≠ bi ∧ bf ≠ bt) (l2 : br ≠ bi ∧ br ≠ bt) (l3 : b ≠ bi ∧ b ≠ bt) (l4 : bo ≠ bi ∧ bo ≠ bt) (l5 : bi ≠ bt) (hi3 : BoxS W0 bi (.slice none 0 0)) (ht3 : BoxS W0 bt (.slice none 0 0)),
      Calls Try.prog 34 #[.agg (cfC c v), .func (.func 35) #[] #[.pointer (some ⟨bo, 0, none⟩), .pointer (some ⟨bi, 0, none⟩), .pointer (some ⟨bt, 0, none⟩)]] W0 fun e w' => e = .returned (.tuple #[]) ∧ ∃ ui ut, TwoN w' (W0.heap.size + 1) bi bt ui ut (usI c q c.isrs.length) (usT c q c.tasks.length) ∧ Below w.heap.size w w') := fun W0 bf b br q bo bi bt hq hE hw l1 l2 l3 l4 l5 hi3 ht3 => users_users w W0 c v HCf.out hn hnt hni (look_lk hlk).1 bf b br q bo bi bt hq hE hw l1 l2 l3 l4 l5 hi3 ht3
    have hsf : ∀ (caps : Array Value) (a : Addr) (m : Mode) (W : World), (store a (.func (.func 33) #[] caps) m).run Try.prog W = stored Try.prog W a (.func (.func 33) #[] caps) m := fun caps a m W => run_store _ W a _ m rfl
    generalize cfC c v = C at *
    clear HR hlk hid hbd
    go_enter Try.func14, Try.ntmps14
    go_upto_region 1 with fail
    rw [← hW2]
    clear hW2
    go_upto_region 6 with (first | (refine wpList_load_row rfl 33 _ rfl w.heap.size rfl 33 _ (0, 0) _ hV0 Try.underlying33 rfl hi18 ?_) | (go_at_call 31; refine krf.mono ?_; rintro e w1 hp; obtain ⟨b1, rfl, hl1, hE1⟩ := hp.got rfl; have H1 : Hid (Below W2.heap.size W2 w1 ∧ EndsAt w1 b1 c) := ⟨hp.1, hE1⟩; clear krf hp hl1 hE1 hV0 y1))
    have H4 : Hid (UsE w c w1.heap.size b1 (w.heap.size + 1) q (w1.heap.size + 3) ((((w1.alloc (.cells #[.map (some b1)] 72)).alloc (.cells #[.slice none 0 0] 34)).alloc (.cells #[.slice none 0 0] 34)).alloc (.cells #[.func (.func 33) #[] #[.pointer (some ⟨w1.heap.size, 0, none⟩), .pointer (some ⟨w.heap.size + 1, 0, none⟩)]] 81)) ∧ BoxS ((((w1.alloc (.cells #[.map (some b1)] 72)).alloc (.cells #[.slice none 0 0] 34)).alloc (.cells #[.slice none 0 0] 34)).alloc (.cells #[.func (.func 33) #[] #[.pointer (some ⟨w1.heap.size, 0, none⟩), .pointer (some ⟨w.heap.size + 1, 0, none⟩)]] 81)) (w1.heap.size + 2) (.slice none 0 0) ∧ BoxS ((((w1.alloc (.cells #[.map (some b1)] 72)).alloc (.cells #[.slice none 0 0] 34)).alloc (.cells #[.slice none 0 0] 34)).alloc (.cells #[.func (.func 33) #[] #[.pointer (some ⟨w1.heap.size, 0, none⟩), .pointer (some ⟨w.heap.size + 1, 0, none⟩)]] 81)) (w1.heap.size + 1) (.slice none 0 0) ∧ ((((w1.alloc (.cells #[.map (some b1)] 72)).alloc (.cells #[.slice none 0 0] 34)).alloc (.cells #[.slice none 0 0] 34)).alloc (.cells #[.func (.func 33) #[] #[.pointer (some ⟨w1.heap.size, 0, none⟩), .pointer (some ⟨w.heap.size + 1, 0, none⟩)]] 81)).heap[w.heap.size]? = some (.cells C 33 (0, 0))) := by
      obtain ⟨hb1, hE1⟩ := H1.out
      obtain ⟨v0, v1, hbw⟩ := HV.out
      have hs := HS2.out
      have hsz := hb1.size
      have b4 : ∀ o1 o2 o3 o4, Below w1.heap.size w1 ((((w1.alloc o1).alloc o2).alloc o3).alloc o4) := fun o1 o2 o3 o4 => ((((Below.refl w1.heap.size w1).alloc (Nat.le_refl _) _).alloc (by simp) _).alloc (by simp; omega) _).alloc (by simp; omega) _
      have u0 := (hb1.block _ (heap_lt v0)).trans v0
      have u1 := (hb1.block _ (heap_lt v1)).trans v1
      refine ⟨⟨(hbw.trans (hb1.mono (by omega))).trans ((b4 _ _ _ _).mono (by omega)), ?_, ((b4 _ _ _ _).block _ (heap_lt u1)).trans u1, hE1.below (b4 _ _ _ _), ?_⟩, ?_, ?_, ((b4 _ _ _ _).block _ (heap_lt u0)).trans u0⟩
      · exact heap_over _ _ (heap_over _ _ (heap_two0 w1 _ _))
      · have := heap_alloc_new (((w1.alloc (.cells #[.map (some b1)] 72)).alloc (.cells #[.slice none 0 0] 34)).alloc (.cells #[.slice none 0 0] 34)) (.cells #[.func (.func 33) #[] #[.pointer (some ⟨w1.heap.size, 0, none⟩), .pointer (some ⟨w.heap.size + 1, 0, none⟩)]] 81)
        simp only [World.size_alloc] at this
        exact this
      · have := heap_alloc_new ((w1.alloc (.cells #[.map (some b1)] 72)).alloc (.cells #[.slice none 0 0] 34)) (.cells #[.slice none 0 0] 34)
        simp only [World.size_alloc] at this
        exact heap_over _ _ this
      · exact heap_over _ _ (heap_over _ _ (heap_two w1 _ _))
    have HL : Hid (b1 < w1.heap.size ∧ w.heap.size + 2 ≤ w1.heap.size) := ⟨H1.out.2.lt, by have := H1.out.1.size; have := HS2.out; omega⟩
    clear H1 hsf
    generalize ((((w1.alloc (.cells #[.map (some b1)] 72)).alloc (.cells #[.slice none 0 0] 34)).alloc (.cells #[.slice none 0 0] 34)).alloc (.cells #[.func (.func 33) #[] #[.pointer (some ⟨w1.heap.size, 0, none⟩), .pointer (some ⟨w.heap.size + 1, 0, none⟩)]] 81)) = w5 at *
    have ku := HUU.out w5 w1.heap.size b1 (w.heap.size + 1) q (w1.heap.size + 3) (w1.heap.size + 2) (w1.heap.size + 1) hq H4.out.1 (by have := HL.out; omega) (by omega) (by have := HL.out; omega) (by have := HL.out; omega) (by omega) (by omega) H4.out.2.1 H4.out.2.2.1
    have hV5 := H4.out.2.2.2
    have hw5 : Hid (w.heap.size ≤ w5.heap.size) := H4.out.1.bl.size
    clear H4 HUU
    go_upto_region 7 with (first | (refine wpList_load_row rfl 33 _ rfl w.heap.size rfl 33 _ (0, 0) _ hV5 Try.underlying33 rfl hi18 ?_) | (go_at_call 34; refine ku.mono ?_; clear ku; rintro e w6 ⟨rfl, ui, ut, hT, hbw⟩; obtain ⟨si, rfl, hsi⟩ := slice_of_own hT.o1; obtain ⟨st, rfl, hst⟩ := slice_of_own hT.o2; have zi : w6.cell? ⟨w1.heap.size + 1 + 1, 0, none⟩ = some (.slice si.a si.n si.c) := (by rw [cell_of_row w6 _ 0 _ _ (0, 0) hT.x1]; rfl); have zt : w6.cell? ⟨w1.heap.size + 1, 0, none⟩ = some (.slice st.a st.n st.c) := (by rw [cell_of_row w6 _ 0 _ _ (0, 0) hT.x2]; rfl); have HTT : Hid (TwoN w6 (w5.heap.size + 1) (w1.heap.size + 2) (w1.heap.size + 1) (.slice si.a si.n si.c) (.slice st.a st.n st.c) (usI c q c.isrs.length) (usT c q c.tasks.length) ∧ Below w.heap.size w w6) := ⟨hT, hbw⟩; clear hT hbw hsi hst hV5))
    go_big_region
    clear zi zt
    go_wp2
    refine bodyPost_ret (v := .tuple #[.slice st.a st.n st.c, .slice si.a si.n si.c, I 0]) ?_ rfl ?_
    · simp [results, Try.results14, go_sem]
    · obtain ⟨hT, hbw⟩ := HTT.out
      have hw5 := hw5.out
      refine ⟨_, _, rfl, ?_, ?_, fun g h1 h2 => hT.ap g h2 h1, ⟨hbw.os, hbw.tape, hbw.output, hbw.size, hbw.block⟩⟩
      · rw [HT.out]; exact own_mono hT.o2.drew (by omega)
      · rw [HI.out]; exact own_mono hT.o1.drew (by omega)
  · have HT : Hid (usrT c r = []) := by show _ = _; unfold usrT; rw [if_neg (by rw [← HR.out]; exact hR0)]
    have HI : Hid (usrI c r = []) := by show _ = _; unfold usrI; rw [if_neg (by rw [← HR.out]; exact hR0)]
    have hE1 : (R != 0) = true := by simpa using hR0
    generalize cfC c v = C at *
    clear HR
    go_enter Try.func14, Try.ntmps14
    go_upto_region 1 with fail
    rw [← hW2]
    clear hW2
    go_wp2_with (first | (refine wpList_load_row rfl 33 _ rfl w.heap.size rfl 33 _ (0, 0) _ hV0 Try.underlying33 rfl hi18 ?_) | (go_at_call 31; refine krf.mono ?_; rintro e w1 hp; obtain rfl := hp.not hR0; have HB1 : Hid (Below W2.heap.size W2 w1) := hp.1; clear krf hp hV0 y1))
    refine bodyPost_ret (v := .tuple #[.slice none 0 0, .slice none 0 0, I R]) ?_ rfl ?_
    · simp [results, Try.results14, go_sem]
    · have hb1 := HB1.out
      have hs := HS2.out
      have hsz := hb1.size
      exact own3_nil ((HV.out.2.2.trans (hb1.mono (by omega))).trans ((below_alloc w1 _).mono (by omega))) HT.out HI.out
end Go.Proofs.Ytapfbinaocaclaa
