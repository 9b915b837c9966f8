import Derived.Test.YtglnfifdjlgbcaaGreatDoorXJe
import Derived.MapKept
namespace Go.Proofs.YtglnfifdjlgbcaaGreatDoor
open Go.RowKit Go.Maps Go.Shelf Go.Sort
open Go.Proofs.YtglnfifdjlgbcaaGreatDoor.St (Fx Fz iQ iP iV)
set_option linter.unusedVariables false
set_option linter.unusedSimpArgs false
set_option maxRecDepth 100000
set_option maxHeartbeats 8000000
def termS (s : Cs) : Cs := if freA s = 0 then { s with lv := 1 } else s
def prT (tb : Tb) (t : Int) : Int := match tb.tasks[t.toNat]? with | some x => x.prio | none => 0
def actC (tb : Tb) (s : Cs) (t : Int) : Cs := if Tk.actS (actR tb) s.ss t = 0 then { s with ss := Tk.actL (actR tb) s.ss t, ef := if Tk.actB (actR tb) s.ss t = true then Ev.freF tb.tasks.length s.ef t else s.ef, rq := joinQ s.rq (prT tb t) t } else s
def waitQ (s : Cs) : Bool := (topQ s.rq).isSome || decide (0 < s.st.length)
theorem bits_zero (rs : List Re.Rr) : ((Re.bitsR 0 rs : Nat) = 0) ↔ topQ rs = none := by
  rcases top_cases rs with ⟨h1, h2⟩ | ⟨i, r, h1, h2, h3, h4⟩
  · refine ⟨fun _ => h1, fun _ => ?_⟩
    apply Nat.eq_of_testBit_eq
    intro q
    rw [Nat.zero_testBit]
    cases hb : (Re.bitsR 0 rs).testBit q with
    | false => rfl
    | true =>
      rcases (Re.bitsR_bit rs 0 q).1 hb with e | ⟨i, r, e1, -, e3⟩
      · simp at e
      · exact absurd (h2 i r e1) e3
  · refine ⟨fun e => ?_, fun e => by rw [h1] at e; cases e⟩
    have := (Re.bitsR_bit rs 0 r.p).2 (.inr ⟨i, r, h2, rfl, h3⟩)
    rw [e] at this
    simp at this
section
variable {W w w' : World} {zn : Nat → Nat} {tb : Tb} {p : Pl} {s : Cs}
theorem cTerminate (h : Co W w zn tb p s) : Calls Tryz.prog 12 #[lp p.C] w fun e w' => e = .returned (I (freA s)) ∧ Co W w' zn tb p (termS s) ∧ Fz (Zn zn) w w' := by
  have hF := cFree h
  have H : Hid (Co W w zn tb p s) := h
  clear h
  by_cases h0 : freA s = 0
  · have e1 : termS s = { s with lv := 1 } := by unfold termS; rw [if_pos h0]
    rw [e1, h0]
    rw [h0] at hF
    clear e1 h0
    go_enter Tryz.func12, Tryz.ntmps12
    go_upto_region 2 with (first | (go_at_call 46; refine hF.mono ?_; clear hF; rintro e w2 ⟨rfl, b2⟩))
    have b3 := b2.trans ((below_alloc w2 (.cells #[.bool false, I (freO s)] 109)).mono b2.size)
    generalize w2.alloc (.cells #[.bool false, I (freO s)] 109) = w3 at *
    have h3 := H.out.below b3
    obtain ⟨-, -, -, -, -, -, -, c7, -⟩ := h3.cells
    have fr := h3.frz 7
    have HK : Hid _ := h3.setLv 1
    have HB : Hid (Below w.heap.size w w3) := b3
    clear b2 b3 h3
    go_wp2
    go_ret
    exact ⟨rfl, HK.out.1, (Fz.of_below HB.out).trans HK.out.2⟩
  · have e1 : termS s = s := by unfold termS; rw [if_neg h0]
    rw [e1]
    generalize hA : freA s = A at *
    have hA2 : (A == 0) = false := beq_eq_false_iff_ne.2 h0
    clear e1 hA h0
    go_enter Tryz.func12, Tryz.ntmps12
    go_upto_region 2 with (first | (go_at_call 46; refine hF.mono ?_; clear hF; rintro e w2 ⟨rfl, b2⟩))
    have b3 := b2.trans ((below_alloc w2 (.cells #[.bool false, I (freO s)] 109)).mono b2.size)
    generalize w2.alloc (.cells #[.bool false, I (freO s)] 109) = w3 at *
    have HB : Hid (Below w.heap.size w w3) := b3
    clear b2 b3
    go_wp2
    go_ret
    exact ⟨rfl, H.out.below HB.out, Fz.of_below HB.out⟩
theorem cActivate (h : Co W w zn tb p s) (t : Int) : Calls Tryz.prog 10 #[lp p.C, I t] w fun e w' => e = .returned (I (Tk.actS (actR tb) s.ss t)) ∧ Co W w' zn tb p (actC tb s t) ∧ Fz (Zn zn) w w' := by
  obtain ⟨-, -, -, c3, -, -, -, -, -⟩ := h.cells
  have hN := cNone h
  have hT : Calls Tryz.prog 39 #[Tk.cP p.T, I t] w fun e w' => e = .returned (.tuple #[.bool (Tk.actB (actR tb) s.ss t), I (Tk.actS (actR tb) s.ss t)]) ∧ Co W w' zn tb p { s with ss := Tk.actL (actR tb) s.ss t } ∧ Fz (Zn zn) w w' := (Tk.tActivate h.t t).mono (fun e w' k => ⟨k.1, h.setT k.2.1 k.2.2⟩)
  have hnA := h.nA
  clear h
  by_cases h0 : Tk.actS (actR tb) s.ss t = 0
  · obtain ⟨k, x, rfl, hx⟩ : ∃ (k : Nat) (x : TkR), t = (k : Int) ∧ tb.tasks[k]? = some x := by
      by_cases hb : Tk.hasB (actR tb).length t = true
      · unfold Tk.hasB at hb
        simp at hb
        obtain ⟨k, rfl⟩ := Int.eq_ofNat_of_zero_le hb.1
        exact ⟨k, _, rfl, List.getElem?_eq_getElem (by rw [← hnA]; omega)⟩
      · unfold Tk.actS at h0
        rw [if_neg hb] at h0
        cases h0
    have hp : prT tb k = x.prio := by unfold prT; rw [Int.toNat_natCast, hx]
    have e1 : actC tb s k = { s with ss := Tk.actL (actR tb) s.ss k, ef := if Tk.actB (actR tb) s.ss k = true then Ev.freF tb.tasks.length s.ef k else s.ef, rq := joinQ s.rq x.prio k } := by unfold actC; rw [if_pos h0, hp]
    rw [e1, h0]
    rw [h0] at hT
    generalize Tk.actL (actR tb) s.ss k = L1 at *
    have HX : Hid (tb.tasks[k]? = some x) := hx
    clear e1 h0 hp hx hnA
    cases hB : Tk.actB (actR tb) s.ss k with
    | false =>
      rw [hB] at hT
      simp only [Bool.false_eq_true, if_false]
      clear hB
      go_enter Tryz.func10, Tryz.ntmps10
      go_wp2_with (first
        | (go_at_call 38; refine hN.mono ?_; clear hN; rintro e w2 ⟨rfl, rfl⟩)
        | (go_at_call 39; refine hT.mono ?_; clear hT; rintro e w3 ⟨rfl, k3, f3⟩; have hJ := cJoin k3 HX.out; have F3 : Hid (Fz (Zn zn) w w3) := f3; clear k3 f3)
        | (go_at_call 41; refine hJ.mono ?_; clear hJ; rintro e w5 ⟨rfl, k5, f5⟩; have HK : Hid (Co W w5 zn tb p { s with ss := L1, rq := joinQ s.rq x.prio k } ∧ Fz (Zn zn) w w5) := ⟨k5, F3.out.trans f5⟩; clear k5 f5))
      go_ret
      exact ⟨rfl, HK.out⟩
    | true =>
      rw [hB] at hT
      simp only [if_true]
      clear hB
      go_enter Tryz.func10, Tryz.ntmps10
      go_wp2_with (first
        | (go_at_call 38; refine hN.mono ?_; clear hN; rintro e w2 ⟨rfl, rfl⟩)
        | (go_at_call 39; refine hT.mono ?_; clear hT c3; rintro e w3 ⟨rfl, k3, f3⟩; obtain ⟨-, -, -, -, -, c5, -, -, -⟩ := k3.cells; have hE : Calls Tryz.prog 40 #[Ev.eP p.E, I k] w3 fun e w' => (∃ v, e = .returned v) ∧ Co W w' zn tb p { s with ss := L1, ef := Ev.freF tb.tasks.length s.ef k } ∧ Fz (Zn zn) w3 w' := ((Ev.Fre_any k3.e k).mono (fun e w' q => ⟨⟨_, q.1⟩, k3.setE q.2.1 q.2.2⟩)); have F3 : Hid (Fz (Zn zn) w w3) := f3; clear k3 f3)
        | (go_at_call 40; refine hE.mono ?_; clear hE c5; rintro e w4 ⟨⟨vv, rfl⟩, k4, f4⟩; have hJ := cJoin k4 HX.out; have F4 : Hid (Fz (Zn zn) w w4) := F3.out.trans f4; clear k4 f4)
        | (go_at_call 41; refine hJ.mono ?_; clear hJ; rintro e w5 ⟨rfl, k5, f5⟩; have HK : Hid (Co W w5 zn tb p { s with ss := L1, ef := Ev.freF tb.tasks.length s.ef k, rq := joinQ s.rq x.prio k } ∧ Fz (Zn zn) w w5) := ⟨k5, F4.out.trans f5⟩; clear k5 f5))
      go_ret
      exact ⟨rfl, HK.out⟩
  · have e1 : actC tb s t = s := by unfold actC; rw [if_neg h0]
    have e2 : Tk.actL (actR tb) s.ss t = s.ss := by unfold Tk.actL; rw [if_neg h0]
    rw [e1]
    rw [e2] at hT
    generalize Tk.actS (actR tb) s.ss t = A at *
    generalize Tk.actB (actR tb) s.ss t = Bb at *
    have hA2 : (A == 0) = false := beq_eq_false_iff_ne.2 h0
    clear e1 e2 h0
    go_enter Tryz.func10, Tryz.ntmps10
    go_wp2_with (first
      | (go_at_call 38; refine hN.mono ?_; clear hN; rintro e w2 ⟨rfl, rfl⟩)
      | (go_at_call 39; refine hT.mono ?_; clear hT; rintro e w3 ⟨rfl, k3, f3⟩; have HK : Hid (Co W w3 zn tb p s ∧ Fz (Zn zn) w w3) := ⟨k3, f3⟩; clear k3 f3))
    go_ret
    exact ⟨rfl, HK.out⟩
theorem cWaiting (h : Co W w zn tb p s) : Calls Tryz.prog 14 #[lp p.C] w fun e w' => e = .returned (.bool (waitQ s)) ∧ w = w' := by
  obtain ⟨-, -, -, -, c4, -, c6, -, -⟩ := h.cells
  have hN := cNone h
  have hB := Re.rBits h.q
  have hL := St.iLenQ h.k
  have hz := bits_zero s.rq
  unfold waitQ
  clear h
  generalize Re.bitsR 0 s.rq = F at *
  generalize s.st.length = n at *
  by_cases hF : F = 0
  · have ht : topQ s.rq = none := hz.1 hF
    rw [ht]
    subst hF
    clear hz ht
    go_enter Tryz.func14, Tryz.ntmps14
    go_wp2_with (first
      | (go_at_call 38; refine hN.mono ?_; clear hN; rintro e w2 ⟨rfl, rfl⟩)
      | (go_at_call 48; refine hB.mono ?_; clear hB; rintro e w2 ⟨rfl, rfl⟩)
      | (go_at_call 49; refine hL.mono ?_; clear hL; rintro e w2 ⟨rfl, rfl⟩))
    go_ret
    exact ⟨by simp, rfl⟩
  · have ht : (topQ s.rq).isSome = true := by
      cases hq : topQ s.rq with
      | none => exact absurd (hz.2 hq) hF
      | some _ => rfl
    rw [ht]
    have hF2 : ((F : Int) == 0) = false := beq_eq_false_iff_ne.2 (by omega)
    clear hz ht
    go_enter Tryz.func14, Tryz.ntmps14
    go_wp2_with (first
      | (go_at_call 38; refine hN.mono ?_; clear hN; rintro e w2 ⟨rfl, rfl⟩)
      | (go_at_call 48; refine hB.mono ?_; clear hB; rintro e w2 ⟨rfl, rfl⟩)
      | (go_at_call 49; refine hL.mono ?_; clear hL; rintro e w2 ⟨rfl, rfl⟩))
    go_ret
    exact ⟨by simp, rfl⟩
end
end Go.Proofs.YtglnfifdjlgbcaaGreatDoor

namespace Go.Proofs.YtglnfifdjlgbcaaGreatDoor
open Go.RowKit Go.Maps Go.Shelf Go.Sort
open Go.Proofs.YtglnfifdjlgbcaaGreatDoor.St (Fx Fz iQ iP iV)
set_option linter.unusedVariables false
set_option linter.unusedSimpArgs false
set_option maxRecDepth 100000
set_option maxHeartbeats 8000000
def takQ : List Re.Rr → Int × List Re.Rr
  | [] => (0, [])
  | r :: rs => match r.l with
    | v :: t => (v, ⟨r.p, r.c, r.h, t⟩ :: rs)
    | [] => ((takQ rs).1, r :: (takQ rs).2)
theorem takQ_no : ∀ {rs : List Re.Rr}, (∀ (i : Nat) (r : Re.Rr), rs[i]? = some r → r.l = []) → takQ rs = (0, rs)
  | [], _ => rfl
  | r :: rs, h => by
    have h0 : r.l = [] := h 0 r rfl
    have h1 := takQ_no (rs := rs) (fun i b hb => h (i + 1) b (by simpa using hb))
    unfold takQ
    rw [h0, h1]
theorem takQ_ok : ∀ {rs : List Re.Rr} {i : Nat} {r : Re.Rr} {v : Int} {t : List Int}, rs[i]? = some r → r.l = v :: t → (∀ (j : Nat) (b : Re.Rr), j < i → rs[j]? = some b → b.l = []) → takQ rs = (v, rs.set i ⟨r.p, r.c, r.h, t⟩)
  | a :: rs, 0, r, v, t, h, hl, _ => by
    cases h
    unfold takQ
    rw [hl]
    rfl
  | a :: rs, i + 1, r, v, t, h, hl, hj => by
    have h0 : a.l = [] := hj 0 a (by omega) rfl
    have h1 := takQ_ok (rs := rs) (i := i) (by simpa using h) hl (fun j b hjb hb => hj (j + 1) b (by omega) (by simpa using hb))
    unfold takQ
    rw [h0, h1]
    rfl
theorem takQ_mem : ∀ {rs : List Re.Rr}, (takQ rs).1 = 0 ∨ ∃ r ∈ rs, (takQ rs).1 ∈ r.l
  | [] => .inl rfl
  | r :: rs => by
    cases hl : r.l with
    | nil =>
      have e : (takQ (r :: rs)).1 = (takQ rs).1 := by rw [takQ, hl]
      rw [e]
      rcases takQ_mem (rs := rs) with h | ⟨b, hb, h⟩
      · exact .inl h
      · exact .inr ⟨b, List.mem_cons_of_mem _ hb, h⟩
    | cons v t =>
      have e : (takQ (r :: rs)).1 = v := by rw [takQ, hl]
      rw [e]
      exact .inr ⟨r, List.mem_cons_self, by rw [hl]; exact List.mem_cons_self⟩
/-- numbers that a core holds are numbers of tasks -/
structure OKn (tb : Tb) (s : Cs) : Prop where
  st : ∀ x ∈ s.st, 0 ≤ x ∧ x < tb.tasks.length
  rq : ∀ r ∈ s.rq, ∀ x ∈ r.l, 0 ≤ x ∧ x < tb.tasks.length
def bestT (tb : Tb) (s : Cs) : Option Int := match s.st.getLast? with | some x => if aboveQ s.rq (prioO tb s.l ⟨false, x⟩) = true then none else some x | none => none
def bestI (tb : Tb) (s : Cs) : Int := match bestT tb s with | some x => x | none => (takQ s.rq).1
def bestS (tb : Tb) (s : Cs) : Cs := match bestT tb s with | some x => { s with st := s.st.dropLast } | none => { s with rq := (takQ s.rq).2 }
theorem last_int {l : List Int} {x : Int} (h : l.getLast? = some x) : l = l.dropLast ++ [x] := by
  rcases List.eq_nil_or_concat l with hn | ⟨xs, y, hn⟩
  · rw [hn] at h; cases h
  · rw [List.concat_eq_append] at hn
    subst hn
    simp at h
    subst h
    simp
section
variable {W w w' : World} {zn : Nat → Nat} {tb : Tb} {p : Pl} {s : Cs}
theorem qTake (h : Co W w zn tb p s) : Calls Tryz.prog 122 #[Re.qP p.Q] w fun e w' => (∃ pr er : Int, e = .returned (.tuple #[.agg #[I pr, I (takQ s.rq).1], I er])) ∧ Co W w' zn tb p { s with rq := (takQ s.rq).2 } ∧ Fz (Zn zn) w w' := by
  rcases top_cases s.rq with ⟨h1, h2⟩ | ⟨i, r, h1, h2, h3, h4⟩
  · rw [takQ_no h2]
    exact (Re.rTake_no h.q h2).mono (fun e w' k => ⟨⟨_, _, k.1⟩, h.setQ k.2.1 k.2.2⟩)
  · obtain ⟨v, t, hl⟩ : ∃ v t, r.l = v :: t := by
      cases hl : r.l with
      | nil => exact absurd hl h3
      | cons v t => exact ⟨v, t, rfl⟩
    rw [takQ_ok h2 hl h4]
    exact (Re.rTake_ok h.q h2 hl h4).mono (fun e w' k => ⟨⟨_, _, k.1⟩, h.setQ k.2.1 k.2.2⟩)
theorem Co.wfN (h : Co W w zn tb p s) {x : Int} (hx : 0 ≤ x ∧ x < tb.tasks.length) : (Lit.int .i64 x).wf = true := WalkArith.wf_i64 (by have := h.n256; omega)
theorem qTop (h : Co W w zn tb p s) : Calls Tryz.prog 119 #[iP p.S] w fun e w' => e = .returned (.tuple #[I (s.st.getLast?.getD 0), .bool s.st.getLast?.isSome]) ∧ Below w.heap.size w w' := by
  cases hl : s.st.getLast? with
  | none =>
    have e : s.st = [] := List.getLast?_eq_none_iff.1 hl
    have hk := h.k
    rw [e] at hk
    exact (St.iTopN hk).mono (fun e w' k => ⟨k.1, by rw [← k.2]; exact Below.refl _ _⟩)
  | some x =>
    have hk := h.k
    rw [last_int hl] at hk
    exact St.iTopQ x hk
theorem cBest_take (h : Co W w zn tb p s) (ok : OKn tb s) (hb : bestT tb s = none) : Calls Tryz.prog 43 #[lp p.C] w fun e w' => e = .returned (I (bestI tb s)) ∧ Co W w' zn tb p (bestS tb s) ∧ Fz (Zn zn) w w' := by
  obtain ⟨-, -, -, -, -, -, c6, -, -⟩ := h.cells
  have hT := qTop h
  have e1 : bestI tb s = (takQ s.rq).1 := by unfold bestI; rw [hb]
  have e2 : bestS tb s = { s with rq := (takQ s.rq).2 } := by unfold bestS; rw [hb]
  rw [e1, e2]
  have H : Hid (Co W w zn tb p s) := h
  unfold bestT at hb
  clear e1 e2 h
  cases hl : s.st.getLast? with
  | none =>
    rw [hl] at hT
    clear hb hl
    go_enter Tryz.func43, Tryz.ntmps43
    go_upto_region 6 with (first
      | (go_at_call 119; refine hT.mono ?_; clear hT c6; rintro e w2 ⟨rfl, b2⟩; have h2 := H.out.below b2; obtain ⟨-, -, -, -, c4, -, -, -, -⟩ := h2.cells; have hQ := qTake h2; have B2 : Hid (Below w.heap.size w w2) := b2; clear b2 h2)
      | (go_at_call 122; refine hQ.mono ?_; clear hQ; rintro e w4 ⟨⟨pr, er, rfl⟩, k4, f4⟩))
    have b5 := below_alloc w4 (.cells #[I pr, I (takQ s.rq).1] 213)
    have HK : Hid (Co W (w4.alloc (.cells #[I pr, I (takQ s.rq).1] 213)) zn tb p { s with rq := (takQ s.rq).2 } ∧ Fz (Zn zn) w (w4.alloc (.cells #[I pr, I (takQ s.rq).1] 213))) := ⟨k4.below b5, ((Fz.of_below B2.out).trans f4).trans (Fz.of_below b5)⟩
    have x1 : (w4.alloc (.cells #[I pr, I (takQ s.rq).1] 213)).cell? ⟨w4.heap.size, 1, none⟩ = some (I (takQ s.rq).1) := cell_of_row _ _ 1 _ _ (0, 0) (heap_alloc_new w4 _)
    clear b5 k4 f4
    generalize w4.alloc (.cells #[I pr, I (takQ s.rq).1] 213) = w5 at *
    go_wp2
    go_ret
    exact ⟨rfl, HK.out⟩
  | some x =>
    rw [hl] at hT hb
    simp only [Option.getD_some, Option.isSome_some] at hT
    have ha : aboveQ s.rq (prioO tb s.l ⟨false, x⟩) = true := by
      cases hz : aboveQ s.rq (prioO tb s.l ⟨false, x⟩) with
      | true => rfl
      | false => simp only at hb; rw [hz] at hb; simp at hb
    have hx := H.out.wfN (ok.st x (List.mem_of_getLast? hl))
    clear hb hl
    go_enter Tryz.func43, Tryz.ntmps43
    go_upto_region 6 with (first
      | (go_at_call 119; refine hT.mono ?_; clear hT c6; rintro e w2 ⟨rfl, b2⟩; have hO := cOwner w2 x; have B2 : Hid (Below w.heap.size w w2) := b2; clear b2)
      | (go_at_call 120; refine hO.mono ?_; clear hO; rintro e w3 ⟨rfl, b3⟩; have B3 : Hid (Below w.heap.size w w3) := B2.out.trans (b3.mono B2.out.size); have hP := cPriority (H.out.below B3.out) ⟨false, x⟩ hx; clear b3)
      | (go_at_call 54; refine hP.mono ?_; clear hP; rintro e w4 ⟨rfl, b4⟩; have B4 : Hid (Below w.heap.size w w4) := B3.out.trans (b4.mono B3.out.size); have hA := cAbove (H.out.below B4.out) (prioO tb s.l ⟨false, x⟩); rw [ha] at hA; clear b4)
      | (go_at_call 53; refine hA.mono ?_; clear hA; rintro e w5 ⟨rfl, rfl⟩; have h2 := H.out.below B4.out; obtain ⟨-, -, -, -, c4, -, -, -, -⟩ := h2.cells; have hQ := qTake h2; clear h2)
      | (go_at_call 122; refine hQ.mono ?_; clear hQ; rintro e w6 ⟨⟨pr, er, rfl⟩, k4, f4⟩))
    have b5 := below_alloc w6 (.cells #[I pr, I (takQ s.rq).1] 213)
    have HK : Hid (Co W (w6.alloc (.cells #[I pr, I (takQ s.rq).1] 213)) zn tb p { s with rq := (takQ s.rq).2 } ∧ Fz (Zn zn) w (w6.alloc (.cells #[I pr, I (takQ s.rq).1] 213))) := ⟨k4.below b5, ((Fz.of_below B4.out).trans f4).trans (Fz.of_below b5)⟩
    have x1 : (w6.alloc (.cells #[I pr, I (takQ s.rq).1] 213)).cell? ⟨w6.heap.size, 1, none⟩ = some (I (takQ s.rq).1) := cell_of_row _ _ 1 _ _ (0, 0) (heap_alloc_new w6 _)
    clear b5 k4 f4
    generalize w6.alloc (.cells #[I pr, I (takQ s.rq).1] 213) = w7 at *
    go_wp2
    go_ret
    exact ⟨rfl, HK.out⟩
theorem cBest_top (h : Co W w zn tb p s) (ok : OKn tb s) {x : Int} (hb : bestT tb s = some x) : Calls Tryz.prog 43 #[lp p.C] w fun e w' => e = .returned (I (bestI tb s)) ∧ Co W w' zn tb p (bestS tb s) ∧ Fz (Zn zn) w w' := by
  obtain ⟨-, -, -, -, -, -, c6, -, -⟩ := h.cells
  have hT := qTop h
  have e1 : bestI tb s = x := by unfold bestI; rw [hb]
  have e2 : bestS tb s = { s with st := s.st.dropLast } := by unfold bestS; rw [hb]
  rw [e1, e2]
  have H : Hid (Co W w zn tb p s) := h
  unfold bestT at hb
  clear e1 e2 h
  obtain ⟨hl, ha⟩ : s.st.getLast? = some x ∧ aboveQ s.rq (prioO tb s.l ⟨false, x⟩) = false := by
    cases hl : s.st.getLast? with
    | none => rw [hl] at hb; cases hb
    | some y =>
      rw [hl] at hb
      simp only at hb
      cases hz : aboveQ s.rq (prioO tb s.l ⟨false, y⟩) with
      | true => rw [hz] at hb; simp at hb
      | false => rw [hz] at hb; simp at hb; subst hb; exact ⟨rfl, hz⟩
  rw [hl] at hT
  simp only [Option.getD_some, Option.isSome_some] at hT
  have hx := H.out.wfN (ok.st x (List.mem_of_getLast? hl))
  have HL : Hid (s.st = s.st.dropLast ++ [x]) := last_int hl
  clear hb hl
  go_enter Tryz.func43, Tryz.ntmps43
  go_wp2_with (first
    | (go_at_call 119; refine hT.mono ?_; clear hT c6; rintro e w2 ⟨rfl, b2⟩; have hO := cOwner w2 x; have B2 : Hid (Below w.heap.size w w2) := b2; clear b2)
    | (go_at_call 120; refine hO.mono ?_; clear hO; rintro e w3 ⟨rfl, b3⟩; have B3 : Hid (Below w.heap.size w w3) := B2.out.trans (b3.mono B2.out.size); have hP := cPriority (H.out.below B3.out) ⟨false, x⟩ hx; clear b3)
    | (go_at_call 54; refine hP.mono ?_; clear hP; rintro e w4 ⟨rfl, b4⟩; have B4 : Hid (Below w.heap.size w w4) := B3.out.trans (b4.mono B3.out.size); have hA := cAbove (H.out.below B4.out) (prioO tb s.l ⟨false, x⟩); rw [ha] at hA; clear b4)
    | (go_at_call 53; refine hA.mono ?_; clear hA; rintro e w5 ⟨rfl, rfl⟩; have h2 := H.out.below B4.out; obtain ⟨-, -, -, -, -, -, c6, -, -⟩ := h2.cells; have hk := h2.k; rw [HL.out] at hk; have hQ : Calls Tryz.prog 121 #[iP p.S] w4 fun e w' => (∃ v, e = .returned v) ∧ Co W w' zn tb p { s with st := s.st.dropLast } ∧ Fz (Zn zn) w4 w' := ((St.iPopQ x hk).mono (fun e w' k => ⟨⟨_, k.1⟩, h2.setS k.2.1 k.2.2⟩)); clear h2 hk)
    | (go_at_call 121; refine hQ.mono ?_; clear hQ; rintro e w6 ⟨⟨vv, rfl⟩, k4, f4⟩; have HK : Hid (Co W w6 zn tb p { s with st := s.st.dropLast } ∧ Fz (Zn zn) w w6) := ⟨k4, (Fz.of_below B4.out).trans f4⟩; clear k4 f4))
  go_ret
  exact ⟨rfl, HK.out⟩
theorem cBest (h : Co W w zn tb p s) (ok : OKn tb s) : Calls Tryz.prog 43 #[lp p.C] w fun e w' => e = .returned (I (bestI tb s)) ∧ Co W w' zn tb p (bestS tb s) ∧ Fz (Zn zn) w w' := by
  cases hb : bestT tb s with
  | none => exact cBest_take h ok hb
  | some x => exact cBest_top h ok hb
end
end Go.Proofs.YtglnfifdjlgbcaaGreatDoor

namespace Go.Proofs.YtglnfifdjlgbcaaGreatDoor
open Go.RowKit Go.Maps Go.Shelf Go.Sort
open Go.Proofs.YtglnfifdjlgbcaaGreatDoor.St (Fx Fz iQ iP iV)
set_option linter.unusedVariables false
set_option linter.unusedSimpArgs false
set_option maxRecDepth 100000
set_option maxHeartbeats 8000000
def entL (tb : Tb) (l : Ls) (t : Int) : Ls := match obs tb (tkO t) with | some q => ⟨l.L, insF l.i (tkO t) (q.inner != -1), l.g⟩ | none => l
def levL (tb : Tb) (l : Ls) (t : Int) : Ls := match obs tb (tkO t) with | some q => ⟨l.L, insF l.i (tkO t) false, l.g⟩ | none => l
def goS (tb : Tb) (s : Cs) (t : Int) : Cs := { s with ss := Tk.staL (actR tb) s.ss t, l := entL tb s.l t }
def runS (tb : Tb) (s : Cs) : Cs := if Tk.runI s.ss = -1 then (if waitQ s = true then goS tb (bestS tb s) (bestI tb s) else s) else s
def runT (tb : Tb) (s : Cs) : Int := if Tk.runI s.ss = -1 then (if waitQ s = true then bestI tb s else -1) else -1
def runE (s : Cs) : Int := if Tk.runI s.ss = -1 then (if waitQ s = true then 0 else 180) else 181
section
variable {W w w' : World} {zn : Nat → Nat} {tb : Tb} {p : Pl} {s : Cs}
theorem lEnter (h : Co W w zn tb p s) (t : Int) (ht : (tkO t).wf) : Calls Tryz.prog 45 #[lp p.B, I t] w fun e w' => (∃ v, e = .returned v) ∧ Co W w' zn tb p { s with l := entL tb s.l t } ∧ Fz (Zn zn) w w' := by
  unfold entL
  cases ho : obs tb (tkO t) with
  | none => exact (Enter_no h.l t ht ho).mono (fun e w' k => ⟨⟨_, k.1⟩, h.below k.2, Fz.of_below k.2⟩)
  | some q => exact (Enter_ok h.l t ht q ho).mono (fun e w' k => ⟨⟨_, k.1⟩, h.setL k.2.1 k.2.2⟩)
theorem lLeave (h : Co W w zn tb p s) (t : Int) (ht : (tkO t).wf) : Calls Tryz.prog 220 #[lp p.B, I t] w fun e w' => (∃ v, e = .returned v) ∧ Co W w' zn tb p { s with l := levL tb s.l t } ∧ Fz (Zn zn) w w' := by
  unfold levL
  cases ho : obs tb (tkO t) with
  | none => exact (Leave_no h.l t ht ho).mono (fun e w' k => ⟨⟨_, k.1⟩, h.below k.2, Fz.of_below k.2⟩)
  | some q => exact (Leave_ok h.l t ht q ho).mono (fun e w' k => ⟨⟨_, k.1⟩, h.setL k.2.1 k.2.2⟩)
theorem Co.wfB (h : Co W w zn tb p s) (ok : OKn tb s) : (tkO (bestI tb s)).wf := by
  have h0 : (tkO 0).wf := wf_small (k := 0) (by omega)
  unfold bestI
  cases hb : bestT tb s with
  | some x =>
    unfold bestT at hb
    cases hl : s.st.getLast? with
    | none => rw [hl] at hb; cases hb
    | some y =>
      rw [hl] at hb
      simp only at hb
      split at hb
      · cases hb
      · cases hb
        exact h.wfN (ok.st x (List.mem_of_getLast? hl))
  | none =>
    rcases takQ_mem (rs := s.rq) with e | ⟨r, hr, hx⟩
    · show (tkO (takQ s.rq).1).wf
      rw [e]; exact h0
    · exact h.wfN (ok.rq r hr _ hx)
theorem cRun (h : Co W w zn tb p s) (ok : OKn tb s) : Calls Tryz.prog 11 #[lp p.C] w fun e w' => e = .returned (.tuple #[I (runT tb s), I (runE s)]) ∧ Co W w' zn tb p (runS tb s) ∧ Fz (Zn zn) w w' := by
  obtain ⟨-, -, -, c3, -, -, -, -, -⟩ := h.cells
  have hN := cNone h
  have hR : Calls Tryz.prog 42 #[Tk.cP p.T] w fun e w' => e = .returned (I (Tk.runI s.ss)) ∧ Co W w' zn tb p s ∧ Below w.heap.size w w' := (Tk.tRunning h.t).mono (fun e w' k => ⟨k.1, h.below k.2.2, k.2.2⟩)
  have hwf := h.wfB ok
  have H : Hid (Co W w zn tb p s) := h
  clear h
  by_cases h0 : Tk.runI s.ss = -1
  · cases hq : waitQ s with
    | false =>
      have e1 : runS tb s = s := by unfold runS; rw [if_pos h0, hq]; rfl
      have e2 : runT tb s = -1 := by unfold runT; rw [if_pos h0, hq]; rfl
      have e3 : runE s = 180 := by unfold runE; rw [if_pos h0, hq]; rfl
      rw [e1, e2, e3]
      rw [h0] at hR
      clear e1 e2 e3 h0
      go_enter Tryz.func11, Tryz.ntmps11
      go_wp2_with (first
        | (go_at_call 38; refine hN.mono ?_; clear hN; rintro e w2 ⟨rfl, rfl⟩)
        | (go_at_call 42; refine hR.mono ?_; clear hR c3; rintro e w3 ⟨rfl, k3, b3⟩; have hW := cWaiting k3; rw [hq] at hW; have HK : Hid (Co W w3 zn tb p s ∧ Fz (Zn zn) w w3) := ⟨k3, Fz.of_below b3⟩; clear k3 b3)
        | (go_at_call 14; refine hW.mono ?_; clear hW; rintro e w4 ⟨rfl, rfl⟩))
      go_ret2
      exact ⟨rfl, HK.out⟩
    | true =>
      have e1 : runS tb s = goS tb (bestS tb s) (bestI tb s) := by unfold runS; rw [if_pos h0, hq]; rfl
      have e2 : runT tb s = bestI tb s := by unfold runT; rw [if_pos h0, hq]; rfl
      have e3 : runE s = 0 := by unfold runE; rw [if_pos h0, hq]; rfl
      rw [e1, e2, e3]
      rw [h0] at hR
      unfold goS
      have HO : Hid (OKn tb s) := ok
      clear e1 e2 e3 h0 ok
      go_enter Tryz.func11, Tryz.ntmps11
      go_wp2_with (first
        | (go_at_call 38; refine hN.mono ?_; clear hN; rintro e w2 ⟨rfl, rfl⟩)
        | (go_at_call 42; refine hR.mono ?_; clear hR c3; rintro e w3 ⟨rfl, k3, b3⟩; have hW := cWaiting k3; rw [hq] at hW; have hB := cBest k3 HO.out; have F3 : Hid (Fz (Zn zn) w w3) := Fz.of_below b3; clear k3 b3)
        | (go_at_call 14; refine hW.mono ?_; clear hW; rintro e w4 ⟨rfl, rfl⟩)
        | (go_at_call 43; refine hB.mono ?_; clear hB; rintro e w5 ⟨rfl, k5, f5⟩; obtain ⟨-, -, -, c3, -, -, -, -, -⟩ := k5.cells; have hS : Calls Tryz.prog 44 #[Tk.cP p.T, I (bestI tb s)] w5 fun e w' => (∃ v, e = .returned v) ∧ Co W w' zn tb p { bestS tb s with ss := Tk.staL (actR tb) (bestS tb s).ss (bestI tb s) } ∧ Fz (Zn zn) w5 w' := ((Tk.tStart k5.t (bestI tb s)).mono (fun e w' k => ⟨⟨_, k.1⟩, k5.setT k.2.1 k.2.2⟩)); have F5 : Hid (Fz (Zn zn) w w5) := F3.out.trans f5; clear k5 f5)
        | (go_at_call 44; refine hS.mono ?_; clear hS c3; rintro e w6 ⟨⟨vv, rfl⟩, k6, f6⟩; obtain ⟨c0, -, -, -, -, -, -, -, -⟩ := k6.cells; have hE := lEnter k6 (bestI tb s) hwf; have F6 : Hid (Fz (Zn zn) w w6) := F5.out.trans f6; clear k6 f6)
        | (go_at_call 45; refine hE.mono ?_; clear hE; rintro e w7 ⟨⟨vv, rfl⟩, k7, f7⟩; have HK : Hid (Co W w7 zn tb p { bestS tb s with ss := Tk.staL (actR tb) (bestS tb s).ss (bestI tb s), l := entL tb (bestS tb s).l (bestI tb s) } ∧ Fz (Zn zn) w w7) := ⟨k7, F6.out.trans f7⟩; clear k7 f7))
      go_ret2
      exact ⟨rfl, HK.out⟩
  · have e1 : runS tb s = s := by unfold runS; rw [if_neg h0]
    have e2 : runT tb s = -1 := by unfold runT; rw [if_neg h0]
    have e3 : runE s = 181 := by unfold runE; rw [if_neg h0]
    rw [e1, e2, e3]
    generalize Tk.runI s.ss = r at *
    have h2 : (r == -1) = false := beq_eq_false_iff_ne.2 h0
    clear e1 e2 e3 h0
    go_enter Tryz.func11, Tryz.ntmps11
    go_wp2_with (first
      | (go_at_call 38; refine hN.mono ?_; clear hN; rintro e w2 ⟨rfl, rfl⟩)
      | (go_at_call 42; refine hR.mono ?_; clear hR c3; rintro e w3 ⟨rfl, k3, b3⟩; have HK : Hid (Co W w3 zn tb p s ∧ Fz (Zn zn) w w3) := ⟨k3, Fz.of_below b3⟩; clear k3 b3))
    go_ret2
    exact ⟨rfl, HK.out⟩
/-! leavings -/
def endC (tb : Tb) (s : Cs) (t : Int) : Cs := { s with l := levL tb s.l t, ss := Tk.endL s.ss }
def asideC (tb : Tb) (s : Cs) (t : Int) : Cs := if s.st.length < 1024 then { s with ss := Tk.leaL (actR tb) s.ss 2 } else s
theorem cEnd (h : Co W w zn tb p s) (t : Int) (ht : (tkO t).wf) : Calls Tryz.prog 124 #[lp p.C, I t] w fun e w' => e = .returned (.tuple #[]) ∧ Co W w' zn tb p (endC tb s t) ∧ Fz (Zn zn) w w' := by
  obtain ⟨c0, -, -, -, -, -, -, -, -⟩ := h.cells
  have hL := lLeave h t ht
  unfold endC
  clear h
  go_enter Tryz.func124, Tryz.ntmps124
  go_wp2_with (first
    | (go_at_call 220; refine hL.mono ?_; clear hL; rintro e w2 ⟨⟨vv, rfl⟩, k2, f2⟩; obtain ⟨-, -, -, c3, -, -, -, -, -⟩ := k2.cells; have hE : Calls Tryz.prog 221 #[Tk.cP p.T] w2 fun e w' => (∃ v, e = .returned v) ∧ Co W w' zn tb p { s with l := levL tb s.l t, ss := Tk.endL s.ss } ∧ Fz (Zn zn) w2 w' := ((Tk.tEnd k2.t).mono (fun e w' k => ⟨⟨_, k.1⟩, k2.setT k.2.1 k.2.2⟩)); have F2 : Hid (Fz (Zn zn) w w2) := f2; clear k2 f2 c0)
    | (go_at_call 221; refine hE.mono ?_; clear hE; rintro e w3 ⟨⟨vv, rfl⟩, k3, f3⟩; have HK : Hid (Co W w3 zn tb p { s with l := levL tb s.l t, ss := Tk.endL s.ss } ∧ Fz (Zn zn) w w3) := ⟨k3, F2.out.trans f3⟩; clear k3 f3))
  exact bodyPost_end (v := .tuple #[]) (by simp [results, Tryz.results124, go_sem]) rfl ⟨rfl, HK.out⟩
end
end Go.Proofs.YtglnfifdjlgbcaaGreatDoor

namespace Go.Proofs.YtglnfifdjlgbcaaGreatDoor
open Go.RowKit Go.Maps Go.Shelf Go.Sort
open Go.Proofs.YtglnfifdjlgbcaaGreatDoor.St (Fx Fz iQ iP iV)
set_option linter.unusedVariables false
set_option linter.unusedSimpArgs false
set_option maxRecDepth 100000
set_option maxHeartbeats 8000000
/-! ### what each leaving leads to -/
def fnV (n : Nat) : Value := .func (.func n) #[] #[]
def outs : List (Int × Nat) := [(1, 124), (2, 125), (3, 126), (4, 127), (5, 128)]
def enF : Nat → List (Int × Nat) → List MapEntry
  | _, [] => []
  | c, x :: l => ⟨.int .i64 x.1, fnV x.2, c⟩ :: enF (c + 1) l
theorem alloc_set (w : World) (o o' : Obj) : { (w.alloc o) with heap := (w.alloc o).heap.setIfInBounds w.heap.size o' } = w.alloc o' := by
  have h : (w.heap.push o).setIfInBounds w.heap.size o' = w.heap.push o' := by
    apply Array.ext_getElem?
    intro i
    rw [Array.getElem?_setIfInBounds, Array.getElem?_push, Array.getElem?_push, Array.size_push]
    by_cases e : w.heap.size = i
    · subst e; simp
    · rw [if_neg e, if_neg (fun h => e h.symm), if_neg (fun h => e h.symm)]
  show ({ w with heap := (w.heap.push o).setIfInBounds w.heap.size o' } : World) = { w with heap := w.heap.push o' }
  rw [h]
theorem put_new (w : World) (es : Array MapEntry) (c : Nat) (k : Int) (val : Value) (hf : Instr.findNow (.int .i64) (.int .i64 k) es.toList 0 = some none) : (Instr.mapUpdate 114 (.map (some w.heap.size)) (.int .i64 k) val).run Tryz.prog (w.alloc (.map es c)) = .ok () (w.alloc (.map (es.push ⟨.int .i64 k, val, c⟩) (c + 1))) := by
  have hb : (w.alloc (.map es c)).heap[w.heap.size]? = some (.map es c) := heap_alloc_new w _
  have hk := Tryz.underlying58
  have hm := Tryz.underlying114
  have hc : (Instr.checkKey false 10000 58 (.int .i64 k)).run Tryz.prog (w.alloc (.map es c)) = .ok () (w.alloc (.map es c)) := MapKept.run_checkKey (k := .int .i64 k) hk (by simp [MapKept.IsKey]) false 9999
  simp [Instr.mapUpdate, run_underlying hm, MapKept.run_getObj_map hb, hc, MapKept.run_findKey hk hf, MapKept.run_setObj_map _ hb, Result.andThen]
  exact alloc_set w _ _
theorem get_out (w : World) (m : Nat) (es : Array MapEntry) (c : Nat) (hb : w.heap[m]? = some (.map es c)) (k : Int) (i : Nat) (v : Value) (hf : Instr.findNow (.int .i64) (.int .i64 k) es.toList 0 = some (some (i, v))) : (Instr.lookup 114 (.map (some m)) (.int .i64 k) true).run Tryz.prog w = .ok (.tuple #[v, .bool true]) w := by
  have hk := Tryz.underlying58
  have hm := Tryz.underlying114
  have hc : ∀ b, (Instr.checkKey b 10000 58 (.int .i64 k)).run Tryz.prog w = .ok () w := fun b => MapKept.run_checkKey (k := .int .i64 k) hk (by simp [MapKept.IsKey]) b 9999
  simp [Instr.lookup, run_underlying hm, MapKept.run_getObj_map hb, hc, MapKept.run_findKey hk hf, Result.andThen]
theorem get_none (w : World) (m : Nat) (es : Array MapEntry) (c : Nat) (hb : w.heap[m]? = some (.map es c)) (k : Int) (hf : Instr.findNow (.int .i64) (.int .i64 k) es.toList 0 = some none) : (Instr.lookup 114 (.map (some m)) (.int .i64 k) true).run Tryz.prog w = .ok (.tuple #[.nilFunc, .bool false]) w := by
  have hk := Tryz.underlying58
  have hm := Tryz.underlying114
  have hc : ∀ b, (Instr.checkKey b 10000 58 (.int .i64 k)).run Tryz.prog w = .ok () w := fun b => MapKept.run_checkKey (k := .int .i64 k) hk (by simp [MapKept.IsKey]) b 9999
  have hz := Tryz.zeroValue112 w
  simp [Instr.lookup, run_underlying hm, MapKept.run_getObj_map hb, hc, MapKept.run_findKey hk hf, Result.andThen, hz]
theorem outcomes_any (w : World) : Calls Tryz.prog 47 #[] w fun e w' => e = .returned (.map (some w.heap.size)) ∧ w' = w.alloc (.map (enF 0 outs).toArray 5) := by
  have hmm := @run_makeMap Tryz.prog
  have h1 := put_new w #[] 0 1 (fnV 124) rfl
  have h2 := put_new w #[⟨.int .i64 1, fnV 124, 0⟩] 1 2 (fnV 125) rfl
  have h3 := put_new w #[⟨.int .i64 1, fnV 124, 0⟩, ⟨.int .i64 2, fnV 125, 1⟩] 2 3 (fnV 126) rfl
  have h4 := put_new w #[⟨.int .i64 1, fnV 124, 0⟩, ⟨.int .i64 2, fnV 125, 1⟩, ⟨.int .i64 3, fnV 126, 2⟩] 3 4 (fnV 127) rfl
  have h5 := put_new w #[⟨.int .i64 1, fnV 124, 0⟩, ⟨.int .i64 2, fnV 125, 1⟩, ⟨.int .i64 3, fnV 126, 2⟩, ⟨.int .i64 4, fnV 127, 3⟩] 4 5 (fnV 128) rfl
  simp only [List.push_toArray, List.nil_append, List.cons_append] at h1 h2 h3 h4 h5
  unfold fnV at *
  go_enter Tryz.func47, Tryz.ntmps47
  go_wp2
  go_ret
  exact ⟨rfl, rfl⟩
end Go.Proofs.YtglnfifdjlgbcaaGreatDoor

namespace Go.Proofs.YtglnfifdjlgbcaaGreatDoor
open Go.RowKit Go.Maps Go.Shelf Go.Sort
open Go.Proofs.YtglnfifdjlgbcaaGreatDoor.St (Fx Fz iQ iP iV)
set_option linter.unusedVariables false
set_option linter.unusedSimpArgs false
set_option maxRecDepth 100000
set_option maxHeartbeats 8000000
def putS20 (d : Nat) (s : Cs) (t : Int) : Cs := if s.st.length < d then { s with st := s.st ++ [t], hi := max s.hi (s.st.length + 1) } else s
def asdC (d : Nat) (tb : Tb) (s : Cs) (t : Int) : Cs := putS20 d { s with ss := Tk.leaL (actR tb) s.ss 2 } t
def yldC (d : Nat) (tb : Tb) (s : Cs) (t : Int) : Cs := asdC d tb { s with l := levL tb s.l t } t
def agnC (tb : Tb) (s : Cs) (t : Int) : Cs := { s with l := levL tb s.l t, ss := Tk.leaL (actR tb) s.ss 2, ef := Ev.freF tb.tasks.length s.ef t, rq := joinQ s.rq (prT tb t) t }
def wtC (tb : Tb) (s : Cs) (t : Int) : Cs := { s with l := levL tb s.l t, ss := Tk.leaL (actR tb) s.ss 1, ef := Ev.waiF tb.tasks.length s.ef t s.ak }
def waiC (tb : Tb) (s : Cs) (t : Int) : Cs := if Ev.waiB tb.tasks.length s.ef t s.ak = true then wtC tb s t else { wtC tb s t with ss := Tk.relL (actR tb) (wtC tb s t).ss t, rq := joinQ s.rq (prT tb t) t }
section
variable {W w w' : World} {zn : Nat → Nat} {tb : Tb} {p : Pl} {s : Cs}
theorem kPush (h : Co W w zn tb p s) (t : Int) : Calls Tryz.prog 226 #[iP p.S, I t] w fun e w' => (∃ v, e = .returned v) ∧ Co W w' zn tb p (putS20 p.d s t) ∧ Fz (Zn zn) w w' := by
  unfold putS20
  by_cases hl : s.st.length < p.d
  · rw [if_pos hl]
    exact (St.iPushQ h.k hl t).mono (fun e w' k => ⟨⟨_, k.1⟩, h.setS k.2.1 k.2.2⟩)
  · rw [if_neg hl]
    have hd := St.iQ.le h.k
    exact (St.iPushF h.k (by omega) t).mono (fun e w' k => ⟨⟨_, k.1⟩, h.below k.2, Fz.of_below k.2⟩)
theorem cAside (h : Co W w zn tb p s) (t : Int) : Calls Tryz.prog 127 #[lp p.C, I t] w fun e w' => e = .returned (.tuple #[]) ∧ Co W w' zn tb p (asdC p.d tb s t) ∧ Fz (Zn zn) w w' := by
  obtain ⟨-, -, -, c3, -, -, -, -, -⟩ := h.cells
  have hP : Calls Tryz.prog 225 #[Tk.cP p.T] w fun e w' => (∃ v, e = .returned v) ∧ Co W w' zn tb p { s with ss := Tk.leaL (actR tb) s.ss 2 } ∧ Fz (Zn zn) w w' := (Tk.tPreempt h.t).mono (fun e w' k => ⟨⟨_, k.1⟩, h.setT k.2.1 k.2.2⟩)
  unfold asdC
  clear h
  go_enter Tryz.func127, Tryz.ntmps127
  go_wp2_with (first
    | (go_at_call 225; refine hP.mono ?_; clear hP c3; rintro e w2 ⟨⟨vv, rfl⟩, k2, f2⟩; obtain ⟨-, -, -, -, -, -, c6, -, -⟩ := k2.cells; have hS := kPush k2 t; have F2 : Hid (Fz (Zn zn) w w2) := f2; clear k2 f2)
    | (go_at_call 226; refine hS.mono ?_; clear hS; rintro e w3 ⟨⟨vv, rfl⟩, k3, f3⟩; have HK : Hid (Co W w3 zn tb p (putS20 p.d { s with ss := Tk.leaL (actR tb) s.ss 2 } t) ∧ Fz (Zn zn) w w3) := ⟨k3, F2.out.trans f3⟩; clear k3 f3))
  exact bodyPost_end (v := .tuple #[]) (by simp [results, Tryz.results127, go_sem]) rfl ⟨rfl, HK.out⟩
theorem cYield (h : Co W w zn tb p s) (t : Int) (ht : (tkO t).wf) : Calls Tryz.prog 128 #[lp p.C, I t] w fun e w' => e = .returned (.tuple #[]) ∧ Co W w' zn tb p (yldC p.d tb s t) ∧ Fz (Zn zn) w w' := by
  obtain ⟨c0, -, -, -, -, -, -, -, -⟩ := h.cells
  have hL := lLeave h t ht
  unfold yldC
  clear h
  go_enter Tryz.func128, Tryz.ntmps128
  go_wp2_with (first
    | (go_at_call 220; refine hL.mono ?_; clear hL c0; rintro e w2 ⟨⟨vv, rfl⟩, k2, f2⟩; have hS := cAside k2 t; have F2 : Hid (Fz (Zn zn) w w2) := f2; clear k2 f2)
    | (go_at_call 127; refine hS.mono ?_; clear hS; rintro e w3 ⟨rfl, k3, f3⟩; have HK : Hid (Co W w3 zn tb p (asdC p.d tb { s with l := levL tb s.l t } t) ∧ Fz (Zn zn) w w3) := ⟨k3, F2.out.trans f3⟩; clear k3 f3))
  exact bodyPost_end (v := .tuple #[]) (by simp [results, Tryz.results128, go_sem]) rfl ⟨rfl, HK.out⟩
theorem cAgain (h : Co W w zn tb p s) {k : Nat} {x : TkR} (hx : tb.tasks[k]? = some x) : Calls Tryz.prog 125 #[lp p.C, I k] w fun e w' => e = .returned (.tuple #[]) ∧ Co W w' zn tb p (agnC tb s k) ∧ Fz (Zn zn) w w' := by
  have ht : (tkO (k : Int)).wf := h.wfN (x := (k : Int)) (by have := (List.getElem?_eq_some_iff.1 hx).1; omega)
  obtain ⟨c0, -, -, -, -, -, -, -, -⟩ := h.cells
  have hL := lLeave h k ht
  have hp : prT tb k = x.prio := by unfold prT; rw [Int.toNat_natCast, hx]
  have HX : Hid (tb.tasks[k]? = some x) := hx
  unfold agnC
  rw [hp]
  clear h ht hp hx
  go_enter Tryz.func125, Tryz.ntmps125
  go_wp2_with (first
    | (go_at_call 220; refine hL.mono ?_; clear hL c0; rintro e w2 ⟨⟨vv, rfl⟩, k2, f2⟩; obtain ⟨-, -, -, c3, -, -, -, -, -⟩ := k2.cells; have hA : Calls Tryz.prog 222 #[Tk.cP p.T] w2 fun e w' => (∃ v, e = .returned v) ∧ Co W w' zn tb p { s with l := levL tb s.l k, ss := Tk.leaL (actR tb) s.ss 2 } ∧ Fz (Zn zn) w2 w' := ((Tk.tAgain k2.t).mono (fun e w' q => ⟨⟨_, q.1⟩, k2.setT q.2.1 q.2.2⟩)); have F2 : Hid (Fz (Zn zn) w w2) := f2; clear k2 f2)
    | (go_at_call 222; refine hA.mono ?_; clear hA c3; rintro e w3 ⟨⟨vv, rfl⟩, k3, f3⟩; obtain ⟨-, -, -, -, -, c5, -, -, -⟩ := k3.cells; have hE : Calls Tryz.prog 40 #[Ev.eP p.E, I k] w3 fun e w' => (∃ v, e = .returned v) ∧ Co W w' zn tb p { s with l := levL tb s.l k, ss := Tk.leaL (actR tb) s.ss 2, ef := Ev.freF tb.tasks.length s.ef k } ∧ Fz (Zn zn) w3 w' := ((Ev.Fre_any k3.e k).mono (fun e w' q => ⟨⟨_, q.1⟩, k3.setE q.2.1 q.2.2⟩)); have F3 : Hid (Fz (Zn zn) w w3) := F2.out.trans f3; clear k3 f3)
    | (go_at_call 40; refine hE.mono ?_; clear hE c5; rintro e w4 ⟨⟨vv, rfl⟩, k4, f4⟩; have hJ := cJoin k4 HX.out; have F4 : Hid (Fz (Zn zn) w w4) := F3.out.trans f4; clear k4 f4)
    | (go_at_call 41; refine hJ.mono ?_; clear hJ; rintro e w5 ⟨rfl, k5, f5⟩; have HK : Hid (Co W w5 zn tb p { s with l := levL tb s.l k, ss := Tk.leaL (actR tb) s.ss 2, ef := Ev.freF tb.tasks.length s.ef k, rq := joinQ s.rq x.prio k } ∧ Fz (Zn zn) w w5) := ⟨k5, F4.out.trans f5⟩; clear k5 f5))
  exact bodyPost_end (v := .tuple #[]) (by simp [results, Tryz.results125, go_sem]) rfl ⟨rfl, HK.out⟩
theorem cWait (h : Co W w zn tb p s) {k : Nat} {x : TkR} (hx : tb.tasks[k]? = some x) : Calls Tryz.prog 126 #[lp p.C, I k] w fun e w' => e = .returned (.tuple #[]) ∧ Co W w' zn tb p (waiC tb s k) ∧ Fz (Zn zn) w w' := by
  have ht : (tkO (k : Int)).wf := h.wfN (x := (k : Int)) (by have := (List.getElem?_eq_some_iff.1 hx).1; omega)
  obtain ⟨c0, -, -, -, -, -, -, -, -⟩ := h.cells
  have hL := lLeave h k ht
  have hp : prT tb k = x.prio := by unfold prT; rw [Int.toNat_natCast, hx]
  have HX : Hid (tb.tasks[k]? = some x) := hx
  obtain ⟨R, hR⟩ : ∃ R, R = waiC tb s k := ⟨_, rfl⟩
  rw [← hR]
  unfold waiC at hR
  rw [hp] at hR
  have HR : Hid (R = if Ev.waiB tb.tasks.length s.ef k s.ak = true then wtC tb s k else { wtC tb s k with ss := Tk.relL (actR tb) (wtC tb s k).ss k, rq := joinQ s.rq x.prio k }) := hR
  clear h ht hp hx hR
  go_enter Tryz.func126, Tryz.ntmps126
  go_upto_region 2 with (first
    | (go_at_call 220; refine hL.mono ?_; clear hL c0; rintro e w2 ⟨⟨vv, rfl⟩, k2, f2⟩; obtain ⟨-, -, -, c3, -, -, -, -, -⟩ := k2.cells; have hA : Calls Tryz.prog 223 #[Tk.cP p.T] w2 fun e w' => (∃ v, e = .returned v) ∧ Co W w' zn tb p { s with l := levL tb s.l k, ss := Tk.leaL (actR tb) s.ss 1 } ∧ Fz (Zn zn) w2 w' := ((Tk.tWait k2.t).mono (fun e w' q => ⟨⟨_, q.1⟩, k2.setT q.2.1 q.2.2⟩)); have F2 : Hid (Fz (Zn zn) w w2) := f2; clear k2 f2)
    | (go_at_call 223; refine hA.mono ?_; clear hA c3; rintro e w3 ⟨⟨vv, rfl⟩, k3, f3⟩; have F3 : Hid (Fz (Zn zn) w w3) := F2.out.trans f3; clear f3))
  obtain ⟨-, -, -, -, -, c5, -, -, c8⟩ := k3.cells
  have hE : ∀ W', Below w3.heap.size w3 W' → Calls Tryz.prog 224 #[Ev.eP p.E, I k, U s.ak] W' fun e w' => (∃ v, e = .returned (.tuple #[.bool (Ev.waiB tb.tasks.length s.ef k s.ak), v])) ∧ Co W w' zn tb p (wtC tb s k) ∧ Fz (Zn zn) w3 w' := fun W' hb => (Ev.Wait_any (k3.below hb).e k s.ak).mono (fun e w' q => by
    obtain ⟨h1, h2⟩ := (k3.below hb).setE q.2.1 q.2.2
    exact ⟨⟨_, q.1⟩, h1, (Fz.of_below hb).trans h2⟩)
  clear k3
  go_region_held_law (fun W' => W'.cell? ⟨p.C, 5, none⟩ = some (Ev.eP p.E) ∧ W'.cell? ⟨p.C, 8, none⟩ = some (U s.ak)) (first | exact ⟨c5, c8⟩ | exact d4 | (go_keep; done)) (first
    | (go_at_call 224; refine (hE _ (by first | exact (Below.refl _ _).drew | exact Below.refl _ _ | exact (Below.refl _ _).drew.drew)).mono ?_; rintro e w4 ⟨⟨v4, rfl⟩, k4, f4⟩; have d4 : w4.cell? ⟨p.C, 5, none⟩ = some (Ev.eP p.E) ∧ w4.cell? ⟨p.C, 8, none⟩ = some (U s.ak) := ⟨k4.cells.2.2.2.2.2.1, k4.cells.2.2.2.2.2.2.2.2⟩))
  have F4 : Hid (Fz (Zn zn) w w4) := F3.out.trans f4
  clear hE c5 c8 d4 f4
  cases hB : Ev.waiB tb.tasks.length s.ef k s.ak with
  | true =>
    have HK : Hid (Co W w4 zn tb p (wtC tb s k)) := k4
    obtain rfl : R = wtC tb s k := by rw [HR.out, hB]; rfl
    clear k4 hB
    go_wp2
    exact bodyPost_end (v := .tuple #[]) (by simp [results, Tryz.results126, go_sem]) rfl ⟨rfl, HK.out, F4.out⟩
  | false =>
    have eR : R = { wtC tb s k with ss := Tk.relL (actR tb) (wtC tb s k).ss k, rq := joinQ s.rq x.prio k } := by rw [HR.out, hB]; rfl
    subst eR
    obtain ⟨-, -, -, c3, -, -, -, -, -⟩ := k4.cells
    have hA : Calls Tryz.prog 113 #[Tk.cP p.T, I k] w4 fun e w' => (∃ v, e = .returned v) ∧ Co W w' zn tb p { wtC tb s k with ss := Tk.relL (actR tb) (wtC tb s k).ss k } ∧ Fz (Zn zn) w4 w' := (Tk.tRelease k4.t k).mono (fun e w' q => ⟨⟨_, q.1⟩, k4.setT q.2.1 q.2.2⟩)
    clear k4 hB
    go_wp2_with (first
      | (go_at_call 113; refine hA.mono ?_; clear hA c3; rintro e w5 ⟨⟨vv, rfl⟩, k5, f5⟩; have hJ := cJoin k5 HX.out; have F5 : Hid (Fz (Zn zn) w w5) := F4.out.trans f5; clear k5 f5)
      | (go_at_call 41; refine hJ.mono ?_; clear hJ; rintro e w6 ⟨rfl, k6, f6⟩; have HK : Hid (Co W w6 zn tb p { wtC tb s k with ss := Tk.relL (actR tb) (wtC tb s k).ss k, rq := joinQ s.rq x.prio k } ∧ Fz (Zn zn) w w6) := ⟨k6, F5.out.trans f6⟩; clear k6 f6))
    exact bodyPost_end (v := .tuple #[]) (by simp [results, Tryz.results126, go_sem]) rfl ⟨rfl, HK.out⟩
end
end Go.Proofs.YtglnfifdjlgbcaaGreatDoor

