import Derived.Test.YtmidaeljeoifdaaGreatDoorXKrm
namespace Go.Proofs.YtmidaeljeoifdaaGreatDoor
open Go.RowKit
set_option linter.unusedVariables false

def uT (k : Int) : Bool := k == 1 || k == 2
def uE (k : Int) : Bool := k == 2
def uN (k : Int) : Bool := k == 3 || k == 4
set_option maxHeartbeats 400000 in
theorem usesTask_any (k : Int) (w : World) : Calls Tryz.prog 298 #[I k] w fun e w' => e = .returned (.bool (uT k)) ∧ w' = w := by
  unfold uT
  cases h1 : k == 1 <;> (go_enter Tryz.func298, Tryz.ntmps298; go_wp2; go_ret; exact ⟨ret_bool (by simp), rfl⟩)
set_option maxHeartbeats 400000 in
theorem usesEvent_any (k : Int) (w : World) : Calls Tryz.prog 299 #[I k] w fun e w' => e = .returned (.bool (uE k)) ∧ w' = w := by
  unfold uE
  go_enter Tryz.func299, Tryz.ntmps299
  go_wp2
  go_ret
  exact ⟨rfl, rfl⟩
set_option maxHeartbeats 400000 in
theorem usesName_any (k : Int) (w : World) : Calls Tryz.prog 300 #[I k] w fun e w' => e = .returned (.bool (uN k)) ∧ w' = w := by
  unfold uN
  cases h1 : k == 3 <;> (go_enter Tryz.func300, Tryz.ntmps300; go_wp2; go_ret; exact ⟨ret_bool (by simp), rfl⟩)
def acC (a : Ac) : Array Value := #[I a.kind, I a.task, I a.event, S a.name]
def bareB (a : Ac) : Bool := (uT a.kind || a.task == 0) && (uE a.kind || a.event == 0) && (uN a.kind || a.name.isEmpty)
set_option maxHeartbeats 2000000 in
theorem isBare_any (a : Ac) (w : World) : Calls Tryz.prog 282 #[.agg (acC a)] w fun e w' => Ans w (bareB a) e w' := by
  have c1 := usesTask_any a.kind
  have c2 := usesEvent_any a.kind
  have c3 := usesName_any a.kind
  have hb := below_alloc w
  obtain ⟨B, hB⟩ : ∃ B, B = bareB a := ⟨_, rfl⟩
  rw [← hB]
  unfold bareB at hB
  have HB : Hid (B = _) := hB
  clear hB
  obtain ⟨k, t, e, n⟩ := a
  unfold acC
  dsimp only at c1 c2 c3 HB ⊢
  generalize uT k = b1 at *
  generalize uE k = b2 at *
  generalize uN k = b3 at *
  cases h1 : (b1 || t == 0) with
  | false =>
    obtain ⟨rfl, ht⟩ : b1 = false ∧ (t == 0) = false := by simpa using h1
    have HE : Hid (B = false) := by show _ = _; rw [HB.out, ht]; rfl
    clear HB h1
    go_enter Tryz.func282, Tryz.ntmps282
    go_wp2_with (first | (go_at_call 298; refine (c1 _).mono ?_; rintro e w' ⟨rfl, rfl⟩))
    go_ret
    exact ⟨ret_bool HE.out.symm, hb _⟩
  | true =>
    cases h2 : (b2 || e == 0) with
    | false =>
      obtain ⟨rfl, ht⟩ : b2 = false ∧ (e == 0) = false := by simpa using h2
      have HE : Hid (B = false) := by show _ = _; rw [HB.out, h1, ht]; rfl
      clear HB h2
      cases b1 with
      | true =>
        clear h1
        go_enter Tryz.func282, Tryz.ntmps282
        go_wp2_with (first | (go_at_call 298; refine (c1 _).mono ?_; rintro e w' ⟨rfl, rfl⟩) | (go_at_call 299; refine (c2 _).mono ?_; rintro e w' ⟨rfl, rfl⟩))
        go_ret
        exact ⟨ret_bool HE.out.symm, hb _⟩
      | false =>
        have h1' : (t == 0) = true := by simpa using h1
        clear h1
        go_enter Tryz.func282, Tryz.ntmps282
        go_wp2_with (first | (go_at_call 298; refine (c1 _).mono ?_; rintro e w' ⟨rfl, rfl⟩) | (go_at_call 299; refine (c2 _).mono ?_; rintro e w' ⟨rfl, rfl⟩))
        go_ret
        exact ⟨ret_bool HE.out.symm, hb _⟩
    | true =>
      have HE : Hid (B = (b3 || n.isEmpty)) := by show _ = _; rw [HB.out, h1, h2]; rfl
      clear HB
      cases b1 <;> cases b2 <;> cases b3 <;> (simp only [Bool.false_or, Bool.true_or] at h1 h2; go_enter Tryz.func282, Tryz.ntmps282; go_wp2_with (first | (go_at_call 298; refine (c1 _).mono ?_; rintro e w' ⟨rfl, rfl⟩) | (go_at_call 299; refine (c2 _).mono ?_; rintro e w' ⟨rfl, rfl⟩) | (go_at_call 300; refine (c3 _).mono ?_; rintro e w' ⟨rfl, rfl⟩)); go_ret; exact ⟨ret_bool (by rw [HE.out]; simp), hb _⟩)
end Go.Proofs.YtmidaeljeoifdaaGreatDoor

namespace Go.Proofs.YtmidaeljeoifdaaGreatDoor
open Go.RowKit
set_option linter.unusedVariables false

/-- Where a number first stands in a list, from place j on. -/
def idxF (x : Int) (j : Nat) : List Int → Int
  | [] => -1
  | y :: r => if x == y then (j : Int) else idxF x (j + 1) r
def hasL (l : List Int) (x : Int) : Bool := l.any (fun y => x == y)
theorem idxF_has (x : Int) (l : List Int) (j : Nat) : decide (0 ≤ idxF x j l) = hasL l x := by
  induction l generalizing j with
  | nil => rfl
  | cons y r ih =>
    rw [idxF]
    cases h : x == y with
    | true =>
      simp only [if_true]
      rw [decide_eq_true (by omega)]
      simp [hasL, h]
    | false =>
      have h2 : hasL (y :: r) x = hasL r x := by simp [hasL, h]
      rw [h2, if_neg (by decide)]
      exact ih (j + 1)
set_option maxHeartbeats 1000000 in
theorem index_int (w : World) (s : Sl) (l : List Int) (h : RowsAt w 1 intP s l) (x : Int) : Calls Tryz.prog 148 #[.slice s.a s.n s.c, I x] w fun e w' => e = .returned (I (idxF x 0 l)) ∧ w' = w := by
  obtain ⟨sa, sn, sc⟩ := s
  have HN : Hid (sn = l.length) := h.n
  have hc : sn ≤ sc := h.c
  have hm : sc ≤ maxLen := h.m
  dsimp only
  unfold maxLen at hm
  go_enter Tryz.func148, Tryz.ntmps148
  go_wp2
  go_loop [5, 8] (fun _ i => ∃ j : Nat, j ≤ sn ∧ i = .int .i64 j ∧ Hid (idxF x 0 l = idxF x j (l.drop j))) (fun _ i => sn - (intOf i).toNat)
  case atStart => exact ⟨0, by omega, rfl, rfl⟩
  case round =>
    obtain ⟨j, hj, rfl, HR⟩ := hrel
    by_cases hlt : j < sn
    · have hlt' : (j : Int) < sn := by omega
      have hjl : j < l.length := by rw [← HN.out]; exact hlt
      obtain ⟨y, hy⟩ : ∃ y, l[j]? = some y := ⟨l[j], List.getElem?_eq_getElem hjl⟩
      obtain ⟨g, off, e, hg, hcx⟩ := ints_at h hy
      dsimp only at e
      subst e
      have HE : Hid (idxF x 0 l = if x == y then (j : Int) else idxF x (j + 1) (l.drop (j + 1))) := by
        show _ = _
        rw [HR.out, List.drop_eq_getElem_cons hjl, idxF]
        rw [List.getElem?_eq_getElem hjl] at hy
        rw [Option.some.inj hy]
      clear hy hjl HR
      cases hk : x == y with
      | true =>
        have HE2 : Hid (idxF x 0 l = j) := by show _ = _; rw [HE.out, hk]; rfl
        clear HE
        go_wp2
        go_ret
        exact ⟨ret_int HE2.out.symm, rfl⟩
      | false =>
        have HE2 : Hid (idxF x 0 l = idxF x (j + 1) (l.drop (j + 1))) := by show _ = _; rw [HE.out, hk]; rfl
        clear HE
        go_wp2
        go_round
        case rel => exact ⟨j + 1, by omega, by go_num, HE2⟩
        case measure => simp [intOf]; omega
    · obtain rfl : j = sn := by omega
      have hlt' : ¬ (j : Int) < j := by omega
      have HE2 : Hid (idxF x 0 l = -1) := by show _ = _; rw [HR.out, List.drop_eq_nil_of_le (by rw [← HN.out]; exact Nat.le_refl _), idxF]
      go_wp2
      go_ret
      exact ⟨ret_int HE2.out.symm, rfl⟩
set_option maxHeartbeats 1000000 in
theorem contains_int (w : World) (s : Sl) (l : List Int) (h : RowsAt w 1 intP s l) (x : Int) : Calls Tryz.prog 110 #[.slice s.a s.n s.c, I x] w fun e w' => e = .returned (.bool (hasL l x)) ∧ w' = w := by
  have c1 := index_int w s l h x
  have HH : Hid (decide (0 ≤ idxF x 0 l) = hasL l x) := idxF_has x l 0
  generalize idxF x 0 l = r at *
  go_enter Tryz.func110, Tryz.ntmps110
  go_wp2_with (first | (go_at_call 148; refine c1.mono ?_; rintro e w' ⟨rfl, rfl⟩))
  go_ret
  exact ⟨ret_bool (by rw [← HH.out]), rfl⟩
/-- An action, and of which kinds it may be. -/
def actC (a : Ac) (lo hi : Int) : Array Value := #[I a.kind, I a.task, I a.event, S a.name, I lo, I hi]
set_option maxHeartbeats 1000000 in
theorem hasKind_any (a : Ac) (lo hi : Int) (w : World) : Calls Tryz.prog 280 #[.agg (actC a lo hi)] w fun e w' => Ans w (inR a.kind lo hi) e w' := by
  have c1 := within_ak a.kind lo hi
  have hb := below_alloc w
  unfold actC
  go_enter Tryz.func280, Tryz.ntmps280
  go_wp2_with (first | (go_at_call 297; refine (c1 _).mono ?_; rintro e w' ⟨rfl, rfl⟩))
  go_ret
  exact ⟨rfl, hb _⟩
def calB (a : Ac) : Bool := !uN a.kind || isNm a.name
set_option maxHeartbeats 1000000 in
theorem isCalled_any (a : Ac) (w : World) : Calls Tryz.prog 288 #[.agg (acC a)] w fun e w' => Ans w (calB a) e w' := by
  have c1 := usesName_any a.kind
  have c2 := isName_l a.name
  have hb := below_alloc w
  unfold calB acC
  generalize uN a.kind = b1 at *
  generalize isNm a.name = b2 at *
  cases b1 <;> cases b2 <;> (go_enter Tryz.func288, Tryz.ntmps288; go_wp2_with (first | (go_at_call 300; refine (c1 _).mono ?_; rintro e w' ⟨rfl, rfl⟩) | (go_at_call 195; refine (c2 _).mono ?_; rintro e w' ⟨rfl, rfl⟩)); go_ret; exact ⟨ret_bool (by simp), hb _⟩)
end Go.Proofs.YtmidaeljeoifdaaGreatDoor

namespace Go.Proofs.YtmidaeljeoifdaaGreatDoor
open Go.RowKit Go.Sort
set_option linter.unusedVariables false

def objB (c : Cf) (a : Ac) : Bool := (!uT a.kind || isId a.task c.tasks.length) && (!uE a.kind || isId a.event c.evs.length)
set_option maxHeartbeats 4000000 in
set_option maxRecDepth 100000 in
theorem meetsObjects_any (w : World) (c : Cf) (v : Vs) (h : CfAt w c v) (a : Ac) : Calls Tryz.prog 284 #[.agg (cfC c v), .agg (acC a)] w fun e w' => Ans w (objB c a) e w' := by
  have c1 := usesTask_any a.kind
  have c2 := usesEvent_any a.kind
  have c3 := isID_any a.task v.t.n
  have c4 := isID_any a.event v.e.n
  have hb := below_alloc w
  have hb2 := fun o o' => (hb o).trans ((below_alloc (w.alloc o) o').mono (hb o).size)
  unfold objB
  rw [← h.t.n, ← h.e.n]
  unfold acC
  generalize uT a.kind = b1 at *
  generalize uE a.kind = b2 at *
  generalize isId a.task v.t.n = b3 at *
  generalize isId a.event v.e.n = b4 at *
  have f11 : ∀ h : 11 < (cfC c v).size, (cfC c v)[11] = .slice v.t.a v.t.n v.t.c := fun _ => rfl
  have f13 : ∀ h : 13 < (cfC c v).size, (cfC c v)[13] = .slice v.e.a v.e.n v.e.c := fun _ => rfl
  have hs18 : (cfC c v).size = 18 := rfl
  generalize cfC c v = C at *
  replace f11 := f11 (by omega)
  replace f13 := f13 (by omega)
  cases h1 : (!b1 || b3) with
  | false =>
    obtain ⟨rfl, rfl⟩ : b1 = true ∧ b3 = false := by simpa using h1
    go_enter Tryz.func284, Tryz.ntmps284
    go_wp2_with (first | (go_at_call 298; refine (c1 _).mono ?_; rintro e w' ⟨rfl, rfl⟩) | (go_at_call 272; refine (c3 _).mono ?_; rintro e w' ⟨rfl, rfl⟩))
    go_ret
    exact ⟨ret_bool (by simp), hb2 _ _⟩
  | true =>
    cases b1 with
    | false =>
      clear h1 c3
      cases b2 <;> (go_enter Tryz.func284, Tryz.ntmps284; go_wp2_with (first | (go_at_call 298; refine (c1 _).mono ?_; rintro e w' ⟨rfl, rfl⟩) | (go_at_call 299; refine (c2 _).mono ?_; rintro e w' ⟨rfl, rfl⟩) | (go_at_call 272; refine (c4 _).mono ?_; rintro e w' ⟨rfl, rfl⟩)); go_ret; exact ⟨ret_bool (by simp), hb2 _ _⟩)
    | true =>
      obtain rfl : b3 = true := by simpa using h1
      clear h1
      cases b2 <;> (go_enter Tryz.func284, Tryz.ntmps284; go_wp2_with (first | (go_at_call 298; refine (c1 _).mono ?_; rintro e w' ⟨rfl, rfl⟩) | (go_at_call 299; refine (c2 _).mono ?_; rintro e w' ⟨rfl, rfl⟩) | (go_at_call 272; refine (c3 _).mono ?_; clear c3; rintro e w' ⟨rfl, rfl⟩) | (go_at_call 272; refine (c4 _).mono ?_; rintro e w' ⟨rfl, rfl⟩)); go_ret; exact ⟨ret_bool (by simp), hb2 _ _⟩)
def evsOf (c : Cf) (t : Int) : List Int := match c.tasks[t.toNat]? with | some x => x.evs | none => []
def ownB (c : Cf) (a : Ac) : Bool := !uE a.kind || hasL (evsOf c a.task) a.event
set_option maxHeartbeats 4000000 in
set_option maxRecDepth 100000 in
theorem meetsOwner_any (w : World) (c : Cf) (v : Vs) (h : CfAt w c v) (a : Ac) (hv : uE a.kind = true → isId a.task v.t.n = true) : Calls Tryz.prog 286 #[.agg (cfC c v), .agg (acC a)] w fun e w' => Ans w (ownB c a) e w' := by
  have c1 := usesEvent_any a.kind
  have hb := below_alloc w
  have hb2 := fun o o' => (hb o).trans ((below_alloc (w.alloc o) o').mono (hb o).size)
  have h2 := fun o o' => h.below (hb2 o o')
  have HN : Hid (v.t.n = c.tasks.length) := h.t.n
  obtain ⟨B, hB⟩ : ∃ B, B = ownB c a := ⟨_, rfl⟩
  rw [← hB]
  unfold ownB at hB
  have HB : Hid (B = _) := hB
  clear hB
  unfold acC
  have f11 : ∀ h : 11 < (cfC c v).size, (cfC c v)[11] = .slice v.t.a v.t.n v.t.c := fun _ => rfl
  have hs18 : (cfC c v).size = 18 := rfl
  generalize cfC c v = C at *
  replace f11 := f11 (by omega)
  cases hu : uE a.kind with
  | false =>
    have HE : Hid (B = true) := by show _ = _; rw [HB.out, hu]; rfl
    rw [hu] at c1
    clear HB hv
    go_enter Tryz.func286, Tryz.ntmps286
    go_wp2
    go_quiet (first | (go_at_call 299; refine Calls.quiet_of_same (c1 _)))
    go_wp2
    go_ret
    exact ⟨ret_bool HE.out.symm, below_drewN (hb2 _ _) _⟩
  | true =>
    have hid := hv hu
    have hr : 0 ≤ a.task ∧ a.task < v.t.n := by simpa [isId] using hid
    obtain ⟨q, hq⟩ := Int.eq_ofNat_of_zero_le hr.1
    have hq' : (q : Int) < v.t.n := by omega
    have hql : q < c.tasks.length := by rw [← HN.out]; omega
    obtain ⟨x, hx⟩ : ∃ y, c.tasks[q]? = some y := ⟨_, List.getElem?_eq_getElem hql⟩
    obtain ⟨g, off, s4, s5, s6, s7, e, hg, a0, a1, a2, a3, a4, a5, a6, a7, r4, r5, r6, r7⟩ := tk_at h hx
    have hne : g ≠ w.heap.size := by omega
    have hgl : g < w.heap.size + 1 := by omega
    have hne1 : g ≠ w.heap.size + 1 := by omega
    rw [e] at f11
    have HE : Hid (B = hasL x.evs a.event) := by show _ = _; rw [HB.out, hu, hq]; simp [evsOf, hx]
    have c2 := fun W (hW : Below w.heap.size w W) => contains_int W s6 x.evs (r6.below hW (fun _ _ _ _ h => h)) a.event
    rw [hu] at c1
    obtain ⟨ak, at_, ae, an⟩ := a
    dsimp only at hq c1 c2 HE ⊢
    rw [hq]
    clear HB hv hid hr hql hx a0 a1 a2 a3 a4 a5 a7 r4 r5 r7 hu hq
    generalize hasL x.evs ae = b at *
    go_enter Tryz.func286, Tryz.ntmps286
    go_wp2
    go_quiet (first | (go_at_call 299; refine Calls.quiet_of_same (c1 _)) | (go_at_call 110; refine Calls.quiet_of_same (c2 _ (below_drewN (hb2 _ _) _))))
    go_wp2
    go_ret
    exact ⟨ret_bool HE.out.symm, below_drewN (hb2 _ _) _⟩
end Go.Proofs.YtmidaeljeoifdaaGreatDoor

namespace Go.Proofs.YtmidaeljeoifdaaGreatDoor
open Go.RowKit
set_option linter.unusedVariables false

/-- What a function answers that says which action an object has. -/
def ActAns (w : World) (a : Ac) (lo hi : Int) (e : Ending) (w' : World) : Prop := e = .returned (.agg (actC a lo hi)) ∧ Below w.heap.size w w'
theorem res_act {fn : Func} {n : Nat} (hf : fn.results = #[.cell n 312]) (tmps : Array Value) (b : Nat) (w : World) (v0 v1 v2 v3 v4 v5 : Value)
    (h2 : tmps[n]? = some (.pointer (some ⟨b, 0, none⟩))) (hk : w.heap[b]? = some (.cells #[v0, v1, v2, v3, v4, v5] 312 (0, 0))) :
    (results fn tmps).run Tryz.prog w = .ok (.agg #[v0, v1, v2, v3, v4, v5]) w := by
  have a1 := fun i => cell_of_row w b i _ _ (0, 0) hk
  have z0 := a1 0; have z1 := a1 1; have z2 := a1 2; have z3 := a1 3; have z4 := a1 4; have z5 := a1 5
  simp at z0 z1 z2 z3 z4 z5
  simp [results, hf, go_sem, h2, z0, z1, z2, z3, z4, z5]
theorem heap_two (w : World) (a b : Obj) : ((w.alloc a).alloc b).heap[w.heap.size + 1]? = some b := by
  have := heap_alloc_new (w.alloc a) b
  rwa [show (w.alloc a).heap.size = w.heap.size + 1 by simp] at this
theorem heap_three (w : World) (a b c : Obj) : (((w.alloc a).alloc b).alloc c).heap[w.heap.size + 1]? = some b := by
  rw [heap_alloc_old ((w.alloc a).alloc b) c (by simp)]
  exact heap_two w a b
set_option maxHeartbeats 1000000 in
theorem alarmAct_any (w : World) (c : Cf) (v : Vs) (h : CfAt w c v) (i : Nat) (x : Al) (hi : c.als[i]? = some x) :
    Calls Tryz.prog 241 #[.agg (cfC c v), I i] w fun e w' => ActAns w x.ac 1 3 e w' := by
  have hn : v.a.n = c.als.length := h.a.n
  have hlt : (i : Int) < v.a.n := by have := (List.getElem?_eq_some_iff.1 hi).1; omega
  obtain ⟨g, off, s6, e, hg, a0, a1, a2, a3, a4, a5, a6, a7, a8, r6⟩ := al_at h hi
  have hne : g ≠ w.heap.size := by omega
  have hb := below_alloc w
  have hb2 := fun o o' => (hb o).trans ((below_alloc (w.alloc o) o').mono (hb o).size)
  have f15 : ∀ h : 15 < (cfC c v).size, (cfC c v)[15] = .slice v.a.a v.a.n v.a.c := fun _ => rfl
  have hs18 : (cfC c v).size = 18 := rfl
  generalize cfC c v = C at *
  replace f15 := f15 (by omega)
  rw [e] at f15
  clear hi hn
  go_enter Tryz.func241, Tryz.ntmps241
  go_wp2
  exact bodyPost_ret (v := .agg (actC x.ac 1 3)) (res_act Tryz.results241 _ (w.heap.size + 1) _ _ _ _ _ _ _ rfl (heap_two _ _ _)) rfl ⟨rfl, hb2 _ _⟩
set_option maxHeartbeats 2000000 in
theorem messageAct_any (w : World) (c : Cf) (v : Vs) (h : CfAt w c v) (i : Nat) (x : Ms) (hi : c.msgs[i]? = some x) :
    Calls Tryz.prog 256 #[.agg (cfC c v), I i] w fun e w' => ActAns w x.ac 0 (if x.kind == 1 then 0 else 4) e w' := by
  have hn : v.s.n = c.msgs.length := h.s.n
  have hlt : (i : Int) < v.s.n := by have := (List.getElem?_eq_some_iff.1 hi).1; omega
  obtain ⟨g, off, e, hg, a0, a1, a2, a3, a4, a5, a6, a7, a8, a9⟩ := ms_at h hi
  have hne : g ≠ w.heap.size := by omega
  have hb := below_alloc w
  have hb2 := fun o o' => (hb o).trans ((below_alloc (w.alloc o) o').mono (hb o).size)
  have hb3 := fun o o' o'' => (hb2 o o').trans ((below_alloc ((w.alloc o).alloc o') o'').mono (hb2 o o').size)
  have f17 : ∀ h : 17 < (cfC c v).size, (cfC c v)[17] = .slice v.s.a v.s.n v.s.c := fun _ => rfl
  have hs18 : (cfC c v).size = 18 := rfl
  generalize cfC c v = C at *
  replace f17 := f17 (by omega)
  rw [e] at f17
  clear hi hn
  cases hk : x.kind == 1 with
  | true =>
    rw [if_pos rfl]
    go_enter Tryz.func256, Tryz.ntmps256
    go_wp2
    all_goals exact bodyPost_ret (v := .agg (actC x.ac 0 0)) (res_act Tryz.results256 _ (w.heap.size + 1) _ _ _ _ _ _ _ rfl (heap_three _ _ _ _)) rfl ⟨rfl, hb3 _ _ _⟩
  | false =>
    rw [if_neg (by decide)]
    go_enter Tryz.func256, Tryz.ntmps256
    go_wp2
    all_goals exact bodyPost_ret (v := .agg (actC x.ac 0 4)) (res_act Tryz.results256 _ (w.heap.size + 1) _ _ _ _ _ _ _ rfl (heap_three _ _ _ _)) rfl ⟨rfl, hb3 _ _ _⟩
end Go.Proofs.YtmidaeljeoifdaaGreatDoor

namespace Go.Proofs.YtmidaeljeoifdaaGreatDoor
open Go.RowKit Go.Sort
set_option linter.unusedVariables false

theorem fld_act (w : World) (a0 a1 a2 a3 a4 a5 : Value) : (Instr.field 312 (.agg #[a0, a1, a2, a3, a4, a5]) 0).run Tryz.prog w = .ok (.agg #[a0, a1, a2, a3]) w := by kernel_rfl
/-- The function that says which action an object has, kept in a variable. -/
structure Of (w : World) (c : Cf) (v : Vs) (i : Nat) (bo fo : Nat) (a : Ac) (lo hi : Int) : Prop where
  cell : w.cell? ⟨bo, 0, none⟩ = some (.func (.func fo) #[] #[])
  lt : bo < w.heap.size
  enter : ∀ args W, (callFunc fo args).run Tryz.prog W = .ok (.enter fo args) W
  call : ∀ W, Below w.heap.size w W → Calls Tryz.prog fo #[.agg (cfC c v), I i] W fun e w' => ActAns W a lo hi e w'
set_option maxHeartbeats 2000000 in
set_option maxRecDepth 100000 in
theorem act1_any (w : World) (c : Cf) (v : Vs) (h : CfAt w c v) (i bo fo : Nat) (a : Ac) (lo hi : Int) (ho : Of w c v i bo fo a lo hi) :
    Calls Tryz.prog 279 #[.agg (cfC c v), I i, .pointer (some ⟨bo, 0, none⟩)] w fun e w' => Ans w (inR a.kind lo hi) e w' := by
  have hbo := ho.cell
  have hlt := ho.lt
  have hne : bo ≠ w.heap.size := by omega
  have eg := ho.enter
  have cf := ho.call
  have hfl := fld_act
  have hb := below_alloc w
  have hi18 : (Tryz.prog.info? 47).map (·.size) = some (cfC c v).size := by rw [show (cfC c v).size = 18 from rfl]; kernel_rfl
  have hV0 := heap_alloc_new w (.cells (cfC c v) 47)
  have hs18 : (cfC c v).size = 18 := rfl
  generalize cfC c v = C at *
  go_enter Tryz.func279, Tryz.ntmps279
  go_wp2_with (refine wpList_load_row rfl 47 _ rfl w.heap.size rfl 47 _ (0, 0) _ hV0 Tryz.underlying47 rfl hi18 ?_)
  refine (cf _ (hb _)).mono ?_
  rintro e w1 ⟨rfl, hb1⟩
  have hbw := (hb _).trans (hb1.mono (hb _).size)
  have c2 := hasKind_any a lo hi w1
  unfold acC at c2
  unfold actC at *
  clear hb1 cf hV0
  go_wp2_with (first | (go_at_call 280; refine c2.mono ?_; rintro e w2 ⟨rfl, hb2⟩))
  go_ret
  exact ⟨rfl, hbw.trans (hb2.mono hbw.size)⟩
set_option maxHeartbeats 2000000 in
set_option maxRecDepth 100000 in
theorem act2_any (w : World) (c : Cf) (v : Vs) (h : CfAt w c v) (i bo fo : Nat) (a : Ac) (lo hi : Int) (ho : Of w c v i bo fo a lo hi) :
    Calls Tryz.prog 281 #[.agg (cfC c v), I i, .pointer (some ⟨bo, 0, none⟩)] w fun e w' => Ans w (bareB a) e w' := by
  have hbo := ho.cell
  have hlt := ho.lt
  have hne : bo ≠ w.heap.size := by omega
  have eg := ho.enter
  have cf := ho.call
  have hfl := fld_act
  have hb := below_alloc w
  have hi18 : (Tryz.prog.info? 47).map (·.size) = some (cfC c v).size := by rw [show (cfC c v).size = 18 from rfl]; kernel_rfl
  have hV0 := heap_alloc_new w (.cells (cfC c v) 47)
  have hs18 : (cfC c v).size = 18 := rfl
  generalize cfC c v = C at *
  go_enter Tryz.func281, Tryz.ntmps281
  go_wp2_with (refine wpList_load_row rfl 47 _ rfl w.heap.size rfl 47 _ (0, 0) _ hV0 Tryz.underlying47 rfl hi18 ?_)
  refine (cf _ (hb _)).mono ?_
  rintro e w1 ⟨rfl, hb1⟩
  have hbw := (hb _).trans (hb1.mono (hb _).size)
  have c2 := isBare_any a w1
  unfold acC at c2
  unfold actC at *
  clear hb1 cf hV0
  go_wp2_with (first | (go_at_call 282; refine c2.mono ?_; rintro e w2 ⟨rfl, hb2⟩))
  go_ret
  exact ⟨rfl, hbw.trans (hb2.mono hbw.size)⟩
set_option maxHeartbeats 2000000 in
set_option maxRecDepth 100000 in
theorem act5_any (w : World) (c : Cf) (v : Vs) (h : CfAt w c v) (i bo fo : Nat) (a : Ac) (lo hi : Int) (ho : Of w c v i bo fo a lo hi) :
    Calls Tryz.prog 287 #[.agg (cfC c v), I i, .pointer (some ⟨bo, 0, none⟩)] w fun e w' => Ans w (calB a) e w' := by
  have hbo := ho.cell
  have hlt := ho.lt
  have hne : bo ≠ w.heap.size := by omega
  have eg := ho.enter
  have cf := ho.call
  have hfl := fld_act
  have hb := below_alloc w
  have hi18 : (Tryz.prog.info? 47).map (·.size) = some (cfC c v).size := by rw [show (cfC c v).size = 18 from rfl]; kernel_rfl
  have hV0 := heap_alloc_new w (.cells (cfC c v) 47)
  have hs18 : (cfC c v).size = 18 := rfl
  generalize cfC c v = C at *
  go_enter Tryz.func287, Tryz.ntmps287
  go_wp2_with (refine wpList_load_row rfl 47 _ rfl w.heap.size rfl 47 _ (0, 0) _ hV0 Tryz.underlying47 rfl hi18 ?_)
  refine (cf _ (hb _)).mono ?_
  rintro e w1 ⟨rfl, hb1⟩
  have hbw := (hb _).trans (hb1.mono (hb _).size)
  have c2 := isCalled_any a w1
  unfold acC at c2
  unfold actC at *
  clear hb1 cf hV0
  go_wp2_with (first | (go_at_call 288; refine c2.mono ?_; rintro e w2 ⟨rfl, hb2⟩))
  go_ret
  exact ⟨rfl, hbw.trans (hb2.mono hbw.size)⟩
set_option maxHeartbeats 2000000 in
set_option maxRecDepth 100000 in
theorem act3_any (w : World) (c : Cf) (v : Vs) (h : CfAt w c v) (i bo fo : Nat) (a : Ac) (lo hi : Int) (ho : Of w c v i bo fo a lo hi) :
    Calls Tryz.prog 283 #[.agg (cfC c v), I i, .pointer (some ⟨bo, 0, none⟩)] w fun e w' => Ans w (objB c a) e w' := by
  have hbo := ho.cell
  have hlt := ho.lt
  have hne : bo ≠ w.heap.size := by omega
  have eg := ho.enter
  have cf := ho.call
  have hfl := fld_act
  have hb := below_alloc w
  have hi18 : (Tryz.prog.info? 47).map (·.size) = some (cfC c v).size := by rw [show (cfC c v).size = 18 from rfl]; kernel_rfl
  have hV0 := heap_alloc_new w (.cells (cfC c v) 47)
  have h0 := h.below (hb (.cells (cfC c v) 47))
  have hbw := hb (.cells (cfC c v) 47)
  have c1 : ∀ d os, Calls Tryz.prog fo #[.agg (cfC c v), I i] (grow (redrawn (w.alloc (.cells (cfC c v) 47)) d) os) fun e w'' => e = .returned (.agg (actC a lo hi)) ∧ ∃ p : Regrown, w'' = grow (redrawn (w.alloc (.cells (cfC c v) 47)) p.d) p.os := fun d os => Calls.regrown_of (cf _ (hbw.trans ((below_regrown _ d os).mono hbw.size)))
  have c2 : ∀ d os, Calls Tryz.prog 284 #[.agg (cfC c v), .agg (acC a)] (grow (redrawn (w.alloc (.cells (cfC c v) 47)) d) os) fun e w'' => e = .returned (.bool (objB c a)) ∧ ∃ p : Regrown, w'' = grow (redrawn (w.alloc (.cells (cfC c v) 47)) p.d) p.os := fun d os => Calls.regrown_of (meetsObjects_any _ c v (h0.below (below_regrown _ d os)) a)
  have kbo : (w.alloc (.cells (cfC c v) 47)).cell? ⟨bo, 0, none⟩ = some (.func (.func fo) #[] #[]) := by rw [cell_below hbw _ _ hlt]; exact hbo
  have hs18 : (cfC c v).size = 18 := rfl
  generalize cfC c v = C at *
  go_enter Tryz.func283, Tryz.ntmps283
  go_wp2
  generalize w.alloc (.cells C 47) = W0 at *
  have k1 := cell_regrown kbo
  unfold actC at c1
  unfold acC at c2
  refine wp_region_quiet_below (by kernel_rfl) (by kernel_rfl) ?_
  refine wpQuiet_load_row rfl 47 _ rfl w.heap.size rfl 47 _ (0, 0) _ (heap_regrown hV0) Tryz.underlying47 rfl hi18 ?_
  quiet_step (fail)
  refine wpQuiet_load_row rfl 47 _ rfl w.heap.size rfl 47 _ (0, 0) _ (heap_regrown hV0) Tryz.underlying47 rfl hi18 ?_
  repeat (quiet_step (first | exact c1 _ _ | exact c2 _ _))
  refine wpQuiet_nil ?_
  intro _ hw'
  obtain ⟨⟨dq, osq⟩, hw''⟩ := hw'
  subst hw''
  go_wp2
  go_ret
  exact ⟨rfl, hbw.trans ((below_regrown W0 dq osq).mono hbw.size)⟩
set_option maxHeartbeats 2000000 in
set_option maxRecDepth 100000 in
theorem act4_any (w : World) (c : Cf) (v : Vs) (h : CfAt w c v) (i bo fo : Nat) (a : Ac) (lo hi : Int) (ho : Of w c v i bo fo a lo hi) (hv : uE a.kind = true → isId a.task v.t.n = true) :
    Calls Tryz.prog 285 #[.agg (cfC c v), I i, .pointer (some ⟨bo, 0, none⟩)] w fun e w' => Ans w (ownB c a) e w' := by
  have hbo := ho.cell
  have hlt := ho.lt
  have hne : bo ≠ w.heap.size := by omega
  have eg := ho.enter
  have cf := ho.call
  have hfl := fld_act
  have hb := below_alloc w
  have hi18 : (Tryz.prog.info? 47).map (·.size) = some (cfC c v).size := by rw [show (cfC c v).size = 18 from rfl]; kernel_rfl
  have hV0 := heap_alloc_new w (.cells (cfC c v) 47)
  have h0 := h.below (hb (.cells (cfC c v) 47))
  have hbw := hb (.cells (cfC c v) 47)
  have c1 : ∀ d os, Calls Tryz.prog fo #[.agg (cfC c v), I i] (grow (redrawn (w.alloc (.cells (cfC c v) 47)) d) os) fun e w'' => e = .returned (.agg (actC a lo hi)) ∧ ∃ p : Regrown, w'' = grow (redrawn (w.alloc (.cells (cfC c v) 47)) p.d) p.os := fun d os => Calls.regrown_of (cf _ (hbw.trans ((below_regrown _ d os).mono hbw.size)))
  have c2 : ∀ d os, Calls Tryz.prog 286 #[.agg (cfC c v), .agg (acC a)] (grow (redrawn (w.alloc (.cells (cfC c v) 47)) d) os) fun e w'' => e = .returned (.bool (ownB c a)) ∧ ∃ p : Regrown, w'' = grow (redrawn (w.alloc (.cells (cfC c v) 47)) p.d) p.os := fun d os => Calls.regrown_of (meetsOwner_any _ c v (h0.below (below_regrown _ d os)) a hv)
  have kbo : (w.alloc (.cells (cfC c v) 47)).cell? ⟨bo, 0, none⟩ = some (.func (.func fo) #[] #[]) := by rw [cell_below hbw _ _ hlt]; exact hbo
  have hs18 : (cfC c v).size = 18 := rfl
  generalize cfC c v = C at *
  go_enter Tryz.func285, Tryz.ntmps285
  go_wp2
  generalize w.alloc (.cells C 47) = W0 at *
  have k1 := cell_regrown kbo
  unfold actC at c1
  unfold acC at c2
  refine wp_region_quiet_below (by kernel_rfl) (by kernel_rfl) ?_
  refine wpQuiet_load_row rfl 47 _ rfl w.heap.size rfl 47 _ (0, 0) _ (heap_regrown hV0) Tryz.underlying47 rfl hi18 ?_
  quiet_step (fail)
  refine wpQuiet_load_row rfl 47 _ rfl w.heap.size rfl 47 _ (0, 0) _ (heap_regrown hV0) Tryz.underlying47 rfl hi18 ?_
  repeat (quiet_step (first | exact c1 _ _ | exact c2 _ _))
  refine wpQuiet_nil ?_
  intro _ hw'
  obtain ⟨⟨dq, osq⟩, hw''⟩ := hw'
  subst hw''
  go_wp2
  go_ret
  exact ⟨rfl, hbw.trans ((below_regrown W0 dq osq).mono hbw.size)⟩
end Go.Proofs.YtmidaeljeoifdaaGreatDoor

