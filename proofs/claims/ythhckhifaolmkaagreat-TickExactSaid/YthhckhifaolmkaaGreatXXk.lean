import Derived.Test.YthhckhifaolmkaaGreatXXq
import Derived.Test.YthhckhifaolmkaaGreatXXl
namespace Go.Proofs.YthhckhifaolmkaaGreat
open Go.RowKit Go.Shelf Go.Sort
open Go.Proofs.YthhckhifaolmkaaGreat.Cl (Fx Fz Ck Cb Alm psA dueA dueF U Q cP own_sl own_some own_below own_base inL ret_bool ret_int heap_lt iinfo cell_one_new take_snoc aftN)
set_option linter.unusedVariables false
set_option linter.unusedSimpArgs false

/-! ### One -/
def oneT (mx : Nat) : Tb := ⟨0, 1, [⟨1, 0, false, 1, 0, -1, [], 0⟩], [⟨1, 1⟩], [], [⟨mx, 1, 1⟩], [⟨0, ⟨1, 0, 0⟩, 0, 0, 0⟩, ⟨0, ⟨1, 0, 0⟩, 0, 0, 0⟩], [⟨2, 70, []⟩, ⟨1, 90, []⟩], [], 1, 6, 2, 0⟩
theorem one_wf {mx : Nat} (h : mx < 4294967296) : WfT (oneT mx) := ⟨by simp [oneT], by simp [oneT]; exact h, by simp [oneT], by simp [oneT]⟩
def one9 : Tb := oneT 9
theorem one_chk9 : chkP one9 = true := by decide
theorem one_als (mx : Nat) : (oneT mx).als.all (alB (oneT mx)) = true := by
  unfold oneT
  simp only [List.all_cons, List.all_nil, Bool.and_true]
  have : alB ⟨0, 1, [⟨1, 0, false, 1, 0, -1, [], 0⟩], [⟨1, 1⟩], [], [⟨mx, 1, 1⟩], [⟨0, ⟨1, 0, 0⟩, 0, 0, 0⟩, ⟨0, ⟨1, 0, 0⟩, 0, 0, 0⟩], [⟨2, 70, []⟩, ⟨1, 90, []⟩], [], 1, 6, 2, 0⟩ ⟨0, ⟨1, 0, 0⟩, 0, 0, 0⟩ = true := by
    unfold alB
    simp only [Bool.and_eq_true]
    refine ⟨⟨⟨rfl, rfl⟩, rfl⟩, ?_⟩
    unfold timesB
    rw [if_pos rfl]
    rfl
  rw [this]
  rfl
theorem one_chk (mx : Nat) : chkP (oneT mx) = (decide (1 ≤ mx) && decide (mx ≤ 2147483647)) := by
  have h6 := one_als mx
  unfold chkP
  rw [h6]
  have h5 : (oneT mx).ctrs.all ctB = (decide (1 ≤ mx) && decide (mx ≤ 2147483647)) := by
    unfold oneT
    simp only [List.all_cons, List.all_nil, Bool.and_true, ctB]
    rw [Bool.eq_iff_iff]
    simp
    omega
  rw [h5]
  have h1 : (countsB (oneT mx) && (oneT mx).ress.all (fun r => inI r.ceil (-1) 127) && ringsW (oneT mx).tasks 64 (oneT mx).rings && (oneT mx).tasks.all (tkB (oneT mx))) = true := by rfl
  have h7 : isrsG (oneT mx) [] (oneT mx).isrs = true := by rfl
  have h8 : ((oneT mx).msgs.all fldB && (oneT mx).msgs.all (msB (oneT mx))) = true := by rfl
  have h9 : roomB (oneT mx) (max (crowdL ((oneT mx).als.map fun x => x.ctr)) (crowdL (rcvL (oneT mx)))) = true := by rfl
  rw [h1, h7, h8, h9]
  simp
theorem rows_litX {α : Type} {w : World} {k g : Nat} {P : α → Nat → Value → Prop} {cs : Array Value} {t : TypeId} {l : List α} (h : w.heap[g]? = some (.cells cs t)) (hl : l.length ≤ 1000) (hr : ∀ j x, l[j]? = some x → ∀ i, i < k → ∃ u, cs[j * k + i]? = some u ∧ P x i u) : RowsAt w k P ⟨some ⟨g, 0, none⟩, l.length, l.length⟩ l := by
  refine ⟨rfl, Nat.le_refl _, by unfold maxLen; show l.length ≤ _; omega, fun j x hj => ⟨g, 0, rfl, heap_lt h, fun i hi => ?_⟩⟩
  obtain ⟨u, h1, h2⟩ := hr j x hj i hi
  exact ⟨u, by rw [cell_of_row w g _ _ _ (0, 0) h, Nat.zero_add]; exact h1, h2⟩
theorem rows_nilX {α : Type} (w : World) (k : Nat) (P : α → Nat → Value → Prop) : RowsAt w k P ⟨none, 0, 0⟩ [] := ⟨rfl, Nat.le_refl _, Nat.zero_le _, fun j x hj => by cases hj⟩
theorem res13X {fn : Func} {n : Nat} (hf : fn.results = #[.cell n 37]) (tmps : Array Value) (b : Nat) (w : World) (v0 v1 v2 v3 v4 v5 v6 v7 v8 v9 v10 v11 v12 : Value)
    (h2 : tmps[n]? = some (.pointer (some ⟨b, 0, none⟩))) (hk : w.heap[b]? = some (.cells #[v0, v1, v2, v3, v4, v5, v6, v7, v8, v9, v10, v11, v12] 37 (0, 0))) : (results fn tmps).run Tryz.prog w = .ok (.agg #[v0, v1, v2, v3, v4, v5, v6, v7, v8, v9, v10, v11, v12]) w := by
  have a1 := fun i => cell_of_row w b i _ _ (0, 0) hk
  have z0 := a1 0; have z1 := a1 1; have z2 := a1 2; have z3 := a1 3; have z4 := a1 4; have z5 := a1 5; have z6 := a1 6; have z7 := a1 7; have z8 := a1 8; have z9 := a1 9; have z10 := a1 10; have z11 := a1 11; have z12 := a1 12
  simp at z0 z1 z2 z3 z4 z5 z6 z7 z8 z9 z10 z11 z12
  simp [results, hf, go_sem, h2, z0, z1, z2, z3, z4, z5, z6, z7, z8, z9, z10, z11, z12]
/-- blocks laid one after another -/
theorem pile_below : ∀ (os : List Obj) (w : World), Below w.heap.size w (os.foldl World.alloc w)
  | [], w => Below.refl _ _
  | o :: r, w => (below_alloc w o).trans ((pile_below r (w.alloc o)).mono (by simp))
theorem pile_at : ∀ (os : List Obj) (w : World) (i : Nat) (o : Obj), os[i]? = some o → (os.foldl World.alloc w).heap[w.heap.size + i]? = some o
  | [], w, i, o, h => by simp at h
  | x :: r, w, 0, o, h => by
    simp at h
    subst h
    exact ((pile_below r (w.alloc x)).block w.heap.size (by simp)).trans (heap_alloc_new w x)
  | x :: r, w, i + 1, o, h => by
    have := pile_at r (w.alloc x) i o (by simpa using h)
    rw [World.size_alloc] at this
    rw [show w.heap.size + (i + 1) = w.heap.size + 1 + i by omega]
    exact this
def oneV (X : Nat) : Ts := ⟨⟨some ⟨X + 2, 0, none⟩, 1, 1⟩, ⟨some ⟨X + 3, 0, none⟩, 1, 1⟩, ⟨none, 0, 0⟩, ⟨some ⟨X + 4, 0, none⟩, 1, 1⟩, ⟨some ⟨X + 5, 0, none⟩, 2, 2⟩, ⟨some ⟨X + 6, 0, none⟩, 2, 2⟩, ⟨none, 0, 0⟩⟩
def oneO (mx X : Nat) : List Obj := [.cells (tbC (oneT mx) (oneV X)) 37, .cells #[I 1, I 0, .int .u32 0] 93, .cells #[I 1, I 0, .bool false, I 1, .int .u32 0, I (-1), .slice none 0 0, .int .u32 0] 95, .cells #[I 1, I 1] 97, .cells #[U mx, U 1, U 1] 81, .cells #[I 0, I 1, I 0, .int .u32 0, .int .u32 0, .int .u32 0, .int .u32 0, I 0, I 1, I 0, .int .u32 0, .int .u32 0, .int .u32 0, .int .u32 0] 99, .cells #[I 2, I 70, .slice none 0 0, I 1, I 90, .slice none 0 0] 88]
theorem one_at (w : World) (mx : Nat) : TbAt ((oneO mx w.heap.size).foldl World.alloc w) (oneT mx) (oneV w.heap.size) := by
  have h2 := pile_at (oneO mx w.heap.size) w 2 _ rfl
  have h3 := pile_at (oneO mx w.heap.size) w 3 _ rfl
  have h4 := pile_at (oneO mx w.heap.size) w 4 _ rfl
  have h5 := pile_at (oneO mx w.heap.size) w 5 _ rfl
  have h6 := pile_at (oneO mx w.heap.size) w 6 _ rfl
  generalize (oneO mx w.heap.size).foldl World.alloc w = W at *
  have ni : IntsV W [] (.slice none 0 0) := ⟨⟨none, 0, 0⟩, rfl, rows_nilX _ _ _⟩
  refine ⟨rows_litX (l := (oneT mx).tasks) h2 (by simp [oneT]) (fun j x hj i hi => ?_), rows_litX (l := (oneT mx).rings) h3 (by simp [oneT]) (fun j x hj i hi => ?_), rows_nilX _ _ _, rows_litX (l := (oneT mx).ctrs) h4 (by simp [oneT]) (fun j x hj i hi => ?_), rows_litX (l := (oneT mx).als) h5 (by simp [oneT]) (fun j x hj i hi => ?_), rows_litX (l := (oneT mx).isrs) h6 (by simp [oneT]) (fun j x hj i hi => ?_), rows_nilX _ _ _⟩
  · match j, hj with
    | 0, hj => cases hj; match i, hi with
      | 0, _ => exact ⟨_, rfl, rfl⟩
      | 1, _ => exact ⟨_, rfl, rfl⟩
      | 2, _ => exact ⟨_, rfl, rfl⟩
      | 3, _ => exact ⟨_, rfl, rfl⟩
      | 4, _ => exact ⟨_, rfl, rfl⟩
      | 5, _ => exact ⟨_, rfl, rfl⟩
      | 6, _ => exact ⟨_, rfl, ni⟩
      | 7, _ => exact ⟨_, rfl, rfl⟩
  · match j, hj with
    | 0, hj => cases hj; match i, hi with
      | 0, _ => exact ⟨_, rfl, rfl⟩
      | 1, _ => exact ⟨_, rfl, rfl⟩
  · match j, hj with
    | 0, hj => cases hj; match i, hi with
      | 0, _ => exact ⟨_, rfl, rfl⟩
      | 1, _ => exact ⟨_, rfl, rfl⟩
      | 2, _ => exact ⟨_, rfl, rfl⟩
  · match j, hj with
    | 0, hj => cases hj; match i, hi with
      | 0, _ => exact ⟨_, rfl, rfl⟩
      | 1, _ => exact ⟨_, rfl, rfl⟩
      | 2, _ => exact ⟨_, rfl, rfl⟩
      | 3, _ => exact ⟨_, rfl, rfl⟩
      | 4, _ => exact ⟨_, rfl, rfl⟩
      | 5, _ => exact ⟨_, rfl, rfl⟩
      | 6, _ => exact ⟨_, rfl, rfl⟩
    | 1, hj => cases hj; match i, hi with
      | 0, _ => exact ⟨_, rfl, rfl⟩
      | 1, _ => exact ⟨_, rfl, rfl⟩
      | 2, _ => exact ⟨_, rfl, rfl⟩
      | 3, _ => exact ⟨_, rfl, rfl⟩
      | 4, _ => exact ⟨_, rfl, rfl⟩
      | 5, _ => exact ⟨_, rfl, rfl⟩
      | 6, _ => exact ⟨_, rfl, rfl⟩
  · match j, hj with
    | 0, hj => cases hj; match i, hi with
      | 0, _ => exact ⟨_, rfl, rfl⟩
      | 1, _ => exact ⟨_, rfl, rfl⟩
      | 2, _ => exact ⟨_, rfl, ni⟩
    | 1, hj => cases hj; match i, hi with
      | 0, _ => exact ⟨_, rfl, rfl⟩
      | 1, _ => exact ⟨_, rfl, rfl⟩
      | 2, _ => exact ⟨_, rfl, ni⟩
set_option maxRecDepth 100000 in
set_option maxHeartbeats 8000000 in
theorem One_any (w : World) (mx : Nat) : Calls Tryz.prog 8 #[U mx] w fun e w' => ∃ v, e = .returned (.agg (tbC (oneT mx) v)) ∧ TbAt w' (oneT mx) v ∧ Below w.heap.size w w' := by
  have h0 := pile_at (oneO mx w.heap.size) w 0 _ rfl
  have hT := one_at w mx
  have hb := pile_below (oneO mx w.heap.size) w
  have HH : Hid (((oneO mx w.heap.size).foldl World.alloc w).heap[w.heap.size]? = some (.cells (tbC (oneT mx) (oneV w.heap.size)) 37) ∧ TbAt ((oneO mx w.heap.size).foldl World.alloc w) (oneT mx) (oneV w.heap.size) ∧ Below w.heap.size w ((oneO mx w.heap.size).foldl World.alloc w)) := ⟨h0, hT, hb⟩
  clear h0 hT hb
  go_enter Tryz.func8, Tryz.ntmps8
  go_wp2
  refine bodyPost_ret (res13X Tryz.results8 _ w.heap.size _ _ _ _ _ _ _ _ _ _ _ _ _ _ rfl HH.out.1) rfl ⟨oneV w.heap.size, rfl, HH.out.2.1, HH.out.2.2⟩
end Go.Proofs.YthhckhifaolmkaaGreat

namespace Go.Proofs.YthhckhifaolmkaaGreat
open Go.RowKit Go.Shelf Go.Sort
open Go.Proofs.YthhckhifaolmkaaGreat.Cl (Fx Fz Ck Cb Alm psA dueA dueF U Q cP own_sl own_some own_below own_base inL ret_bool ret_int heap_lt iinfo cell_one_new take_snoc)
set_option linter.unusedVariables false
set_option linter.unusedSimpArgs false

/-! ### Requests -/
def isI (tb : Tb) (t : Int) : Bool := decide (0 ≤ t) && decide (t < tb.isrs.length)
def reqL (tb : Tb) (q : Nat → Nat) (k : Nat) : List Nat := (List.range k).filter (hasQ q)
theorem reqL_succ (tb : Tb) (q : Nat → Nat) (k : Nat) : reqL tb q (k + 1) = reqL tb q k ++ (if hasQ q k then [k] else []) := by
  unfold reqL
  rw [List.range_succ, List.filter_append]
  congr 1
  by_cases h : hasQ q k = true <;> simp [h]
theorem reqL_len (tb : Tb) (q : Nat → Nat) (k : Nat) : (reqL tb q k).length ≤ k := by
  unfold reqL
  exact Nat.le_trans (List.length_filter_le _ _) (by simp)
structure Gt where
  shut : Bool
  all : Int
  os : Int
abbrev gtV (g : Gt) : Value := .agg #[.bool g.shut, I g.all, I g.os]
def pasB (tb : Tb) (g : Gt) (i : Nat) : Bool := !g.shut && (g.all == 0) && ((isK tb i).cat != 2 || g.os == 0)
/-- Next, one ISR after another: the best and the level -/
def nxS (tb : Tb) (q : Nat → Nat) (g : Gt) (x : Int × Int) (i : Nat) : Int × Int := if hasQ q i && (decide (x.2 < (isK tb i).prio) && pasB tb g i) then ((i : Int), (isK tb i).prio) else x
def nxL (tb : Tb) (q : Nat → Nat) (g : Gt) (l : Int) (k : Nat) : Int × Int := (List.range k).foldl (nxS tb q g) (-1, l)
theorem nxL_succ (tb : Tb) (q : Nat → Nat) (g : Gt) (l : Int) (k : Nat) : nxL tb q g l (k + 1) = nxS tb q g (nxL tb q g l k) k := by
  unfold nxL
  rw [List.range_succ, List.foldl_append]
  rfl
section
variable {w w' : World} {zn : Nat → Nat} {tb : Tb} {B : Nat} {p : Pl} {s : Bs}
theorem isIsr_any (h : Bo w zn tb B p s) (t : Int) : Calls Tryz.prog 34 #[bP B, I t] w fun e w' => e = .returned (.bool (isI tb t)) ∧ w = w' := by
  obtain ⟨c0, c1, c2, c3, -⟩ := h.cells
  obtain ⟨a, cc, hv⟩ := own_sl h.i
  rw [hv] at c3
  have hN := bnone_any h
  unfold isI
  generalize tb.isrs.length = n at *
  by_cases h0 : 0 ≤ t
  · by_cases h1 : t < n
    · rw [show (decide (0 ≤ t) && decide (t < (n : Int))) = true by simp [h0, h1]]
      go_enter Tryz.func34, Tryz.ntmps34
      go_wp2_with (first | (go_at_call 28; refine hN.mono ?_; rintro e w1 ⟨rfl, rfl⟩))
      go_ret
      exact ⟨by simp [h0, h1], rfl⟩
    · rw [show (decide (0 ≤ t) && decide (t < (n : Int))) = false by simp [h1]]
      go_enter Tryz.func34, Tryz.ntmps34
      go_wp2_with (first | (go_at_call 28; refine hN.mono ?_; rintro e w1 ⟨rfl, rfl⟩))
      go_ret
      exact ⟨by simp [h0, h1], rfl⟩
  · rw [show (decide (0 ≤ t) && decide (t < (n : Int))) = false by simp [h0]]
    go_enter Tryz.func34, Tryz.ntmps34
    go_wp2_with (first | (go_at_call 28; refine hN.mono ?_; rintro e w1 ⟨rfl, rfl⟩))
    go_ret
    exact ⟨by simp [h0], rfl⟩
def reqS (tb : Tb) (t : Int) : Int := if isI tb t then 0 else 3
def reqT (tb : Tb) (s : Bs) (t : Int) : Bs := if isI tb t then ⟨s.v, s.a, addQ s.q t.toNat⟩ else s
theorem isI_nat {tb : Tb} {t : Int} (h : isI tb t = true) : ∃ i : Nat, t = i ∧ i < tb.isrs.length := by
  unfold isI at h
  simp at h
  exact ⟨t.toNat, by omega, by omega⟩
theorem bRequest (h : Bo w zn tb B p s) (t : Int) : Calls Tryz.prog 13 #[bP B, I t] w fun e w' => e = .returned (I (reqS tb t)) ∧ Bo w' zn tb B p (reqT tb s t) ∧ Fz (Wr zn) w w' := by
  have hI := isIsr_any h t
  unfold reqS reqT
  cases hi : isI tb t with
  | false =>
    rw [hi] at hI
    simp only [Bool.false_eq_true, if_false]
    have HH : Hid (Bo w zn tb B p s) := h
    clear h hi
    go_enter Tryz.func13, Tryz.ntmps13
    go_wp2_with (first | (go_at_call 34; refine hI.mono ?_; rintro e w1 ⟨rfl, rfl⟩))
    go_ret
    exact ⟨rfl, HH.out, Fz.refl _ _⟩
  | true =>
    rw [hi] at hI
    simp only [if_true]
    obtain ⟨i, rfl, hlt⟩ := isI_nat hi
    have hA := add_any h i (by have := h.ok.ni; omega)
    rw [Int.toNat_natCast]
    clear h hi hlt
    go_enter Tryz.func13, Tryz.ntmps13
    go_wp2_with (first | (go_at_call 34; refine hI.mono ?_; rintro e w1 ⟨rfl, rfl⟩) | (go_at_call 35; refine hA.mono ?_; rintro e w2 ⟨rfl, k2, z2⟩))
    go_ret
    exact ⟨rfl, k2, z2⟩
def serS (tb : Tb) (s : Bs) (t : Int) : Int := if isI tb t && hasQ s.q t.toNat then 0 else 2
def serT (tb : Tb) (s : Bs) (t : Int) : Bs := if isI tb t && hasQ s.q t.toNat then ⟨s.v, s.a, remQ s.q t.toNat⟩ else s
set_option maxRecDepth 100000 in
theorem bServe (h : Bo w zn tb B p s) (t : Int) : Calls Tryz.prog 14 #[bP B, I t] w fun e w' => e = .returned (I (serS tb s t)) ∧ Bo w' zn tb B p (serT tb s t) ∧ Fz (Wr zn) w w' := by
  have hI := isIsr_any h t
  have hN := bnone_any h
  unfold serS serT
  cases hi : isI tb t with
  | false =>
    rw [hi] at hI
    simp only [Bool.false_and, Bool.false_eq_true, if_false]
    have HH : Hid (Bo w zn tb B p s) := h
    clear h hi
    go_enter Tryz.func14, Tryz.ntmps14
    go_wp2_with (first | (go_at_call 28; refine hN.mono ?_; rintro e w1 ⟨rfl, rfl⟩) | (go_at_call 34; refine hI.mono ?_; rintro e w1 ⟨rfl, rfl⟩))
    go_ret
    exact ⟨rfl, HH.out, Fz.refl _ _⟩
  | true =>
    rw [hi] at hI
    simp only [Bool.true_and]
    obtain ⟨i, rfl, hlt⟩ := isI_nat hi
    obtain ⟨-, -, -, -, c4, c5, c6, c7⟩ := h.cells
    have hi32 : i < 32 := by have := h.ok.ni; omega
    have hH := has_any w s.q h.q i hi32
    have hR := fun W (hb : Below w.heap.size w W) => remove_any (h.below hb) i hi32
    have HH : Hid (Bo w zn tb B p s) := h
    rw [Int.toNat_natCast]
    cases hq : hasQ s.q i with
    | false =>
      rw [hq] at hH
      simp only [Bool.false_eq_true, if_false]
      clear h hi hlt hq hR
      go_enter Tryz.func14, Tryz.ntmps14
      go_wp2_with (first | (go_at_call 28; refine hN.mono ?_; rintro e w1 ⟨rfl, rfl⟩) | (go_at_call 34; refine hI.mono ?_; rintro e w1 ⟨rfl, rfl⟩) | (go_at_call 36; refine hH.mono ?_; rintro e w2 ⟨rfl, b2⟩))
      go_ret
      exact ⟨rfl, HH.out.below b2, Fz.of_below b2⟩
    | true =>
      rw [hq] at hH
      simp only [if_true]
      clear h hi hlt hq
      go_enter Tryz.func14, Tryz.ntmps14
      go_wp2_with (first | (go_at_call 28; refine hN.mono ?_; rintro e w1 ⟨rfl, rfl⟩) | (go_at_call 34; refine hI.mono ?_; rintro e w1 ⟨rfl, rfl⟩) | (go_at_call 36; refine hH.mono ?_; rintro e w2 ⟨rfl, b2⟩; have hC := hR _ b2) | (go_at_call 37; refine hC.mono ?_; rintro e w3 ⟨rfl, k3, z3⟩))
      go_ret
      exact ⟨rfl, k3, (Fz.of_below b2).trans z3⟩
set_option maxRecDepth 100000 in
set_option maxHeartbeats 4000000 in
theorem bRequested (h : Bo w zn tb B p s) : Calls Tryz.prog 42 #[bP B] w fun e w' => ∃ v, e = .returned v ∧ w'.ownsRow w.heap.size 3 1 v (reqL tb s.q tb.isrs.length).length (inL (reqL tb s.q tb.isrs.length)) ∧ Below w.heap.size w w' := by
  obtain ⟨i0, hi0, hz0, hz1, hz2⟩ := info_parts iinfo
  obtain ⟨c0, c1, c2, c3, c4, c5, c6, c7⟩ := h.cells
  obtain ⟨a, cc, hv⟩ := own_sl h.i
  rw [hv] at c3
  have hN := bnone_any h
  have hn := h.ok.ni
  have HH : Hid (Bo w zn tb B p s) := h
  have HI : Hid (w.ownsRow w.heap.size 3 1 (.slice none 0 0) (reqL tb s.q 0).length (inL (reqL tb s.q 0)) ∧ Below w.heap.size w w) := ⟨by simpa [reqL, inL] using World.ownsRow_nil w _ _ _, Below.refl _ _⟩
  clear h hv
  generalize tb.isrs.length = n at *
  go_enter Tryz.func42, Tryz.ntmps42
  go_wp2_with (first | (go_at_call 28; refine hN.mono ?_; rintro e w1 ⟨rfl, rfl⟩))
  clear c0 c1 c2 c3 c4 c5 c6 c7
  go_loopw [3, 4, 12] (fun v3 _ v12 wr => ∃ k : Nat, k ≤ n ∧ v12 = I k ∧ Hid (wr.ownsRow w.heap.size 3 1 v3 (reqL tb s.q k).length (inL (reqL tb s.q k)) ∧ Below w.heap.size w wr)) (fun _ _ v12 _ => n - (intOf v12).toNat)
  case atStart => exact ⟨0, by omega, rfl, HI.out⟩
  case round =>
    clear HI
    obtain ⟨k, hk, rfl, HJ⟩ := hrel
    by_cases hlt : k < n
    · have hltI : (k : Int) < n := by omega
      have hr := HH.out.below HJ.out.2
      obtain ⟨-, -, -, -, c4, c5, c6, c7⟩ := hr.cells
      have hH := has_any wr s.q hr.q k (by omega)
      have hlen : (reqL tb s.q k).length ≤ 32 := by have := reqL_len tb s.q k; omega
      have HS : Hid (reqL tb s.q (k + 1) = reqL tb s.q k ++ (if hasQ s.q k then [k] else [])) := reqL_succ tb s.q k
      have hsz : w.heap.size ≤ wr.heap.size := HJ.out.2.size
      clear hr
      cases hq : hasQ s.q k with
      | false =>
        rw [hq] at hH HS
        have HS2 : Hid (reqL tb s.q (k + 1) = reqL tb s.q k) := by show _ = _; rw [HS.out]; simp
        clear HS hq
        go_wp2_with (first | (go_at_call 36; refine hH.mono ?_; clear hH; rintro e w1 ⟨rfl, b1⟩; have H1 : Hid (Below wr.heap.size wr w1) := b1; clear b1))
        go_roundw
        case rel => exact ⟨k + 1, by omega, by go_num, by rw [HS2.out]; exact ⟨own_below HJ.out.1 H1.out, HJ.out.2.trans (H1.out.mono hsz)⟩⟩
        case measure => simp [intOf]; omega
      | true =>
        rw [hq] at hH HS
        have HS2 : Hid (reqL tb s.q (k + 1) = reqL tb s.q k ++ [k]) := by show _ = _; rw [HS.out]; simp
        clear HS hq
        go_wp2_with (first
          | (go_at_call 36; refine hH.mono ?_; clear hH; rintro e w1 ⟨rfl, b1⟩; have H1 : Hid (Below w.heap.size w w1) := HJ.out.2.trans (b1.mono hsz); have hO2 := (own_below HJ.out.1 b1).alloc (.cells #[I (k : Int)] 3); have hs1 : w.heap.size ≤ w1.heap.size := H1.out.size; clear b1 c4 c5 c6 c7)
          | (at_builtin; refine wpList_append_own _ rfl (.tmp 21) (.tmp 23) 40 rfl w.heap.size 3 i0 (.int .i64 0) 1 8 Tryz.underlying40 hi0 hz0 hz1 hz2 rfl (by decide) _ _ _ rfl hO2 ⟨w1.heap.size, 0, none⟩ 1 1 [I (k : Int)] rfl rfl (cell_one_new _ _ _) (by intro u hu; simp at hu; subst hu; rfl) (by unfold maxLen; omega) (by omega) (by simp; omega) ?_))
        intro v6 w6 ho6 hg6 _
        have f6 : Below w.heap.size w w6 := ⟨hg6.os.trans H1.out.os, hg6.tape.trans H1.out.tape, hg6.output.trans H1.out.output, by have := hg6.size; simp at this; omega, fun i hi => by
          have e1 : (w1.alloc (.cells #[I (k : Int)] 3)).heap[i]? = w1.heap[i]? := heap_alloc_old _ _ (by omega)
          rw [hg6.block i (by simp; omega) (fun e => by have := (HJ.out.1.lt i e.symm).1; omega), e1]
          exact H1.out.block i hi⟩
        have H6 : Hid (w6.ownsRow w.heap.size 3 1 v6 (reqL tb s.q (k + 1)).length (inL (reqL tb s.q (k + 1))) ∧ Below w.heap.size w w6) := by
          refine ⟨?_, f6⟩
          rw [HS2.out, List.length_append]
          unfold inL
          rw [List.map_append]
          exact ho6
        clear ho6 hg6 f6 hO2 H1 HS2
        go_wp2
        go_roundw
        case rel => exact ⟨k + 1, by omega, by go_num, H6.out⟩
        case measure => simp [intOf]; omega
    · obtain rfl : k = n := by omega
      have hge : ¬ ((k : Int) < k) := by omega
      go_wp2
      go_ret
      exact ⟨_, rfl, HJ.out.1, HJ.out.2⟩
end
end Go.Proofs.YthhckhifaolmkaaGreat

namespace Go.Proofs.YthhckhifaolmkaaGreat
open Go.RowKit Go.Shelf Go.Sort
open Go.Proofs.YthhckhifaolmkaaGreat.Cl (Fx Fz Ck Cb Alm psA dueA dueF U Q cP own_sl own_some own_below own_base inL ret_bool ret_int heap_lt iinfo cell_one_new take_snoc)
set_option linter.unusedVariables false
set_option linter.unusedSimpArgs false

/-! ### Next -/
def nxO (x : Int) : Bool := x != -1
theorem nxL_best (tb : Tb) (q : Nat → Nat) (g : Gt) (l : Int) : ∀ k, (nxL tb q g l k).1 = -1 ∨ 0 ≤ (nxL tb q g l k).1
  | 0 => .inl rfl
  | k + 1 => by
    rw [nxL_succ]
    unfold nxS
    split
    · exact .inr (by show (0 : Int) ≤ (k : Int); omega)
    · exact nxL_best tb q g l k
section
variable {w w' : World} {zn : Nat → Nat} {tb : Tb} {B : Nat} {p : Pl} {s : Bs}
set_option maxRecDepth 100000 in
set_option maxHeartbeats 8000000 in
theorem bNext (h : Bo w zn tb B p s) (l : Int) (g : Gt) : Calls Tryz.prog 23 #[bP B, I l, gtV g] w fun e w' => e = .returned (.tuple #[I (nxL tb s.q g l tb.isrs.length).1, .bool (nxO (nxL tb s.q g l tb.isrs.length).1)]) ∧ Below w.heap.size w w' := by
  have hb0 := below_alloc w (.cells #[.bool g.shut, I g.all, I g.os] 46)
  have hg0 := heap_alloc_new w (.cells #[.bool g.shut, I g.all, I g.os] 46)
  have hlt0 : w.heap.size < (w.alloc (.cells #[.bool g.shut, I g.all, I g.os] 46)).heap.size := by simp
  have h0 := h.below hb0
  have hN := bnone_any h0
  obtain ⟨c0, c1, c2, c3, -⟩ := h0.cells
  obtain ⟨a, cc, hv⟩ := own_sl h.i
  rw [hv] at c3
  have hn := h.ok.ni
  have HH : Hid (Bo (w.alloc (.cells #[.bool g.shut, I g.all, I g.os] 46)) zn tb B p s ∧ Below w.heap.size w (w.alloc (.cells #[.bool g.shut, I g.all, I g.os] 46)) ∧ (w.alloc (.cells #[.bool g.shut, I g.all, I g.os] 46)).heap[w.heap.size]? = some (.cells #[.bool g.shut, I g.all, I g.os] 46) ∧ slT p.vi = .slice a tb.isrs.length cc) := ⟨h0, hb0, hg0, hv⟩
  clear h h0 hb0 hg0 hlt0
  have HB : Hid (∀ k, (nxL tb s.q g l k).1 = -1 ∨ 0 ≤ (nxL tb s.q g l k).1) := nxL_best tb s.q g l
  go_enter Tryz.func23, Tryz.ntmps23
  go_upto_region 1 with fail
  generalize w.alloc (.cells #[.bool g.shut, I g.all, I g.os] 46) = wg at *
  have HI : Hid (Below wg.heap.size wg wg) := Below.refl _ _
  have HL : Hid ((I l, I (-1)) = (I (nxL tb s.q g l 0).2, I (nxL tb s.q g l 0).1)) := rfl
  generalize hn1 : tb.isrs.length = n at *
  have HN : Hid (tb.isrs.length = n) := hn1
  clear hn1 hv
  go_wp2_with (first | (go_at_call 28; refine hN.mono ?_; rintro e w1 ⟨rfl, rfl⟩))
  clear c0 c1 c2 c3 hN
  go_loopw [1, 8, 9, 10, 18] (fun v1 v8 _ _ v18 wr => ∃ k : Nat, k ≤ n ∧ v18 = I k ∧ v1 = I (nxL tb s.q g l k).2 ∧ v8 = I (nxL tb s.q g l k).1 ∧ Hid (Below wg.heap.size wg wr)) (fun _ _ _ _ v18 _ => n - (intOf v18).toNat)
  case atStart => exact ⟨0, by omega, rfl, by have := HL.out; cases this; rfl, rfl, HI.out⟩
  case round =>
    clear HI HL
    obtain ⟨k, hk, rfl, rfl, rfl, HJ⟩ := hrel
    by_cases hlt : k < n
    · have hltI : (k : Int) < n := by omega
      have hr := HH.out.1.below HJ.out
      obtain ⟨gi, ci, ei, d0, d1⟩ := hr.is (j := k) (by rw [HN.out]; exact hlt)
      have ea : a = some ⟨gi, 0, none⟩ := by have := HH.out.2.2.2; rw [this] at ei; cases ei; rfl
      have hb1 := below_alloc wr (.cells #[I (isK tb k).cat, I (isK tb k).prio] 90)
      have hv1 := heap_alloc_new wr (.cells #[I (isK tb k).cat, I (isK tb k).prio] 90)
      have H1 : Hid (Below wg.heap.size wg (wr.alloc (.cells #[I (isK tb k).cat, I (isK tb k).prio] 90)) ∧ (wr.alloc (.cells #[I (isK tb k).cat, I (isK tb k).prio] 90)).heap[wr.heap.size]? = some (.cells #[I (isK tb k).cat, I (isK tb k).prio] 90)) := ⟨HJ.out.trans (hb1.mono HJ.out.size), hv1⟩
      have HS : Hid (nxL tb s.q g l (k + 1) = nxS tb s.q g (nxL tb s.q g l k) k) := nxL_succ tb s.q g l k
      clear hr hb1 hv1 ei HJ
      subst ea
      go_upto_region 7 with fail
      clear d0 d1
      generalize wr.alloc (.cells #[I (isK tb k).cat, I (isK tb k).prio] 90) = w1 at *
      generalize wr.heap.size = X1 at *
      have h1 := HH.out.1.below H1.out.1
      obtain ⟨-, -, -, -, c4, c5, c6, c7⟩ := h1.cells
      have y1 : w1.cell? ⟨X1, 1, none⟩ = some (I (isK tb k).prio) := by rw [cell_of_row _ _ _ _ _ (0, 0) H1.out.2]; rfl
      have hH := has_any w1 s.q h1.q k (by omega)
      have HF : Hid (∀ W, Below w1.heap.size w1 W → Below wg.heap.size wg W ∧ W.cell? ⟨X1, 0, none⟩ = some (I (isK tb k).cat) ∧ W.cell? ⟨X1, 1, none⟩ = some (I (isK tb k).prio) ∧ W.cell? ⟨w.heap.size, 0, none⟩ = some (.bool g.shut) ∧ W.cell? ⟨w.heap.size, 1, none⟩ = some (I g.all) ∧ W.cell? ⟨w.heap.size, 2, none⟩ = some (I g.os)) := fun W hb => by
        have q1 := (hb.block _ (heap_lt H1.out.2)).trans H1.out.2
        have b2 := H1.out.1.trans (hb.mono H1.out.1.size)
        have q2 := (b2.block _ (heap_lt HH.out.2.2.1)).trans HH.out.2.2.1
        exact ⟨b2, by rw [cell_of_row _ _ _ _ _ (0, 0) q1]; rfl, by rw [cell_of_row _ _ _ _ _ (0, 0) q1]; rfl, by rw [cell_of_row _ _ _ _ _ (0, 0) q2]; rfl, by rw [cell_of_row _ _ _ _ _ (0, 0) q2]; rfl, by rw [cell_of_row _ _ _ _ _ (0, 0) q2]; rfl⟩
      have hP := fun W => passes_any W (isK tb k).cat (isK tb k).prio g.shut g.all g.os
      rw [show (!g.shut && (g.all == 0) && ((isK tb k).cat != 2 || g.os == 0)) = pasB tb g k from rfl] at hP
      clear h1 H1
      unfold nxS at HS
      cases hq : hasQ s.q k with
      | false =>
        rw [hq] at hH HS
        have HS2 : Hid (nxL tb s.q g l (k + 1) = nxL tb s.q g l k) := by show _ = _; rw [HS.out]; simp
        clear HS hq hP
        generalize hb1 : (nxL tb s.q g l k).1 = b1 at *
        generalize hb2 : (nxL tb s.q g l k).2 = b2 at *
        have HQ : Hid ((nxL tb s.q g l (k + 1)).1 = b1 ∧ (nxL tb s.q g l (k + 1)).2 = b2) := by rw [HS2.out]; exact ⟨hb1, hb2⟩
        clear hb1 hb2 HS2
        go_wp2_with (first | (go_at_call 36; refine hH.mono ?_; clear hH; rintro e w2 ⟨rfl, bb⟩; have H2 : Hid (Below w1.heap.size w1 w2) := bb; clear bb))
        go_roundw
        case rel => exact ⟨k + 1, by omega, by go_num, by rw [HQ.out.2], by rw [HQ.out.1], (HF.out _ H2.out).1⟩
        case measure => simp [intOf]; omega
      | true =>
        rw [hq] at hH HS
        simp only [Bool.true_and] at HS
        by_cases hp : (nxL tb s.q g l k).2 < (isK tb k).prio
        · cases hx : pasB tb g k with
          | false =>
            rw [hx] at hP HS
            have HS2 : Hid (nxL tb s.q g l (k + 1) = nxL tb s.q g l k) := by show _ = _; rw [HS.out]; simp
            clear HS hq hx
            generalize hb1 : (nxL tb s.q g l k).1 = b1 at *
            generalize hb2 : (nxL tb s.q g l k).2 = b2 at *
            have HQ : Hid ((nxL tb s.q g l (k + 1)).1 = b1 ∧ (nxL tb s.q g l (k + 1)).2 = b2) := by rw [HS2.out]; exact ⟨hb1, hb2⟩
            clear hb1 hb2 HS2
            go_wp2_with (first
              | (go_at_call 36; refine hH.mono ?_; clear hH; rintro e w2 ⟨rfl, bb⟩; have H2 : Hid (Below w1.heap.size w1 w2) := bb; clear bb y1; obtain ⟨-, y0, y1, z0, z1, z2⟩ := HF.out _ H2.out)
              | (go_at_call 58; refine (hP _).mono ?_; clear hP; rintro e w3 ⟨rfl, bb⟩; have H3 : Hid (Below w1.heap.size w1 w3) := H2.out.trans (bb.mono H2.out.size); clear bb))
            go_roundw
            case rel => exact ⟨k + 1, by omega, by go_num, by rw [HQ.out.2], by rw [HQ.out.1], (HF.out _ H3.out).1⟩
            case measure => simp [intOf]; omega
          | true =>
            rw [hx] at hP HS
            have HQ : Hid ((nxL tb s.q g l (k + 1)).1 = (k : Int) ∧ (nxL tb s.q g l (k + 1)).2 = (isK tb k).prio) := by
              rw [HS.out, if_pos (by simpa using hp)]
              exact ⟨rfl, rfl⟩
            clear HS hq hx
            generalize (nxL tb s.q g l k).1 = b1 at *
            generalize (nxL tb s.q g l k).2 = b2 at *
            go_upto_region 8 with (first
              | (go_at_call 36; refine hH.mono ?_; clear hH; rintro e w2 ⟨rfl, bb⟩; have H2 : Hid (Below w1.heap.size w1 w2) := bb; clear bb y1; obtain ⟨-, y0, y1, z0, z1, z2⟩ := HF.out _ H2.out)
              | (go_at_call 58; refine (hP _).mono ?_; clear hP; rintro e w3 ⟨rfl, bb⟩; have H3 : Hid (Below w1.heap.size w1 w3) := H2.out.trans (bb.mono H2.out.size); clear bb y0 y1 z0 z1 z2; obtain ⟨-, y0, y1, -⟩ := HF.out _ H3.out))
            go_region_held_law (fun w' => w'.cell? ⟨X1, 1, none⟩ = some (I (isK tb k).prio)) (first | exact y1 | (go_keep; done)) (fail)
            all_goals
              go_wp2
              go_roundw
              case rel => exact ⟨k + 1, by omega, by go_num, by rw [HQ.out.2], by rw [HQ.out.1], (HF.out _ H3.out).1.drew⟩
              case measure => simp [intOf]; omega
        · have HS2 : Hid (nxL tb s.q g l (k + 1) = nxL tb s.q g l k) := by show _ = _; rw [HS.out, if_neg (by simp [hp])]
          clear HS hq hP
          generalize hb1 : (nxL tb s.q g l k).1 = b1 at *
          generalize hb2 : (nxL tb s.q g l k).2 = b2 at *
          have HQ : Hid ((nxL tb s.q g l (k + 1)).1 = b1 ∧ (nxL tb s.q g l (k + 1)).2 = b2) := by rw [HS2.out]; exact ⟨hb1, hb2⟩
          clear hb1 hb2 HS2
          go_wp2_with (first | (go_at_call 36; refine hH.mono ?_; clear hH; rintro e w2 ⟨rfl, bb⟩; have H2 : Hid (Below w1.heap.size w1 w2) := bb; clear bb y1; obtain ⟨-, y0, y1, z0, z1, z2⟩ := HF.out _ H2.out))
          go_roundw
          case rel => exact ⟨k + 1, by omega, by go_num, by rw [HQ.out.2], by rw [HQ.out.1], (HF.out _ H2.out).1⟩
          case measure => simp [intOf]; omega
    · obtain rfl : k = n := by omega
      have hge : ¬ ((k : Int) < k) := by omega
      have hd := HB.out k
      have HE : Hid (Below w.heap.size w wr) := HH.out.2.1.trans (HJ.out.mono HH.out.2.1.size)
      clear HB HJ HH
      generalize hb1 : (nxL tb s.q g l k).1 = b1 at *
      generalize (nxL tb s.q g l k).2 = b2 at *
      have Hx : Hid ((nxL tb s.q g l k).1 = b1) := hb1
      clear hb1
      by_cases hb : b1 = -1
      · subst hb
        go_wp2
        go_ret2
        exact ⟨by rw [HN.out, Hx.out, show nxO (-1) = false from rfl]; rfl, HE.out⟩
      · have hbq : (b1 != -1) = true := by simpa using hb
        go_wp2
        go_ret2
        exact ⟨by rw [HN.out, Hx.out, show nxO b1 = true by simpa [nxO] using hb]; rfl, HE.out⟩
end
end Go.Proofs.YthhckhifaolmkaaGreat

namespace Go.Proofs.YthhckhifaolmkaaGreat
open Go.RowKit Go.Shelf Go.Sort
open Go.Proofs.YthhckhifaolmkaaGreat.Cl (Fx Fz Ck Cb Alm psA dueA dueF U Q cP own_sl own_some own_below own_base inL ret_bool ret_int heap_lt iinfo cell_one_new take_snoc aftN)
set_option linter.unusedVariables false
set_option linter.unusedSimpArgs false

/-! ### Calm -/
def calA (a : Nat → Alm) (k : Nat) : Nat → Alm := fun j => if j < k then (0, 0) else a j
theorem calA_zero (a : Nat → Alm) : calA a 0 = a := by funext j; simp [calA]
theorem calA_succ (a : Nat → Alm) (k : Nat) : upN (calA a k) k (0, 0) = calA a (k + 1) := by
  funext j
  unfold upN calA
  by_cases h : j = k
  · subst h; simp
  · rw [if_neg h]
    by_cases h2 : j < k
    · rw [if_pos h2, if_pos (by omega)]
    · rw [if_neg h2, if_neg (by omega)]
def calT (tb : Tb) (s : Bs) : Bs := ⟨s.v, calA s.a tb.als.length, fun _ => 0⟩
section
variable {w w' : World} {zn : Nat → Nat} {tb : Tb} {B : Nat} {p : Pl} {s : Bs}
set_option maxRecDepth 100000 in
set_option maxHeartbeats 8000000 in
theorem bCalm (h : Bo w zn tb B p s) : Calls Tryz.prog 20 #[bP B] w fun e w' => e = .returned (I 0) ∧ Bo w' zn tb B p (calT tb s) ∧ Fz (Wr zn) w w' := by
  obtain ⟨c0, c1, c2, c3, -⟩ := h.cells
  have hN := bnone_any h
  obtain ⟨a, cc, hv⟩ := own_sl h.a
  rw [hv] at c2
  have hn := h.ok.na
  have HI : Hid (Bo w zn tb B p ⟨s.v, calA s.a 0, s.q⟩ ∧ Fz (Wr zn) w w) := ⟨by rw [calA_zero]; exact h, Fz.refl _ _⟩
  clear h hv
  go_enter Tryz.func20, Tryz.ntmps20
  go_wp2_with (first | (go_at_call 28; refine hN.mono ?_; rintro e w1 ⟨rfl, rfl⟩))
  clear c0 c1 c2 c3 hN
  go_loopw [3, 11] (fun _ v11 wr => ∃ k : Nat, k ≤ tb.als.length ∧ v11 = I k ∧ Hid (Bo wr zn tb B p ⟨s.v, calA s.a k, s.q⟩ ∧ Fz (Wr zn) w wr)) (fun _ v11 _ => tb.als.length - (intOf v11).toNat)
  case atStart => exact ⟨0, by omega, rfl, HI.out⟩
  case round =>
    clear HI
    obtain ⟨k, hk, rfl, HJ⟩ := hrel
    by_cases hlt : k < tb.als.length
    · have hltI : (k : Int) < tb.als.length := by omega
      have hC := bCancel HJ.out.1 k
      have e1 : canT tb ⟨s.v, calA s.a k, s.q⟩ (k : Int) = ⟨s.v, calA s.a (k + 1), s.q⟩ := by
        unfold canT
        rw [if_neg (in_out hlt), Int.toNat_natCast]
        show (⟨s.v, upN (calA s.a k) k (0, 0), s.q⟩ : Bs) = _
        rw [calA_succ]
      rw [e1] at hC
      generalize getB tb ⟨s.v, calA s.a k, s.q⟩ (k : Int) = r at *
      clear e1
      go_wp2_with (first | (go_at_call 12; refine hC.mono ?_; clear hC; rintro e w2 ⟨rfl, k2, z2⟩; have H2 : Hid (Bo w2 zn tb B p ⟨s.v, calA s.a (k + 1), s.q⟩ ∧ Fz (Wr zn) w w2) := ⟨k2, HJ.out.2.trans z2⟩; clear k2 z2))
      go_roundw
      case rel => exact ⟨k + 1, by omega, by go_num, H2.out⟩
      case measure => simp [intOf]; omega
    · obtain rfl : k = tb.als.length := by omega
      have hge : ¬ ((tb.als.length : Int) < tb.als.length) := by omega
      have h0 := HJ.out.1
      obtain ⟨h1, z1⟩ := h0.setQ (k := 0) (x := 0) (by omega) (by omega)
      obtain ⟨h2, z2⟩ := h1.setQ (k := 1) (x := 0) (by omega) (by omega)
      obtain ⟨h3, z3⟩ := h2.setQ (k := 2) (x := 0) (by omega) (by omega)
      obtain ⟨h4, z4⟩ := h3.setQ (k := 3) (x := 0) (by omega) (by omega)
      obtain ⟨u0, y0⟩ : ∃ u, wr.cell? ⟨B, 4, none⟩ = some (.int .u8 u) := ⟨_, h0.byte (k := 0) (by omega)⟩
      have f0 : wr.frozen? ⟨B, 4, none⟩ = false := h0.frz 4
      obtain ⟨u1, y1⟩ : ∃ u, (wr.setCell ⟨B, 4, none⟩ (.int .u8 0)).cell? ⟨B, 5, none⟩ = some (.int .u8 u) := ⟨_, h1.byte (k := 1) (by omega)⟩
      have f1 : (wr.setCell ⟨B, 4, none⟩ (.int .u8 0)).frozen? ⟨B, 5, none⟩ = false := h1.frz 5
      obtain ⟨u2, y2⟩ : ∃ u, ((wr.setCell ⟨B, 4, none⟩ (.int .u8 0)).setCell ⟨B, 5, none⟩ (.int .u8 0)).cell? ⟨B, 6, none⟩ = some (.int .u8 u) := ⟨_, h2.byte (k := 2) (by omega)⟩
      have f2 : ((wr.setCell ⟨B, 4, none⟩ (.int .u8 0)).setCell ⟨B, 5, none⟩ (.int .u8 0)).frozen? ⟨B, 6, none⟩ = false := h2.frz 6
      obtain ⟨u3, y3⟩ : ∃ u, (((wr.setCell ⟨B, 4, none⟩ (.int .u8 0)).setCell ⟨B, 5, none⟩ (.int .u8 0)).setCell ⟨B, 6, none⟩ (.int .u8 0)).cell? ⟨B, 7, none⟩ = some (.int .u8 u) := ⟨_, h3.byte (k := 3) (by omega)⟩
      have f3 : (((wr.setCell ⟨B, 4, none⟩ (.int .u8 0)).setCell ⟨B, 5, none⟩ (.int .u8 0)).setCell ⟨B, 6, none⟩ (.int .u8 0)).frozen? ⟨B, 7, none⟩ = false := h3.frz 7
      have HE : Hid (Bo ((((wr.setCell ⟨B, 4, none⟩ (.int .u8 0)).setCell ⟨B, 5, none⟩ (.int .u8 0)).setCell ⟨B, 6, none⟩ (.int .u8 0)).setCell ⟨B, 7, none⟩ (.int .u8 0)) zn tb B p (calT tb s) ∧ Fz (Wr zn) w ((((wr.setCell ⟨B, 4, none⟩ (.int .u8 0)).setCell ⟨B, 5, none⟩ (.int .u8 0)).setCell ⟨B, 6, none⟩ (.int .u8 0)).setCell ⟨B, 7, none⟩ (.int .u8 0))) := by
        refine ⟨⟨?_, h4.c, h4.a, h4.i, h4.k, h4.n, h4.zB, h4.zc, h4.za, h4.zi, h4.zk, h4.zm, h4.zs, h4.ok, fun _ => by show 0 < 256; omega, h4.l⟩, (((HJ.out.2.trans z1).trans z2).trans z3).trans z4⟩
        exact h4.o
      clear h0 h1 h2 h3 h4 z1 z2 z3 z4 HJ
      go_wp2
      go_ret
      exact ⟨rfl, HE.out.1, HE.out.2⟩
end
end Go.Proofs.YthhckhifaolmkaaGreat

