import Derived.Test.YtlbgppijeoonjaaGreatDoorRdrX
import Derived.Test.YtlbgppijeoonjaaGreatDoorListX
import Derived.Test.YtlbgppijeoonjaaGreatDoorTpX
import Derived.Test.YtlbgppijeoonjaaGreatDoorSmc
namespace Go.Proofs.YtlbgppijeoonjaaGreatDoor
open Go
set_option linter.unusedVariables false

/-! ### Where a rule stops, it stops at every row that begins alike -/
/-- The first N tokens are alike, but for their places. -/
def Ag (N : Nat) (xs ys : List Tp) : Prop := ∀ i, i < N → (xs[i]?).map (·.z) = (ys[i]?).map (·.z)
theorem ag_drop {N n : Nat} {xs ys : List Tp} (h : Ag N xs ys) : Ag (N - n) (xs.drop n) (ys.drop n) := by
  intro i hi
  rw [List.getElem?_drop, List.getElem?_drop]
  exact h (n + i) (by omega)
theorem ag_head {N : Nat} {x : Tp} {r ys : List Tp} (h : Ag N (x :: r) ys) (hN : 0 < N) : ∃ y s, ys = y :: s ∧ y.z = x.z := by
  have h0 := h 0 hN
  cases ys with
  | nil => simp at h0
  | cons y s => exact ⟨y, s, rfl, by simpa using h0.symm⟩
theorem ag_comes {N : Nat} {xs ys : List Tp} (h : Ag N xs ys) (hN : 0 < N) (k : Int) : comesL k xs = comesL k ys := by
  have h0 := h 0 hN
  cases xs with
  | nil =>
    cases ys with
    | nil => rfl
    | cons y s => simp at h0
  | cons x r =>
    cases ys with
    | nil => simp at h0
    | cons y s =>
      have : x.z = y.z := by simpa using h0
      show decide (x.z.kind = k) = decide (y.z.kind = k)
      rw [this]
/-- What two rules that go the same way do. -/
def Pr {α : Type} (ρ ρ' : List Tp → PR α) : Prop := ∀ xs ys N, EndL xs → Ag N xs ys → match ρ xs with
  | .ok _ r => EndL r ∧ ∃ n, r = xs.drop n ∧ (n < N → ∃ a', ρ' ys = .ok a' (ys.drop n))
  | .bad c x => c = 0 ∨ ∃ j, xs[j]? = some x ∧ (j < N → ∃ y, ρ' ys = .bad c y)
theorem pr_ok {α : Type} {ρ ρ' : List Tp → PR α} (h : Pr ρ ρ') {xs ys : List Tp} {N : Nat} (hE : EndL xs) (hA : Ag N xs ys) {a : α} {r : List Tp} (e : ρ xs = .ok a r) :
    EndL r ∧ ∃ n, r = xs.drop n ∧ (n < N → ∃ a', ρ' ys = .ok a' (ys.drop n)) := by
  have := h xs ys N hE hA
  rw [e] at this
  exact this
theorem pr_bad {α : Type} {ρ ρ' : List Tp → PR α} (h : Pr ρ ρ') {xs ys : List Tp} {N : Nat} (hE : EndL xs) (hA : Ag N xs ys) {c : Nat} {x : Tp} (e : ρ xs = .bad c x) :
    c = 0 ∨ ∃ j, xs[j]? = some x ∧ (j < N → ∃ y, ρ' ys = .bad c y) := by
  have := h xs ys N hE hA
  rw [e] at this
  exact this
theorem pr_mk {α : Type} {ρ ρ' : List Tp → PR α} (h1 : ∀ xs ys N a r, EndL xs → Ag N xs ys → ρ xs = .ok a r → EndL r ∧ ∃ n, r = xs.drop n ∧ (n < N → ∃ a', ρ' ys = .ok a' (ys.drop n)))
    (h2 : ∀ xs ys N c x, EndL xs → Ag N xs ys → ρ xs = .bad c x → c = 0 ∨ ∃ j, xs[j]? = some x ∧ (j < N → ∃ y, ρ' ys = .bad c y)) : Pr ρ ρ' := by
  intro xs ys N hE hA
  cases e : ρ xs with
  | ok a r => exact h1 xs ys N a r hE hA e
  | bad c x => exact h2 xs ys N c x hE hA e
theorem pr_bind {α β : Type} {m m' : List Tp → PR α} {f f' : α → List Tp → PR β} (hm : Pr m m') (hf : ∀ a a', Pr (f a) (f' a')) :
    Pr (fun xs => (m xs).bind f) (fun xs => (m' xs).bind f') := by
  refine pr_mk (fun xs ys N b r2 hE hA e => ?_) (fun xs ys N c x hE hA e => ?_)
  · obtain ⟨a, r, e1, e2⟩ := bind_okE e
    obtain ⟨hEr, n, rfl, h2⟩ := pr_ok hm hE hA e1
    by_cases hn : n < N
    · obtain ⟨a', ha'⟩ := h2 hn
      obtain ⟨hE2, k, hk, h3⟩ := pr_ok (hf a a') hEr (ag_drop (n := n) hA) e2
      refine ⟨hE2, n + k, by rw [hk, List.drop_drop], fun hlt => ?_⟩
      obtain ⟨b', hb'⟩ := h3 (by omega)
      exact ⟨b', by rw [ha', PR.bind_ok, hb', List.drop_drop]⟩
    · obtain ⟨hE2, k, hk, _⟩ := pr_ok (hf a a) hEr (ag_drop (n := n) hA) e2
      exact ⟨hE2, n + k, by rw [hk, List.drop_drop], fun hlt => by omega⟩
  · cases e1 : m xs with
    | bad c1 x1 =>
      rw [e1, PR.bind_bad] at e
      cases e
      rcases pr_bad hm hE hA e1 with h | ⟨j, h1, h2⟩
      · exact .inl h
      · refine .inr ⟨j, h1, fun hj => ?_⟩
        obtain ⟨y, hy⟩ := h2 hj
        exact ⟨y, by rw [hy, PR.bind_bad]⟩
    | ok a r =>
      rw [e1, PR.bind_ok] at e
      obtain ⟨hEr, n, rfl, h2⟩ := pr_ok hm hE hA e1
      by_cases hn : n < N
      · obtain ⟨a', ha'⟩ := h2 hn
        rcases pr_bad (hf a a') hEr (ag_drop (n := n) hA) e with h | ⟨j, h3, h4⟩
        · exact .inl h
        · refine .inr ⟨n + j, by rw [List.getElem?_drop] at h3; exact h3, fun hlt => ?_⟩
          obtain ⟨y, hy⟩ := h4 (by omega)
          exact ⟨y, by rw [ha', PR.bind_ok, hy]⟩
      · rcases pr_bad (hf a a) hEr (ag_drop (n := n) hA) e with h | ⟨j, h3, _⟩
        · exact .inl h
        · exact .inr ⟨n + j, by rw [List.getElem?_drop] at h3; exact h3, fun hlt => by omega⟩
theorem pr_ret {α : Type} (a a' : α) : Pr (fun xs => .ok a xs) (fun xs => .ok a' xs) :=
  pr_mk (fun xs ys N b r hE hA e => by cases e; exact ⟨hE, 0, rfl, fun _ => ⟨a', rfl⟩⟩) (fun xs ys N c x hE hA e => by cases e)
theorem pr_ite {α : Type} {ρ ρ' τ τ' : List Tp → PR α} (k : Int) (h1 : Pr ρ ρ') (h2 : Pr τ τ') : Pr (fun xs => if comesL k xs = true then ρ xs else τ xs) (fun xs => if comesL k xs = true then ρ' xs else τ' xs) := by
  refine pr_mk (fun xs ys N b r hE hA e => ?_) (fun xs ys N c x hE hA e => ?_)
  · by_cases hc : comesL k xs = true
    · rw [if_pos hc] at e
      obtain ⟨hE2, n, hn, h3⟩ := pr_ok h1 hE hA e
      refine ⟨hE2, n, hn, fun hlt => ?_⟩
      rw [← ag_comes hA (by omega), if_pos hc]
      exact h3 hlt
    · rw [if_neg hc] at e
      obtain ⟨hE2, n, hn, h3⟩ := pr_ok h2 hE hA e
      refine ⟨hE2, n, hn, fun hlt => ?_⟩
      rw [← ag_comes hA (by omega), if_neg hc]
      exact h3 hlt
  · by_cases hc : comesL k xs = true
    · rw [if_pos hc] at e
      rcases pr_bad h1 hE hA e with h | ⟨j, hj, h3⟩
      · exact .inl h
      · refine .inr ⟨j, hj, fun hlt => ?_⟩
        rw [← ag_comes hA (by omega), if_pos hc]
        exact h3 hlt
    · rw [if_neg hc] at e
      rcases pr_bad h2 hE hA e with h | ⟨j, hj, h3⟩
      · exact .inl h
      · refine .inr ⟨j, hj, fun hlt => ?_⟩
        rw [← ag_comes hA (by omega), if_neg hc]
        exact h3 hlt
theorem pr_take (k : Int) (hk : k ≠ 0) : Pr (takeL k) (takeL k) := by
  refine pr_mk (fun xs ys N b r hE hA e => ?_) (fun xs ys N c x hE hA e => ?_)
  · have hl := (take_left hE hk _ _ e).1
    obtain ⟨x, s, rfl⟩ := endL_ne hE
    rw [takeL_cons] at e
    split at e
    · rename_i hx
      cases e
      refine ⟨hl, 1, rfl, fun hlt => ?_⟩
      obtain ⟨y, t, rfl, hz⟩ := ag_head hA (by omega)
      exact ⟨y, by rw [takeL_cons, if_pos (by rw [hz]; exact hx)]; rfl⟩
    · cases e
  · obtain ⟨x0, s, rfl⟩ := endL_ne hE
    rw [takeL_cons] at e
    split at e
    · cases e
    · rename_i hx
      cases e
      refine .inr ⟨0, rfl, fun hlt => ?_⟩
      obtain ⟨y, t, rfl, hz⟩ := ag_head hA hlt
      exact ⟨y, by rw [takeL_cons, if_neg (by rw [hz]; exact hx)]⟩
theorem pr_word (w : List UInt8) : Pr (wordL w) (wordL w) := by
  have hW : ∀ (x : Tp) (r : List Tp), wordL w (x :: r) = if x.z.text = w ∧ x.z.kind = 1 then .ok () r else .bad 30 x := fun _ _ => rfl
  refine pr_mk (fun xs ys N b r hE hA e => ?_) (fun xs ys N c x hE hA e => ?_)
  · have hl := (word_left0 hE _ _ e).1
    obtain ⟨x, s, rfl⟩ := endL_ne hE
    rw [hW] at e
    split at e
    · rename_i hx
      cases e
      refine ⟨hl, 1, rfl, fun hlt => ?_⟩
      obtain ⟨y, t, rfl, hz⟩ := ag_head hA (by omega)
      exact ⟨(), by rw [hW, if_pos (by rw [hz]; exact hx)]; rfl⟩
    · cases e
  · obtain ⟨x0, s, rfl⟩ := endL_ne hE
    rw [hW] at e
    split at e
    · cases e
    · rename_i hx
      cases e
      refine .inr ⟨0, rfl, fun hlt => ?_⟩
      obtain ⟨y, t, rfl, hz⟩ := ag_head hA hlt
      exact ⟨y, by rw [hW, if_neg (by rw [hz]; exact hx)]⟩
theorem pr_note : Pr noteL noteL := pr_ite 8 (pr_bind (pr_take 8 (by decide)) fun _ _ => pr_bind (pr_take 3 (by decide)) fun a a' => pr_ret _ _) (pr_ret _ _)
theorem pr_value : Pr valueL valueL :=
  pr_ite 2 (pr_bind (pr_take 2 (by decide)) fun _ _ => pr_ret _ _) (pr_ite 3 (pr_bind (pr_take 3 (by decide)) fun _ _ => pr_ret _ _) (pr_bind (pr_take 1 (by decide)) fun _ _ => pr_ret _ _))
theorem pr_deep {α : Type} : Pr (fun xs => (.bad 31 (xs.headD tp0) : PR α)) (fun xs => .bad 31 (xs.headD tp0)) :=
  pr_mk (fun xs ys N b r hE hA e => by cases e) (fun xs ys N c x hE hA e => by
    cases e
    obtain ⟨x0, s, rfl⟩ := endL_ne hE
    exact .inr ⟨0, rfl, fun _ => ⟨_, rfl⟩⟩)
theorem pr_zero {α : Type} (x : Tp) (ρ : List Tp → PR α) : Pr (fun _ => (.bad 0 x : PR α)) ρ :=
  pr_mk (fun xs ys N b r hE hA e => by cases e) (fun xs ys N c x hE hA e => by cases e; exact .inl rfl)
theorem pr_attr (f : Nat) : (∀ d, Pr (attrL f d) (attrL f d)) ∧ (∀ d, Pr (attrsL f d) (attrsL f d)) ∧ (∀ d l l', Pr (rowL f d l) (rowL f d l')) := by
  induction f with
  | zero =>
    refine ⟨fun d => ?_, fun d => ?_, fun d l l' => ?_⟩
    · rw [show attrL 0 d = fun _ => .bad 0 tp0 from by funext xs; rw [attrL]]; exact pr_zero _ _
    · rw [show attrsL 0 d = fun _ => .bad 0 tp0 from by funext xs; rw [attrsL]]; exact pr_zero _ _
    · rw [show rowL 0 d l = fun _ => .bad 0 tp0 from by funext xs; rw [rowL]]; exact pr_zero _ _
  | succ f ih =>
    obtain ⟨i1, i2, i3⟩ := ih
    refine ⟨fun d => ?_, fun d => ?_, fun d l l' => ?_⟩
    · rw [show attrL (f + 1) d = _ from by funext xs; rw [attrL]]
      refine pr_bind (pr_take 1 (by decide)) fun n n' => pr_bind (pr_take 6 (by decide)) fun _ _ => pr_bind pr_value fun v v' => pr_bind (pr_ite 4 ?_ (pr_ret _ _)) fun bp bp' => pr_bind pr_note fun nt nt' => pr_bind (pr_take 7 (by decide)) fun _ _ => pr_ret _ _
      by_cases hd : d = 4
      · simp only [hd, if_true]
        exact pr_deep
      · simp only [hd, if_false]
        exact pr_bind (i2 (d + 1)) fun ps ps' => pr_ret _ _
    · rw [show attrsL (f + 1) d = _ from by funext xs; rw [attrsL]]
      exact pr_bind (pr_take 4 (by decide)) fun _ _ => i3 d [] []
    · rw [show rowL (f + 1) d l = _ from by funext xs; rw [rowL], show rowL (f + 1) d l' = _ from by funext xs; rw [rowL]]
      exact pr_ite 5 (pr_bind (pr_take 5 (by decide)) fun _ _ => pr_ret _ _) (pr_bind (i1 d) fun a a' => i3 d _ _)
theorem pr_object (f : Nat) : Pr (objectL f) (objectL f) :=
  pr_bind (pr_take 1 (by decide)) fun _ _ => pr_bind (pr_take 1 (by decide)) fun _ _ => pr_bind ((pr_attr f).2.1 0) fun _ _ => pr_bind pr_note fun _ _ => pr_bind (pr_take 7 (by decide)) fun _ _ => pr_ret _ _
theorem pr_objs (f g : Nat) : ∀ l l', Pr (objsL f g l) (objsL f g l') := by
  induction g with
  | zero => intro l l'; rw [show objsL f 0 l = fun _ => .bad 0 tp0 from by funext xs; rw [objsL]]; exact pr_zero _ _
  | succ g ih =>
    intro l l'
    rw [show objsL f (g + 1) l = _ from by funext xs; rw [objsL], show objsL f (g + 1) l' = _ from by funext xs; rw [objsL]]
    exact pr_ite 5 (pr_ret _ _) (pr_bind (pr_object f) fun o o' => ih _ _)
/-- The text, but for its end. -/
def bodyL (f : Nat) (xs : List Tp) : PR Tr :=
  (wordL oilV xs).bind fun _ r => (takeL 6 r).bind fun _ r => (takeL 3 r).bind fun v r => (takeL 7 r).bind fun _ r =>
  (wordL cpuW r).bind fun _ r => (takeL 1 r).bind fun c r => (takeL 4 r).bind fun _ r =>
  (objsL f f [] r).bind fun os r => (takeL 5 r).bind fun _ r => (noteL r).bind fun nt r => (takeL 7 r).bind fun _ r =>
    .ok ⟨v.z.text, c.z.text, os, noteB nt, noteT nt⟩ r
theorem bind_assoc {α β γ : Type} (m : PR α) (f : α → List Tp → PR β) (g : β → List Tp → PR γ) : (m.bind f).bind g = m.bind fun a r => (f a r).bind g := by cases m <;> rfl
theorem text_body (f : Nat) (xs : List Tp) : textL f xs = (bodyL f xs).bind fun t r => (takeL 0 r).bind fun _ r => .ok t r := by
  unfold textL bodyL
  simp only [bind_assoc, PR.bind_ok]
theorem pr_body (f : Nat) : Pr (bodyL f) (bodyL f) :=
  pr_bind (pr_word _) fun _ _ => pr_bind (pr_take 6 (by decide)) fun _ _ => pr_bind (pr_take 3 (by decide)) fun _ _ => pr_bind (pr_take 7 (by decide)) fun _ _ => pr_bind (pr_word _) fun _ _ => pr_bind (pr_take 1 (by decide)) fun _ _ => pr_bind (pr_take 4 (by decide)) fun _ _ =>
    pr_bind (pr_objs f f [] []) fun _ _ => pr_bind (pr_take 5 (by decide)) fun _ _ => pr_bind pr_note fun _ _ => pr_bind (pr_take 7 (by decide)) fun _ _ => pr_ret _ _
/-- Where a text stops, each row that begins so stops too. -/
theorem text_stops (f : Nat) (xs : List Tp) (hE : EndL xs) (c : Nat) (x : Tp) (hc : c ≠ 0) (h : textL f xs = .bad c x) (ys : List Tp) (N : Nat) (hA : Ag N xs ys) :
    ∃ j, xs[j]? = some x ∧ (j < N → ∃ y, textL f ys = .bad c y) := by
  rw [text_body] at h
  cases e : bodyL f xs with
  | bad c1 x1 =>
    rw [e, PR.bind_bad] at h
    cases h
    rcases pr_bad (pr_body f) hE hA e with h | ⟨j, hj, h3⟩
    · exact absurd h hc
    · refine ⟨j, hj, fun hlt => ?_⟩
      obtain ⟨y, hy⟩ := h3 hlt
      exact ⟨y, by rw [text_body, hy, PR.bind_bad]⟩
  | ok t r =>
    rw [e, PR.bind_ok] at h
    obtain ⟨hEr, n, rfl, h3⟩ := pr_ok (pr_body f) hE hA e
    obtain ⟨x0, s, hs⟩ := endL_ne hEr
    rw [hs, takeL_cons] at h
    split at h
    · cases h
    · rename_i hx
      cases h
      have h0 : (xs.drop n)[0]? = some x := by rw [hs]; rfl
      rw [List.getElem?_drop] at h0
      refine ⟨n, h0, fun hlt => ?_⟩
      obtain ⟨a', ha'⟩ := h3 hlt
      have hA2 := ag_drop (n := n) hA
      rw [hs] at hA2
      obtain ⟨y, t2, hy, hz⟩ := ag_head hA2 (by omega)
      exact ⟨y, by rw [text_body, ha', PR.bind_ok, hy, takeL_cons, if_neg (by rw [hz]; exact hx), PR.bind_bad]⟩
/-! ### More rounds than are wanted change nothing -/
theorem attr_fuel (n : Nat) : (∀ f f' d xs, xs.length ≤ n → 2 * xs.length ≤ f → 2 * xs.length ≤ f' → EndL xs → attrL f d xs = attrL f' d xs) ∧
    (∀ f f' d l xs, xs.length ≤ n → 2 * xs.length + 1 ≤ f → 2 * xs.length + 1 ≤ f' → EndL xs → rowL f d l xs = rowL f' d l xs) := by
  induction n with
  | zero => exact ⟨fun f f' d xs hn _ _ hE => absurd (endL_pos hE) (by omega), fun f f' d l xs hn _ _ hE => absurd (endL_pos hE) (by omega)⟩
  | succ n ih =>
    have A : ∀ f f' d xs, xs.length ≤ n + 1 → 2 * xs.length ≤ f → 2 * xs.length ≤ f' → EndL xs → attrL f d xs = attrL f' d xs := by
      intro f f' d xs hn hf hf' hE
      have hp := endL_pos hE
      obtain ⟨f, rfl⟩ : ∃ g, f = g + 2 := ⟨f - 2, by omega⟩
      obtain ⟨f', rfl⟩ : ∃ g, f' = g + 2 := ⟨f' - 2, by omega⟩
      rw [attrL, attrL]
      cases e1 : takeL 1 xs with
      | bad c x => rfl
      | ok x1 s1 =>
        have l1 := take_left hE (by decide) _ _ e1
        simp only [PR.bind_ok]
        cases e2 : takeL 6 s1 with
        | bad c x => rfl
        | ok x2 s2 =>
          have l2 := take_left l1.1 (by decide) _ _ e2
          simp only [PR.bind_ok]
          cases e3 : valueL s2 with
          | bad c x => rfl
          | ok v s3 =>
            have l3 := value_left l2.1 _ _ e3
            simp only [PR.bind_ok]
            by_cases hc : comesL 4 s3 = true
            · by_cases hd : d = 4
              · simp only [hc, hd, if_true]
              · simp only [hc, hd, if_true, if_false]
                have l4 := take_left l3.1 (by decide) _ _ (skp_take (k := 4) (by decide) hc)
                have e5 : attrsL (f + 1) (d + 1) s3 = attrsL (f' + 1) (d + 1) s3 := by
                  rw [attrsL, attrsL, skp_take (by decide) hc, PR.bind_ok, PR.bind_ok]
                  exact ih.2 f f' (d + 1) [] s3.tail (by omega) (by omega) (by omega) l4.1
                rw [e5]
            · rw [if_neg hc, if_neg hc]
    refine ⟨A, ?_⟩
    intro f
    induction f with
    | zero => intro f' d l xs hn hf _ hE; omega
    | succ f ihf =>
      intro f' d l xs hn hf hf' hE
      obtain ⟨f', rfl⟩ : ∃ g, f' = g + 1 := ⟨f' - 1, by omega⟩
      rw [rowL, rowL]
      by_cases h5 : comesL 5 xs = true
      · rw [if_pos h5, if_pos h5]
      · rw [if_neg h5, if_neg h5, A f f' d xs hn (by omega) (by omega) hE]
        cases e : attrL f' d xs with
        | bad c x => rfl
        | ok a s =>
          have l1 := (attrs_left f').1 d xs hE _ _ e
          rw [PR.bind_ok, PR.bind_ok]
          exact ihf f' d (l ++ [a]) s (by omega) (by omega) (by omega) l1.1
theorem object_fuel (f f' : Nat) (xs : List Tp) (hf : 2 * xs.length ≤ f) (hf' : 2 * xs.length ≤ f') (hE : EndL xs) : objectL f xs = objectL f' xs := by
  have hp := endL_pos hE
  obtain ⟨f, rfl⟩ : ∃ g, f = g + 1 := ⟨f - 1, by omega⟩
  obtain ⟨f', rfl⟩ : ∃ g, f' = g + 1 := ⟨f' - 1, by omega⟩
  unfold objectL
  cases e1 : takeL 1 xs with
  | bad c x => rfl
  | ok x1 s1 =>
    have l1 := take_left hE (by decide) _ _ e1
    simp only [PR.bind_ok]
    cases e2 : takeL 1 s1 with
    | bad c x => rfl
    | ok x2 s2 =>
      have l2 := take_left l1.1 (by decide) _ _ e2
      simp only [PR.bind_ok]
      have e5 : attrsL (f + 1) 0 s2 = attrsL (f' + 1) 0 s2 := by
        rw [attrsL, attrsL]
        cases e3 : takeL 4 s2 with
        | bad c x => rfl
        | ok x3 s3 =>
          have l3 := take_left l2.1 (by decide) _ _ e3
          rw [PR.bind_ok, PR.bind_ok]
          exact (attr_fuel s3.length).2 f f' 0 [] s3 (Nat.le_refl _) (by omega) (by omega) l3.1
      rw [e5]
theorem objs_fuel (f f' g g' : Nat) (l : List Ob) (xs : List Tp) (hf : 2 * xs.length ≤ f) (hf' : 2 * xs.length ≤ f') (hg : xs.length + 1 ≤ g) (hg' : xs.length + 1 ≤ g') (hE : EndL xs) : objsL f g l xs = objsL f' g' l xs := by
  induction g generalizing g' l xs with
  | zero => omega
  | succ g ih =>
    obtain ⟨g', rfl⟩ : ∃ k, g' = k + 1 := ⟨g' - 1, by omega⟩
    rw [objsL, objsL, object_fuel f f' xs hf hf' hE]
    by_cases h5 : comesL 5 xs = true
    · rw [if_pos h5, if_pos h5]
    · rw [if_neg h5, if_neg h5]
      cases e : objectL f' xs with
      | bad c x => rfl
      | ok a s =>
        have l1 := object_left0 hE _ _ e
        rw [PR.bind_ok, PR.bind_ok]
        exact ih g' (l ++ [a]) s (by omega) (by omega) (by omega) (by omega) l1.1
theorem text_fuel (f f' : Nat) (xs : List Tp) (hf : 2 * xs.length ≤ f) (hf' : 2 * xs.length ≤ f') (hE : EndL xs) : textL f xs = textL f' xs := by
  unfold textL
  cases e1 : wordL oilV xs with
  | bad c x => rfl
  | ok x1 s1 =>
  have l1 := word_left0 hE _ _ e1
  simp only [PR.bind_ok]
  cases e2 : takeL 6 s1 with
  | bad c x => rfl
  | ok x2 s2 =>
  have l2 := take_left l1.1 (by decide) _ _ e2
  simp only [PR.bind_ok]
  cases e3 : takeL 3 s2 with
  | bad c x => rfl
  | ok x3 s3 =>
  have l3 := take_left l2.1 (by decide) _ _ e3
  simp only [PR.bind_ok]
  cases e4 : takeL 7 s3 with
  | bad c x => rfl
  | ok x4 s4 =>
  have l4 := take_left l3.1 (by decide) _ _ e4
  simp only [PR.bind_ok]
  cases e5 : wordL cpuW s4 with
  | bad c x => rfl
  | ok x5 s5 =>
  have l5 := word_left0 l4.1 _ _ e5
  simp only [PR.bind_ok]
  cases e6 : takeL 1 s5 with
  | bad c x => rfl
  | ok x6 s6 =>
  have l6 := take_left l5.1 (by decide) _ _ e6
  simp only [PR.bind_ok]
  cases e7 : takeL 4 s6 with
  | bad c x => rfl
  | ok x7 s7 =>
  have l7 := take_left l6.1 (by decide) _ _ e7
  simp only [PR.bind_ok]
  rw [objs_fuel f f' f f' [] s7 (by omega) (by omega) (by omega) (by omega) l7.1]
end Go.Proofs.YtlbgppijeoonjaaGreatDoor

namespace Go.Proofs.YtlbgppijeoonjaaGreatDoor
open Go
set_option linter.unusedVariables false

/-- A text that says nothing, whatever stands behind it. -/
def Sil (b : List UInt8) : Prop := ∀ r, skipL (b ++ r) = (b.length + (skipL r).1, (skipL r).2)
theorem sil_nil : Sil [] := fun r => by simp
theorem sil_cons {c : UInt8} {b : List UInt8} (h : isB c = true) (hb : Sil b) : Sil (c :: b) := fun r => by
  rw [List.cons_append, skip_blank h, hb r]
  simp
  omega
theorem sil_line {b c : List UInt8} (h : 10 ∉ b) (hc : Sil c) : Sil (47 :: 47 :: (b ++ 10 :: c)) := fun r => by
  have e : (47 :: 47 :: (b ++ 10 :: c)) ++ r = 47 :: 47 :: (b ++ 10 :: (c ++ r)) := by simp
  rw [e, skip_com (isC_line _) (com_line h (Or.inr rfl))]
  have e2 : (47 :: 47 :: (b ++ 10 :: (c ++ r))).drop (b.length + 2) = 10 :: (c ++ r) := by simp
  rw [e2, skip_blank (by decide), hc r]
  simp
  omega
theorem sil_star {b c : List UInt8} (h : NoE b) (hc : Sil c) : Sil (47 :: 42 :: (b ++ 42 :: 47 :: c)) := fun r => by
  have e : (47 :: 42 :: (b ++ 42 :: 47 :: c)) ++ r = 47 :: 42 :: (b ++ 42 :: 47 :: (c ++ r)) := by simp
  rw [e, skip_com (isC_star _) (com_star h _)]
  have e2 : (47 :: 42 :: (b ++ 42 :: 47 :: (c ++ r))).drop (b.length + 4) = c ++ r := by
    rw [show b.length + 4 = (b.length + 2) + 1 + 1 by omega, List.drop_succ_cons, List.drop_succ_cons, ← List.drop_drop, List.drop_left]
    rfl
  rw [e2, hc r]
  simp
  omega
def btw (k : Nat) : List UInt8 :=
  match k % 8 with
  | 0 => [32]
  | 1 => [10]
  | 2 => [9, 32, 13, 10]
  | 3 => [47, 42, 42, 47]
  | 4 => [47, 47, 123, 59, 10]
  | 5 => [47, 42, 32, 34, 32, 42, 47, 32]
  | 6 => [32, 47, 42, 42, 42, 47]
  | _ => [47, 47, 10, 47, 47, 10]
theorem noE_nil : NoE [] := fun r => by simp [Lib.index, List.isPrefixOf]
theorem noE_a : NoE [32, 34, 32] := fun r => by simp [Lib.index, List.isPrefixOf]
theorem noE_b : NoE [42] := fun r => by simp [Lib.index, List.isPrefixOf]
theorem sil_btw (k : Nat) : Sil (btw k) := by
  unfold btw
  split
  · exact sil_cons (by decide) sil_nil
  · exact sil_cons (by decide) sil_nil
  · exact sil_cons (by decide) (sil_cons (by decide) (sil_cons (by decide) (sil_cons (by decide) sil_nil)))
  · exact sil_star noE_nil sil_nil
  · exact sil_line (b := [123, 59]) (by decide) sil_nil
  · exact sil_star noE_a (sil_cons (by decide) sil_nil)
  · exact sil_cons (by decide) (sil_star noE_b sil_nil)
  · exact sil_line (b := []) (by decide) (sil_line (b := []) (by decide) sil_nil)
/-- A text with what says nothing put between its tokens. -/
def silT (t : List UInt8) (pre : Nat → List UInt8) : Nat → List (Tk × Nat) → List UInt8
  | _, [] => []
  | i, [(k, o)] => pre i ++ t.drop o
  | i, (k, o) :: (k', o') :: r => pre i ++ ((t.drop o).take (o' - o) ++ 10 :: silT t pre (i + 1) ((k', o') :: r))
theorem sil_scan (t : List UInt8) (pre : Nat → List UInt8) (hp : ∀ i, Sil (pre i)) {off : Nat} {ts : List (Tk × Nat)} (h : Good t off ts) : ∀ i, scanK ts.length (silT t pre i ts) = some (ts.map (·.1)) := by
  induction h with
  | @fin off ho h1 h2 =>
    intro i
    show scanK 1 (pre i ++ t.drop t.length) = _
    rw [List.drop_length, scanK_sil (hp i [])]
    exact scanK_end
  | @more off len o k ts ho h1 h2 h3 h4 h5 h6 hg ih =>
    intro i
    obtain ⟨k', hf, hfl⟩ := hg.first
    cases ts with
    | nil => simp at hf
    | cons y r =>
      obtain ⟨k2, o2⟩ := y
      simp at hf
      obtain ⟨rfl, rfl⟩ := hf
      show scanK (r.length + 1 + 1) (pre i ++ ((t.drop o).take (o + len + (skipL (t.drop (o + len))).1 - o) ++ 10 :: silT t pre (i + 1) ((k2, o + len + (skipL (t.drop (o + len))).1) :: r))) = _
      rw [scanK_sil (hp i _)]
      have IH := ih (i + 1)
      generalize silT t pre (i + 1) ((k2, o + len + (skipL (t.drop (o + len))).1) :: r) = R at *
      have e : (t.drop o).take (o + len + (skipL (t.drop (o + len))).1 - o) = (t.drop o).take len ++ (t.drop (o + len)).take (skipL (t.drop (o + len))).1 := by
        rw [show o + len + (skipL (t.drop (o + len))).1 - o = len + (skipL (t.drop (o + len))).1 by omega, List.take_add, List.drop_drop]
      rw [e, List.append_assoc]
      have hl : ((t.drop o).take len).length = len := by rw [List.length_take, List.length_drop]; omega
      have hnw : k.kind = 1 ∨ k.kind = 2 → NW ((t.drop (o + len)).take (skipL (t.drop (o + len))).1 ++ 10 :: R) := by
        intro hk c hc
        have h7 := tok_follow h3 hk
        rw [List.drop_drop] at h7
        cases hd : (t.drop (o + len)).take (skipL (t.drop (o + len))).1 with
        | nil => rw [hd] at hc; cases hc; decide
        | cons x y =>
          rw [hd] at hc
          exact nw_take h7 _ c (by rw [hd]; exact hc)
      have ht := tok_app h3 h4 _ hnw
      rw [← hl] at ht
      rw [hl] at ht
      rw [scanK_tok (b := (t.drop o).take len) (by rw [hl]; exact ht) h4 (by intro e; rw [e] at hl; simp at hl; omega)]
      have hs := skip_app (t.drop (o + len)) R hfl
      have hs2 : skipL (((t.drop (o + len)).take (skipL (t.drop (o + len))).1 ++ [10]) ++ R) = (((t.drop (o + len)).take (skipL (t.drop (o + len))).1 ++ [10]).length + (skipL R).1, (skipL R).2) := by
        have hle := skip_le (t.drop (o + len))
        rw [List.append_assoc]
        show skipL ((t.drop (o + len)).take (skipL (t.drop (o + len))).1 ++ 10 :: R) = _
        rw [hs, List.length_append, List.length_take, Nat.min_eq_left hle]
        rfl
      have := scanK_sil hs2 (r.length + 1)
      rw [List.append_assoc] at this
      have h9 : scanK (r.length + 1) ((t.drop (o + len)).take (skipL (t.drop (o + len))).1 ++ 10 :: R) = scanK (r.length + 1) R := this
      rw [h9]
      have IH' : scanK (r.length + 1) R = _ := IH
      rw [IH']
      rfl
theorem quo_said (l said : List UInt8) (i : Nat) (sd : List UInt8) (n : Nat) (h : quoL l said i = .done sd n) (hs : said.all sayB = true) : sd.all sayB = true := by
  induction hl : l.length using Nat.strongRecOn generalizing l said i with
  | _ m ih =>
    rw [quoL.eq_def] at h
    cases l with
    | nil => cases h
    | cons c t =>
      simp only at h
      simp at hl
      split at h
      · cases h; exact hs
      · split at h
        · cases h
        · next hsay =>
          split at h
          · cases t with
            | nil => cases h
            | cons d t' =>
              simp only at h
              simp at hl
              split at h
              · next he =>
                have hd : sayB d = true := by
                  have := of_decide_eq_true he
                  rcases this with rfl | rfl <;> decide
                exact ih t'.length (by omega) t' _ _ h (by rw [List.all_append, hs]; simp [hd]) rfl
              · cases h
          · exact ih t.length (by omega) t _ _ h (by rw [List.all_append, hs]; simpa using hsay) rfl
theorem wlen_take (l : List UInt8) : wlen (l.take (wlen l)) = (l.take (wlen l)).length := by
  have := (word_app l [] (fun c h => by cases h)).1
  rw [List.append_nil] at this
  rw [this, List.length_take, Nat.min_eq_left (wlen_le l)]
theorem spz_name {t : List UInt8} (h : nameL t = true) : spz ⟨1, t, 0, false⟩ = some t := by simp [spz, plainZ, h]
theorem spz_num (v : Nat) (h : Bool) : spz ⟨2, [], v, h⟩ = some (if h = true then 48 :: 120 :: hexU v else Lib.decDigits v) := by simp [spz]
theorem spz_str {t : List UInt8} (h : strL t = true) : spz ⟨3, t, 0, false⟩ = some (34 :: (escL t ++ [34])) := by simp [spz, plainZ, h]
/-- What was read can be written. -/
theorem tok_spz {c : UInt8} {t : List UInt8} {k : Tk} {len : Nat} (h : tokL (c :: t) = .ok k len) : ∃ b, spz ⟨k.kind, k.text, k.val, k.hex⟩ = some b ∧ b ≠ [] := by
  unfold tokL at h
  simp only at h
  split at h
  · next hL =>
    split at h
    · cases h
    · next h63 =>
      cases h
      have h1 := wlen_take (c :: t)
      have h2 := wlen_le (c :: t)
      obtain ⟨j, hj⟩ : ∃ j, wlen (c :: t) = j + 1 := ⟨wlen (c :: t) - 1, by have := wlen_pos t (isW_L hL); omega⟩
      refine ⟨(c :: t).take (wlen (c :: t)), spz_name ?_, by rw [hj]; simp⟩
      unfold nameL
      rw [decide_eq_true (by rw [List.length_take]; omega), decide_eq_true h1, hj]
      simp [hL]
  · split at h
    · split at h
      · cases h
      · next v hx hn =>
        cases h
        refine ⟨_, spz_num v hx, ?_⟩
        split
        · simp
        · exact (dec_val _).2.2.1
    · split at h
      · cases hq : quoL t [] 0 with
        | bad a => rw [hq] at h; cases h
        | open_ => rw [hq] at h; cases h
        | done sd n =>
          rw [hq] at h
          unfold quoT at h
          simp only at h
          split at h
          · cases h
          · next h255 =>
            cases h
            have := quo_said t [] 0 sd n hq rfl
            refine ⟨34 :: (escL sd ++ [34]), spz_str (t := sd) ?_, by simp⟩
            unfold strL
            rw [decide_eq_true (by omega), this]
            rfl
      · split at h
        · cases h
        · next hm =>
          cases h
          have : mrk c = 4 ∨ mrk c = 5 ∨ mrk c = 6 ∨ mrk c = 7 ∨ mrk c = 8 := by
            unfold mrk at hm ⊢
            split
            · simp
            · split
              · simp
              · split
                · simp
                · split
                  · simp
                  · split
                    · simp
                    · next a b c' d e => rw [if_neg a, if_neg b, if_neg c', if_neg d, if_neg e] at hm; exact absurd rfl hm
          refine ⟨[mkB (mrk c)], ?_, by simp⟩
          rcases this with e | e | e | e | e <;> rw [e] <;> rfl
theorem Good.spell {t : List UInt8} {off : Nat} {ts : List (Tk × Nat)} (h : Good t off ts) : ∀ {i : Nat} {k : Tk} {o : Nat}, ts[i]? = some (k, o) → k.kind ≠ 0 → ∃ b, spz ⟨k.kind, k.text, k.val, k.hex⟩ = some b ∧ b ≠ [] := by
  induction h with
  | @fin off ho h1 h2 =>
    intro i k o hi hk
    cases i with
    | zero => simp at hi; obtain ⟨rfl, rfl⟩ := hi; exact absurd rfl hk
    | succ i => simp at hi
  | @more off len o k ts ho h1 h2 h3 h4 h5 h6 hg ih =>
    intro i k1 o1 hi hk
    cases i with
    | zero =>
      simp at hi
      obtain ⟨rfl, rfl⟩ := hi
      have hd : t.drop o = t[o]'(by omega) :: t.drop (o + 1) := List.drop_eq_getElem_cons (by omega)
      rw [hd] at h3
      exact tok_spz h3
    | succ i => exact ih (by simpa using hi) hk
/-- The values of numbers are within 32 bits. -/
theorem tok_val {l : List UInt8} {k : Tk} {len : Nat} (h : tokL l = .ok k len) : k.val ≤ 4294967295 := by
  cases l with
  | nil => cases h; simp
  | cons c t =>
    unfold tokL at h
    simp only at h
    split at h
    · split at h
      · cases h
      · cases h; simp
    · split at h
      · split at h
        · cases h
        · next v hx hn =>
          cases h
          have key : ∀ b l' v', numB b l' = some v' → v' ≤ 4294967295 := by
            intro b l' v' hb
            unfold numB at hb
            split at hb
            · next hh => cases hb; exact hh.2.2
            · cases hb
          unfold numL at hn
          split at hn
          · cases hb : numB 16 (((c :: t).take (wlen (c :: t))).drop 2) with
            | none => rw [hb] at hn; cases hn
            | some v' => rw [hb] at hn; cases hn; exact key _ _ _ hb
          · split at hn
            · cases hn
            · cases hb : numB 10 ((c :: t).take (wlen (c :: t))) with
              | none => rw [hb] at hn; cases hn
              | some v' => rw [hb] at hn; cases hn; exact key _ _ _ hb
      · split at h
        · cases hq : quoL t [] 0 with
          | bad a => rw [hq] at h; cases h
          | open_ => rw [hq] at h; cases h
          | done sd n =>
            rw [hq] at h
            unfold quoT at h
            simp only at h
            split at h
            · cases h
            · cases h; simp
        · split at h
          · cases h
          · cases h; simp
end Go.Proofs.YtlbgppijeoonjaaGreatDoor

namespace Go.Proofs.YtlbgppijeoonjaaGreatDoor
open Go
set_option linter.unusedVariables false

/-! ### A text that begins with joined tokens -/
theorem F_K (t : List UInt8) (f off : Nat) (ts : List (Tk × Nat)) (h : scanF t f off = .inl ts) : scanK f (t.drop off) = some (ts.map (·.1)) := by
  induction f generalizing off ts with
  | zero => cases h
  | succ f ih =>
    rw [scanF] at h
    rw [scanK]
    cases hn : nxT (t.drop off) with
    | bad c a => rw [hn] at h; cases h
    | ok k len =>
      rw [hn] at h
      simp only at h ⊢
      by_cases hk : k.kind = 0
      · rw [if_pos hk] at h
        rw [if_pos hk]
        cases h
        rfl
      · rw [if_neg hk] at h
        rw [if_neg hk, List.drop_drop]
        cases hr : scanF t f (off + (skipL (t.drop off)).1 + len) with
        | inr e => rw [hr] at h; cases h
        | inl us =>
          rw [hr] at h
          cases h
          have := ih _ _ hr
          rw [Nat.add_assoc] at this
          rw [this]
          rfl
theorem join_pre (xs : List Tz) (hv : ∀ x ∈ xs, x.val ≤ 4294967295) (hk : ∀ x ∈ xs, x.kind ≠ 0) (first : Bool) (s : List UInt8) (h : joinF first xs = some s) (more : List UInt8) (f : Nat) (ks : List Tk) (hs : scanK f (s ++ 32 :: more) = some ks) : ∃ ks', ks = xs.map tkOf ++ ks' := by
  induction xs generalizing first s f ks with
  | nil => exact ⟨ks, rfl⟩
  | cons x r ih =>
    rw [joinF] at h
    rw [if_neg (fun k => hk x (by simp) k.1)] at h
    cases hp : spz x with
    | none => rw [hp] at h; cases h
    | some a =>
      rw [hp] at h
      simp only at h
      cases hj : joinF false r with
      | none => rw [hj] at h; cases h
      | some b =>
        rw [hj] at h
        cases h
        cases f with
        | zero => cases hs
        | succ f =>
          have hnw : NW (b ++ 32 :: more) := by
            intro c hc
            rcases join_head hj with e | e
            · rw [e] at hc; cases hc; decide
            · cases b with
              | nil => cases e
              | cons y b => cases e; cases hc; decide
          obtain ⟨t1, t2, t3⟩ := tok_spell hp (hk x (by simp)) (hv x (by simp)) (b ++ 32 :: more) hnw
          have key : scanK (f + 1) (a ++ (b ++ 32 :: more)) = some ks := by
            cases first with
            | true => rw [← List.append_assoc]; exact hs
            | false =>
              have e : ((if (false : Bool) = true then a else 32 :: a) ++ b) ++ 32 :: more = [32] ++ (a ++ (b ++ 32 :: more)) := by simp
              rw [e, scanK_sil (sil_blank _)] at hs
              exact hs
          rw [scanK_tok t1 t2 t3] at key
          cases hr : scanK f (b ++ 32 :: more) with
          | none => rw [hr] at key; cases key
          | some us =>
            rw [hr] at key
            cases key
            obtain ⟨ks', hks⟩ := ih (fun y hy => hv y (by simp [hy])) (fun y hy => hk y (by simp [hy])) false b hj f us hr
            exact ⟨ks', by rw [hks]; rfl⟩
theorem good_val {t : List UInt8} {off : Nat} {ts : List (Tk × Nat)} (h : Good t off ts) : ∀ {i : Nat} {k : Tk} {o : Nat}, ts[i]? = some (k, o) → k.val ≤ 4294967295 := by
  induction h with
  | @fin off ho h1 h2 =>
    intro i k o hi
    cases i with
    | zero => simp at hi; obtain ⟨rfl, rfl⟩ := hi; decide
    | succ i => simp at hi
  | @more off len o k ts ho h1 h2 h3 h4 h5 h6 hg ih =>
    intro i k1 o1 hi
    cases i with
    | zero => simp at hi; obtain ⟨rfl, rfl⟩ := hi; exact tok_val h3
    | succ i => exact ih (by simpa using hi)
/-- Two tokens at one place are one. -/
theorem good_inj {t : List UInt8} {off : Nat} {ts : List (Tk × Nat)} (h : Good t off ts) : ∀ {i j : Nat} {k k' : Tk} {o : Nat}, ts[i]? = some (k, o) → ts[j]? = some (k', o) → i = j := by
  induction h with
  | @fin off ho h1 h2 =>
    intro i j k k' o hi hj
    cases i with
    | succ i => simp at hi
    | zero =>
      cases j with
      | succ j => simp at hj
      | zero => rfl
  | @more off len o k ts ho h1 h2 h3 h4 h5 h6 hg ih =>
    intro i j k1 k2 o1 hi hj
    cases i with
    | zero =>
      cases j with
      | zero => rfl
      | succ j =>
        simp at hi hj
        have := (hg.le hj).1
        omega
    | succ i =>
      cases j with
      | zero =>
        simp at hi hj
        have := (hg.le hi).1
        omega
      | succ j =>
        simp at hi hj
        rw [ih hi hj]
/-- Only the last token is the end. -/
theorem good_kind {t : List UInt8} {off : Nat} {ts : List (Tk × Nat)} (h : Good t off ts) : ∀ {i : Nat} {k : Tk} {o : Nat}, ts[i]? = some (k, o) → i + 1 < ts.length → k.kind ≠ 0 := by
  induction h with
  | @fin off ho h1 h2 => intro i k o hi hl; simp at hl
  | @more off len o k ts ho h1 h2 h3 h4 h5 h6 hg ih =>
    intro i k1 o1 hi hl
    cases i with
    | zero => simp at hi; obtain ⟨rfl, rfl⟩ := hi; exact h4
    | succ i => exact ih (by simpa using hi) (by simpa using hl)
theorem join_some (xs : List Tz) (h : ∀ x ∈ xs, x.kind ≠ 0 ∧ ∃ b, spz x = some b) (first : Bool) : ∃ s, joinF first xs = some s := by
  induction xs generalizing first with
  | nil => exact ⟨[], rfl⟩
  | cons x r ih =>
    obtain ⟨b, hb⟩ := ih (fun y hy => h y (by simp [hy])) false
    obtain ⟨hk, a, ha⟩ := h x (by simp)
    rw [joinF, if_neg (fun k => hk k.1), ha, hb]
    exact ⟨_, rfl⟩
/-- What the tokens up to one that is at fault are joined to, and anything behind it, is no tree's text. -/
theorem stops_parse (s more : List UInt8) (ts : List (Tk × Nat)) (hsc : scanA s = .inl ts) (c : Nat) (x : Tp) (hc : c ≠ 0) (hbad : textL (2 * ts.length) (ts.map (tpOf s)) = .bad c x) :
    ∃ j, (ts.map (tpOf s))[j]? = some x ∧ (∀ i y, (ts.map (tpOf s))[i]? = some y → y.o = x.o → i = j) ∧
      (x.z.kind ≠ 0 → ∃ b, joinF true (((ts.map (tpOf s)).take (j + 1)).map (·.z)) = some b ∧ ∃ c' o l k, parseL (b ++ 32 :: more) = .inr (c', o, l, k) ∧ c' ≠ 0) := by
  obtain ⟨hG, hl⟩ := scanA_good hsc
  obtain ⟨hE, hlen⟩ := good_end hG
  obtain ⟨j, hj, _⟩ := text_stops _ _ hE c x hc hbad [] 0 (fun i hi => by omega)
  have uniq : ∀ i y, (ts.map (tpOf s))[i]? = some y → y.o = x.o → i = j := by
    intro i y hi ho
    rw [List.getElem?_map] at hi hj
    cases e1 : ts[i]? with
    | none => rw [e1] at hi; cases hi
    | some p =>
      cases e2 : ts[j]? with
      | none => rw [e2] at hj; cases hj
      | some q =>
        rw [e1] at hi
        rw [e2] at hj
        cases hi
        cases hj
        have : p.2 = q.2 := by
          have h : ((p.2 : Nat) : Int) = (q.2 : Int) := ho
          omega
        obtain ⟨pk, po⟩ := p
        obtain ⟨qk, qo⟩ := q
        dsimp only at this
        subst this
        exact good_inj hG e1 e2
  refine ⟨j, hj, uniq, fun hk => ?_⟩
  have hjl : j < ts.length := by have := (List.getElem?_eq_some_iff.1 hj).1; simpa using this
  have hk' : ∀ i, i ≤ j → ∀ p, ts[i]? = some p → p.1.kind ≠ 0 := by
    intro i hi p hp
    by_cases hij : i + 1 < ts.length
    · exact good_kind hG (k := p.1) (o := p.2) hp hij
    · have : i = j := by omega
      subst this
      rw [List.getElem?_map, hp] at hj
      cases hj
      intro e
      apply hk
      show ((p.1.kind : Nat) : Int) = 0
      omega
  have hmem : ∀ z ∈ ((ts.map (tpOf s)).take (j + 1)).map (·.z), ∃ i p, i ≤ j ∧ ts[i]? = some p ∧ z = ⟨(p.1.kind : Int), p.1.text, p.1.val, p.1.hex⟩ := by
    intro z hz
    obtain ⟨y, hy, rfl⟩ := List.mem_map.1 hz
    obtain ⟨i, hi⟩ := List.mem_iff_getElem?.1 hy
    rw [List.getElem?_take] at hi
    split at hi
    · rename_i hij
      rw [List.getElem?_map] at hi
      cases e : ts[i]? with
      | none => rw [e] at hi; cases hi
      | some p => rw [e] at hi; cases hi; exact ⟨i, p, by omega, e, rfl⟩
    · cases hi
  have hzk : ∀ z ∈ ((ts.map (tpOf s)).take (j + 1)).map (·.z), z.kind ≠ 0 := by
    intro z hz
    obtain ⟨i, p, hi, hp, rfl⟩ := hmem z hz
    have := hk' i hi p hp
    show ((p.1.kind : Nat) : Int) ≠ 0
    omega
  have hzv : ∀ z ∈ ((ts.map (tpOf s)).take (j + 1)).map (·.z), z.val ≤ 4294967295 := by
    intro z hz
    obtain ⟨i, p, hi, hp, rfl⟩ := hmem z hz
    exact good_val hG (k := p.1) (o := p.2) hp
  obtain ⟨b, hb⟩ := join_some (((ts.map (tpOf s)).take (j + 1)).map (·.z)) (fun z hz => ⟨hzk z hz, by
    obtain ⟨i, p, hi, hp, rfl⟩ := hmem z hz
    obtain ⟨a, ha, _⟩ := hG.spell (k := p.1) (o := p.2) hp (hk' i hi p hp)
    exact ⟨a, ha⟩⟩) true
  refine ⟨b, hb, ?_⟩
  cases hY : scanA (b ++ 32 :: more) with
  | inr ca =>
    obtain ⟨c', a⟩ := ca
    have := (scanA_bad hY).1
    exact ⟨c', _, _, _, by unfold parseL; rw [hY], by omega⟩
  | inl us =>
    obtain ⟨hG2, hl2⟩ := scanA_good hY
    obtain ⟨hE2, _⟩ := good_end hG2
    have hK : scanK ((b ++ 32 :: more).length + 1) (b ++ 32 :: more) = some (us.map (·.1)) := by
      have hF : scanF (b ++ 32 :: more) ((b ++ 32 :: more).length + 1) 0 = .inl us := by
        unfold scanA at hY
        rw [if_neg (by omega)] at hY
        exact hY
      have := F_K _ _ _ _ hF
      rwa [List.drop_zero] at this
    obtain ⟨ks', hks⟩ := join_pre _ hzv hzk true b hb more _ _ hK
    have hA : Ag (j + 1) (ts.map (tpOf s)) (us.map (tpOf (b ++ 32 :: more))) := by
      intro i hi
      have hil : i < ts.length := by omega
      have e1 : ts[i]? = some ts[i] := List.getElem?_eq_getElem hil
      have e2 : (us.map (·.1))[i]? = some (tkOf (tpOf s ts[i]).z) := by
        rw [hks, List.getElem?_append_left (by simp; omega), List.getElem?_map, List.getElem?_map, List.getElem?_take, if_pos hi, List.getElem?_map, e1]
        rfl
      rw [List.getElem?_map] at e2
      rw [List.getElem?_map, List.getElem?_map, e1]
      cases e3 : us[i]? with
      | none => rw [e3] at e2; cases e2
      | some q =>
        rw [e3] at e2
        have hq : q.1 = tkOf (tpOf s ts[i]).z := Option.some.inj e2
        show some (tpOf s ts[i]).z = some (tpOf (b ++ 32 :: more) q).z
        have hz : (tpOf (b ++ 32 :: more) q).z = ⟨(q.1.kind : Int), q.1.text, q.1.val, q.1.hex⟩ := rfl
        rw [hz, hq]
        rfl
    have hF1 : textL (2 * ts.length + 2 * us.length) (ts.map (tpOf s)) = .bad c x := by
      rw [text_fuel (2 * ts.length + 2 * us.length) (2 * ts.length) _ (by simp) (by simp) hE]
      exact hbad
    obtain ⟨j2, hj2, h3⟩ := text_stops _ _ hE c x hc hF1 _ _ hA
    have : j2 = j := uniq j2 x hj2 rfl
    subst this
    obtain ⟨y, hy⟩ := h3 (by omega)
    rw [text_fuel (2 * ts.length + 2 * us.length) (2 * us.length) _ (by simp) (by simp) hE2] at hy
    exact ⟨c, y.o, y.l, y.c, by unfold parseL; rw [hY]; dsimp only; rw [hy], hc⟩
end Go.Proofs.YtlbgppijeoonjaaGreatDoor

namespace Go.Proofs.YtlbgppijeoonjaaGreatDoor
open Go
set_option linter.unusedVariables false

/-! ### The tokens of a tree, by the grammar; they are read as that tree -/
def zM (k : Int) : Tz := ⟨k, [], 0, false⟩
def zN (s : List UInt8) : Tz := ⟨1, s, 0, false⟩
def zV (v : Vl) : Tz := if v.kind = 2 then ⟨2, v.text, v.num, v.hex⟩ else if v.kind = 3 then ⟨3, v.text, v.num, v.hex⟩ else if v.kind = 1 then ⟨1, v.text, v.num, v.hex⟩ else zM 99
def notedT (is : Bool) (s : List UInt8) : List Tz := if is = true then [zM 8, ⟨3, s, 0, false⟩, zM 7] else if s = [] then [zM 7] else [zM 99]
mutual
def attrT (d : Nat) : At → List Tz
  | .mk name _ _ _ v br ps nd nt => zN name :: zM 6 :: zV v :: ((if br = true then zM 4 :: (attrsT (d + 1) ps ++ [zM 5]) else []) ++ ((if 4 < d ∨ (br = false ∧ ps ≠ []) then [zM 99] else []) ++ ((if d = 4 ∧ br = true then [zM 99] else []) ++ notedT nd nt)))
def attrsT (d : Nat) : List At → List Tz
  | [] => []
  | a :: l => attrT d a ++ attrsT d l
end
def Say (xs : List Tz) : Prop := ∀ x, x ∈ xs → spz x ≠ none
theorem say_app {a b : List Tz} (h : Say (a ++ b)) : Say a ∧ Say b := ⟨fun x hx => h x (List.mem_append_left _ hx), fun x hx => h x (List.mem_append_right _ hx)⟩
theorem say_cons {a : Tz} {b : List Tz} (h : Say (a :: b)) : spz a ≠ none ∧ Say b := ⟨h a (List.mem_cons_self ..), fun x hx => h x (List.mem_cons_of_mem _ hx)⟩
theorem spz99 : spz (zM 99) = none := rfl
theorem say_if {p : Prop} [Decidable p] (h : Say (if p then [zM 99] else [])) : ¬ p := fun hp => by
  rw [if_pos hp] at h
  exact h (zM 99) (by simp) spz99
theorem value_read {v : Vl} (h : spz (zV v) ≠ none) {y : Tp} (hy : y.z = zV v) (r : List Tp) : valueL (y :: r) = .ok v r := by
  obtain ⟨kind, text, num, hex⟩ := v
  unfold zV at h hy
  dsimp only at h hy
  by_cases h2 : kind = 2
  · subst h2
    rw [if_pos rfl] at h hy
    have ht : text = [] := by
      apply Classical.byContradiction
      intro ht
      exact h (by simp [spz, ht])
    subst ht
    simp [valueL, comesL, takeL, hy]
  · rw [if_neg h2] at h hy
    by_cases h3 : kind = 3
    · subst h3
      rw [if_pos rfl] at h hy
      have hp : plainZ ⟨3, text, num, hex⟩ = true := by
        apply Classical.byContradiction
        intro ht
        exact h (by simp [spz, ht])
      obtain ⟨e1, e2⟩ := plain_iff hp
      dsimp only at e1 e2
      subst e1 e2
      simp [valueL, comesL, takeL, hy]
    · rw [if_neg h3] at h hy
      by_cases h1 : kind = 1
      · subst h1
        rw [if_pos rfl] at h hy
        have hp : plainZ ⟨1, text, num, hex⟩ = true := by
          apply Classical.byContradiction
          intro ht
          exact h (by simp [spz, ht])
        obtain ⟨e1, e2⟩ := plain_iff hp
        dsimp only at e1 e2
        subst e1 e2
        simp [valueL, comesL, takeL, hy]
      · rw [if_neg h1] at h
        exact absurd spz99 h
theorem note_read {nd : Bool} {nt : List UInt8} (h : Say (notedT nd nt)) {ns : List Tp} (hn : ns.map (·.z) = notedT nd nt) (tail : List Tp) :
    ∃ (x7 : Tp) (o : Option (List UInt8)), noteL (ns ++ tail) = .ok o (x7 :: tail) ∧ x7.z.kind = 7 ∧ noteB o = nd ∧ noteT o = nt := by
  unfold notedT at h hn
  cases nd with
  | true =>
    rw [if_pos rfl] at hn
    obtain ⟨a, ns, rfl, ha, hn⟩ := List.map_eq_cons_iff.1 hn
    obtain ⟨b, ns, rfl, hb, hn⟩ := List.map_eq_cons_iff.1 hn
    obtain ⟨c, ns, rfl, hc, hn⟩ := List.map_eq_cons_iff.1 hn
    obtain rfl := List.map_eq_nil_iff.1 hn
    refine ⟨c, some nt, ?_, by rw [hc]; rfl, rfl, rfl⟩
    simp [noteL, comesL, takeL, ha, hb, zM]
  | false =>
    rw [if_neg (by decide)] at h hn
    by_cases hs : nt = []
    · rw [if_pos hs] at hn
      obtain ⟨c, ns, rfl, hc, hn⟩ := List.map_eq_cons_iff.1 hn
      obtain rfl := List.map_eq_nil_iff.1 hn
      refine ⟨c, none, ?_, by rw [hc]; rfl, rfl, hs.symm⟩
      simp [noteL, comesL, hc, zM]
    · rw [if_neg hs] at h
      exact absurd spz99 (h _ (by simp))
/-- What it means that a row of attributes is read from its tokens. -/
def RowsR (d : Nat) (l : List At) : Prop := ∀ (ys tail : List Tp), ys.map (·.z) = attrsT d l → comesL 5 tail = true →
  ∃ l', SmA false l l' ∧ ∀ f acc, ys.length + 1 ≤ f → rowL f d acc (ys ++ tail) = (takeL 5 tail).bind fun _ r => .ok (acc ++ l') r
theorem comes_head {k : Int} {xs : List Tp} (h : comesL k xs = true) : ∃ x r, xs = x :: r ∧ x.z.kind = k := by
  match xs, h with
  | x :: r, h => exact ⟨x, r, rfl, by simpa [comesL] using h⟩
theorem attr_read (d : Nat) (name : List UInt8) (o ln c : Int) (v : Vl) (br : Bool) (ps : List At) (nd : Bool) (nt : List UInt8) (hS : Say (attrT d (.mk name o ln c v br ps nd nt))) (hP : br = true → RowsR (d + 1) ps)
    (ys : List Tp) (hy : ys.map (·.z) = attrT d (.mk name o ln c v br ps nd nt)) (tail : List Tp) :
    4 ≤ ys.length ∧ (∃ x r, ys = x :: r ∧ x.z.kind = 1) ∧ ∃ (o' l' c' : Int) (ps' : List At), SmA false ps ps' ∧ ∀ f, ys.length ≤ f → attrL f d (ys ++ tail) = .ok (.mk name o' l' c' v br ps' nd nt) tail := by
  rw [attrT] at hS hy
  obtain ⟨s1, hS⟩ := say_cons hS
  obtain ⟨s2, hS⟩ := say_cons hS
  obtain ⟨s3, hS⟩ := say_cons hS
  obtain ⟨sA, hS⟩ := say_app hS
  obtain ⟨sB, hS⟩ := say_app hS
  obtain ⟨sC, sN⟩ := say_app hS
  have hB := say_if sB
  have hC := say_if sC
  rw [if_neg hB, if_neg hC, List.nil_append, List.nil_append] at hy
  obtain ⟨y1, ys, rfl, h1, hy⟩ := List.map_eq_cons_iff.1 hy
  obtain ⟨y2, ys, rfl, h2, hy⟩ := List.map_eq_cons_iff.1 hy
  obtain ⟨y3, zs, rfl, h3, hz⟩ := List.map_eq_cons_iff.1 hy
  · obtain ⟨qa, ns, rfl, hA, hN⟩ := List.map_eq_append_iff.1 hz
    obtain ⟨x7, no, hnote, h7, hnb, hnt⟩ := note_read sN hN tail
    have hns : 1 ≤ ns.length := by
      cases ns with
      | nil =>
        unfold notedT at hN
        split at hN
        · cases hN
        · split at hN <;> cases hN
      | cons _ _ => simp
    have k1 : y1.z.kind = 1 := by rw [h1]; rfl
    have k2 : y2.z.kind = 6 := by rw [h2]; rfl
    have t1 : y1.z.text = name := by rw [h1]; rfl
    refine ⟨by simp; omega, ⟨y1, _, rfl, k1⟩, ?_⟩
    cases br with
    | true =>
      rw [if_pos rfl] at hA
      obtain ⟨b4, bs, rfl, hb4, hbs⟩ := List.map_eq_cons_iff.1 hA
      · obtain ⟨qs, es, rfl, hq, he⟩ := List.map_eq_append_iff.1 hbs
        obtain ⟨e5, es, rfl, he5, hn0⟩ := List.map_eq_cons_iff.1 he
        obtain rfl := List.map_eq_nil_iff.1 hn0
        · have k4 : b4.z.kind = 4 := by rw [hb4]; rfl
          have k5 : e5.z.kind = 5 := by rw [he5]; rfl
          obtain ⟨ps', hsm, hrow⟩ := hP rfl qs (e5 :: (ns ++ tail)) hq (by simp [comesL, k5])
          refine ⟨y1.o, y1.l, y1.c, ps', hsm, fun f hf => ?_⟩
          simp at hf
          obtain ⟨f, rfl⟩ : ∃ g, f = g + 1 + 1 := ⟨f - 2, by omega⟩
          have hd : ¬ d = 4 := fun h => hC ⟨h, rfl⟩
          have hr := hrow f [] (by omega)
          have e : (y1 :: y2 :: y3 :: ((b4 :: (qs ++ [e5])) ++ ns)) ++ tail = y1 :: y2 :: y3 :: b4 :: (qs ++ e5 :: (ns ++ tail)) := by simp
          rw [e, attrL, takeL_cons, if_pos k1, PR.bind_ok, takeL_cons, if_pos k2, PR.bind_ok, value_read s3 h3, PR.bind_ok, if_pos (by simp [comesL, k4]), if_neg hd, attrsL, takeL_cons, if_pos k4, PR.bind_ok, hr, takeL_cons, if_pos k5]
          simp only [PR.bind_ok, hnote, List.nil_append, takeL_cons, if_pos h7, t1, hnb, hnt]
    | false =>
      rw [if_neg (by decide)] at hA
      obtain rfl : qa = [] := List.map_eq_nil_iff.1 hA
      have hps : ps = [] := by
        apply Classical.byContradiction
        intro h
        exact hB (.inr ⟨rfl, h⟩)
      subst hps
      refine ⟨y1.o, y1.l, y1.c, [], .nil, fun f hf => ?_⟩
      simp at hf
      obtain ⟨f, rfl⟩ : ∃ g, f = g + 1 := ⟨f - 1, by omega⟩
      have e : (y1 :: y2 :: y3 :: ([] ++ ns)) ++ tail = y1 :: y2 :: y3 :: (ns ++ tail) := by simp
      have hc4 : comesL 4 (ns ++ tail) = false := by
        cases ns with
        | nil => simp at hns
        | cons n0 nr =>
          have : n0.z.kind = 8 ∨ n0.z.kind = 7 ∨ n0.z.kind = 99 := by
            unfold notedT at hN
            split at hN
            · simp at hN; left; rw [hN.1]; rfl
            · split at hN
              · simp at hN; right; left; rw [hN.1]; rfl
              · simp at hN; right; right; rw [hN.1]; rfl
          simp [comesL]
          omega
      rw [e, attrL, takeL_cons, if_pos k1, PR.bind_ok, takeL_cons, if_pos k2, PR.bind_ok, value_read s3 h3, PR.bind_ok, if_neg (by rw [hc4]; decide)]
      simp only [PR.bind_ok, hnote, takeL_cons, if_pos h7, t1, hnb, hnt]
theorem rows_read (n : Nat) : ∀ (d : Nat) (l : List At), (attrsT d l).length ≤ n → Say (attrsT d l) → RowsR d l := by
  induction n with
  | zero =>
    intro d l hl hS
    cases l with
    | nil =>
      intro ys tail hy h5
      obtain rfl : ys = [] := by rw [attrsT] at hy; simpa using hy
      refine ⟨[], .nil, fun f acc hf => ?_⟩
      obtain ⟨f, rfl⟩ : ∃ g, f = g + 1 := ⟨f - 1, by simp at hf; omega⟩
      rw [List.nil_append, rowL, if_pos h5]
      simp
    | cons a l =>
      obtain ⟨name, o, ln, c, v, br, ps, nd, nt⟩ := a
      rw [attrsT, attrT] at hl
      simp at hl
  | succ n ih =>
    intro d l hl hS
    cases l with
    | nil =>
      intro ys tail hy h5
      obtain rfl : ys = [] := by rw [attrsT] at hy; simpa using hy
      refine ⟨[], .nil, fun f acc hf => ?_⟩
      obtain ⟨f, rfl⟩ : ∃ g, f = g + 1 := ⟨f - 1, by simp at hf; omega⟩
      rw [List.nil_append, rowL, if_pos h5]
      simp
    | cons a l =>
      obtain ⟨name, o, ln, c, v, br, ps, nd, nt⟩ := a
      rw [attrsT] at hl hS
      obtain ⟨sa, sl⟩ := say_app hS
      have hP : br = true → RowsR (d + 1) ps := fun hb => by
        subst hb
        rw [attrT] at sa hl
        rw [if_pos rfl] at sa hl
        obtain ⟨_, sa⟩ := say_cons sa
        obtain ⟨_, sa⟩ := say_cons sa
        obtain ⟨_, sa⟩ := say_cons sa
        obtain ⟨sa, _⟩ := say_app sa
        obtain ⟨_, sa⟩ := say_cons sa
        obtain ⟨sa, _⟩ := say_app sa
        refine ih (d + 1) ps ?_ sa
        simp at hl
        omega
      have hR : RowsR d l := ih d l (by rw [attrT] at hl; simp at hl; omega) sl
      intro ys tail hy h5
      rw [attrsT] at hy
      obtain ⟨qa, bs, rfl, hA, hB⟩ := List.map_eq_append_iff.1 hy
      obtain ⟨l', hsm, hrow⟩ := hR bs tail hB h5
      obtain ⟨h4, ⟨x, r, hx, hk⟩, o', ln', c', ps', hps, hat⟩ := attr_read d name o ln c v br ps nd nt sa hP qa hA (bs ++ tail)
      refine ⟨.mk name o' ln' c' v br ps' nd nt :: l', .cons (fun h => by cases h) hps hsm, fun f acc hf => ?_⟩
      simp at hf
      obtain ⟨f, rfl⟩ : ∃ g, f = g + 1 := ⟨f - 1, by omega⟩
      have hc5 : comesL 5 (qa ++ bs ++ tail) = false := by rw [hx]; simp [comesL, hk]
      rw [rowL, if_neg (by rw [hc5]; decide), List.append_assoc, hat f (by omega), PR.bind_ok, hrow f _ (by omega)]
      simp
end Go.Proofs.YtlbgppijeoonjaaGreatDoor

namespace Go.Proofs.YtlbgppijeoonjaaGreatDoor
open Go
set_option linter.unusedVariables false

/-! ### Objects, and the whole text -/
def objT (o : Ob) : List Tz := zN o.kind :: zN o.name :: zM 4 :: (attrsT 0 o.attrs ++ (zM 5 :: notedT o.noted o.note))
def objsT : List Ob → List Tz
  | [] => []
  | o :: l => objT o ++ objsT l
def treeT (t : Tr) : List Tz := zN oilV :: zM 6 :: ⟨3, t.version, 0, false⟩ :: zM 7 :: zN cpuW :: zN t.cpu :: zM 4 :: (objsT t.objs ++ (zM 5 :: notedT t.noted t.note))
theorem obj_read {ob : Ob} (hS : Say (objT ob)) {ys : List Tp} (hy : ys.map (·.z) = objT ob) (tail : List Tp) :
    5 ≤ ys.length ∧ (∃ x r, ys = x :: r ∧ x.z.kind = 1) ∧ ∃ ob', SmO false ob ob' ∧ ∀ f, ys.length ≤ f → objectL f (ys ++ tail) = .ok ob' tail := by
  unfold objT at hS hy
  obtain ⟨s1, hS⟩ := say_cons hS
  obtain ⟨s2, hS⟩ := say_cons hS
  obtain ⟨s3, hS⟩ := say_cons hS
  obtain ⟨sA, hS⟩ := say_app hS
  obtain ⟨s5, sN⟩ := say_cons hS
  obtain ⟨y1, ys, rfl, h1, hy⟩ := List.map_eq_cons_iff.1 hy
  obtain ⟨y2, ys, rfl, h2, hy⟩ := List.map_eq_cons_iff.1 hy
  obtain ⟨y3, zs, rfl, h3, hz⟩ := List.map_eq_cons_iff.1 hy
  obtain ⟨qa, ns, rfl, hA, hN⟩ := List.map_eq_append_iff.1 hz
  obtain ⟨e5, ns, rfl, he5, hN⟩ := List.map_eq_cons_iff.1 hN
  obtain ⟨x7, no, hnote, h7, hnb, hnt⟩ := note_read sN hN tail
  have hns : 1 ≤ ns.length := by
    cases ns with
    | nil =>
      unfold notedT at hN
      split at hN
      · cases hN
      · split at hN <;> cases hN
    | cons _ _ => simp
  have k1 : y1.z.kind = 1 := by rw [h1]; rfl
  have k2 : y2.z.kind = 1 := by rw [h2]; rfl
  have k4 : y3.z.kind = 4 := by rw [h3]; rfl
  have k5 : e5.z.kind = 5 := by rw [he5]; rfl
  have t1 : y1.z.text = ob.kind := by rw [h1]; rfl
  have t2 : y2.z.text = ob.name := by rw [h2]; rfl
  obtain ⟨ps', hsm, hrow⟩ := rows_read _ 0 ob.attrs (Nat.le_refl _) sA qa (e5 :: (ns ++ tail)) hA (by simp [comesL, k5])
  refine ⟨by simp; omega, ⟨y1, _, rfl, k1⟩, ⟨ob.kind, ob.name, y1.o, y1.l, y1.c, ps', ob.noted, ob.note⟩, ⟨rfl, rfl, rfl, rfl, (fun h => by cases h), hsm⟩, fun f hf => ?_⟩
  simp at hf
  obtain ⟨f, rfl⟩ : ∃ g, f = g + 1 := ⟨f - 1, by omega⟩
  have e : (y1 :: y2 :: y3 :: (qa ++ e5 :: ns)) ++ tail = y1 :: y2 :: y3 :: (qa ++ e5 :: (ns ++ tail)) := by simp
  unfold objectL
  rw [e, takeL_cons, if_pos k1, PR.bind_ok, takeL_cons, if_pos k2, PR.bind_ok, attrsL, takeL_cons, if_pos k4, PR.bind_ok, hrow f [] (by omega), takeL_cons, if_pos k5]
  simp only [PR.bind_ok, hnote, List.nil_append, takeL_cons, if_pos h7, t1, t2, hnb, hnt]
def SmL (l l' : List Ob) : Prop := l.length = l'.length ∧ ∀ (j : Nat) (a a' : Ob), l[j]? = some a → l'[j]? = some a' → SmO false a a'
theorem objs_read (l : List Ob) : Say (objsT l) → ∀ (ys tail : List Tp), ys.map (·.z) = objsT l → comesL 5 tail = true →
    ∃ l', SmL l l' ∧ ∀ f g acc, ys.length + 1 ≤ f → ys.length + 1 ≤ g → objsL f g acc (ys ++ tail) = .ok (acc ++ l') tail := by
  induction l with
  | nil =>
    intro _ ys tail hy h5
    obtain rfl : ys = [] := List.map_eq_nil_iff.1 hy
    refine ⟨[], ⟨rfl, fun j a a' h => by simp at h⟩, fun f g acc _ hg => ?_⟩
    obtain ⟨g, rfl⟩ : ∃ k, g = k + 1 := ⟨g - 1, by simp at hg; omega⟩
    rw [List.nil_append, objsL, if_pos h5, List.append_nil]
  | cons o l ih =>
    intro hS ys tail hy h5
    rw [objsT] at hS hy
    obtain ⟨so, sl⟩ := say_app hS
    obtain ⟨qa, bs, rfl, hA, hB⟩ := List.map_eq_append_iff.1 hy
    obtain ⟨l', hsm, hrow⟩ := ih sl bs tail hB h5
    obtain ⟨h6, ⟨x, r, hx, hk⟩, o', ho, hob⟩ := obj_read so hA (bs ++ tail)
    refine ⟨o' :: l', ⟨by simp [hsm.1], fun j a a' h h' => ?_⟩, fun f g acc hf hg => ?_⟩
    · cases j with
      | zero => simp at h h'; subst h h'; exact ho
      | succ j => exact hsm.2 j a a' (by simpa using h) (by simpa using h')
    · simp at hf hg
      obtain ⟨g, rfl⟩ : ∃ k, g = k + 1 := ⟨g - 1, by omega⟩
      have hc5 : comesL 5 (qa ++ bs ++ tail) = false := by rw [hx]; simp [comesL, hk]
      rw [objsL, if_neg (by rw [hc5]; decide), List.append_assoc, hob f (by omega), PR.bind_ok, hrow f g _ (by omega) (by omega)]
      simp
def SmT (t t' : Tr) : Prop := t.version = t'.version ∧ t.cpu = t'.cpu ∧ t.noted = t'.noted ∧ t.note = t'.note ∧ SmL t.objs t'.objs
theorem text_read {t : Tr} (hS : Say (treeT t)) {ys : List Tp} {e : Tp} (hy : ys.map (·.z) = treeT t) (he : e.z.kind = 0) :
    ∃ t', SmT t t' ∧ ∀ f, ys.length + 1 ≤ f → textL f (ys ++ [e]) = .ok t' [] := by
  unfold treeT at hS hy
  obtain ⟨s1, hS⟩ := say_cons hS
  obtain ⟨s2, hS⟩ := say_cons hS
  obtain ⟨s3, hS⟩ := say_cons hS
  obtain ⟨s4, hS⟩ := say_cons hS
  obtain ⟨s5, hS⟩ := say_cons hS
  obtain ⟨s6, hS⟩ := say_cons hS
  obtain ⟨s7, hS⟩ := say_cons hS
  obtain ⟨sA, hS⟩ := say_app hS
  obtain ⟨s8, sN⟩ := say_cons hS
  obtain ⟨y1, ys, rfl, h1, hy⟩ := List.map_eq_cons_iff.1 hy
  obtain ⟨y2, ys, rfl, h2, hy⟩ := List.map_eq_cons_iff.1 hy
  obtain ⟨y3, ys, rfl, h3, hy⟩ := List.map_eq_cons_iff.1 hy
  obtain ⟨y4, ys, rfl, h4, hy⟩ := List.map_eq_cons_iff.1 hy
  obtain ⟨y5, ys, rfl, h5, hy⟩ := List.map_eq_cons_iff.1 hy
  obtain ⟨y6, ys, rfl, h6, hy⟩ := List.map_eq_cons_iff.1 hy
  obtain ⟨y7, zs, rfl, h7, hz⟩ := List.map_eq_cons_iff.1 hy
  obtain ⟨qa, ns, rfl, hA, hN⟩ := List.map_eq_append_iff.1 hz
  obtain ⟨e5, ns, rfl, he5, hN⟩ := List.map_eq_cons_iff.1 hN
  obtain ⟨x7, no, hnote, h77, hnb, hnt⟩ := note_read sN hN [e]
  have k1 : y1.z.text = oilV ∧ y1.z.kind = 1 := by rw [h1]; exact ⟨rfl, rfl⟩
  have k2 : y2.z.kind = 6 := by rw [h2]; rfl
  have k3 : y3.z.kind = 3 := by rw [h3]
  have k4 : y4.z.kind = 7 := by rw [h4]; rfl
  have k5 : y5.z.text = cpuW ∧ y5.z.kind = 1 := by rw [h5]; exact ⟨rfl, rfl⟩
  have k6 : y6.z.kind = 1 := by rw [h6]; rfl
  have k7 : y7.z.kind = 4 := by rw [h7]; rfl
  have k8 : e5.z.kind = 5 := by rw [he5]; rfl
  have t3 : y3.z.text = t.version := by rw [h3]
  have t6 : y6.z.text = t.cpu := by rw [h6]; rfl
  obtain ⟨os', hsm, hrow⟩ := objs_read t.objs sA qa (e5 :: (ns ++ [e])) hA (by simp [comesL, k8])
  refine ⟨⟨t.version, t.cpu, os', t.noted, t.note⟩, ⟨rfl, rfl, rfl, rfl, hsm⟩, fun f hf => ?_⟩
  simp at hf
  have e1 : (y1 :: y2 :: y3 :: y4 :: y5 :: y6 :: y7 :: (qa ++ e5 :: ns)) ++ [e] = y1 :: y2 :: y3 :: y4 :: y5 :: y6 :: y7 :: (qa ++ e5 :: (ns ++ [e])) := by simp
  unfold textL
  rw [e1, wordL, if_pos k1, PR.bind_ok, takeL_cons, if_pos k2, PR.bind_ok, takeL_cons, if_pos k3, PR.bind_ok, takeL_cons, if_pos k4, PR.bind_ok, wordL, if_pos k5, PR.bind_ok, takeL_cons, if_pos k6, PR.bind_ok, takeL_cons, if_pos k7, PR.bind_ok, hrow f f [] (by omega) (by omega)]
  simp only [PR.bind_ok, takeL_cons, if_pos k8, hnote, if_pos h77, if_pos he, List.nil_append, t3, t6, hnb, hnt]

/-! ### What is between the tokens -/
def gapL (k : Nat) : List UInt8 :=
  if k = 0 then [32] else if k = 1 then [10, 9] else if k = 2 then [32, 47, 47, 32, 97, 32, 110, 111, 116, 101, 10]
  else if k = 3 then [47, 42, 32, 111, 110, 101, 10, 32, 42, 32, 116, 119, 111, 32, 42, 42, 47] else if k = 4 then [13, 10, 32, 32] else [47, 42, 42, 47, 32]
theorem noE_c : NoE [32, 111, 110, 101, 10, 32, 42, 32, 116, 119, 111, 32, 42] := fun r => by simp [Lib.index, List.isPrefixOf]
theorem sil_gap (k : Nat) : Sil (gapL k) := by
  unfold gapL
  split
  · exact sil_cons (by decide) sil_nil
  split
  · exact sil_cons (by decide) (sil_cons (by decide) sil_nil)
  split
  · exact sil_cons (by decide) (sil_line (b := [32, 97, 32, 110, 111, 116, 101]) (by decide) sil_nil)
  split
  · exact sil_star noE_c sil_nil
  split
  · exact sil_cons (by decide) (sil_cons (by decide) (sil_cons (by decide) (sil_cons (by decide) sil_nil)))
  · exact sil_star noE_nil (sil_cons (by decide) sil_nil)
theorem nw_gap (k : Nat) (r : List UInt8) : NW (gapL k ++ r) := by
  unfold gapL
  intro c hc
  split at hc
  · simp at hc; subst hc; decide
  split at hc
  · simp at hc; subst hc; decide
  split at hc
  · simp at hc; subst hc; decide
  split at hc
  · simp at hc; subst hc; decide
  split at hc
  · simp at hc; subst hc; decide
  · simp at hc; subst hc; decide
/-- The tokens' spellings, something silent behind each (from the i-th on). -/
def sayF (g : Nat → Nat) : Nat → List Tz → List UInt8
  | _, [] => []
  | i, x :: r => (spz x).getD [] ++ (gapL (g i) ++ sayF g (i + 1) r)
theorem say_snoc (g : Nat → Nat) (xs : List Tz) (x : Tz) : ∀ i, sayF g i (xs ++ [x]) = sayF g i xs ++ ((spz x).getD [] ++ gapL (g (i + xs.length))) := by
  induction xs with
  | nil => intro i; simp [sayF]
  | cons y r ih =>
    intro i
    rw [List.cons_append, sayF, sayF, ih (i + 1), show i + (y :: r).length = i + 1 + r.length by simp; omega]
    simp
theorem say_scan (g : Nat → Nat) (xs : List Tz) (hS : Say xs) (hk : ∀ x, x ∈ xs → x.kind ≠ 0 ∧ x.val ≤ 4294967295) : ∀ i, scanK (xs.length + 1) (sayF g i xs) = some (xs.map tkOf ++ [endK]) := by
  induction xs with
  | nil => intro i; exact scanK_end
  | cons x r ih =>
    intro i
    obtain ⟨sx, sr⟩ := say_cons hS
    cases hp : spz x with
    | none => exact absurd hp sx
    | some b =>
      obtain ⟨t1, t2, t3⟩ := tok_spell hp (hk x (by simp)).1 (hk x (by simp)).2 (gapL (g i) ++ sayF g (i + 1) r) (nw_gap _ _)
      rw [sayF, hp, Option.getD_some, List.length_cons, scanK_tok t1 t2 t3, scanK_sil (sil_gap _ _), ih sr (fun y hy => hk y (by simp [hy]))]
      rfl
theorem spz_kind {x : Tz} (h : spz x ≠ none) : 0 ≤ x.kind := by
  unfold spz at h
  split at h
  · omega
  split at h
  · omega
  split at h
  · omega
  split at h
  · omega
  split at h
  · omega
  · exact absurd rfl h
/-- A tree's tokens, said with anything silent behind each, are read as that tree. -/
theorem reads_parse (t : Tr) (g : Nat → Nat) (hS : Say (treeT t)) (hk : ∀ x, x ∈ treeT t → x.kind ≠ 0 ∧ x.val ≤ 4294967295) (hl : (sayF g 0 (treeT t)).length ≤ 262144) :
    ∃ t', parseL (sayF g 0 (treeT t)) = .inl t' ∧ SmT t t' := by
  have h1 := say_scan g _ hS hk 0
  generalize sayF g 0 (treeT t) = s at *
  obtain ⟨ts, hG, hts⟩ := K_good s _ 0 _ (Nat.zero_le _) h1
  have hA := good_scanA hG hl
  obtain ⟨hE, _⟩ := good_end hG
  have hz : (ts.map (tpOf s)).map (·.z) = treeT t ++ [⟨0, [], 0, false⟩] := by
    have : (ts.map (tpOf s)).map (·.z) = (ts.map (·.1)).map (fun k => (⟨(k.kind : Int), k.text, k.val, k.hex⟩ : Tz)) := by simp [tpOf]
    rw [this, hts, List.map_append, List.map_map]
    have hid : List.map ((fun k : Tk => (⟨(k.kind : Int), k.text, k.val, k.hex⟩ : Tz)) ∘ tkOf) (treeT t) = treeT t := by
      have : ∀ x, x ∈ treeT t → ((fun k : Tk => (⟨(k.kind : Int), k.text, k.val, k.hex⟩ : Tz)) ∘ tkOf) x = id x := fun x hx => by
        have h0 := spz_kind (hS x hx)
        obtain ⟨kind, text, val, hex⟩ := x
        simp only [Function.comp, tkOf, id]
        rw [Int.toNat_of_nonneg h0]
      rw [List.map_congr_left this, List.map_id]
    rw [hid]
    rfl
  obtain ⟨ys, es, he, hy, hz⟩ := List.map_eq_append_iff.1 hz
  obtain ⟨e, es, rfl, he0, hn⟩ := List.map_eq_cons_iff.1 hz
  obtain rfl := List.map_eq_nil_iff.1 hn
  obtain ⟨t', hsm, ht⟩ := text_read hS hy (e := e) (by rw [he0])
  have hlen : ts.length = ys.length + 1 := by
    have := congrArg List.length he
    simpa using this
  refine ⟨t', ?_, hsm⟩
  unfold parseL
  rw [hA]
  dsimp only
  rw [he, ht _ (by omega)]

/-! ### No token of a tree is the end; their numbers are of 32 bits -/
def Txt (t : List UInt8) : Prop := t.length < 4611686018427387904
def At.fits : At → Prop | .mk name _ _ _ v _ _ _ nt => Txt name ∧ v.num ≤ 4294967295 ∧ Txt v.text ∧ Txt nt
def Ob.fits (o : Ob) : Prop := Txt o.kind ∧ Txt o.name ∧ Txt o.note
def Tr.fits (t : Tr) : Prop := Txt t.version ∧ Txt t.cpu ∧ Txt t.note
inductive NumB : List At → Prop
  | mk {l : List At} : (∀ a, a ∈ l → a.fits) → (∀ a, a ∈ l → NumB a.params) → NumB l
def ZOk (x : Tz) : Prop := x.kind ≠ 0 ∧ x.val ≤ 4294967295 ∧ Txt x.text
theorem txt_nil : Txt [] := by unfold Txt; simp
theorem zM_kv {k : Int} (h : k ≠ 0) : ZOk (zM k) := ⟨h, by simp [zM], txt_nil⟩
theorem zN_kv {t : List UInt8} (h : Txt t) : ZOk (zN t) := ⟨by simp [zN], by simp [zN], h⟩
theorem noted_kv {nd : Bool} {nt : List UInt8} (hn : Txt nt) {x : Tz} (h : x ∈ notedT nd nt) : ZOk x := by
  unfold notedT at h
  split at h
  · simp at h
    rcases h with rfl | rfl | rfl
    · exact zM_kv (by decide)
    · exact ⟨by simp, by simp, hn⟩
    · exact zM_kv (by decide)
  · split at h
    · simp at h; subst h; exact zM_kv (by decide)
    · simp at h; subst h; exact zM_kv (by decide)
theorem zV_kv {v : Vl} (h : v.num ≤ 4294967295) (ht : Txt v.text) : ZOk (zV v) := by
  unfold zV
  split
  · exact ⟨by simp, h, ht⟩
  split
  · exact ⟨by simp, h, ht⟩
  split
  · exact ⟨by simp, h, ht⟩
  · exact zM_kv (by decide)
theorem attrs_kv (n : Nat) : ∀ (d : Nat) (l : List At), (attrsT d l).length ≤ n → NumB l → ∀ x, x ∈ attrsT d l → ZOk x := by
  induction n with
  | zero =>
    intro d l hl _ x hx
    have : attrsT d l = [] := List.eq_nil_of_length_eq_zero (by omega)
    rw [this] at hx
    cases hx
  | succ n ih =>
    intro d l hl hN x hx
    cases l with
    | nil => rw [attrsT] at hx; cases hx
    | cons a l =>
      obtain ⟨name, o, ln, c, v, br, ps, nd, nt⟩ := a
      obtain ⟨h1, h2⟩ := hN
      rw [attrsT] at hl hx
      rcases List.mem_append.1 hx with hx | hx
      · rw [attrT] at hl hx
        simp only [List.mem_cons, List.mem_append] at hx
        rcases hx with rfl | rfl | rfl | hx | hx | hx | hx
        · exact zN_kv (h1 _ (List.mem_cons_self ..)).1
        · exact zM_kv (by decide)
        · exact zV_kv (h1 _ (List.mem_cons_self ..)).2.1 (h1 _ (List.mem_cons_self ..)).2.2.1
        · split at hx
          · rename_i hb
            rw [if_pos hb] at hl
            simp only [List.mem_cons, List.mem_append, List.mem_nil_iff, or_false] at hx
            rcases hx with rfl | hx | rfl
            · exact zM_kv (by decide)
            · exact ih (d + 1) ps (by simp at hl; omega) (h2 _ (List.mem_cons_self ..)) x hx
            · exact zM_kv (by decide)
          · cases hx
        · split at hx
          · simp at hx; subst hx; exact zM_kv (by decide)
          · cases hx
        · split at hx
          · simp at hx; subst hx; exact zM_kv (by decide)
          · cases hx
        · exact noted_kv (h1 _ (List.mem_cons_self ..)).2.2.2 hx
      · exact ih d l (by rw [attrT] at hl; simp at hl; omega) ⟨fun a ha => h1 a (List.mem_cons_of_mem _ ha), fun a ha => h2 a (List.mem_cons_of_mem _ ha)⟩ x hx
theorem objs_kv (l : List Ob) (h : ∀ o, o ∈ l → o.fits ∧ NumB o.attrs) : ∀ x, x ∈ objsT l → ZOk x := by
  induction l with
  | nil => intro x hx; cases hx
  | cons o l ih =>
    intro x hx
    rw [objsT] at hx
    rcases List.mem_append.1 hx with hx | hx
    · unfold objT at hx
      simp only [List.mem_cons, List.mem_append] at hx
      rcases hx with rfl | rfl | rfl | hx | rfl | hx
      · exact zN_kv (h o (List.mem_cons_self ..)).1.1
      · exact zN_kv (h o (List.mem_cons_self ..)).1.2.1
      · exact zM_kv (by decide)
      · exact attrs_kv _ 0 o.attrs (Nat.le_refl _) (h o (List.mem_cons_self ..)).2 x hx
      · exact zM_kv (by decide)
      · exact noted_kv (h o (List.mem_cons_self ..)).1.2.2 hx
    · exact ih (fun o ho => h o (List.mem_cons_of_mem _ ho)) x hx
theorem tree_kv (t : Tr) (ht : t.fits) (h : ∀ o, o ∈ t.objs → o.fits ∧ NumB o.attrs) : ∀ x, x ∈ treeT t → ZOk x := by
  intro x hx
  unfold treeT at hx
  simp only [List.mem_cons, List.mem_append] at hx
  rcases hx with rfl | rfl | rfl | rfl | rfl | rfl | rfl | hx | rfl | hx
  · exact zN_kv (by unfold Txt; decide)
  · exact zM_kv (by decide)
  · exact ⟨by simp, by simp, ht.1⟩
  · exact zM_kv (by decide)
  · exact zN_kv (by unfold Txt; decide)
  · exact zN_kv ht.2.1
  · exact zM_kv (by decide)
  · exact objs_kv _ h x hx
  · exact zM_kv (by decide)
  · exact noted_kv ht.2.2 hx
end Go.Proofs.YtlbgppijeoonjaaGreatDoor

