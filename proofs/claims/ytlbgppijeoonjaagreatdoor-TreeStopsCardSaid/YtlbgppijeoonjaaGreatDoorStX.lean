import Derived.Test.YtlbgppijeoonjaaGreatDoorRdrX
import Derived.Test.YtlbgppijeoonjaaGreatDoorListX
import Derived.Test.YtlbgppijeoonjaaGreatDoorTpX
namespace Go.Proofs.YtlbgppijeoonjaaGreatDoor
open Go
set_option linter.unusedVariables false

/-! ### Where a rule stops, it stops at every row that begins alike -/
/-- The first N tokens are alike, but for their places. -/
def Ag (N : Nat) (xs ys : List Tp) : Prop := ∀ i, i < N → (xs[i]?).map (·.z) = (ys[i]?).map (·.z)
theorem ag_drop {N n : Nat} {xs ys : List Tp} (h : Ag N xs ys) : Ag (N - n) (xs.drop n) (ys.drop n) := by
  intro i hi
  rw [List.getElem?_drop, List.getElem?_drop]
  exact h (n + i) (by omega)
theorem ag_head {N : Nat} {x : Tp} {r ys : List Tp} (h : Ag N (x :: r) ys) (hN : 0 < N) : ∃ y s, ys = y :: s ∧ y.z = x.z := by
  have h0 := h 0 hN
  cases ys with
  | nil => simp at h0
  | cons y s => exact ⟨y, s, rfl, by simpa using h0.symm⟩
theorem ag_comes {N : Nat} {xs ys : List Tp} (h : Ag N xs ys) (hN : 0 < N) (k : Int) : comesL k xs = comesL k ys := by
  have h0 := h 0 hN
  cases xs with
  | nil =>
    cases ys with
    | nil => rfl
    | cons y s => simp at h0
  | cons x r =>
    cases ys with
    | nil => simp at h0
    | cons y s =>
      have : x.z = y.z := by simpa using h0
      show decide (x.z.kind = k) = decide (y.z.kind = k)
      rw [this]
/-- What two rules that go the same way do. -/
def Pr {α : Type} (ρ ρ' : List Tp → PR α) : Prop := ∀ xs ys N, EndL xs → Ag N xs ys → match ρ xs with
  | .ok _ r => EndL r ∧ ∃ n, r = xs.drop n ∧ (n < N → ∃ a', ρ' ys = .ok a' (ys.drop n))
  | .bad c x => c = 0 ∨ ∃ j, xs[j]? = some x ∧ (j < N → ∃ y, ρ' ys = .bad c y)
theorem pr_ok {α : Type} {ρ ρ' : List Tp → PR α} (h : Pr ρ ρ') {xs ys : List Tp} {N : Nat} (hE : EndL xs) (hA : Ag N xs ys) {a : α} {r : List Tp} (e : ρ xs = .ok a r) :
    EndL r ∧ ∃ n, r = xs.drop n ∧ (n < N → ∃ a', ρ' ys = .ok a' (ys.drop n)) := by
  have := h xs ys N hE hA
  rw [e] at this
  exact this
theorem pr_bad {α : Type} {ρ ρ' : List Tp → PR α} (h : Pr ρ ρ') {xs ys : List Tp} {N : Nat} (hE : EndL xs) (hA : Ag N xs ys) {c : Nat} {x : Tp} (e : ρ xs = .bad c x) :
    c = 0 ∨ ∃ j, xs[j]? = some x ∧ (j < N → ∃ y, ρ' ys = .bad c y) := by
  have := h xs ys N hE hA
  rw [e] at this
  exact this
theorem pr_mk {α : Type} {ρ ρ' : List Tp → PR α} (h1 : ∀ xs ys N a r, EndL xs → Ag N xs ys → ρ xs = .ok a r → EndL r ∧ ∃ n, r = xs.drop n ∧ (n < N → ∃ a', ρ' ys = .ok a' (ys.drop n)))
    (h2 : ∀ xs ys N c x, EndL xs → Ag N xs ys → ρ xs = .bad c x → c = 0 ∨ ∃ j, xs[j]? = some x ∧ (j < N → ∃ y, ρ' ys = .bad c y)) : Pr ρ ρ' := by
  intro xs ys N hE hA
  cases e : ρ xs with
  | ok a r => exact h1 xs ys N a r hE hA e
  | bad c x => exact h2 xs ys N c x hE hA e
theorem pr_bind {α β : Type} {m m' : List Tp → PR α} {f f' : α → List Tp → PR β} (hm : Pr m m') (hf : ∀ a a', Pr (f a) (f' a')) :
    Pr (fun xs => (m xs).bind f) (fun xs => (m' xs).bind f') := by
  refine pr_mk (fun xs ys N b r2 hE hA e => ?_) (fun xs ys N c x hE hA e => ?_)
  · obtain ⟨a, r, e1, e2⟩ := bind_okE e
    obtain ⟨hEr, n, rfl, h2⟩ := pr_ok hm hE hA e1
    by_cases hn : n < N
    · obtain ⟨a', ha'⟩ := h2 hn
      obtain ⟨hE2, k, hk, h3⟩ := pr_ok (hf a a') hEr (ag_drop (n := n) hA) e2
      refine ⟨hE2, n + k, by rw [hk, List.drop_drop], fun hlt => ?_⟩
      obtain ⟨b', hb'⟩ := h3 (by omega)
      exact ⟨b', by rw [ha', PR.bind_ok, hb', List.drop_drop]⟩
    · obtain ⟨hE2, k, hk, _⟩ := pr_ok (hf a a) hEr (ag_drop (n := n) hA) e2
      exact ⟨hE2, n + k, by rw [hk, List.drop_drop], fun hlt => by omega⟩
  · cases e1 : m xs with
    | bad c1 x1 =>
      rw [e1, PR.bind_bad] at e
      cases e
      rcases pr_bad hm hE hA e1 with h | ⟨j, h1, h2⟩
      · exact .inl h
      · refine .inr ⟨j, h1, fun hj => ?_⟩
        obtain ⟨y, hy⟩ := h2 hj
        exact ⟨y, by rw [hy, PR.bind_bad]⟩
    | ok a r =>
      rw [e1, PR.bind_ok] at e
      obtain ⟨hEr, n, rfl, h2⟩ := pr_ok hm hE hA e1
      by_cases hn : n < N
      · obtain ⟨a', ha'⟩ := h2 hn
        rcases pr_bad (hf a a') hEr (ag_drop (n := n) hA) e with h | ⟨j, h3, h4⟩
        · exact .inl h
        · refine .inr ⟨n + j, by rw [List.getElem?_drop] at h3; exact h3, fun hlt => ?_⟩
          obtain ⟨y, hy⟩ := h4 (by omega)
          exact ⟨y, by rw [ha', PR.bind_ok, hy]⟩
      · rcases pr_bad (hf a a) hEr (ag_drop (n := n) hA) e with h | ⟨j, h3, _⟩
        · exact .inl h
        · exact .inr ⟨n + j, by rw [List.getElem?_drop] at h3; exact h3, fun hlt => by omega⟩
theorem pr_ret {α : Type} (a a' : α) : Pr (fun xs => .ok a xs) (fun xs => .ok a' xs) :=
  pr_mk (fun xs ys N b r hE hA e => by cases e; exact ⟨hE, 0, rfl, fun _ => ⟨a', rfl⟩⟩) (fun xs ys N c x hE hA e => by cases e)
theorem pr_ite {α : Type} {ρ ρ' τ τ' : List Tp → PR α} (k : Int) (h1 : Pr ρ ρ') (h2 : Pr τ τ') : Pr (fun xs => if comesL k xs = true then ρ xs else τ xs) (fun xs => if comesL k xs = true then ρ' xs else τ' xs) := by
  refine pr_mk (fun xs ys N b r hE hA e => ?_) (fun xs ys N c x hE hA e => ?_)
  · by_cases hc : comesL k xs = true
    · rw [if_pos hc] at e
      obtain ⟨hE2, n, hn, h3⟩ := pr_ok h1 hE hA e
      refine ⟨hE2, n, hn, fun hlt => ?_⟩
      rw [← ag_comes hA (by omega), if_pos hc]
      exact h3 hlt
    · rw [if_neg hc] at e
      obtain ⟨hE2, n, hn, h3⟩ := pr_ok h2 hE hA e
      refine ⟨hE2, n, hn, fun hlt => ?_⟩
      rw [← ag_comes hA (by omega), if_neg hc]
      exact h3 hlt
  · by_cases hc : comesL k xs = true
    · rw [if_pos hc] at e
      rcases pr_bad h1 hE hA e with h | ⟨j, hj, h3⟩
      · exact .inl h
      · refine .inr ⟨j, hj, fun hlt => ?_⟩
        rw [← ag_comes hA (by omega), if_pos hc]
        exact h3 hlt
    · rw [if_neg hc] at e
      rcases pr_bad h2 hE hA e with h | ⟨j, hj, h3⟩
      · exact .inl h
      · refine .inr ⟨j, hj, fun hlt => ?_⟩
        rw [← ag_comes hA (by omega), if_neg hc]
        exact h3 hlt
theorem pr_take (k : Int) (hk : k ≠ 0) : Pr (takeL k) (takeL k) := by
  refine pr_mk (fun xs ys N b r hE hA e => ?_) (fun xs ys N c x hE hA e => ?_)
  · have hl := (take_left hE hk _ _ e).1
    obtain ⟨x, s, rfl⟩ := endL_ne hE
    rw [takeL_cons] at e
    split at e
    · rename_i hx
      cases e
      refine ⟨hl, 1, rfl, fun hlt => ?_⟩
      obtain ⟨y, t, rfl, hz⟩ := ag_head hA (by omega)
      exact ⟨y, by rw [takeL_cons, if_pos (by rw [hz]; exact hx)]; rfl⟩
    · cases e
  · obtain ⟨x0, s, rfl⟩ := endL_ne hE
    rw [takeL_cons] at e
    split at e
    · cases e
    · rename_i hx
      cases e
      refine .inr ⟨0, rfl, fun hlt => ?_⟩
      obtain ⟨y, t, rfl, hz⟩ := ag_head hA hlt
      exact ⟨y, by rw [takeL_cons, if_neg (by rw [hz]; exact hx)]⟩
theorem pr_word (w : List UInt8) : Pr (wordL w) (wordL w) := by
  have hW : ∀ (x : Tp) (r : List Tp), wordL w (x :: r) = if x.z.text = w ∧ x.z.kind = 1 then .ok () r else .bad 30 x := fun _ _ => rfl
  refine pr_mk (fun xs ys N b r hE hA e => ?_) (fun xs ys N c x hE hA e => ?_)
  · have hl := (word_left0 hE _ _ e).1
    obtain ⟨x, s, rfl⟩ := endL_ne hE
    rw [hW] at e
    split at e
    · rename_i hx
      cases e
      refine ⟨hl, 1, rfl, fun hlt => ?_⟩
      obtain ⟨y, t, rfl, hz⟩ := ag_head hA (by omega)
      exact ⟨(), by rw [hW, if_pos (by rw [hz]; exact hx)]; rfl⟩
    · cases e
  · obtain ⟨x0, s, rfl⟩ := endL_ne hE
    rw [hW] at e
    split at e
    · cases e
    · rename_i hx
      cases e
      refine .inr ⟨0, rfl, fun hlt => ?_⟩
      obtain ⟨y, t, rfl, hz⟩ := ag_head hA hlt
      exact ⟨y, by rw [hW, if_neg (by rw [hz]; exact hx)]⟩
theorem pr_note : Pr noteL noteL := pr_ite 8 (pr_bind (pr_take 8 (by decide)) fun _ _ => pr_bind (pr_take 3 (by decide)) fun a a' => pr_ret _ _) (pr_ret _ _)
theorem pr_value : Pr valueL valueL :=
  pr_ite 2 (pr_bind (pr_take 2 (by decide)) fun _ _ => pr_ret _ _) (pr_ite 3 (pr_bind (pr_take 3 (by decide)) fun _ _ => pr_ret _ _) (pr_bind (pr_take 1 (by decide)) fun _ _ => pr_ret _ _))
theorem pr_deep {α : Type} : Pr (fun xs => (.bad 31 (xs.headD tp0) : PR α)) (fun xs => .bad 31 (xs.headD tp0)) :=
  pr_mk (fun xs ys N b r hE hA e => by cases e) (fun xs ys N c x hE hA e => by
    cases e
    obtain ⟨x0, s, rfl⟩ := endL_ne hE
    exact .inr ⟨0, rfl, fun _ => ⟨_, rfl⟩⟩)
theorem pr_zero {α : Type} (x : Tp) (ρ : List Tp → PR α) : Pr (fun _ => (.bad 0 x : PR α)) ρ :=
  pr_mk (fun xs ys N b r hE hA e => by cases e) (fun xs ys N c x hE hA e => by cases e; exact .inl rfl)
theorem pr_attr (f : Nat) : (∀ d, Pr (attrL f d) (attrL f d)) ∧ (∀ d, Pr (attrsL f d) (attrsL f d)) ∧ (∀ d l l', Pr (rowL f d l) (rowL f d l')) := by
  induction f with
  | zero =>
    refine ⟨fun d => ?_, fun d => ?_, fun d l l' => ?_⟩
    · rw [show attrL 0 d = fun _ => .bad 0 tp0 from by funext xs; rw [attrL]]; exact pr_zero _ _
    · rw [show attrsL 0 d = fun _ => .bad 0 tp0 from by funext xs; rw [attrsL]]; exact pr_zero _ _
    · rw [show rowL 0 d l = fun _ => .bad 0 tp0 from by funext xs; rw [rowL]]; exact pr_zero _ _
  | succ f ih =>
    obtain ⟨i1, i2, i3⟩ := ih
    refine ⟨fun d => ?_, fun d => ?_, fun d l l' => ?_⟩
    · rw [show attrL (f + 1) d = _ from by funext xs; rw [attrL]]
      refine pr_bind (pr_take 1 (by decide)) fun n n' => pr_bind (pr_take 6 (by decide)) fun _ _ => pr_bind pr_value fun v v' => pr_bind (pr_ite 4 ?_ (pr_ret _ _)) fun bp bp' => pr_bind pr_note fun nt nt' => pr_bind (pr_take 7 (by decide)) fun _ _ => pr_ret _ _
      by_cases hd : d = 4
      · simp only [hd, if_true]
        exact pr_deep
      · simp only [hd, if_false]
        exact pr_bind (i2 (d + 1)) fun ps ps' => pr_ret _ _
    · rw [show attrsL (f + 1) d = _ from by funext xs; rw [attrsL]]
      exact pr_bind (pr_take 4 (by decide)) fun _ _ => i3 d [] []
    · rw [show rowL (f + 1) d l = _ from by funext xs; rw [rowL], show rowL (f + 1) d l' = _ from by funext xs; rw [rowL]]
      exact pr_ite 5 (pr_bind (pr_take 5 (by decide)) fun _ _ => pr_ret _ _) (pr_bind (i1 d) fun a a' => i3 d _ _)
theorem pr_object (f : Nat) : Pr (objectL f) (objectL f) :=
  pr_bind (pr_take 1 (by decide)) fun _ _ => pr_bind (pr_take 1 (by decide)) fun _ _ => pr_bind ((pr_attr f).2.1 0) fun _ _ => pr_bind pr_note fun _ _ => pr_bind (pr_take 7 (by decide)) fun _ _ => pr_ret _ _
theorem pr_objs (f g : Nat) : ∀ l l', Pr (objsL f g l) (objsL f g l') := by
  induction g with
  | zero => intro l l'; rw [show objsL f 0 l = fun _ => .bad 0 tp0 from by funext xs; rw [objsL]]; exact pr_zero _ _
  | succ g ih =>
    intro l l'
    rw [show objsL f (g + 1) l = _ from by funext xs; rw [objsL], show objsL f (g + 1) l' = _ from by funext xs; rw [objsL]]
    exact pr_ite 5 (pr_ret _ _) (pr_bind (pr_object f) fun o o' => ih _ _)
/-- The text, but for its end. -/
def bodyL (f : Nat) (xs : List Tp) : PR Tr :=
  (wordL oilV xs).bind fun _ r => (takeL 6 r).bind fun _ r => (takeL 3 r).bind fun v r => (takeL 7 r).bind fun _ r =>
  (wordL cpuW r).bind fun _ r => (takeL 1 r).bind fun c r => (takeL 4 r).bind fun _ r =>
  (objsL f f [] r).bind fun os r => (takeL 5 r).bind fun _ r => (noteL r).bind fun nt r => (takeL 7 r).bind fun _ r =>
    .ok ⟨v.z.text, c.z.text, os, noteB nt, noteT nt⟩ r
theorem bind_assoc {α β γ : Type} (m : PR α) (f : α → List Tp → PR β) (g : β → List Tp → PR γ) : (m.bind f).bind g = m.bind fun a r => (f a r).bind g := by cases m <;> rfl
theorem text_body (f : Nat) (xs : List Tp) : textL f xs = (bodyL f xs).bind fun t r => (takeL 0 r).bind fun _ r => .ok t r := by
  unfold textL bodyL
  simp only [bind_assoc, PR.bind_ok]
theorem pr_body (f : Nat) : Pr (bodyL f) (bodyL f) :=
  pr_bind (pr_word _) fun _ _ => pr_bind (pr_take 6 (by decide)) fun _ _ => pr_bind (pr_take 3 (by decide)) fun _ _ => pr_bind (pr_take 7 (by decide)) fun _ _ => pr_bind (pr_word _) fun _ _ => pr_bind (pr_take 1 (by decide)) fun _ _ => pr_bind (pr_take 4 (by decide)) fun _ _ =>
    pr_bind (pr_objs f f [] []) fun _ _ => pr_bind (pr_take 5 (by decide)) fun _ _ => pr_bind pr_note fun _ _ => pr_bind (pr_take 7 (by decide)) fun _ _ => pr_ret _ _
/-- Where a text stops, each row that begins so stops too. -/
theorem text_stops (f : Nat) (xs : List Tp) (hE : EndL xs) (c : Nat) (x : Tp) (hc : c ≠ 0) (h : textL f xs = .bad c x) (ys : List Tp) (N : Nat) (hA : Ag N xs ys) :
    ∃ j, xs[j]? = some x ∧ (j < N → ∃ y, textL f ys = .bad c y) := by
  rw [text_body] at h
  cases e : bodyL f xs with
  | bad c1 x1 =>
    rw [e, PR.bind_bad] at h
    cases h
    rcases pr_bad (pr_body f) hE hA e with h | ⟨j, hj, h3⟩
    · exact absurd h hc
    · refine ⟨j, hj, fun hlt => ?_⟩
      obtain ⟨y, hy⟩ := h3 hlt
      exact ⟨y, by rw [text_body, hy, PR.bind_bad]⟩
  | ok t r =>
    rw [e, PR.bind_ok] at h
    obtain ⟨hEr, n, rfl, h3⟩ := pr_ok (pr_body f) hE hA e
    obtain ⟨x0, s, hs⟩ := endL_ne hEr
    rw [hs, takeL_cons] at h
    split at h
    · cases h
    · rename_i hx
      cases h
      have h0 : (xs.drop n)[0]? = some x := by rw [hs]; rfl
      rw [List.getElem?_drop] at h0
      refine ⟨n, h0, fun hlt => ?_⟩
      obtain ⟨a', ha'⟩ := h3 hlt
      have hA2 := ag_drop (n := n) hA
      rw [hs] at hA2
      obtain ⟨y, t2, hy, hz⟩ := ag_head hA2 (by omega)
      exact ⟨y, by rw [text_body, ha', PR.bind_ok, hy, takeL_cons, if_neg (by rw [hz]; exact hx), PR.bind_bad]⟩
/-! ### More rounds than are wanted change nothing -/
theorem attr_fuel (n : Nat) : (∀ f f' d xs, xs.length ≤ n → 2 * xs.length ≤ f → 2 * xs.length ≤ f' → EndL xs → attrL f d xs = attrL f' d xs) ∧
    (∀ f f' d l xs, xs.length ≤ n → 2 * xs.length + 1 ≤ f → 2 * xs.length + 1 ≤ f' → EndL xs → rowL f d l xs = rowL f' d l xs) := by
  induction n with
  | zero => exact ⟨fun f f' d xs hn _ _ hE => absurd (endL_pos hE) (by omega), fun f f' d l xs hn _ _ hE => absurd (endL_pos hE) (by omega)⟩
  | succ n ih =>
    have A : ∀ f f' d xs, xs.length ≤ n + 1 → 2 * xs.length ≤ f → 2 * xs.length ≤ f' → EndL xs → attrL f d xs = attrL f' d xs := by
      intro f f' d xs hn hf hf' hE
      have hp := endL_pos hE
      obtain ⟨f, rfl⟩ : ∃ g, f = g + 2 := ⟨f - 2, by omega⟩
      obtain ⟨f', rfl⟩ : ∃ g, f' = g + 2 := ⟨f' - 2, by omega⟩
      rw [attrL, attrL]
      cases e1 : takeL 1 xs with
      | bad c x => rfl
      | ok x1 s1 =>
        have l1 := take_left hE (by decide) _ _ e1
        simp only [PR.bind_ok]
        cases e2 : takeL 6 s1 with
        | bad c x => rfl
        | ok x2 s2 =>
          have l2 := take_left l1.1 (by decide) _ _ e2
          simp only [PR.bind_ok]
          cases e3 : valueL s2 with
          | bad c x => rfl
          | ok v s3 =>
            have l3 := value_left l2.1 _ _ e3
            simp only [PR.bind_ok]
            by_cases hc : comesL 4 s3 = true
            · by_cases hd : d = 4
              · simp only [hc, hd, if_true]
              · simp only [hc, hd, if_true, if_false]
                have l4 := take_left l3.1 (by decide) _ _ (skp_take (k := 4) (by decide) hc)
                have e5 : attrsL (f + 1) (d + 1) s3 = attrsL (f' + 1) (d + 1) s3 := by
                  rw [attrsL, attrsL, skp_take (by decide) hc, PR.bind_ok, PR.bind_ok]
                  exact ih.2 f f' (d + 1) [] s3.tail (by omega) (by omega) (by omega) l4.1
                rw [e5]
            · rw [if_neg hc, if_neg hc]
    refine ⟨A, ?_⟩
    intro f
    induction f with
    | zero => intro f' d l xs hn hf _ hE; omega
    | succ f ihf =>
      intro f' d l xs hn hf hf' hE
      obtain ⟨f', rfl⟩ : ∃ g, f' = g + 1 := ⟨f' - 1, by omega⟩
      rw [rowL, rowL]
      by_cases h5 : comesL 5 xs = true
      · rw [if_pos h5, if_pos h5]
      · rw [if_neg h5, if_neg h5, A f f' d xs hn (by omega) (by omega) hE]
        cases e : attrL f' d xs with
        | bad c x => rfl
        | ok a s =>
          have l1 := (attrs_left f').1 d xs hE _ _ e
          rw [PR.bind_ok, PR.bind_ok]
          exact ihf f' d (l ++ [a]) s (by omega) (by omega) (by omega) l1.1
theorem object_fuel (f f' : Nat) (xs : List Tp) (hf : 2 * xs.length ≤ f) (hf' : 2 * xs.length ≤ f') (hE : EndL xs) : objectL f xs = objectL f' xs := by
  have hp := endL_pos hE
  obtain ⟨f, rfl⟩ : ∃ g, f = g + 1 := ⟨f - 1, by omega⟩
  obtain ⟨f', rfl⟩ : ∃ g, f' = g + 1 := ⟨f' - 1, by omega⟩
  unfold objectL
  cases e1 : takeL 1 xs with
  | bad c x => rfl
  | ok x1 s1 =>
    have l1 := take_left hE (by decide) _ _ e1
    simp only [PR.bind_ok]
    cases e2 : takeL 1 s1 with
    | bad c x => rfl
    | ok x2 s2 =>
      have l2 := take_left l1.1 (by decide) _ _ e2
      simp only [PR.bind_ok]
      have e5 : attrsL (f + 1) 0 s2 = attrsL (f' + 1) 0 s2 := by
        rw [attrsL, attrsL]
        cases e3 : takeL 4 s2 with
        | bad c x => rfl
        | ok x3 s3 =>
          have l3 := take_left l2.1 (by decide) _ _ e3
          rw [PR.bind_ok, PR.bind_ok]
          exact (attr_fuel s3.length).2 f f' 0 [] s3 (Nat.le_refl _) (by omega) (by omega) l3.1
      rw [e5]
theorem objs_fuel (f f' g g' : Nat) (l : List Ob) (xs : List Tp) (hf : 2 * xs.length ≤ f) (hf' : 2 * xs.length ≤ f') (hg : xs.length + 1 ≤ g) (hg' : xs.length + 1 ≤ g') (hE : EndL xs) : objsL f g l xs = objsL f' g' l xs := by
  induction g generalizing g' l xs with
  | zero => omega
  | succ g ih =>
    obtain ⟨g', rfl⟩ : ∃ k, g' = k + 1 := ⟨g' - 1, by omega⟩
    rw [objsL, objsL, object_fuel f f' xs hf hf' hE]
    by_cases h5 : comesL 5 xs = true
    · rw [if_pos h5, if_pos h5]
    · rw [if_neg h5, if_neg h5]
      cases e : objectL f' xs with
      | bad c x => rfl
      | ok a s =>
        have l1 := object_left0 hE _ _ e
        rw [PR.bind_ok, PR.bind_ok]
        exact ih g' (l ++ [a]) s (by omega) (by omega) (by omega) (by omega) l1.1
theorem text_fuel (f f' : Nat) (xs : List Tp) (hf : 2 * xs.length ≤ f) (hf' : 2 * xs.length ≤ f') (hE : EndL xs) : textL f xs = textL f' xs := by
  unfold textL
  cases e1 : wordL oilV xs with
  | bad c x => rfl
  | ok x1 s1 =>
  have l1 := word_left0 hE _ _ e1
  simp only [PR.bind_ok]
  cases e2 : takeL 6 s1 with
  | bad c x => rfl
  | ok x2 s2 =>
  have l2 := take_left l1.1 (by decide) _ _ e2
  simp only [PR.bind_ok]
  cases e3 : takeL 3 s2 with
  | bad c x => rfl
  | ok x3 s3 =>
  have l3 := take_left l2.1 (by decide) _ _ e3
  simp only [PR.bind_ok]
  cases e4 : takeL 7 s3 with
  | bad c x => rfl
  | ok x4 s4 =>
  have l4 := take_left l3.1 (by decide) _ _ e4
  simp only [PR.bind_ok]
  cases e5 : wordL cpuW s4 with
  | bad c x => rfl
  | ok x5 s5 =>
  have l5 := word_left0 l4.1 _ _ e5
  simp only [PR.bind_ok]
  cases e6 : takeL 1 s5 with
  | bad c x => rfl
  | ok x6 s6 =>
  have l6 := take_left l5.1 (by decide) _ _ e6
  simp only [PR.bind_ok]
  cases e7 : takeL 4 s6 with
  | bad c x => rfl
  | ok x7 s7 =>
  have l7 := take_left l6.1 (by decide) _ _ e7
  simp only [PR.bind_ok]
  rw [objs_fuel f f' f f' [] s7 (by omega) (by omega) (by omega) (by omega) l7.1]
end Go.Proofs.YtlbgppijeoonjaaGreatDoor

namespace Go.Proofs.YtlbgppijeoonjaaGreatDoor
open Go
set_option linter.unusedVariables false

/-- A text that says nothing, whatever stands behind it. -/
def Sil (b : List UInt8) : Prop := ∀ r, skipL (b ++ r) = (b.length + (skipL r).1, (skipL r).2)
theorem sil_nil : Sil [] := fun r => by simp
theorem sil_cons {c : UInt8} {b : List UInt8} (h : isB c = true) (hb : Sil b) : Sil (c :: b) := fun r => by
  rw [List.cons_append, skip_blank h, hb r]
  simp
  omega
theorem sil_line {b c : List UInt8} (h : 10 ∉ b) (hc : Sil c) : Sil (47 :: 47 :: (b ++ 10 :: c)) := fun r => by
  have e : (47 :: 47 :: (b ++ 10 :: c)) ++ r = 47 :: 47 :: (b ++ 10 :: (c ++ r)) := by simp
  rw [e, skip_com (isC_line _) (com_line h (Or.inr rfl))]
  have e2 : (47 :: 47 :: (b ++ 10 :: (c ++ r))).drop (b.length + 2) = 10 :: (c ++ r) := by simp
  rw [e2, skip_blank (by decide), hc r]
  simp
  omega
theorem sil_star {b c : List UInt8} (h : NoE b) (hc : Sil c) : Sil (47 :: 42 :: (b ++ 42 :: 47 :: c)) := fun r => by
  have e : (47 :: 42 :: (b ++ 42 :: 47 :: c)) ++ r = 47 :: 42 :: (b ++ 42 :: 47 :: (c ++ r)) := by simp
  rw [e, skip_com (isC_star _) (com_star h _)]
  have e2 : (47 :: 42 :: (b ++ 42 :: 47 :: (c ++ r))).drop (b.length + 4) = c ++ r := by
    rw [show b.length + 4 = (b.length + 2) + 1 + 1 by omega, List.drop_succ_cons, List.drop_succ_cons, ← List.drop_drop, List.drop_left]
    rfl
  rw [e2, hc r]
  simp
  omega
def btw (k : Nat) : List UInt8 :=
  match k % 8 with
  | 0 => [32]
  | 1 => [10]
  | 2 => [9, 32, 13, 10]
  | 3 => [47, 42, 42, 47]
  | 4 => [47, 47, 123, 59, 10]
  | 5 => [47, 42, 32, 34, 32, 42, 47, 32]
  | 6 => [32, 47, 42, 42, 42, 47]
  | _ => [47, 47, 10, 47, 47, 10]
theorem noE_nil : NoE [] := fun r => by simp [Lib.index, List.isPrefixOf]
theorem noE_a : NoE [32, 34, 32] := fun r => by simp [Lib.index, List.isPrefixOf]
theorem noE_b : NoE [42] := fun r => by simp [Lib.index, List.isPrefixOf]
theorem sil_btw (k : Nat) : Sil (btw k) := by
  unfold btw
  split
  · exact sil_cons (by decide) sil_nil
  · exact sil_cons (by decide) sil_nil
  · exact sil_cons (by decide) (sil_cons (by decide) (sil_cons (by decide) (sil_cons (by decide) sil_nil)))
  · exact sil_star noE_nil sil_nil
  · exact sil_line (b := [123, 59]) (by decide) sil_nil
  · exact sil_star noE_a (sil_cons (by decide) sil_nil)
  · exact sil_cons (by decide) (sil_star noE_b sil_nil)
  · exact sil_line (b := []) (by decide) (sil_line (b := []) (by decide) sil_nil)
/-- A text with what says nothing put between its tokens. -/
def silT (t : List UInt8) (pre : Nat → List UInt8) : Nat → List (Tk × Nat) → List UInt8
  | _, [] => []
  | i, [(k, o)] => pre i ++ t.drop o
  | i, (k, o) :: (k', o') :: r => pre i ++ ((t.drop o).take (o' - o) ++ 10 :: silT t pre (i + 1) ((k', o') :: r))
theorem sil_scan (t : List UInt8) (pre : Nat → List UInt8) (hp : ∀ i, Sil (pre i)) {off : Nat} {ts : List (Tk × Nat)} (h : Good t off ts) : ∀ i, scanK ts.length (silT t pre i ts) = some (ts.map (·.1)) := by
  induction h with
  | @fin off ho h1 h2 =>
    intro i
    show scanK 1 (pre i ++ t.drop t.length) = _
    rw [List.drop_length, scanK_sil (hp i [])]
    exact scanK_end
  | @more off len o k ts ho h1 h2 h3 h4 h5 h6 hg ih =>
    intro i
    obtain ⟨k', hf, hfl⟩ := hg.first
    cases ts with
    | nil => simp at hf
    | cons y r =>
      obtain ⟨k2, o2⟩ := y
      simp at hf
      obtain ⟨rfl, rfl⟩ := hf
      show scanK (r.length + 1 + 1) (pre i ++ ((t.drop o).take (o + len + (skipL (t.drop (o + len))).1 - o) ++ 10 :: silT t pre (i + 1) ((k2, o + len + (skipL (t.drop (o + len))).1) :: r))) = _
      rw [scanK_sil (hp i _)]
      have IH := ih (i + 1)
      generalize silT t pre (i + 1) ((k2, o + len + (skipL (t.drop (o + len))).1) :: r) = R at *
      have e : (t.drop o).take (o + len + (skipL (t.drop (o + len))).1 - o) = (t.drop o).take len ++ (t.drop (o + len)).take (skipL (t.drop (o + len))).1 := by
        rw [show o + len + (skipL (t.drop (o + len))).1 - o = len + (skipL (t.drop (o + len))).1 by omega, List.take_add, List.drop_drop]
      rw [e, List.append_assoc]
      have hl : ((t.drop o).take len).length = len := by rw [List.length_take, List.length_drop]; omega
      have hnw : k.kind = 1 ∨ k.kind = 2 → NW ((t.drop (o + len)).take (skipL (t.drop (o + len))).1 ++ 10 :: R) := by
        intro hk c hc
        have h7 := tok_follow h3 hk
        rw [List.drop_drop] at h7
        cases hd : (t.drop (o + len)).take (skipL (t.drop (o + len))).1 with
        | nil => rw [hd] at hc; cases hc; decide
        | cons x y =>
          rw [hd] at hc
          exact nw_take h7 _ c (by rw [hd]; exact hc)
      have ht := tok_app h3 h4 _ hnw
      rw [← hl] at ht
      rw [hl] at ht
      rw [scanK_tok (b := (t.drop o).take len) (by rw [hl]; exact ht) h4 (by intro e; rw [e] at hl; simp at hl; omega)]
      have hs := skip_app (t.drop (o + len)) R hfl
      have hs2 : skipL (((t.drop (o + len)).take (skipL (t.drop (o + len))).1 ++ [10]) ++ R) = (((t.drop (o + len)).take (skipL (t.drop (o + len))).1 ++ [10]).length + (skipL R).1, (skipL R).2) := by
        have hle := skip_le (t.drop (o + len))
        rw [List.append_assoc]
        show skipL ((t.drop (o + len)).take (skipL (t.drop (o + len))).1 ++ 10 :: R) = _
        rw [hs, List.length_append, List.length_take, Nat.min_eq_left hle]
        rfl
      have := scanK_sil hs2 (r.length + 1)
      rw [List.append_assoc] at this
      have h9 : scanK (r.length + 1) ((t.drop (o + len)).take (skipL (t.drop (o + len))).1 ++ 10 :: R) = scanK (r.length + 1) R := this
      rw [h9]
      have IH' : scanK (r.length + 1) R = _ := IH
      rw [IH']
      rfl
theorem quo_said (l said : List UInt8) (i : Nat) (sd : List UInt8) (n : Nat) (h : quoL l said i = .done sd n) (hs : said.all sayB = true) : sd.all sayB = true := by
  induction hl : l.length using Nat.strongRecOn generalizing l said i with
  | _ m ih =>
    rw [quoL.eq_def] at h
    cases l with
    | nil => cases h
    | cons c t =>
      simp only at h
      simp at hl
      split at h
      · cases h; exact hs
      · split at h
        · cases h
        · next hsay =>
          split at h
          · cases t with
            | nil => cases h
            | cons d t' =>
              simp only at h
              simp at hl
              split at h
              · next he =>
                have hd : sayB d = true := by
                  have := of_decide_eq_true he
                  rcases this with rfl | rfl <;> decide
                exact ih t'.length (by omega) t' _ _ h (by rw [List.all_append, hs]; simp [hd]) rfl
              · cases h
          · exact ih t.length (by omega) t _ _ h (by rw [List.all_append, hs]; simpa using hsay) rfl
theorem wlen_take (l : List UInt8) : wlen (l.take (wlen l)) = (l.take (wlen l)).length := by
  have := (word_app l [] (fun c h => by cases h)).1
  rw [List.append_nil] at this
  rw [this, List.length_take, Nat.min_eq_left (wlen_le l)]
theorem spz_name {t : List UInt8} (h : nameL t = true) : spz ⟨1, t, 0, false⟩ = some t := by simp [spz, plainZ, h]
theorem spz_num (v : Nat) (h : Bool) : spz ⟨2, [], v, h⟩ = some (if h = true then 48 :: 120 :: hexU v else Lib.decDigits v) := by simp [spz]
theorem spz_str {t : List UInt8} (h : strL t = true) : spz ⟨3, t, 0, false⟩ = some (34 :: (escL t ++ [34])) := by simp [spz, plainZ, h]
/-- What was read can be written. -/
theorem tok_spz {c : UInt8} {t : List UInt8} {k : Tk} {len : Nat} (h : tokL (c :: t) = .ok k len) : ∃ b, spz ⟨k.kind, k.text, k.val, k.hex⟩ = some b ∧ b ≠ [] := by
  unfold tokL at h
  simp only at h
  split at h
  · next hL =>
    split at h
    · cases h
    · next h63 =>
      cases h
      have h1 := wlen_take (c :: t)
      have h2 := wlen_le (c :: t)
      obtain ⟨j, hj⟩ : ∃ j, wlen (c :: t) = j + 1 := ⟨wlen (c :: t) - 1, by have := wlen_pos t (isW_L hL); omega⟩
      refine ⟨(c :: t).take (wlen (c :: t)), spz_name ?_, by rw [hj]; simp⟩
      unfold nameL
      rw [decide_eq_true (by rw [List.length_take]; omega), decide_eq_true h1, hj]
      simp [hL]
  · split at h
    · split at h
      · cases h
      · next v hx hn =>
        cases h
        refine ⟨_, spz_num v hx, ?_⟩
        split
        · simp
        · exact (dec_val _).2.2.1
    · split at h
      · cases hq : quoL t [] 0 with
        | bad a => rw [hq] at h; cases h
        | open_ => rw [hq] at h; cases h
        | done sd n =>
          rw [hq] at h
          unfold quoT at h
          simp only at h
          split at h
          · cases h
          · next h255 =>
            cases h
            have := quo_said t [] 0 sd n hq rfl
            refine ⟨34 :: (escL sd ++ [34]), spz_str (t := sd) ?_, by simp⟩
            unfold strL
            rw [decide_eq_true (by omega), this]
            rfl
      · split at h
        · cases h
        · next hm =>
          cases h
          have : mrk c = 4 ∨ mrk c = 5 ∨ mrk c = 6 ∨ mrk c = 7 ∨ mrk c = 8 := by
            unfold mrk at hm ⊢
            split
            · simp
            · split
              · simp
              · split
                · simp
                · split
                  · simp
                  · split
                    · simp
                    · next a b c' d e => rw [if_neg a, if_neg b, if_neg c', if_neg d, if_neg e] at hm; exact absurd rfl hm
          refine ⟨[mkB (mrk c)], ?_, by simp⟩
          rcases this with e | e | e | e | e <;> rw [e] <;> rfl
theorem Good.spell {t : List UInt8} {off : Nat} {ts : List (Tk × Nat)} (h : Good t off ts) : ∀ {i : Nat} {k : Tk} {o : Nat}, ts[i]? = some (k, o) → k.kind ≠ 0 → ∃ b, spz ⟨k.kind, k.text, k.val, k.hex⟩ = some b ∧ b ≠ [] := by
  induction h with
  | @fin off ho h1 h2 =>
    intro i k o hi hk
    cases i with
    | zero => simp at hi; obtain ⟨rfl, rfl⟩ := hi; exact absurd rfl hk
    | succ i => simp at hi
  | @more off len o k ts ho h1 h2 h3 h4 h5 h6 hg ih =>
    intro i k1 o1 hi hk
    cases i with
    | zero =>
      simp at hi
      obtain ⟨rfl, rfl⟩ := hi
      have hd : t.drop o = t[o]'(by omega) :: t.drop (o + 1) := List.drop_eq_getElem_cons (by omega)
      rw [hd] at h3
      exact tok_spz h3
    | succ i => exact ih (by simpa using hi) hk
/-- The values of numbers are within 32 bits. -/
theorem tok_val {l : List UInt8} {k : Tk} {len : Nat} (h : tokL l = .ok k len) : k.val ≤ 4294967295 := by
  cases l with
  | nil => cases h; simp
  | cons c t =>
    unfold tokL at h
    simp only at h
    split at h
    · split at h
      · cases h
      · cases h; simp
    · split at h
      · split at h
        · cases h
        · next v hx hn =>
          cases h
          have key : ∀ b l' v', numB b l' = some v' → v' ≤ 4294967295 := by
            intro b l' v' hb
            unfold numB at hb
            split at hb
            · next hh => cases hb; exact hh.2.2
            · cases hb
          unfold numL at hn
          split at hn
          · cases hb : numB 16 (((c :: t).take (wlen (c :: t))).drop 2) with
            | none => rw [hb] at hn; cases hn
            | some v' => rw [hb] at hn; cases hn; exact key _ _ _ hb
          · split at hn
            · cases hn
            · cases hb : numB 10 ((c :: t).take (wlen (c :: t))) with
              | none => rw [hb] at hn; cases hn
              | some v' => rw [hb] at hn; cases hn; exact key _ _ _ hb
      · split at h
        · cases hq : quoL t [] 0 with
          | bad a => rw [hq] at h; cases h
          | open_ => rw [hq] at h; cases h
          | done sd n =>
            rw [hq] at h
            unfold quoT at h
            simp only at h
            split at h
            · cases h
            · cases h; simp
        · split at h
          · cases h
          · cases h; simp
end Go.Proofs.YtlbgppijeoonjaaGreatDoor

namespace Go.Proofs.YtlbgppijeoonjaaGreatDoor
open Go
set_option linter.unusedVariables false

/-! ### A text that begins with joined tokens -/
theorem F_K (t : List UInt8) (f off : Nat) (ts : List (Tk × Nat)) (h : scanF t f off = .inl ts) : scanK f (t.drop off) = some (ts.map (·.1)) := by
  induction f generalizing off ts with
  | zero => cases h
  | succ f ih =>
    rw [scanF] at h
    rw [scanK]
    cases hn : nxT (t.drop off) with
    | bad c a => rw [hn] at h; cases h
    | ok k len =>
      rw [hn] at h
      simp only at h ⊢
      by_cases hk : k.kind = 0
      · rw [if_pos hk] at h
        rw [if_pos hk]
        cases h
        rfl
      · rw [if_neg hk] at h
        rw [if_neg hk, List.drop_drop]
        cases hr : scanF t f (off + (skipL (t.drop off)).1 + len) with
        | inr e => rw [hr] at h; cases h
        | inl us =>
          rw [hr] at h
          cases h
          have := ih _ _ hr
          rw [Nat.add_assoc] at this
          rw [this]
          rfl
theorem join_pre (xs : List Tz) (hv : ∀ x ∈ xs, x.val ≤ 4294967295) (hk : ∀ x ∈ xs, x.kind ≠ 0) (first : Bool) (s : List UInt8) (h : joinF first xs = some s) (more : List UInt8) (f : Nat) (ks : List Tk) (hs : scanK f (s ++ 32 :: more) = some ks) : ∃ ks', ks = xs.map tkOf ++ ks' := by
  induction xs generalizing first s f ks with
  | nil => exact ⟨ks, rfl⟩
  | cons x r ih =>
    rw [joinF] at h
    rw [if_neg (fun k => hk x (by simp) k.1)] at h
    cases hp : spz x with
    | none => rw [hp] at h; cases h
    | some a =>
      rw [hp] at h
      simp only at h
      cases hj : joinF false r with
      | none => rw [hj] at h; cases h
      | some b =>
        rw [hj] at h
        cases h
        cases f with
        | zero => cases hs
        | succ f =>
          have hnw : NW (b ++ 32 :: more) := by
            intro c hc
            rcases join_head hj with e | e
            · rw [e] at hc; cases hc; decide
            · cases b with
              | nil => cases e
              | cons y b => cases e; cases hc; decide
          obtain ⟨t1, t2, t3⟩ := tok_spell hp (hk x (by simp)) (hv x (by simp)) (b ++ 32 :: more) hnw
          have key : scanK (f + 1) (a ++ (b ++ 32 :: more)) = some ks := by
            cases first with
            | true => rw [← List.append_assoc]; exact hs
            | false =>
              have e : ((if (false : Bool) = true then a else 32 :: a) ++ b) ++ 32 :: more = [32] ++ (a ++ (b ++ 32 :: more)) := by simp
              rw [e, scanK_sil (sil_blank _)] at hs
              exact hs
          rw [scanK_tok t1 t2 t3] at key
          cases hr : scanK f (b ++ 32 :: more) with
          | none => rw [hr] at key; cases key
          | some us =>
            rw [hr] at key
            cases key
            obtain ⟨ks', hks⟩ := ih (fun y hy => hv y (by simp [hy])) (fun y hy => hk y (by simp [hy])) false b hj f us hr
            exact ⟨ks', by rw [hks]; rfl⟩
theorem good_val {t : List UInt8} {off : Nat} {ts : List (Tk × Nat)} (h : Good t off ts) : ∀ {i : Nat} {k : Tk} {o : Nat}, ts[i]? = some (k, o) → k.val ≤ 4294967295 := by
  induction h with
  | @fin off ho h1 h2 =>
    intro i k o hi
    cases i with
    | zero => simp at hi; obtain ⟨rfl, rfl⟩ := hi; decide
    | succ i => simp at hi
  | @more off len o k ts ho h1 h2 h3 h4 h5 h6 hg ih =>
    intro i k1 o1 hi
    cases i with
    | zero => simp at hi; obtain ⟨rfl, rfl⟩ := hi; exact tok_val h3
    | succ i => exact ih (by simpa using hi)
/-- Two tokens at one place are one. -/
theorem good_inj {t : List UInt8} {off : Nat} {ts : List (Tk × Nat)} (h : Good t off ts) : ∀ {i j : Nat} {k k' : Tk} {o : Nat}, ts[i]? = some (k, o) → ts[j]? = some (k', o) → i = j := by
  induction h with
  | @fin off ho h1 h2 =>
    intro i j k k' o hi hj
    cases i with
    | succ i => simp at hi
    | zero =>
      cases j with
      | succ j => simp at hj
      | zero => rfl
  | @more off len o k ts ho h1 h2 h3 h4 h5 h6 hg ih =>
    intro i j k1 k2 o1 hi hj
    cases i with
    | zero =>
      cases j with
      | zero => rfl
      | succ j =>
        simp at hi hj
        have := (hg.le hj).1
        omega
    | succ i =>
      cases j with
      | zero =>
        simp at hi hj
        have := (hg.le hi).1
        omega
      | succ j =>
        simp at hi hj
        rw [ih hi hj]
/-- Only the last token is the end. -/
theorem good_kind {t : List UInt8} {off : Nat} {ts : List (Tk × Nat)} (h : Good t off ts) : ∀ {i : Nat} {k : Tk} {o : Nat}, ts[i]? = some (k, o) → i + 1 < ts.length → k.kind ≠ 0 := by
  induction h with
  | @fin off ho h1 h2 => intro i k o hi hl; simp at hl
  | @more off len o k ts ho h1 h2 h3 h4 h5 h6 hg ih =>
    intro i k1 o1 hi hl
    cases i with
    | zero => simp at hi; obtain ⟨rfl, rfl⟩ := hi; exact h4
    | succ i => exact ih (by simpa using hi) (by simpa using hl)
theorem join_some (xs : List Tz) (h : ∀ x ∈ xs, x.kind ≠ 0 ∧ ∃ b, spz x = some b) (first : Bool) : ∃ s, joinF first xs = some s := by
  induction xs generalizing first with
  | nil => exact ⟨[], rfl⟩
  | cons x r ih =>
    obtain ⟨b, hb⟩ := ih (fun y hy => h y (by simp [hy])) false
    obtain ⟨hk, a, ha⟩ := h x (by simp)
    rw [joinF, if_neg (fun k => hk k.1), ha, hb]
    exact ⟨_, rfl⟩
/-- What the tokens up to one that is at fault are joined to, and anything behind it, is no tree's text. -/
theorem stops_parse (s more : List UInt8) (ts : List (Tk × Nat)) (hsc : scanA s = .inl ts) (c : Nat) (x : Tp) (hc : c ≠ 0) (hbad : textL (2 * ts.length) (ts.map (tpOf s)) = .bad c x) :
    ∃ j, (ts.map (tpOf s))[j]? = some x ∧ (∀ i y, (ts.map (tpOf s))[i]? = some y → y.o = x.o → i = j) ∧
      (x.z.kind ≠ 0 → ∃ b, joinF true (((ts.map (tpOf s)).take (j + 1)).map (·.z)) = some b ∧ ∃ c' o l k, parseL (b ++ 32 :: more) = .inr (c', o, l, k) ∧ c' ≠ 0) := by
  obtain ⟨hG, hl⟩ := scanA_good hsc
  obtain ⟨hE, hlen⟩ := good_end hG
  obtain ⟨j, hj, _⟩ := text_stops _ _ hE c x hc hbad [] 0 (fun i hi => by omega)
  have uniq : ∀ i y, (ts.map (tpOf s))[i]? = some y → y.o = x.o → i = j := by
    intro i y hi ho
    rw [List.getElem?_map] at hi hj
    cases e1 : ts[i]? with
    | none => rw [e1] at hi; cases hi
    | some p =>
      cases e2 : ts[j]? with
      | none => rw [e2] at hj; cases hj
      | some q =>
        rw [e1] at hi
        rw [e2] at hj
        cases hi
        cases hj
        have : p.2 = q.2 := by
          have h : ((p.2 : Nat) : Int) = (q.2 : Int) := ho
          omega
        obtain ⟨pk, po⟩ := p
        obtain ⟨qk, qo⟩ := q
        dsimp only at this
        subst this
        exact good_inj hG e1 e2
  refine ⟨j, hj, uniq, fun hk => ?_⟩
  have hjl : j < ts.length := by have := (List.getElem?_eq_some_iff.1 hj).1; simpa using this
  have hk' : ∀ i, i ≤ j → ∀ p, ts[i]? = some p → p.1.kind ≠ 0 := by
    intro i hi p hp
    by_cases hij : i + 1 < ts.length
    · exact good_kind hG (k := p.1) (o := p.2) hp hij
    · have : i = j := by omega
      subst this
      rw [List.getElem?_map, hp] at hj
      cases hj
      intro e
      apply hk
      show ((p.1.kind : Nat) : Int) = 0
      omega
  have hmem : ∀ z ∈ ((ts.map (tpOf s)).take (j + 1)).map (·.z), ∃ i p, i ≤ j ∧ ts[i]? = some p ∧ z = ⟨(p.1.kind : Int), p.1.text, p.1.val, p.1.hex⟩ := by
    intro z hz
    obtain ⟨y, hy, rfl⟩ := List.mem_map.1 hz
    obtain ⟨i, hi⟩ := List.mem_iff_getElem?.1 hy
    rw [List.getElem?_take] at hi
    split at hi
    · rename_i hij
      rw [List.getElem?_map] at hi
      cases e : ts[i]? with
      | none => rw [e] at hi; cases hi
      | some p => rw [e] at hi; cases hi; exact ⟨i, p, by omega, e, rfl⟩
    · cases hi
  have hzk : ∀ z ∈ ((ts.map (tpOf s)).take (j + 1)).map (·.z), z.kind ≠ 0 := by
    intro z hz
    obtain ⟨i, p, hi, hp, rfl⟩ := hmem z hz
    have := hk' i hi p hp
    show ((p.1.kind : Nat) : Int) ≠ 0
    omega
  have hzv : ∀ z ∈ ((ts.map (tpOf s)).take (j + 1)).map (·.z), z.val ≤ 4294967295 := by
    intro z hz
    obtain ⟨i, p, hi, hp, rfl⟩ := hmem z hz
    exact good_val hG (k := p.1) (o := p.2) hp
  obtain ⟨b, hb⟩ := join_some (((ts.map (tpOf s)).take (j + 1)).map (·.z)) (fun z hz => ⟨hzk z hz, by
    obtain ⟨i, p, hi, hp, rfl⟩ := hmem z hz
    obtain ⟨a, ha, _⟩ := hG.spell (k := p.1) (o := p.2) hp (hk' i hi p hp)
    exact ⟨a, ha⟩⟩) true
  refine ⟨b, hb, ?_⟩
  cases hY : scanA (b ++ 32 :: more) with
  | inr ca =>
    obtain ⟨c', a⟩ := ca
    have := (scanA_bad hY).1
    exact ⟨c', _, _, _, by unfold parseL; rw [hY], by omega⟩
  | inl us =>
    obtain ⟨hG2, hl2⟩ := scanA_good hY
    obtain ⟨hE2, _⟩ := good_end hG2
    have hK : scanK ((b ++ 32 :: more).length + 1) (b ++ 32 :: more) = some (us.map (·.1)) := by
      have hF : scanF (b ++ 32 :: more) ((b ++ 32 :: more).length + 1) 0 = .inl us := by
        unfold scanA at hY
        rw [if_neg (by omega)] at hY
        exact hY
      have := F_K _ _ _ _ hF
      rwa [List.drop_zero] at this
    obtain ⟨ks', hks⟩ := join_pre _ hzv hzk true b hb more _ _ hK
    have hA : Ag (j + 1) (ts.map (tpOf s)) (us.map (tpOf (b ++ 32 :: more))) := by
      intro i hi
      have hil : i < ts.length := by omega
      have e1 : ts[i]? = some ts[i] := List.getElem?_eq_getElem hil
      have e2 : (us.map (·.1))[i]? = some (tkOf (tpOf s ts[i]).z) := by
        rw [hks, List.getElem?_append_left (by simp; omega), List.getElem?_map, List.getElem?_map, List.getElem?_take, if_pos hi, List.getElem?_map, e1]
        rfl
      rw [List.getElem?_map] at e2
      rw [List.getElem?_map, List.getElem?_map, e1]
      cases e3 : us[i]? with
      | none => rw [e3] at e2; cases e2
      | some q =>
        rw [e3] at e2
        have hq : q.1 = tkOf (tpOf s ts[i]).z := Option.some.inj e2
        show some (tpOf s ts[i]).z = some (tpOf (b ++ 32 :: more) q).z
        have hz : (tpOf (b ++ 32 :: more) q).z = ⟨(q.1.kind : Int), q.1.text, q.1.val, q.1.hex⟩ := rfl
        rw [hz, hq]
        rfl
    have hF1 : textL (2 * ts.length + 2 * us.length) (ts.map (tpOf s)) = .bad c x := by
      rw [text_fuel (2 * ts.length + 2 * us.length) (2 * ts.length) _ (by simp) (by simp) hE]
      exact hbad
    obtain ⟨j2, hj2, h3⟩ := text_stops _ _ hE c x hc hF1 _ _ hA
    have : j2 = j := uniq j2 x hj2 rfl
    subst this
    obtain ⟨y, hy⟩ := h3 (by omega)
    rw [text_fuel (2 * ts.length + 2 * us.length) (2 * us.length) _ (by simp) (by simp) hE2] at hy
    exact ⟨c, y.o, y.l, y.c, by unfold parseL; rw [hY]; dsimp only; rw [hy], hc⟩
end Go.Proofs.YtlbgppijeoonjaaGreatDoor

