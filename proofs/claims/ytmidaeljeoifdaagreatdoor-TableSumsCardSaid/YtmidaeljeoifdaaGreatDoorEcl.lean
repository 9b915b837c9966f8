import Derived.Test.YtmidaeljeoifdaaGreatDoorEca
namespace Go.Proofs.YtmidaeljeoifdaaGreatDoor.Ce
set_option linter.unusedVariables false
def rootN (c : Cf) (r : Int) : Int := rootF c c.ress.length r
theorem root_end {c : Cf} {r : Int} (h : isId r c.ress.length = true) (hk : rkind c r ≠ 2) : rootN c r = r := by
 unfold rootN
 have hn : 0 < c.ress.length := by simp [isId] at h; omega
 obtain ⟨m, hm⟩ : ∃ m, c.ress.length = m + 1 := ⟨c.ress.length - 1, by omega⟩
 have e : rootF c c.ress.length r = if isId r c.ress.length = true then (if rkind c r = 2 then rootF c m (rlink c r) else r) else -1 := by
  rw [show rootF c c.ress.length r = rootF c (m + 1) r by rw [hm], rootF]
 rw [e, if_pos h, if_neg hk]
theorem root_step {c : Cf} {r : Int} (h : isId r c.ress.length = true) (hk : rkind c r = 2) : rootN c r = rootN c (rlink c r) := by
 unfold rootN
 rw [← rootF_more c r, rootF, if_pos h, if_pos hk]
def Chain (c : Cf) : List Int → Int → Prop
 | [], _ => True
 | [x], z => isId x c.ress.length = true ∧ rkind c x = 2 ∧ rlink c x = z
 | x :: y :: r, z => isId x c.ress.length = true ∧ rkind c x = 2 ∧ rlink c x = y ∧ Chain c (y :: r) z
theorem chain_snoc {c : Cf} {l : List Int} {z : Int} (h : Chain c l z) (hz : isId z c.ress.length = true) (hk : rkind c z = 2) : Chain c (l ++ [z]) (rlink c z) := by
 induction l with
 | nil => exact ⟨hz, hk, rfl⟩
 | cons x r ih =>
  cases r with
  | nil => exact ⟨h.1, h.2.1, h.2.2, hz, hk, rfl⟩
  | cons y r => exact ⟨h.1, h.2.1, h.2.2.1, ih h.2.2.2⟩
theorem chain_linked {c : Cf} {l : List Int} {z : Int} (h : Chain c l z) : ∀ x ∈ l, isId x c.ress.length = true ∧ rkind c x = 2 ∧ (rlink c x ∈ l ∨ rlink c x = z) := by
 induction l with
 | nil => intro x hx; cases hx
 | cons y r ih =>
  intro x hx
  cases r with
  | nil =>
   obtain rfl := List.mem_singleton.1 hx
   exact ⟨h.1, h.2.1, .inr h.2.2⟩
  | cons u r =>
   rcases List.mem_cons.1 hx with rfl | hx
   ·exact ⟨h.1, h.2.1, .inl (by rw [h.2.2.1]; simp)⟩
   ·obtain ⟨a, b, d⟩ := ih h.2.2.2 x hx
    exact ⟨a, b, d.imp (fun h => List.mem_cons_of_mem _ h) id⟩
theorem chain_root {c : Cf} {l : List Int} {z : Int} (h : Chain c l z) : ∀ x ∈ l, rootN c x = rootN c z := by
 induction l with
 | nil => intro x hx; cases hx
 | cons y r ih =>
  intro x hx
  cases r with
  | nil =>
   obtain rfl := List.mem_singleton.1 hx
   rw [root_step h.1 h.2.1, h.2.2]
  | cons u r =>
   rcases List.mem_cons.1 hx with rfl | hx
   ·rw [root_step h.1 h.2.1, h.2.2.1]
    exact ih h.2.2.2 u (by simp)
   ·exact ih h.2.2.2 x hx
theorem closed_never {c : Cf} {l : List Int} (h : ∀ x ∈ l, isId x c.ress.length = true ∧ rkind c x = 2 ∧ rlink c x ∈ l) : ∀ (f : Nat) (x : Int), x ∈ l → rootF c f x = -1
 | 0, x, _ => rfl
 | f + 1, x, hx => by
  obtain ⟨a, b, d⟩ := h x hx
  rw [rootF, if_pos a, if_pos b]
  exact closed_never h f _ d
theorem chain_ring {c : Cf} {l : List Int} {z : Int} (h : Chain c l z) (hz : z ∈ l) : ∀ x ∈ l, rootN c x = -1 := fun x hx =>
 closed_never (fun y hy => by
  obtain ⟨a, b, d⟩ := chain_linked h y hy
  exact ⟨a, b, d.elim id (fun e => by rw [e]; exact hz)⟩) _ x hx
theorem root_range (c : Cf) (r : Int) : rootN c r = -1 ∨ (0 ≤ rootN c r ∧ rootN c r < c.ress.length) := by
 have h1 := rootF_lt c c.ress.length r
 have h2 : ∀ (f : Nat) (r : Int), rootF c f r = -1 ∨ 0 ≤ rootF c f r := by
  intro f
  induction f with
  | zero => intro r; exact .inl rfl
  | succ f ih =>
   intro r
   rw [rootF]
   split
   ·rename_i h
    split
    ·exact ih _
    ·exact .inr (by simp [isId] at h; exact h.1)
   ·exact .inl rfl
 rcases h2 c.ress.length r with h | h
 ·exact .inl h
 ·exact .inr ⟨h, h1⟩
theorem nodup_len {l : List Nat} {n : Nat} (hd : l.Nodup) (hl : ∀ x ∈ l, x < n) : l.length ≤ n := by
 by_cases h : l.length ≤ n
 ·exact h
 ·exfalso
  obtain ⟨i, j, hij, hjn, e⟩ := pigeon n (fun k => l.getD k 0) (fun k hk => by
   have hk2 : k < l.length := by omega
   show l.getD k 0 < n
   rw [List.getD_eq_getElem?_getD, List.getElem?_eq_getElem hk2]
   exact hl _ (List.getElem_mem hk2))
  have hi2 : i < l.length := by omega
  have hj2 : j < l.length := by omega
  have e2 : l[i] = l[j] := by
   have e3 : l.getD i 0 = l.getD j 0 := e
   rw [List.getD_eq_getElem?_getD, List.getD_eq_getElem?_getD, List.getElem?_eq_getElem hi2, List.getElem?_eq_getElem hj2] at e3
   exact e3
  exact List.pairwise_iff_getElem.1 hd i j hi2 hj2 hij e2
end Go.Proofs.YtmidaeljeoifdaaGreatDoor.Ce
