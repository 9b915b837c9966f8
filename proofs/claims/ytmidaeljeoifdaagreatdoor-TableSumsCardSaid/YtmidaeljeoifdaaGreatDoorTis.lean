import Derived.Test.YtmidaeljeoifdaaGreatDoorTiq
namespace Go.Proofs.YtmidaeljeoifdaaGreatDoor
open Go.RowKit Go.Shelf Go.Sort Go.Maps
set_option linter.unusedVariables false
set_option linter.unusedSimpArgs false
theorem fold_keep9 {α : Type} (f : α → Bool) (g : α → Int) (p : Int) : ∀ (l : List α) (t : Option Int), (∃ q, t = some q ∧ p ≤ q) → ∃ q, l.foldl (fun t x => if f x = true then Ce.topAdd t (g x) else t) t = some q ∧ p ≤ q
 | [], t, h => h
 | y :: r, t, h => by
  rw [List.foldl_cons]
  refine fold_keep9 f g p r _ ?_
  obtain ⟨q, rfl, hq⟩ := h
  split
  ·exact ⟨max (g y) q, rfl, by omega⟩
  ·exact ⟨q, rfl, hq⟩
theorem fold_hit9 {α : Type} (f : α → Bool) (g : α → Int) : ∀ (l : List α) (t : Option Int) (x : α), x ∈ l → f x = true → ∃ q, l.foldl (fun t x => if f x = true then Ce.topAdd t (g x) else t) t = some q ∧ g x ≤ q
 | [], t, x, h, _ => by cases h
 | y :: r, t, x, h, hf => by
  rw [List.foldl_cons]
  rcases List.mem_cons.1 h with rfl | h
  ·refine fold_keep9 f g (g x) r _ ?_
   rw [if_pos hf]
   cases t with
   | none => exact ⟨_, rfl, Int.le_refl _⟩
   | some a => exact ⟨max (g x) a, rfl, by omega⟩
  ·exact fold_hit9 f g r _ x h hf
theorem ceil_ge9 {c : Cf} (hl : Ce.lookE c = 0) {x : Tk} (hx : x ∈ c.tasks) {r : Nat} (hr : r < c.ress.length) (hxr : (r : Int) ∈ x.res) : x.prio ≤ Ce.ceilE c r := by
 obtain ⟨hm, _, he⟩ := Ce.look_lk hl
 rw [Ce.ceilE_use c r (Ce.endsB_at he hr)]
 unfold Ce.useI
 have h1 : ∃ q, Ce.useT c (r : Int) c.tasks.length = some q ∧ x.prio ≤ q := by
  unfold Ce.useT
  rw [List.take_of_length_le (Nat.le_refl _)]
  exact fold_hit9 (fun y : Tk => Ce.usesB c y.res (r : Int)) (fun y : Tk => y.prio) c.tasks none x hx (List.any_eq_true.2 ⟨_, hxr, by simp⟩)
 obtain ⟨q, h2, h3⟩ := fold_keep9 (fun y : Is => Ce.usesB c y.res (r : Int)) (fun y : Is => y.prio) x.prio (c.isrs.take c.isrs.length) _ h1
 rw [h2]
 exact h3
theorem resF_at (c : Cf) : ∀ (l : List Int) (i k : Nat) (x : Int), l[k]? = some x → (resF c i l)[k]? = some ⟨innB c ((i + k : Nat) : Int), x⟩
 | [], i, k, x, h => by simp at h
 | y :: r, i, 0, x, h => by simp at h; subst h; rfl
 | y :: r, i, k + 1, x, h => by
  have := resF_at c r (i + 1) k x (by simpa using h)
  rw [show i + (k + 1) = i + 1 + k by omega]
  exact this
theorem own_ok9 {c : Cf} (hm : May c) (hl : Ce.lookE c = 0) {x : Tk} (hx : x ∈ c.tasks) (hid : ∀ z ∈ x.res, 0 ≤ z ∧ z < (c.ress.length : Int)) {z : Int} (hz : z ∈ ownL c x.res) : 0 ≤ z ∧ z < ((resL c (Ce.ceilL c) (Ce.schE c)).length : Int) ∧ ∃ ce, (resL c (Ce.ceilL c) (Ce.schE c))[z.toNat]? = some ⟨false, ce⟩ ∧ x.prio ≤ ce := by
 have hln : (resF c 0 (Ce.ceilL c)).length = c.ress.length := by rw [resF_len]; unfold Ce.ceilL; simp
 unfold ownL at hz
 rw [List.mem_append] at hz
 rcases hz with hz | hz
 ·rw [List.mem_filter] at hz
  obtain ⟨h1, h2⟩ := hz
  obtain ⟨h3, h4⟩ := hid z h1
  obtain ⟨n, rfl⟩ := Int.eq_ofNat_of_zero_le h3
  have hn : n < c.ress.length := by omega
  have hc : (Ce.ceilL c)[n]? = some (Ce.ceilE c n) := by unfold Ce.ceilL; simp [hn]
  have hr := resF_at c (Ce.ceilL c) 0 n _ hc
  refine ⟨h3, ?_, Ce.ceilE c n, ?_, ceil_ge9 hl hx hn h1⟩
  ·unfold resL
   rw [List.length_append, hln]
   omega
  ·unfold resL
   rw [Int.toNat_natCast, List.getElem?_append_left (by rw [hln]; exact hn), hr, Nat.zero_add]
   simp at h2
   rw [h2]
 ·cases ho : c.o8 with
  | false => rw [ho] at hz; simp at hz
  | true =>
   rw [ho] at hz
   simp at hz
   subst hz
   refine ⟨by omega, ?_, Ce.schE c, ?_, Ce.prio_le hx⟩
   ·unfold resL
    rw [List.length_append, hln, ho]
    simp
    omega
   ·unfold resL
    rw [Int.toNat_natCast, List.getElem?_append_right (by rw [hln]; exact Nat.le_refl _), hln, ho]
    simp
theorem fid_bd9 (p : Int → Bool) : ∀ (l : List Int) (i : Nat), fidF p i l < 0 ∨ ((i : Int) ≤ fidF p i l ∧ fidF p i l < ((i + l.length : Nat) : Int))
 | [], i => Or.inl (by simp [fidF])
 | y :: r, i => by
  simp only [fidF, List.length_cons]
  split
  ·exact Or.inr ⟨Int.le_refl _, by omega⟩
  ·rcases fid_bd9 p r (i + 1) with h | h
   ·exact Or.inl h
   ·exact Or.inr (by omega)
theorem fid_lt9 (p : Int → Bool) (l : List Int) (h : ¬ fidF p 0 l < 0) : (fidF p 0 l).toNat < l.length := by
 rcases fid_bd9 p l 0 with h1 | h1
 ·exact absurd h1 h
 ·omega
theorem in_ok9 {c : Cf} (hl : Ce.lookE c = 0) {x : Tk} (hx : x ∈ c.tasks) (hid : ∀ z ∈ x.res, 0 ≤ z ∧ z < (c.ress.length : Int)) (h : 0 ≤ inlI c (Ce.ceilL c) x.res) : x.prio ≤ inlI c (Ce.ceilL c) x.res := by
 unfold inlI at h ⊢
 split at h
 ·omega
 ·rename_i hf
  rw [if_neg hf]
  have hlt : (fidF (innB c) 0 x.res).toNat < x.res.length := fid_lt9 (innB c) x.res hf
  have hmem : x.res.getD (fidF (innB c) 0 x.res).toNat 0 ∈ x.res := by
   rw [List.getD_eq_getElem?_getD, List.getElem?_eq_getElem hlt]
   exact List.getElem_mem _
  generalize x.res.getD (fidF (innB c) 0 x.res).toNat 0 = z at *
  obtain ⟨h3, h4⟩ := hid z hmem
  obtain ⟨n, rfl⟩ := Int.eq_ofNat_of_zero_le h3
  have hn : n < c.ress.length := by omega
  have hc : (Ce.ceilL c)[n]? = some (Ce.ceilE c n) := by unfold Ce.ceilL; simp [hn]
  rw [Int.toNat_natCast, List.getD_eq_getElem?_getD, hc]
  exact ceil_ge9 hl hx hn hmem
theorem ring_ok9 {l : List Tk} {x : Tk} (hx : x ∈ l) : 0 ≤ fidF (fun y => y == x.prio) 0 (prL9 l) ∧ fidF (fun y => y == x.prio) 0 (prL9 l) < ((prL9 l).length : Int) ∧ (prL9 l)[(fidF (fun y => y == x.prio) 0 (prL9 l)).toNat]? = some x.prio := by
 have hm : x.prio ∈ prL9 l := (prL_mem l x.prio).2 ⟨x, hx, rfl⟩
 obtain ⟨k, hk⟩ := List.mem_iff_getElem?.1 hm
 have hf := prL_fall l
 have hkl := (List.getElem?_eq_some_iff.1 hk)
 have e := fidF_at (fun y => y == x.prio) (prL9 l) 0 k x.prio hk (by simp) (fun j y hj hy => by
  have hjl := List.getElem?_eq_some_iff.1 hy
  have := List.pairwise_iff_getElem.1 hf j k hjl.1 hkl.1 hj
  rw [hkl.2, hjl.2] at this
  simp
  omega)
 rw [Nat.zero_add] at e
 rw [e]
 exact ⟨by omega, by have := hkl.1; omega, by rw [Int.toNat_natCast]; exact hk⟩
def sumI : List Int → Int
 | [] => 0
 | x :: r => x + sumI r
theorem sumI_snoc (x : Int) : ∀ l : List Int, sumI (l ++ [x]) = sumI l + x
 | [] => by simp [sumI]
 | y :: r => by simp only [List.cons_append, sumI, sumI_snoc x r]; omega
theorem sumI_add (f g : Int → Int) : ∀ l : List Int, sumI (l.map fun p => f p + g p) = sumI (l.map f) + sumI (l.map g)
 | [] => rfl
 | y :: r => by simp only [List.map_cons, sumI, sumI_add f g r]; omega
theorem sumI_zero : ∀ l : List Int, sumI (l.map fun _ => (0 : Int)) = 0
 | [] => rfl
 | y :: r => by simp only [List.map_cons, sumI, sumI_zero r]; omega
theorem sumI_hit (q v : Int) : ∀ l : List Int, q ∈ l → l.Pairwise (fun x y => y < x) → sumI (l.map fun p => if q = p then v else 0) = v
 | [], h, _ => by cases h
 | y :: r, h, hp => by
  rw [List.pairwise_cons] at hp
  simp only [List.map_cons, sumI]
  by_cases e : q = y
  ·subst e
   rw [if_pos rfl]
   have : (r.map fun p => if q = p then v else 0) = r.map fun _ => (0 : Int) := List.map_congr_left (fun p hp2 => if_neg (fun e => by have := hp.1 p hp2; omega))
   rw [this, sumI_zero]
   omega
  ·rw [if_neg e]
   have := sumI_hit q v r ((List.mem_cons.1 h).resolve_left e) hp.2
   omega
theorem sumI_cap (pl : List Int) (hp : pl.Pairwise fun x y => y < x) : ∀ ts : List TkR, (∀ x ∈ ts, x.prio ∈ pl) → sumI (pl.map fun p => capN ts p) = sumI (ts.map fun x => x.limit)
 | [], _ => sumI_zero pl
 | x :: r, h => by
  have e : (pl.map fun p => capN (x :: r) p) = pl.map fun p => (if x.prio = p then x.limit else 0) + capN r p := rfl
  rw [e, sumI_add (fun p => if x.prio = p then x.limit else 0) (fun p => capN r p), sumI_hit _ _ _ (h x (List.mem_cons_self ..)) hp, sumI_cap pl hp r (fun y hy => h y (List.mem_cons_of_mem _ hy))]
  rfl
theorem cap_bd9 (p : Int) : ∀ ts : List TkR, (∀ x ∈ ts, 0 ≤ x.limit ∧ x.limit ≤ 255) → 0 ≤ capN ts p ∧ capN ts p ≤ 255 * ts.length
 | [], _ => ⟨Int.le_refl _, by simp [capN]⟩
 | x :: r, h => by
  have h1 := cap_bd9 p r (fun y hy => h y (List.mem_cons_of_mem _ hy))
  have h2 := h x (List.mem_cons_self ..)
  simp only [capN, List.length_cons]
  split <;> omega
end Go.Proofs.YtmidaeljeoifdaaGreatDoor
