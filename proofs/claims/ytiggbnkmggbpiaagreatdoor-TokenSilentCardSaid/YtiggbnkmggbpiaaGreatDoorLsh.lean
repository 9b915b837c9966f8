import Derived.Test.YtiggbnkmggbpiaaGreatDoorLsf
namespace Go.Proofs.YtiggbnkmggbpiaaGreatDoor
open Go
set_option linter.unusedVariables false

/-- A text that says nothing, whatever stands behind it. -/
def Sil (b : List UInt8) : Prop := ∀ r, skipL (b ++ r) = (b.length + (skipL r).1, (skipL r).2)
theorem sil_nil : Sil [] := fun r => by simp
theorem sil_cons {c : UInt8} {b : List UInt8} (h : isB c = true) (hb : Sil b) : Sil (c :: b) := fun r => by
  rw [List.cons_append, skip_blank h, hb r]
  simp
  omega
theorem sil_line {b c : List UInt8} (h : 10 ∉ b) (hc : Sil c) : Sil (47 :: 47 :: (b ++ 10 :: c)) := fun r => by
  have e : (47 :: 47 :: (b ++ 10 :: c)) ++ r = 47 :: 47 :: (b ++ 10 :: (c ++ r)) := by simp
  rw [e, skip_com (isC_line _) (com_line h (Or.inr rfl))]
  have e2 : (47 :: 47 :: (b ++ 10 :: (c ++ r))).drop (b.length + 2) = 10 :: (c ++ r) := by simp
  rw [e2, skip_blank (by decide), hc r]
  simp
  omega
theorem sil_star {b c : List UInt8} (h : NoE b) (hc : Sil c) : Sil (47 :: 42 :: (b ++ 42 :: 47 :: c)) := fun r => by
  have e : (47 :: 42 :: (b ++ 42 :: 47 :: c)) ++ r = 47 :: 42 :: (b ++ 42 :: 47 :: (c ++ r)) := by simp
  rw [e, skip_com (isC_star _) (com_star h _)]
  have e2 : (47 :: 42 :: (b ++ 42 :: 47 :: (c ++ r))).drop (b.length + 4) = c ++ r := by
    rw [show b.length + 4 = (b.length + 2) + 1 + 1 by omega, List.drop_succ_cons, List.drop_succ_cons, ← List.drop_drop, List.drop_left]
    rfl
  rw [e2, hc r]
  simp
  omega
def btw (k : Nat) : List UInt8 :=
  match k % 8 with
  | 0 => [32]
  | 1 => [10]
  | 2 => [9, 32, 13, 10]
  | 3 => [47, 42, 42, 47]
  | 4 => [47, 47, 123, 59, 10]
  | 5 => [47, 42, 32, 34, 32, 42, 47, 32]
  | 6 => [32, 47, 42, 42, 42, 47]
  | _ => [47, 47, 10, 47, 47, 10]
theorem noE_nil : NoE [] := fun r => by simp [Lib.index, List.isPrefixOf]
theorem noE_a : NoE [32, 34, 32] := fun r => by simp [Lib.index, List.isPrefixOf]
theorem noE_b : NoE [42] := fun r => by simp [Lib.index, List.isPrefixOf]
theorem sil_btw (k : Nat) : Sil (btw k) := by
  unfold btw
  split
  · exact sil_cons (by decide) sil_nil
  · exact sil_cons (by decide) sil_nil
  · exact sil_cons (by decide) (sil_cons (by decide) (sil_cons (by decide) (sil_cons (by decide) sil_nil)))
  · exact sil_star noE_nil sil_nil
  · exact sil_line (b := [123, 59]) (by decide) sil_nil
  · exact sil_star noE_a (sil_cons (by decide) sil_nil)
  · exact sil_cons (by decide) (sil_star noE_b sil_nil)
  · exact sil_line (b := []) (by decide) (sil_line (b := []) (by decide) sil_nil)
/-- A text with what says nothing put between its tokens. -/
def silT (t : List UInt8) (pre : Nat → List UInt8) : Nat → List (Tk × Nat) → List UInt8
  | _, [] => []
  | i, [(k, o)] => pre i ++ t.drop o
  | i, (k, o) :: (k', o') :: r => pre i ++ ((t.drop o).take (o' - o) ++ 10 :: silT t pre (i + 1) ((k', o') :: r))
theorem sil_scan (t : List UInt8) (pre : Nat → List UInt8) (hp : ∀ i, Sil (pre i)) {off : Nat} {ts : List (Tk × Nat)} (h : Good t off ts) : ∀ i, scanK ts.length (silT t pre i ts) = some (ts.map (·.1)) := by
  induction h with
  | @fin off ho h1 h2 =>
    intro i
    show scanK 1 (pre i ++ t.drop t.length) = _
    rw [List.drop_length, scanK_sil (hp i [])]
    exact scanK_end
  | @more off len o k ts ho h1 h2 h3 h4 h5 h6 hg ih =>
    intro i
    obtain ⟨k', hf, hfl⟩ := hg.first
    cases ts with
    | nil => simp at hf
    | cons y r =>
      obtain ⟨k2, o2⟩ := y
      simp at hf
      obtain ⟨rfl, rfl⟩ := hf
      show scanK (r.length + 1 + 1) (pre i ++ ((t.drop o).take (o + len + (skipL (t.drop (o + len))).1 - o) ++ 10 :: silT t pre (i + 1) ((k2, o + len + (skipL (t.drop (o + len))).1) :: r))) = _
      rw [scanK_sil (hp i _)]
      have IH := ih (i + 1)
      generalize silT t pre (i + 1) ((k2, o + len + (skipL (t.drop (o + len))).1) :: r) = R at *
      have e : (t.drop o).take (o + len + (skipL (t.drop (o + len))).1 - o) = (t.drop o).take len ++ (t.drop (o + len)).take (skipL (t.drop (o + len))).1 := by
        rw [show o + len + (skipL (t.drop (o + len))).1 - o = len + (skipL (t.drop (o + len))).1 by omega, List.take_add, List.drop_drop]
      rw [e, List.append_assoc]
      have hl : ((t.drop o).take len).length = len := by rw [List.length_take, List.length_drop]; omega
      have hnw : k.kind = 1 ∨ k.kind = 2 → NW ((t.drop (o + len)).take (skipL (t.drop (o + len))).1 ++ 10 :: R) := by
        intro hk c hc
        have h7 := tok_follow h3 hk
        rw [List.drop_drop] at h7
        cases hd : (t.drop (o + len)).take (skipL (t.drop (o + len))).1 with
        | nil => rw [hd] at hc; cases hc; decide
        | cons x y =>
          rw [hd] at hc
          exact nw_take h7 _ c (by rw [hd]; exact hc)
      have ht := tok_app h3 h4 _ hnw
      rw [← hl] at ht
      rw [hl] at ht
      rw [scanK_tok (b := (t.drop o).take len) (by rw [hl]; exact ht) h4 (by intro e; rw [e] at hl; simp at hl; omega)]
      have hs := skip_app (t.drop (o + len)) R hfl
      have hs2 : skipL (((t.drop (o + len)).take (skipL (t.drop (o + len))).1 ++ [10]) ++ R) = (((t.drop (o + len)).take (skipL (t.drop (o + len))).1 ++ [10]).length + (skipL R).1, (skipL R).2) := by
        have hle := skip_le (t.drop (o + len))
        rw [List.append_assoc]
        show skipL ((t.drop (o + len)).take (skipL (t.drop (o + len))).1 ++ 10 :: R) = _
        rw [hs, List.length_append, List.length_take, Nat.min_eq_left hle]
        rfl
      have := scanK_sil hs2 (r.length + 1)
      rw [List.append_assoc] at this
      have h9 : scanK (r.length + 1) ((t.drop (o + len)).take (skipL (t.drop (o + len))).1 ++ 10 :: R) = scanK (r.length + 1) R := this
      rw [h9]
      have IH' : scanK (r.length + 1) R = _ := IH
      rw [IH']
      rfl
theorem quo_said (l said : List UInt8) (i : Nat) (sd : List UInt8) (n : Nat) (h : quoL l said i = .done sd n) (hs : said.all sayB = true) : sd.all sayB = true := by
  induction hl : l.length using Nat.strongRecOn generalizing l said i with
  | _ m ih =>
    rw [quoL.eq_def] at h
    cases l with
    | nil => cases h
    | cons c t =>
      simp only at h
      simp at hl
      split at h
      · cases h; exact hs
      · split at h
        · cases h
        · next hsay =>
          split at h
          · cases t with
            | nil => cases h
            | cons d t' =>
              simp only at h
              simp at hl
              split at h
              · next he =>
                have hd : sayB d = true := by
                  have := of_decide_eq_true he
                  rcases this with rfl | rfl <;> decide
                exact ih t'.length (by omega) t' _ _ h (by rw [List.all_append, hs]; simp [hd]) rfl
              · cases h
          · exact ih t.length (by omega) t _ _ h (by rw [List.all_append, hs]; simpa using hsay) rfl
theorem wlen_take (l : List UInt8) : wlen (l.take (wlen l)) = (l.take (wlen l)).length := by
  have := (word_app l [] (fun c h => by cases h)).1
  rw [List.append_nil] at this
  rw [this, List.length_take, Nat.min_eq_left (wlen_le l)]
theorem spz_name {t : List UInt8} (h : nameL t = true) : spz ⟨1, t, 0, false⟩ = some t := by simp [spz, plainZ, h]
theorem spz_num (v : Nat) (h : Bool) : spz ⟨2, [], v, h⟩ = some (if h = true then 48 :: 120 :: hexU v else Lib.decDigits v) := by simp [spz]
theorem spz_str {t : List UInt8} (h : strL t = true) : spz ⟨3, t, 0, false⟩ = some (34 :: (escL t ++ [34])) := by simp [spz, plainZ, h]
/-- What was read can be written. -/
theorem tok_spz {c : UInt8} {t : List UInt8} {k : Tk} {len : Nat} (h : tokL (c :: t) = .ok k len) : ∃ b, spz ⟨k.kind, k.text, k.val, k.hex⟩ = some b ∧ b ≠ [] := by
  unfold tokL at h
  simp only at h
  split at h
  · next hL =>
    split at h
    · cases h
    · next h63 =>
      cases h
      have h1 := wlen_take (c :: t)
      have h2 := wlen_le (c :: t)
      obtain ⟨j, hj⟩ : ∃ j, wlen (c :: t) = j + 1 := ⟨wlen (c :: t) - 1, by have := wlen_pos t (isW_L hL); omega⟩
      refine ⟨(c :: t).take (wlen (c :: t)), spz_name ?_, by rw [hj]; simp⟩
      unfold nameL
      rw [decide_eq_true (by rw [List.length_take]; omega), decide_eq_true h1, hj]
      simp [hL]
  · split at h
    · split at h
      · cases h
      · next v hx hn =>
        cases h
        refine ⟨_, spz_num v hx, ?_⟩
        split
        · simp
        · exact (dec_val _).2.2.1
    · split at h
      · cases hq : quoL t [] 0 with
        | bad a => rw [hq] at h; cases h
        | open_ => rw [hq] at h; cases h
        | done sd n =>
          rw [hq] at h
          unfold quoT at h
          simp only at h
          split at h
          · cases h
          · next h255 =>
            cases h
            have := quo_said t [] 0 sd n hq rfl
            refine ⟨34 :: (escL sd ++ [34]), spz_str (t := sd) ?_, by simp⟩
            unfold strL
            rw [decide_eq_true (by omega), this]
            rfl
      · split at h
        · cases h
        · next hm =>
          cases h
          have : mrk c = 4 ∨ mrk c = 5 ∨ mrk c = 6 ∨ mrk c = 7 ∨ mrk c = 8 := by
            unfold mrk at hm ⊢
            split
            · simp
            · split
              · simp
              · split
                · simp
                · split
                  · simp
                  · split
                    · simp
                    · next a b c' d e => rw [if_neg a, if_neg b, if_neg c', if_neg d, if_neg e] at hm; exact absurd rfl hm
          refine ⟨[mkB (mrk c)], ?_, by simp⟩
          rcases this with e | e | e | e | e <;> rw [e] <;> rfl
theorem Good.spell {t : List UInt8} {off : Nat} {ts : List (Tk × Nat)} (h : Good t off ts) : ∀ {i : Nat} {k : Tk} {o : Nat}, ts[i]? = some (k, o) → k.kind ≠ 0 → ∃ b, spz ⟨k.kind, k.text, k.val, k.hex⟩ = some b ∧ b ≠ [] := by
  induction h with
  | @fin off ho h1 h2 =>
    intro i k o hi hk
    cases i with
    | zero => simp at hi; obtain ⟨rfl, rfl⟩ := hi; exact absurd rfl hk
    | succ i => simp at hi
  | @more off len o k ts ho h1 h2 h3 h4 h5 h6 hg ih =>
    intro i k1 o1 hi hk
    cases i with
    | zero =>
      simp at hi
      obtain ⟨rfl, rfl⟩ := hi
      have hd : t.drop o = t[o]'(by omega) :: t.drop (o + 1) := List.drop_eq_getElem_cons (by omega)
      rw [hd] at h3
      exact tok_spz h3
    | succ i => exact ih (by simpa using hi) hk
/-- The values of numbers are within 32 bits. -/
theorem tok_val {l : List UInt8} {k : Tk} {len : Nat} (h : tokL l = .ok k len) : k.val ≤ 4294967295 := by
  cases l with
  | nil => cases h; simp
  | cons c t =>
    unfold tokL at h
    simp only at h
    split at h
    · split at h
      · cases h
      · cases h; simp
    · split at h
      · split at h
        · cases h
        · next v hx hn =>
          cases h
          have key : ∀ b l' v', numB b l' = some v' → v' ≤ 4294967295 := by
            intro b l' v' hb
            unfold numB at hb
            split at hb
            · next hh => cases hb; exact hh.2.2
            · cases hb
          unfold numL at hn
          split at hn
          · cases hb : numB 16 (((c :: t).take (wlen (c :: t))).drop 2) with
            | none => rw [hb] at hn; cases hn
            | some v' => rw [hb] at hn; cases hn; exact key _ _ _ hb
          · split at hn
            · cases hn
            · cases hb : numB 10 ((c :: t).take (wlen (c :: t))) with
              | none => rw [hb] at hn; cases hn
              | some v' => rw [hb] at hn; cases hn; exact key _ _ _ hb
      · split at h
        · cases hq : quoL t [] 0 with
          | bad a => rw [hq] at h; cases h
          | open_ => rw [hq] at h; cases h
          | done sd n =>
            rw [hq] at h
            unfold quoT at h
            simp only at h
            split at h
            · cases h
            · cases h; simp
        · split at h
          · cases h
          · cases h; simp
end Go.Proofs.YtiggbnkmggbpiaaGreatDoor
