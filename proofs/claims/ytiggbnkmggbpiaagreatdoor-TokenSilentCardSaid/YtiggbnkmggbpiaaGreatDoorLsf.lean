import Derived.Test.YtiggbnkmggbpiaaGreatDoorLsg
namespace Go.Proofs.YtiggbnkmggbpiaaGreatDoor
open Go
set_option linter.unusedVariables false

/-! ### Tokens written -/
def hexD (d : Nat) : UInt8 := UInt8.ofNat (if d < 10 then 48 + d else 55 + d)
def hexd (d : Nat) : UInt8 := UInt8.ofNat (if d < 10 then 48 + d else 87 + d)
def hexG (g : Nat → UInt8) (v : Nat) : List UInt8 := if h : v < 16 then [g v] else hexG g (v / 16) ++ [g (v % 16)]
def hexU (v : Nat) : List UInt8 := hexG hexD v
def escL (t : List UInt8) : List UInt8 := t.flatMap fun c => if escB c = true then [92, c] else [c]
def nameL (t : List UInt8) : Bool := decide (t.length ≤ 63) && (match t with | [] => false | c :: _ => isL c) && decide (wlen t = t.length)
def strL (t : List UInt8) : Bool := decide (t.length ≤ 255) && t.all sayB
def mkB (k : Int) : UInt8 := if k = 4 then 123 else if k = 5 then 125 else if k = 6 then 61 else if k = 7 then 59 else 58
structure Tz where
  kind : Int
  text : List UInt8
  val : Nat
  hex : Bool
def plainZ (x : Tz) : Bool := decide (x.val = 0) && !x.hex
def spz (x : Tz) : Option (List UInt8) :=
  if x.kind = 1 then (if plainZ x = true ∧ nameL x.text = true then some x.text else none)
  else if x.kind = 2 then (if x.text = [] then some (if x.hex = true then 48 :: 120 :: hexU x.val else Lib.decDigits x.val) else none)
  else if x.kind = 3 then (if plainZ x = true ∧ strL x.text = true then some (34 :: (escL x.text ++ [34])) else none)
  else if x.kind = 0 then (if plainZ x = true ∧ x.text = [] then some [] else none)
  else if 4 ≤ x.kind ∧ x.kind ≤ 8 then (if plainZ x = true ∧ x.text = [] then some [mkB x.kind] else none)
  else none
def joinF : Bool → List Tz → Option (List UInt8)
  | _, [] => some []
  | first, x :: r =>
    if x.kind = 0 ∧ r ≠ [] then none
    else match spz x with
      | none => none
      | some a => (joinF false r).map fun b => (if first = true then a else 32 :: a) ++ b

/-! ### Digits -/
theorem val_snoc (b v : Nat) (l : List UInt8) (c : UInt8) : valB b v (l ++ [c]) = b * valB b v l + hexV c := by
  induction l generalizing v with
  | nil => rfl
  | cons x l ih => exact ih _
theorem hexV_D : ∀ d, d < 16 → hexV (hexD d) = d ∧ isW (hexD d) = true := by decide
theorem hexV_G : ∀ d, d < 10 → hexV (UInt8.ofNat (48 + d)) = d ∧ isG (UInt8.ofNat (48 + d)) = true ∧ (d ≠ 0 → UInt8.ofNat (48 + d) ≠ 48) := by decide
theorem hex_val (v : Nat) : digB 16 (hexU v) = true ∧ valB 16 0 (hexU v) = v ∧ hexU v ≠ [] ∧ ∀ c ∈ hexU v, isW c = true := by
  induction v using Nat.strongRecOn with
  | _ v ih =>
    unfold hexU at *
    by_cases h : v < 16
    · rw [hexG, dif_pos h]
      have := hexV_D v h
      refine ⟨by simp [digB, this.1, h], by show 16 * 0 + hexV (hexD v) = v; omega, by simp, fun c hc => by simp at hc; subst hc; exact this.2⟩
    · rw [hexG, dif_neg h]
      obtain ⟨h1, h2, h3, h4⟩ := ih (v / 16) (by omega)
      have := hexV_D (v % 16) (by omega)
      refine ⟨?_, ?_, by simp, fun c hc => ?_⟩
      · unfold digB at *
        rw [List.all_append, h1]
        simp [this.1]
        omega
      · rw [val_snoc, h2, this.1]; omega
      · simp at hc
        rcases hc with hc | hc
        · exact h4 c hc
        · subst hc; exact this.2
theorem dec_val (v : Nat) : digB 10 (Lib.decDigits v) = true ∧ valB 10 0 (Lib.decDigits v) = v ∧ Lib.decDigits v ≠ [] ∧ (∀ c ∈ Lib.decDigits v, isG c = true) ∧ (v ≠ 0 → (Lib.decDigits v).head? ≠ some 48) := by
  induction v using Nat.strongRecOn with
  | _ v ih =>
    by_cases h : v < 10
    · rw [Lib.decDigits, dif_pos h]
      obtain ⟨a1, a2, a3⟩ := hexV_G v h
      generalize UInt8.ofNat (48 + v) = d at *
      refine ⟨by simp [digB, a1, h], by show 10 * 0 + hexV d = v; omega, by simp, fun c hc => by simp at hc; subst hc; exact a2, fun hv e => a3 hv (Option.some.inj e)⟩
    · rw [Lib.decDigits, dif_neg h]
      obtain ⟨h1, h2, h3, h4, h5⟩ := ih (v / 10) (by omega)
      obtain ⟨a1, a2, a3⟩ := hexV_G (v % 10) (by omega)
      generalize UInt8.ofNat (48 + v % 10) = d at *
      refine ⟨?_, ?_, by simp, fun c hc => ?_, fun _ => ?_⟩
      · unfold digB at *
        rw [List.all_append, h1]
        simp [a1]
        omega
      · rw [val_snoc, h2, a1]; omega
      · simp only [List.mem_append, List.mem_singleton] at hc
        rcases hc with hc | hc
        · exact h4 c hc
        · subst hc; exact a2
      · have h6 := h5 (by omega)
        cases hd : Lib.decDigits (v / 10) with
        | nil => exact absurd hd h3
        | cons x y => rw [hd] at h6; exact h6
theorem num_hex (v : Nat) (h : v ≤ 4294967295) : numL (48 :: 120 :: hexU v) = some (v, true) := by
  obtain ⟨h1, h2, h3, _⟩ := hex_val v
  unfold numL
  rw [if_pos (by simp [isX, Lib.hasPrefix, List.isPrefixOf])]
  show (numB 16 (hexU v)).map (·, true) = _
  unfold numB
  rw [if_pos ⟨h3, h1, by rw [h2]; exact h⟩, h2]
  rfl
theorem num_dec (v : Nat) (h : v ≤ 4294967295) : numL (Lib.decDigits v) = some (v, false) := by
  obtain ⟨h1, h2, h3, h4, h5⟩ := dec_val v
  unfold numL
  rw [if_neg, if_neg]
  · unfold numB
    rw [if_pos ⟨h3, h1, by rw [h2]; exact h⟩, h2]
    rfl
  · rintro ⟨e1, e2⟩
    by_cases hv : v = 0
    · subst hv
      rw [Lib.decDigits, dif_pos (by decide)] at e2
      simp at e2
    · exact h5 hv e1
  · intro hx
    have : ∃ y t, Lib.decDigits v = 48 :: y :: t ∧ (y = 120 ∨ y = 88) := by
      generalize Lib.decDigits v = l at hx
      match l with
      | [] => exact absurd hx (by decide)
      | [a] => simp [isX, Lib.hasPrefix, List.isPrefixOf] at hx
      | a :: b :: t =>
        simp [isX, Lib.hasPrefix, List.isPrefixOf] at hx
        rcases hx with ⟨e1, e2⟩ | ⟨e1, e2⟩
        · exact ⟨b, t, by rw [← e1], Or.inl e2.symm⟩
        · exact ⟨b, t, by rw [← e1], Or.inr e2.symm⟩
    obtain ⟨y, t, e, hy⟩ := this
    have := h4 y (by rw [e]; simp)
    rcases hy with rfl | rfl <;> exact absurd this (by decide)
theorem tw_self {α : Type} (p : α → Bool) (l : List α) : l.takeWhile p = l ↔ ∀ c ∈ l, p c = true := by
  induction l with
  | nil => simp
  | cons x l ih =>
    by_cases hx : p x = true
    · simp [List.takeWhile, hx, ih]
    · have : p x = false := by simpa using hx
      simp [List.takeWhile, this]
theorem wlen_all {b r : List UInt8} (hb : ∀ c ∈ b, isW c = true) (hr : NW r) : wlen (b ++ r) = b.length ∧ (b ++ r).take (wlen (b ++ r)) = b := by
  have e : b.takeWhile isW = b := (tw_self isW b).2 hb
  have : (b ++ r).takeWhile isW = b := by
    have := tw_app isW b r hr
    rw [e] at this
    exact this
  have hw : wlen (b ++ r) = b.length := by unfold wlen; rw [this]
  refine ⟨hw, ?_⟩
  rw [word_take, this]
theorem wlen_full {t : List UInt8} (h : wlen t = t.length) : ∀ c ∈ t, isW c = true := by
  have e : t.takeWhile isW = t := by
    have := word_take t
    rw [h, List.take_length] at this
    exact this.symm
  exact (tw_self isW t).1 e
theorem quo_esc (t said r : List UInt8) (i : Nat) (h : t.all sayB = true) : quoL (escL t ++ 34 :: r) said i = .done (said ++ t) (i + (escL t).length) := by
  induction t generalizing said i with
  | nil =>
    show quoL (34 :: r) said i = _
    rw [quoL.eq_def]
    simp [escL]
  | cons c t ih =>
    simp only [List.all_cons, Bool.and_eq_true] at h
    have hs : ¬ sayB c = false := by rw [h.1]; decide
    have hcs : escL (c :: t) = (if escB c = true then [92, c] else [c]) ++ escL t := rfl
    rw [hcs]
    by_cases he : escB c = true
    · rw [if_pos he, List.append_assoc]
      show quoL (92 :: c :: (escL t ++ 34 :: r)) said i = _
      rw [quoL.eq_def]
      simp only
      rw [if_neg (by decide), if_neg (by decide), if_pos trivial, if_pos he, ih _ _ h.2]
      simp
      omega
    · rw [if_neg he, List.append_assoc]
      show quoL (c :: (escL t ++ 34 :: r)) said i = _
      have hc : ¬ (c = 34 ∨ c = 92) := fun e => he (decide_eq_true e)
      rw [quoL.eq_def]
      simp only
      rw [if_neg (fun e => hc (Or.inl e)), if_neg hs, if_neg (fun e => hc (Or.inr e)), ih _ _ h.2]
      simp
      omega
def tkOf (x : Tz) : Tk := ⟨x.kind.toNat, x.text, x.val, x.hex⟩
theorem plain_iff {x : Tz} (h : plainZ x = true) : x.val = 0 ∧ x.hex = false := by
  unfold plainZ at h
  simp at h
  exact h
theorem isW_L {c : UInt8} (h : isL c = true) : isW c = true := by unfold isW; rw [h]; rfl
theorem isW_G {c : UInt8} (h : isG c = true) : isW c = true := by unfold isW; rw [h]; simp
theorem G_not_L (c : UInt8) (h : isG c = true) : isL c = false := by
  have := of_decide_eq_true h
  exact decide_eq_false (by omega)
/-- What is written is read again. -/
theorem tok_spell {x : Tz} {b : List UInt8} (h : spz x = some b) (hk : x.kind ≠ 0) (hv : x.val ≤ 4294967295) (r : List UInt8) (hr : NW r) : tokL (b ++ r) = .ok (tkOf x) b.length ∧ (tkOf x).kind ≠ 0 ∧ b ≠ [] := by
  obtain ⟨kind, text, val, hex⟩ := x
  unfold spz at h
  simp only at h hk hv
  by_cases h1 : kind = 1
  · rw [if_pos h1] at h
    split at h
    · next hc =>
      cases h
      obtain ⟨p1, p2⟩ := plain_iff hc.1
      simp only at p1 p2
      have hn := hc.2
      unfold nameL at hn
      simp only [Bool.and_eq_true, decide_eq_true_eq] at hn
      obtain ⟨⟨n1, n2⟩, n3⟩ := hn
      subst h1 p1 p2
      have ha := wlen_full n3
      obtain ⟨w1, w2⟩ := wlen_all ha hr
      cases b with
      | nil => simp at n2
      | cons c t =>
        simp only at n2
        refine ⟨?_, by simp [tkOf], by simp⟩
        rw [List.cons_append] at w1 w2 ⊢
        unfold tokL
        simp only
        rw [if_pos n2, w2, w1, if_neg (by omega)]
        rfl
    · cases h
  · rw [if_neg h1] at h
    by_cases h2 : kind = 2
    · rw [if_pos h2] at h
      split at h
      · next hc =>
        cases h
        subst h2 hc
        cases hex with
        | true =>
          simp only [if_true]
          have hx := hex_val val
          have ha : ∀ c ∈ (48 :: 120 :: hexU val), isW c = true := by
            intro c hc
            simp only [List.mem_cons] at hc
            rcases hc with rfl | rfl | hc
            · decide
            · decide
            · exact hx.2.2.2 c hc
          obtain ⟨w1, w2⟩ := wlen_all ha hr
          refine ⟨?_, by simp [tkOf], by simp⟩
          rw [List.cons_append, List.cons_append] at w1 w2 ⊢
          unfold tokL
          simp only
          rw [if_neg (by decide), if_pos (by decide), w2, w1, num_hex val hv]
          rfl
        | false =>
          have hx := dec_val val
          have ha : ∀ c ∈ Lib.decDigits val, isW c = true := fun c hc => isW_G (hx.2.2.2.1 c hc)
          obtain ⟨w1, w2⟩ := wlen_all ha hr
          have hnd := num_dec val hv
          simp only [Bool.false_eq_true, if_false]
          refine ⟨?_, by simp [tkOf], hx.2.2.1⟩
          cases hd : Lib.decDigits val with
          | nil => exact absurd hd hx.2.2.1
          | cons c t =>
            have hg := hx.2.2.2.1 c (by rw [hd]; simp)
            rw [hd] at w1 w2 hnd
            rw [List.cons_append] at w1 w2 ⊢
            unfold tokL
            simp only
            rw [if_neg (by rw [G_not_L c hg]; decide), if_pos hg, w2, w1, hnd]
            rfl
      · cases h
    · rw [if_neg h2] at h
      by_cases h3 : kind = 3
      · rw [if_pos h3] at h
        split at h
        · next hc =>
          cases h
          obtain ⟨p1, p2⟩ := plain_iff hc.1
          simp only at p1 p2
          have hn := hc.2
          unfold strL at hn
          simp only [Bool.and_eq_true, decide_eq_true_eq] at hn
          subst h3 p1 p2
          refine ⟨?_, by simp [tkOf], by simp⟩
          have hq := quo_esc text [] r 0 hn.2
          rw [List.cons_append, List.append_assoc]
          show tokL (34 :: (escL text ++ 34 :: r)) = _
          unfold tokL
          simp only
          rw [if_neg (by decide), if_neg (by decide), if_pos trivial, hq]
          unfold quoT
          simp only [List.nil_append]
          rw [if_neg (by omega)]
          simp [tkOf]
        · cases h
      · rw [if_neg h3, if_neg hk] at h
        split at h
        · next h48 =>
          split at h
          · next hc =>
            cases h
            obtain ⟨p1, p2⟩ := plain_iff hc.1
            have hc2 := hc.2
            simp only at p1 p2 hc2
            subst p1 p2 hc2
            have : kind = 4 ∨ kind = 5 ∨ kind = 6 ∨ kind = 7 ∨ kind = 8 := by omega
            rcases this with rfl | rfl | rfl | rfl | rfl <;> exact ⟨rfl, by decide, by decide⟩
          · cases h
        · cases h

/-! ### Tokens alone -/
def scanK : Nat → List UInt8 → Option (List Tk)
  | 0, _ => none
  | f + 1, l =>
    match nxT l with
    | .bad _ _ => none
    | .ok k len => if k.kind = 0 then some [k] else (scanK f (l.drop ((skipL l).1 + len))).map (k :: ·)
theorem scanK_end {f : Nat} : scanK (f + 1) [] = some [endK] := by
  have : nxT [] = .ok endK 0 := by unfold nxT; rw [skip_nil, if_pos rfl]; rfl
  rw [scanK, this]
  rfl
theorem scanK_sil {b r : List UInt8} (h : skipL (b ++ r) = (b.length + (skipL r).1, (skipL r).2)) (f : Nat) : scanK f (b ++ r) = scanK f r := by
  cases f with
  | zero => rfl
  | succ f =>
    have hn : nxT (b ++ r) = nxT r := by
      unfold nxT
      rw [h]
      simp only
      rw [← List.drop_drop, List.drop_left]
    rw [scanK, scanK, hn]
    cases nxT r with
    | bad c a => rfl
    | ok k len =>
      simp only
      rw [h]
      simp only
      rw [Nat.add_assoc, ← List.drop_drop, List.drop_left]
theorem scanK_tok {b r : List UInt8} {k : Tk} (h : tokL (b ++ r) = .ok k b.length) (hk : k.kind ≠ 0) (hb : b ≠ []) (f : Nat) : scanK (f + 1) (b ++ r) = (scanK f r).map (k :: ·) := by
  have hs : skipL (b ++ r) = (0, true) := by
    cases b with
    | nil => exact absurd rfl hb
    | cons c t => exact skip_stp (tok_stp h)
  have hn : nxT (b ++ r) = .ok k b.length := by unfold nxT; rw [hs, if_pos rfl]; exact h
  rw [scanK, hn]
  simp only
  rw [if_neg hk, hs]
  simp
theorem K_good (t : List UInt8) (f off : Nat) (ks : List Tk) (ho : off ≤ t.length) (h : scanK f (t.drop off) = some ks) : ∃ ts, Good t off ts ∧ ts.map (·.1) = ks := by
  induction f generalizing off ks with
  | zero => cases h
  | succ f ih =>
    rw [scanK] at h
    cases hn : nxT (t.drop off) with
    | bad c a => rw [hn] at h; cases h
    | ok k len =>
      rw [hn] at h
      simp only at h
      obtain ⟨h1, h2⟩ := nx_ok hn
      have h3 := nx_len hn
      rw [List.length_drop] at h3
      rw [List.drop_drop] at h2
      by_cases hk : k.kind = 0
      · rw [if_pos hk] at h
        cases h
        obtain ⟨e1, e2, e3⟩ := tok_end h2 hk
        have : off + (skipL (t.drop off)).1 = t.length := by
          have := congrArg List.length e1
          rw [List.length_drop] at this
          simp at this
          omega
        exact ⟨_, .fin ho h1 this, by rw [e2]; rfl⟩
      · rw [if_neg hk, List.drop_drop] at h
        cases hr : scanK f (t.drop (off + ((skipL (t.drop off)).1 + len))) with
        | none => rw [hr] at h; cases h
        | some ks' =>
          rw [hr] at h
          cases h
          have h5 := h3.2 hk
          obtain ⟨ts, g1, g2⟩ := ih (off + ((skipL (t.drop off)).1 + len)) ks' (by omega) hr
          rw [← Nat.add_assoc] at g1
          exact ⟨_, .more ho h1 rfl h2 hk h5 (by omega) g1, by rw [List.map_cons, g2]⟩
theorem sil_blank (r : List UInt8) : skipL ([32] ++ r) = (([32] : List UInt8).length + (skipL r).1, (skipL r).2) := skip_blank (by decide)
/-- The tokens that are no end. -/
def realZ (xs : List Tz) : List Tk := (xs.filter fun x => decide (x.kind ≠ 0)).map tkOf
theorem join_head {xs : List Tz} {s : List UInt8} (h : joinF false xs = some s) : s = [] ∨ s.head? = some 32 := by
  cases xs with
  | nil => cases h; left; rfl
  | cons x r =>
    rw [joinF] at h
    split at h
    · cases h
    · cases hs : spz x with
      | none => rw [hs] at h; cases h
      | some a =>
        rw [hs] at h
        simp only at h
        cases hj : joinF false r with
        | none => rw [hj] at h; cases h
        | some b => rw [hj] at h; cases h; right; rfl
theorem spz_end {x : Tz} {b : List UInt8} (h : spz x = some b) (hk : x.kind = 0) : b = [] := by
  unfold spz at h
  rw [if_neg (by omega), if_neg (by omega), if_neg (by omega), if_pos hk] at h
  split at h
  · cases h; rfl
  · cases h
theorem join_scan (xs : List Tz) (hv : ∀ x ∈ xs, x.val ≤ 4294967295) (first : Bool) (s : List UInt8) (h : joinF first xs = some s) (f : Nat) (hf : xs.length < f) : scanK f s = some (realZ xs ++ [endK]) := by
  induction xs generalizing first s f with
  | nil =>
    cases h
    obtain ⟨f, rfl⟩ : ∃ j, f = j + 1 := ⟨f - 1, by omega⟩
    exact scanK_end
  | cons x r ih =>
    rw [joinF] at h
    split at h
    · cases h
    · next hx =>
      cases hs : spz x with
      | none => rw [hs] at h; cases h
      | some a =>
        rw [hs] at h
        simp only at h
        cases hj : joinF false r with
        | none => rw [hj] at h; cases h
        | some b =>
          rw [hj] at h
          cases h
          simp at hf
          obtain ⟨f, rfl⟩ : ∃ j, f = j + 1 := ⟨f - 1, by omega⟩
          have key : scanK (f + 1) (a ++ b) = some (realZ (x :: r) ++ [endK]) := by
            by_cases hk : x.kind = 0
            · have hr : r = [] := by
                cases r with
                | nil => rfl
                | cons y r => exact absurd ⟨hk, by simp⟩ hx
              subst hr
              cases hj
              rw [spz_end hs hk]
              have : realZ [x] = [] := by unfold realZ; simp [hk]
              rw [this]
              exact scanK_end
            · have hnw : NW b := by
                intro c hc
                rcases join_head hj with e | e
                · rw [e] at hc; cases hc
                · rw [e] at hc; cases hc; decide
              obtain ⟨t1, t2, t3⟩ := tok_spell hs hk (hv x (by simp)) b hnw
              rw [scanK_tok t1 t2 t3, ih (fun y hy => hv y (by simp [hy])) false b hj f (by omega)]
              have : realZ (x :: r) = tkOf x :: realZ r := by unfold realZ; simp [hk]
              rw [this]
              rfl
          cases first with
          | true => exact key
          | false =>
            show scanK (f + 1) ([32] ++ (a ++ b)) = _
            rw [scanK_sil (sil_blank _)]
            exact key
theorem join_back (xs : List Tz) (hv : ∀ x ∈ xs, x.val ≤ 4294967295) (s : List UInt8) (h : joinF true xs = some s) (hl : s.length ≤ 262144) : ∃ ts, scanA s = .inl ts ∧ ts.map (·.1) = realZ xs ++ [endK] := by
  obtain ⟨ts, h1, h2⟩ := K_good s _ 0 _ (Nat.zero_le _) (by rw [List.drop_zero]; exact join_scan xs hv true s h _ (Nat.lt_succ_self _))
  exact ⟨ts, good_scanA h1 hl, h2⟩
end Go.Proofs.YtiggbnkmggbpiaaGreatDoor
