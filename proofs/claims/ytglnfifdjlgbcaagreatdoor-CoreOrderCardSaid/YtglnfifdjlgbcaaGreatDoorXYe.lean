import Derived.Test.YtglnfifdjlgbcaaGreatDoorXYc
import Derived.Deep.WholeRow
import Derived.Laws.Tables
namespace Go.Proofs.YtglnfifdjlgbcaaGreatDoor.Re
open Go.RowKit
set_option linter.unusedVariables false
set_option linter.unusedSimpArgs false

/-! ### Queues: New -/
def rwP (x : Int × Int) (i : Nat) (u : Value) : Prop := (i = 0 → u = I x.1) ∧ (i = 1 → u = I x.2)
def fitB (a : Int) : List (Int × Int) → Bool
  | [] => true
  | (p, c) :: t => decide (0 ≤ p ∧ p ≤ 63) && decide (p < a) && decide (1 ≤ c ∧ c ≤ 65536) && fitB p t
theorem RowsAt.two {w W : World} {a : Option Addr} {n c : Nat} {l : List (Int × Int)} (h : RowsAt w 2 rwP ⟨a, n, c⟩ l) (hb : Below w.heap.size w W) {j : Nat} {p q : Int} (hj : l[j]? = some (p, q)) : ∃ g off, a = some ⟨g, off, none⟩ ∧ W.cell? ⟨g, off + j * 2, none⟩ = some (I p) ∧ W.cell? ⟨g, off + j * 2 + 1, none⟩ = some (I q) ∧ g < w.heap.size := by
  obtain ⟨g, off, e, hg, hr⟩ := h.row j _ hj
  obtain ⟨u0, h0, k0⟩ := hr 0 (by decide)
  obtain ⟨u1, h1, k1⟩ := hr 1 (by decide)
  have e0 := k0.1 rfl
  have e1 := k1.2 rfl
  subst e0 e1
  exact ⟨g, off, e, (World.cell?_of_block (hb.block g hg)).trans h0, (World.cell?_of_block (hb.block g hg)).trans h1, hg⟩
set_option maxHeartbeats 4000000 in
theorem rowsFit_any (w : World) (s : Sl) (l : List (Int × Int)) (h : RowsAt w 2 rwP s l) : Calls Tryz.prog 106 #[.slice s.a s.n s.c] w fun e w' => e = .returned (.bool (fitB 64 l)) ∧ Below w.heap.size w w' := by
  obtain ⟨a1, n1, c1⟩ := s
  have hn1 := h.n
  simp only at hn1
  subst hn1
  have hm := Nat.le_trans h.c h.m
  simp only at hm
  unfold maxLen at hm
  have H : Hid (RowsAt w 2 rwP ⟨a1, l.length, c1⟩ l) := h
  clear h
  simp only
  go_enter Tryz.func106, Tryz.ntmps106
  go_wp2
  go_loopw [3, 8] (fun a i wr => ∃ (k : Nat) (t : Int), k ≤ l.length ∧ i = .int .i64 k ∧ a = .int .i64 t ∧ Hid (Below w.heap.size w wr ∧ fitB 64 l = fitB t (l.drop k))) (fun _ i _ => l.length - (intOf i).toNat)
  case atStart => exact ⟨0, 64, Nat.zero_le _, rfl, rfl, Below.refl _ _, rfl⟩
  case round =>
    obtain ⟨k, t, hk, rfl, rfl, HI⟩ := hrel
    obtain ⟨hb, hf⟩ := HI.out
    clear HI
    by_cases hlt : k < l.length
    · obtain ⟨⟨p, q⟩, hx⟩ : ∃ x, l[k]? = some x := ⟨_, List.getElem?_eq_getElem hlt⟩
      obtain ⟨g, off, rfl, x0, x1, hg⟩ := H.out.two hb hx
      have hd : l.drop k = (p, q) :: l.drop (k + 1) := by
        rw [List.drop_eq_getElem_cons hlt]
        congr 1
        have := List.getElem?_eq_getElem hlt
        rw [hx] at this
        exact (Option.some.inj this).symm
      rw [hd] at hf
      have HF : Hid (fitB 64 l = fitB t ((p, q) :: l.drop (k + 1))) := hf
      have HB : Hid (Below w.heap.size w (wr.alloc (.cells #[I p, I q] 63))) := hb.alloc hb.size _
      have hst := run_storeCells_new (P := Tryz.prog) wr 63 #[.int .i64 0, .int .i64 0] #[I p, I q] (by kernel_rfl) rfl (by simp [Value.oneCell'])
      have hltI : (k : Int) < l.length := by omega
      have hk0 : ¬ (k : Int) < 0 := by omega
      have hP := isPrio_any p (wr.alloc (.cells #[I p, I q] 63))
      clear hd hf hx hb
      by_cases hp : 0 ≤ p ∧ p ≤ 63
      · rw [decide_eq_true hp] at hP
        have HP : Hid (0 ≤ p ∧ p ≤ 63) := hp
        clear hp
        by_cases h2 : p < t
        · by_cases h3 : q < 1
          · go_wp2_with (first | (go_at_call 214; refine hP.mono ?_; rintro e w1 ⟨rfl, rfl⟩))
            go_ret
            exact ⟨ret_bool (by rw [HF.out]; simp [fitB]; omega), HB.out⟩
          · by_cases h4 : 65536 < q
            · go_wp2_with (first | (go_at_call 214; refine hP.mono ?_; rintro e w1 ⟨rfl, rfl⟩))
              go_ret
              exact ⟨ret_bool (by rw [HF.out]; simp [fitB]; omega), HB.out⟩
            · have H9 : Hid (Below w.heap.size w (wr.alloc (.cells #[I p, I q] 63)) ∧ fitB 64 l = fitB p (l.drop (k + 1))) := ⟨HB.out, by
                rw [HF.out]
                have := HP.out
                simp only [fitB]
                rw [decide_eq_true this, decide_eq_true h2, decide_eq_true (by omega)]
                simp⟩
              clear HF HB HP
              go_wp2_with (first | (go_at_call 214; refine hP.mono ?_; rintro e w1 ⟨rfl, rfl⟩))
              go_roundw
              case rel => exact ⟨k + 1, p, by omega, by go_num, rfl, H9.out⟩
              case measure => simp [intOf]; omega
        · go_wp2_with (first | (go_at_call 214; refine hP.mono ?_; rintro e w1 ⟨rfl, rfl⟩))
          go_ret
          exact ⟨ret_bool (by rw [HF.out]; simp [fitB]; omega), HB.out⟩
      · rw [decide_eq_false hp] at hP
        have HP : Hid (¬ (0 ≤ p ∧ p ≤ 63)) := hp
        clear hp
        go_wp2_with (first | (go_at_call 214; refine hP.mono ?_; rintro e w1 ⟨rfl, rfl⟩))
        go_ret
        exact ⟨ret_bool (by rw [HF.out]; have := HP.out; simp [fitB]; omega), HB.out⟩
    · obtain rfl : k = l.length := by omega
      have hge : ¬ ((l.length : Int) < l.length) := by omega
      go_wp2
      go_ret
      rw [List.drop_length] at hf
      exact ⟨ret_bool (by first | rfl | (rw [hf]; rfl)), hb⟩
end Go.Proofs.YtglnfifdjlgbcaaGreatDoor.Re

namespace Go.Proofs.YtglnfifdjlgbcaaGreatDoor.Re
open Go.RowKit
set_option linter.unusedVariables false
set_option linter.unusedSimpArgs false

/-! ### Queues on lists -/
structure Rr where
  p : Nat
  c : Nat
  h : Nat
  l : List Int
def Mt (f : RS) (rs : List Rr) : Prop := (∀ (i : Nat) (r : Rr), rs[i]? = some r → ∃ x, f r.p = some x ∧ x.c = r.c ∧ x.h = r.h ∧ x.l = r.l) ∧ (∀ p x, f p = some x → ∃ (i : Nat) (r : Rr), rs[i]? = some r ∧ r.p = p)
def Fall (rs : List Rr) : Prop := ∀ (i j : Nat) (a b : Rr), i < j → rs[i]? = some a → rs[j]? = some b → b.p < a.p
theorem Fall.inj {rs : List Rr} (h : Fall rs) {i j : Nat} {a b : Rr} (hi : rs[i]? = some a) (hj : rs[j]? = some b) (e : a.p = b.p) : i = j := by
  rcases Nat.lt_trichotomy i j with k | k | k
  · have := h i j a b k hi hj; omega
  · exact k
  · have := h j i b a k hj hi; omega
theorem Mt.get {f : RS} {rs : List Rr} (h : Mt f rs) {p : Nat} {x : Ri} (hx : f p = some x) : ∃ (i : Nat) (r : Rr), rs[i]? = some r ∧ r.p = p ∧ x.c = r.c ∧ x.h = r.h ∧ x.l = r.l := by
  obtain ⟨i, r, hi, hp⟩ := h.2 p x hx
  obtain ⟨y, hy, e1, e2, e3⟩ := h.1 i r hi
  rw [hp, hx] at hy
  cases hy
  exact ⟨i, r, hi, hp, e1, e2, e3⟩
theorem set_get {rs : List Rr} {i : Nat} {r' : Rr} (j : Nat) {b : Rr} (h : (rs.set i r')[j]? = some b) : (j = i ∧ b = r' ∧ i < rs.length) ∨ (j ≠ i ∧ rs[j]? = some b) := by
  by_cases e : i = j
  · subst e
    by_cases hl : i < rs.length
    · rw [List.getElem?_set_self hl] at h
      exact .inl ⟨rfl, (Option.some.inj h).symm, hl⟩
    · rw [List.getElem?_eq_none (by simp; omega)] at h
      cases h
  · rw [List.getElem?_set_ne e] at h
    exact .inr ⟨fun e2 => e e2.symm, h⟩
theorem Fall.set {rs : List Rr} (h : Fall rs) {i : Nat} {r r' : Rr} (hi : rs[i]? = some r) (e : r'.p = r.p) : Fall (rs.set i r') := fun j k a b hjk ha hb => by
  rcases set_get j ha with ⟨rfl, rfl, _⟩ | ⟨h1, h2⟩
  · rcases set_get k hb with ⟨rfl, rfl, _⟩ | ⟨h3, h4⟩
    · omega
    · rw [e]; exact h _ _ _ _ hjk hi h4
  · rcases set_get k hb with ⟨rfl, rfl, _⟩ | ⟨h3, h4⟩
    · rw [e]; exact h _ _ _ _ hjk h2 hi
    · exact h _ _ _ _ hjk h2 h4
theorem Mt.set {f : RS} {rs : List Rr} (h : Mt f rs) (hF : Fall rs) {i : Nat} {r : Rr} (hi : rs[i]? = some r) {x : Ri} (hx : f r.p = some x) (h' : Nat) (l' : List Int) : Mt (upd f r.p ⟨x.B, x.g, x.c, h', l'⟩) (rs.set i ⟨r.p, r.c, h', l'⟩) := by
  have hlt := (List.getElem?_eq_some_iff.1 hi).1
  obtain ⟨y, hy, e1, e2, e3⟩ := h.1 i r hi
  rw [hx] at hy
  cases hy
  refine ⟨fun j b hb => ?_, fun p y hy => ?_⟩
  · rcases set_get j hb with ⟨rfl, rfl, _⟩ | ⟨h1, h2⟩
    · exact ⟨_, upd_same _ _ _, e1, rfl, rfl⟩
    · obtain ⟨y, hy, e⟩ := h.1 j b h2
      refine ⟨y, ?_, e⟩
      rw [upd_other f _ (fun e2 => h1 (hF.inj h2 hi e2))]
      exact hy
  · by_cases e : p = r.p
    · exact ⟨i, _, List.getElem?_set_self hlt, e.symm⟩
    · rw [upd_other f _ e] at hy
      obtain ⟨j, b, hb, hp⟩ := h.2 p y hy
      refine ⟨j, b, ?_, hp⟩
      rw [List.getElem?_set_ne (fun e2 => e ?_)]
      · exact hb
      · subst e2
        rw [hi] at hb
        cases hb
        exact hp.symm
def newR (l : List (Int × Int)) : List Rr := l.map fun x => ⟨x.1.toNat, x.2.toNat, 0, []⟩
theorem fit_at : ∀ (l : List (Int × Int)) (a : Int), fitB a l = true → ∀ (k : Nat) (p c : Int), l[k]? = some (p, c) → (0 ≤ p ∧ p ≤ 63) ∧ p < a ∧ (1 ≤ c ∧ c ≤ 65536)
  | [], a, h, k, p, c, hk => by simp at hk
  | (p0, c0) :: t, a, h, k, p, c, hk => by
    simp only [fitB, Bool.and_eq_true, decide_eq_true_eq] at h
    obtain ⟨⟨⟨h1, h2⟩, h3⟩, h4⟩ := h
    cases k with
    | zero => simp at hk; obtain ⟨rfl, rfl⟩ := hk; exact ⟨h1, h2, h3⟩
    | succ k =>
      have := fit_at t p0 h4 k p c (by simpa using hk)
      exact ⟨this.1, by omega, this.2.2⟩
theorem fit_fall : ∀ (l : List (Int × Int)) (a : Int), fitB a l = true → ∀ (i j : Nat) (p c q d : Int), i < j → l[i]? = some (p, c) → l[j]? = some (q, d) → q < p
  | [], a, h, i, j, p, c, q, d, _, hi, _ => by simp at hi
  | (p0, c0) :: t, a, h, i, j, p, c, q, d, hij, hi, hj => by
    simp only [fitB, Bool.and_eq_true, decide_eq_true_eq] at h
    obtain ⟨_, h4⟩ := h
    obtain ⟨j, rfl⟩ : ∃ m, j = m + 1 := ⟨j - 1, by omega⟩
    simp only [List.getElem?_cons_succ] at hj
    cases i with
    | zero => simp at hi; obtain ⟨rfl, rfl⟩ := hi; exact (fit_at t p0 h4 j q d hj).2.1
    | succ i => exact fit_fall t p0 h4 i j p c q d (by omega) (by simpa using hi) hj
theorem fit_len (l : List (Int × Int)) (h : fitB 64 l = true) : l.length ≤ 64 := by
  by_cases hl : l.length ≤ 64
  · exact hl
  · have key : ∀ k, k < l.length → ∃ (p c : Int), l[k]? = some (p, c) ∧ p ≤ 63 - (k : Int) ∧ 0 ≤ p := by
      intro k
      induction k with
      | zero =>
        intro hk
        obtain ⟨⟨p, c⟩, hx⟩ : ∃ x, l[0]? = some x := ⟨_, List.getElem?_eq_getElem hk⟩
        have := fit_at l 64 h 0 p c hx
        exact ⟨p, c, hx, by omega, this.1.1⟩
      | succ k ih =>
        intro hk
        obtain ⟨p0, c0, hx0, h1, _⟩ := ih (by omega)
        obtain ⟨⟨p, c⟩, hx⟩ : ∃ x, l[k + 1]? = some x := ⟨_, List.getElem?_eq_getElem hk⟩
        have h2 := fit_fall l 64 h k (k + 1) p0 c0 p c (by omega) hx0 hx
        have h3 := fit_at l 64 h (k + 1) p c hx
        exact ⟨p, c, hx, by omega, h3.1.1⟩
    obtain ⟨p, c, _, h1, h2⟩ := key 64 (by omega)
    omega
theorem newR_get {l : List (Int × Int)} {i : Nat} {r : Rr} (h : (newR l)[i]? = some r) : ∃ (p c : Int), l[i]? = some (p, c) ∧ r = ⟨p.toNat, c.toNat, 0, []⟩ := by
  unfold newR at h
  rw [List.getElem?_map] at h
  obtain ⟨⟨p, c⟩, h1, h2⟩ := Option.map_eq_some_iff.1 h
  exact ⟨p, c, h1, h2.symm⟩
theorem newR_fall {l : List (Int × Int)} (h : fitB 64 l = true) : Fall (newR l) := fun i j a b hij ha hb => by
  obtain ⟨p, c, h1, rfl⟩ := newR_get ha
  obtain ⟨q, d, h2, rfl⟩ := newR_get hb
  have h3 := fit_fall l 64 h i j p c q d hij h1 h2
  have h4 := fit_at l 64 h i p c h1
  have h5 := fit_at l 64 h j q d h2
  show q.toNat < p.toNat
  omega
/-- The row of a priority. -/
def lst (f : RS) (p : Nat) : List Int := (f p).elim [] (·.l)
def tag (p : Nat) (l : List Int) : List (Int × Int) := l.map fun x => ((p : Int), x)
def dnF (f : RS) : Nat → List (Int × Int)
  | 0 => []
  | p + 1 => tag p (lst f p) ++ dnF f p
def allR : List Rr → List (Int × Int)
  | [] => []
  | r :: t => tag r.p r.l ++ allR t
def sumF (f : RS) : Nat → Nat
  | 0 => 0
  | p + 1 => sumF f p + (lst f p).length
theorem dnF_len (f : RS) : ∀ n, (dnF f n).length = sumF f n
  | 0 => rfl
  | n + 1 => by simp only [dnF, sumF, List.length_append, dnF_len f n, tag, List.length_map]; omega
theorem dn_all (f : RS) : ∀ (n : Nat) (rs : List Rr), Fall rs → (∀ (i : Nat) (r : Rr), rs[i]? = some r → r.p < n ∧ lst f r.p = r.l) → (∀ p, p < n → (∀ (i : Nat) (r : Rr), rs[i]? = some r → r.p ≠ p) → lst f p = []) → dnF f n = allR rs
  | 0, [], _, _, _ => rfl
  | 0, r :: t, _, h, _ => by have := (h 0 r rfl).1; omega
  | n + 1, [], hF, h, k => by
    have := k n (by omega) (fun i r hi => by simp at hi)
    simp only [dnF, this, tag, List.map_nil, List.nil_append]
    exact dn_all f n [] hF (fun i r hi => by simp at hi) (fun p hp _ => k p (by omega) (fun i r hi => by simp at hi))
  | n + 1, r :: t, hF, h, k => by
    have hFt : Fall t := fun i j a b hij ha hb => hF (i + 1) (j + 1) a b (by omega) (by simpa using ha) (by simpa using hb)
    have hr := h 0 r rfl
    have hlt : ∀ (i : Nat) (b : Rr), t[i]? = some b → b.p < r.p := fun i b hb => hF 0 (i + 1) r b (by omega) rfl (by simpa using hb)
    by_cases e : r.p = n
    · have := dn_all f n t hFt (fun i b hb => ⟨by have := hlt i b hb; omega, (h (i + 1) b (by simpa using hb)).2⟩) (fun p hp hno => k p (by omega) (fun i b hb => by
        cases i with
        | zero => simp at hb; subst hb; omega
        | succ i => exact hno i b (by simpa using hb)))
      simp only [dnF, allR, this]
      rw [← e, hr.2]
    · have h0 : lst f n = [] := k n (by omega) (fun i b hb => by
        cases i with
        | zero => simp at hb; subst hb; exact e
        | succ i => have := hlt i b (by simpa using hb); omega)
      have := dn_all f n (r :: t) hF (fun i b hb => ⟨by
        cases i with
        | zero => simp at hb; subst hb; omega
        | succ i => have := hlt i b (by simpa using hb); omega, (h i b hb).2⟩) (fun p hp hno => k p (by omega) hno)
      simp only [dnF, h0, tag, List.map_nil, List.nil_append]
      exact this
theorem Mt.lstE {f : RS} {rs : List Rr} (h : Mt f rs) {i : Nat} {r : Rr} (hi : rs[i]? = some r) : lst f r.p = r.l := by
  obtain ⟨x, hx, _, _, e⟩ := h.1 i r hi
  unfold lst
  rw [hx]
  exact e
theorem Mt.lstN {f : RS} {rs : List Rr} (h : Mt f rs) {p : Nat} (hp : ∀ (i : Nat) (r : Rr), rs[i]? = some r → r.p ≠ p) : lst f p = [] := by
  unfold lst
  cases hx : f p with
  | none => rfl
  | some x =>
    obtain ⟨i, r, hi, e⟩ := h.2 p x hx
    exact absurd e (hp i r hi)
theorem Mt.none {f : RS} {rs : List Rr} (h : Mt f rs) {p : Nat} (hp : ∀ (i : Nat) (r : Rr), rs[i]? = some r → r.p ≠ p) : f p = Option.none := by
  cases hx : f p with
  | none => rfl
  | some x =>
    obtain ⟨i, r, hi, e⟩ := h.2 p x hx
    exact absurd e (hp i r hi)
theorem Mt.all {f : RS} {rs : List Rr} (h : Mt f rs) (hF : Fall rs) (h64 : ∀ (i : Nat) (r : Rr), rs[i]? = some r → r.p < 64) : dnF f 64 = allR rs :=
  dn_all f 64 rs hF (fun i r hi => ⟨h64 i r hi, h.lstE hi⟩) (fun p _ hno => h.lstN hno)
/-- The bits. -/
def bitsR : Nat → List Rr → Nat
  | b, [] => b
  | b, r :: t => bitsR (if r.l = [] then b else b ||| 2 ^ r.p) t
theorem bitsR_bit : ∀ (rs : List Rr) (b q : Nat), (bitsR b rs).testBit q = true ↔ b.testBit q = true ∨ ∃ (i : Nat) (r : Rr), rs[i]? = some r ∧ r.p = q ∧ r.l ≠ []
  | [], b, q => by simp [bitsR]
  | r :: t, b, q => by
    rw [bitsR, bitsR_bit t]
    constructor
    · rintro (h | ⟨i, r', h1, h2⟩)
      · split at h
        · exact .inl h
        · rename_i hne
          rw [Nat.testBit_or, Nat.testBit_two_pow] at h
          simp only [Bool.or_eq_true, decide_eq_true_eq] at h
          rcases h with h | h
          · exact .inl h
          · exact .inr ⟨0, r, rfl, h, hne⟩
      · exact .inr ⟨i + 1, r', by simpa using h1, h2⟩
    · rintro (h | ⟨i, r', h1, h2, h3⟩)
      · left
        split
        · exact h
        · rw [Nat.testBit_or, h]; rfl
      · cases i with
        | zero =>
          simp at h1
          subst h1
          left
          rw [if_neg h3, Nat.testBit_or, Nat.testBit_two_pow]
          simp [h2]
        | succ i => exact .inr ⟨i, r', by simpa using h1, h2, h3⟩
theorem bitsR_lt : ∀ (rs : List Rr) (b : Nat), b < 18446744073709551616 → (∀ (i : Nat) (r : Rr), rs[i]? = some r → r.p < 64) → bitsR b rs < 18446744073709551616
  | [], b, h, _ => h
  | r :: t, b, h, k => by
    rw [bitsR]
    refine bitsR_lt t _ ?_ (fun i r' hi => k (i + 1) r' (by simpa using hi))
    split
    · exact h
    · exact Nat.or_lt_two_pow (n := 64) h (Nat.pow_lt_pow_right (by decide) (k 0 r rfl))
theorem Mt.bits {f : RS} {rs : List Rr} (h : Mt f rs) (h64 : ∀ (i : Nat) (r : Rr), rs[i]? = some r → r.p < 64) : Bt (bitsR 0 rs) f := by
  refine ⟨bitsR_lt rs 0 (by decide) h64, fun p => ?_⟩
  rw [bitsR_bit]
  constructor
  · rintro (e | ⟨i, r, hi, rfl, hl⟩)
    · simp at e
    · obtain ⟨x, hx, _, _, e⟩ := h.1 i r hi
      exact ⟨x, hx, by rw [e]; exact hl⟩
  · rintro ⟨x, hx, hl⟩
    obtain ⟨i, r, hi, hp, _, _, e⟩ := h.get hx
    exact .inr ⟨i, r, hi, hp, by rw [← e]; exact hl⟩
def clearR (rs : List Rr) : List Rr := rs.map fun r => ⟨r.p, r.c, r.h, []⟩
theorem clearR_get {rs : List Rr} {i : Nat} {r : Rr} (h : (clearR rs)[i]? = some r) : ∃ r0 : Rr, rs[i]? = some r0 ∧ r = ⟨r0.p, r0.c, r0.h, []⟩ := by
  unfold clearR at h
  rw [List.getElem?_map] at h
  obtain ⟨r0, h1, h2⟩ := Option.map_eq_some_iff.1 h
  exact ⟨r0, h1, h2.symm⟩
theorem Fall.clear {rs : List Rr} (h : Fall rs) : Fall (clearR rs) := fun i j a b hij ha hb => by
  obtain ⟨a0, h1, rfl⟩ := clearR_get ha
  obtain ⟨b0, h2, rfl⟩ := clearR_get hb
  exact h i j a0 b0 hij h1 h2
def clearF (f : RS) : RS := fun p => (f p).map fun x => ⟨x.B, x.g, x.c, x.h, []⟩
theorem Mt.clear {f : RS} {rs : List Rr} (h : Mt f rs) : Mt (clearF f) (clearR rs) := by
  refine ⟨fun i r hi => ?_, fun p x hx => ?_⟩
  · obtain ⟨r0, h1, rfl⟩ := clearR_get hi
    obtain ⟨x, hx, e1, e2, _⟩ := h.1 i r0 h1
    exact ⟨⟨x.B, x.g, x.c, x.h, []⟩, by simp [clearF, hx], e1, e2, rfl⟩
  · unfold clearF at hx
    obtain ⟨y, hy, _⟩ := Option.map_eq_some_iff.1 hx
    obtain ⟨i, r, hi, e⟩ := h.2 p y hy
    exact ⟨i, ⟨r.p, r.c, r.h, []⟩, by simp [clearR, hi], e⟩
end Go.Proofs.YtglnfifdjlgbcaaGreatDoor.Re

namespace Go.Proofs.YtglnfifdjlgbcaaGreatDoor.Re
open Go.RowKit
set_option linter.unusedVariables false
set_option linter.unusedSimpArgs false

/-! ### Queues: New -/
theorem zc : Tryz.zeroCells185 = (.bool false :: .int .u64 0 :: List.replicate 64 (.pointer none)).toArray := by kernel_rfl
noncomputable def QZ0 : Array Value := Tryz.zeroCells185.setIfInBounds 0 (.bool true)
noncomputable def QZ1 (F : Int) : Array Value := QZ0.setIfInBounds 1 (.int .u64 F)
theorem QZ0_eq : QZ0 = (.bool true :: .int .u64 0 :: List.replicate 64 (.pointer none)).toArray := by unfold QZ0; rw [zc]; rfl
theorem QZ1_eq (F : Int) : QZ1 F = (.bool true :: .int .u64 F :: List.replicate 64 (.pointer none)).toArray := by unfold QZ1; rw [QZ0_eq]; rfl
theorem Qm.newL (w : World) (F : Nat) : Qm (w.alloc (.cells (.bool true :: .int .u64 F :: List.replicate 64 (.pointer none)).toArray 185)) w.heap.size F (fun _ => none) := by
  refine ⟨⟨_, heap_alloc_new w _, rfl, rfl, rfl, fun p hp => ?_⟩, (fun p x hx => by cases hx), (fun p q x y hx => by cases hx)⟩
  rw [Nat.add_comm 2 p, List.getElem?_toArray, List.getElem?_cons_succ, List.getElem?_cons_succ, List.getElem?_replicate, if_pos hp]
  rfl
theorem Qm.new0 (w : World) : Qm (w.alloc (.cells QZ0 185)) w.heap.size 0 (fun _ => none) := by
  rw [QZ0_eq]; exact Qm.newL w 0
theorem Qm.new1 (w : World) (F : Nat) : Qm (w.alloc (.cells (QZ1 F) 185)) w.heap.size F (fun _ => none) := by
  rw [QZ1_eq]; exact Qm.newL w F
/-- A ring of its own is put into a queue. -/
theorem Qm.putR {w : World} {Q F : Nat} {f : RS} (h : Qm w Q F f) {p : Nat} (hp : p < 64) (hno : f p = none) {B g c hi : Nat} {l : List Int} (hc : 1 ≤ c) (hq : iQ w B g c hi (intsV l)) (hB : ∀ q y, f q = some y → y.B ≠ B ∧ y.g ≠ g) : Qm (w.setCell ⟨Q, 2 + p, none⟩ (iP B)) Q F (upd f p ⟨B, g, c, hi, l⟩) := by
  obtain ⟨cs, ho, hs, h0, h1, hpp⟩ := h.o
  have hF : Fx [Q] w (w.setCell ⟨Q, 2 + p, none⟩ (iP B)) := (Fx.refl _ w).set (.inl (by simp)) _ _
  have hQ : Q ≠ B ∧ Q ≠ g := by
    obtain ⟨c1, h1⟩ := hq.ty
    obtain ⟨c2, h2⟩ := hq.tyg
    refine ⟨fun e => ?_, fun e => ?_⟩
    · rw [e, h1] at ho; simp only [Option.some.injEq, Obj.cells.injEq] at ho; exact absurd ho.2.1 (by decide)
    · rw [e, h2] at ho; simp only [Option.some.injEq, Obj.cells.injEq] at ho; exact absurd ho.2.1 (by decide)
  refine ⟨⟨_, heap_setCell_same w Q (2 + p) _ _ (iP B) ho, by simpa using hs, ?_, ?_, fun q hq2 => ?_⟩, fun q y hy => ?_, fun q r y z hy hz hqr => ?_⟩
  · rw [Array.getElem?_setIfInBounds_ne (by omega)]; exact h0
  · rw [Array.getElem?_setIfInBounds_ne (by omega)]; exact h1
  · by_cases e : q = p
    · subst e
      rw [upd_same, Array.getElem?_setIfInBounds_self_of_lt (by omega)]
      rfl
    · rw [upd_other f _ e, Array.getElem?_setIfInBounds_ne (by omega)]
      exact hpp q hq2
  · by_cases e : q = p
    · subst e
      rw [upd_same] at hy
      cases hy
      exact ⟨hp, hc, hq.kept hF (by simp; exact fun e => hQ.1 e.symm) (by simp; exact fun e => hQ.2 e.symm)⟩
    · rw [upd_other f _ e] at hy
      obtain ⟨k1, k2, k3⟩ := h.r q y hy
      have hne := h.ne hy
      exact ⟨k1, k2, k3.kept hF (by simp; exact fun e => hne.1 e.symm) (by simp; exact fun e => hne.2 e.symm)⟩
  · by_cases e : q = p
    · subst e
      rw [upd_same] at hy
      cases hy
      rw [upd_other f _ (fun e2 => hqr e2.symm)] at hz
      have := hB r z hz
      exact ⟨fun e => this.1 e.symm, fun e => this.2 e.symm⟩
    · rw [upd_other f _ e] at hy
      by_cases e2 : r = p
      · subst e2
        rw [upd_same] at hz
        cases hz
        exact hB q y hy
      · rw [upd_other f _ e2] at hz
        exact h.a q r y z hy hz hqr
/-- A queue whose blocks lie from b0 on. -/
def Nw (b0 Q : Nat) (f : RS) : Prop := ∀ b, Qb Q f b → b0 ≤ b
theorem Nw.upd {b0 Q : Nat} {f : RS} (h : Nw b0 Q f) {p : Nat} {x : Ri} (hB : b0 ≤ x.B) (hg : b0 ≤ x.g) : Nw b0 Q (upd f p x) := by
  rintro b (e | ⟨q, y, hy, e⟩)
  · exact h b (.inl e)
  · by_cases hq : q = p
    · subst hq
      rw [upd_same] at hy
      cases hy
      rcases e with rfl | rfl
      · exact hB
      · exact hg
    · rw [upd_other f _ hq] at hy
      exact h b (.inr ⟨q, y, hy, e⟩)
theorem Mt.newS {f : RS} {l : List (Int × Int)} {k : Nat} (h : Mt f (newR (l.take k))) (hfit : fitB 64 l = true) {p c : Nat} (hx : l[k]? = some ((p : Int), (c : Int))) : f p = Option.none ∧ ∀ B g, Mt (upd f p ⟨B, g, c, 0, []⟩) (newR (l.take (k + 1))) := by
  have hlt := (List.getElem?_eq_some_iff.1 hx).1
  have htk : newR (l.take (k + 1)) = newR (l.take k) ++ [⟨p, c, 0, []⟩] := by
    rw [List.take_add_one, hx]
    simp [newR]
  have hno : f p = Option.none := h.none (fun i r hi e => by
    obtain ⟨q, d, h1, rfl⟩ := newR_get hi
    rw [List.getElem?_take] at h1
    split at h1
    · rename_i hik
      have h2 := fit_fall l 64 hfit i k q d p c hik h1 hx
      have h3 := fit_at l 64 hfit i q d h1
      simp at e
      omega
    · cases h1)
  refine ⟨hno, fun B g => ?_⟩
  rw [htk]
  have hlen : (newR (l.take k)).length = k := by simp [newR]; omega
  refine ⟨fun i r hi => ?_, fun q y hy => ?_⟩
  · by_cases hik : i < k
    · rw [List.getElem?_append_left (by omega)] at hi
      obtain ⟨y, hy, e⟩ := h.1 i r hi
      refine ⟨y, ?_, e⟩
      rw [upd_other f _ (fun e2 => ?_)]
      · exact hy
      · rw [e2, hno] at hy
        cases hy
    · rw [List.getElem?_append_right (by omega)] at hi
      have : i - (newR (l.take k)).length = 0 := by
        rcases Nat.eq_zero_or_pos (i - (newR (l.take k)).length) with e | e
        · exact e
        · rw [List.getElem?_eq_none (by simp; omega)] at hi
          cases hi
      rw [this] at hi
      simp at hi
      subst hi
      exact ⟨_, upd_same f p _, rfl, rfl, rfl⟩
  · by_cases e : q = p
    · exact ⟨k, ⟨p, c, 0, []⟩, by rw [List.getElem?_append_right (by omega), hlen]; simp, e.symm⟩
    · rw [upd_other f _ e] at hy
      obtain ⟨i, r, hi, hp⟩ := h.2 q y hy
      refine ⟨i, r, ?_, hp⟩
      rw [List.getElem?_append_left ((List.getElem?_eq_some_iff.1 hi).1)]
      exact hi
structure NwI (w wr : World) (Q : Nat) (l : List (Int × Int)) (k : Nat) (f : RS) : Prop where
  m : Qm wr Q 0 f
  t : Mt f (newR (l.take k))
  b : Below w.heap.size w wr
  n : Nw w.heap.size Q f
theorem NwI.step {w wr W : World} {Q : Nat} {l : List (Int × Int)} {k : Nat} {f : RS} (h : NwI w wr Q l k f) (hfit : fitB 64 l = true) {p c : Nat} (hp : p < 64) (hc : 1 ≤ c) (hx : l[k]? = some ((p : Int), (c : Int))) {B g : Nat} (hb : Below wr.heap.size wr W) (hq : iQ W B g c 0 []) (hB : wr.heap.size ≤ B) (hg : wr.heap.size ≤ g) : NwI w (W.setCell ⟨Q, 2 + p, none⟩ (iP B)) Q l (k + 1) (upd f p ⟨B, g, c, 0, []⟩) := by
  obtain ⟨h1, h2⟩ := h.t.newS hfit hx
  have hs := h.b.size
  refine ⟨(h.m.below hb).putR hp h1 hc hq (fun q y hy => ?_), h2 B g, ?_, h.n.upd (Nat.le_trans hs hB) (Nat.le_trans hs hg)⟩
  · have := (h.m.r q y hy).2.2.lts
    omega
  · exact (h.b.trans (hb.mono hs)).setCell (p := ⟨Q, 2 + p, none⟩) (h.n Q (.inl rfl)) _
set_option maxHeartbeats 4000000 in
theorem qNew_no (w : World) (s : Sl) (l : List (Int × Int)) (h : RowsAt w 2 rwP s l) (hfit : fitB 64 l = false) : Calls Tryz.prog 31 #[.slice s.a s.n s.c] w fun e w' => e = .returned (.tuple #[.pointer none, I 133]) ∧ Below w.heap.size w w' := by
  have hR := rowsFit_any w s l h
  rw [hfit] at hR
  clear h hfit
  go_enter Tryz.func31, Tryz.ntmps31
  go_wp2_with (first | (go_at_call 106; refine hR.mono ?_; rintro e w1 ⟨rfl, b1⟩))
  go_ret2
  exact ⟨rfl, b1⟩
set_option maxHeartbeats 4000000 in
theorem qNew_ok (w : World) (s : Sl) (l : List (Int × Int)) (h : RowsAt w 2 rwP s l) (hfit : fitB 64 l = true) : Calls Tryz.prog 31 #[.slice s.a s.n s.c] w fun e w' => ∃ Q f, e = .returned (.tuple #[qP Q, I 0]) ∧ Qu w' Q 0 f ∧ Mt f (newR l) ∧ Below w.heap.size w w' ∧ Nw w.heap.size Q f := by
  have hR := rowsFit_any w s l h
  rw [hfit] at hR
  obtain ⟨a1, n1, c1⟩ := s
  have hn1 := h.n
  simp only at hn1
  subst hn1
  have hm := fit_len l hfit
  have H : Hid (RowsAt w 2 rwP ⟨a1, l.length, c1⟩ l ∧ fitB 64 l = true) := ⟨h, hfit⟩
  clear h hfit
  simp only at hR
  simp only
  go_enter Tryz.func31, Tryz.ntmps31
  go_wp2_with (first | (go_at_call 106; refine hR.mono ?_; rintro e w1 ⟨rfl, b1⟩; clear hR))
  have HN : Hid (NwI w (w1.alloc (.cells QZ0 185)) w1.heap.size l 0 (fun _ => none)) := ⟨Qm.new0 w1, ⟨fun i r hi => by simp [newR] at hi, fun p x hx => by cases hx⟩, b1.alloc b1.size _, by
    rintro b (rfl | ⟨p, x, hx, _⟩)
    · exact b1.size
    · cases hx⟩
  clear b1
  change Hid (NwI w (w1.alloc (.cells (Tryz.zeroCells185.setIfInBounds 0 (.bool true)) 185)) w1.heap.size l 0 (fun _ => none)) at HN
  generalize Tryz.zeroCells185.setIfInBounds 0 (.bool true) = Z at *
  generalize (w1.alloc (.cells Z 185)) = W0 at *
  generalize w1.heap.size = Q at *
  go_loopw [14] (fun i wr => ∃ (k : Nat) (f : RS), k ≤ l.length ∧ i = .int .i64 k ∧ Hid (NwI w wr Q l k f)) (fun i _ => l.length - (intOf i).toNat)
  case atStart => exact ⟨0, _, Nat.zero_le _, rfl, HN.out⟩
  case round =>
    clear HN
    obtain ⟨k, f, hk, rfl, HI⟩ := hrel
    by_cases hlt : k < l.length
    · obtain ⟨⟨p, q⟩, hx⟩ : ∃ x, l[k]? = some x := ⟨_, List.getElem?_eq_getElem hlt⟩
      obtain ⟨⟨hp1, hp2⟩, _, hq1, hq2⟩ := fit_at l 64 H.out.2 k p q hx
      obtain ⟨n, rfl⟩ : ∃ n : Nat, p = n := ⟨p.toNat, by omega⟩
      obtain ⟨c, rfl⟩ : ∃ n : Nat, q = n := ⟨q.toNat, by omega⟩
      obtain ⟨g, off, rfl, x0, x1, hg⟩ := H.out.1.two HI.out.b hx
      have HX : Hid (l[k]? = some ((n : Int), (c : Int)) ∧ n < 64 ∧ 1 ≤ c ∧ c ≤ 65536 ∧ f n = Option.none) := ⟨hx, by omega, by omega, by omega, (HI.out.t.newS H.out.2 hx).1⟩
      have hst := run_storeCells_new (P := Tryz.prog) wr 63 #[.int .i64 0, .int .i64 0] #[I n, I c] (by kernel_rfl) rfl (by simp [Value.oneCell'])
      have hltI : (k : Int) < l.length := by omega
      have hk0 : ¬ (k : Int) < 0 := by omega
      have hn1 : (n : Int) < 64 := by omega
      have hn0 : ¬ (n : Int) < 0 := by omega
      have b1 := below_alloc wr (.cells #[I n, I c] 63)
      have y0 : (wr.alloc (.cells #[I n, I c] 63)).cell? ⟨wr.heap.size, 0, none⟩ = some (I n) := by rw [cell_of_row _ _ _ _ _ (0, 0) (heap_alloc_new wr _)]; rfl
      have y1 : (wr.alloc (.cells #[I n, I c] 63)).cell? ⟨wr.heap.size, 1, none⟩ = some (I c) := by rw [cell_of_row _ _ _ _ _ (0, 0) (heap_alloc_new wr _)]; rfl
      have hlt2 : wr.heap.size < (wr.alloc (.cells #[I n, I c] 63)).heap.size := by simp
      have hNE : wr.heap.size ≠ Q := by have := HI.out.m.lt; omega
      clear hx hq1 hq2 hp1 hp2
      go_wp2
      have B1 : Hid (Below wr.heap.size wr (wr.alloc (.cells #[I n, I c] 63))) := b1
      clear hst x0 x1 b1
      generalize (wr.alloc (.cells #[I n, I c] 63)) = W at *
      have hp := (iNewQ W.drew c HX.out.2.2.2.1).mono (R' := fun e w' => e = .returned (.tuple #[iP (W.heap.size + 1), I 0]) ∧ w'.cell? ⟨Q, 2 + n, none⟩ = some (.pointer none) ∧ w'.frozen? ⟨Q, 2 + n, none⟩ = false ∧ (w'.cell? ⟨wr.heap.size, 0, none⟩ = some (I n) ∧ w'.cell? ⟨wr.heap.size, 1, none⟩ = some (I c)) ∧ Hid (NwI w (w'.setCell ⟨Q, 2 + n, none⟩ (iP (W.heap.size + 1))) Q l (k + 1) (upd f n ⟨W.heap.size + 1, W.heap.size, c, 0, []⟩))) (fun e w' ⟨e1, q1, b2⟩ => by
        have bb : Below wr.heap.size wr w' := (B1.out.drew).trans (b2.mono (by have := B1.out.size; simpa using this))
        have hm2 := HI.out.m.below bb
        have hcp := hm2.cp HX.out.2.1
        rw [HX.out.2.2.2.2] at hcp
        have hsz := B1.out.size
        refine ⟨e1, hcp, hm2.frz _, ⟨?_, ?_⟩, HI.out.step H.out.2 HX.out.2.1 HX.out.2.2.1 HX.out.1 bb q1 (by omega) (by omega)⟩
        · exact (b2.cell (p := ⟨wr.heap.size, 0, none⟩) (by simpa using hlt2)).trans y0
        · exact (b2.cell (p := ⟨wr.heap.size, 1, none⟩) (by simpa using hlt2)).trans y1)
      go_region_held_law (fun w' => w'.cell? ⟨wr.heap.size, 0, none⟩ = some (I n) ∧ w'.cell? ⟨wr.heap.size, 1, none⟩ = some (I c))
        (first | exact ⟨y0, y1⟩ | exact hy2 | exact ⟨(cell_set_ne hNE).trans hy2.1, (cell_set_ne hNE).trans hy2.2⟩ | (go_keep; done))
        (first | (go_at_call 107; refine hp.mono ?_; rintro e w2 ⟨rfl, hc2, hz2, hy2, HN2⟩))
      all_goals
        go_wp2
        go_roundw
        case rel => exact ⟨k + 1, _, by omega, by go_num, HN2.out⟩
        case measure => simp [intOf]; omega
    · obtain rfl : k = l.length := by omega
      have hge : ¬ ((l.length : Int) < l.length) := by omega
      go_wp2
      go_ret2
      have h9 := HI.out
      have ht := h9.t
      rw [List.take_length] at ht
      exact ⟨Q, rfl, f, ⟨h9.m, Bt.zero (fun p x hx => by
        obtain ⟨i, r, hi, _, _, _, e⟩ := ht.get hx
        obtain ⟨_, _, _, rfl⟩ := newR_get hi
        exact e)⟩, ht, h9.b, h9.n⟩
end Go.Proofs.YtglnfifdjlgbcaaGreatDoor.Re

