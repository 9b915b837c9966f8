import Derived.Test.YtnmknnkpkkefoaaGreatDoorSpb
namespace Go.Proofs.YtnmknnkpkkefoaaGreatDoor
open Go.RowKit
set_option linter.unusedVariables false

theorem nmV_shape (t : ByteArray) : ∃ a b, nmV t = .tuple #[a, b] := by unfold nmV; split <;> exact ⟨_, _, rfl⟩
theorem stV_shape (t : ByteArray) : ∃ a b, stV t = .tuple #[a, b] := by unfold stV; split <;> exact ⟨_, _, rfl⟩
theorem mkV_shape (k : Int) : ∃ a b, mkV k = .tuple #[a, b] := by unfold mkV; split <;> exact ⟨_, _, rfl⟩
theorem fld_no {x : Tz} (h : fldL x = false) : spV2 x = .tuple #[.string ⟨#[]⟩, .int .i64 20] := by
  have : spz x = none := by
    obtain ⟨kind, text, val, hex⟩ := x
    unfold fldL at h
    unfold spz
    simp only at h ⊢
    by_cases hp : plainZ ⟨kind, text, val, hex⟩ = true
    · simp only [hp] at h ⊢
      simp at h
      obtain ⟨h1, h2, h3⟩ := h
      simp [h1, h2, h3]
    · have hp' : plainZ ⟨kind, text, val, hex⟩ = false := by simpa using hp
      simp only [hp'] at h ⊢
      by_cases h2 : kind = 2
      · simp [h2] at h ⊢
        exact h
      · simp [h2]
  unfold spV2
  rw [this]
theorem fld_yes {kind : Int} {text : List UInt8} {val : Nat} {hex : Bool} (h : fldL ⟨kind, text, val, hex⟩ = true) :
    (kind = 2 ∧ text = []) ∨ (kind ≠ 2 ∧ val = 0 ∧ hex = false ∧ (kind = 1 ∨ kind = 3 ∨ text = [])) := by
  unfold fldL at h
  simp only at h
  by_cases h2 : kind = 2
  · subst h2
    simp at h
    exact Or.inl ⟨rfl, h⟩
  · right
    cases hp : plainZ ⟨kind, text, val, hex⟩ with
    | false => rw [if_pos ⟨h2, hp⟩] at h; cases h
    | true =>
      rw [if_neg (fun e => by rw [hp] at e; cases e.2)] at h
      obtain ⟨p1, p2⟩ := plain_iff hp
      exact ⟨h2, p1, p2, of_decide_eq_true h⟩
structure Tv (w : World) (b : Nat) (kind : Int) (text : List UInt8) (val : Nat) (hex : Bool) : Prop where
  c0 : w.cell? ⟨b, 0, none⟩ = some (.int .i64 kind)
  c4 : w.cell? ⟨b, 4, none⟩ = some (.string ⟨text.toArray⟩)
  c5 : w.cell? ⟨b, 5, none⟩ = some (.int .u32 (val : Int))
  c6 : w.cell? ⟨b, 6, none⟩ = some (.bool hex)
set_option maxHeartbeats 4000000 in
set_option maxRecDepth 100000 in
theorem Spell_any (B : Nat) (p : Nat → Addr) (x : Tz) (o l c : Int) (w : World) (hE : Env B p w) (hT : EnvT w) (hx : TzOk x) :
    Calls Tryz.prog 29 #[tzV x o l c] w fun e w' => e = .returned (spV2 x) ∧ Below w.heap.size w w' := by
  obtain ⟨a, ha⟩ : ∃ a, spV2 x = a := ⟨_, rfl⟩
  rw [ha]
  have HX : Hid (spV2 x = a) := ha
  clear ha
  have cf := fields_any x o l c
  obtain ⟨kind, text, val, hex⟩ := x
  have hv : val < 4294967296 := hx.1
  have ht : text.length < 4611686018427387904 := hx.2
  have hts : (⟨text.toArray⟩ : ByteArray).size < 4611686018427387904 := by show text.toArray.size < _; rw [List.size_toArray]; exact ht
  clear hx
  unfold tzV tzC at cf ⊢
  simp only at cf ⊢
  have hba : Below w.heap.size w (w.alloc (.cells #[.int .i64 kind, .int .i64 o, .int .i64 l, .int .i64 c, .string ⟨text.toArray⟩, .int .u32 (val : Int), .bool hex] 34)) := (Below.refl _ _).alloc (Nat.le_refl _) _
  have hva : (w.alloc (.cells #[.int .i64 kind, .int .i64 o, .int .i64 l, .int .i64 c, .string ⟨text.toArray⟩, .int .u32 (val : Int), .bool hex] 34)).heap[w.heap.size]? = some (.cells #[.int .i64 kind, .int .i64 o, .int .i64 l, .int .i64 c, .string ⟨text.toArray⟩, .int .u32 (val : Int), .bool hex] 34 (0, 0)) := push_at w.heap _
  cases hfl : fldL ⟨kind, text, val, hex⟩ with
  | false =>
    rw [hfl] at cf
    have HY : Hid (spV2 ⟨kind, text, val, hex⟩ = .tuple #[.string ⟨#[]⟩, .int .i64 20]) := fld_no hfl
    clear hfl
    go_enter Tryz.func29, Tryz.ntmps29
    go_wp2_with (go_at_call 49; refine (cf _).mono ?_; rintro e w1 ⟨rfl, hb1⟩)
    go_ret2
    exact ⟨by rw [← HX.out, HY.out]; rfl, hba.trans (hb1.mono hba.size)⟩
  | true =>
    rw [hfl] at cf
    have hy := fld_yes hfl
    have HFY : Hid ((kind = 2 ∧ text = []) ∨ (kind ≠ 2 ∧ val = 0 ∧ hex = false ∧ (kind = 1 ∨ kind = 3 ∨ text = []))) := hy
    clear hfl hy
    by_cases k0 : kind = 0
    · subst k0
      have HY : Hid (spV2 ⟨0, text, val, hex⟩ = .tuple #[.string ⟨#[]⟩, .int .i64 0]) := by
        rcases HFY.out with ⟨h, _⟩ | ⟨_, h1, h2, h3⟩
        · cases h
        · have h4 : text = [] := by rcases h3 with h | h | h; cases h; cases h; exact h
          subst h1 h2 h4
          rfl
      clear HFY
      go_enter Tryz.func29, Tryz.ntmps29
      go_wp2_with (go_at_call 49; refine (cf _).mono ?_; rintro e w1 ⟨rfl, hb1⟩; have hbw := hba.trans (hb1.mono hba.size); have tv : Tv w1 w.heap.size 0 text val hex := (by have a1 := fun i => cell_of_row w1 w.heap.size i _ _ (0, 0) ((hb1.block _ (heap_lt hva)).trans hva); exact ⟨a1 0, a1 4, a1 5, a1 6⟩); obtain ⟨t0, t4, t5, t6⟩ := tv)
      go_ret2
      exact ⟨by rw [← HX.out, HY.out]; rfl, hbw⟩
    · have i0 : (kind == 0) = false := by rw [beq_eq_false_iff_ne]; exact k0
      by_cases k1 : kind = 1
      · subst k1
        have cn := spellName_any ⟨text.toArray⟩
        obtain ⟨s1, e1, hse⟩ := nmV_shape ⟨text.toArray⟩
        have HY : Hid (spV2 ⟨1, text, val, hex⟩ = .tuple #[s1, e1]) := by
          rcases HFY.out with ⟨h, _⟩ | ⟨_, h1, h2, h3⟩
          · cases h
          · subst h1 h2
            show spV2 _ = _
            rw [← hse]
            unfold spV2 nmV
            by_cases hn : nameL text = true
            · rw [if_pos (by simpa using hn)]; simp [spz, plainZ, hn]
            · rw [if_neg (by simpa using hn)]; simp [spz, plainZ, hn]
        rw [hse] at cn
        clear HFY hse
        go_enter Tryz.func29, Tryz.ntmps29
        go_wp2_with (first | (go_at_call 49; refine (cf _).mono ?_; rintro e w1 ⟨rfl, hb1⟩; have hbw := hba.trans (hb1.mono hba.size); have tv : Tv w1 w.heap.size 1 text val hex := (by have a1 := fun i => cell_of_row w1 w.heap.size i _ _ (0, 0) ((hb1.block _ (heap_lt hva)).trans hva); exact ⟨a1 0, a1 4, a1 5, a1 6⟩); obtain ⟨t0, t4, t5, t6⟩ := tv) | (go_at_call 50; refine (cn _ hts).mono ?_; rintro e w2 ⟨rfl, hb2⟩))
        go_ret2
        exact ⟨by rw [← HX.out, HY.out]; rfl, hbw.trans (hb2.mono hbw.size)⟩
      · have i1 : (kind == 1) = false := by rw [beq_eq_false_iff_ne]; exact k1
        by_cases k2 : kind = 2
        · subst k2
          have cn := fun w => spellNumber_any val hex w hv
          have HY : Hid (spV2 ⟨2, text, val, hex⟩ = .tuple #[.string ⟨(if hex = true then 48 :: 120 :: hexU val else Lib.decDigits val).toArray⟩, .int .i64 0]) := by
            rcases HFY.out with ⟨_, h⟩ | ⟨h, _⟩
            · subst h
              show spV2 _ = _
              unfold spV2
              rw [spz_num]
            · exact absurd rfl h
          generalize (⟨(if hex = true then 48 :: 120 :: hexU val else Lib.decDigits val).toArray⟩ : ByteArray) = res at *
          clear HFY
          go_enter Tryz.func29, Tryz.ntmps29
          go_wp2_with (first | (go_at_call 49; refine (cf _).mono ?_; rintro e w1 ⟨rfl, hb1⟩; have hbw := hba.trans (hb1.mono hba.size); have tv : Tv w1 w.heap.size 2 text val hex := (by have a1 := fun i => cell_of_row w1 w.heap.size i _ _ (0, 0) ((hb1.block _ (heap_lt hva)).trans hva); exact ⟨a1 0, a1 4, a1 5, a1 6⟩); obtain ⟨t0, t4, t5, t6⟩ := tv) | (go_at_call 51; refine (cn _ (hT.below hbw)).mono ?_; rintro e w2 ⟨rfl, hb2⟩))
          go_ret2
          exact ⟨by rw [← HX.out, HY.out]; rfl, hbw.trans (hb2.mono hbw.size)⟩
        · have i2 : (kind == 2) = false := by rw [beq_eq_false_iff_ne]; exact k2
          by_cases k3 : kind = 3
          · subst k3
            have cn := spellString_any ⟨text.toArray⟩
            obtain ⟨s1, e1, hse⟩ := stV_shape ⟨text.toArray⟩
            have HY : Hid (spV2 ⟨3, text, val, hex⟩ = .tuple #[s1, e1]) := by
              rcases HFY.out with ⟨h, _⟩ | ⟨_, h1, h2, h3⟩
              · cases h
              · subst h1 h2
                show spV2 _ = _
                rw [← hse]
                unfold spV2 stV
                by_cases hn : strL text = true
                · rw [if_pos (by simpa using hn)]; simp [spz, plainZ, hn]
                · rw [if_neg (by simpa using hn)]; simp [spz, plainZ, hn]
            rw [hse] at cn
            clear HFY hse
            go_enter Tryz.func29, Tryz.ntmps29
            go_wp2_with (first | (go_at_call 49; refine (cf _).mono ?_; rintro e w1 ⟨rfl, hb1⟩; have hbw := hba.trans (hb1.mono hba.size); have tv : Tv w1 w.heap.size 3 text val hex := (by have a1 := fun i => cell_of_row w1 w.heap.size i _ _ (0, 0) ((hb1.block _ (heap_lt hva)).trans hva); exact ⟨a1 0, a1 4, a1 5, a1 6⟩); obtain ⟨t0, t4, t5, t6⟩ := tv) | (go_at_call 52; refine (cn _ hts).mono ?_; rintro e w2 ⟨rfl, hb2⟩))
            go_ret2
            exact ⟨by rw [← HX.out, HY.out]; rfl, hbw.trans (hb2.mono hbw.size)⟩
          · have i3 : (kind == 3) = false := by rw [beq_eq_false_iff_ne]; exact k3
            have cn := fun w => spellMark_any B p kind w
            obtain ⟨s1, e1, hse⟩ := mkV_shape kind
            have HY : Hid (spV2 ⟨kind, text, val, hex⟩ = .tuple #[s1, e1]) := by
              rcases HFY.out with ⟨h, _⟩ | ⟨_, h1, h2, h3⟩
              · exact absurd h k2
              · have h4 : text = [] := by rcases h3 with h | h | h; exact absurd h k1; exact absurd h k3; exact h
                subst h1 h2 h4
                show spV2 _ = _
                rw [← hse]
                unfold spV2 mkV
                by_cases hn : 4 ≤ kind ∧ kind ≤ 8
                · rw [if_pos hn]; simp [spz, plainZ, hn, k0, k1, k2, k3]
                · rw [if_neg hn]; simp [spz, hn, k0, k1, k2, k3]
            rw [hse] at cn
            clear HFY hse k0 k1 k2 k3
            go_enter Tryz.func29, Tryz.ntmps29
            go_wp2_with (first | (go_at_call 49; refine (cf _).mono ?_; rintro e w1 ⟨rfl, hb1⟩; have hbw := hba.trans (hb1.mono hba.size); have tv : Tv w1 w.heap.size kind text val hex := (by have a1 := fun i => cell_of_row w1 w.heap.size i _ _ (0, 0) ((hb1.block _ (heap_lt hva)).trans hva); exact ⟨a1 0, a1 4, a1 5, a1 6⟩); obtain ⟨t0, t4, t5, t6⟩ := tv) | (go_at_call 53; refine (cn _ (hE.below (hbw.mono hE.size))).mono ?_; rintro e w2 ⟨rfl, hb2⟩))
            go_ret2
            exact ⟨by rw [← HX.out, HY.out]; rfl, hbw.trans (hb2.mono hbw.size)⟩
end Go.Proofs.YtnmknnkpkkefoaaGreatDoor
