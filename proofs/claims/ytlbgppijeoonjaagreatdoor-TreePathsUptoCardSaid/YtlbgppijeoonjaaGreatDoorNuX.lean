import Derived.Test.YtlbgppijeoonjaaGreatDoorNum
namespace Go.Proofs.YtlbgppijeoonjaaGreatDoor
open Go.RowKit
set_option linter.unusedVariables false

theorem numB_le {b : Nat} {l : List UInt8} {v : Nat} (h : numB b l = some v) : v ≤ 4294967295 := by
  unfold numB at h
  split at h
  · next h1 => cases h; exact h1.2.2
  · cases h
def NoPost (p : Nat → Addr) (l : List UInt8) (e : Ending) : Prop :=
  match numL l with
  | some (v, h) => e = .returned (.tuple #[.int .u32 (v : Int), .bool h, .nilIface])
  | none => e = .returned (.tuple #[.int .u32 0, .bool false, .iface 224 (.pointer (some (p 21)))])
theorem no_some {p : Nat → Addr} {l : List UInt8} {v : Nat} {h : Bool} (e : numL l = some (v, h)) : NoPost p l (.returned (.tuple #[.int .u32 (v : Int), .bool h, .nilIface])) := by
  unfold NoPost; rw [e]
theorem no_none {p : Nat → Addr} {l : List UInt8} (e : numL l = none) : NoPost p l (.returned (.tuple #[.int .u32 0, .bool false, .iface 224 (.pointer (some (p 21)))])) := by
  unfold NoPost; rw [e]
set_option maxHeartbeats 2000000 in
set_option maxRecDepth 100000 in
theorem numberOf_any (B : Nat) (p : Nat → Addr) (s : ByteArray) (hs : s.size < 4294967281) (h0 : 0 < s.size) (w : World) (hE : Env B p w) :
    Calls Tryz.prog 113 #[.string s] w fun e w' => NoPost p s.data.toList e ∧ Below w.heap.size w w' := by
  have c1 := Tryz.strings_HasPrefix s ⟨#[48, 120]⟩
  have c2 := Tryz.strings_HasPrefix s ⟨#[48, 88]⟩
  have HL : Hid (s.data.toList.length = s.size) := len_all s
  change ∀ w, Calls _ _ _ w (fun e w' => e = .returned (.bool (Lib.hasPrefix s.data.toList [48, 120])) ∧ w' = w) at c1
  change ∀ w, Calls _ _ _ w (fun e w' => e = .returned (.bool (Lib.hasPrefix s.data.toList [48, 88])) ∧ w' = w) at c2
  have HX : Hid (isX s.data.toList = (Lib.hasPrefix s.data.toList [48, 120] || Lib.hasPrefix s.data.toList [48, 88])) := rfl
  have HS : Hid (isX s.data.toList = true → 2 ≤ s.size) := fun h => by
    rw [← len_all s]
    revert h
    generalize s.data.toList = l
    intro h
    match l with
    | [] => exact absurd h (by decide)
    | [a] => simp [isX, Lib.hasPrefix, List.isPrefixOf] at h
    | a :: b :: t => simp
  have hen := hE.number
  generalize Lib.hasPrefix s.data.toList [48, 120] = x1 at *
  generalize Lib.hasPrefix s.data.toList [48, 88] = x2 at *
  by_cases hx : (x1 || x2) = true
  · have hX : isX s.data.toList = true := by rw [HX.out]; exact hx
    have h2 := HS.out hX
    have HN : Hid (numL s.data.toList = (numB 16 (s.data.toList.drop 2)).map (·, true)) := by show numL _ = _; unfold numL; rw [if_pos hX]
    have hsl : ∀ w, (Instr.slice 9 (.string s) (some (.int .i64 2)) none none).run Tryz.prog w = .ok (.string (rst s 2)) w := fun w => by
      have h1 : (0 : Int) ≤ 2 ∧ (2 : Int) ≤ s.size := by omega
      rw [run_slice_string_from_if w _ _ _ _ Tryz.underlying9, if_pos h1]
      rfl
    have cp := parse_any B p 16 (Or.inr rfl) (rst s 2) (by rw [rst_size]; omega) w hE
    rw [rst_list] at cp
    clear hX HX HS
    have hx' : x1 = true ∨ (x1 = false ∧ x2 = true) := by cases x1 <;> cases x2 <;> simp_all
    clear hx
    rcases hx' with rfl | ⟨rfl, rfl⟩
    all_goals
      go_enter Tryz.func113, Tryz.ntmps113
      go_wp2_with (first
        | (go_at_call 108; refine (c1 _).mono ?_; rintro e w' ⟨rfl, rfl⟩)
        | (go_at_call 108; refine (c2 _).mono ?_; rintro e w' ⟨rfl, rfl⟩))
      refine cp.mono ?_
      rintro e w1 ⟨hP, hb1⟩
      have hen1 := (hE.below (hb1.mono hE.size)).number
      clear cp
      rcases hP with ⟨v, hv, rfl⟩ | ⟨hv, x, q, rfl⟩
      · have hvl := numB_le hv
        have hw32 : IntKind.u32.wrap (v : Int) = v := by rw [IntKind.wrap_u32]; omega
        go_wp2
        go_ret3
        exact ⟨no_some (by rw [HN.out, hv]; rfl), hb1⟩
      · go_wp2
        go_quiet (fail)
        go_wp2
        go_ret3
        exact ⟨no_none (by rw [HN.out, hv]; rfl), below_drewN hb1 _⟩
  · have hX : isX s.data.toList = false := by rw [HX.out]; simpa using hx
    have hx1 : x1 = false := by cases x1 <;> simp_all
    have hx2 : x2 = false := by cases x2 <;> simp_all
    subst hx1 hx2
    obtain ⟨c, hc⟩ : ∃ c, s[0] = c := ⟨_, rfl⟩
    have HH : Hid (s.data.toList.head? = some c) := by show _ = _; rw [List.head?_eq_getElem?, snoc_all s 0 h0, hc]
    have hix : ∀ w, (Instr.index 9 (.string s) (.int .i64 0)).run Tryz.prog w = .ok (.int .u8 (c.toNat : Int)) w := fun w => by
      rw [← hc]; exact index_at s 0 0 w h0 rfl
    have h0' : (0 : Int) < s.size := by omega
    clear hc HX HS hx
    by_cases hz : c = 48 ∧ 1 < s.size
    · have HN : Hid (numL s.data.toList = none) := by
        show numL _ = _
        unfold numL
        rw [if_neg (by rw [hX]; decide), if_pos ⟨by rw [HH.out, hz.1], by rw [HL.out]; exact hz.2⟩]
      obtain ⟨rfl, hz2⟩ := hz
      have hz2' : (1 : Int) < s.size := by omega
      have hix' : ∀ w, (Instr.index 9 (.string s) (.int .i64 0)).run Tryz.prog w = .ok (.int .u8 48) w := hix
      clear hix hX
      go_enter Tryz.func113, Tryz.ntmps113
      go_wp2_with (first
        | (go_at_call 108; refine (c1 _).mono ?_; rintro e w' ⟨rfl, rfl⟩)
        | (go_at_call 108; refine (c2 _).mono ?_; rintro e w' ⟨rfl, rfl⟩))
      go_quiet (fail)
      go_wp2
      go_ret3
      exact ⟨no_none HN.out, below_drewN (Below.refl _ _) _⟩
    · have HN : Hid (numL s.data.toList = (numB 10 s.data.toList).map (·, false)) := by
        show numL _ = _
        unfold numL
        rw [if_neg (by rw [hX]; decide), if_neg (by rw [HH.out, HL.out]; exact fun h => hz ⟨Option.some.inj h.1, h.2⟩)]
      have cp := parse_any B p 10 (Or.inl rfl) s hs w hE
      have hz' : ((c.toNat : Int) == 48) = false ∨ (c = 48 ∧ ¬ (1 : Int) < s.size) := by
        by_cases e : c = 48
        · exact Or.inr ⟨e, by have : ¬ 1 < s.size := fun h => hz ⟨e, h⟩
                              omega⟩
        · exact Or.inl (by rw [beq_eq_false_iff_ne]; intro e2; exact e (UInt8.toNat_inj.1 (by show c.toNat = 48; omega)))
      clear hX hz
      rcases hz' with hz1 | ⟨rfl, hz2⟩
      · go_enter Tryz.func113, Tryz.ntmps113
        go_wp2_with (first
          | (go_at_call 108; refine (c1 _).mono ?_; rintro e w' ⟨rfl, rfl⟩)
          | (go_at_call 108; refine (c2 _).mono ?_; rintro e w' ⟨rfl, rfl⟩))
        refine cp.mono ?_
        rintro e w1 ⟨hP, hb1⟩
        have hen1 := (hE.below (hb1.mono hE.size)).number
        clear cp
        rcases hP with ⟨v, hv, rfl⟩ | ⟨hv, x, q, rfl⟩
        · have hvl := numB_le hv
          have hw32 : IntKind.u32.wrap (v : Int) = v := by rw [IntKind.wrap_u32]; omega
          go_wp2
          go_ret3
          exact ⟨no_some (by rw [HN.out, hv]; rfl), hb1⟩
        · go_wp2
          go_quiet (fail)
          go_wp2
          go_ret3
          exact ⟨no_none (by rw [HN.out, hv]; rfl), below_drewN hb1 _⟩
      · have hix' : ∀ w, (Instr.index 9 (.string s) (.int .i64 0)).run Tryz.prog w = .ok (.int .u8 48) w := hix
        clear hix
        go_enter Tryz.func113, Tryz.ntmps113
        go_wp2_with (first
          | (go_at_call 108; refine (c1 _).mono ?_; rintro e w' ⟨rfl, rfl⟩)
          | (go_at_call 108; refine (c2 _).mono ?_; rintro e w' ⟨rfl, rfl⟩))
        refine cp.mono ?_
        rintro e w1 ⟨hP, hb1⟩
        have hen1 := (hE.below (hb1.mono hE.size)).number
        clear cp
        rcases hP with ⟨v, hv, rfl⟩ | ⟨hv, x, q, rfl⟩
        · have hvl := numB_le hv
          have hw32 : IntKind.u32.wrap (v : Int) = v := by rw [IntKind.wrap_u32]; omega
          go_wp2
          go_ret3
          exact ⟨no_some (by rw [HN.out, hv]; rfl), hb1⟩
        · go_wp2
          go_quiet (fail)
          go_wp2
          go_ret3
          exact ⟨no_none (by rw [HN.out, hv]; rfl), below_drewN hb1 _⟩
end Go.Proofs.YtlbgppijeoonjaaGreatDoor

namespace Go.Proofs.YtlbgppijeoonjaaGreatDoor
open Go.RowKit
set_option linter.unusedVariables false

def numT (l : List UInt8) : TR := match numL (l.take (wlen l)) with | none => .bad 21 0 | some (v, h) => .ok ⟨2, [], v, h⟩ (wlen l)
set_option maxHeartbeats 2000000 in
set_option maxRecDepth 100000 in
theorem number_any (B r off : Nat) (p : Nat → Addr) (s : ByteArray) (w : World) (hE : Env B p w) (h : Sc w r s off) (hr : B ≤ r) (ho : off ≤ s.size) (hw : 0 < wlen (s.data.toList.drop off)) (hs : s.size < 4294967281) :
    Calls Tryz.prog 99 #[.pointer (some ⟨r, 0, none⟩)] w fun e w' => TokPost p w r s off (numT (s.data.toList.drop off)) e w' := by
  obtain ⟨x, hx⟩ : ∃ x, x = numT (s.data.toList.drop off) := ⟨_, rfl⟩
  rw [← hx]
  have hrl := Sc4.lt h
  have hBs := hE.size
  have hwl := wlen_le (s.data.toList.drop off)
  rw [List.length_drop, len_all] at hwl
  have cw := fun w => wordLength_any (rst s off) w (by rw [rst_size]; omega)
  rw [rst_list] at cw
  have hsl : ∀ w, (Instr.slice 9 (.string (rst s off)) none (some (.int .i64 (wlen (s.data.toList.drop off) : Int))) none).run Tryz.prog w = .ok (.string ⟨((s.data.toList.drop off).take (wlen (s.data.toList.drop off))).toArray⟩) w := fun w => by
    have h1 : (0 : Int) ≤ (wlen (s.data.toList.drop off) : Int) ∧ (wlen (s.data.toList.drop off) : Int) ≤ (rst s off).size := by rw [rst_size]; omega
    rw [run_slice_string_to_if w _ _ _ _ Tryz.underlying9, if_pos h1]
    rw [same_bytes _ ((rst s off).extract 0 (wlen (s.data.toList.drop off) : Int).toNat) (by rw [Lib.extract_data, rst_list]; simp)]
  have htl : ((s.data.toList.drop off).take (wlen (s.data.toList.drop off))).length = wlen (s.data.toList.drop off) := by rw [List.length_take, List.length_drop, len_all]; omega
  have HX : Hid (x = match numL ((s.data.toList.drop off).take (wlen (s.data.toList.drop off))) with | none => .bad 21 0 | some (v, h) => .ok ⟨2, [], v, h⟩ (wlen (s.data.toList.drop off))) := hx
  clear hx
  generalize (s.data.toList.drop off).take (wlen (s.data.toList.drop off)) = tx at *
  generalize wlen (s.data.toList.drop off) = n at *
  have hE1 : ∀ {w1 : World}, Below (w.alloc (.cells zero7 57)).heap.size (w.alloc (.cells zero7 57)) w1 → Env B p w1 := fun hb => hE.below ((below_two _ hb).mono hBs)
  have hsz : (⟨tx.toArray⟩ : ByteArray).size = n := by show tx.toArray.size = n; rw [List.size_toArray, htl]
  clear htl
  go_enter Tryz.func99, Tryz.ntmps99
  go_wp2_with fail
  refine (rest_any r off _ _ s _ (Sc4.alloc h _) ho hs).mono ?_
  rintro e w1 ⟨rfl, hb1⟩
  have hS1 : Sc w1 r s off := Sc4.below (Sc4.alloc h _) hb1
  have hv1 := var_in w hb1
  have hb1' := below_two _ hb1
  have hs1 := hb1.size
  simp only [World.size_alloc] at hs1
  go_wp2_with (first
    | (go_at_call 111; refine (cw _).mono ?_; rintro e w2 ⟨rfl, rfl⟩))
  refine (rest_any r off _ _ s _ hS1 ho hs).mono ?_
  rintro e w2 ⟨rfl, hb2⟩
  have hS2 : Sc w2 r s off := Sc4.below hS1 hb2
  have hv2 : w2.heap[w.heap.size]? = _ := (hb2.block _ (heap_lt hv1)).trans hv1
  have hb2' := hb1'.trans (hb2.mono (by omega))
  have hs2 := hb2.size
  have hE2 : Env B p w2 := hE.below (hb2'.mono hBs)
  have cn := numberOf_any B p ⟨tx.toArray⟩ (by rw [hsz]; omega) (by rw [hsz]; exact hw) w2 hE2
  go_wp2_with fail
  refine cn.mono ?_
  rintro e w3 ⟨hP, hb3⟩
  have hS3 : Sc w3 r s off := Sc4.below hS2 hb3
  have hv3 : w3.heap[w.heap.size]? = _ := (hb3.block _ (heap_lt hv2)).trans hv2
  have hb3' := hb2'.trans (hb3.mono (by omega))
  have hs3 := hb3.size
  clear hb1 hb1' hb2 hb2' hv1 hv2 hS1 hS2 cn hE2
  unfold NoPost at hP
  have HX' : Hid (x = match numL tx with | none => .bad 21 0 | some (v, h) => .ok ⟨2, [], v, h⟩ n) := HX
  clear HX
  change (match numL tx with | some (v, h) => _ | none => _) at hP
  generalize numL tx = nl at *
  cases nl with
  | none =>
    have hP' : e = .returned (.tuple #[.int .u32 0, .bool false, .iface 224 (.pointer (some (p 21)))]) := hP
    subst hP'
    go_wp2_with fail
    refine (wrong_any r off s 0 _ hS3 (by omega) (fun i hi => absurd hi (Nat.not_lt_zero _)) _ _).mono ?_
    rintro e w4 ⟨q, rfl, hq, hErr, hb4⟩
    have hv4 : w4.heap[w.heap.size]? = _ := (hb4.block _ (heap_lt hv3)).trans hv3
    obtain ⟨y0, y1, y2, y3, y4, y5, y6, f⟩ := varF hv4
    have hg4 : w.grownBy w4 (some r) := grown_of_below (hb3'.trans (hb4.mono (by omega)))
    clear hv3 hS3 hb3 hb3'
    go_wp2
    rw [show x = .bad 21 0 from HX'.out]
    exact fin_bad Tryz.results99 p w w4 r s off 21 0 q _ hv4 hg4 (by omega) hErr rfl rfl
  | some vh =>
    obtain ⟨v, hx⟩ := vh
    have hP' : e = .returned (.tuple #[.int .u32 (v : Int), .bool hx, .nilIface]) := hP
    subst hP'
    have ct := take_any r off s n ⟨2, [], v, hx⟩ _ hS3 (by omega) hs
    unfold tkV tkC at ct
    simp only at ct
    go_wp2_with fail
    refine ct.mono ?_
    rintro e w4 ⟨rfl, hS4, hg4⟩
    have hv4 := var_grown hv3 hg4 (by omega)
    obtain ⟨y0, y1, y2, y3, y4, y5, y6, f⟩ := varF hv4
    have hg5 : w.grownBy w4 (some r) := grown_trans (grown_of_below hb3') hg4
    clear ct hv3 hS3 hb3 hb3'
    go_wp2
    rw [show x = .ok ⟨2, [], v, hx⟩ n from HX'.out]
    exact fin_ok Tryz.results99 p w w4 r s off n ⟨2, [], v, hx⟩ _ hv4 hg5 hrl hS4 rfl rfl
end Go.Proofs.YtlbgppijeoonjaaGreatDoor

