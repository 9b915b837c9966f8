import Derived.Test.YtlbkbnhnklaebaaRlr
import Derived.Laws.AppendOwnNone
namespace Go.Proofs.Ytlbkbnhnklaebaa
open Go.RowKit
set_option linter.unusedVariables false
set_option linter.unusedSimpArgs false

/-! ### RingFirst -/
theorem RrI.pre {W wr w' : World} {room : Nat} {vp v' : Value} {ps : List Int} {hi : Nat} {l : List Value} {x : Int} {O : Obj} (h : RrI W wr room vp ps hi l) (hp : w'.ownsRow (W.heap.size + 2) 3 1 v' (1 + ps.length) ([I x] ++ (ps.map fun x => I x))) (hg : (wr.alloc O).grownBy w' (some wr.heap.size)) : RrI W w' room v' (x :: ps) hi l := by
  have hs := h.s
  have hf : Fx [] wr w' := ((Fx.refl _ wr).alloc O).grown hg (fun g e => .inr (by cases e; exact Nat.le_refl _))
  refine ⟨h.q.kept hf (by simp) (by simp), by
    have e : (x :: ps).length = 1 + ps.length := by simp; omega
    rw [e]; simpa using hp, h.b.trans (hf.below (by omega) (by simp)), Nat.le_trans hs hf.size⟩
theorem own_two {w : World} {b : Nat} {E : TypeId} {u : Value} {l : List Int} (h : w.ownsRow b E 1 u l.length (l.map fun x => I x)) : (u = .slice none 0 0 ∧ l = []) ∨ ∃ g c, u = .slice (some ⟨g, 0, none⟩) l.length c ∧ ∀ j v, (l.map fun x => I x)[j]? = some v → w.cell? ((⟨g, 0, none⟩ : Addr).add j) = some v := by
  rcases h.2 with ⟨h1, h0⟩ | ⟨g, cap, cur, h1, _⟩
  · exact .inl ⟨h1, List.eq_nil_of_length_eq_zero h0⟩
  · exact .inr ⟨g, cap, h1, h.cells (by rw [h1]; rfl)⟩
set_option maxHeartbeats 8000000 in
set_option maxRecDepth 100000 in
theorem first_any (W : World) (room : Nat) (hr : room < 256) (s1 : Sl) (ts : List Int) (h1 : RowsAt W 1 intP s1 ts) (hl1 : ts.length ≤ 17592186043904) (s2 : Sl) (ah : List Int) (h2 : RowsAt W 1 intP s2 ah) (hl2 : ah.length ≤ 17592186043904) :
    Calls Try.prog 4 #[.int .u8 room, .slice s1.a s1.n s1.c, .slice s2.a s2.n s2.c] W fun e w' => e = .returned (.bool true) ∧ Below W.heap.size W w' := by
  obtain ⟨i0, hi0, hz0, hz1, hz2⟩ := info_parts iinfo
  obtain ⟨a1, n1, c1⟩ := s1
  obtain ⟨a2, n2, c2⟩ := s2
  have hn1 := h1.n
  have hn2 := h2.n
  simp only at hn1 hn2
  subst hn1
  subst hn2
  have h0 := iNewQ W room (by omega)
  go_enter Try.func4, Try.ntmps4
  go_wp2_with (first
    | (go_at_call 10; refine (num_any _ (by decide) _).mono ?_; rintro e w9 ⟨rfl, rfl⟩)
    | (go_at_call 9; refine h0.mono ?_; clear h0; rintro e w1 ⟨rfl, hq1, b1⟩))
  have HJ0 : Hid (RrI W w1 room (.slice none 0 0) [] 0 []) := ⟨hq1, World.ownsRow_nil _ _ _ _, b1, by have := hq1.lts; omega⟩
  clear hq1 b1
  go_loopw [9, 10] (fun vp vi wr => ∃ (i : Nat) (ps : List Int) (u : Value), u = vp ∧ i ≤ ts.length ∧ ps.length ≤ i ∧ ps.length ≤ room ∧ (ps.length < room → ps.length = i) ∧ vi = .int .i64 i ∧ Hid (RrI W wr room u ps ps.length (ps.map fun x => I x))) (fun _ vi _ => ts.length - (intOf vi).toNat)
  case atStart => exact ⟨0, [], _, rfl, by omega, by simp, by simp, fun _ => rfl, rfl, HJ0.out⟩
  case round =>
    clear HJ0
    obtain ⟨i, ps, vp, rfl, hi1, hpi, hpr, hpe, rfl, HJ⟩ := hrel
    have HPE : Hid (ps.length < room → ps.length = i) := hpe
    clear hpe
    by_cases hlt : i < ts.length
    · have hltI : (i : Int) < ts.length := by omega
      obtain ⟨x, hx⟩ : ∃ x, ts[i]? = some x := ⟨_, List.getElem?_eq_getElem hlt⟩
      obtain ⟨g1, off1, rfl, hcl⟩ := h1.cell HJ.out.b hx
      have HX : Hid (∀ Z, Below W.heap.size W Z → Z.cell? ⟨g1, off1 + i, none⟩ = some (I x)) := fun Z hZ => by
        obtain ⟨g2, off2, e2, hc2⟩ := h1.cell hZ hx
        obtain ⟨u, hu, e, _⟩ := hc2 0 (by omega)
        cases e2
        subst e
        simpa using hu
      clear hcl
      have x0 := HX.out wr HJ.out.b
      by_cases hfull : ps.length < room
      · have HM : Hid (max ps.length ((ps.map fun x => I x).length + 1) = (ps ++ [x]).length) := by show _ = _; simp
        have HE : Hid ((ps.map fun x => I x) ++ [I x] = (ps ++ [x]).map fun x => I x) := by show _ = _; simp
        have hlen : (ps.map fun x => I x).length < room := by simpa using hfull
        have HN := HPE.out hfull
        have HN2 : Hid (ps.length = i) := HN
        clear HN HPE
        go_wp2_with (first
            | (go_at_call 10; refine (num_any _ (by decide) _).mono ?_; rintro e w9 ⟨rfl, rfl⟩)
            | (go_at_call 11; refine (iLastQ HJ.out.q hlen _).mono ?_; rintro e w2 ⟨rfl, hq2, f2⟩; rw [HM.out, HE.out] at hq2; have J2 := HJ.out.call hq2 f2; have x2 := HX.out w2 J2.b; have hO2 := J2.p.alloc (.cells #[I x] 3); have hs2 := J2.s; clear HJ hq2 f2)
            | (at_builtin; refine wpList_append_own _ rfl (.tmp 37) (.tmp 42) 22 rfl (W.heap.size + 2) 3 i0 (.int .i64 0) 1 8 Try.underlying22 hi0 hz0 hz1 hz2 rfl (by decide) _ _ _ rfl hO2 ⟨w2.heap.size, 0, none⟩ 1 1 [I x] rfl rfl (cell_one_new _ _ _) (by intro u hu; simp at hu; subst hu; rfl) (by unfold maxLen; omega) (by omega) (by simp; omega) ?_; intro v6 w6 h6 hg6 _; have J6 := (J2.app h6 hg6); clear h6 hg6 hO2 J2))
        have H9 := J6
        clear J6
        go_roundw
        case rel => exact ⟨i + 1, ps ++ [x], _, rfl, by omega, by simp <;> omega, by simp <;> omega, fun _ => by have := HN2.out; simp <;> omega, by go_num, H9⟩
        case measure => simp [intOf]; omega
      · have hlen : (ps.map fun x => I x).length = room := by simp; omega
        go_wp2_with (first
            | (go_at_call 10; refine (num_any _ (by decide) _).mono ?_; rintro e w9 ⟨rfl, rfl⟩)
            | (go_at_call 11; refine (iLastF HJ.out.q hlen _).mono ?_; rintro e w2 ⟨rfl, hq2, f2⟩; have J2 := HJ.out.call hq2 (Fx.of_below f2); clear HJ hq2 f2))
        have H9 := J2
        clear J2
        go_roundw
        case rel => exact ⟨i + 1, ps, _, rfl, by omega, by omega, by omega, fun h => by omega, by go_num, H9⟩
        case measure => simp [intOf]; omega
    · obtain rfl : i = ts.length := by omega
      have hge : ¬ ((ts.length : Int) < ts.length) := by omega
      go_upto_region 11 with fail
      go_loopw [9, 11] (fun vp vi wr => ∃ (j : Nat) (ps : List Int) (u : Value), u = vp ∧ j ≤ ah.length ∧ ps.length ≤ room ∧ ps.length ≤ ts.length + j ∧ (ps.length < room → ps.length = ts.length + j) ∧ vi = .int .i64 j ∧ Hid (RrI W wr room u ps ps.length (ps.map fun x => I x))) (fun _ vi _ => ah.length - (intOf vi).toNat)
      case atStart => exact ⟨0, ps, _, rfl, by omega, hpr, by omega, HPE.out, rfl, HJ.out⟩
      case round =>
        clear HJ HPE hpi hpr
        obtain ⟨j, ps, vp, rfl, hj1, hpr, hpi, hpe, rfl, HJ⟩ := hrel
        have HPE : Hid (ps.length < room → ps.length = ts.length + j) := hpe
        clear hpe
        by_cases hlt : j < ah.length
        · have hltI : (j : Int) < ah.length := by omega
          obtain ⟨x, hx⟩ : ∃ x, ah[j]? = some x := ⟨_, List.getElem?_eq_getElem hlt⟩
          obtain ⟨g1, off1, rfl, hcl⟩ := h2.cell HJ.out.b hx
          have HX : Hid (∀ Z, Below W.heap.size W Z → Z.cell? ⟨g1, off1 + j, none⟩ = some (I x)) := fun Z hZ => by
            obtain ⟨g2, off2, e2, hc2⟩ := h2.cell hZ hx
            obtain ⟨u, hu, e, _⟩ := hc2 0 (by omega)
            cases e2
            subst e
            simpa using hu
          clear hcl
          have x0 := HX.out wr HJ.out.b
          by_cases hfull : ps.length < room
          · have HM : Hid (max ps.length ((ps.map fun x => I x).length + 1) = (x :: ps).length) := by show _ = _; simp
            have hlen : (ps.map fun x => I x).length < room := by simpa using hfull
            have HN := HPE.out hfull
            have HN2 : Hid (ps.length = ts.length + j) := HN
            clear HN HPE
            rcases own_two HJ.out.p with ⟨rfl, rfl⟩ | ⟨gp, cp, rfl, -⟩
            · go_wp2_with (first
                  | (go_at_call 10; refine (num_any _ (by decide) _).mono ?_; rintro e w9 ⟨rfl, rfl⟩)
                  | (go_at_call 15; refine (iFirstQ HJ.out.q hlen _).mono ?_; rintro e w2 ⟨rfl, hq2, f2⟩; rw [HM.out] at hq2; have J2 := HJ.out.call hq2 f2; have x2 := HX.out w2 J2.b; have hs2 := J2.s; have hO2 := World.ownsRow_lit (base := W.heap.size + 2) (e := 3) (size := 1) w2 #[I x] 1 (by omega) (by decide) rfl; clear HJ hq2 f2)
                  | (at_builtin; refine wpList_append_own_none rfl (.tmp 62) (.tmp 63) 22 rfl (W.heap.size + 2) 3 i0 1 Try.underlying22 hi0 _ 1 _ rfl hO2 rfl ?_; have J6 := (J2.pre (x := x) (by simpa using hO2) (grown_refl _ _)); clear hO2 J2))
              have H9 := J6
              clear J6
              go_roundw
              case rel => exact ⟨j + 1, x :: [], _, rfl, by omega, by simp <;> omega, by simp <;> omega, fun _ => by have := HN2.out; simp at * <;> omega, by go_num, H9⟩
              case measure => simp [intOf]; omega
            · go_wp2_with (first
                  | (go_at_call 10; refine (num_any _ (by decide) _).mono ?_; rintro e w9 ⟨rfl, rfl⟩)
                  | (go_at_call 15; refine (iFirstQ HJ.out.q hlen _).mono ?_; rintro e w2 ⟨rfl, hq2, f2⟩; rw [HM.out] at hq2; have J2 := HJ.out.call hq2 f2; have x2 := HX.out w2 J2.b; have hs2 := J2.s; have hO2 := World.ownsRow_lit (base := W.heap.size + 2) (e := 3) (size := 1) w2 #[I x] 1 (by omega) (by decide) rfl; clear HJ hq2 f2)
                  | (at_builtin; refine wpList_append_own _ rfl (.tmp 62) (.tmp 63) 22 rfl (W.heap.size + 2) 3 i0 (.int .i64 0) 1 8 Try.underlying22 hi0 hz0 hz1 hz2 rfl (by decide) _ 1 _ rfl hO2 ⟨gp, 0, none⟩ ps.length cp (ps.map fun x => I x) rfl (by simp) ((J2.p.alloc _).cells rfl) (by intro u hu; simp at hu; obtain ⟨_, _, rfl⟩ := hu; rfl) (by unfold maxLen; omega) (by omega) (by simp; omega) ?_; intro v6 w6 h6 hg6 _; have J6 := (J2.pre h6 hg6); clear h6 hg6 hO2 J2))
              have H9 := J6
              clear J6
              go_roundw
              case rel => exact ⟨j + 1, x :: ps, _, rfl, by omega, by simp <;> omega, by simp <;> omega, fun _ => by have := HN2.out; simp at * <;> omega, by go_num, H9⟩
              case measure => simp [intOf]; omega
          · have hlen : (ps.map fun x => I x).length = room := by simp; omega
            go_wp2_with (first
                | (go_at_call 10; refine (num_any _ (by decide) _).mono ?_; rintro e w9 ⟨rfl, rfl⟩)
                | (go_at_call 15; refine (iFirstF HJ.out.q hlen _).mono ?_; rintro e w2 ⟨rfl, hq2, f2⟩; have J2 := HJ.out.call hq2 (Fx.of_below f2); clear HJ hq2 f2))
            have H9 := J2
            clear J2
            go_roundw
            case rel => exact ⟨j + 1, ps, _, rfl, by omega, by omega, by omega, fun h => by omega, by go_num, H9⟩
            case measure => simp [intOf]; omega
        · obtain rfl : j = ah.length := by omega
          have hge2 : ¬ ((ah.length : Int) < ah.length) := by omega
          obtain ⟨va, vc, rfl⟩ := own_slice HJ.out.p
          have hq0 := HJ.out.q
          have hLen := iLenQ hq0
          rw [List.length_map] at hLen
          have hHigh := iHighQ hq0
          clear hq0
          have hg1 : ¬ (room : Int) < ps.length := by omega
          by_cases hfull : ps.length < room
          · have hg2 : (ps.length : Int) < room := by omega
            have hEq : (ts.length : Int) + (ah.length : Int) = (ps.length : Int) := by have := HPE.out hfull; omega
            clear HPE
            go_upto_region 18 with (first | (go_at_call 13; refine hLen.mono ?_; rintro e w7 ⟨rfl, rfl⟩) | (go_at_call 16; refine hHigh.mono ?_; rintro e w7 ⟨rfl, rfl⟩))
            clear hLen hHigh
            try clear hEq
            simp only [show decide (room < ps.length) = false from decide_eq_false (by omega)]
            go_loopw [12] (fun vk wr => ∃ (k hi : Nat), k ≤ ps.length ∧ vk = .int .i64 k ∧ Hid (RrI W wr room (.slice va ps.length vc) ps hi ((ps.drop k).map fun x => I x))) (fun vk _ => ps.length - (intOf vk).toNat)
            case atStart => exact ⟨0, _, by omega, rfl, HJ.out⟩
            case round =>
              clear HJ
              obtain ⟨k, hi, hk, rfl, HJ⟩ := hrel
              by_cases hne : k < ps.length
              · obtain ⟨y, hy⟩ : ∃ y, ps[k]? = some y := ⟨_, List.getElem?_eq_getElem hne⟩
                have HE : Hid (((ps.drop k).map fun x => I x) = I y :: (ps.drop (k + 1)).map fun x => I x) := by
                  show _ = _
                  have e9 : ps[k] = y := by rw [List.getElem?_eq_getElem hne] at hy; exact Option.some.inj hy
                  have := drop_cons hne
                  rw [e9] at this
                  rw [this]; simp
                obtain ⟨gp, cp, e5, hcp⟩ := own_at HJ.out.p hy
                cases e5
                have ho2 : (k : Int) < ps.length := by omega
                have J2 := HE.out ▸ HJ.out
                clear HJ
                go_wp2_with (first
                  | (go_at_call 10; refine (num_any _ (by decide) _).mono ?_; rintro e w9 ⟨rfl, rfl⟩)
                  | (go_at_call 12; refine (iTakeQ y J2.q).mono ?_; rintro e w7 ⟨rfl, hq7, f7⟩; have J7 := J2.call hq7 f7; have c7 : w7.cell? ⟨gp, k, none⟩ = some (I y) := f7.cell hcp (by have := (J2.p.lt gp rfl).1; simp; omega); clear J2 hq7 f7 hcp))
                have H9 := J7
                clear J7
                go_roundw
                case rel => exact ⟨k + 1, _, by omega, by go_num, H9⟩
                case measure => simp [intOf]; omega
              · have ho2 : ¬ (k : Int) < ps.length := by omega
                have J2 := HJ.out
                go_wp2_with (first
                  | (go_at_call 14; refine (alive_any _).mono ?_; rintro e w8 ⟨rfl, b8⟩))
                go_ret
                exact ⟨rfl, J2.b.trans (b8.mono J2.b.size)⟩
          · have hg2 : ¬ (ps.length : Int) < room := by omega
            clear HPE
            go_upto_region 18 with (first | (go_at_call 13; refine hLen.mono ?_; rintro e w7 ⟨rfl, rfl⟩) | (go_at_call 16; refine hHigh.mono ?_; rintro e w7 ⟨rfl, rfl⟩))
            clear hLen hHigh
            try clear hEq
            simp only [show decide (room < ps.length) = false from decide_eq_false (by omega)]
            go_loopw [12] (fun vk wr => ∃ (k hi : Nat), k ≤ ps.length ∧ vk = .int .i64 k ∧ Hid (RrI W wr room (.slice va ps.length vc) ps hi ((ps.drop k).map fun x => I x))) (fun vk _ => ps.length - (intOf vk).toNat)
            case atStart => exact ⟨0, _, by omega, rfl, HJ.out⟩
            case round =>
              clear HJ
              obtain ⟨k, hi, hk, rfl, HJ⟩ := hrel
              by_cases hne : k < ps.length
              · obtain ⟨y, hy⟩ : ∃ y, ps[k]? = some y := ⟨_, List.getElem?_eq_getElem hne⟩
                have HE : Hid (((ps.drop k).map fun x => I x) = I y :: (ps.drop (k + 1)).map fun x => I x) := by
                  show _ = _
                  have e9 : ps[k] = y := by rw [List.getElem?_eq_getElem hne] at hy; exact Option.some.inj hy
                  have := drop_cons hne
                  rw [e9] at this
                  rw [this]; simp
                obtain ⟨gp, cp, e5, hcp⟩ := own_at HJ.out.p hy
                cases e5
                have ho2 : (k : Int) < ps.length := by omega
                have J2 := HE.out ▸ HJ.out
                clear HJ
                go_wp2_with (first
                  | (go_at_call 10; refine (num_any _ (by decide) _).mono ?_; rintro e w9 ⟨rfl, rfl⟩)
                  | (go_at_call 12; refine (iTakeQ y J2.q).mono ?_; rintro e w7 ⟨rfl, hq7, f7⟩; have J7 := J2.call hq7 f7; have c7 : w7.cell? ⟨gp, k, none⟩ = some (I y) := f7.cell hcp (by have := (J2.p.lt gp rfl).1; simp; omega); clear J2 hq7 f7 hcp))
                have H9 := J7
                clear J7
                go_roundw
                case rel => exact ⟨k + 1, _, by omega, by go_num, H9⟩
                case measure => simp [intOf]; omega
              · have ho2 : ¬ (k : Int) < ps.length := by omega
                have J2 := HJ.out
                go_wp2_with (first
                  | (go_at_call 14; refine (alive_any _).mono ?_; rintro e w8 ⟨rfl, b8⟩))
                go_ret
                exact ⟨rfl, J2.b.trans (b8.mono J2.b.size)⟩
end Go.Proofs.Ytlbkbnhnklaebaa
