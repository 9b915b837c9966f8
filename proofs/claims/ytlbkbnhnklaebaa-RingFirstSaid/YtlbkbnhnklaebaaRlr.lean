import Derived.Test.YtlbkbnhnklaebaaRop
import Derived.Test.YtlbkbnhnklaebaaRal
import Derived.Maps.AppendAt
import Derived.Deep.Cut
namespace Go.Proofs.Ytlbkbnhnklaebaa
open Go.RowKit
set_option linter.unusedVariables false
set_option linter.unusedSimpArgs false

/-! ### RingRow -/
structure RrI (W wr : World) (room : Nat) (vp : Value) (ps : List Int) (hi : Nat) (l : List Value) : Prop where
  q : iQ wr (W.heap.size + 1) W.heap.size room hi l
  p : wr.ownsRow (W.heap.size + 2) 3 1 vp ps.length (ps.map fun x => I x)
  b : Below W.heap.size W wr
  s : W.heap.size + 2 ≤ wr.heap.size
theorem RrI.call {W wr w' : World} {room : Nat} {vp : Value} {ps : List Int} {hi hi' : Nat} {l l' : List Value} (h : RrI W wr room vp ps hi l) (hq : iQ w' (W.heap.size + 1) W.heap.size room hi' l') (hf : Fx [W.heap.size + 1, W.heap.size] wr w') : RrI W w' room vp ps hi' l' :=
  ⟨hq, hf.own h.p (fun g hg => by have := (h.p.lt g hg).1; simp; omega), h.b.trans (hf.below (by have := h.s; omega) (by simp)), Nat.le_trans h.s hf.size⟩
theorem RrI.app {W wr w' : World} {room : Nat} {vp v' : Value} {ps : List Int} {hi : Nat} {l : List Value} {x : Int} {O : Obj} (h : RrI W wr room vp ps hi l) (hp : w'.ownsRow (W.heap.size + 2) 3 1 v' (ps.length + 1) ((ps.map fun x => I x) ++ [I x])) (hg : (wr.alloc O).grownBy w' vp.ownBlock) : RrI W w' room v' (ps ++ [x]) hi l := by
  have hs := h.s
  have hf : Fx (vp.ownBlock.toList) wr w' := ((Fx.refl _ wr).alloc O).grown hg (fun g e => .inl (by simp [e]))
  have hn : ∀ x ∈ vp.ownBlock.toList, W.heap.size + 2 ≤ x := fun x hx => (h.p.lt x (by simpa using hx)).1
  refine ⟨h.q.kept hf (fun e => by have := hn _ e; omega) (fun e => by have := hn _ e; omega), by simpa using hp, h.b.trans (hf.below (by omega) (fun x hx => by have := hn x hx; omega)), Nat.le_trans hs hf.size⟩
theorem own_slice {w : World} {b n : Nat} {E : TypeId} {u : Value} {xs : List Value} (h : w.ownsRow b E 1 u n xs) : ∃ a c, u = .slice a n c := by
  rcases h.2 with ⟨rfl, rfl⟩ | ⟨g, cap, cur, rfl, _⟩
  · exact ⟨none, 0, rfl⟩
  · exact ⟨some ⟨g, 0, none⟩, cap, rfl⟩
/-- a place of a row of one's own -/
theorem own_at {w : World} {b : Nat} {E : TypeId} {u : Value} {l : List Int} (h : w.ownsRow b E 1 u l.length (l.map fun x => I x)) {j : Nat} {x : Int} (hj : l[j]? = some x) : ∃ g c, u = .slice (some ⟨g, 0, none⟩) l.length c ∧ w.cell? ⟨g, j, none⟩ = some (I x) := by
  have hjl := (List.getElem?_eq_some_iff.1 hj).1
  rcases h.2 with ⟨rfl, h0⟩ | ⟨g, cap, cur, rfl, _⟩
  · omega
  · refine ⟨g, cap, rfl, ?_⟩
    rw [h.cellAt j (by omega), List.getElem?_map, hj]
    rfl
theorem drop_cons {α : Type} {l : List α} {o : Nat} (h : o < l.length) : l.drop o = l[o] :: l.drop (o + 1) := List.drop_eq_getElem_cons h
set_option maxHeartbeats 8000000 in
set_option maxRecDepth 100000 in
theorem row_any (W : World) (room : Nat) (hr : room < 256) (s1 s2 : Sl) (ts : List Int) (tk : List Bool) (h1 : RowsAt W 1 intP s1 ts) (hl1 : ts.length ≤ 17592186043904) (h2 : RowsAt W 1 boolP s2 tk) :
    Calls Try.prog 3 #[.int .u8 room, .slice s1.a s1.n s1.c, .slice s2.a s2.n s2.c] W fun e w' => e = .returned (.bool true) ∧ Below W.heap.size W w' := by
  obtain ⟨i0, hi0, hz0, hz1, hz2⟩ := info_parts iinfo
  obtain ⟨a1, n1, c1⟩ := s1
  obtain ⟨a2, n2, c2⟩ := s2
  have hn1 := h1.n
  have hn2 := h2.n
  have hm2 : n2 ≤ maxLen := Nat.le_trans h2.c h2.m
  unfold maxLen at hm2
  simp only at hn1 hn2
  subst hn1
  subst hn2
  have h0 := iNewQ W room (by omega)
  have HB : ∀ i : Nat, i = room → ((room : Int) == (i : Int)) = true := fun i e => by simp [e]
  clear HB
  go_enter Try.func3, Try.ntmps3
  go_wp2_with (first
    | (go_at_call 10; refine (num_any _ (by decide) _).mono ?_; rintro e w9 ⟨rfl, rfl⟩)
    | (go_at_call 9; refine h0.mono ?_; clear h0; rintro e w1 ⟨rfl, hq1, b1⟩))
  have HJ0 : Hid (RrI W w1 room (.slice none 0 0) [] 0 []) := ⟨hq1, World.ownsRow_nil _ _ _ _, b1, by have := hq1.lts; omega⟩
  clear hq1 b1
  go_loopw [9, 10, 11, 12] (fun vin vout vp vi wr => ∃ (i : Nat) (ps : List Int) (o hi : Nat) (u : Value), u = vp ∧ i ≤ ts.length ∧ ps.length ≤ i ∧ o ≤ ps.length ∧ vin = .int .i64 ps.length ∧ vout = .int .i64 o ∧ vi = .int .i64 i ∧ Hid (RrI W wr room u ps hi ((ps.drop o).map fun x => I x))) (fun _ _ _ vi _ => ts.length - (intOf vi).toNat)
  case atStart => exact ⟨0, [], 0, 0, _, rfl, by omega, by simp, by simp, rfl, rfl, rfl, HJ0.out⟩
  case round =>
    clear HJ0
    obtain ⟨i, ps, o, hi, vp, rfl, hi1, hpi, hop, rfl, rfl, rfl, HJ⟩ := hrel
    by_cases hlt : i < ts.length
    · have hltI : (i : Int) < ts.length := by omega
      obtain ⟨x, hx⟩ : ∃ x, ts[i]? = some x := ⟨_, List.getElem?_eq_getElem hlt⟩
      have hll : ((ps.drop o).map fun x => I x).length = ps.length - o := by simp
      obtain ⟨g1, off1, rfl, hcl⟩ := h1.cell HJ.out.b hx
      have HX : Hid (∀ Z, Below W.heap.size W Z → Z.cell? ⟨g1, off1 + i, none⟩ = some (I x)) := fun Z hZ => by
        obtain ⟨g2, off2, e2, hc2⟩ := h1.cell hZ hx
        obtain ⟨u, hu, e, _⟩ := hc2 0 (by omega)
        cases e2
        subst e
        simpa using hu
      clear hcl
      have x0 := HX.out wr HJ.out.b
      by_cases hfull : ps.length - o < room
      · have hA : (ps.length : Int) - o < room := by omega
        have hlen : ((ps.drop o).map fun x => I x).length < room := by rw [hll]; omega
        clear hll
        by_cases htl : i < tk.length
        · obtain ⟨tv, htk⟩ : ∃ tv, tk[i]? = some tv := ⟨_, List.getElem?_eq_getElem htl⟩
          cases tv with
          | false =>
            obtain ⟨g3, off3, rfl, hct⟩ := h2.cell HJ.out.b htk
            have ht : (i : Int) < tk.length := by omega
            have HT : Hid (∀ Z, Below W.heap.size W Z → Z.cell? ⟨g3, off3 + i, none⟩ = some (.bool false)) := fun Z hZ => by
              obtain ⟨g2, off2, e2, hc2⟩ := h2.cell hZ htk
              obtain ⟨u, hu, e⟩ := hc2 0 (by omega)
              cases e2
              unfold boolP at e
              subst e
              simpa using hu
            clear hct htk
            have HE : Hid ((((ps.drop o).map fun x => I x) ++ [I x]) = ((ps ++ [x]).drop o).map fun x => I x) := by show _ = _; rw [List.drop_append_of_le_length hop]; simp
            go_wp2_with (first
                | (go_at_call 10; refine (num_any _ (by decide) _).mono ?_; rintro e w9 ⟨rfl, rfl⟩)
                | (go_at_call 11; refine (iLastQ HJ.out.q hlen _).mono ?_; rintro e w2 ⟨rfl, hq2, f2⟩; have J2 := HJ.out.call hq2 f2; have x2 := HX.out w2 J2.b; have hO2 := J2.p.alloc (.cells #[I x] 3); have hs2 := J2.s; clear HJ hq2 f2)
                | (at_builtin; refine wpList_append_own _ rfl (.tmp 56) (.tmp 61) 22 rfl (W.heap.size + 2) 3 i0 (.int .i64 0) 1 8 Try.underlying22 hi0 hz0 hz1 hz2 rfl (by decide) _ _ _ rfl hO2 ⟨w2.heap.size, 0, none⟩ 1 1 [I x] rfl rfl (cell_one_new _ _ _) (by intro u hu; simp at hu; subst hu; rfl) (by unfold maxLen; omega) (by omega) (by simp; omega) ?_; intro v6 w6 h6 hg6 _; have J6 := HE.out ▸ (J2.app h6 hg6); have t6 := HT.out w6 J6.b; clear h6 hg6 hO2 J2))
            have H9 := J6
            clear J6
            go_roundw
            case rel => exact ⟨i + 1, ps ++ [x], o, _, _, rfl, by omega, by simp <;> omega, by simp <;> omega, by simp, rfl, by go_num, H9⟩
            case measure => simp [intOf]; omega
          | true =>
            obtain ⟨g3, off3, rfl, hct⟩ := h2.cell HJ.out.b htk
            have ht : (i : Int) < tk.length := by omega
            have HT : Hid (∀ Z, Below W.heap.size W Z → Z.cell? ⟨g3, off3 + i, none⟩ = some (.bool true)) := fun Z hZ => by
              obtain ⟨g2, off2, e2, hc2⟩ := h2.cell hZ htk
              obtain ⟨u, hu, e⟩ := hc2 0 (by omega)
              cases e2
              unfold boolP at e
              subst e
              simpa using hu
            clear hct htk
            obtain ⟨y, hy⟩ : ∃ y, (ps ++ [x])[o]? = some y := ⟨_, List.getElem?_eq_getElem (by simp; omega)⟩
            have HE : Hid ((((ps.drop o).map fun x => I x) ++ [I x]) = I y :: ((ps ++ [x]).drop (o + 1)).map fun x => I x) := by
              show _ = _
              have h9 : o < (ps ++ [x]).length := by simp; omega
              have e9 : (ps ++ [x])[o] = y := by rw [List.getElem?_eq_getElem h9] at hy; exact Option.some.inj hy
              have := drop_cons h9
              rw [e9, List.drop_append_of_le_length hop] at this
              rw [← List.map_cons, ← this]; simp
            have ho2 : (o : Int) < (ps.length : Int) + 1 := by omega
            go_wp2_with (first
                | (go_at_call 10; refine (num_any _ (by decide) _).mono ?_; rintro e w9 ⟨rfl, rfl⟩)
                | (go_at_call 11; refine (iLastQ HJ.out.q hlen _).mono ?_; rintro e w2 ⟨rfl, hq2, f2⟩; have J2 := HJ.out.call hq2 f2; have x2 := HX.out w2 J2.b; have hO2 := J2.p.alloc (.cells #[I x] 3); have hs2 := J2.s; clear HJ hq2 f2)
                | (at_builtin; refine wpList_append_own _ rfl (.tmp 56) (.tmp 61) 22 rfl (W.heap.size + 2) 3 i0 (.int .i64 0) 1 8 Try.underlying22 hi0 hz0 hz1 hz2 rfl (by decide) _ _ _ rfl hO2 ⟨w2.heap.size, 0, none⟩ 1 1 [I x] rfl rfl (cell_one_new _ _ _) (by intro u hu; simp at hu; subst hu; rfl) (by unfold maxLen; omega) (by omega) (by simp; omega) ?_; intro v6 w6 h6 hg6 _; have J6 := HE.out ▸ (J2.app h6 hg6); obtain ⟨gp, cp, rfl, hcp⟩ := own_at J6.p hy; have t6 := HT.out w6 J6.b; simp only [List.length_append, List.length_cons, List.length_nil] at *; clear h6 hg6 hO2 J2)
                | (go_at_call 12; refine (iTakeQ y J6.q).mono ?_; rintro e w7 ⟨rfl, hq7, f7⟩; have J7 := J6.call hq7 f7; have c7 : w7.cell? ⟨gp, o, none⟩ = some (I y) := f7.cell hcp (by have := (J6.p.lt gp rfl).1; simp; omega); clear J6 hq7 f7 hcp))
            have H9 := J7
            clear J7
            go_roundw
            case rel => exact ⟨i + 1, ps ++ [x], o + 1, _, _, rfl, by omega, by simp <;> omega, by simp <;> omega, by simp, by go_num, by go_num, H9⟩
            case measure => simp [intOf]; omega
        · have ht : ¬ (i : Int) < tk.length := by omega
          have HE : Hid ((((ps.drop o).map fun x => I x) ++ [I x]) = ((ps ++ [x]).drop o).map fun x => I x) := by show _ = _; rw [List.drop_append_of_le_length hop]; simp
          go_wp2_with (first
              | (go_at_call 10; refine (num_any _ (by decide) _).mono ?_; rintro e w9 ⟨rfl, rfl⟩)
              | (go_at_call 11; refine (iLastQ HJ.out.q hlen _).mono ?_; rintro e w2 ⟨rfl, hq2, f2⟩; have J2 := HJ.out.call hq2 f2; have x2 := HX.out w2 J2.b; have hO2 := J2.p.alloc (.cells #[I x] 3); have hs2 := J2.s; clear HJ hq2 f2)
              | (at_builtin; refine wpList_append_own _ rfl (.tmp 56) (.tmp 61) 22 rfl (W.heap.size + 2) 3 i0 (.int .i64 0) 1 8 Try.underlying22 hi0 hz0 hz1 hz2 rfl (by decide) _ _ _ rfl hO2 ⟨w2.heap.size, 0, none⟩ 1 1 [I x] rfl rfl (cell_one_new _ _ _) (by intro u hu; simp at hu; subst hu; rfl) (by unfold maxLen; omega) (by omega) (by simp; omega) ?_; intro v6 w6 h6 hg6 _; have J6 := HE.out ▸ (J2.app h6 hg6); skip; clear h6 hg6 hO2 J2))
          have H9 := J6
          clear J6
          go_roundw
          case rel => exact ⟨i + 1, ps ++ [x], o, _, _, rfl, by omega, by simp <;> omega, by simp <;> omega, by simp, rfl, by go_num, H9⟩
          case measure => simp [intOf]; omega
      · have hA : ¬ (ps.length : Int) - o < room := by omega
        have hlen : ((ps.drop o).map fun x => I x).length = room := by have := HJ.out.q.le; omega
        clear hll
        by_cases htl : i < tk.length
        · obtain ⟨tv, htk⟩ : ∃ tv, tk[i]? = some tv := ⟨_, List.getElem?_eq_getElem htl⟩
          cases tv with
          | false =>
            obtain ⟨g3, off3, rfl, hct⟩ := h2.cell HJ.out.b htk
            have ht : (i : Int) < tk.length := by omega
            have HT : Hid (∀ Z, Below W.heap.size W Z → Z.cell? ⟨g3, off3 + i, none⟩ = some (.bool false)) := fun Z hZ => by
              obtain ⟨g2, off2, e2, hc2⟩ := h2.cell hZ htk
              obtain ⟨u, hu, e⟩ := hc2 0 (by omega)
              cases e2
              unfold boolP at e
              subst e
              simpa using hu
            clear hct htk
            go_wp2_with (first
                | (go_at_call 10; refine (num_any _ (by decide) _).mono ?_; rintro e w9 ⟨rfl, rfl⟩)
                | (go_at_call 11; refine (iLastF HJ.out.q hlen _).mono ?_; rintro e w2 ⟨rfl, hq2, f2⟩; have J2 := HJ.out.call hq2 (Fx.of_below f2); have t6 := HT.out w2 J2.b; clear HJ hq2 f2))
            have H9 := J2
            clear J2
            go_roundw
            case rel => exact ⟨i + 1, ps, o, _, _, rfl, by omega, by omega, by omega, rfl, rfl, by go_num, H9⟩
            case measure => simp [intOf]; omega
          | true =>
            obtain ⟨g3, off3, rfl, hct⟩ := h2.cell HJ.out.b htk
            have ht : (i : Int) < tk.length := by omega
            have HT : Hid (∀ Z, Below W.heap.size W Z → Z.cell? ⟨g3, off3 + i, none⟩ = some (.bool true)) := fun Z hZ => by
              obtain ⟨g2, off2, e2, hc2⟩ := h2.cell hZ htk
              obtain ⟨u, hu, e⟩ := hc2 0 (by omega)
              cases e2
              unfold boolP at e
              subst e
              simpa using hu
            clear hct htk
            by_cases hne : o < ps.length
            · obtain ⟨y, hy⟩ : ∃ y, ps[o]? = some y := ⟨_, List.getElem?_eq_getElem hne⟩
              have HE : Hid (((ps.drop o).map fun x => I x) = I y :: (ps.drop (o + 1)).map fun x => I x) := by
                show _ = _
                have e9 : ps[o] = y := by rw [List.getElem?_eq_getElem hne] at hy; exact Option.some.inj hy
                have := drop_cons hne
                rw [e9] at this
                rw [this]; simp
              obtain ⟨gp, cp, rfl, hcp0⟩ := own_at HJ.out.p hy
              have ho2 : (o : Int) < ps.length := by omega
              go_wp2_with (first
                  | (go_at_call 10; refine (num_any _ (by decide) _).mono ?_; rintro e w9 ⟨rfl, rfl⟩)
                  | (go_at_call 11; refine (iLastF HJ.out.q hlen _).mono ?_; rintro e w2 ⟨rfl, hq2, f2⟩; have J2 := HJ.out.call hq2 (Fx.of_below f2); have J2 := HE.out ▸ J2; have hcp := f2.cell (p := ⟨gp, o, none⟩) (World.block_lt_of_cell? _ _ hcp0); rw [hcp0] at hcp; have t6 := HT.out w2 J2.b; clear hcp0; clear HJ hq2 f2)
                  | (go_at_call 12; refine (iTakeQ y J2.q).mono ?_; rintro e w7 ⟨rfl, hq7, f7⟩; have J7 := J2.call hq7 f7; have c7 : w7.cell? ⟨gp, o, none⟩ = some (I y) := f7.cell hcp (by have := (J2.p.lt gp rfl).1; simp; omega); clear J2 hq7 f7 hcp))
              have H9 := J7
              clear J7
              go_roundw
              case rel => exact ⟨i + 1, ps, o + 1, _, _, rfl, by omega, by omega, by omega, rfl, by go_num, by go_num, H9⟩
              case measure => simp [intOf]; omega
            · have ho2 : ¬ (o : Int) < ps.length := by omega
              have HE : Hid (((ps.drop o).map fun x => I x) = []) := by show _ = _; rw [List.drop_of_length_le (by omega)]; rfl
              go_wp2_with (first
                  | (go_at_call 10; refine (num_any _ (by decide) _).mono ?_; rintro e w9 ⟨rfl, rfl⟩)
                  | (go_at_call 11; refine (iLastF HJ.out.q hlen _).mono ?_; rintro e w2 ⟨rfl, hq2, f2⟩; have J2 := HJ.out.call hq2 (Fx.of_below f2); have J3 := HE.out ▸ J2; have t6 := HT.out w2 J2.b; clear HJ hq2 f2)
                  | (go_at_call 12; refine (iTakeN J3.q).mono ?_; rintro e w7 ⟨rfl, rfl⟩; clear J3))
              have H9 := J2
              clear J2
              go_roundw
              case rel => exact ⟨i + 1, ps, o, _, _, rfl, by omega, by omega, by omega, rfl, rfl, by go_num, H9⟩
              case measure => simp [intOf]; omega
        · have ht : ¬ (i : Int) < tk.length := by omega
          go_wp2_with (first
              | (go_at_call 10; refine (num_any _ (by decide) _).mono ?_; rintro e w9 ⟨rfl, rfl⟩)
              | (go_at_call 11; refine (iLastF HJ.out.q hlen _).mono ?_; rintro e w2 ⟨rfl, hq2, f2⟩; have J2 := HJ.out.call hq2 (Fx.of_below f2); skip; clear HJ hq2 f2))
          have H9 := J2
          clear J2
          go_roundw
          case rel => exact ⟨i + 1, ps, o, _, _, rfl, by omega, by omega, by omega, rfl, rfl, by go_num, H9⟩
          case measure => simp [intOf]; omega
    · obtain rfl : i = ts.length := by omega
      have hge : ¬ ((ts.length : Int) < ts.length) := by omega
      go_upto_region 20 with fail
      go_loopw [10] (fun vout wr => ∃ (o : Nat), o ≤ ps.length ∧ vout = .int .i64 o ∧ ∃ hi, Hid (RrI W wr room vp ps hi ((ps.drop o).map fun x => I x))) (fun vout _ => ps.length - (intOf vout).toNat)
      case atStart => exact ⟨o, hop, rfl, hi, HJ.out⟩
      case round =>
        clear HJ hop
        obtain ⟨o, hop, rfl, hi, HJ⟩ := hrel
        by_cases hne : o < ps.length
        · obtain ⟨y, hy⟩ : ∃ y, ps[o]? = some y := ⟨_, List.getElem?_eq_getElem hne⟩
          have HE : Hid (((ps.drop o).map fun x => I x) = I y :: (ps.drop (o + 1)).map fun x => I x) := by
            show _ = _
            have e9 : ps[o] = y := by rw [List.getElem?_eq_getElem hne] at hy; exact Option.some.inj hy
            have := drop_cons hne
            rw [e9] at this
            rw [this]; simp
          obtain ⟨gp, cp, rfl, hcp0⟩ := own_at HJ.out.p hy
          have ho2 : (o : Int) < ps.length := by omega
          have hcp := hcp0
          have J2 := HE.out ▸ HJ.out
          clear hcp0 HJ
          go_wp2_with (first
              | (go_at_call 10; refine (num_any _ (by decide) _).mono ?_; rintro e w9 ⟨rfl, rfl⟩)
              | (go_at_call 12; refine (iTakeQ y J2.q).mono ?_; rintro e w7 ⟨rfl, hq7, f7⟩; have J7 := J2.call hq7 f7; have c7 : w7.cell? ⟨gp, o, none⟩ = some (I y) := f7.cell hcp (by have := (J2.p.lt gp rfl).1; simp; omega); clear J2 hq7 f7 hcp))
          have H9 := J7
          clear J7
          go_roundw
          case rel => exact ⟨o + 1, by omega, by go_num, _, H9⟩
          case measure => simp [intOf]; omega
        · have ho2 : ¬ (o : Int) < ps.length := by omega
          have J2 := HJ.out
          rw [show ((ps.drop o).map fun x => I x) = [] by rw [List.drop_of_length_le (by omega)]; rfl] at J2
          go_wp2_with (first
            | (go_at_call 13; refine (iLenQ J2.q).mono ?_; rintro e w7 ⟨rfl, rfl⟩)
            | (go_at_call 14; refine (alive_any _).mono ?_; rintro e w8 ⟨rfl, b8⟩))
          go_ret
          exact ⟨rfl, J2.b.trans (b8.mono J2.b.size)⟩
theorem row_law (W : World) (room : Nat) (hr : room < 256) (s1 : Sl) (ts : List Int) (h1 : RowsAt W 1 intP s1 ts) (hl1 : ts.length ≤ 17592186043904) (s2 : Sl) (tk : List Bool) (h2 : RowsAt W 1 boolP s2 tk) (_ : True) :
    Calls Try.prog 3 #[.int .u8 room, .slice s1.a s1.n s1.c, .slice s2.a s2.n s2.c] W fun e w' => e = .returned (.bool true) ∧ Below W.heap.size W w' := row_any W room hr s1 s2 ts tk h1 hl1 h2
end Go.Proofs.Ytlbkbnhnklaebaa
