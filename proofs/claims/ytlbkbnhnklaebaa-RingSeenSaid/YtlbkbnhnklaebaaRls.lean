import Derived.Test.YtlbkbnhnklaebaaRls0
import Derived.Stop.RegionWithIn
namespace Go.Proofs.Ytlbkbnhnklaebaa
open Go.RowKit Go.Shelf
set_option linter.unusedVariables false
set_option linter.unusedSimpArgs false
attribute [local go_sem] Oper.semAt_some

/-- as the law's post, but that no way leads to a panic -/
def seenPost (P : Program) (fn : Func) (R : Ending → World → Prop) : Exit → Act → World → Prop
  | .panic _, _, _ => False
  | .outgrown, _, _ => False
  | .normal, a, w => bodyPostM Fence.wide 3 P fn R .normal a w
  | .ret, a, w => bodyPostM Fence.wide 3 P fn R .ret a w
  | .exit _, _, _ => False
  | .goto _, _, _ => False
theorem seen_post {P : Program} {fn : Func} {R : Ending → World → Prop} : ∀ (e : Exit) (a : Act) (w : World), seenPost P fn R e a w → bodyPostM Fence.wide 3 P fn R e a w
  | .panic _, _, _, h => h.elim
  | .outgrown, _, _, h => h.elim
  | .normal, _, _, h => h
  | .ret, _, _, h => h
  | .exit _, _, _, h => h.elim
  | .goto _, _, _, h => h.elim
set_option maxHeartbeats 4000000 in
set_option maxRecDepth 100000 in
theorem seen_ok (W : World) (n : Nat) (hn : n ≤ 65536) (s1 : Sl) (acts : List (Int × Int)) (h1 : RowsAt W 2 actP s1 acts) (hl1 : acts.length ≤ 17592186043904) (s2 : Sl) (dur : List (Int × Int)) (h2 : RowsAt W 2 actP s2 dur) (hl2 : dur.length ≤ 17592186043904) (lv : Int) : Calls Try.prog 7 #[I n, .slice s1.a s1.n s1.c, .slice s2.a s2.n s2.c, I lv] W fun e w' => e = .returned (.bool true) ∧ Below W.heap.size W w' := by
  obtain ⟨a1, n1, c1⟩ := s1
  obtain ⟨a2, n2, c2⟩ := s2
  have hn1 := h1.n
  have hn2 := h2.n
  simp only at hn1 hn2
  subst hn1
  subst hn2
  have hse := seq_some
  refine (callsIn_wide (n := 3)).1 ?_
  refine callsIn_of_wp_marks Try.func7 rfl trivial ?_ rfl
  simp only [Try.ntmps7, List.size_toArray, List.length_cons, List.length_nil, Nat.reduceAdd, Nat.reduceSub, Array.replicate_succ, Array.replicate_zero, List.push_toArray, List.append_toArray, List.nil_append, List.cons_append]
  refine wpIn_wide.2 (wp_mono (Q := seenPost _ _ _) ?_ seen_post)
  go_upto_region 3 with (first
    | (go_at_call 9; refine (iNewQ _ n hn).mono ?_; rintro e w1 ⟨rfl, hq1, b1⟩)
    | (go_at_call 18; refine (dNew_ok _ n hn).mono ?_; rintro e w2 ⟨rfl, hd2, b2⟩))
  have HS : Hid (SnI (fun _ => False) W (w2.alloc (.cells #[.pointer (some ⟨w1.heap.size + 1, 0, none⟩)] 43)) W.heap.size (W.heap.size + 1) (W.heap.size + 1 + 1) w1.heap.size w2.heap.size (W.heap.size + 1 + 1 + 1 + 1) (W.heap.size + 1 + 1 + 1) (w1.heap.size + 1) n (.slice a2 dur.length c2) lv 0 []) := by
    have x6 := ((Boxed.new W 37 (.slice a2 dur.length c2)).alloc (.cells #[I lv] 3)).alloc (.cells #[.bool false] 4)
    have x7 := (Boxed.new (W.alloc (.cells #[.slice a2 dur.length c2] 37)) 3 (I lv)).alloc (.cells #[.bool false] 4)
    have x8 := Boxed.new ((W.alloc (.cells #[.slice a2 dur.length c2] 37)).alloc (.cells #[I lv] 3)) 4 (.bool false)
    have bW : Below W.heap.size W (((W.alloc (.cells #[.slice a2 dur.length c2] 37)).alloc (.cells #[I lv] 3)).alloc (.cells #[.bool false] 4)) := (((Below.refl _ W).alloc (Nat.le_refl _) _).alloc (by simp) _).alloc (by simp; omega) _
    simp only [World.size_alloc] at x7 x8 hq1 b1 hd2 b2
    have hs0 : (((W.alloc (.cells #[.slice a2 dur.length c2] 37)).alloc (.cells #[I lv] 3)).alloc (.cells #[.bool false] 4)).heap.size = W.heap.size + 1 + 1 + 1 := by simp
    have hs1 := b1.size
    rw [hs0] at hs1
    have hq := hq1.lts
    have c1 : Below w1.heap.size w1 (w1.alloc (.cells #[.pointer (some ⟨W.heap.size + 1 + 1 + 1 + 1, 0, none⟩)] 24)) := below_alloc _ _
    have hs2 : (w1.alloc (.cells #[.pointer (some ⟨W.heap.size + 1 + 1 + 1 + 1, 0, none⟩)] 24)).heap.size = w1.heap.size + 1 := by simp
    have hs3 := b2.size
    rw [hs2] at hs3
    have hDl := heap_lt hd2.o
    have x9 := Boxed.new w1 24 (iP (W.heap.size + 1 + 1 + 1 + 1))
    have c3 : Below w2.heap.size w2 (w2.alloc (.cells #[.pointer (some ⟨w1.heap.size + 1, 0, none⟩)] 43)) := below_alloc _ _
    have x11 := Boxed.new w2 43 (dP (w1.heap.size + 1))
    have b2' : Below (w1.heap.size + 1) (w1.alloc (.cells #[.pointer (some ⟨W.heap.size + 1 + 1 + 1 + 1, 0, none⟩)] 24)) w2 := b2
    have f12 : Below w1.heap.size w1 (w2.alloc (.cells #[.pointer (some ⟨w1.heap.size + 1, 0, none⟩)] 43)) := (c1.trans (b2'.mono (by omega))).trans (c3.mono (by omega))
    have f02 : Below (W.heap.size + 1 + 1 + 1) (((W.alloc (.cells #[.slice a2 dur.length c2] 37)).alloc (.cells #[I lv] 3)).alloc (.cells #[.bool false] 4)) (w2.alloc (.cells #[.pointer (some ⟨w1.heap.size + 1, 0, none⟩)] 43)) := Below.trans b1 (f12.mono (by omega))
    refine ⟨⟨hq1.below f12, ⟨_, hd2.below c3, fun k e => by cases e⟩, fun k e => e.elim⟩, bW.trans (f02.mono (by omega)), by omega, (f02.block _ (by omega)).trans x6, (f02.block _ (by omega)).trans x7, (f02.block _ (by omega)).trans x8, ?_, x11, by omega, by simp; omega⟩
    exact ((c3.mono (Nat.le_refl _)).block _ (by omega)).trans ((b2'.block _ (by omega)).trans x9)
  have hlt1 : W.heap.size + 1 + 1 + 1 + 1 < w1.heap.size := by have := hq1.lts; simp at this; omega
  have hlt2 : w1.heap.size + 1 < w2.heap.size := by have := heap_lt hd2.o; simpa using this
  clear hq1 hd2 b1 b2
  generalize hW3 : (w2.alloc (.cells #[.pointer (some ⟨w1.heap.size + 1, 0, none⟩)] 43)) = W3 at *
  clear hW3
  have y9 := HS.out.x9.cell
  have y11 := HS.out.x11.cell
  go_wp2
  go_loopw [13] (fun vi wr => ∃ (i hi : Nat) (l : List Int), i ≤ acts.length ∧ vi = .int .i64 i ∧ Hid (SnI (fun _ => False) W wr W.heap.size (W.heap.size + 1) (W.heap.size + 1 + 1) w1.heap.size w2.heap.size (W.heap.size + 1 + 1 + 1 + 1) (W.heap.size + 1 + 1 + 1) (w1.heap.size + 1) n (.slice a2 dur.length c2) lv hi l)) (fun vi _ => acts.length - (intOf vi).toNat)
  case atStart => exact ⟨0, _, _, by omega, rfl, HS.out⟩
  case round =>
    clear HS y9 y11
    obtain ⟨i, hi, l, hi1, rfl, HS⟩ := hrel
    have y9 := HS.out.x9.cell
    have y11 := HS.out.x11.cell
    by_cases hlt : i < acts.length
    · obtain ⟨⟨kd, vv⟩, hx⟩ : ∃ x, acts[i]? = some x := ⟨_, List.getElem?_eq_getElem hlt⟩
      have hltI : (i : Int) < acts.length := by omega
      have hi0 : ¬ (i : Int) < 0 := by omega
      obtain ⟨ga, off, rfl, hcx⟩ := acts_cell h1 hx
      have HX : Hid (∀ Z, Below W.heap.size W Z → Z.cell? ⟨ga, off + i * 2, none⟩ = some (I kd) ∧ Z.cell? ⟨ga, off + i * 2 + 1, none⟩ = some (I vv)) := hcx
      clear hcx hx
      obtain ⟨x0, x1⟩ := HX.out wr HS.out.b
      have bd : Below wr.heap.size wr wr.drew := (Below.refl _ _).drew
      have Sd := HS.out.below bd
      have Pd := play_any Sd.p kd vv
      go_wp2
      go_region_held_law (fun w' => w'.cell? ⟨w1.heap.size, 0, none⟩ = some (iP (W.heap.size + 1 + 1 + 1 + 1)) ∧ w'.cell? ⟨w2.heap.size, 0, none⟩ = some (dP (w1.heap.size + 1)) ∧ w'.cell? ⟨ga, off + i * 2, none⟩ = some (I kd) ∧ w'.cell? ⟨ga, off + i * 2 + 1, none⟩ = some (I vv))
        (first | exact ⟨y9, y11, x0, x1⟩ | exact ⟨z9, z11, zx0, zx1⟩ | (go_keep; done))
        (first | (go_at_call 27; refine Pd.mono ?_; rintro e w5 ⟨rfl, hp5⟩; obtain ⟨hi', l', S5⟩ := Sd.play hp5; have z9 := S5.x9.cell; have z11 := S5.x11.cell; obtain ⟨zx0, zx1⟩ := HX.out w5 S5.b))
      have HS5 : Hid (SnI (fun _ => False) W w5 W.heap.size (W.heap.size + 1) (W.heap.size + 1 + 1) w1.heap.size w2.heap.size (W.heap.size + 1 + 1 + 1 + 1) (W.heap.size + 1 + 1 + 1) (w1.heap.size + 1) n (.slice a2 dur.length c2) lv hi' l') := S5
      clear HS Sd Pd S5 z9 z11 zx0 zx1 y9 y11 x0 x1
      go_wp2
      go_roundw
      case rel => exact ⟨i + 1, _, _, by omega, by go_num, HS5.out⟩
      case measure => simp [intOf]; omega
    · have hge : ¬ ((i : Int) < acts.length) := by omega
      go_upto_region 13 with (first
        | (go_at_call 28; refine (All_any _ _).mono ?_; rintro e w5 ⟨rfl, rfl⟩))
      have bS := below_alloc wr (.cells #[iP (W.heap.size + 1 + 1 + 1 + 1)] 24)
      have S5 := HS.out.below bS
      have xS : Boxed (wr.alloc (.cells #[iP (W.heap.size + 1 + 1 + 1 + 1)] 24)) wr.heap.size 24 (iP (W.heap.size + 1 + 1 + 1 + 1)) := Boxed.new wr _ _
      obtain ⟨vL, hdL, hkL⟩ := S5.p.d
      obtain ⟨aL, cL, rfl⟩ := own_sl hdL.p
      have d2 := hdL.cells.2.2.1
      have z11 := S5.x11.cell
      have hs5 : (wr.alloc (.cells #[iP (W.heap.size + 1 + 1 + 1 + 1)] 24)).heap.size = wr.heap.size + 1 := by simp
      have HS5 : Hid (SnI (fun _ => False) W (wr.alloc (.cells #[iP (W.heap.size + 1 + 1 + 1 + 1)] 24)) W.heap.size (W.heap.size + 1) (W.heap.size + 1 + 1) w1.heap.size w2.heap.size (W.heap.size + 1 + 1 + 1 + 1) (W.heap.size + 1 + 1 + 1) (w1.heap.size + 1) n (.slice a2 dur.length c2) lv hi l) := S5
      have HdL : Hid (Dg (wr.alloc (.cells #[iP (W.heap.size + 1 + 1 + 1 + 1)] 24)) (w1.heap.size + 1) n hi (.slice aL l.length cL) l) := hdL
      have HXS : Hid (Boxed (wr.alloc (.cells #[iP (W.heap.size + 1 + 1 + 1 + 1)] 24)) wr.heap.size 24 (iP (W.heap.size + 1 + 1 + 1 + 1))) := xS
      have HSZ : Hid ((wr.alloc (.cells #[iP (W.heap.size + 1 + 1 + 1 + 1)] 24)).heap.size = wr.heap.size + 1) := hs5
      clear S5 hdL xS hs5 bS HS y9 y11
      generalize (wr.alloc (.cells #[iP (W.heap.size + 1 + 1 + 1 + 1)] 24)) = W5 at *
      go_wp2
      have bS := HS5.out.b.size
      have bq := HS5.out.p.q.lts
      have l6 := HS5.out.x6.lt
      have l7 := HS5.out.x7.lt
      have l8 := HS5.out.x8.lt
      have l9 := HS5.out.x9.lt
      have l11 := HS5.out.x11.lt
      have lD := heap_lt HdL.out.o
      have lS := HXS.out.lt
      have b7 : Below W5.heap.size W5 ((W5.alloc (.cells #[.slice aL l.length cL] 22)).alloc (.cells #[.int .i64 0] 3)) := ((Below.refl _ W5).alloc (Nat.le_refl _) _).alloc (by simp) _
      have hs7 : ((W5.alloc (.cells #[.slice aL l.length cL] 22)).alloc (.cells #[.int .i64 0] 3)).heap.size = W5.heap.size + 1 + 1 := by simp
      have x15 : Boxed ((W5.alloc (.cells #[.slice aL l.length cL] 22)).alloc (.cells #[.int .i64 0] 3)) W5.heap.size 22 (.slice aL l.length cL) := (Boxed.new W5 22 (.slice aL l.length cL)).alloc _
      have x16 : Boxed ((W5.alloc (.cells #[.slice aL l.length cL] 22)).alloc (.cells #[.int .i64 0] 3)) (W5.heap.size + 1) 3 (.int .i64 0) := by
        have := Boxed.new (W5.alloc (.cells #[.slice aL l.length cL] 22)) 3 (.int .i64 0)
        rw [World.size_alloc] at this
        exact this
      have S7 := HS5.out.newX (Y := fun b => b = W5.heap.size + 1) b7 (fun k e => by subst e; rw [hs7]; omega)
      have HR : Hid (R1 W ((W5.alloc (.cells #[.slice aL l.length cL] 22)).alloc (.cells #[.int .i64 0] 3)) W.heap.size (W.heap.size + 1) (W.heap.size + 1 + 1) w1.heap.size w2.heap.size (W.heap.size + 1 + 1 + 1 + 1) (W.heap.size + 1 + 1 + 1) (w1.heap.size + 1) n (.slice a2 dur.length c2) lv W5.heap.size (W5.heap.size + 1) wr.heap.size (.slice aL l.length cL) l 0) := by
        have hSZ := HSZ.out
        refine ⟨⟨hi, l, S7⟩, x15, own_below HdL.out.p b7, x16, (b7.block _ lS).trans HXS.out, ⟨by omega, by omega, by have := HSZ.out; omega⟩, by simp; omega, ⟨by simp; omega, by omega, by omega⟩, fun b e => ⟨(hkL b e).1, ?_⟩⟩
        have := (HdL.out.p.lt b e).2
        omega
      have HQ7 : Hid (iQ ((W5.alloc (.cells #[.slice aL l.length cL] 22)).alloc (.cells #[.int .i64 0] 3)) (W.heap.size + 1 + 1 + 1 + 1) (W.heap.size + 1 + 1 + 1) n hi (intsV l)) := HS5.out.p.q.below b7
      have cS : ((W5.alloc (.cells #[.slice aL l.length cL] 22)).alloc (.cells #[.int .i64 0] 3)).cell? ⟨wr.heap.size, 0, none⟩ = some (iP (W.heap.size + 1 + 1 + 1 + 1)) := HR.out.q.cell
      have hsz7 : wr.heap.size < ((W5.alloc (.cells #[.slice aL l.length cL] 22)).alloc (.cells #[.int .i64 0] 3)).heap.size := by omega
      have hbl : ∀ b ∈ [W.heap.size + 1 + 1 + 1 + 1, W.heap.size + 1 + 1 + 1, w1.heap.size + 1, W5.heap.size + 1], b < ((W5.alloc (.cells #[.slice aL l.length cL] 22)).alloc (.cells #[.int .i64 0] 3)).heap.size := by simp; omega
      have hWs : W.heap.size ≤ ((W5.alloc (.cells #[.slice aL l.length cL] 22)).alloc (.cells #[.int .i64 0] 3)).heap.size := by omega
      clear S7 x15 x16 b7 hs7 d2 z11
      generalize ((W5.alloc (.cells #[.slice aL l.length cL] 22)).alloc (.cells #[.int .i64 0] 3)) = W7 at *
      refine (wpIn_wide (n := 3)).1 ?_
      generalize hA : ({ tmps := _, defers := [] } : Act) = a0
      have hg0 : a0.eval (.tmp 62) = .func (.func 54) #[] #[.pointer (some ⟨wr.heap.size, 0, none⟩)] := by rw [← hA]; rfl
      refine wpIn_rangeFunc_ownG (α := Int) rfl (by omega) (gf := 54) (lb := #[.pointer (some ⟨wr.heap.size, 0, none⟩)]) hg0 trivial (enters_of Try.func54 (by kernel_rfl) rfl)
        (All_stops (3 - 1) (by omega) wr.heap.size (fun _ b => b ∈ [W.heap.size + 1 + 1 + 1 + 1, W.heap.size + 1 + 1 + 1, w1.heap.size + 1, W5.heap.size + 1]) l _ _ n hi W7 hsz7 cS HQ7.out (fun _ b _ hb => hbl b hb)) Kq.trans (Kq.put (fun _ _ _ _ _ hm => hm)) (Below.refl _ _) (fun _ => rfl)
        (fun pre Z => R1 W Z W.heap.size (W.heap.size + 1) (W.heap.size + 1 + 1) w1.heap.size w2.heap.size (W.heap.size + 1 + 1 + 1 + 1) (W.heap.size + 1 + 1 + 1) (w1.heap.size + 1) n (.slice a2 dur.length c2) lv W5.heap.size (W5.heap.size + 1) wr.heap.size (.slice aL l.length cL) l pre.length ∧ pre <+: l)
        (fun c pre Z => (c = .ret ∧ ¬ pre <+: l) ∨ (c = .exit 2 ∧ R1 W Z W.heap.size (W.heap.size + 1) (W.heap.size + 1 + 1) w1.heap.size w2.heap.size (W.heap.size + 1 + 1 + 1 + 1) (W.heap.size + 1 + 1 + 1) (w1.heap.size + 1) n (.slice a2 dur.length c2) lv W5.heap.size (W5.heap.size + 1) wr.heap.size (.slice aL l.length cL) l pre.length ∧ pre <+: l ∧ (pre.length : Int) = lv))
        (fun pre Z Z' row hI hg hr => ⟨hI.1.noC (Fx.turn hg) (noC_turn (fun r e => (hr r e).2)) (fun x hx => Nat.le_trans hWs (hr x (by simpa using hx)).1), hI.2⟩)
        (fun c pre Z Z' row hI hg hr => hI.imp id (fun h => ⟨h.1, h.2.1.noC (Fx.turn hg) (noC_turn (fun r e => (hr r e).2)) (fun x hx => Nat.le_trans hWs (hr x (by simpa using hx)).1), h.2.2⟩))
        ⟨HR.out, List.nil_prefix⟩
        (fun x => { tmps := (a0.tmps.setIfInBounds 63 (.int .i64 x)).setIfInBounds 17 (.int .i64 x), defers := [] }) ?assign ?body ?done ?stop
      case assign =>
        intro lp x Z K hK
        subst hA
        simp only [List.setIfInBounds_toArray, List.set_cons_succ, List.set_cons_zero] at hK
        gi_wp2
        exact hK
      case body =>
        rintro lp pre x Z ⟨hR, hpre⟩ hlt
        subst hA
        simp only [List.setIfInBounds_toArray, List.set_cons_succ, List.set_cons_zero]
        have hcn := hR.c.cell
        have hcw := hR.w.cell
        have hzn := hR.c.frozen
        obtain ⟨y, hy⟩ : ∃ y, l[pre.length]? = some y := ⟨_, List.getElem?_eq_getElem hlt⟩
        obtain ⟨gL, cL', e9, _, hcl⟩ := own_cell hR.r (by omega)
        cases e9
        have hcy := hcl _ _ hy
        have hltI : ¬ (l.length : Int) ≤ pre.length := by omega
        by_cases hxy : x = y
        · subst hxy
          obtain ⟨hi2, l2, hs⟩ := hR.s
          have h6 := hs.x6.cell
          have h7 := hs.x7.cell
          have h9 := hs.x9.cell
          have h11 := hs.x11.cell
          have hpx : pre ++ [x] <+: l := by
            obtain ⟨t, rfl⟩ := hpre
            rw [List.getElem?_append_right (Nat.le_refl _), Nat.sub_self] at hy
            cases t with
            | nil => simp at hy
            | cons z t => simp at hy; subst hy; exact ⟨t, by simp⟩
          by_cases hdu : pre.length < dur.length
          · obtain ⟨⟨kd, vv⟩, hx⟩ : ∃ x, dur[pre.length]? = some x := ⟨_, List.getElem?_eq_getElem hdu⟩
            have hduI : (pre.length : Int) < dur.length := by omega
            have hdu0 : ¬ (pre.length : Int) < 0 := by omega
            obtain ⟨ga, off, e8, hcx⟩ := acts_cell h2 hx
            subst e8
            obtain ⟨x0, x1⟩ := hcx Z hs.b
            have Pd : ∀ Y, Below Z.heap.size Z Y → Calls Try.prog 27 #[iP (W.heap.size + 1 + 1 + 1 + 1), dP (w1.heap.size + 1), .agg #[I kd, I vv]] Y fun e w' => e = .returned (.bool true) ∧ R1 W w' W.heap.size (W.heap.size + 1) (W.heap.size + 1 + 1) w1.heap.size w2.heap.size (W.heap.size + 1 + 1 + 1 + 1) (W.heap.size + 1 + 1 + 1) (w1.heap.size + 1) n (.slice (some ⟨ga, off, none⟩) dur.length c2) lv W5.heap.size (W5.heap.size + 1) wr.heap.size (.slice (some ⟨gL, 0, none⟩) l.length cL) l pre.length ∧ Fx [W.heap.size + 1 + 1 + 1 + 1, W.heap.size + 1 + 1 + 1, w1.heap.size + 1] Z w' := fun Y hY => by
              have hsY := hs.below hY
              refine (play_any hsY.p kd vv).mono ?_
              rintro e w' ⟨k, hp⟩
              exact ⟨k, (hR.below hY).play hsY hp, (Fx.of_below hY).trans hp.2⟩
            have HRZ : Hid (R1 W Z W.heap.size (W.heap.size + 1) (W.heap.size + 1 + 1) w1.heap.size w2.heap.size (W.heap.size + 1 + 1 + 1 + 1) (W.heap.size + 1 + 1 + 1) (w1.heap.size + 1) n (.slice (some ⟨ga, off, none⟩) dur.length c2) lv W5.heap.size (W5.heap.size + 1) wr.heap.size (.slice (some ⟨gL, 0, none⟩) l.length cL) l pre.length) := hR
            have HX : Hid (∀ Z, Below W.heap.size W Z → Z.cell? ⟨ga, off + pre.length * 2, none⟩ = some (I kd) ∧ Z.cell? ⟨ga, off + pre.length * 2 + 1, none⟩ = some (I vv)) := hcx
            clear hcl hy hx hcx hs hR h7
            gi_wp2
            refine only_normal (fun K hK => ?_)
            refine region_round (by kernel_rfl) (by kernel_rfl) (not_lets_onlyN _) (S := fun w' => w'.cell? ⟨W5.heap.size + 1, 0, none⟩ = some (I pre.length) ∧ w'.cell? ⟨W.heap.size, 0, none⟩ = some (.slice (some ⟨ga, off, none⟩) dur.length c2) ∧ w'.cell? ⟨w1.heap.size, 0, none⟩ = some (iP (W.heap.size + 1 + 1 + 1 + 1)) ∧ w'.cell? ⟨w2.heap.size, 0, none⟩ = some (dP (w1.heap.size + 1)) ∧ w'.cell? ⟨ga, off + pre.length * 2, none⟩ = some (I kd) ∧ w'.cell? ⟨ga, off + pre.length * 2 + 1, none⟩ = some (I vv)) ⟨hcn, h6, h9, h11, x0, x1⟩ (fun hHeld => ?_)
            refine takeD 0 76 (I pre.length) hHeld rfl rfl (by kernel_rfl) (by kernel_rfl) (by kernel_rfl) (Or.inl ⟨by rfl, fun w' hSw => by obtain ⟨q0, q1, q2, q3, q4, q5⟩ := hSw; go_simp⟩) ?_
            try simp only [Act.put, List.setIfInBounds_toArray, List.set_cons_zero, List.set_cons_succ]
            refine takeD 1 77 ((.slice (some ⟨ga, off, none⟩) dur.length c2)) hHeld rfl rfl (by kernel_rfl) (by kernel_rfl) (by kernel_rfl) (Or.inl ⟨by rfl, fun w' hSw => by obtain ⟨q0, q1, q2, q3, q4, q5⟩ := hSw; go_simp⟩) ?_
            try simp only [Act.put, List.setIfInBounds_toArray, List.set_cons_zero, List.set_cons_succ]
            refine takeD 2 78 (I dur.length) hHeld rfl rfl (by kernel_rfl) (by kernel_rfl) (by kernel_rfl) (Or.inl ⟨by rfl, fun w' hSw => by obtain ⟨q0, q1, q2, q3, q4, q5⟩ := hSw; go_simp⟩) ?_
            try simp only [Act.put, List.setIfInBounds_toArray, List.set_cons_zero, List.set_cons_succ]
            refine takeD 3 79 (.bool true) hHeld rfl rfl (by kernel_rfl) (by kernel_rfl) (by kernel_rfl) (Or.inl ⟨by rfl, fun w' hSw => by obtain ⟨q0, q1, q2, q3, q4, q5⟩ := hSw; go_simp⟩) ?_
            try simp only [Act.put, List.setIfInBounds_toArray, List.set_cons_zero, List.set_cons_succ]
            refine takeD 4 80 (.bool true) hHeld rfl rfl (by kernel_rfl) (by kernel_rfl) (by kernel_rfl) (Or.inl ⟨by rfl, fun w' hSw => by obtain ⟨q0, q1, q2, q3, q4, q5⟩ := hSw; go_simp⟩) ?_
            try simp only [Act.put, List.setIfInBounds_toArray, List.set_cons_zero, List.set_cons_succ]
            refine takeD 5 81 (iP (W.heap.size + 1 + 1 + 1 + 1)) hHeld rfl rfl (by kernel_rfl) (by kernel_rfl) (by kernel_rfl) (Or.inl ⟨by rfl, fun w' hSw => by obtain ⟨q0, q1, q2, q3, q4, q5⟩ := hSw; go_simp⟩) ?_
            try simp only [Act.put, List.setIfInBounds_toArray, List.set_cons_zero, List.set_cons_succ]
            refine takeD 6 82 (dP (w1.heap.size + 1)) hHeld rfl rfl (by kernel_rfl) (by kernel_rfl) (by kernel_rfl) (Or.inl ⟨by rfl, fun w' hSw => by obtain ⟨q0, q1, q2, q3, q4, q5⟩ := hSw; go_simp⟩) ?_
            try simp only [Act.put, List.setIfInBounds_toArray, List.set_cons_zero, List.set_cons_succ]
            refine takeD 7 83 ((.slice (some ⟨ga, off, none⟩) dur.length c2)) hHeld rfl rfl (by kernel_rfl) (by kernel_rfl) (by kernel_rfl) (Or.inl ⟨by rfl, fun w' hSw => by obtain ⟨q0, q1, q2, q3, q4, q5⟩ := hSw; go_simp⟩) ?_
            try simp only [Act.put, List.setIfInBounds_toArray, List.set_cons_zero, List.set_cons_succ]
            refine takeD 8 84 (I pre.length) hHeld rfl rfl (by kernel_rfl) (by kernel_rfl) (by kernel_rfl) (Or.inl ⟨by rfl, fun w' hSw => by obtain ⟨q0, q1, q2, q3, q4, q5⟩ := hSw; go_simp⟩) ?_
            try simp only [Act.put, List.setIfInBounds_toArray, List.set_cons_zero, List.set_cons_succ]
            refine takeD 9 85 (.pointer (some ⟨ga, off + pre.length * 2, none⟩)) hHeld rfl rfl (by kernel_rfl) (by kernel_rfl) (by kernel_rfl) (Or.inl ⟨by rfl, fun w' hSw => by obtain ⟨q0, q1, q2, q3, q4, q5⟩ := hSw; go_simp⟩) ?_
            try simp only [Act.put, List.setIfInBounds_toArray, List.set_cons_zero, List.set_cons_succ]
            refine takeD 10 86 (.agg #[I kd, I vv]) hHeld rfl rfl (by kernel_rfl) (by kernel_rfl) (by kernel_rfl) (Or.inl ⟨by rfl, fun w' hSw => by obtain ⟨q0, q1, q2, q3, q4, q5⟩ := hSw; go_simp⟩) ?_
            try simp only [Act.put, List.setIfInBounds_toArray, List.set_cons_zero, List.set_cons_succ]
            refine wpAnyH_ready (rs := [11]) (by kernel_rfl) (by simp) ?_
            refine AllReadyH.cons rfl (fun K2 hK2 => ?_) AllReadyH.nil
            go_simp
            go_wp2_with (go_at_call 27; refine (Pd _ (Below.refl _ _).drew).mono ?_; rintro e w5 ⟨rfl, r5, f5⟩)
            have HR5 : Hid (R1 W w5 W.heap.size (W.heap.size + 1) (W.heap.size + 1 + 1) w1.heap.size w2.heap.size (W.heap.size + 1 + 1 + 1 + 1) (W.heap.size + 1 + 1 + 1) (w1.heap.size + 1) n (.slice (some ⟨ga, off, none⟩) dur.length c2) lv W5.heap.size (W5.heap.size + 1) wr.heap.size (.slice (some ⟨gL, 0, none⟩) l.length cL) l pre.length) := r5
            have HF5 : Hid (Fx [W.heap.size + 1 + 1 + 1 + 1, W.heap.size + 1 + 1 + 1, w1.heap.size + 1] Z w5) := f5
            clear r5 f5 Pd
            clear hHeld
            refine hK2.out _ _ ?_ (fun hHeld => ?_)
            · obtain ⟨hi5, l5, s5⟩ := HR5.out.s
              obtain ⟨zx0, zx1⟩ := HX.out w5 s5.b
              exact ⟨HR5.out.c.cell, s5.x6.cell, s5.x9.cell, s5.x11.cell, zx0, zx1⟩
            clear hK2 K2 hcn h6 h9 h11 x0 x1
            refine takeD 12 88 (.bool false) hHeld rfl rfl (by kernel_rfl) (by kernel_rfl) (by kernel_rfl) (Or.inl ⟨by rfl, fun w' hSw => by obtain ⟨q0, q1, q2, q3, q4, q5⟩ := hSw; go_simp⟩) ?_
            try simp only [Act.put, List.setIfInBounds_toArray, List.set_cons_zero, List.set_cons_succ]
            refine takeD 13 89 (.bool false) hHeld rfl rfl (by kernel_rfl) (by kernel_rfl) (by kernel_rfl) (Or.inl ⟨by rfl, fun w' hSw => by obtain ⟨q0, q1, q2, q3, q4, q5⟩ := hSw; go_simp⟩) ?_
            try simp only [Act.put, List.setIfInBounds_toArray, List.set_cons_zero, List.set_cons_succ]
            refine wpAnyH_done (by kernel_rfl) ?_ _
            refine hK.out _ _ ?_
            clear hK K hHeld
            have c5 := HR5.out.c.cell
            have z5 := HR5.out.c.frozen
            obtain ⟨hi5, l5, s5⟩ := HR5.out.s
            have c7 := s5.x7.cell
            clear s5
            have hb5 : (pre.length : Int) < 65537 := by have hb1 := HQ7.out.le; have hb2 := HQ7.out.m; simp only [intsV, List.length_map] at hb1; omega
            have hne7 : W5.heap.size + 1 ≠ W.heap.size + 1 := fun e => HR5.out.n2.1 (by simp [e])
            have hR6 := HRZ.out.round HR5.out HF5.out (pre.length + 1)
            have hpl : ((pre.length + 1 : Nat) : Int) = (pre.length : Int) + 1 := by omega
            have hl1' : (pre ++ [x]).length = pre.length + 1 := by simp
            by_cases hlv : (pre.length : Int) + 1 = lv
            · have hlvb : ((pre.length : Int) + 1 == lv) = true := by simp [hlv]
              rw [hpl, hlv] at hR6
              have HR6 : Hid (_ ∧ _ ∧ _) := hR6
              clear hR6
              gi_wp2
              exact ⟨HR6.out.1.from _, .inr ⟨rfl, by rw [hl1']; exact HR6.out.2.2, hpx, by rw [hl1']; omega⟩⟩
            · have hlvb : ((pre.length : Int) + 1 == lv) = false := by simp [hlv]
              rw [hpl] at hR6
              have HR6 : Hid (_ ∧ _ ∧ _) := hR6
              clear hR6
              gi_wp2
              exact ⟨HR6.out.1.from _, HR6.out.2.1, by rw [hl1']; exact HR6.out.2.2, hpx⟩
          · have hduI : ¬ (pre.length : Int) < dur.length := by omega
            have hdec : decide ((pre.length : Int) < dur.length) = false := by simpa using hduI
            have HRZ : Hid (R1 W Z W.heap.size (W.heap.size + 1) (W.heap.size + 1 + 1) w1.heap.size w2.heap.size (W.heap.size + 1 + 1 + 1 + 1) (W.heap.size + 1 + 1 + 1) (w1.heap.size + 1) n (.slice a2 dur.length c2) lv W5.heap.size (W5.heap.size + 1) wr.heap.size (.slice (some ⟨gL, 0, none⟩) l.length cL) l pre.length) := hR
            have HR5 : Hid (R1 W Z.drew W.heap.size (W.heap.size + 1) (W.heap.size + 1 + 1) w1.heap.size w2.heap.size (W.heap.size + 1 + 1 + 1 + 1) (W.heap.size + 1 + 1 + 1) (w1.heap.size + 1) n (.slice a2 dur.length c2) lv W5.heap.size (W5.heap.size + 1) wr.heap.size (.slice (some ⟨gL, 0, none⟩) l.length cL) l pre.length) := hR.below (Below.refl _ _).drew
            have HF5 : Hid (Fx [W.heap.size + 1 + 1 + 1 + 1, W.heap.size + 1 + 1 + 1, w1.heap.size + 1] Z Z.drew) := Fx.of_below (Below.refl _ _).drew
            clear hcl hy hs hR
            gi_wp2
            refine only_normal (fun K hK => ?_)
            refine region_round (by kernel_rfl) (by kernel_rfl) (not_lets_onlyN _) (S := fun w' => w'.cell? ⟨W5.heap.size + 1, 0, none⟩ = some (I pre.length) ∧ w'.cell? ⟨W.heap.size, 0, none⟩ = some (.slice a2 dur.length c2)) ⟨hcn, h6⟩ (fun hHeld => ?_)
            refine takeD 0 76 (I pre.length) hHeld rfl rfl (by kernel_rfl) (by kernel_rfl) (by kernel_rfl) (Or.inl ⟨by rfl, fun w' hSw => by obtain ⟨q0, q1⟩ := hSw; go_simp⟩) ?_
            try simp only [Act.put, List.setIfInBounds_toArray, List.set_cons_zero, List.set_cons_succ]
            refine takeD 1 77 ((.slice a2 dur.length c2)) hHeld rfl rfl (by kernel_rfl) (by kernel_rfl) (by kernel_rfl) (Or.inl ⟨by rfl, fun w' hSw => by obtain ⟨q0, q1⟩ := hSw; go_simp⟩) ?_
            try simp only [Act.put, List.setIfInBounds_toArray, List.set_cons_zero, List.set_cons_succ]
            refine takeD 2 78 (I dur.length) hHeld rfl rfl (by kernel_rfl) (by kernel_rfl) (by kernel_rfl) (Or.inl ⟨by rfl, fun w' hSw => by obtain ⟨q0, q1⟩ := hSw; go_simp⟩) ?_
            try simp only [Act.put, List.setIfInBounds_toArray, List.set_cons_zero, List.set_cons_succ]
            refine takeD 3 79 (.bool false) hHeld rfl rfl (by kernel_rfl) (by kernel_rfl) (by kernel_rfl) (Or.inl ⟨by rfl, fun w' hSw => by obtain ⟨q0, q1⟩ := hSw; go_simp⟩) ?_
            try simp only [Act.put, List.setIfInBounds_toArray, List.set_cons_zero, List.set_cons_succ]
            refine takeD 4 80 (.bool false) hHeld rfl rfl (by kernel_rfl) (by kernel_rfl) (by kernel_rfl) (Or.inl ⟨by rfl, fun w' hSw => by obtain ⟨q0, q1⟩ := hSw; go_simp⟩) ?_
            try simp only [Act.put, List.setIfInBounds_toArray, List.set_cons_zero, List.set_cons_succ]
            refine takeD 5 81 undef hHeld rfl rfl (by kernel_rfl) (by kernel_rfl) (by kernel_rfl) (Or.inr ⟨by rfl, rfl⟩) ?_
            try simp only [Act.put, List.setIfInBounds_toArray, List.set_cons_zero, List.set_cons_succ]
            refine takeD 6 82 undef hHeld rfl rfl (by kernel_rfl) (by kernel_rfl) (by kernel_rfl) (Or.inr ⟨by rfl, rfl⟩) ?_
            try simp only [Act.put, List.setIfInBounds_toArray, List.set_cons_zero, List.set_cons_succ]
            refine takeD 7 83 undef hHeld rfl rfl (by kernel_rfl) (by kernel_rfl) (by kernel_rfl) (Or.inr ⟨by rfl, rfl⟩) ?_
            try simp only [Act.put, List.setIfInBounds_toArray, List.set_cons_zero, List.set_cons_succ]
            refine takeD 8 84 undef hHeld rfl rfl (by kernel_rfl) (by kernel_rfl) (by kernel_rfl) (Or.inr ⟨by rfl, rfl⟩) ?_
            try simp only [Act.put, List.setIfInBounds_toArray, List.set_cons_zero, List.set_cons_succ]
            refine takeD 9 85 undef hHeld rfl rfl (by kernel_rfl) (by kernel_rfl) (by kernel_rfl) (Or.inr ⟨by rfl, rfl⟩) ?_
            try simp only [Act.put, List.setIfInBounds_toArray, List.set_cons_zero, List.set_cons_succ]
            refine takeD 10 86 undef hHeld rfl rfl (by kernel_rfl) (by kernel_rfl) (by kernel_rfl) (Or.inr ⟨by rfl, rfl⟩) ?_
            try simp only [Act.put, List.setIfInBounds_toArray, List.set_cons_zero, List.set_cons_succ]
            refine takeD 11 87 undef hHeld rfl rfl (by kernel_rfl) (by kernel_rfl) (by kernel_rfl) (Or.inr ⟨by rfl, rfl⟩) ?_
            try simp only [Act.put, List.setIfInBounds_toArray, List.set_cons_zero, List.set_cons_succ]
            refine takeD 12 88 undef hHeld rfl rfl (by kernel_rfl) (by kernel_rfl) (by kernel_rfl) (Or.inr ⟨by rfl, rfl⟩) ?_
            try simp only [Act.put, List.setIfInBounds_toArray, List.set_cons_zero, List.set_cons_succ]
            refine takeD 13 89 (.bool false) hHeld rfl rfl (by kernel_rfl) (by kernel_rfl) (by kernel_rfl) (Or.inl ⟨by rfl, fun w' hSw => by obtain ⟨q0, q1⟩ := hSw; go_simp⟩) ?_
            try simp only [Act.put, List.setIfInBounds_toArray, List.set_cons_zero, List.set_cons_succ]
            refine wpAnyH_done (by kernel_rfl) ?_ _
            refine hK.out _ _ ?_
            clear hK K hHeld
            have c5 := HR5.out.c.cell
            have z5 := HR5.out.c.frozen
            obtain ⟨hi5, l5, s5⟩ := HR5.out.s
            have c7 := s5.x7.cell
            clear s5
            have hb5 : (pre.length : Int) < 65537 := by have hb1 := HQ7.out.le; have hb2 := HQ7.out.m; simp only [intsV, List.length_map] at hb1; omega
            have hne7 : W5.heap.size + 1 ≠ W.heap.size + 1 := fun e => HR5.out.n2.1 (by simp [e])
            have hR6 := HRZ.out.round HR5.out HF5.out (pre.length + 1)
            have hpl : ((pre.length + 1 : Nat) : Int) = (pre.length : Int) + 1 := by omega
            have hl1' : (pre ++ [x]).length = pre.length + 1 := by simp
            by_cases hlv : (pre.length : Int) + 1 = lv
            · have hlvb : ((pre.length : Int) + 1 == lv) = true := by simp [hlv]
              rw [hpl, hlv] at hR6
              have HR6 : Hid (_ ∧ _ ∧ _) := hR6
              clear hR6
              gi_wp2
              exact ⟨HR6.out.1.from _, .inr ⟨rfl, by rw [hl1']; exact HR6.out.2.2, hpx, by rw [hl1']; omega⟩⟩
            · have hlvb : ((pre.length : Int) + 1 == lv) = false := by simp [hlv]
              rw [hpl] at hR6
              have HR6 : Hid (_ ∧ _ ∧ _) := hR6
              clear hR6
              gi_wp2
              exact ⟨HR6.out.1.from _, HR6.out.2.1, by rw [hl1']; exact HR6.out.2.2, hpx⟩
        · have hxb : (x == y) = false := by rw [beq_eq_false_iff_ne]; exact hxy
          have hxn : (x != y) = true := by simp [hxy]
          have hnp : ¬ (pre ++ [x] <+: l) := fun ⟨t, ht⟩ => by
            rw [← ht, List.append_assoc, List.getElem?_append_right (Nat.le_refl _), Nat.sub_self] at hy
            simp at hy
            exact hxy hy
          obtain ⟨hi2, l2, hs⟩ := hR.s
          have h8 := hs.x8.cell
          have hz8 := hs.x8.frozen
          clear hs hR hcl hy
          gi_wp2
          exact ⟨(KeepsOthers.setCell _ _ _).from _, .inl ⟨rfl, hnp⟩⟩
      case done =>
        intro D1 xs Z hD1 hxs hI hDz
        subst hA
        obtain ⟨hR, hpre⟩ := hI
        subst hxs
        have hcn := hR.c.cell
        have hcw := hR.w.cell
        have hc7 : True := trivial
        obtain ⟨hi2, l2, r2, xq⟩ := hR.second hDz
        have HR2 : Hid (R2 W (Z.alloc (.cells #[.int .i64 0] 3)) W.heap.size (W.heap.size + 1) (W.heap.size + 1 + 1) w1.heap.size w2.heap.size (W.heap.size + 1 + 1 + 1 + 1) (W.heap.size + 1 + 1 + 1) (w1.heap.size + 1) n (.slice a2 dur.length c2) lv Z.heap.size D1 hi2 l2 0) := r2
        have cS8 : (Z.alloc (.cells #[.int .i64 0] 3)).cell? ⟨wr.heap.size, 0, none⟩ = some (iP (W.heap.size + 1 + 1 + 1 + 1)) := xq.cell
        have lq8 := xq.lt
        have hs8 : (Z.alloc (.cells #[.int .i64 0] 3)).heap.size = Z.heap.size + 1 := by simp
        have lD1 : D1 < (Z.alloc (.cells #[.int .i64 0] 3)).heap.size := heap_lt r2.d
        have hWs8 : W.heap.size ≤ (Z.alloc (.cells #[.int .i64 0] 3)).heap.size := r2.s.b.size
        clear r2 xq hR
        go_wp2
        clear hcn hcw hc7
        generalize (Z.alloc (.cells #[.int .i64 0] 3)) = Z8 at *
        refine (wpIn_wide (n := 3)).1 ?_
        generalize hA2 : ({ tmps := _, defers := _ } : Act) = aa
        have hg2 : aa.eval (.tmp 104) = .func (.func 54) #[] #[.pointer (some ⟨wr.heap.size, 0, none⟩)] := by rw [← hA2]; rfl
        refine wpIn_rangeFunc_ownG (α := Int) rfl (by omega) (gf := 54) (lb := #[.pointer (some ⟨wr.heap.size, 0, none⟩)]) hg2 trivial (enters_of Try.func54 (by kernel_rfl) rfl)
          (All_stops (3 - 1) (by omega) wr.heap.size (fun _ b => b ∈ [Z.heap.size]) l2 _ _ n hi2 Z8 lq8 cS8 HR2.out.s.p.q (fun _ b _ hb => by simp at hb; omega)) Kq.trans (Kq.put (fun _ _ _ _ _ hm => hm)) (Below.refl _ _) (fun _ => rfl)
          (fun pre Y => R2 W Y W.heap.size (W.heap.size + 1) (W.heap.size + 1 + 1) w1.heap.size w2.heap.size (W.heap.size + 1 + 1 + 1 + 1) (W.heap.size + 1 + 1 + 1) (w1.heap.size + 1) n (.slice a2 dur.length c2) lv Z.heap.size D1 hi2 l2 pre.length ∧ pre <+: l2)
          (fun c pre Y => c = .ret ∧ ¬ pre <+: l2)
          (fun pre Y Y' row hI hg hr => ⟨hI.1.noC (Fx.turn hg) (noC_turn (fun r e => (hr r e).2)) (fun x hx => Nat.le_trans hWs8 (hr x (by simpa using hx)).1) (fun e => by have := (hr D1 (by simpa using e)).1; omega), hI.2⟩)
          (fun c pre Y Y' row hI hg hr => hI)
          ⟨HR2.out, List.nil_prefix⟩
          (fun x => { tmps := (aa.tmps.setIfInBounds 105 (.int .i64 x)).setIfInBounds 19 (.int .i64 x), defers := [] }) ?assign2 ?body2 ?done2 ?stop2
        case assign2 =>
          intro lp x Y K hK
          subst hA2
          simp only [List.setIfInBounds_toArray, List.set_cons_succ, List.set_cons_zero] at hK
          gi_wp2
          exact hK
        case body2 =>
          rintro lp pre x Y ⟨hR, hpre⟩ hlt
          subst hA2
          simp only [List.setIfInBounds_toArray, List.set_cons_succ, List.set_cons_zero]
          have hcn := hR.c.cell
          have hzn := hR.c.frozen
          have h11 := hR.s.x11.cell
          have h8 := hR.s.x8.cell
          have hz8 := hR.s.x8.frozen
          obtain ⟨vD, hdD, _⟩ := hR.s.p.d
          have hd2 := hdD.cells.2.2.1
          obtain ⟨y, hy⟩ : ∃ y, l2[pre.length]? = some y := ⟨_, List.getElem?_eq_getElem hlt⟩
          obtain ⟨gD, cD, e9, _, hclD⟩ := own_cell hdD.p (by omega)
          subst e9
          have hcy := hclD _ _ hy
          have hltI : ¬ (l2.length : Int) ≤ pre.length := by omega
          have hdec : decide ((l2.length : Int) ≤ pre.length) = false := by simpa using hltI
          have hge0 : ¬ (pre.length : Int) < 0 := by omega
          have hltJ : (pre.length : Int) < l2.length := by omega
          have hcy' : Y.cell? ⟨gD, pre.length, none⟩ = some (I y) := by simpa using hcy
          have hb5 : (pre.length : Int) < 65537 := by have hb1 := HR2.out.s.p.q.le; have hb2 := HR2.out.s.p.q.m; simp only [intsV, List.length_map] at hb1; omega
          have hpl : ((pre.length + 1 : Nat) : Int) = (pre.length : Int) + 1 := by omega
          have hl1' : (pre ++ [x]).length = pre.length + 1 := by simp
          have hR6 := hR.round (pre.length + 1)
          rw [hpl] at hR6
          have HR6 : Hid (_ ∧ _ ∧ _) := hR6
          by_cases hxy : x = y
          · subst hxy
            have hpx : pre ++ [x] <+: l2 := by
              obtain ⟨t, rfl⟩ := hpre
              rw [List.getElem?_append_right (Nat.le_refl _), Nat.sub_self] at hy
              cases t with
              | nil => simp at hy
              | cons z t => simp at hy; subst hy; exact ⟨t, by simp⟩
            clear hR hR6 hclD hy hcy hdD
            gi_wp2
            refine only_normal (fun K hK => ?_)
            refine region_round (by kernel_rfl) (by kernel_rfl) (not_lets_onlyN _) (S := fun w' => w'.cell? ⟨Z.heap.size, 0, none⟩ = some (I pre.length) ∧ w'.cell? ⟨w2.heap.size, 0, none⟩ = some (dP (w1.heap.size + 1)) ∧ w'.cell? ⟨w1.heap.size + 1, 2, none⟩ = some (.slice (some ⟨gD, 0, none⟩) l2.length cD) ∧ w'.cell? ⟨gD, pre.length, none⟩ = some (I x)) ⟨hcn, h11, hd2, hcy'⟩ (fun hHeld => ?_)
            refine takeD 0 106 (I pre.length) hHeld rfl rfl (by kernel_rfl) (by kernel_rfl) (by kernel_rfl) (Or.inl ⟨by rfl, fun w' hSw => by obtain ⟨q0, q1, q2, q3⟩ := hSw; go_simp⟩) ?_
            try simp only [Act.put, List.setIfInBounds_toArray, List.set_cons_zero, List.set_cons_succ]
            refine takeD 1 107 (dP (w1.heap.size + 1)) hHeld rfl rfl (by kernel_rfl) (by kernel_rfl) (by kernel_rfl) (Or.inl ⟨by rfl, fun w' hSw => by obtain ⟨q0, q1, q2, q3⟩ := hSw; go_simp⟩) ?_
            try simp only [Act.put, List.setIfInBounds_toArray, List.set_cons_zero, List.set_cons_succ]
            refine takeD 2 108 (dP (w1.heap.size + 1)) hHeld rfl rfl (by kernel_rfl) (by kernel_rfl) (by kernel_rfl) (Or.inl ⟨by rfl, fun w' hSw => by obtain ⟨q0, q1, q2, q3⟩ := hSw; go_simp⟩) ?_
            try simp only [Act.put, List.setIfInBounds_toArray, List.set_cons_zero, List.set_cons_succ]
            refine takeD 3 109 (.pointer (some ⟨w1.heap.size + 1, 2, none⟩)) hHeld rfl rfl (by kernel_rfl) (by kernel_rfl) (by kernel_rfl) (Or.inl ⟨by rfl, fun w' hSw => by obtain ⟨q0, q1, q2, q3⟩ := hSw; go_simp⟩) ?_
            try simp only [Act.put, List.setIfInBounds_toArray, List.set_cons_zero, List.set_cons_succ]
            refine takeD 4 110 (.slice (some ⟨gD, 0, none⟩) l2.length cD) hHeld rfl rfl (by kernel_rfl) (by kernel_rfl) (by kernel_rfl) (Or.inl ⟨by rfl, fun w' hSw => by obtain ⟨q0, q1, q2, q3⟩ := hSw; go_simp⟩) ?_
            try simp only [Act.put, List.setIfInBounds_toArray, List.set_cons_zero, List.set_cons_succ]
            refine takeD 5 111 (I l2.length) hHeld rfl rfl (by kernel_rfl) (by kernel_rfl) (by kernel_rfl) (Or.inl ⟨by rfl, fun w' hSw => by obtain ⟨q0, q1, q2, q3⟩ := hSw; go_simp⟩) ?_
            try simp only [Act.put, List.setIfInBounds_toArray, List.set_cons_zero, List.set_cons_succ]
            refine takeD 6 112 (.bool false) hHeld rfl rfl (by kernel_rfl) (by kernel_rfl) (by kernel_rfl) (Or.inl ⟨by rfl, fun w' hSw => by obtain ⟨q0, q1, q2, q3⟩ := hSw; go_simp⟩) ?_
            try simp only [Act.put, List.setIfInBounds_toArray, List.set_cons_zero, List.set_cons_succ]
            refine takeD 7 113 (.bool false) hHeld rfl rfl (by kernel_rfl) (by kernel_rfl) (by kernel_rfl) (Or.inl ⟨by rfl, fun w' hSw => by obtain ⟨q0, q1, q2, q3⟩ := hSw; go_simp⟩) ?_
            try simp only [Act.put, List.setIfInBounds_toArray, List.set_cons_zero, List.set_cons_succ]
            refine takeD 8 114 (I x) hHeld rfl rfl (by kernel_rfl) (by kernel_rfl) (by kernel_rfl) (Or.inl ⟨by rfl, fun w' hSw => by obtain ⟨q0, q1, q2, q3⟩ := hSw; go_simp⟩) ?_
            try simp only [Act.put, List.setIfInBounds_toArray, List.set_cons_zero, List.set_cons_succ]
            refine takeD 9 115 (dP (w1.heap.size + 1)) hHeld rfl rfl (by kernel_rfl) (by kernel_rfl) (by kernel_rfl) (Or.inl ⟨by rfl, fun w' hSw => by obtain ⟨q0, q1, q2, q3⟩ := hSw; go_simp⟩) ?_
            try simp only [Act.put, List.setIfInBounds_toArray, List.set_cons_zero, List.set_cons_succ]
            refine takeD 10 116 (dP (w1.heap.size + 1)) hHeld rfl rfl (by kernel_rfl) (by kernel_rfl) (by kernel_rfl) (Or.inl ⟨by rfl, fun w' hSw => by obtain ⟨q0, q1, q2, q3⟩ := hSw; go_simp⟩) ?_
            try simp only [Act.put, List.setIfInBounds_toArray, List.set_cons_zero, List.set_cons_succ]
            refine takeD 11 117 (.pointer (some ⟨w1.heap.size + 1, 2, none⟩)) hHeld rfl rfl (by kernel_rfl) (by kernel_rfl) (by kernel_rfl) (Or.inl ⟨by rfl, fun w' hSw => by obtain ⟨q0, q1, q2, q3⟩ := hSw; go_simp⟩) ?_
            try simp only [Act.put, List.setIfInBounds_toArray, List.set_cons_zero, List.set_cons_succ]
            refine takeD 12 118 (.slice (some ⟨gD, 0, none⟩) l2.length cD) hHeld rfl rfl (by kernel_rfl) (by kernel_rfl) (by kernel_rfl) (Or.inl ⟨by rfl, fun w' hSw => by obtain ⟨q0, q1, q2, q3⟩ := hSw; go_simp⟩) ?_
            try simp only [Act.put, List.setIfInBounds_toArray, List.set_cons_zero, List.set_cons_succ]
            refine takeD 13 119 (I pre.length) hHeld rfl rfl (by kernel_rfl) (by kernel_rfl) (by kernel_rfl) (Or.inl ⟨by rfl, fun w' hSw => by obtain ⟨q0, q1, q2, q3⟩ := hSw; go_simp⟩) ?_
            try simp only [Act.put, List.setIfInBounds_toArray, List.set_cons_zero, List.set_cons_succ]
            refine takeD 14 120 (.pointer (some ⟨gD, pre.length, none⟩)) hHeld rfl rfl (by kernel_rfl) (by kernel_rfl) (by kernel_rfl) (Or.inl ⟨by rfl, fun w' hSw => by obtain ⟨q0, q1, q2, q3⟩ := hSw; go_simp⟩) ?_
            try simp only [Act.put, List.setIfInBounds_toArray, List.set_cons_zero, List.set_cons_succ]
            refine takeD 15 121 (I x) hHeld rfl rfl (by kernel_rfl) (by kernel_rfl) (by kernel_rfl) (Or.inl ⟨by rfl, fun w' hSw => by obtain ⟨q0, q1, q2, q3⟩ := hSw; go_simp⟩) ?_
            try simp only [Act.put, List.setIfInBounds_toArray, List.set_cons_zero, List.set_cons_succ]
            refine takeD 16 122 (.bool false) hHeld rfl rfl (by kernel_rfl) (by kernel_rfl) (by kernel_rfl) (Or.inl ⟨by rfl, fun w' hSw => by obtain ⟨q0, q1, q2, q3⟩ := hSw; go_simp⟩) ?_
            try simp only [Act.put, List.setIfInBounds_toArray, List.set_cons_zero, List.set_cons_succ]
            refine takeD 17 123 (.bool false) hHeld rfl rfl (by kernel_rfl) (by kernel_rfl) (by kernel_rfl) (Or.inl ⟨by rfl, fun w' hSw => by obtain ⟨q0, q1, q2, q3⟩ := hSw; go_simp⟩) ?_
            try simp only [Act.put, List.setIfInBounds_toArray, List.set_cons_zero, List.set_cons_succ]
            refine wpAnyH_done (by kernel_rfl) ?_ _
            refine hK.out _ _ ?_
            clear hK K hHeld
            gi_wp2
            exact ⟨HR6.out.1.from _, HR6.out.2.1, by rw [hl1']; exact HR6.out.2.2, hpx⟩
          · have hxb : (x == y) = false := by rw [beq_eq_false_iff_ne]; exact hxy
            have hxn : (x != y) = true := by simp [hxy]
            have hnp : ¬ (pre ++ [x] <+: l2) := fun ⟨t, ht⟩ => by
              rw [← ht, List.append_assoc, List.getElem?_append_right (Nat.le_refl _), Nat.sub_self] at hy
              simp at hy
              exact hxy hy
            clear hR hR6 hclD hy hcy hdD
            gi_wp2
            refine only_normal (fun K hK => ?_)
            refine region_round (by kernel_rfl) (by kernel_rfl) (not_lets_onlyN _) (S := fun w' => w'.cell? ⟨Z.heap.size, 0, none⟩ = some (I pre.length) ∧ w'.cell? ⟨w2.heap.size, 0, none⟩ = some (dP (w1.heap.size + 1)) ∧ w'.cell? ⟨w1.heap.size + 1, 2, none⟩ = some (.slice (some ⟨gD, 0, none⟩) l2.length cD) ∧ w'.cell? ⟨gD, pre.length, none⟩ = some (I y)) ⟨hcn, h11, hd2, hcy'⟩ (fun hHeld => ?_)
            refine takeD 0 106 (I pre.length) hHeld rfl rfl (by kernel_rfl) (by kernel_rfl) (by kernel_rfl) (Or.inl ⟨by rfl, fun w' hSw => by obtain ⟨q0, q1, q2, q3⟩ := hSw; go_simp⟩) ?_
            try simp only [Act.put, List.setIfInBounds_toArray, List.set_cons_zero, List.set_cons_succ]
            refine takeD 1 107 (dP (w1.heap.size + 1)) hHeld rfl rfl (by kernel_rfl) (by kernel_rfl) (by kernel_rfl) (Or.inl ⟨by rfl, fun w' hSw => by obtain ⟨q0, q1, q2, q3⟩ := hSw; go_simp⟩) ?_
            try simp only [Act.put, List.setIfInBounds_toArray, List.set_cons_zero, List.set_cons_succ]
            refine takeD 2 108 (dP (w1.heap.size + 1)) hHeld rfl rfl (by kernel_rfl) (by kernel_rfl) (by kernel_rfl) (Or.inl ⟨by rfl, fun w' hSw => by obtain ⟨q0, q1, q2, q3⟩ := hSw; go_simp⟩) ?_
            try simp only [Act.put, List.setIfInBounds_toArray, List.set_cons_zero, List.set_cons_succ]
            refine takeD 3 109 (.pointer (some ⟨w1.heap.size + 1, 2, none⟩)) hHeld rfl rfl (by kernel_rfl) (by kernel_rfl) (by kernel_rfl) (Or.inl ⟨by rfl, fun w' hSw => by obtain ⟨q0, q1, q2, q3⟩ := hSw; go_simp⟩) ?_
            try simp only [Act.put, List.setIfInBounds_toArray, List.set_cons_zero, List.set_cons_succ]
            refine takeD 4 110 (.slice (some ⟨gD, 0, none⟩) l2.length cD) hHeld rfl rfl (by kernel_rfl) (by kernel_rfl) (by kernel_rfl) (Or.inl ⟨by rfl, fun w' hSw => by obtain ⟨q0, q1, q2, q3⟩ := hSw; go_simp⟩) ?_
            try simp only [Act.put, List.setIfInBounds_toArray, List.set_cons_zero, List.set_cons_succ]
            refine takeD 5 111 (I l2.length) hHeld rfl rfl (by kernel_rfl) (by kernel_rfl) (by kernel_rfl) (Or.inl ⟨by rfl, fun w' hSw => by obtain ⟨q0, q1, q2, q3⟩ := hSw; go_simp⟩) ?_
            try simp only [Act.put, List.setIfInBounds_toArray, List.set_cons_zero, List.set_cons_succ]
            refine takeD 6 112 (.bool false) hHeld rfl rfl (by kernel_rfl) (by kernel_rfl) (by kernel_rfl) (Or.inl ⟨by rfl, fun w' hSw => by obtain ⟨q0, q1, q2, q3⟩ := hSw; go_simp⟩) ?_
            try simp only [Act.put, List.setIfInBounds_toArray, List.set_cons_zero, List.set_cons_succ]
            refine takeD 7 113 (.bool false) hHeld rfl rfl (by kernel_rfl) (by kernel_rfl) (by kernel_rfl) (Or.inl ⟨by rfl, fun w' hSw => by obtain ⟨q0, q1, q2, q3⟩ := hSw; go_simp⟩) ?_
            try simp only [Act.put, List.setIfInBounds_toArray, List.set_cons_zero, List.set_cons_succ]
            refine takeD 8 114 (I x) hHeld rfl rfl (by kernel_rfl) (by kernel_rfl) (by kernel_rfl) (Or.inl ⟨by rfl, fun w' hSw => by obtain ⟨q0, q1, q2, q3⟩ := hSw; go_simp⟩) ?_
            try simp only [Act.put, List.setIfInBounds_toArray, List.set_cons_zero, List.set_cons_succ]
            refine takeD 9 115 (dP (w1.heap.size + 1)) hHeld rfl rfl (by kernel_rfl) (by kernel_rfl) (by kernel_rfl) (Or.inl ⟨by rfl, fun w' hSw => by obtain ⟨q0, q1, q2, q3⟩ := hSw; go_simp⟩) ?_
            try simp only [Act.put, List.setIfInBounds_toArray, List.set_cons_zero, List.set_cons_succ]
            refine takeD 10 116 (dP (w1.heap.size + 1)) hHeld rfl rfl (by kernel_rfl) (by kernel_rfl) (by kernel_rfl) (Or.inl ⟨by rfl, fun w' hSw => by obtain ⟨q0, q1, q2, q3⟩ := hSw; go_simp⟩) ?_
            try simp only [Act.put, List.setIfInBounds_toArray, List.set_cons_zero, List.set_cons_succ]
            refine takeD 11 117 (.pointer (some ⟨w1.heap.size + 1, 2, none⟩)) hHeld rfl rfl (by kernel_rfl) (by kernel_rfl) (by kernel_rfl) (Or.inl ⟨by rfl, fun w' hSw => by obtain ⟨q0, q1, q2, q3⟩ := hSw; go_simp⟩) ?_
            try simp only [Act.put, List.setIfInBounds_toArray, List.set_cons_zero, List.set_cons_succ]
            refine takeD 12 118 (.slice (some ⟨gD, 0, none⟩) l2.length cD) hHeld rfl rfl (by kernel_rfl) (by kernel_rfl) (by kernel_rfl) (Or.inl ⟨by rfl, fun w' hSw => by obtain ⟨q0, q1, q2, q3⟩ := hSw; go_simp⟩) ?_
            try simp only [Act.put, List.setIfInBounds_toArray, List.set_cons_zero, List.set_cons_succ]
            refine takeD 13 119 (I pre.length) hHeld rfl rfl (by kernel_rfl) (by kernel_rfl) (by kernel_rfl) (Or.inl ⟨by rfl, fun w' hSw => by obtain ⟨q0, q1, q2, q3⟩ := hSw; go_simp⟩) ?_
            try simp only [Act.put, List.setIfInBounds_toArray, List.set_cons_zero, List.set_cons_succ]
            refine takeD 14 120 (.pointer (some ⟨gD, pre.length, none⟩)) hHeld rfl rfl (by kernel_rfl) (by kernel_rfl) (by kernel_rfl) (Or.inl ⟨by rfl, fun w' hSw => by obtain ⟨q0, q1, q2, q3⟩ := hSw; go_simp⟩) ?_
            try simp only [Act.put, List.setIfInBounds_toArray, List.set_cons_zero, List.set_cons_succ]
            refine takeD 15 121 (I y) hHeld rfl rfl (by kernel_rfl) (by kernel_rfl) (by kernel_rfl) (Or.inl ⟨by rfl, fun w' hSw => by obtain ⟨q0, q1, q2, q3⟩ := hSw; go_simp⟩) ?_
            try simp only [Act.put, List.setIfInBounds_toArray, List.set_cons_zero, List.set_cons_succ]
            refine takeD 16 122 (.bool true) hHeld rfl rfl (by kernel_rfl) (by kernel_rfl) (by kernel_rfl) (Or.inl ⟨by rfl, fun w' hSw => by obtain ⟨q0, q1, q2, q3⟩ := hSw; go_simp⟩) ?_
            try simp only [Act.put, List.setIfInBounds_toArray, List.set_cons_zero, List.set_cons_succ]
            refine takeD 17 123 (.bool true) hHeld rfl rfl (by kernel_rfl) (by kernel_rfl) (by kernel_rfl) (Or.inl ⟨by rfl, fun w' hSw => by obtain ⟨q0, q1, q2, q3⟩ := hSw; go_simp⟩) ?_
            try simp only [Act.put, List.setIfInBounds_toArray, List.set_cons_zero, List.set_cons_succ]
            refine wpAnyH_done (by kernel_rfl) ?_ _
            refine hK.out _ _ ?_
            clear hK K hHeld
            gi_wp2
            exact ⟨((KeepsOthers.drew _).trans (KeepsOthers.setCell _ _ _)).from _, rfl, hnp⟩
        case done2 =>
          intro D2 xs Y hD2 hxs hI hDy
          subst hA2
          obtain ⟨hR, hpre⟩ := hI
          subst hxs
          have hcn := hR.c.cell
          have h9 := hR.s.x9.cell
          have h11 := hR.s.x11.cell
          obtain ⟨vD, hdD, _⟩ := hR.s.p.d
          have hd2 := hdD.cells.2.2.1
          obtain ⟨aD, cD, rfl⟩ := own_sl hdD.p
          have HdD : Hid (Dg Y (w1.heap.size + 1) n hi2 (.slice aD xs.length cD) xs) := hdD
          have HRY : Hid (R2 W Y W.heap.size (W.heap.size + 1) (W.heap.size + 1 + 1) w1.heap.size w2.heap.size (W.heap.size + 1 + 1 + 1 + 1) (W.heap.size + 1 + 1 + 1) (w1.heap.size + 1) n (.slice a2 dur.length c2) lv Z.heap.size D1 hi2 xs xs.length) := hR
          have Pt := told_any _ _ _ _ _ _ _ (hR.below (Below.refl _ Y).drew).s.p
          have hn18 : W.heap.size + 1 + 1 ≠ Z.heap.size := fun e => hR.n1 (by simp [← e])
          have hn11 : W.heap.size + 1 + 1 ≠ w2.heap.size := by omega
          have hnD : W.heap.size + 1 + 1 ≠ w1.heap.size + 1 := by omega
          have hn9 : W.heap.size + 1 + 1 ≠ w1.heap.size := by omega
          have HDy : Hid (Y.heap[D2]? = some (.deferred (some []))) := hDy
          clear hR hdD hpre hDy cS8 lq8 hg2
          go_wp2
          go_region_held_law (fun w' => w'.cell? ⟨Z.heap.size, 0, none⟩ = some (I xs.length) ∧ w'.cell? ⟨w2.heap.size, 0, none⟩ = some (dP (w1.heap.size + 1)) ∧ w'.cell? ⟨w1.heap.size + 1, 2, none⟩ = some (.slice aD xs.length cD) ∧ w'.cell? ⟨w1.heap.size, 0, none⟩ = some (iP (W.heap.size + 1 + 1 + 1 + 1)))
            (first | exact ⟨hcn, h11, hd2, h9⟩ | exact ⟨z18, z11, zd2, z9⟩ | exact ⟨y18, y11, yd2, y9⟩ | exact ⟨(World.cell?_setCell_far _ _ _ _ hn18).trans y18, (World.cell?_setCell_far _ _ _ _ hn11).trans y11, (World.cell?_setCell_far _ _ _ _ hnD).trans yd2, (World.cell?_setCell_far _ _ _ _ hn9).trans y9⟩)
            (first
              | (go_at_call 32; refine Pt.mono ?_; rintro e w7 ⟨rfl, b7⟩; have b07 : Below Y.heap.size Y w7 := (Below.refl _ Y).drew.trans b7; have z18 := (HRY.out.below b07).c.cell; have z11 := (HRY.out.below b07).s.x11.cell; have zd2 := (HdD.out.below b07).cells.2.2.1; have z9 := (HRY.out.below b07).s.x9.cell)
              | (go_at_call 14; refine (alive_any _).mono ?_; rintro e w8 ⟨rfl, b8⟩; have b08 : Below Y.heap.size Y w8 := b07.trans (b8.mono b07.size); have y18 := (HRY.out.below b08).c.cell; have y11 := (HRY.out.below b08).s.x11.cell; have yd2 := (HdD.out.below b08).cells.2.2.1; have y9 := (HRY.out.below b08).s.x9.cell; have y8 := (HRY.out.below b08).s.x8.cell; have yz8 := (HRY.out.below b08).s.x8.frozen))
          go_wp2
          have r8 := HRY.out.below b08
          have x8' := r8.s.x8
          have f8 : Fx [W.heap.size + 1 + 1] w8 (w8.setCell ⟨W.heap.size + 1 + 1, 0, none⟩ (.bool true)) := (Fx.refl _ _).set (b := W.heap.size + 1 + 1) (.inl (by simp)) _ _
          have d2 : w8.heap[D2]? = some (.deferred (some [])) := (b08.block _ (heap_lt HDy.out)).trans HDy.out
          have m2 : D2 ∉ [W.heap.size + 1 + 1] := fun e => by simp at e; have := HR2.out.s.x8.lt; omega
          have m1 : D1 ∉ [W.heap.size + 1 + 1] := fun e => by simp at e; have h := r8.d; rw [e] at h; unfold Boxed at x8'; rw [x8'] at h; cases h
          show LeavesInM Fence.wide 3 _ _ _ _ _ _ _
          exact leave2 (p := 8) rfl rfl (x8'.set _) ((f8.block _ (heap_lt d2) m2).trans d2) ((f8.block _ (heap_lt r8.d) m1).trans r8.d) (by omega) (r8.s.b.trans (f8.below r8.s.b.size (by simp; omega))) (by omega) (by omega)
        case stop2 =>
          rintro D2 c pre Y hD2 hpre ⟨rfl, hnp⟩ hDy
          exact absurd hpre hnp
      case stop =>
        rintro D1 c pre Z hD1 hpre (⟨rfl, hnp⟩ | ⟨rfl, hR, _, hlv⟩) hDz
        · exact absurd hpre hnp
        · subst hA
          have hcn := hR.c.cell
          have hcw := hR.w.cell
          have hc7 : Z.cell? ⟨W.heap.size + 1, 0, none⟩ = some (I pre.length) := by obtain ⟨_, _, s7⟩ := hR.s; rw [hlv]; exact s7.x7.cell
          by_cases hkl : pre.length = l.length
          · have hkb : ((pre.length : Int) != l.length) = false := by simp [hkl]
            obtain ⟨hi2, l2, r2, xq⟩ := hR.second hDz
            have HR2 : Hid (R2 W (Z.alloc (.cells #[.int .i64 0] 3)) W.heap.size (W.heap.size + 1) (W.heap.size + 1 + 1) w1.heap.size w2.heap.size (W.heap.size + 1 + 1 + 1 + 1) (W.heap.size + 1 + 1 + 1) (w1.heap.size + 1) n (.slice a2 dur.length c2) lv Z.heap.size D1 hi2 l2 0) := r2
            have cS8 : (Z.alloc (.cells #[.int .i64 0] 3)).cell? ⟨wr.heap.size, 0, none⟩ = some (iP (W.heap.size + 1 + 1 + 1 + 1)) := xq.cell
            have lq8 := xq.lt
            have hs8 : (Z.alloc (.cells #[.int .i64 0] 3)).heap.size = Z.heap.size + 1 := by simp
            have lD1 : D1 < (Z.alloc (.cells #[.int .i64 0] 3)).heap.size := heap_lt r2.d
            have hWs8 : W.heap.size ≤ (Z.alloc (.cells #[.int .i64 0] 3)).heap.size := r2.s.b.size
            clear r2 xq hR
            gi_wp2
            go_wp2
            clear hcn hcw hc7
            generalize (Z.alloc (.cells #[.int .i64 0] 3)) = Z8 at *
            refine (wpIn_wide (n := 3)).1 ?_
            generalize hA2 : ({ tmps := _, defers := _ } : Act) = aa
            have hg2 : aa.eval (.tmp 104) = .func (.func 54) #[] #[.pointer (some ⟨wr.heap.size, 0, none⟩)] := by rw [← hA2]; rfl
            refine wpIn_rangeFunc_ownG (α := Int) rfl (by omega) (gf := 54) (lb := #[.pointer (some ⟨wr.heap.size, 0, none⟩)]) hg2 trivial (enters_of Try.func54 (by kernel_rfl) rfl)
              (All_stops (3 - 1) (by omega) wr.heap.size (fun _ b => b ∈ [Z.heap.size]) l2 _ _ n hi2 Z8 lq8 cS8 HR2.out.s.p.q (fun _ b _ hb => by simp at hb; omega)) Kq.trans (Kq.put (fun _ _ _ _ _ hm => hm)) (Below.refl _ _) (fun _ => rfl)
              (fun pre Y => R2 W Y W.heap.size (W.heap.size + 1) (W.heap.size + 1 + 1) w1.heap.size w2.heap.size (W.heap.size + 1 + 1 + 1 + 1) (W.heap.size + 1 + 1 + 1) (w1.heap.size + 1) n (.slice a2 dur.length c2) lv Z.heap.size D1 hi2 l2 pre.length ∧ pre <+: l2)
              (fun c pre Y => c = .ret ∧ ¬ pre <+: l2)
              (fun pre Y Y' row hI hg hr => ⟨hI.1.noC (Fx.turn hg) (noC_turn (fun r e => (hr r e).2)) (fun x hx => Nat.le_trans hWs8 (hr x (by simpa using hx)).1) (fun e => by have := (hr D1 (by simpa using e)).1; omega), hI.2⟩)
              (fun c pre Y Y' row hI hg hr => hI)
              ⟨HR2.out, List.nil_prefix⟩
              (fun x => { tmps := (aa.tmps.setIfInBounds 105 (.int .i64 x)).setIfInBounds 19 (.int .i64 x), defers := [] }) ?assign2 ?body2 ?done2 ?stop2
            case assign2 =>
              intro lp x Y K hK
              subst hA2
              simp only [List.setIfInBounds_toArray, List.set_cons_succ, List.set_cons_zero] at hK
              gi_wp2
              exact hK
            case body2 =>
              rintro lp pre x Y ⟨hR, hpre⟩ hlt
              subst hA2
              simp only [List.setIfInBounds_toArray, List.set_cons_succ, List.set_cons_zero]
              have hcn := hR.c.cell
              have hzn := hR.c.frozen
              have h11 := hR.s.x11.cell
              have h8 := hR.s.x8.cell
              have hz8 := hR.s.x8.frozen
              obtain ⟨vD, hdD, _⟩ := hR.s.p.d
              have hd2 := hdD.cells.2.2.1
              obtain ⟨y, hy⟩ : ∃ y, l2[pre.length]? = some y := ⟨_, List.getElem?_eq_getElem hlt⟩
              obtain ⟨gD, cD, e9, _, hclD⟩ := own_cell hdD.p (by omega)
              subst e9
              have hcy := hclD _ _ hy
              have hltI : ¬ (l2.length : Int) ≤ pre.length := by omega
              have hdec : decide ((l2.length : Int) ≤ pre.length) = false := by simpa using hltI
              have hge0 : ¬ (pre.length : Int) < 0 := by omega
              have hltJ : (pre.length : Int) < l2.length := by omega
              have hcy' : Y.cell? ⟨gD, pre.length, none⟩ = some (I y) := by simpa using hcy
              have hb5 : (pre.length : Int) < 65537 := by have hb1 := HR2.out.s.p.q.le; have hb2 := HR2.out.s.p.q.m; simp only [intsV, List.length_map] at hb1; omega
              have hpl : ((pre.length + 1 : Nat) : Int) = (pre.length : Int) + 1 := by omega
              have hl1' : (pre ++ [x]).length = pre.length + 1 := by simp
              have hR6 := hR.round (pre.length + 1)
              rw [hpl] at hR6
              have HR6 : Hid (_ ∧ _ ∧ _) := hR6
              by_cases hxy : x = y
              · subst hxy
                have hpx : pre ++ [x] <+: l2 := by
                  obtain ⟨t, rfl⟩ := hpre
                  rw [List.getElem?_append_right (Nat.le_refl _), Nat.sub_self] at hy
                  cases t with
                  | nil => simp at hy
                  | cons z t => simp at hy; subst hy; exact ⟨t, by simp⟩
                clear hR hR6 hclD hy hcy hdD
                gi_wp2
                refine only_normal (fun K hK => ?_)
                refine region_round (by kernel_rfl) (by kernel_rfl) (not_lets_onlyN _) (S := fun w' => w'.cell? ⟨Z.heap.size, 0, none⟩ = some (I pre.length) ∧ w'.cell? ⟨w2.heap.size, 0, none⟩ = some (dP (w1.heap.size + 1)) ∧ w'.cell? ⟨w1.heap.size + 1, 2, none⟩ = some (.slice (some ⟨gD, 0, none⟩) l2.length cD) ∧ w'.cell? ⟨gD, pre.length, none⟩ = some (I x)) ⟨hcn, h11, hd2, hcy'⟩ (fun hHeld => ?_)
                refine takeD 0 106 (I pre.length) hHeld rfl rfl (by kernel_rfl) (by kernel_rfl) (by kernel_rfl) (Or.inl ⟨by rfl, fun w' hSw => by obtain ⟨q0, q1, q2, q3⟩ := hSw; go_simp⟩) ?_
                try simp only [Act.put, List.setIfInBounds_toArray, List.set_cons_zero, List.set_cons_succ]
                refine takeD 1 107 (dP (w1.heap.size + 1)) hHeld rfl rfl (by kernel_rfl) (by kernel_rfl) (by kernel_rfl) (Or.inl ⟨by rfl, fun w' hSw => by obtain ⟨q0, q1, q2, q3⟩ := hSw; go_simp⟩) ?_
                try simp only [Act.put, List.setIfInBounds_toArray, List.set_cons_zero, List.set_cons_succ]
                refine takeD 2 108 (dP (w1.heap.size + 1)) hHeld rfl rfl (by kernel_rfl) (by kernel_rfl) (by kernel_rfl) (Or.inl ⟨by rfl, fun w' hSw => by obtain ⟨q0, q1, q2, q3⟩ := hSw; go_simp⟩) ?_
                try simp only [Act.put, List.setIfInBounds_toArray, List.set_cons_zero, List.set_cons_succ]
                refine takeD 3 109 (.pointer (some ⟨w1.heap.size + 1, 2, none⟩)) hHeld rfl rfl (by kernel_rfl) (by kernel_rfl) (by kernel_rfl) (Or.inl ⟨by rfl, fun w' hSw => by obtain ⟨q0, q1, q2, q3⟩ := hSw; go_simp⟩) ?_
                try simp only [Act.put, List.setIfInBounds_toArray, List.set_cons_zero, List.set_cons_succ]
                refine takeD 4 110 (.slice (some ⟨gD, 0, none⟩) l2.length cD) hHeld rfl rfl (by kernel_rfl) (by kernel_rfl) (by kernel_rfl) (Or.inl ⟨by rfl, fun w' hSw => by obtain ⟨q0, q1, q2, q3⟩ := hSw; go_simp⟩) ?_
                try simp only [Act.put, List.setIfInBounds_toArray, List.set_cons_zero, List.set_cons_succ]
                refine takeD 5 111 (I l2.length) hHeld rfl rfl (by kernel_rfl) (by kernel_rfl) (by kernel_rfl) (Or.inl ⟨by rfl, fun w' hSw => by obtain ⟨q0, q1, q2, q3⟩ := hSw; go_simp⟩) ?_
                try simp only [Act.put, List.setIfInBounds_toArray, List.set_cons_zero, List.set_cons_succ]
                refine takeD 6 112 (.bool false) hHeld rfl rfl (by kernel_rfl) (by kernel_rfl) (by kernel_rfl) (Or.inl ⟨by rfl, fun w' hSw => by obtain ⟨q0, q1, q2, q3⟩ := hSw; go_simp⟩) ?_
                try simp only [Act.put, List.setIfInBounds_toArray, List.set_cons_zero, List.set_cons_succ]
                refine takeD 7 113 (.bool false) hHeld rfl rfl (by kernel_rfl) (by kernel_rfl) (by kernel_rfl) (Or.inl ⟨by rfl, fun w' hSw => by obtain ⟨q0, q1, q2, q3⟩ := hSw; go_simp⟩) ?_
                try simp only [Act.put, List.setIfInBounds_toArray, List.set_cons_zero, List.set_cons_succ]
                refine takeD 8 114 (I x) hHeld rfl rfl (by kernel_rfl) (by kernel_rfl) (by kernel_rfl) (Or.inl ⟨by rfl, fun w' hSw => by obtain ⟨q0, q1, q2, q3⟩ := hSw; go_simp⟩) ?_
                try simp only [Act.put, List.setIfInBounds_toArray, List.set_cons_zero, List.set_cons_succ]
                refine takeD 9 115 (dP (w1.heap.size + 1)) hHeld rfl rfl (by kernel_rfl) (by kernel_rfl) (by kernel_rfl) (Or.inl ⟨by rfl, fun w' hSw => by obtain ⟨q0, q1, q2, q3⟩ := hSw; go_simp⟩) ?_
                try simp only [Act.put, List.setIfInBounds_toArray, List.set_cons_zero, List.set_cons_succ]
                refine takeD 10 116 (dP (w1.heap.size + 1)) hHeld rfl rfl (by kernel_rfl) (by kernel_rfl) (by kernel_rfl) (Or.inl ⟨by rfl, fun w' hSw => by obtain ⟨q0, q1, q2, q3⟩ := hSw; go_simp⟩) ?_
                try simp only [Act.put, List.setIfInBounds_toArray, List.set_cons_zero, List.set_cons_succ]
                refine takeD 11 117 (.pointer (some ⟨w1.heap.size + 1, 2, none⟩)) hHeld rfl rfl (by kernel_rfl) (by kernel_rfl) (by kernel_rfl) (Or.inl ⟨by rfl, fun w' hSw => by obtain ⟨q0, q1, q2, q3⟩ := hSw; go_simp⟩) ?_
                try simp only [Act.put, List.setIfInBounds_toArray, List.set_cons_zero, List.set_cons_succ]
                refine takeD 12 118 (.slice (some ⟨gD, 0, none⟩) l2.length cD) hHeld rfl rfl (by kernel_rfl) (by kernel_rfl) (by kernel_rfl) (Or.inl ⟨by rfl, fun w' hSw => by obtain ⟨q0, q1, q2, q3⟩ := hSw; go_simp⟩) ?_
                try simp only [Act.put, List.setIfInBounds_toArray, List.set_cons_zero, List.set_cons_succ]
                refine takeD 13 119 (I pre.length) hHeld rfl rfl (by kernel_rfl) (by kernel_rfl) (by kernel_rfl) (Or.inl ⟨by rfl, fun w' hSw => by obtain ⟨q0, q1, q2, q3⟩ := hSw; go_simp⟩) ?_
                try simp only [Act.put, List.setIfInBounds_toArray, List.set_cons_zero, List.set_cons_succ]
                refine takeD 14 120 (.pointer (some ⟨gD, pre.length, none⟩)) hHeld rfl rfl (by kernel_rfl) (by kernel_rfl) (by kernel_rfl) (Or.inl ⟨by rfl, fun w' hSw => by obtain ⟨q0, q1, q2, q3⟩ := hSw; go_simp⟩) ?_
                try simp only [Act.put, List.setIfInBounds_toArray, List.set_cons_zero, List.set_cons_succ]
                refine takeD 15 121 (I x) hHeld rfl rfl (by kernel_rfl) (by kernel_rfl) (by kernel_rfl) (Or.inl ⟨by rfl, fun w' hSw => by obtain ⟨q0, q1, q2, q3⟩ := hSw; go_simp⟩) ?_
                try simp only [Act.put, List.setIfInBounds_toArray, List.set_cons_zero, List.set_cons_succ]
                refine takeD 16 122 (.bool false) hHeld rfl rfl (by kernel_rfl) (by kernel_rfl) (by kernel_rfl) (Or.inl ⟨by rfl, fun w' hSw => by obtain ⟨q0, q1, q2, q3⟩ := hSw; go_simp⟩) ?_
                try simp only [Act.put, List.setIfInBounds_toArray, List.set_cons_zero, List.set_cons_succ]
                refine takeD 17 123 (.bool false) hHeld rfl rfl (by kernel_rfl) (by kernel_rfl) (by kernel_rfl) (Or.inl ⟨by rfl, fun w' hSw => by obtain ⟨q0, q1, q2, q3⟩ := hSw; go_simp⟩) ?_
                try simp only [Act.put, List.setIfInBounds_toArray, List.set_cons_zero, List.set_cons_succ]
                refine wpAnyH_done (by kernel_rfl) ?_ _
                refine hK.out _ _ ?_
                clear hK K hHeld
                gi_wp2
                exact ⟨HR6.out.1.from _, HR6.out.2.1, by rw [hl1']; exact HR6.out.2.2, hpx⟩
              · have hxb : (x == y) = false := by rw [beq_eq_false_iff_ne]; exact hxy
                have hxn : (x != y) = true := by simp [hxy]
                have hnp : ¬ (pre ++ [x] <+: l2) := fun ⟨t, ht⟩ => by
                  rw [← ht, List.append_assoc, List.getElem?_append_right (Nat.le_refl _), Nat.sub_self] at hy
                  simp at hy
                  exact hxy hy
                clear hR hR6 hclD hy hcy hdD
                gi_wp2
                refine only_normal (fun K hK => ?_)
                refine region_round (by kernel_rfl) (by kernel_rfl) (not_lets_onlyN _) (S := fun w' => w'.cell? ⟨Z.heap.size, 0, none⟩ = some (I pre.length) ∧ w'.cell? ⟨w2.heap.size, 0, none⟩ = some (dP (w1.heap.size + 1)) ∧ w'.cell? ⟨w1.heap.size + 1, 2, none⟩ = some (.slice (some ⟨gD, 0, none⟩) l2.length cD) ∧ w'.cell? ⟨gD, pre.length, none⟩ = some (I y)) ⟨hcn, h11, hd2, hcy'⟩ (fun hHeld => ?_)
                refine takeD 0 106 (I pre.length) hHeld rfl rfl (by kernel_rfl) (by kernel_rfl) (by kernel_rfl) (Or.inl ⟨by rfl, fun w' hSw => by obtain ⟨q0, q1, q2, q3⟩ := hSw; go_simp⟩) ?_
                try simp only [Act.put, List.setIfInBounds_toArray, List.set_cons_zero, List.set_cons_succ]
                refine takeD 1 107 (dP (w1.heap.size + 1)) hHeld rfl rfl (by kernel_rfl) (by kernel_rfl) (by kernel_rfl) (Or.inl ⟨by rfl, fun w' hSw => by obtain ⟨q0, q1, q2, q3⟩ := hSw; go_simp⟩) ?_
                try simp only [Act.put, List.setIfInBounds_toArray, List.set_cons_zero, List.set_cons_succ]
                refine takeD 2 108 (dP (w1.heap.size + 1)) hHeld rfl rfl (by kernel_rfl) (by kernel_rfl) (by kernel_rfl) (Or.inl ⟨by rfl, fun w' hSw => by obtain ⟨q0, q1, q2, q3⟩ := hSw; go_simp⟩) ?_
                try simp only [Act.put, List.setIfInBounds_toArray, List.set_cons_zero, List.set_cons_succ]
                refine takeD 3 109 (.pointer (some ⟨w1.heap.size + 1, 2, none⟩)) hHeld rfl rfl (by kernel_rfl) (by kernel_rfl) (by kernel_rfl) (Or.inl ⟨by rfl, fun w' hSw => by obtain ⟨q0, q1, q2, q3⟩ := hSw; go_simp⟩) ?_
                try simp only [Act.put, List.setIfInBounds_toArray, List.set_cons_zero, List.set_cons_succ]
                refine takeD 4 110 (.slice (some ⟨gD, 0, none⟩) l2.length cD) hHeld rfl rfl (by kernel_rfl) (by kernel_rfl) (by kernel_rfl) (Or.inl ⟨by rfl, fun w' hSw => by obtain ⟨q0, q1, q2, q3⟩ := hSw; go_simp⟩) ?_
                try simp only [Act.put, List.setIfInBounds_toArray, List.set_cons_zero, List.set_cons_succ]
                refine takeD 5 111 (I l2.length) hHeld rfl rfl (by kernel_rfl) (by kernel_rfl) (by kernel_rfl) (Or.inl ⟨by rfl, fun w' hSw => by obtain ⟨q0, q1, q2, q3⟩ := hSw; go_simp⟩) ?_
                try simp only [Act.put, List.setIfInBounds_toArray, List.set_cons_zero, List.set_cons_succ]
                refine takeD 6 112 (.bool false) hHeld rfl rfl (by kernel_rfl) (by kernel_rfl) (by kernel_rfl) (Or.inl ⟨by rfl, fun w' hSw => by obtain ⟨q0, q1, q2, q3⟩ := hSw; go_simp⟩) ?_
                try simp only [Act.put, List.setIfInBounds_toArray, List.set_cons_zero, List.set_cons_succ]
                refine takeD 7 113 (.bool false) hHeld rfl rfl (by kernel_rfl) (by kernel_rfl) (by kernel_rfl) (Or.inl ⟨by rfl, fun w' hSw => by obtain ⟨q0, q1, q2, q3⟩ := hSw; go_simp⟩) ?_
                try simp only [Act.put, List.setIfInBounds_toArray, List.set_cons_zero, List.set_cons_succ]
                refine takeD 8 114 (I x) hHeld rfl rfl (by kernel_rfl) (by kernel_rfl) (by kernel_rfl) (Or.inl ⟨by rfl, fun w' hSw => by obtain ⟨q0, q1, q2, q3⟩ := hSw; go_simp⟩) ?_
                try simp only [Act.put, List.setIfInBounds_toArray, List.set_cons_zero, List.set_cons_succ]
                refine takeD 9 115 (dP (w1.heap.size + 1)) hHeld rfl rfl (by kernel_rfl) (by kernel_rfl) (by kernel_rfl) (Or.inl ⟨by rfl, fun w' hSw => by obtain ⟨q0, q1, q2, q3⟩ := hSw; go_simp⟩) ?_
                try simp only [Act.put, List.setIfInBounds_toArray, List.set_cons_zero, List.set_cons_succ]
                refine takeD 10 116 (dP (w1.heap.size + 1)) hHeld rfl rfl (by kernel_rfl) (by kernel_rfl) (by kernel_rfl) (Or.inl ⟨by rfl, fun w' hSw => by obtain ⟨q0, q1, q2, q3⟩ := hSw; go_simp⟩) ?_
                try simp only [Act.put, List.setIfInBounds_toArray, List.set_cons_zero, List.set_cons_succ]
                refine takeD 11 117 (.pointer (some ⟨w1.heap.size + 1, 2, none⟩)) hHeld rfl rfl (by kernel_rfl) (by kernel_rfl) (by kernel_rfl) (Or.inl ⟨by rfl, fun w' hSw => by obtain ⟨q0, q1, q2, q3⟩ := hSw; go_simp⟩) ?_
                try simp only [Act.put, List.setIfInBounds_toArray, List.set_cons_zero, List.set_cons_succ]
                refine takeD 12 118 (.slice (some ⟨gD, 0, none⟩) l2.length cD) hHeld rfl rfl (by kernel_rfl) (by kernel_rfl) (by kernel_rfl) (Or.inl ⟨by rfl, fun w' hSw => by obtain ⟨q0, q1, q2, q3⟩ := hSw; go_simp⟩) ?_
                try simp only [Act.put, List.setIfInBounds_toArray, List.set_cons_zero, List.set_cons_succ]
                refine takeD 13 119 (I pre.length) hHeld rfl rfl (by kernel_rfl) (by kernel_rfl) (by kernel_rfl) (Or.inl ⟨by rfl, fun w' hSw => by obtain ⟨q0, q1, q2, q3⟩ := hSw; go_simp⟩) ?_
                try simp only [Act.put, List.setIfInBounds_toArray, List.set_cons_zero, List.set_cons_succ]
                refine takeD 14 120 (.pointer (some ⟨gD, pre.length, none⟩)) hHeld rfl rfl (by kernel_rfl) (by kernel_rfl) (by kernel_rfl) (Or.inl ⟨by rfl, fun w' hSw => by obtain ⟨q0, q1, q2, q3⟩ := hSw; go_simp⟩) ?_
                try simp only [Act.put, List.setIfInBounds_toArray, List.set_cons_zero, List.set_cons_succ]
                refine takeD 15 121 (I y) hHeld rfl rfl (by kernel_rfl) (by kernel_rfl) (by kernel_rfl) (Or.inl ⟨by rfl, fun w' hSw => by obtain ⟨q0, q1, q2, q3⟩ := hSw; go_simp⟩) ?_
                try simp only [Act.put, List.setIfInBounds_toArray, List.set_cons_zero, List.set_cons_succ]
                refine takeD 16 122 (.bool true) hHeld rfl rfl (by kernel_rfl) (by kernel_rfl) (by kernel_rfl) (Or.inl ⟨by rfl, fun w' hSw => by obtain ⟨q0, q1, q2, q3⟩ := hSw; go_simp⟩) ?_
                try simp only [Act.put, List.setIfInBounds_toArray, List.set_cons_zero, List.set_cons_succ]
                refine takeD 17 123 (.bool true) hHeld rfl rfl (by kernel_rfl) (by kernel_rfl) (by kernel_rfl) (Or.inl ⟨by rfl, fun w' hSw => by obtain ⟨q0, q1, q2, q3⟩ := hSw; go_simp⟩) ?_
                try simp only [Act.put, List.setIfInBounds_toArray, List.set_cons_zero, List.set_cons_succ]
                refine wpAnyH_done (by kernel_rfl) ?_ _
                refine hK.out _ _ ?_
                clear hK K hHeld
                gi_wp2
                exact ⟨((KeepsOthers.drew _).trans (KeepsOthers.setCell _ _ _)).from _, rfl, hnp⟩
            case done2 =>
              intro D2 xs Y hD2 hxs hI hDy
              subst hA2
              obtain ⟨hR, hpre⟩ := hI
              subst hxs
              have hcn := hR.c.cell
              have h9 := hR.s.x9.cell
              have h11 := hR.s.x11.cell
              obtain ⟨vD, hdD, _⟩ := hR.s.p.d
              have hd2 := hdD.cells.2.2.1
              obtain ⟨aD, cD, rfl⟩ := own_sl hdD.p
              have HdD : Hid (Dg Y (w1.heap.size + 1) n hi2 (.slice aD xs.length cD) xs) := hdD
              have HRY : Hid (R2 W Y W.heap.size (W.heap.size + 1) (W.heap.size + 1 + 1) w1.heap.size w2.heap.size (W.heap.size + 1 + 1 + 1 + 1) (W.heap.size + 1 + 1 + 1) (w1.heap.size + 1) n (.slice a2 dur.length c2) lv Z.heap.size D1 hi2 xs xs.length) := hR
              have Pt := told_any _ _ _ _ _ _ _ (hR.below (Below.refl _ Y).drew).s.p
              have hn18 : W.heap.size + 1 + 1 ≠ Z.heap.size := fun e => hR.n1 (by simp [← e])
              have hn11 : W.heap.size + 1 + 1 ≠ w2.heap.size := by omega
              have hnD : W.heap.size + 1 + 1 ≠ w1.heap.size + 1 := by omega
              have hn9 : W.heap.size + 1 + 1 ≠ w1.heap.size := by omega
              have HDy : Hid (Y.heap[D2]? = some (.deferred (some []))) := hDy
              clear hR hdD hpre hDy cS8 lq8 hg2
              go_wp2
              go_region_held_law (fun w' => w'.cell? ⟨Z.heap.size, 0, none⟩ = some (I xs.length) ∧ w'.cell? ⟨w2.heap.size, 0, none⟩ = some (dP (w1.heap.size + 1)) ∧ w'.cell? ⟨w1.heap.size + 1, 2, none⟩ = some (.slice aD xs.length cD) ∧ w'.cell? ⟨w1.heap.size, 0, none⟩ = some (iP (W.heap.size + 1 + 1 + 1 + 1)))
                (first | exact ⟨hcn, h11, hd2, h9⟩ | exact ⟨z18, z11, zd2, z9⟩ | exact ⟨y18, y11, yd2, y9⟩ | exact ⟨(World.cell?_setCell_far _ _ _ _ hn18).trans y18, (World.cell?_setCell_far _ _ _ _ hn11).trans y11, (World.cell?_setCell_far _ _ _ _ hnD).trans yd2, (World.cell?_setCell_far _ _ _ _ hn9).trans y9⟩)
                (first
                  | (go_at_call 32; refine Pt.mono ?_; rintro e w7 ⟨rfl, b7⟩; have b07 : Below Y.heap.size Y w7 := (Below.refl _ Y).drew.trans b7; have z18 := (HRY.out.below b07).c.cell; have z11 := (HRY.out.below b07).s.x11.cell; have zd2 := (HdD.out.below b07).cells.2.2.1; have z9 := (HRY.out.below b07).s.x9.cell)
                  | (go_at_call 14; refine (alive_any _).mono ?_; rintro e w8 ⟨rfl, b8⟩; have b08 : Below Y.heap.size Y w8 := b07.trans (b8.mono b07.size); have y18 := (HRY.out.below b08).c.cell; have y11 := (HRY.out.below b08).s.x11.cell; have yd2 := (HdD.out.below b08).cells.2.2.1; have y9 := (HRY.out.below b08).s.x9.cell; have y8 := (HRY.out.below b08).s.x8.cell; have yz8 := (HRY.out.below b08).s.x8.frozen))
              go_wp2
              have r8 := HRY.out.below b08
              have x8' := r8.s.x8
              have f8 : Fx [W.heap.size + 1 + 1] w8 (w8.setCell ⟨W.heap.size + 1 + 1, 0, none⟩ (.bool true)) := (Fx.refl _ _).set (b := W.heap.size + 1 + 1) (.inl (by simp)) _ _
              have d2 : w8.heap[D2]? = some (.deferred (some [])) := (b08.block _ (heap_lt HDy.out)).trans HDy.out
              have m2 : D2 ∉ [W.heap.size + 1 + 1] := fun e => by simp at e; have := HR2.out.s.x8.lt; omega
              have m1 : D1 ∉ [W.heap.size + 1 + 1] := fun e => by simp at e; have h := r8.d; rw [e] at h; unfold Boxed at x8'; rw [x8'] at h; cases h
              show LeavesInM Fence.wide 3 _ _ _ _ _ _ _
              exact leave2 (p := 8) rfl rfl (x8'.set _) ((f8.block _ (heap_lt d2) m2).trans d2) ((f8.block _ (heap_lt r8.d) m1).trans r8.d) (by omega) (r8.s.b.trans (f8.below r8.s.b.size (by simp; omega))) (by omega) (by omega)
            case stop2 =>
              rintro D2 c pre Y hD2 hpre ⟨rfl, hnp⟩ hDy
              exact absurd hpre hnp
          · have hkb : ((pre.length : Int) != l.length) = true := by simp; omega
            obtain ⟨hi2, l2, r2, xq⟩ := hR.second hDz
            have HR2 : Hid (R2 W (Z.alloc (.cells #[.int .i64 0] 3)) W.heap.size (W.heap.size + 1) (W.heap.size + 1 + 1) w1.heap.size w2.heap.size (W.heap.size + 1 + 1 + 1 + 1) (W.heap.size + 1 + 1 + 1) (w1.heap.size + 1) n (.slice a2 dur.length c2) lv Z.heap.size D1 hi2 l2 0) := r2
            have cS8 : (Z.alloc (.cells #[.int .i64 0] 3)).cell? ⟨wr.heap.size, 0, none⟩ = some (iP (W.heap.size + 1 + 1 + 1 + 1)) := xq.cell
            have lq8 := xq.lt
            have hs8 : (Z.alloc (.cells #[.int .i64 0] 3)).heap.size = Z.heap.size + 1 := by simp
            have lD1 : D1 < (Z.alloc (.cells #[.int .i64 0] 3)).heap.size := heap_lt r2.d
            have hWs8 : W.heap.size ≤ (Z.alloc (.cells #[.int .i64 0] 3)).heap.size := r2.s.b.size
            clear r2 xq hR
            gi_wp2
            go_wp2
            clear hcn hcw hc7
            generalize (Z.alloc (.cells #[.int .i64 0] 3)) = Z8 at *
            refine (wpIn_wide (n := 3)).1 ?_
            generalize hA2 : ({ tmps := _, defers := _ } : Act) = aa
            have hg2 : aa.eval (.tmp 104) = .func (.func 54) #[] #[.pointer (some ⟨wr.heap.size, 0, none⟩)] := by rw [← hA2]; rfl
            refine wpIn_rangeFunc_ownG (α := Int) rfl (by omega) (gf := 54) (lb := #[.pointer (some ⟨wr.heap.size, 0, none⟩)]) hg2 trivial (enters_of Try.func54 (by kernel_rfl) rfl)
              (All_stops (3 - 1) (by omega) wr.heap.size (fun _ b => b ∈ [Z.heap.size]) l2 _ _ n hi2 Z8 lq8 cS8 HR2.out.s.p.q (fun _ b _ hb => by simp at hb; omega)) Kq.trans (Kq.put (fun _ _ _ _ _ hm => hm)) (Below.refl _ _) (fun _ => rfl)
              (fun pre Y => R2 W Y W.heap.size (W.heap.size + 1) (W.heap.size + 1 + 1) w1.heap.size w2.heap.size (W.heap.size + 1 + 1 + 1 + 1) (W.heap.size + 1 + 1 + 1) (w1.heap.size + 1) n (.slice a2 dur.length c2) lv Z.heap.size D1 hi2 l2 pre.length ∧ pre <+: l2)
              (fun c pre Y => c = .ret ∧ ¬ pre <+: l2)
              (fun pre Y Y' row hI hg hr => ⟨hI.1.noC (Fx.turn hg) (noC_turn (fun r e => (hr r e).2)) (fun x hx => Nat.le_trans hWs8 (hr x (by simpa using hx)).1) (fun e => by have := (hr D1 (by simpa using e)).1; omega), hI.2⟩)
              (fun c pre Y Y' row hI hg hr => hI)
              ⟨HR2.out, List.nil_prefix⟩
              (fun x => { tmps := (aa.tmps.setIfInBounds 105 (.int .i64 x)).setIfInBounds 19 (.int .i64 x), defers := [] }) ?assign2 ?body2 ?done2 ?stop2
            case assign2 =>
              intro lp x Y K hK
              subst hA2
              simp only [List.setIfInBounds_toArray, List.set_cons_succ, List.set_cons_zero] at hK
              gi_wp2
              exact hK
            case body2 =>
              rintro lp pre x Y ⟨hR, hpre⟩ hlt
              subst hA2
              simp only [List.setIfInBounds_toArray, List.set_cons_succ, List.set_cons_zero]
              have hcn := hR.c.cell
              have hzn := hR.c.frozen
              have h11 := hR.s.x11.cell
              have h8 := hR.s.x8.cell
              have hz8 := hR.s.x8.frozen
              obtain ⟨vD, hdD, _⟩ := hR.s.p.d
              have hd2 := hdD.cells.2.2.1
              obtain ⟨y, hy⟩ : ∃ y, l2[pre.length]? = some y := ⟨_, List.getElem?_eq_getElem hlt⟩
              obtain ⟨gD, cD, e9, _, hclD⟩ := own_cell hdD.p (by omega)
              subst e9
              have hcy := hclD _ _ hy
              have hltI : ¬ (l2.length : Int) ≤ pre.length := by omega
              have hdec : decide ((l2.length : Int) ≤ pre.length) = false := by simpa using hltI
              have hge0 : ¬ (pre.length : Int) < 0 := by omega
              have hltJ : (pre.length : Int) < l2.length := by omega
              have hcy' : Y.cell? ⟨gD, pre.length, none⟩ = some (I y) := by simpa using hcy
              have hb5 : (pre.length : Int) < 65537 := by have hb1 := HR2.out.s.p.q.le; have hb2 := HR2.out.s.p.q.m; simp only [intsV, List.length_map] at hb1; omega
              have hpl : ((pre.length + 1 : Nat) : Int) = (pre.length : Int) + 1 := by omega
              have hl1' : (pre ++ [x]).length = pre.length + 1 := by simp
              have hR6 := hR.round (pre.length + 1)
              rw [hpl] at hR6
              have HR6 : Hid (_ ∧ _ ∧ _) := hR6
              by_cases hxy : x = y
              · subst hxy
                have hpx : pre ++ [x] <+: l2 := by
                  obtain ⟨t, rfl⟩ := hpre
                  rw [List.getElem?_append_right (Nat.le_refl _), Nat.sub_self] at hy
                  cases t with
                  | nil => simp at hy
                  | cons z t => simp at hy; subst hy; exact ⟨t, by simp⟩
                clear hR hR6 hclD hy hcy hdD
                gi_wp2
                refine only_normal (fun K hK => ?_)
                refine region_round (by kernel_rfl) (by kernel_rfl) (not_lets_onlyN _) (S := fun w' => w'.cell? ⟨Z.heap.size, 0, none⟩ = some (I pre.length) ∧ w'.cell? ⟨w2.heap.size, 0, none⟩ = some (dP (w1.heap.size + 1)) ∧ w'.cell? ⟨w1.heap.size + 1, 2, none⟩ = some (.slice (some ⟨gD, 0, none⟩) l2.length cD) ∧ w'.cell? ⟨gD, pre.length, none⟩ = some (I x)) ⟨hcn, h11, hd2, hcy'⟩ (fun hHeld => ?_)
                refine takeD 0 106 (I pre.length) hHeld rfl rfl (by kernel_rfl) (by kernel_rfl) (by kernel_rfl) (Or.inl ⟨by rfl, fun w' hSw => by obtain ⟨q0, q1, q2, q3⟩ := hSw; go_simp⟩) ?_
                try simp only [Act.put, List.setIfInBounds_toArray, List.set_cons_zero, List.set_cons_succ]
                refine takeD 1 107 (dP (w1.heap.size + 1)) hHeld rfl rfl (by kernel_rfl) (by kernel_rfl) (by kernel_rfl) (Or.inl ⟨by rfl, fun w' hSw => by obtain ⟨q0, q1, q2, q3⟩ := hSw; go_simp⟩) ?_
                try simp only [Act.put, List.setIfInBounds_toArray, List.set_cons_zero, List.set_cons_succ]
                refine takeD 2 108 (dP (w1.heap.size + 1)) hHeld rfl rfl (by kernel_rfl) (by kernel_rfl) (by kernel_rfl) (Or.inl ⟨by rfl, fun w' hSw => by obtain ⟨q0, q1, q2, q3⟩ := hSw; go_simp⟩) ?_
                try simp only [Act.put, List.setIfInBounds_toArray, List.set_cons_zero, List.set_cons_succ]
                refine takeD 3 109 (.pointer (some ⟨w1.heap.size + 1, 2, none⟩)) hHeld rfl rfl (by kernel_rfl) (by kernel_rfl) (by kernel_rfl) (Or.inl ⟨by rfl, fun w' hSw => by obtain ⟨q0, q1, q2, q3⟩ := hSw; go_simp⟩) ?_
                try simp only [Act.put, List.setIfInBounds_toArray, List.set_cons_zero, List.set_cons_succ]
                refine takeD 4 110 (.slice (some ⟨gD, 0, none⟩) l2.length cD) hHeld rfl rfl (by kernel_rfl) (by kernel_rfl) (by kernel_rfl) (Or.inl ⟨by rfl, fun w' hSw => by obtain ⟨q0, q1, q2, q3⟩ := hSw; go_simp⟩) ?_
                try simp only [Act.put, List.setIfInBounds_toArray, List.set_cons_zero, List.set_cons_succ]
                refine takeD 5 111 (I l2.length) hHeld rfl rfl (by kernel_rfl) (by kernel_rfl) (by kernel_rfl) (Or.inl ⟨by rfl, fun w' hSw => by obtain ⟨q0, q1, q2, q3⟩ := hSw; go_simp⟩) ?_
                try simp only [Act.put, List.setIfInBounds_toArray, List.set_cons_zero, List.set_cons_succ]
                refine takeD 6 112 (.bool false) hHeld rfl rfl (by kernel_rfl) (by kernel_rfl) (by kernel_rfl) (Or.inl ⟨by rfl, fun w' hSw => by obtain ⟨q0, q1, q2, q3⟩ := hSw; go_simp⟩) ?_
                try simp only [Act.put, List.setIfInBounds_toArray, List.set_cons_zero, List.set_cons_succ]
                refine takeD 7 113 (.bool false) hHeld rfl rfl (by kernel_rfl) (by kernel_rfl) (by kernel_rfl) (Or.inl ⟨by rfl, fun w' hSw => by obtain ⟨q0, q1, q2, q3⟩ := hSw; go_simp⟩) ?_
                try simp only [Act.put, List.setIfInBounds_toArray, List.set_cons_zero, List.set_cons_succ]
                refine takeD 8 114 (I x) hHeld rfl rfl (by kernel_rfl) (by kernel_rfl) (by kernel_rfl) (Or.inl ⟨by rfl, fun w' hSw => by obtain ⟨q0, q1, q2, q3⟩ := hSw; go_simp⟩) ?_
                try simp only [Act.put, List.setIfInBounds_toArray, List.set_cons_zero, List.set_cons_succ]
                refine takeD 9 115 (dP (w1.heap.size + 1)) hHeld rfl rfl (by kernel_rfl) (by kernel_rfl) (by kernel_rfl) (Or.inl ⟨by rfl, fun w' hSw => by obtain ⟨q0, q1, q2, q3⟩ := hSw; go_simp⟩) ?_
                try simp only [Act.put, List.setIfInBounds_toArray, List.set_cons_zero, List.set_cons_succ]
                refine takeD 10 116 (dP (w1.heap.size + 1)) hHeld rfl rfl (by kernel_rfl) (by kernel_rfl) (by kernel_rfl) (Or.inl ⟨by rfl, fun w' hSw => by obtain ⟨q0, q1, q2, q3⟩ := hSw; go_simp⟩) ?_
                try simp only [Act.put, List.setIfInBounds_toArray, List.set_cons_zero, List.set_cons_succ]
                refine takeD 11 117 (.pointer (some ⟨w1.heap.size + 1, 2, none⟩)) hHeld rfl rfl (by kernel_rfl) (by kernel_rfl) (by kernel_rfl) (Or.inl ⟨by rfl, fun w' hSw => by obtain ⟨q0, q1, q2, q3⟩ := hSw; go_simp⟩) ?_
                try simp only [Act.put, List.setIfInBounds_toArray, List.set_cons_zero, List.set_cons_succ]
                refine takeD 12 118 (.slice (some ⟨gD, 0, none⟩) l2.length cD) hHeld rfl rfl (by kernel_rfl) (by kernel_rfl) (by kernel_rfl) (Or.inl ⟨by rfl, fun w' hSw => by obtain ⟨q0, q1, q2, q3⟩ := hSw; go_simp⟩) ?_
                try simp only [Act.put, List.setIfInBounds_toArray, List.set_cons_zero, List.set_cons_succ]
                refine takeD 13 119 (I pre.length) hHeld rfl rfl (by kernel_rfl) (by kernel_rfl) (by kernel_rfl) (Or.inl ⟨by rfl, fun w' hSw => by obtain ⟨q0, q1, q2, q3⟩ := hSw; go_simp⟩) ?_
                try simp only [Act.put, List.setIfInBounds_toArray, List.set_cons_zero, List.set_cons_succ]
                refine takeD 14 120 (.pointer (some ⟨gD, pre.length, none⟩)) hHeld rfl rfl (by kernel_rfl) (by kernel_rfl) (by kernel_rfl) (Or.inl ⟨by rfl, fun w' hSw => by obtain ⟨q0, q1, q2, q3⟩ := hSw; go_simp⟩) ?_
                try simp only [Act.put, List.setIfInBounds_toArray, List.set_cons_zero, List.set_cons_succ]
                refine takeD 15 121 (I x) hHeld rfl rfl (by kernel_rfl) (by kernel_rfl) (by kernel_rfl) (Or.inl ⟨by rfl, fun w' hSw => by obtain ⟨q0, q1, q2, q3⟩ := hSw; go_simp⟩) ?_
                try simp only [Act.put, List.setIfInBounds_toArray, List.set_cons_zero, List.set_cons_succ]
                refine takeD 16 122 (.bool false) hHeld rfl rfl (by kernel_rfl) (by kernel_rfl) (by kernel_rfl) (Or.inl ⟨by rfl, fun w' hSw => by obtain ⟨q0, q1, q2, q3⟩ := hSw; go_simp⟩) ?_
                try simp only [Act.put, List.setIfInBounds_toArray, List.set_cons_zero, List.set_cons_succ]
                refine takeD 17 123 (.bool false) hHeld rfl rfl (by kernel_rfl) (by kernel_rfl) (by kernel_rfl) (Or.inl ⟨by rfl, fun w' hSw => by obtain ⟨q0, q1, q2, q3⟩ := hSw; go_simp⟩) ?_
                try simp only [Act.put, List.setIfInBounds_toArray, List.set_cons_zero, List.set_cons_succ]
                refine wpAnyH_done (by kernel_rfl) ?_ _
                refine hK.out _ _ ?_
                clear hK K hHeld
                gi_wp2
                exact ⟨HR6.out.1.from _, HR6.out.2.1, by rw [hl1']; exact HR6.out.2.2, hpx⟩
              · have hxb : (x == y) = false := by rw [beq_eq_false_iff_ne]; exact hxy
                have hxn : (x != y) = true := by simp [hxy]
                have hnp : ¬ (pre ++ [x] <+: l2) := fun ⟨t, ht⟩ => by
                  rw [← ht, List.append_assoc, List.getElem?_append_right (Nat.le_refl _), Nat.sub_self] at hy
                  simp at hy
                  exact hxy hy
                clear hR hR6 hclD hy hcy hdD
                gi_wp2
                refine only_normal (fun K hK => ?_)
                refine region_round (by kernel_rfl) (by kernel_rfl) (not_lets_onlyN _) (S := fun w' => w'.cell? ⟨Z.heap.size, 0, none⟩ = some (I pre.length) ∧ w'.cell? ⟨w2.heap.size, 0, none⟩ = some (dP (w1.heap.size + 1)) ∧ w'.cell? ⟨w1.heap.size + 1, 2, none⟩ = some (.slice (some ⟨gD, 0, none⟩) l2.length cD) ∧ w'.cell? ⟨gD, pre.length, none⟩ = some (I y)) ⟨hcn, h11, hd2, hcy'⟩ (fun hHeld => ?_)
                refine takeD 0 106 (I pre.length) hHeld rfl rfl (by kernel_rfl) (by kernel_rfl) (by kernel_rfl) (Or.inl ⟨by rfl, fun w' hSw => by obtain ⟨q0, q1, q2, q3⟩ := hSw; go_simp⟩) ?_
                try simp only [Act.put, List.setIfInBounds_toArray, List.set_cons_zero, List.set_cons_succ]
                refine takeD 1 107 (dP (w1.heap.size + 1)) hHeld rfl rfl (by kernel_rfl) (by kernel_rfl) (by kernel_rfl) (Or.inl ⟨by rfl, fun w' hSw => by obtain ⟨q0, q1, q2, q3⟩ := hSw; go_simp⟩) ?_
                try simp only [Act.put, List.setIfInBounds_toArray, List.set_cons_zero, List.set_cons_succ]
                refine takeD 2 108 (dP (w1.heap.size + 1)) hHeld rfl rfl (by kernel_rfl) (by kernel_rfl) (by kernel_rfl) (Or.inl ⟨by rfl, fun w' hSw => by obtain ⟨q0, q1, q2, q3⟩ := hSw; go_simp⟩) ?_
                try simp only [Act.put, List.setIfInBounds_toArray, List.set_cons_zero, List.set_cons_succ]
                refine takeD 3 109 (.pointer (some ⟨w1.heap.size + 1, 2, none⟩)) hHeld rfl rfl (by kernel_rfl) (by kernel_rfl) (by kernel_rfl) (Or.inl ⟨by rfl, fun w' hSw => by obtain ⟨q0, q1, q2, q3⟩ := hSw; go_simp⟩) ?_
                try simp only [Act.put, List.setIfInBounds_toArray, List.set_cons_zero, List.set_cons_succ]
                refine takeD 4 110 (.slice (some ⟨gD, 0, none⟩) l2.length cD) hHeld rfl rfl (by kernel_rfl) (by kernel_rfl) (by kernel_rfl) (Or.inl ⟨by rfl, fun w' hSw => by obtain ⟨q0, q1, q2, q3⟩ := hSw; go_simp⟩) ?_
                try simp only [Act.put, List.setIfInBounds_toArray, List.set_cons_zero, List.set_cons_succ]
                refine takeD 5 111 (I l2.length) hHeld rfl rfl (by kernel_rfl) (by kernel_rfl) (by kernel_rfl) (Or.inl ⟨by rfl, fun w' hSw => by obtain ⟨q0, q1, q2, q3⟩ := hSw; go_simp⟩) ?_
                try simp only [Act.put, List.setIfInBounds_toArray, List.set_cons_zero, List.set_cons_succ]
                refine takeD 6 112 (.bool false) hHeld rfl rfl (by kernel_rfl) (by kernel_rfl) (by kernel_rfl) (Or.inl ⟨by rfl, fun w' hSw => by obtain ⟨q0, q1, q2, q3⟩ := hSw; go_simp⟩) ?_
                try simp only [Act.put, List.setIfInBounds_toArray, List.set_cons_zero, List.set_cons_succ]
                refine takeD 7 113 (.bool false) hHeld rfl rfl (by kernel_rfl) (by kernel_rfl) (by kernel_rfl) (Or.inl ⟨by rfl, fun w' hSw => by obtain ⟨q0, q1, q2, q3⟩ := hSw; go_simp⟩) ?_
                try simp only [Act.put, List.setIfInBounds_toArray, List.set_cons_zero, List.set_cons_succ]
                refine takeD 8 114 (I x) hHeld rfl rfl (by kernel_rfl) (by kernel_rfl) (by kernel_rfl) (Or.inl ⟨by rfl, fun w' hSw => by obtain ⟨q0, q1, q2, q3⟩ := hSw; go_simp⟩) ?_
                try simp only [Act.put, List.setIfInBounds_toArray, List.set_cons_zero, List.set_cons_succ]
                refine takeD 9 115 (dP (w1.heap.size + 1)) hHeld rfl rfl (by kernel_rfl) (by kernel_rfl) (by kernel_rfl) (Or.inl ⟨by rfl, fun w' hSw => by obtain ⟨q0, q1, q2, q3⟩ := hSw; go_simp⟩) ?_
                try simp only [Act.put, List.setIfInBounds_toArray, List.set_cons_zero, List.set_cons_succ]
                refine takeD 10 116 (dP (w1.heap.size + 1)) hHeld rfl rfl (by kernel_rfl) (by kernel_rfl) (by kernel_rfl) (Or.inl ⟨by rfl, fun w' hSw => by obtain ⟨q0, q1, q2, q3⟩ := hSw; go_simp⟩) ?_
                try simp only [Act.put, List.setIfInBounds_toArray, List.set_cons_zero, List.set_cons_succ]
                refine takeD 11 117 (.pointer (some ⟨w1.heap.size + 1, 2, none⟩)) hHeld rfl rfl (by kernel_rfl) (by kernel_rfl) (by kernel_rfl) (Or.inl ⟨by rfl, fun w' hSw => by obtain ⟨q0, q1, q2, q3⟩ := hSw; go_simp⟩) ?_
                try simp only [Act.put, List.setIfInBounds_toArray, List.set_cons_zero, List.set_cons_succ]
                refine takeD 12 118 (.slice (some ⟨gD, 0, none⟩) l2.length cD) hHeld rfl rfl (by kernel_rfl) (by kernel_rfl) (by kernel_rfl) (Or.inl ⟨by rfl, fun w' hSw => by obtain ⟨q0, q1, q2, q3⟩ := hSw; go_simp⟩) ?_
                try simp only [Act.put, List.setIfInBounds_toArray, List.set_cons_zero, List.set_cons_succ]
                refine takeD 13 119 (I pre.length) hHeld rfl rfl (by kernel_rfl) (by kernel_rfl) (by kernel_rfl) (Or.inl ⟨by rfl, fun w' hSw => by obtain ⟨q0, q1, q2, q3⟩ := hSw; go_simp⟩) ?_
                try simp only [Act.put, List.setIfInBounds_toArray, List.set_cons_zero, List.set_cons_succ]
                refine takeD 14 120 (.pointer (some ⟨gD, pre.length, none⟩)) hHeld rfl rfl (by kernel_rfl) (by kernel_rfl) (by kernel_rfl) (Or.inl ⟨by rfl, fun w' hSw => by obtain ⟨q0, q1, q2, q3⟩ := hSw; go_simp⟩) ?_
                try simp only [Act.put, List.setIfInBounds_toArray, List.set_cons_zero, List.set_cons_succ]
                refine takeD 15 121 (I y) hHeld rfl rfl (by kernel_rfl) (by kernel_rfl) (by kernel_rfl) (Or.inl ⟨by rfl, fun w' hSw => by obtain ⟨q0, q1, q2, q3⟩ := hSw; go_simp⟩) ?_
                try simp only [Act.put, List.setIfInBounds_toArray, List.set_cons_zero, List.set_cons_succ]
                refine takeD 16 122 (.bool true) hHeld rfl rfl (by kernel_rfl) (by kernel_rfl) (by kernel_rfl) (Or.inl ⟨by rfl, fun w' hSw => by obtain ⟨q0, q1, q2, q3⟩ := hSw; go_simp⟩) ?_
                try simp only [Act.put, List.setIfInBounds_toArray, List.set_cons_zero, List.set_cons_succ]
                refine takeD 17 123 (.bool true) hHeld rfl rfl (by kernel_rfl) (by kernel_rfl) (by kernel_rfl) (Or.inl ⟨by rfl, fun w' hSw => by obtain ⟨q0, q1, q2, q3⟩ := hSw; go_simp⟩) ?_
                try simp only [Act.put, List.setIfInBounds_toArray, List.set_cons_zero, List.set_cons_succ]
                refine wpAnyH_done (by kernel_rfl) ?_ _
                refine hK.out _ _ ?_
                clear hK K hHeld
                gi_wp2
                exact ⟨((KeepsOthers.drew _).trans (KeepsOthers.setCell _ _ _)).from _, rfl, hnp⟩
            case done2 =>
              intro D2 xs Y hD2 hxs hI hDy
              subst hA2
              obtain ⟨hR, hpre⟩ := hI
              subst hxs
              have hcn := hR.c.cell
              have h9 := hR.s.x9.cell
              have h11 := hR.s.x11.cell
              obtain ⟨vD, hdD, _⟩ := hR.s.p.d
              have hd2 := hdD.cells.2.2.1
              obtain ⟨aD, cD, rfl⟩ := own_sl hdD.p
              have HdD : Hid (Dg Y (w1.heap.size + 1) n hi2 (.slice aD xs.length cD) xs) := hdD
              have HRY : Hid (R2 W Y W.heap.size (W.heap.size + 1) (W.heap.size + 1 + 1) w1.heap.size w2.heap.size (W.heap.size + 1 + 1 + 1 + 1) (W.heap.size + 1 + 1 + 1) (w1.heap.size + 1) n (.slice a2 dur.length c2) lv Z.heap.size D1 hi2 xs xs.length) := hR
              have Pt := told_any _ _ _ _ _ _ _ (hR.below (Below.refl _ Y).drew).s.p
              have hn18 : W.heap.size + 1 + 1 ≠ Z.heap.size := fun e => hR.n1 (by simp [← e])
              have hn11 : W.heap.size + 1 + 1 ≠ w2.heap.size := by omega
              have hnD : W.heap.size + 1 + 1 ≠ w1.heap.size + 1 := by omega
              have hn9 : W.heap.size + 1 + 1 ≠ w1.heap.size := by omega
              have HDy : Hid (Y.heap[D2]? = some (.deferred (some []))) := hDy
              clear hR hdD hpre hDy cS8 lq8 hg2
              go_wp2
              go_region_held_law (fun w' => w'.cell? ⟨Z.heap.size, 0, none⟩ = some (I xs.length) ∧ w'.cell? ⟨w2.heap.size, 0, none⟩ = some (dP (w1.heap.size + 1)) ∧ w'.cell? ⟨w1.heap.size + 1, 2, none⟩ = some (.slice aD xs.length cD) ∧ w'.cell? ⟨w1.heap.size, 0, none⟩ = some (iP (W.heap.size + 1 + 1 + 1 + 1)))
                (first | exact ⟨hcn, h11, hd2, h9⟩ | exact ⟨z18, z11, zd2, z9⟩ | exact ⟨y18, y11, yd2, y9⟩ | exact ⟨(World.cell?_setCell_far _ _ _ _ hn18).trans y18, (World.cell?_setCell_far _ _ _ _ hn11).trans y11, (World.cell?_setCell_far _ _ _ _ hnD).trans yd2, (World.cell?_setCell_far _ _ _ _ hn9).trans y9⟩)
                (first
                  | (go_at_call 32; refine Pt.mono ?_; rintro e w7 ⟨rfl, b7⟩; have b07 : Below Y.heap.size Y w7 := (Below.refl _ Y).drew.trans b7; have z18 := (HRY.out.below b07).c.cell; have z11 := (HRY.out.below b07).s.x11.cell; have zd2 := (HdD.out.below b07).cells.2.2.1; have z9 := (HRY.out.below b07).s.x9.cell)
                  | (go_at_call 14; refine (alive_any _).mono ?_; rintro e w8 ⟨rfl, b8⟩; have b08 : Below Y.heap.size Y w8 := b07.trans (b8.mono b07.size); have y18 := (HRY.out.below b08).c.cell; have y11 := (HRY.out.below b08).s.x11.cell; have yd2 := (HdD.out.below b08).cells.2.2.1; have y9 := (HRY.out.below b08).s.x9.cell; have y8 := (HRY.out.below b08).s.x8.cell; have yz8 := (HRY.out.below b08).s.x8.frozen))
              go_wp2
              have r8 := HRY.out.below b08
              have x8' := r8.s.x8
              have f8 : Fx [W.heap.size + 1 + 1] w8 (w8.setCell ⟨W.heap.size + 1 + 1, 0, none⟩ (.bool true)) := (Fx.refl _ _).set (b := W.heap.size + 1 + 1) (.inl (by simp)) _ _
              have d2 : w8.heap[D2]? = some (.deferred (some [])) := (b08.block _ (heap_lt HDy.out)).trans HDy.out
              have m2 : D2 ∉ [W.heap.size + 1 + 1] := fun e => by simp at e; have := HR2.out.s.x8.lt; omega
              have m1 : D1 ∉ [W.heap.size + 1 + 1] := fun e => by simp at e; have h := r8.d; rw [e] at h; unfold Boxed at x8'; rw [x8'] at h; cases h
              show LeavesInM Fence.wide 3 _ _ _ _ _ _ _
              exact leave2 (p := 8) rfl rfl (x8'.set _) ((f8.block _ (heap_lt d2) m2).trans d2) ((f8.block _ (heap_lt r8.d) m1).trans r8.d) (by omega) (r8.s.b.trans (f8.below r8.s.b.size (by simp; omega))) (by omega) (by omega)
            case stop2 =>
              rintro D2 c pre Y hD2 hpre ⟨rfl, hnp⟩ hDy
              exact absurd hpre hnp
end Go.Proofs.Ytlbkbnhnklaebaa
