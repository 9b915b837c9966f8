import Derived.Test.YtckmdkdhnhkdhaaZls0
import Derived.Deep.Cut
namespace Go.Proofs.Ytckmdkdhnhkdhaa
open Go.RowKit Go.Shelf
set_option linter.unusedVariables false
set_option linter.unusedSimpArgs false
attribute [local go_sem] Oper.semAt_some

/-- as the law's post, but that no way leads to a panic -/
def seenPost (P : Program) (fn : Func) (R : Ending → World → Prop) : Exit → Act → World → Prop
  | .panic _, _, _ => False
  | .outgrown, _, _ => False
  | .normal, a, w => bodyPostM Fence.wide 3 P fn R .normal a w
  | .ret, a, w => bodyPostM Fence.wide 3 P fn R .ret a w
  | .exit _, _, _ => False
  | .goto _, _, _ => False
theorem seen_post {P : Program} {fn : Func} {R : Ending → World → Prop} : ∀ (e : Exit) (a : Act) (w : World), seenPost P fn R e a w → bodyPostM Fence.wide 3 P fn R e a w
  | .panic _, _, _, h => h.elim
  | .outgrown, _, _, h => h.elim
  | .normal, _, _, h => h
  | .ret, _, _, h => h
  | .exit _, _, _, h => h.elim
  | .goto _, _, _, h => h.elim
theorem pre_next {l pre : List Int} {x y : Int} (hpre : pre <+: l) (hy : l[pre.length]? = some y) (hxy : x = y) : pre ++ [x] <+: l := by
  subst hxy
  obtain ⟨t, rfl⟩ := hpre
  rw [List.getElem?_append_right (Nat.le_refl _), Nat.sub_self] at hy
  cases t with
  | nil => simp at hy
  | cons z t => simp at hy; subst hy; exact ⟨t, by simp⟩
theorem pre_not {l pre : List Int} {x y : Int} (hy : l[pre.length]? = some y) (hxy : ¬ x = y) : ¬ (pre ++ [x] <+: l) := fun ⟨t, ht⟩ => by
  rw [← ht, List.append_assoc, List.getElem?_append_right (Nat.le_refl _), Nat.sub_self] at hy
  simp at hy
  exact hxy hy
set_option maxHeartbeats 8000000 in
set_option maxRecDepth 100000 in
theorem seen_ok (W : World) (n : Nat) (hn : n ≤ 1024) (s1 : Sl) (acts : List (Int × Int)) (h1 : RowsAt W 2 actP s1 acts) (hl1 : acts.length ≤ 17592186043904) (s2 : Sl) (dur : List (Int × Int)) (h2 : RowsAt W 2 actP s2 dur) (hl2 : dur.length ≤ 17592186043904) (lv : Int) : Calls Try.prog 6 #[I n, .slice s1.a s1.n s1.c, .slice s2.a s2.n s2.c, I lv] W fun e w' => e = .returned (.bool true) ∧ Below W.heap.size W w' := by
  obtain ⟨a1, n1, c1⟩ := s1
  obtain ⟨a2, n2, c2⟩ := s2
  have hn1 := h1.n
  have hn2 := h2.n
  simp only at hn1 hn2
  subst hn1
  subst hn2
  have hse := seq_some
  refine (callsIn_wide (n := 3)).1 ?_
  refine callsIn_of_wp_marks Try.func6 rfl trivial ?_ rfl
  simp only [Try.ntmps6, List.size_toArray, List.length_cons, List.length_nil, Nat.reduceAdd, Nat.reduceSub, Array.replicate_succ, Array.replicate_zero, List.push_toArray, List.append_toArray, List.nil_append, List.cons_append]
  refine wpIn_wide.2 (wp_mono (Q := seenPost _ _ _) ?_ seen_post)
  go_upto_region 3 with (first
    | (go_at_call 9; refine (iNewQ _ n hn).mono ?_; rintro e w1 ⟨rfl, hq1, b1⟩)
    | (go_at_call 18; refine (dNew_ok _ n hn).mono ?_; rintro e w2 ⟨rfl, hd2, b2⟩))
  have HS : Hid (SnI W (w2.alloc (.cells #[.pointer (some ⟨w1.heap.size + 1, 0, none⟩)] 43)) W.heap.size (W.heap.size + 1) (W.heap.size + 1 + 1) w1.heap.size w2.heap.size (W.heap.size + 1 + 1 + 1 + 1) (W.heap.size + 1 + 1 + 1) (w1.heap.size + 1) n (.slice a2 dur.length c2) lv 0 (.slice none 0 0) []) := by
    have x6 := ((Boxed.new W 37 (.slice a2 dur.length c2)).alloc (.cells #[I lv] 3)).alloc (.cells #[.bool false] 4)
    have x7 := (Boxed.new (W.alloc (.cells #[.slice a2 dur.length c2] 37)) 3 (I lv)).alloc (.cells #[.bool false] 4)
    have x8 := Boxed.new ((W.alloc (.cells #[.slice a2 dur.length c2] 37)).alloc (.cells #[I lv] 3)) 4 (.bool false)
    have bW : Below W.heap.size W (((W.alloc (.cells #[.slice a2 dur.length c2] 37)).alloc (.cells #[I lv] 3)).alloc (.cells #[.bool false] 4)) := (((Below.refl _ W).alloc (Nat.le_refl _) _).alloc (by simp) _).alloc (by simp; omega) _
    simp only [World.size_alloc] at x7 x8 hq1 b1 hd2 b2
    have hs0 : (((W.alloc (.cells #[.slice a2 dur.length c2] 37)).alloc (.cells #[I lv] 3)).alloc (.cells #[.bool false] 4)).heap.size = W.heap.size + 1 + 1 + 1 := by simp
    have hs1 := b1.size
    rw [hs0] at hs1
    have hq := hq1.lts
    have c1 : Below w1.heap.size w1 (w1.alloc (.cells #[.pointer (some ⟨W.heap.size + 1 + 1 + 1 + 1, 0, none⟩)] 23)) := below_alloc _ _
    have hs2 : (w1.alloc (.cells #[.pointer (some ⟨W.heap.size + 1 + 1 + 1 + 1, 0, none⟩)] 23)).heap.size = w1.heap.size + 1 := by simp
    have hs3 := b2.size
    rw [hs2] at hs3
    have hDl := heap_lt hd2.o
    have x9 := Boxed.new w1 23 (iP (W.heap.size + 1 + 1 + 1 + 1))
    have c3 : Below w2.heap.size w2 (w2.alloc (.cells #[.pointer (some ⟨w1.heap.size + 1, 0, none⟩)] 43)) := below_alloc _ _
    have x11 := Boxed.new w2 43 (dP (w1.heap.size + 1))
    have b2' : Below (w1.heap.size + 1) (w1.alloc (.cells #[.pointer (some ⟨W.heap.size + 1 + 1 + 1 + 1, 0, none⟩)] 23)) w2 := b2
    have f12 : Below w1.heap.size w1 (w2.alloc (.cells #[.pointer (some ⟨w1.heap.size + 1, 0, none⟩)] 43)) := (c1.trans (b2'.mono (by omega))).trans (c3.mono (by omega))
    have f02 : Below (W.heap.size + 1 + 1 + 1) (((W.alloc (.cells #[.slice a2 dur.length c2] 37)).alloc (.cells #[I lv] 3)).alloc (.cells #[.bool false] 4)) (w2.alloc (.cells #[.pointer (some ⟨w1.heap.size + 1, 0, none⟩)] 43)) := Below.trans b1 (f12.mono (by omega))
    refine ⟨Pr.new (hq1.below f12) (hd2.below c3) (fun b e => by cases e), bW.trans (f02.mono (by omega)), fun x hx => ?_, (f02.block _ (by omega)).trans x6, (f02.block _ (by omega)).trans x7, (f02.block _ (by omega)).trans x8, ?_, x11, by omega, fun x hx e => ?_⟩
    · rcases hx with (e | e) | e | e
      all_goals first | omega | (cases e; done)
    · exact ((c3.mono (Nat.le_refl _)).block _ (by omega)).trans ((b2'.block _ (by omega)).trans x9)
    · simp only [List.mem_cons, List.not_mem_nil, or_false] at hx
      rcases e with (e | e) | e | e
      all_goals first | omega | (cases e; done)
  have hlt1 : W.heap.size + 1 + 1 + 1 + 1 < w1.heap.size := by have := hq1.lts; simp at this; omega
  have hlt2 : w1.heap.size + 1 < w2.heap.size := by have := heap_lt hd2.o; simpa using this
  clear hq1 hd2 b1 b2
  generalize hW3 : (w2.alloc (.cells #[.pointer (some ⟨w1.heap.size + 1, 0, none⟩)] 43)) = W3 at *
  clear hW3
  have y9 := HS.out.x9.cell
  have y11 := HS.out.x11.cell
  go_wp2
  go_loopw [13] (fun vi wr => ∃ (i hi : Nat) (v : Value) (l : List Int), i ≤ acts.length ∧ vi = .int .i64 i ∧ Hid (SnI W wr W.heap.size (W.heap.size + 1) (W.heap.size + 1 + 1) w1.heap.size w2.heap.size (W.heap.size + 1 + 1 + 1 + 1) (W.heap.size + 1 + 1 + 1) (w1.heap.size + 1) n (.slice a2 dur.length c2) lv hi v l)) (fun vi _ => acts.length - (intOf vi).toNat)
  case atStart => exact ⟨0, _, _, _, by omega, rfl, HS.out⟩
  case round =>
    clear HS y9 y11
    obtain ⟨i, hi, v, l, hi1, rfl, HS⟩ := hrel
    have y9 := HS.out.x9.cell
    have y11 := HS.out.x11.cell
    by_cases hlt : i < acts.length
    · obtain ⟨⟨kd, vv⟩, hx⟩ : ∃ x, acts[i]? = some x := ⟨_, List.getElem?_eq_getElem hlt⟩
      have hltI : (i : Int) < acts.length := by omega
      have hi0 : ¬ (i : Int) < 0 := by omega
      obtain ⟨ga, off, rfl, hcx⟩ := acts_cell h1 hx
      have HX : Hid (∀ Z, Below W.heap.size W Z → Z.cell? ⟨ga, off + i * 2, none⟩ = some (I kd) ∧ Z.cell? ⟨ga, off + i * 2 + 1, none⟩ = some (I vv)) := hcx
      clear hcx hx
      obtain ⟨x0, x1⟩ := HX.out wr HS.out.b
      have bd : Below wr.heap.size wr wr.drew := (Below.refl _ _).drew
      have Sd := HS.out.below bd
      have Pd := play_any Sd.p kd vv
      go_wp2
      go_region_held_law (fun w' => w'.cell? ⟨w1.heap.size, 0, none⟩ = some (iP (W.heap.size + 1 + 1 + 1 + 1)) ∧ w'.cell? ⟨w2.heap.size, 0, none⟩ = some (dP (w1.heap.size + 1)) ∧ w'.cell? ⟨ga, off + i * 2, none⟩ = some (I kd) ∧ w'.cell? ⟨ga, off + i * 2 + 1, none⟩ = some (I vv))
        (first | exact ⟨y9, y11, x0, x1⟩ | exact ⟨z9, z11, zx0, zx1⟩ | (go_keep; done))
        (first | (go_at_call 26; refine Pd.mono ?_; rintro e w5 ⟨rfl, hi', v', l', p5, n5, f5⟩; have S5 := Sd.play p5 n5 f5; have z9 := S5.x9.cell; have z11 := S5.x11.cell; obtain ⟨zx0, zx1⟩ := HX.out w5 S5.b))
      have HS5 : Hid (SnI W w5 W.heap.size (W.heap.size + 1) (W.heap.size + 1 + 1) w1.heap.size w2.heap.size (W.heap.size + 1 + 1 + 1 + 1) (W.heap.size + 1 + 1 + 1) (w1.heap.size + 1) n (.slice a2 dur.length c2) lv hi' v' l') := S5
      clear HS Sd Pd S5 z9 z11 zx0 zx1 y9 y11 x0 x1 p5 n5 f5
      go_wp2
      go_roundw
      case rel => exact ⟨i + 1, _, _, _, by omega, by go_num, HS5.out⟩
      case measure => simp [intOf]; omega
    · have hge : ¬ ((i : Int) < acts.length) := by omega
      have hW0 : W.heap.size ≤ wr.heap.size := HS.out.b.size
      go_upto_region 13 with (first
        | (go_at_call 27; refine (All_any _ _).mono ?_; rintro e w5 ⟨rfl, rfl⟩))
      have bS := below_alloc wr (.cells #[iP (W.heap.size + 1 + 1 + 1 + 1)] 23)
      have S5 := HS.out.below bS
      have xS : Boxed (wr.alloc (.cells #[iP (W.heap.size + 1 + 1 + 1 + 1)] 23)) wr.heap.size 23 (iP (W.heap.size + 1 + 1 + 1 + 1)) := Boxed.new wr _ _
      have z11 := S5.x11.cell
      obtain ⟨xs, hxs⟩ : ∃ xs : List Int, l = xs.reverse := ⟨l.reverse, by simp⟩
      subst hxs
      have hDn := down_any S5.p.d
      rw [List.reverse_reverse, List.length_reverse] at hDn
      have HS5 : Hid (SnI W (wr.alloc (.cells #[iP (W.heap.size + 1 + 1 + 1 + 1)] 23)) W.heap.size (W.heap.size + 1) (W.heap.size + 1 + 1) w1.heap.size w2.heap.size (W.heap.size + 1 + 1 + 1 + 1) (W.heap.size + 1 + 1 + 1) (w1.heap.size + 1) n (.slice a2 dur.length c2) lv hi v xs.reverse) := S5
      have HXS : Hid (Boxed (wr.alloc (.cells #[iP (W.heap.size + 1 + 1 + 1 + 1)] 23)) wr.heap.size 23 (iP (W.heap.size + 1 + 1 + 1 + 1))) := xS
      have HSZ : Hid ((wr.alloc (.cells #[iP (W.heap.size + 1 + 1 + 1 + 1)] 23)).heap.size = wr.heap.size + 1) := by show _ = _; simp
      clear S5 xS bS HS y9 y11
      generalize (wr.alloc (.cells #[iP (W.heap.size + 1 + 1 + 1 + 1)] 23)) = W5 at *
      go_wp2_with (first
        | (go_at_call 31; refine hDn.mono ?_; clear hDn; rintro e w6 ⟨uL, rfl, oL, b6⟩; obtain ⟨aL, cL, hu⟩ := own_sl oL; subst hu))
      have S6 := HS5.out.below b6
      have bS := S6.b.size
      have bq := S6.p.lt
      have l6 := S6.x6.lt
      have l7 := S6.x7.lt
      have l8 := S6.x8.lt
      have l9 := S6.x9.lt
      have l11 := S6.x11.lt
      have lS := HXS.out.lt
      have hs5 := b6.size
      have b7 : Below w6.heap.size w6 ((w6.alloc (.cells #[.slice aL xs.length cL] 22)).alloc (.cells #[.int .i64 0] 3)) := ((Below.refl _ w6).alloc (Nat.le_refl _) _).alloc (by simp) _
      have hs7 : ((w6.alloc (.cells #[.slice aL xs.length cL] 22)).alloc (.cells #[.int .i64 0] 3)).heap.size = w6.heap.size + 1 + 1 := by simp
      have x15 : Boxed ((w6.alloc (.cells #[.slice aL xs.length cL] 22)).alloc (.cells #[.int .i64 0] 3)) w6.heap.size 22 (.slice aL xs.length cL) := (Boxed.new w6 22 (.slice aL xs.length cL)).alloc _
      have x16 : Boxed ((w6.alloc (.cells #[.slice aL xs.length cL] 22)).alloc (.cells #[.int .i64 0] 3)) (w6.heap.size + 1) 3 (.int .i64 0) := by
        have := Boxed.new (w6.alloc (.cells #[.slice aL xs.length cL] 22)) 3 (.int .i64 0)
        rw [World.size_alloc] at this
        exact this
      have HR : Hid (R1 W ((w6.alloc (.cells #[.slice aL xs.length cL] 22)).alloc (.cells #[.int .i64 0] 3)) W.heap.size (W.heap.size + 1) (W.heap.size + 1 + 1) w1.heap.size w2.heap.size (W.heap.size + 1 + 1 + 1 + 1) (W.heap.size + 1 + 1 + 1) (w1.heap.size + 1) n (.slice a2 dur.length c2) lv w6.heap.size (w6.heap.size + 1) wr.heap.size (.slice aL xs.length cL) xs 0 hi v xs.reverse) := by
        have hSZ := HSZ.out
        have hnL : ∀ b, (Value.slice aL xs.length cL).ownBlock = some b → W5.heap.size ≤ b ∧ b < w6.heap.size := fun b e => ⟨(oL.lt b e).1, (oL.lt b e).2⟩
        refine ⟨S6.below b7, x15, own_base (own_below oL b7) (Nat.zero_le _), x16, (b7.block _ (by omega)).trans ((b6.block _ lS).trans HXS.out), ⟨by omega, by omega, by omega⟩, fun x hx e => ?_, ⟨by simp; omega, by omega, by omega, fun e => by have := (hnL _ e).2; omega⟩⟩
        have hx5 := HS5.out.p.lt x e
        rcases hx with hx | hx
        · simp only [List.mem_cons, List.not_mem_nil, or_false] at hx
          rcases hx with hx | hx | hx
          · omega
          · omega
          · subst hx
            obtain ⟨c9, t9, k9⟩ := HS5.out.p.cells _ e
            have k8 := HXS.out
            rcases e with (e | e) | e | e
            · have := HS5.out.p.q.ty; obtain ⟨c, k⟩ := this; rw [← e] at k; unfold Boxed at k8; rw [k8] at k; simp only [Option.some.injEq, Obj.cells.injEq] at k; exact absurd k.2.1 (by decide)
            · have := HS5.out.p.q.tyg; obtain ⟨c, k⟩ := this; rw [← e] at k; unfold Boxed at k8; rw [k8] at k; simp only [Option.some.injEq, Obj.cells.injEq] at k; exact absurd k.2.1 (by decide)
            · have k := HS5.out.p.d.o; rw [← e] at k; unfold Boxed at k8; rw [k8] at k; simp only [Option.some.injEq, Obj.cells.injEq] at k; exact absurd k.2.1 (by decide)
            · exact (Boxed.not_row k8 (by decide) HS5.out.p.d.p) e.symm
        · have := hnL x hx; omega
      have HQ7 : Hid (iQ ((w6.alloc (.cells #[.slice aL xs.length cL] 22)).alloc (.cells #[.int .i64 0] 3)) (W.heap.size + 1 + 1 + 1 + 1) (W.heap.size + 1 + 1 + 1) n hi xs.reverse) := HR.out.s.p.q
      have cS : ((w6.alloc (.cells #[.slice aL xs.length cL] 22)).alloc (.cells #[.int .i64 0] 3)).cell? ⟨wr.heap.size, 0, none⟩ = some (iP (W.heap.size + 1 + 1 + 1 + 1)) := HR.out.q.cell
      have hsz7 : wr.heap.size < ((w6.alloc (.cells #[.slice aL xs.length cL] 22)).alloc (.cells #[.int .i64 0] 3)).heap.size := HR.out.q.lt
      have hWs : W.heap.size ≤ ((w6.alloc (.cells #[.slice aL xs.length cL] 22)).alloc (.cells #[.int .i64 0] 3)).heap.size := by omega
      have hxl : xs.length ≤ 1024 := by have h1 := HQ7.out.le; have h2 := HQ7.out.m; rw [List.length_reverse] at h1; omega
      clear S6 x15 x16 b7 hs7 z11 bq oL b6
      generalize ((w6.alloc (.cells #[.slice aL xs.length cL] 22)).alloc (.cells #[.int .i64 0] 3)) = W7 at *
      refine (wpIn_wide (n := 3)).1 ?_
      generalize hA : ({ tmps := _, defers := [] } : Act) = a0
      have hg0 : a0.eval (.tmp 61) = .func (.func 53) #[] #[.pointer (some ⟨wr.heap.size, 0, none⟩)] := by rw [← hA]; rfl
      refine wpIn_rangeFunc_ownG (α := Int) rfl (by omega) (gf := 53) (lb := #[.pointer (some ⟨wr.heap.size, 0, none⟩)]) hg0 trivial (enters_of Try.func53 (by kernel_rfl) rfl)
        (All_stops (3 - 1) (by omega) wr.heap.size (Mv (W.heap.size + 1 + 1 + 1 + 1) (W.heap.size + 1 + 1 + 1) (w1.heap.size + 1) (w6.heap.size + 1)) xs _ _ n hi W7 hsz7 cS HQ7.out (fun Z b hb hm => by
          rcases (Mv.of (HR.out.s.p.d.below hb)).1 hm with e | e
          · exact HR.out.s.p.lt b e
          · have := HR.out.c.lt; omega)) Kq.trans (Kq.put (fun Z q o b hq hm => by
          rcases hm with e | ⟨u, hu, e⟩
          · exact .inl e
          · have hne : w1.heap.size + 1 ≠ q := by have := heap_lt HR.out.s.p.d.o; omega
            exact .inr ⟨u, by rw [← hu]; exact (World.cell?_of_block (World.putObj_heap_other hne)).symm, e⟩)) (Below.refl _ _) (fun _ => rfl)
        (fun pre Z => (∃ hi2 v2 l2, R1 W Z W.heap.size (W.heap.size + 1) (W.heap.size + 1 + 1) w1.heap.size w2.heap.size (W.heap.size + 1 + 1 + 1 + 1) (W.heap.size + 1 + 1 + 1) (w1.heap.size + 1) n (.slice a2 dur.length c2) lv w6.heap.size (w6.heap.size + 1) wr.heap.size (.slice aL xs.length cL) xs pre.length hi2 v2 l2) ∧ pre <+: xs)
        (fun c pre Z => (c = .ret ∧ ¬ pre <+: xs) ∨ (c = .exit 2 ∧ (∃ hi2 v2 l2, R1 W Z W.heap.size (W.heap.size + 1) (W.heap.size + 1 + 1) w1.heap.size w2.heap.size (W.heap.size + 1 + 1 + 1 + 1) (W.heap.size + 1 + 1 + 1) (w1.heap.size + 1) n (.slice a2 dur.length c2) lv w6.heap.size (w6.heap.size + 1) wr.heap.size (.slice aL xs.length cL) xs pre.length hi2 v2 l2) ∧ pre <+: xs ∧ (pre.length : Int) = lv))
        (fun pre Z Z' row hI hg hr => ⟨by obtain ⟨hi2, v2, l2, hr1⟩ := hI.1; exact ⟨hi2, v2, l2, hr1.noC (Fx.turn hg) (noC_turn (fun r e => (hr r e).2)) (fun x hx => Nat.le_trans hWs (hr x (by simpa using hx)).1)⟩, hI.2⟩)
        (fun c pre Z Z' row hI hg hr => hI.imp id (fun h => ⟨h.1, by obtain ⟨hi2, v2, l2, hr1⟩ := h.2.1; exact ⟨hi2, v2, l2, hr1.noC (Fx.turn hg) (noC_turn (fun r e => (hr r e).2)) (fun x hx => Nat.le_trans hWs (hr x (by simpa using hx)).1)⟩, h.2.2⟩))
        ⟨⟨_, _, _, HR.out⟩, List.nil_prefix⟩
        (fun x => { tmps := (a0.tmps.setIfInBounds 62 (.int .i64 x)).setIfInBounds 17 (.int .i64 x), defers := [] }) ?assign ?body ?done ?stop
      case assign =>
        intro lp x Z K hK
        subst hA
        simp only [List.setIfInBounds_toArray, List.set_cons_succ, List.set_cons_zero] at hK
        gi_wp2
        exact hK
      case body =>
        rintro lp pre x Z ⟨⟨hi2, v2, l2, hR⟩, hpre⟩ hlt
        subst hA
        simp only [List.setIfInBounds_toArray, List.set_cons_succ, List.set_cons_zero]
        have hcn := hR.c.cell
        have hcw := hR.w.cell
        have hzn := hR.c.frozen
        obtain ⟨y, hy⟩ : ∃ y, xs[pre.length]? = some y := ⟨_, List.getElem?_eq_getElem hlt⟩
        obtain ⟨gL, cL', e9, _, hcl⟩ := own_cell hR.r (by omega)
        cases e9
        have hcy := hcl _ _ hy
        have hltI : ¬ (xs.length : Int) ≤ pre.length := by omega
        have hltJ : (pre.length : Int) < xs.length := by omega
        have hge0 : ¬ (pre.length : Int) < 0 := by omega
        have hb5 : (pre.length : Int) < 1025 := by omega
        by_cases hxy : x = y
        · have hpx := pre_next hpre hy hxy
          subst hxy
          have h6 := hR.s.x6.cell
          have h7 := hR.s.x7.cell
          have h9 := hR.s.x9.cell
          have h11 := hR.s.x11.cell
          by_cases hdu : pre.length < dur.length
          · obtain ⟨⟨kd, vv⟩, hx⟩ : ∃ x, dur[pre.length]? = some x := ⟨_, List.getElem?_eq_getElem hdu⟩
            have hduI : (pre.length : Int) < dur.length := by omega
            obtain ⟨ga, off, e8, hcx⟩ := acts_cell h2 hx
            subst e8
            obtain ⟨x0, x1⟩ := hcx Z hR.s.b
            have Pd : ∀ Y, Below Z.heap.size Z Y → Calls Try.prog 26 #[iP (W.heap.size + 1 + 1 + 1 + 1), dP (w1.heap.size + 1), .agg #[I kd, I vv]] Y fun e w' => e = .returned (.bool true) ∧ ∃ hi5 v5 l5, R1 W w' W.heap.size (W.heap.size + 1) (W.heap.size + 1 + 1) w1.heap.size w2.heap.size (W.heap.size + 1 + 1 + 1 + 1) (W.heap.size + 1 + 1 + 1) (w1.heap.size + 1) n (.slice (some ⟨ga, off, none⟩) dur.length c2) lv w6.heap.size (w6.heap.size + 1) wr.heap.size (.slice (some ⟨gL, 0, none⟩) xs.length cL) xs pre.length hi5 v5 l5 ∧ Vn Z v2 v5 ∧ Fz (Pb (W.heap.size + 1 + 1 + 1 + 1) (W.heap.size + 1 + 1 + 1) (w1.heap.size + 1) v2) Z w' := fun Y hY => by
              have hRY := hR.below hY
              refine (play_any hRY.s.p kd vv).mono ?_
              rintro e w' ⟨k, hi', v', l', p5, n5, f5⟩
              exact ⟨k, hi', v', l', hRY.play p5 n5 f5, Vn.step (Vn.refl Z v2) n5 hY.size, (Fz.of_below hY).trans f5⟩
            have HRZ : Hid (R1 W Z W.heap.size (W.heap.size + 1) (W.heap.size + 1 + 1) w1.heap.size w2.heap.size (W.heap.size + 1 + 1 + 1 + 1) (W.heap.size + 1 + 1 + 1) (w1.heap.size + 1) n (.slice (some ⟨ga, off, none⟩) dur.length c2) lv w6.heap.size (w6.heap.size + 1) wr.heap.size (.slice (some ⟨gL, 0, none⟩) xs.length cL) xs pre.length hi2 v2 l2) := hR
            have HX : Hid (∀ Z, Below W.heap.size W Z → Z.cell? ⟨ga, off + pre.length * 2, none⟩ = some (I kd) ∧ Z.cell? ⟨ga, off + pre.length * 2 + 1, none⟩ = some (I vv)) := hcx
            clear hcl hy hx hcx hR h7
            gi_wp2
            refine only_normal (fun K hK => ?_)
            refine region_round (by kernel_rfl) (by kernel_rfl) (not_lets_onlyN _) (S := fun w' => w'.cell? ⟨w6.heap.size + 1, 0, none⟩ = some (I pre.length) ∧ w'.cell? ⟨W.heap.size, 0, none⟩ = some (.slice (some ⟨ga, off, none⟩) dur.length c2) ∧ w'.cell? ⟨w1.heap.size, 0, none⟩ = some (iP (W.heap.size + 1 + 1 + 1 + 1)) ∧ w'.cell? ⟨w2.heap.size, 0, none⟩ = some (dP (w1.heap.size + 1)) ∧ w'.cell? ⟨ga, off + pre.length * 2, none⟩ = some (I kd) ∧ w'.cell? ⟨ga, off + pre.length * 2 + 1, none⟩ = some (I vv)) ⟨hcn, h6, h9, h11, x0, x1⟩ (fun hHeld => ?_)
            refine takeD 0 75 (I pre.length) hHeld rfl rfl (by kernel_rfl) (by kernel_rfl) (by kernel_rfl) (Or.inl ⟨by rfl, fun w' hSw => by obtain ⟨q0, q1, q2, q3, q4, q5⟩ := hSw; go_simp⟩) ?_
            try simp only [Act.put, List.setIfInBounds_toArray, List.set_cons_zero, List.set_cons_succ]
            refine takeD 1 76 ((.slice (some ⟨ga, off, none⟩) dur.length c2)) hHeld rfl rfl (by kernel_rfl) (by kernel_rfl) (by kernel_rfl) (Or.inl ⟨by rfl, fun w' hSw => by obtain ⟨q0, q1, q2, q3, q4, q5⟩ := hSw; go_simp⟩) ?_
            try simp only [Act.put, List.setIfInBounds_toArray, List.set_cons_zero, List.set_cons_succ]
            refine takeD 2 77 (I dur.length) hHeld rfl rfl (by kernel_rfl) (by kernel_rfl) (by kernel_rfl) (Or.inl ⟨by rfl, fun w' hSw => by obtain ⟨q0, q1, q2, q3, q4, q5⟩ := hSw; go_simp⟩) ?_
            try simp only [Act.put, List.setIfInBounds_toArray, List.set_cons_zero, List.set_cons_succ]
            refine takeD 3 78 (.bool true) hHeld rfl rfl (by kernel_rfl) (by kernel_rfl) (by kernel_rfl) (Or.inl ⟨by rfl, fun w' hSw => by obtain ⟨q0, q1, q2, q3, q4, q5⟩ := hSw; go_simp⟩) ?_
            try simp only [Act.put, List.setIfInBounds_toArray, List.set_cons_zero, List.set_cons_succ]
            refine takeD 4 79 (.bool true) hHeld rfl rfl (by kernel_rfl) (by kernel_rfl) (by kernel_rfl) (Or.inl ⟨by rfl, fun w' hSw => by obtain ⟨q0, q1, q2, q3, q4, q5⟩ := hSw; go_simp⟩) ?_
            try simp only [Act.put, List.setIfInBounds_toArray, List.set_cons_zero, List.set_cons_succ]
            refine takeD 5 80 (iP (W.heap.size + 1 + 1 + 1 + 1)) hHeld rfl rfl (by kernel_rfl) (by kernel_rfl) (by kernel_rfl) (Or.inl ⟨by rfl, fun w' hSw => by obtain ⟨q0, q1, q2, q3, q4, q5⟩ := hSw; go_simp⟩) ?_
            try simp only [Act.put, List.setIfInBounds_toArray, List.set_cons_zero, List.set_cons_succ]
            refine takeD 6 81 (dP (w1.heap.size + 1)) hHeld rfl rfl (by kernel_rfl) (by kernel_rfl) (by kernel_rfl) (Or.inl ⟨by rfl, fun w' hSw => by obtain ⟨q0, q1, q2, q3, q4, q5⟩ := hSw; go_simp⟩) ?_
            try simp only [Act.put, List.setIfInBounds_toArray, List.set_cons_zero, List.set_cons_succ]
            refine takeD 7 82 ((.slice (some ⟨ga, off, none⟩) dur.length c2)) hHeld rfl rfl (by kernel_rfl) (by kernel_rfl) (by kernel_rfl) (Or.inl ⟨by rfl, fun w' hSw => by obtain ⟨q0, q1, q2, q3, q4, q5⟩ := hSw; go_simp⟩) ?_
            try simp only [Act.put, List.setIfInBounds_toArray, List.set_cons_zero, List.set_cons_succ]
            refine takeD 8 83 (I pre.length) hHeld rfl rfl (by kernel_rfl) (by kernel_rfl) (by kernel_rfl) (Or.inl ⟨by rfl, fun w' hSw => by obtain ⟨q0, q1, q2, q3, q4, q5⟩ := hSw; go_simp⟩) ?_
            try simp only [Act.put, List.setIfInBounds_toArray, List.set_cons_zero, List.set_cons_succ]
            refine takeD 9 84 (.pointer (some ⟨ga, off + pre.length * 2, none⟩)) hHeld rfl rfl (by kernel_rfl) (by kernel_rfl) (by kernel_rfl) (Or.inl ⟨by rfl, fun w' hSw => by obtain ⟨q0, q1, q2, q3, q4, q5⟩ := hSw; go_simp⟩) ?_
            try simp only [Act.put, List.setIfInBounds_toArray, List.set_cons_zero, List.set_cons_succ]
            refine takeD 10 85 (.agg #[I kd, I vv]) hHeld rfl rfl (by kernel_rfl) (by kernel_rfl) (by kernel_rfl) (Or.inl ⟨by rfl, fun w' hSw => by obtain ⟨q0, q1, q2, q3, q4, q5⟩ := hSw; go_simp⟩) ?_
            try simp only [Act.put, List.setIfInBounds_toArray, List.set_cons_zero, List.set_cons_succ]
            refine wpAnyH_ready (rs := [11]) (by kernel_rfl) (by simp) ?_
            refine AllReadyH.cons rfl (fun K2 hK2 => ?_) AllReadyH.nil
            go_simp
            go_wp2_with (go_at_call 26; refine (Pd _ (Below.refl _ _).drew).mono ?_; rintro e w5 ⟨rfl, r5⟩)
            have HR5 : Hid (∃ hi5 v5 l5, R1 W w5 W.heap.size (W.heap.size + 1) (W.heap.size + 1 + 1) w1.heap.size w2.heap.size (W.heap.size + 1 + 1 + 1 + 1) (W.heap.size + 1 + 1 + 1) (w1.heap.size + 1) n (.slice (some ⟨ga, off, none⟩) dur.length c2) lv w6.heap.size (w6.heap.size + 1) wr.heap.size (.slice (some ⟨gL, 0, none⟩) xs.length cL) xs pre.length hi5 v5 l5 ∧ Vn Z v2 v5 ∧ Fz (Pb (W.heap.size + 1 + 1 + 1 + 1) (W.heap.size + 1 + 1 + 1) (w1.heap.size + 1) v2) Z w5) := r5
            clear r5 Pd
            clear hHeld
            refine hK2.out _ _ ?_ (fun hHeld => ?_)
            · obtain ⟨hi5, v5, l5, r5, _, _⟩ := HR5.out
              obtain ⟨zx0, zx1⟩ := HX.out w5 r5.s.b
              exact ⟨r5.c.cell, r5.s.x6.cell, r5.s.x9.cell, r5.s.x11.cell, zx0, zx1⟩
            clear hK2 K2 hcn h6 h9 h11 x0 x1
            refine takeD 12 87 (.bool false) hHeld rfl rfl (by kernel_rfl) (by kernel_rfl) (by kernel_rfl) (Or.inl ⟨by rfl, fun w' hSw => by obtain ⟨q0, q1, q2, q3, q4, q5⟩ := hSw; go_simp⟩) ?_
            try simp only [Act.put, List.setIfInBounds_toArray, List.set_cons_zero, List.set_cons_succ]
            refine takeD 13 88 (.bool false) hHeld rfl rfl (by kernel_rfl) (by kernel_rfl) (by kernel_rfl) (Or.inl ⟨by rfl, fun w' hSw => by obtain ⟨q0, q1, q2, q3, q4, q5⟩ := hSw; go_simp⟩) ?_
            try simp only [Act.put, List.setIfInBounds_toArray, List.set_cons_zero, List.set_cons_succ]
            refine wpAnyH_done (by kernel_rfl) ?_ _
            refine hK.out _ _ ?_
            clear hK K hHeld
            obtain ⟨hi5, v5, l5, r5, n5, f5⟩ := HR5.out
            have c5 := r5.c.cell
            have z5 := r5.c.frozen
            have c7 := r5.s.x7.cell
            have hne7 : w6.heap.size + 1 ≠ W.heap.size + 1 := fun e => r5.n2.1 (by simp [e])
            have hR6 := HRZ.out.round r5 n5 f5 (pre.length + 1)
            clear r5 n5 f5
            have hpl : ((pre.length + 1 : Nat) : Int) = (pre.length : Int) + 1 := by omega
            have hl1' : (pre ++ [x]).length = pre.length + 1 := by simp
            by_cases hlv : (pre.length : Int) + 1 = lv
            · have hlvb : ((pre.length : Int) + 1 == lv) = true := by simp [hlv]
              rw [hpl, hlv] at hR6
              have HR6 : Hid (_ ∧ _ ∧ _) := hR6
              clear hR6
              gi_wp2
              exact ⟨HR6.out.1.from _, .inr ⟨rfl, ⟨_, _, _, by rw [hl1']; exact HR6.out.2.2⟩, hpx, by rw [hl1']; omega⟩⟩
            · have hlvb : ((pre.length : Int) + 1 == lv) = false := by simp [hlv]
              rw [hpl] at hR6
              have HR6 : Hid (_ ∧ _ ∧ _) := hR6
              clear hR6
              gi_wp2
              exact ⟨HR6.out.1.from _, HR6.out.2.1, ⟨_, _, _, by rw [hl1']; exact HR6.out.2.2⟩, hpx⟩
          · have hduI : ¬ (pre.length : Int) < dur.length := by omega
            have hdec : decide ((pre.length : Int) < dur.length) = false := by simpa using hduI
            have HRZ : Hid (R1 W Z W.heap.size (W.heap.size + 1) (W.heap.size + 1 + 1) w1.heap.size w2.heap.size (W.heap.size + 1 + 1 + 1 + 1) (W.heap.size + 1 + 1 + 1) (w1.heap.size + 1) n (.slice a2 dur.length c2) lv w6.heap.size (w6.heap.size + 1) wr.heap.size (.slice (some ⟨gL, 0, none⟩) xs.length cL) xs pre.length hi2 v2 l2) := hR
            have HR5 : Hid (∃ hi5 v5 l5, R1 W Z.drew W.heap.size (W.heap.size + 1) (W.heap.size + 1 + 1) w1.heap.size w2.heap.size (W.heap.size + 1 + 1 + 1 + 1) (W.heap.size + 1 + 1 + 1) (w1.heap.size + 1) n (.slice a2 dur.length c2) lv w6.heap.size (w6.heap.size + 1) wr.heap.size (.slice (some ⟨gL, 0, none⟩) xs.length cL) xs pre.length hi5 v5 l5 ∧ Vn Z v2 v5 ∧ Fz (Pb (W.heap.size + 1 + 1 + 1 + 1) (W.heap.size + 1 + 1 + 1) (w1.heap.size + 1) v2) Z Z.drew) := ⟨hi2, v2, l2, hR.below (Below.refl _ _).drew, Vn.refl _ _, Fz.of_below (Below.refl _ _).drew⟩
            clear hcl hy hR
            gi_wp2
            refine only_normal (fun K hK => ?_)
            refine region_round (by kernel_rfl) (by kernel_rfl) (not_lets_onlyN _) (S := fun w' => w'.cell? ⟨w6.heap.size + 1, 0, none⟩ = some (I pre.length) ∧ w'.cell? ⟨W.heap.size, 0, none⟩ = some (.slice a2 dur.length c2)) ⟨hcn, h6⟩ (fun hHeld => ?_)
            refine takeD 0 75 (I pre.length) hHeld rfl rfl (by kernel_rfl) (by kernel_rfl) (by kernel_rfl) (Or.inl ⟨by rfl, fun w' hSw => by obtain ⟨q0, q1⟩ := hSw; go_simp⟩) ?_
            try simp only [Act.put, List.setIfInBounds_toArray, List.set_cons_zero, List.set_cons_succ]
            refine takeD 1 76 ((.slice a2 dur.length c2)) hHeld rfl rfl (by kernel_rfl) (by kernel_rfl) (by kernel_rfl) (Or.inl ⟨by rfl, fun w' hSw => by obtain ⟨q0, q1⟩ := hSw; go_simp⟩) ?_
            try simp only [Act.put, List.setIfInBounds_toArray, List.set_cons_zero, List.set_cons_succ]
            refine takeD 2 77 (I dur.length) hHeld rfl rfl (by kernel_rfl) (by kernel_rfl) (by kernel_rfl) (Or.inl ⟨by rfl, fun w' hSw => by obtain ⟨q0, q1⟩ := hSw; go_simp⟩) ?_
            try simp only [Act.put, List.setIfInBounds_toArray, List.set_cons_zero, List.set_cons_succ]
            refine takeD 3 78 (.bool false) hHeld rfl rfl (by kernel_rfl) (by kernel_rfl) (by kernel_rfl) (Or.inl ⟨by rfl, fun w' hSw => by obtain ⟨q0, q1⟩ := hSw; go_simp⟩) ?_
            try simp only [Act.put, List.setIfInBounds_toArray, List.set_cons_zero, List.set_cons_succ]
            refine takeD 4 79 (.bool false) hHeld rfl rfl (by kernel_rfl) (by kernel_rfl) (by kernel_rfl) (Or.inl ⟨by rfl, fun w' hSw => by obtain ⟨q0, q1⟩ := hSw; go_simp⟩) ?_
            try simp only [Act.put, List.setIfInBounds_toArray, List.set_cons_zero, List.set_cons_succ]
            refine takeD 5 80 undef hHeld rfl rfl (by kernel_rfl) (by kernel_rfl) (by kernel_rfl) (Or.inr ⟨by rfl, rfl⟩) ?_
            try simp only [Act.put, List.setIfInBounds_toArray, List.set_cons_zero, List.set_cons_succ]
            refine takeD 6 81 undef hHeld rfl rfl (by kernel_rfl) (by kernel_rfl) (by kernel_rfl) (Or.inr ⟨by rfl, rfl⟩) ?_
            try simp only [Act.put, List.setIfInBounds_toArray, List.set_cons_zero, List.set_cons_succ]
            refine takeD 7 82 undef hHeld rfl rfl (by kernel_rfl) (by kernel_rfl) (by kernel_rfl) (Or.inr ⟨by rfl, rfl⟩) ?_
            try simp only [Act.put, List.setIfInBounds_toArray, List.set_cons_zero, List.set_cons_succ]
            refine takeD 8 83 undef hHeld rfl rfl (by kernel_rfl) (by kernel_rfl) (by kernel_rfl) (Or.inr ⟨by rfl, rfl⟩) ?_
            try simp only [Act.put, List.setIfInBounds_toArray, List.set_cons_zero, List.set_cons_succ]
            refine takeD 9 84 undef hHeld rfl rfl (by kernel_rfl) (by kernel_rfl) (by kernel_rfl) (Or.inr ⟨by rfl, rfl⟩) ?_
            try simp only [Act.put, List.setIfInBounds_toArray, List.set_cons_zero, List.set_cons_succ]
            refine takeD 10 85 undef hHeld rfl rfl (by kernel_rfl) (by kernel_rfl) (by kernel_rfl) (Or.inr ⟨by rfl, rfl⟩) ?_
            try simp only [Act.put, List.setIfInBounds_toArray, List.set_cons_zero, List.set_cons_succ]
            refine takeD 11 86 undef hHeld rfl rfl (by kernel_rfl) (by kernel_rfl) (by kernel_rfl) (Or.inr ⟨by rfl, rfl⟩) ?_
            try simp only [Act.put, List.setIfInBounds_toArray, List.set_cons_zero, List.set_cons_succ]
            refine takeD 12 87 undef hHeld rfl rfl (by kernel_rfl) (by kernel_rfl) (by kernel_rfl) (Or.inr ⟨by rfl, rfl⟩) ?_
            try simp only [Act.put, List.setIfInBounds_toArray, List.set_cons_zero, List.set_cons_succ]
            refine takeD 13 88 (.bool false) hHeld rfl rfl (by kernel_rfl) (by kernel_rfl) (by kernel_rfl) (Or.inl ⟨by rfl, fun w' hSw => by obtain ⟨q0, q1⟩ := hSw; go_simp⟩) ?_
            try simp only [Act.put, List.setIfInBounds_toArray, List.set_cons_zero, List.set_cons_succ]
            refine wpAnyH_done (by kernel_rfl) ?_ _
            refine hK.out _ _ ?_
            clear hK K hHeld
            obtain ⟨hi5, v5, l5, r5, n5, f5⟩ := HR5.out
            have c5 := r5.c.cell
            have z5 := r5.c.frozen
            have c7 := r5.s.x7.cell
            have hne7 : w6.heap.size + 1 ≠ W.heap.size + 1 := fun e => r5.n2.1 (by simp [e])
            have hR6 := HRZ.out.round r5 n5 f5 (pre.length + 1)
            clear r5 n5 f5
            have hpl : ((pre.length + 1 : Nat) : Int) = (pre.length : Int) + 1 := by omega
            have hl1' : (pre ++ [x]).length = pre.length + 1 := by simp
            by_cases hlv : (pre.length : Int) + 1 = lv
            · have hlvb : ((pre.length : Int) + 1 == lv) = true := by simp [hlv]
              rw [hpl, hlv] at hR6
              have HR6 : Hid (_ ∧ _ ∧ _) := hR6
              clear hR6
              gi_wp2
              exact ⟨HR6.out.1.from _, .inr ⟨rfl, ⟨_, _, _, by rw [hl1']; exact HR6.out.2.2⟩, hpx, by rw [hl1']; omega⟩⟩
            · have hlvb : ((pre.length : Int) + 1 == lv) = false := by simp [hlv]
              rw [hpl] at hR6
              have HR6 : Hid (_ ∧ _ ∧ _) := hR6
              clear hR6
              gi_wp2
              exact ⟨HR6.out.1.from _, HR6.out.2.1, ⟨_, _, _, by rw [hl1']; exact HR6.out.2.2⟩, hpx⟩
        · have hxb : (x == y) = false := by rw [beq_eq_false_iff_ne]; exact hxy
          have hxn : (x != y) = true := by simp [hxy]
          have hnp := pre_not hy hxy
          have h8 := hR.s.x8.cell
          have hz8 := hR.s.x8.frozen
          clear hR hcl hy
          gi_wp2
          exact ⟨(KeepsOthers.setCell _ _ _).from _, .inl ⟨rfl, hnp⟩⟩
      case done =>
        intro D1 zs Z hD1 hzs hI hDz
        subst hA
        obtain ⟨⟨hi2, v2, l2, hR⟩, hpre⟩ := hI
        obtain rfl : xs = zs := hzs.symm
        have hcn := hR.c.cell
        have hcw := hR.w.cell
        have h11 := hR.s.x11.cell
        obtain ⟨ys, hys⟩ : ∃ ys : List Int, l2 = ys.reverse := ⟨l2.reverse, by simp⟩
        subst hys
        have hDn := down_any hR.s.p.d
        rw [List.reverse_reverse, List.length_reverse] at hDn
        have HRZ : Hid (R1 W Z W.heap.size (W.heap.size + 1) (W.heap.size + 1 + 1) w1.heap.size w2.heap.size (W.heap.size + 1 + 1 + 1 + 1) (W.heap.size + 1 + 1 + 1) (w1.heap.size + 1) n (.slice a2 dur.length c2) lv w6.heap.size (w6.heap.size + 1) wr.heap.size (.slice aL xs.length cL) xs xs.length hi2 v2 ys.reverse) := hR
        have HDZ : Hid (Z.heap[D1]? = some (.deferred (some []))) := hDz
        clear hR hDz
        clear hpre
        go_wp2_with (first
          | (go_at_call 31; refine hDn.mono ?_; clear hDn; rintro e Z6 ⟨uF, rfl, oF, b6⟩; obtain ⟨aF, cF, hu⟩ := own_sl oF; subst hu))
        have hR6 := HRZ.out.below b6
        have b8 : Below Z6.heap.size Z6 ((Z6.alloc (.cells #[.int .i64 0] 3)).alloc (.cells #[.slice aF ys.length cF] 22)) := ((Below.refl _ Z6).alloc (Nat.le_refl _) _).alloc (by simp) _
        have hs8 : ((Z6.alloc (.cells #[.int .i64 0] 3)).alloc (.cells #[.slice aF ys.length cF] 22)).heap.size = Z6.heap.size + 1 + 1 := by simp
        have x18 : Boxed ((Z6.alloc (.cells #[.int .i64 0] 3)).alloc (.cells #[.slice aF ys.length cF] 22)) Z6.heap.size 3 (.int .i64 0) := (Boxed.new Z6 3 (.int .i64 0)).alloc _
        have x19 : Boxed ((Z6.alloc (.cells #[.int .i64 0] 3)).alloc (.cells #[.slice aF ys.length cF] 22)) (Z6.heap.size + 1) 22 (.slice aF ys.length cF) := by
          have := Boxed.new (Z6.alloc (.cells #[.int .i64 0] 3)) 22 (.slice aF ys.length cF)
          rw [World.size_alloc] at this
          exact this
        have HR2 : Hid (R2 W ((Z6.alloc (.cells #[.int .i64 0] 3)).alloc (.cells #[.slice aF ys.length cF] 22)) W.heap.size (W.heap.size + 1) (W.heap.size + 1 + 1) w1.heap.size w2.heap.size (W.heap.size + 1 + 1 + 1 + 1) (W.heap.size + 1 + 1 + 1) (w1.heap.size + 1) n (.slice a2 dur.length c2) lv Z6.heap.size (Z6.heap.size + 1) D1 hi2 v2 ys (.slice aF ys.length cF) 0) := by
          have l6 := hR6.s.x6.lt
          have l7 := hR6.s.x7.lt
          have l8 := hR6.s.x8.lt
          have l9 := hR6.s.x9.lt
          have l11 := hR6.s.x11.lt
          have hWb := hR6.s.b.size
          refine ⟨hR6.s.below b8, x18, x19, own_base (own_below oF b8) (Nat.zero_le _), (b8.block _ (Nat.lt_of_lt_of_le (heap_lt HDZ.out) b6.size)).trans ((b6.block _ (heap_lt HDZ.out)).trans HDZ.out), hWb, by simp; omega, by omega, fun e => ?_, fun e => ?_⟩
          · have := hR6.s.p.lt _ e; omega
          · have := (oF.lt _ e).2; omega
        have cS8 : ((Z6.alloc (.cells #[.int .i64 0] 3)).alloc (.cells #[.slice aF ys.length cF] 22)).cell? ⟨wr.heap.size, 0, none⟩ = some (iP (W.heap.size + 1 + 1 + 1 + 1)) := (hR6.below b8).q.cell
        have lq8 := (hR6.below b8).q.lt
        have lD1 : D1 < ((Z6.alloc (.cells #[.int .i64 0] 3)).alloc (.cells #[.slice aF ys.length cF] 22)).heap.size := heap_lt HR2.out.d
        have hWs8 : W.heap.size ≤ ((Z6.alloc (.cells #[.int .i64 0] 3)).alloc (.cells #[.slice aF ys.length cF] 22)).heap.size := HR2.out.s.b.size
        have hyl : ys.length ≤ 1024 := by have h1 := hR6.s.p.q.le; have h2 := hR6.s.p.q.m; rw [List.length_reverse] at h1; omega
        clear x18 x19 b8 oF hR6 h11
        generalize ((Z6.alloc (.cells #[.int .i64 0] 3)).alloc (.cells #[.slice aF ys.length cF] 22)) = Z8 at *
        refine (wpIn_wide (n := 3)).1 ?_
        generalize hA2 : ({ tmps := _, defers := _ } : Act) = aa
        have hg2 : aa.eval (.tmp 105) = .func (.func 53) #[] #[.pointer (some ⟨wr.heap.size, 0, none⟩)] := by rw [← hA2]; rfl
        refine wpIn_rangeFunc_ownG (α := Int) rfl (by omega) (gf := 53) (lb := #[.pointer (some ⟨wr.heap.size, 0, none⟩)]) hg2 trivial (enters_of Try.func53 (by kernel_rfl) rfl)
          (All_stops (3 - 1) (by omega) wr.heap.size (fun _ b => b = Z6.heap.size) ys _ _ n hi2 Z8 lq8 cS8 HR2.out.s.p.q (fun _ b _ hb => by omega)) Kq.trans (Kq.put (fun _ _ _ _ _ hm => hm)) (Below.refl _ _) (fun _ => rfl)
          (fun pre Y => R2 W Y W.heap.size (W.heap.size + 1) (W.heap.size + 1 + 1) w1.heap.size w2.heap.size (W.heap.size + 1 + 1 + 1 + 1) (W.heap.size + 1 + 1 + 1) (w1.heap.size + 1) n (.slice a2 dur.length c2) lv Z6.heap.size (Z6.heap.size + 1) D1 hi2 v2 ys (.slice aF ys.length cF) pre.length ∧ pre <+: ys)
          (fun c pre Y => c = .ret ∧ ¬ pre <+: ys)
          (fun pre Y Y' row hI hg hr => ⟨hI.1.noC (Fx.turn hg) (noC_turn (fun r e => (hr r e).2)) (fun x hx => Nat.le_trans hWs8 (hr x (by simpa using hx)).1) (fun e => by have := (hr D1 (by simpa using e)).1; omega), hI.2⟩)
          (fun c pre Y Y' row hI hg hr => hI)
          ⟨HR2.out, List.nil_prefix⟩
          (fun x => { tmps := (aa.tmps.setIfInBounds 106 (.int .i64 x)).setIfInBounds 20 (.int .i64 x), defers := [] }) ?assign2 ?body2 ?done2 ?stop2
        case assign2 =>
          intro lp x Y K hK
          subst hA2
          simp only [List.setIfInBounds_toArray, List.set_cons_succ, List.set_cons_zero] at hK
          gi_wp2
          exact hK
        case body2 =>
          rintro lp pre x Y ⟨hR, hpre⟩ hlt
          subst hA2
          simp only [List.setIfInBounds_toArray, List.set_cons_succ, List.set_cons_zero]
          have hcn := hR.c.cell
          have hzn := hR.c.frozen
          have hcf := hR.f.cell
          have h8 := hR.s.x8.cell
          have hz8 := hR.s.x8.frozen
          obtain ⟨y, hy⟩ : ∃ y, ys[pre.length]? = some y := ⟨_, List.getElem?_eq_getElem hlt⟩
          obtain ⟨gF, cF', e9, _, hclF⟩ := own_cell hR.r (by omega)
          cases e9
          have hcy := hclF _ _ hy
          have hltI : ¬ (ys.length : Int) ≤ pre.length := by omega
          have hge0 : ¬ (pre.length : Int) < 0 := by omega
          have hltJ : (pre.length : Int) < ys.length := by omega
          have hb5 : (pre.length : Int) < 1025 := by omega
          have hpl : ((pre.length + 1 : Nat) : Int) = (pre.length : Int) + 1 := by omega
          have hl1' : (pre ++ [x]).length = pre.length + 1 := by simp
          have hR6 := hR.round (pre.length + 1)
          rw [hpl] at hR6
          have HR6 : Hid (_ ∧ _ ∧ _) := hR6
          by_cases hxy : x = y
          · have hpx := pre_next hpre hy hxy
            subst hxy
            clear hR hR6 hclF hy
            gi_wp2
            exact ⟨HR6.out.1.from _, HR6.out.2.1, by rw [hl1']; exact HR6.out.2.2, hpx⟩
          · have hxb : (x == y) = false := by rw [beq_eq_false_iff_ne]; exact hxy
            have hxn : (x != y) = true := by simp [hxy]
            have hnp := pre_not hy hxy
            clear hR hR6 hclF hy
            gi_wp2
            exact ⟨(KeepsOthers.setCell _ _ _).from _, rfl, hnp⟩
        case done2 =>
          intro D2 zs Y hD2 hzs hI hDy
          subst hA2
          obtain ⟨hR, hpre⟩ := hI
          obtain rfl : ys = zs := hzs.symm
          have hcn := hR.c.cell
          have hcf := hR.f.cell
          have h9 := hR.s.x9.cell
          have h11 := hR.s.x11.cell
          have HRY : Hid (R2 W Y W.heap.size (W.heap.size + 1) (W.heap.size + 1 + 1) w1.heap.size w2.heap.size (W.heap.size + 1 + 1 + 1 + 1) (W.heap.size + 1 + 1 + 1) (w1.heap.size + 1) n (.slice a2 dur.length c2) lv Z6.heap.size (Z6.heap.size + 1) D1 hi2 v2 ys (.slice aF ys.length cF) ys.length) := hR
          have Pt := told_any _ _ _ _ _ _ _ _ hR.s.p
          have HDy : Hid (Y.heap[D2]? = some (.deferred (some []))) := hDy
          clear hR hpre hDy cS8 lq8 hg2
          go_wp2_with (first
            | (go_at_call 32; refine Pt.mono ?_; clear Pt; rintro e w7 ⟨rfl, b7⟩)
            | (go_at_call 16; refine (alive_any _).mono ?_; rintro e w8 ⟨rfl, b8⟩; have b08 : Below Y.heap.size Y w8 := b7.trans (b8.mono b7.size); have y8 := (HRY.out.below b08).s.x8.cell; have yz8 := (HRY.out.below b08).s.x8.frozen))
          have r8 := HRY.out.below b08
          have x8' := r8.s.x8
          have f8 : Fx [W.heap.size + 1 + 1] w8 (w8.setCell ⟨W.heap.size + 1 + 1, 0, none⟩ (.bool true)) := (Fx.refl _ _).set (b := W.heap.size + 1 + 1) (.inl (by simp)) _ _
          have d2 : w8.heap[D2]? = some (.deferred (some [])) := (b08.block _ (heap_lt HDy.out)).trans HDy.out
          have m2 : D2 ∉ [W.heap.size + 1 + 1] := fun e => by simp at e; have := HR2.out.s.x8.lt; omega
          have m1 : D1 ∉ [W.heap.size + 1 + 1] := fun e => by simp at e; have h := r8.d; rw [e] at h; unfold Boxed at x8'; rw [x8'] at h; cases h
          show LeavesInM Fence.wide 3 _ _ _ _ _ _ _
          exact leave2 (p := 8) rfl rfl (x8'.set _) ((f8.block _ (heap_lt d2) m2).trans d2) ((f8.block _ (heap_lt r8.d) m1).trans r8.d) (by omega) (r8.s.b.trans (f8.below r8.s.b.size (by simp; omega))) (by omega) (by omega)
        case stop2 =>
          rintro D2 c pre Y hD2 hpre ⟨rfl, hnp⟩ hDy
          exact absurd hpre hnp
      case stop =>
        rintro D1 c pre Z hD1 hpre (⟨rfl, hnp⟩ | ⟨rfl, ⟨hi2, v2, l2, hR⟩, _, hlv⟩) hDz
        · exact absurd hpre hnp
        · subst hA
          have hcn := hR.c.cell
          have hcw := hR.w.cell
          have hc7 : Z.cell? ⟨W.heap.size + 1, 0, none⟩ = some (I pre.length) := by rw [hlv]; exact hR.s.x7.cell
          by_cases hkl : pre.length = xs.length
          · have hkb : ((pre.length : Int) != xs.length) = false := by simp [hkl]
            have h11 := hR.s.x11.cell
            obtain ⟨ys, hys⟩ : ∃ ys : List Int, l2 = ys.reverse := ⟨l2.reverse, by simp⟩
            subst hys
            have hDn := down_any hR.s.p.d
            rw [List.reverse_reverse, List.length_reverse] at hDn
            have HRZ : Hid (R1 W Z W.heap.size (W.heap.size + 1) (W.heap.size + 1 + 1) w1.heap.size w2.heap.size (W.heap.size + 1 + 1 + 1 + 1) (W.heap.size + 1 + 1 + 1) (w1.heap.size + 1) n (.slice a2 dur.length c2) lv w6.heap.size (w6.heap.size + 1) wr.heap.size (.slice aL xs.length cL) xs pre.length hi2 v2 ys.reverse) := hR
            have HDZ : Hid (Z.heap[D1]? = some (.deferred (some []))) := hDz
            clear hR hDz
            gi_wp2
            go_wp2_with (first
              | (go_at_call 31; refine hDn.mono ?_; clear hDn; rintro e Z6 ⟨uF, rfl, oF, b6⟩; obtain ⟨aF, cF, hu⟩ := own_sl oF; subst hu))
            have hR6 := HRZ.out.below b6
            have b8 : Below Z6.heap.size Z6 ((Z6.alloc (.cells #[.int .i64 0] 3)).alloc (.cells #[.slice aF ys.length cF] 22)) := ((Below.refl _ Z6).alloc (Nat.le_refl _) _).alloc (by simp) _
            have hs8 : ((Z6.alloc (.cells #[.int .i64 0] 3)).alloc (.cells #[.slice aF ys.length cF] 22)).heap.size = Z6.heap.size + 1 + 1 := by simp
            have x18 : Boxed ((Z6.alloc (.cells #[.int .i64 0] 3)).alloc (.cells #[.slice aF ys.length cF] 22)) Z6.heap.size 3 (.int .i64 0) := (Boxed.new Z6 3 (.int .i64 0)).alloc _
            have x19 : Boxed ((Z6.alloc (.cells #[.int .i64 0] 3)).alloc (.cells #[.slice aF ys.length cF] 22)) (Z6.heap.size + 1) 22 (.slice aF ys.length cF) := by
              have := Boxed.new (Z6.alloc (.cells #[.int .i64 0] 3)) 22 (.slice aF ys.length cF)
              rw [World.size_alloc] at this
              exact this
            have HR2 : Hid (R2 W ((Z6.alloc (.cells #[.int .i64 0] 3)).alloc (.cells #[.slice aF ys.length cF] 22)) W.heap.size (W.heap.size + 1) (W.heap.size + 1 + 1) w1.heap.size w2.heap.size (W.heap.size + 1 + 1 + 1 + 1) (W.heap.size + 1 + 1 + 1) (w1.heap.size + 1) n (.slice a2 dur.length c2) lv Z6.heap.size (Z6.heap.size + 1) D1 hi2 v2 ys (.slice aF ys.length cF) 0) := by
              have l6 := hR6.s.x6.lt
              have l7 := hR6.s.x7.lt
              have l8 := hR6.s.x8.lt
              have l9 := hR6.s.x9.lt
              have l11 := hR6.s.x11.lt
              have hWb := hR6.s.b.size
              refine ⟨hR6.s.below b8, x18, x19, own_base (own_below oF b8) (Nat.zero_le _), (b8.block _ (Nat.lt_of_lt_of_le (heap_lt HDZ.out) b6.size)).trans ((b6.block _ (heap_lt HDZ.out)).trans HDZ.out), hWb, by simp; omega, by omega, fun e => ?_, fun e => ?_⟩
              · have := hR6.s.p.lt _ e; omega
              · have := (oF.lt _ e).2; omega
            have cS8 : ((Z6.alloc (.cells #[.int .i64 0] 3)).alloc (.cells #[.slice aF ys.length cF] 22)).cell? ⟨wr.heap.size, 0, none⟩ = some (iP (W.heap.size + 1 + 1 + 1 + 1)) := (hR6.below b8).q.cell
            have lq8 := (hR6.below b8).q.lt
            have lD1 : D1 < ((Z6.alloc (.cells #[.int .i64 0] 3)).alloc (.cells #[.slice aF ys.length cF] 22)).heap.size := heap_lt HR2.out.d
            have hWs8 : W.heap.size ≤ ((Z6.alloc (.cells #[.int .i64 0] 3)).alloc (.cells #[.slice aF ys.length cF] 22)).heap.size := HR2.out.s.b.size
            have hyl : ys.length ≤ 1024 := by have h1 := hR6.s.p.q.le; have h2 := hR6.s.p.q.m; rw [List.length_reverse] at h1; omega
            clear x18 x19 b8 oF hR6 h11
            generalize ((Z6.alloc (.cells #[.int .i64 0] 3)).alloc (.cells #[.slice aF ys.length cF] 22)) = Z8 at *
            refine (wpIn_wide (n := 3)).1 ?_
            generalize hA2 : ({ tmps := _, defers := _ } : Act) = aa
            have hg2 : aa.eval (.tmp 105) = .func (.func 53) #[] #[.pointer (some ⟨wr.heap.size, 0, none⟩)] := by rw [← hA2]; rfl
            refine wpIn_rangeFunc_ownG (α := Int) rfl (by omega) (gf := 53) (lb := #[.pointer (some ⟨wr.heap.size, 0, none⟩)]) hg2 trivial (enters_of Try.func53 (by kernel_rfl) rfl)
              (All_stops (3 - 1) (by omega) wr.heap.size (fun _ b => b = Z6.heap.size) ys _ _ n hi2 Z8 lq8 cS8 HR2.out.s.p.q (fun _ b _ hb => by omega)) Kq.trans (Kq.put (fun _ _ _ _ _ hm => hm)) (Below.refl _ _) (fun _ => rfl)
              (fun pre Y => R2 W Y W.heap.size (W.heap.size + 1) (W.heap.size + 1 + 1) w1.heap.size w2.heap.size (W.heap.size + 1 + 1 + 1 + 1) (W.heap.size + 1 + 1 + 1) (w1.heap.size + 1) n (.slice a2 dur.length c2) lv Z6.heap.size (Z6.heap.size + 1) D1 hi2 v2 ys (.slice aF ys.length cF) pre.length ∧ pre <+: ys)
              (fun c pre Y => c = .ret ∧ ¬ pre <+: ys)
              (fun pre Y Y' row hI hg hr => ⟨hI.1.noC (Fx.turn hg) (noC_turn (fun r e => (hr r e).2)) (fun x hx => Nat.le_trans hWs8 (hr x (by simpa using hx)).1) (fun e => by have := (hr D1 (by simpa using e)).1; omega), hI.2⟩)
              (fun c pre Y Y' row hI hg hr => hI)
              ⟨HR2.out, List.nil_prefix⟩
              (fun x => { tmps := (aa.tmps.setIfInBounds 106 (.int .i64 x)).setIfInBounds 20 (.int .i64 x), defers := [] }) ?assign2 ?body2 ?done2 ?stop2
            case assign2 =>
              intro lp x Y K hK
              subst hA2
              simp only [List.setIfInBounds_toArray, List.set_cons_succ, List.set_cons_zero] at hK
              gi_wp2
              exact hK
            case body2 =>
              rintro lp pre x Y ⟨hR, hpre⟩ hlt
              subst hA2
              simp only [List.setIfInBounds_toArray, List.set_cons_succ, List.set_cons_zero]
              have hcn := hR.c.cell
              have hzn := hR.c.frozen
              have hcf := hR.f.cell
              have h8 := hR.s.x8.cell
              have hz8 := hR.s.x8.frozen
              obtain ⟨y, hy⟩ : ∃ y, ys[pre.length]? = some y := ⟨_, List.getElem?_eq_getElem hlt⟩
              obtain ⟨gF, cF', e9, _, hclF⟩ := own_cell hR.r (by omega)
              cases e9
              have hcy := hclF _ _ hy
              have hltI : ¬ (ys.length : Int) ≤ pre.length := by omega
              have hge0 : ¬ (pre.length : Int) < 0 := by omega
              have hltJ : (pre.length : Int) < ys.length := by omega
              have hb5 : (pre.length : Int) < 1025 := by omega
              have hpl : ((pre.length + 1 : Nat) : Int) = (pre.length : Int) + 1 := by omega
              have hl1' : (pre ++ [x]).length = pre.length + 1 := by simp
              have hR6 := hR.round (pre.length + 1)
              rw [hpl] at hR6
              have HR6 : Hid (_ ∧ _ ∧ _) := hR6
              by_cases hxy : x = y
              · have hpx := pre_next hpre hy hxy
                subst hxy
                clear hR hR6 hclF hy
                gi_wp2
                exact ⟨HR6.out.1.from _, HR6.out.2.1, by rw [hl1']; exact HR6.out.2.2, hpx⟩
              · have hxb : (x == y) = false := by rw [beq_eq_false_iff_ne]; exact hxy
                have hxn : (x != y) = true := by simp [hxy]
                have hnp := pre_not hy hxy
                clear hR hR6 hclF hy
                gi_wp2
                exact ⟨(KeepsOthers.setCell _ _ _).from _, rfl, hnp⟩
            case done2 =>
              intro D2 zs Y hD2 hzs hI hDy
              subst hA2
              obtain ⟨hR, hpre⟩ := hI
              obtain rfl : ys = zs := hzs.symm
              have hcn := hR.c.cell
              have hcf := hR.f.cell
              have h9 := hR.s.x9.cell
              have h11 := hR.s.x11.cell
              have HRY : Hid (R2 W Y W.heap.size (W.heap.size + 1) (W.heap.size + 1 + 1) w1.heap.size w2.heap.size (W.heap.size + 1 + 1 + 1 + 1) (W.heap.size + 1 + 1 + 1) (w1.heap.size + 1) n (.slice a2 dur.length c2) lv Z6.heap.size (Z6.heap.size + 1) D1 hi2 v2 ys (.slice aF ys.length cF) ys.length) := hR
              have Pt := told_any _ _ _ _ _ _ _ _ hR.s.p
              have HDy : Hid (Y.heap[D2]? = some (.deferred (some []))) := hDy
              clear hR hpre hDy cS8 lq8 hg2
              go_wp2_with (first
                | (go_at_call 32; refine Pt.mono ?_; clear Pt; rintro e w7 ⟨rfl, b7⟩)
                | (go_at_call 16; refine (alive_any _).mono ?_; rintro e w8 ⟨rfl, b8⟩; have b08 : Below Y.heap.size Y w8 := b7.trans (b8.mono b7.size); have y8 := (HRY.out.below b08).s.x8.cell; have yz8 := (HRY.out.below b08).s.x8.frozen))
              have r8 := HRY.out.below b08
              have x8' := r8.s.x8
              have f8 : Fx [W.heap.size + 1 + 1] w8 (w8.setCell ⟨W.heap.size + 1 + 1, 0, none⟩ (.bool true)) := (Fx.refl _ _).set (b := W.heap.size + 1 + 1) (.inl (by simp)) _ _
              have d2 : w8.heap[D2]? = some (.deferred (some [])) := (b08.block _ (heap_lt HDy.out)).trans HDy.out
              have m2 : D2 ∉ [W.heap.size + 1 + 1] := fun e => by simp at e; have := HR2.out.s.x8.lt; omega
              have m1 : D1 ∉ [W.heap.size + 1 + 1] := fun e => by simp at e; have h := r8.d; rw [e] at h; unfold Boxed at x8'; rw [x8'] at h; cases h
              show LeavesInM Fence.wide 3 _ _ _ _ _ _ _
              exact leave2 (p := 8) rfl rfl (x8'.set _) ((f8.block _ (heap_lt d2) m2).trans d2) ((f8.block _ (heap_lt r8.d) m1).trans r8.d) (by omega) (r8.s.b.trans (f8.below r8.s.b.size (by simp; omega))) (by omega) (by omega)
            case stop2 =>
              rintro D2 c pre Y hD2 hpre ⟨rfl, hnp⟩ hDy
              exact absurd hpre hnp
          · have hkb : ((pre.length : Int) != xs.length) = true := by simp; omega
            have h11 := hR.s.x11.cell
            obtain ⟨ys, hys⟩ : ∃ ys : List Int, l2 = ys.reverse := ⟨l2.reverse, by simp⟩
            subst hys
            have hDn := down_any hR.s.p.d
            rw [List.reverse_reverse, List.length_reverse] at hDn
            have HRZ : Hid (R1 W Z W.heap.size (W.heap.size + 1) (W.heap.size + 1 + 1) w1.heap.size w2.heap.size (W.heap.size + 1 + 1 + 1 + 1) (W.heap.size + 1 + 1 + 1) (w1.heap.size + 1) n (.slice a2 dur.length c2) lv w6.heap.size (w6.heap.size + 1) wr.heap.size (.slice aL xs.length cL) xs pre.length hi2 v2 ys.reverse) := hR
            have HDZ : Hid (Z.heap[D1]? = some (.deferred (some []))) := hDz
            clear hR hDz
            gi_wp2
            go_wp2_with (first
              | (go_at_call 31; refine hDn.mono ?_; clear hDn; rintro e Z6 ⟨uF, rfl, oF, b6⟩; obtain ⟨aF, cF, hu⟩ := own_sl oF; subst hu))
            have hR6 := HRZ.out.below b6
            have b8 : Below Z6.heap.size Z6 ((Z6.alloc (.cells #[.int .i64 0] 3)).alloc (.cells #[.slice aF ys.length cF] 22)) := ((Below.refl _ Z6).alloc (Nat.le_refl _) _).alloc (by simp) _
            have hs8 : ((Z6.alloc (.cells #[.int .i64 0] 3)).alloc (.cells #[.slice aF ys.length cF] 22)).heap.size = Z6.heap.size + 1 + 1 := by simp
            have x18 : Boxed ((Z6.alloc (.cells #[.int .i64 0] 3)).alloc (.cells #[.slice aF ys.length cF] 22)) Z6.heap.size 3 (.int .i64 0) := (Boxed.new Z6 3 (.int .i64 0)).alloc _
            have x19 : Boxed ((Z6.alloc (.cells #[.int .i64 0] 3)).alloc (.cells #[.slice aF ys.length cF] 22)) (Z6.heap.size + 1) 22 (.slice aF ys.length cF) := by
              have := Boxed.new (Z6.alloc (.cells #[.int .i64 0] 3)) 22 (.slice aF ys.length cF)
              rw [World.size_alloc] at this
              exact this
            have HR2 : Hid (R2 W ((Z6.alloc (.cells #[.int .i64 0] 3)).alloc (.cells #[.slice aF ys.length cF] 22)) W.heap.size (W.heap.size + 1) (W.heap.size + 1 + 1) w1.heap.size w2.heap.size (W.heap.size + 1 + 1 + 1 + 1) (W.heap.size + 1 + 1 + 1) (w1.heap.size + 1) n (.slice a2 dur.length c2) lv Z6.heap.size (Z6.heap.size + 1) D1 hi2 v2 ys (.slice aF ys.length cF) 0) := by
              have l6 := hR6.s.x6.lt
              have l7 := hR6.s.x7.lt
              have l8 := hR6.s.x8.lt
              have l9 := hR6.s.x9.lt
              have l11 := hR6.s.x11.lt
              have hWb := hR6.s.b.size
              refine ⟨hR6.s.below b8, x18, x19, own_base (own_below oF b8) (Nat.zero_le _), (b8.block _ (Nat.lt_of_lt_of_le (heap_lt HDZ.out) b6.size)).trans ((b6.block _ (heap_lt HDZ.out)).trans HDZ.out), hWb, by simp; omega, by omega, fun e => ?_, fun e => ?_⟩
              · have := hR6.s.p.lt _ e; omega
              · have := (oF.lt _ e).2; omega
            have cS8 : ((Z6.alloc (.cells #[.int .i64 0] 3)).alloc (.cells #[.slice aF ys.length cF] 22)).cell? ⟨wr.heap.size, 0, none⟩ = some (iP (W.heap.size + 1 + 1 + 1 + 1)) := (hR6.below b8).q.cell
            have lq8 := (hR6.below b8).q.lt
            have lD1 : D1 < ((Z6.alloc (.cells #[.int .i64 0] 3)).alloc (.cells #[.slice aF ys.length cF] 22)).heap.size := heap_lt HR2.out.d
            have hWs8 : W.heap.size ≤ ((Z6.alloc (.cells #[.int .i64 0] 3)).alloc (.cells #[.slice aF ys.length cF] 22)).heap.size := HR2.out.s.b.size
            have hyl : ys.length ≤ 1024 := by have h1 := hR6.s.p.q.le; have h2 := hR6.s.p.q.m; rw [List.length_reverse] at h1; omega
            clear x18 x19 b8 oF hR6 h11
            generalize ((Z6.alloc (.cells #[.int .i64 0] 3)).alloc (.cells #[.slice aF ys.length cF] 22)) = Z8 at *
            refine (wpIn_wide (n := 3)).1 ?_
            generalize hA2 : ({ tmps := _, defers := _ } : Act) = aa
            have hg2 : aa.eval (.tmp 105) = .func (.func 53) #[] #[.pointer (some ⟨wr.heap.size, 0, none⟩)] := by rw [← hA2]; rfl
            refine wpIn_rangeFunc_ownG (α := Int) rfl (by omega) (gf := 53) (lb := #[.pointer (some ⟨wr.heap.size, 0, none⟩)]) hg2 trivial (enters_of Try.func53 (by kernel_rfl) rfl)
              (All_stops (3 - 1) (by omega) wr.heap.size (fun _ b => b = Z6.heap.size) ys _ _ n hi2 Z8 lq8 cS8 HR2.out.s.p.q (fun _ b _ hb => by omega)) Kq.trans (Kq.put (fun _ _ _ _ _ hm => hm)) (Below.refl _ _) (fun _ => rfl)
              (fun pre Y => R2 W Y W.heap.size (W.heap.size + 1) (W.heap.size + 1 + 1) w1.heap.size w2.heap.size (W.heap.size + 1 + 1 + 1 + 1) (W.heap.size + 1 + 1 + 1) (w1.heap.size + 1) n (.slice a2 dur.length c2) lv Z6.heap.size (Z6.heap.size + 1) D1 hi2 v2 ys (.slice aF ys.length cF) pre.length ∧ pre <+: ys)
              (fun c pre Y => c = .ret ∧ ¬ pre <+: ys)
              (fun pre Y Y' row hI hg hr => ⟨hI.1.noC (Fx.turn hg) (noC_turn (fun r e => (hr r e).2)) (fun x hx => Nat.le_trans hWs8 (hr x (by simpa using hx)).1) (fun e => by have := (hr D1 (by simpa using e)).1; omega), hI.2⟩)
              (fun c pre Y Y' row hI hg hr => hI)
              ⟨HR2.out, List.nil_prefix⟩
              (fun x => { tmps := (aa.tmps.setIfInBounds 106 (.int .i64 x)).setIfInBounds 20 (.int .i64 x), defers := [] }) ?assign2 ?body2 ?done2 ?stop2
            case assign2 =>
              intro lp x Y K hK
              subst hA2
              simp only [List.setIfInBounds_toArray, List.set_cons_succ, List.set_cons_zero] at hK
              gi_wp2
              exact hK
            case body2 =>
              rintro lp pre x Y ⟨hR, hpre⟩ hlt
              subst hA2
              simp only [List.setIfInBounds_toArray, List.set_cons_succ, List.set_cons_zero]
              have hcn := hR.c.cell
              have hzn := hR.c.frozen
              have hcf := hR.f.cell
              have h8 := hR.s.x8.cell
              have hz8 := hR.s.x8.frozen
              obtain ⟨y, hy⟩ : ∃ y, ys[pre.length]? = some y := ⟨_, List.getElem?_eq_getElem hlt⟩
              obtain ⟨gF, cF', e9, _, hclF⟩ := own_cell hR.r (by omega)
              cases e9
              have hcy := hclF _ _ hy
              have hltI : ¬ (ys.length : Int) ≤ pre.length := by omega
              have hge0 : ¬ (pre.length : Int) < 0 := by omega
              have hltJ : (pre.length : Int) < ys.length := by omega
              have hb5 : (pre.length : Int) < 1025 := by omega
              have hpl : ((pre.length + 1 : Nat) : Int) = (pre.length : Int) + 1 := by omega
              have hl1' : (pre ++ [x]).length = pre.length + 1 := by simp
              have hR6 := hR.round (pre.length + 1)
              rw [hpl] at hR6
              have HR6 : Hid (_ ∧ _ ∧ _) := hR6
              by_cases hxy : x = y
              · have hpx := pre_next hpre hy hxy
                subst hxy
                clear hR hR6 hclF hy
                gi_wp2
                exact ⟨HR6.out.1.from _, HR6.out.2.1, by rw [hl1']; exact HR6.out.2.2, hpx⟩
              · have hxb : (x == y) = false := by rw [beq_eq_false_iff_ne]; exact hxy
                have hxn : (x != y) = true := by simp [hxy]
                have hnp := pre_not hy hxy
                clear hR hR6 hclF hy
                gi_wp2
                exact ⟨(KeepsOthers.setCell _ _ _).from _, rfl, hnp⟩
            case done2 =>
              intro D2 zs Y hD2 hzs hI hDy
              subst hA2
              obtain ⟨hR, hpre⟩ := hI
              obtain rfl : ys = zs := hzs.symm
              have hcn := hR.c.cell
              have hcf := hR.f.cell
              have h9 := hR.s.x9.cell
              have h11 := hR.s.x11.cell
              have HRY : Hid (R2 W Y W.heap.size (W.heap.size + 1) (W.heap.size + 1 + 1) w1.heap.size w2.heap.size (W.heap.size + 1 + 1 + 1 + 1) (W.heap.size + 1 + 1 + 1) (w1.heap.size + 1) n (.slice a2 dur.length c2) lv Z6.heap.size (Z6.heap.size + 1) D1 hi2 v2 ys (.slice aF ys.length cF) ys.length) := hR
              have Pt := told_any _ _ _ _ _ _ _ _ hR.s.p
              have HDy : Hid (Y.heap[D2]? = some (.deferred (some []))) := hDy
              clear hR hpre hDy cS8 lq8 hg2
              go_wp2_with (first
                | (go_at_call 32; refine Pt.mono ?_; clear Pt; rintro e w7 ⟨rfl, b7⟩)
                | (go_at_call 16; refine (alive_any _).mono ?_; rintro e w8 ⟨rfl, b8⟩; have b08 : Below Y.heap.size Y w8 := b7.trans (b8.mono b7.size); have y8 := (HRY.out.below b08).s.x8.cell; have yz8 := (HRY.out.below b08).s.x8.frozen))
              have r8 := HRY.out.below b08
              have x8' := r8.s.x8
              have f8 : Fx [W.heap.size + 1 + 1] w8 (w8.setCell ⟨W.heap.size + 1 + 1, 0, none⟩ (.bool true)) := (Fx.refl _ _).set (b := W.heap.size + 1 + 1) (.inl (by simp)) _ _
              have d2 : w8.heap[D2]? = some (.deferred (some [])) := (b08.block _ (heap_lt HDy.out)).trans HDy.out
              have m2 : D2 ∉ [W.heap.size + 1 + 1] := fun e => by simp at e; have := HR2.out.s.x8.lt; omega
              have m1 : D1 ∉ [W.heap.size + 1 + 1] := fun e => by simp at e; have h := r8.d; rw [e] at h; unfold Boxed at x8'; rw [x8'] at h; cases h
              show LeavesInM Fence.wide 3 _ _ _ _ _ _ _
              exact leave2 (p := 8) rfl rfl (x8'.set _) ((f8.block _ (heap_lt d2) m2).trans d2) ((f8.block _ (heap_lt r8.d) m1).trans r8.d) (by omega) (r8.s.b.trans (f8.below r8.s.b.size (by simp; omega))) (by omega) (by omega)
            case stop2 =>
              rintro D2 c pre Y hD2 hpre ⟨rfl, hnp⟩ hDy
              exact absurd hpre hnp
end Go.Proofs.Ytckmdkdhnhkdhaa
