import Derived.Test.YthmecgfbapemjaaDoorDy
namespace Go.Proofs.YthmecgfbapemjaaDoor
open Go.RowKit Go.Shelf Go.Sort
set_option linter.unusedVariables false
set_option linter.unusedSimpArgs false

/-! ### TaskApart -/
structure Duo (W w : World) (rs : List Rw) (B : Nat) (v u : Value) (D : Nat) (a b c : Value) (s : List Sd) (B2 : Nat) (v2 u2 : Value) (D2 : Nat) (a2 b2 c2 : Value) (s2 : List Sd) : Prop where
  p : Pd W w B v u D a b c rs s s
  q : Pd W w B2 v2 u2 D2 a2 b2 c2 rs s2 s2
  o : ∀ x, Pb B v u D a b c x → ¬ Pb B2 v2 u2 D2 a2 b2 c2 x
section
variable {W w w' : World} {rs : List Rw} {B D B2 D2 : Nat} {v u a b c v2 u2 a2 b2 c2 : Value} {s s2 : List Sd}
theorem Duo.below (h : Duo W w rs B v u D a b c s B2 v2 u2 D2 a2 b2 c2 s2) (hb : Below w.heap.size w w') : Duo W w' rs B v u D a b c s B2 v2 u2 D2 a2 b2 c2 s2 := ⟨h.p.below hb, h.q.below hb, h.o⟩
theorem Duo.play (h : Duo W w rs B v u D a b c s B2 v2 u2 D2 a2 b2 c2 s2) (kd tk : Int) : Calls Tryd.prog 22 #[cP B, cP D, .agg #[I kd, I tk]] w fun e w' => e = .returned (.bool true) ∧ ∃ s', Duo W w' rs B v u D a b c s' B2 v2 u2 D2 a2 b2 c2 s2 := by
  refine (pair_play h.p kd tk).mono ?_
  rintro e w' ⟨rfl, ⟨s', p1⟩, f1⟩
  exact ⟨rfl, s', p1, h.q.keep f1 (fun x hx e => h.o x e hx) (fun x e => h.p.ge e), h.o⟩
theorem Duo.play2 (h : Duo W w rs B v u D a b c s B2 v2 u2 D2 a2 b2 c2 s2) (kd tk : Int) : Calls Tryd.prog 22 #[cP B2, cP D2, .agg #[I kd, I tk]] w fun e w' => e = .returned (.bool true) ∧ ∃ s', Duo W w' rs B v u D a b c s B2 v2 u2 D2 a2 b2 c2 s' := by
  refine (pair_play h.q kd tk).mono ?_
  rintro e w' ⟨rfl, ⟨s', p1⟩, f1⟩
  exact ⟨rfl, s', h.p.keep f1 (fun x hx e => h.o x hx e) (fun x e => h.q.ge e), p1, h.o⟩
theorem Duo.told (h : Duo W w rs B v u D a b c s B2 v2 u2 D2 a2 b2 c2 s2) : Calls Tryd.prog 23 #[cP B, cP D] w fun e w' => e = .returned (.bool true) ∧ Duo W w' rs B v u D a b c s B2 v2 u2 D2 a2 b2 c2 s2 := by
  refine (pair_told h.p).mono ?_
  rintro e w' ⟨rfl, -, hb⟩
  exact ⟨rfl, h.below hb⟩
theorem Duo.told2 (h : Duo W w rs B v u D a b c s B2 v2 u2 D2 a2 b2 c2 s2) : Calls Tryd.prog 23 #[cP B2, cP D2] w fun e w' => e = .returned (.bool true) ∧ Duo W w' rs B v u D a b c s B2 v2 u2 D2 a2 b2 c2 s2 := by
  refine (pair_told h.q).mono ?_
  rintro e w' ⟨rfl, -, hb⟩
  exact ⟨rfl, h.below hb⟩
theorem Duo.mk0 {w1 w2 w3 w4 : World} (t1 : Tb W w1 B v u rs (rstL rs.length)) (t2 : Tb W w2 B2 v2 u2 rs (rstL rs.length)) (o2 : ∀ x, Cb B2 v2 u2 x → w1.heap.size ≤ x) (b2' : Below w1.heap.size w1 w2) (d3 : Dk w3 D true a b c rs (rstL rs.length)) (o3 : ∀ x, Db D a b c x → w2.heap.size ≤ x) (b3 : Below w2.heap.size w2 w3) (d4 : Dk w4 D2 true a2 b2 c2 rs (rstL rs.length)) (o4 : ∀ x, Db D2 a2 b2 c2 x → w3.heap.size ≤ x) (b4 : Below w3.heap.size w3 w4) : Duo W w4 rs B v u D a b c (rstL rs.length) B2 v2 u2 D2 a2 b2 c2 (rstL rs.length) := by
  have s1 := t1.b.size
  have z2 := b2'.size
  have z3 := b3.size
  have q1 := fun x (e : Cb B v u x) => t1.c.lt e
  have q2 := fun x (e : Cb B2 v2 u2 x) => t2.c.lt e
  have q3 := fun x (e : Db D a b c x) => d3.lt e
  have P1 : Pd W w4 B v u D a b c rs (rstL rs.length) (rstL rs.length) := (Pd.mk0 (t1.below b2') b3 d3 o3).below b4
  have P2 : Pd W w4 B2 v2 u2 D2 a2 b2 c2 rs (rstL rs.length) (rstL rs.length) := Pd.mk0 (t2.below b3) b4 d4 o4
  refine ⟨P1, P2, ?_⟩
  rintro x (e | e) (f | f)
  · have := o2 x f; have := q1 x e; omega
  · have := o4 x f; have := q1 x e; omega
  · have := o3 x e; have := q2 x f; omega
  · have := o4 x f; have := q3 x e; omega
theorem newD_ok {W w w' : World} {rs : List Rw} {e : Ending} (hm : mayN rs = true) (h : NewD w rs e w') : ∃ D a b c, e = .returned (.tuple #[cP D, I 0]) ∧ Dk w' D true a b c rs (rstL rs.length) ∧ (∀ x, Db D a b c x → w.heap.size ≤ x) ∧ Below w.heap.size w w' := by
  obtain ⟨⟨_, D, a, b, c, e, d, o⟩ | ⟨h9, _⟩, hb⟩ := h
  · exact ⟨D, a, b, c, e, d, o, hb⟩
  · rw [hm] at h9; cases h9
theorem newD_bad {w w' : World} {rs : List Rw} {e : Ending} (hm : mayN rs = false) (h : NewD w rs e w') : ∃ D, e = .returned (.tuple #[cP D, I 182]) ∧ Below w.heap.size w w' := by
  obtain ⟨⟨h9, _⟩ | ⟨_, D, e, _⟩, hb⟩ := h
  · rw [hm] at h9; cases h9
  · exact ⟨D, e, hb⟩
end
set_option maxHeartbeats 8000000 in
set_option maxRecDepth 100000 in
theorem apart_no (W : World) (hE : EnvR W) (sr : Sl) (rs : List Rw) (hr : RowsAt W 2 rowP sr rs) (hrl : rs.length ≤ 8796093022208) (x y : Value) (hm : mayN rs = false) : Calls Tryd.prog 7 #[.slice sr.a sr.n sr.c, x, y] W fun e w' => e = .returned (.bool true) ∧ Below W.heap.size W w' := by
  have hS := rows_src hr
  obtain ⟨ar, nr, cr⟩ := sr
  have hnr := hr.n
  simp only at hnr
  subst hnr
  have h1 := fun Z (hz : Below W.heap.size W Z) => New_no (hS.up hz) hm (by omega)
  have h2 := fun Z (hz : Below W.heap.size W Z) => dNew_any (hS.up hz) (by omega)
  have hA := fun Z (hz : Below W.heap.size W Z) => alive_any Z (hE.up hz)
  have HM : Hid (mayN rs = false) := hm
  have r1 := h1 W (Below.refl _ _)
  dsimp only at r1 h1 h2
  clear hE hS hm
  go_enter Tryd.func7, Tryd.ntmps7
  go_upto_region 2 with (go_at_call 8; refine r1.mono ?_; clear r1; rintro e w1 ⟨rfl, b1⟩; have r2 := h1 w1 b1; have H1 : Hid (Below W.heap.size W w1) := b1; clear b1)
  go_upto_region 3 with (go_at_call 8; refine r2.mono ?_; clear r2; rintro e w2 ⟨rfl, b2⟩; have H2 : Hid (Below W.heap.size W w2) := H1.out.trans (b2.mono H1.out.size); have r3 := h2 w2 H2.out; clear b2)
  go_upto_region 4 with (go_at_call 25; refine r3.mono ?_; clear r3; intro e w3 hd; obtain ⟨D, rfl, b3⟩ := newD_bad HM.out hd; have H3 : Hid (Below W.heap.size W w3) := H2.out.trans (b3.mono H2.out.size); have r4 := h2 w3 H3.out; clear b3 hd)
  go_upto_region 5 with (go_at_call 25; refine r4.mono ?_; clear r4; intro e w4 hd; obtain ⟨D2, rfl, b4⟩ := newD_bad HM.out hd; have H4 : Hid (Below W.heap.size W w4) := H3.out.trans (b4.mono H3.out.size); have r5 := hA w4 H4.out; clear b4 hd)
  go_wp2_with (first
    | (go_at_call 9; refine (num_any _ _).mono ?_; rintro e w0 ⟨rfl, rfl⟩)
    | (go_at_call 10; refine r5.mono ?_; rintro e w7 ⟨rfl, b7⟩))
  go_ret
  exact ⟨rfl, H4.out.trans (b7.mono H4.out.size)⟩
set_option maxHeartbeats 16000000 in
set_option maxRecDepth 100000 in
theorem apart_ok (W : World) (hE : EnvR W) (sr : Sl) (rs : List Rw) (hr : RowsAt W 2 rowP sr rs) (hrl : rs.length ≤ 8796093022208) (ss tt : Sl) (l l2 : List Cl) (hl : RowsAt W 2 actP ss l) (hll : l.length ≤ 8796093022208) (hl2 : RowsAt W 2 actP tt l2) (hll2 : l2.length ≤ 8796093022208) (hm : mayN rs = true) : Calls Tryd.prog 7 #[.slice sr.a sr.n sr.c, .slice ss.a ss.n ss.c, .slice tt.a tt.n tt.c] W fun e w' => e = .returned (.bool true) ∧ Below W.heap.size W w' := by
  have hS := rows_src hr
  obtain ⟨ar, nr, cr⟩ := sr
  have hnr := hr.n
  simp only at hnr
  subst hnr
  obtain ⟨a1, n1, c1⟩ := ss
  have hn1 := hl.n
  simp only at hn1
  subst hn1
  obtain ⟨a2, n2, c2⟩ := tt
  have hn2 := hl2.n
  simp only at hn2
  subst hn2
  have h1 := fun Z (hz : Below W.heap.size W Z) => tNew (W := W) (hS.up hz) hz hE hm
  have h2 := fun Z (hz : Below W.heap.size W Z) => dNew_any (hS.up hz) (by omega)
  have hA := fun Z (hz : Below W.heap.size W Z) => alive_any Z (hE.up hz)
  have HM : Hid (mayN rs = true) := hm
  have r1 := h1 W (Below.refl _ _)
  dsimp only at r1 h1 h2
  clear hE hS hm
  go_enter Tryd.func7, Tryd.ntmps7
  go_upto_region 2 with (go_at_call 8; refine r1.mono ?_; clear r1; rintro e w1 ⟨B, v, u, rfl, t1, -, -⟩; have r2 := h1 w1 t1.b; have H1 : Hid (Tb W w1 B v u rs (rstL rs.length)) := t1; clear t1)
  go_upto_region 3 with (go_at_call 8; refine r2.mono ?_; clear r2; rintro e w2 ⟨B2, v2, u2, rfl, t2, o2, b2⟩; have r3 := h2 w2 t2.b; have H2 : Hid (Tb W w2 B2 v2 u2 rs (rstL rs.length) ∧ (∀ x, Cb B2 v2 u2 x → w1.heap.size ≤ x) ∧ Below w1.heap.size w1 w2) := ⟨t2, o2, b2⟩; clear t2 o2 b2)
  go_upto_region 4 with (go_at_call 25; refine r3.mono ?_; clear r3; intro e w3 hd; obtain ⟨D, da, db, dc, rfl, d3, o3, b3⟩ := newD_ok (W := W) HM.out hd; have r4 := h2 w3 (H2.out.1.b.trans (b3.mono H2.out.1.b.size)); have H3 : Hid (Dk w3 D true da db dc rs (rstL rs.length) ∧ (∀ x, Db D da db dc x → w2.heap.size ≤ x) ∧ Below w2.heap.size w2 w3) := ⟨d3, o3, b3⟩; clear d3 o3 b3 hd)
  go_upto_region 5 with (go_at_call 25; refine r4.mono ?_; clear r4; intro e w4 hd; obtain ⟨D2, ea, eb, ec, rfl, d4, o4, b4⟩ := newD_ok (W := W) HM.out hd; have HD : Hid (Duo W w4 rs B v u D da db dc (rstL rs.length) B2 v2 u2 D2 ea eb ec (rstL rs.length)) := Duo.mk0 H1.out H2.out.1 H2.out.2.1 H2.out.2.2 H3.out.1 H3.out.2.1 H3.out.2.2 d4 o4 b4; clear d4 o4 b4 hd)
  clear H1 H2 H3 h1 h2
  generalize rstL rs.length = s0 at *
  go_wp2_with (first | (go_at_call 9; refine (num_any _ _).mono ?_; rintro e w0 ⟨rfl, rfl⟩))
  go_loopw [15] (fun v15 wr => ∃ (i : Nat) (s s2 : List Sd), (i ≤ l.length ∨ i ≤ l2.length) ∧ v15 = I i ∧ Hid (Duo W wr rs B v u D da db dc s B2 v2 u2 D2 ea eb ec s2)) (fun v15 _ => l.length + l2.length - (intOf v15).toNat)
  case atStart => exact ⟨0, s0, s0, by omega, rfl, HD.out⟩
  case round =>
    clear HD
    obtain ⟨i, s, s2, hi, rfl, HJ⟩ := hrel
    have HIB : Hid (i ≤ 8796093022208) := by show _ ≤ _; omega
    by_cases hlt : i < l.length
    · have hltI : (i : Int) < l.length := by omega
      obtain ⟨⟨kd, tk⟩, hx⟩ : ∃ x, l[i]? = some x := ⟨_, List.getElem?_eq_getElem hlt⟩
      obtain ⟨ga, off, rfl, -, hcx⟩ := acts_cell hl hx
      obtain ⟨x0, x1⟩ := hcx wr HJ.out.p.t.b
      clear hcx hx
      have r1 := Duo.play HJ.out kd tk
      by_cases hlt2 : i < l2.length
      · have hltI2 : (i : Int) < l2.length := by omega
        obtain ⟨⟨kd2, tk2⟩, hx2⟩ : ∃ x, l2[i]? = some x := ⟨_, List.getElem?_eq_getElem hlt2⟩
        obtain ⟨gb, off2, rfl, -, hcx2⟩ := acts_cell hl2 hx2
        have HX : Hid (∀ Z, Below W.heap.size W Z → _) := hcx2
        clear hcx2 hx2
        as_aux_lemma =>
          go_wp2_with (first
            | (go_at_call 22; refine r1.mono ?_; clear r1; rintro e w1 ⟨rfl, s', P1⟩; obtain ⟨y0, y1⟩ := HX.out w1 P1.p.t.b; have r2 := Duo.play2 P1 kd2 tk2; clear P1 HJ)
            | (go_at_call 22; refine r2.mono ?_; clear r2; rintro e w2 ⟨rfl, s3, P2⟩; have r3 := Duo.told P2; clear P2)
            | (go_at_call 23; refine r3.mono ?_; clear r3; rintro e w3 ⟨rfl, P3⟩; have r4 := Duo.told2 P3; clear P3)
            | (go_at_call 23; refine r4.mono ?_; clear r4; rintro e w4 ⟨rfl, P4⟩; have HP4 : Hid (Duo W w4 rs B v u D da db dc s' B2 v2 u2 D2 ea eb ec s3) := P4; clear P4))
          go_roundw
          case rel => have hib := HIB.out; exact ⟨i + 1, s', s3, by omega, by go_num, HP4.out⟩
          case measure => simp [intOf]; omega
      · have hge2 : ¬ ((i : Int) < l2.length) := by omega
        as_aux_lemma =>
          go_wp2_with (first
            | (go_at_call 22; refine r1.mono ?_; clear r1; rintro e w1 ⟨rfl, s', P1⟩; have r3 := Duo.told P1; clear P1 HJ)
            | (go_at_call 23; refine r3.mono ?_; clear r3; rintro e w3 ⟨rfl, P3⟩; have r4 := Duo.told2 P3; clear P3)
            | (go_at_call 23; refine r4.mono ?_; clear r4; rintro e w4 ⟨rfl, P4⟩; have HP4 : Hid (Duo W w4 rs B v u D da db dc s' B2 v2 u2 D2 ea eb ec s2) := P4; clear P4))
          go_roundw
          case rel => have hib := HIB.out; exact ⟨i + 1, s', s2, by omega, by go_num, HP4.out⟩
          case measure => simp [intOf]; omega
    · have hge : ¬ ((i : Int) < l.length) := by omega
      by_cases hlt2 : i < l2.length
      · have hltI2 : (i : Int) < l2.length := by omega
        obtain ⟨⟨kd2, tk2⟩, hx2⟩ : ∃ x, l2[i]? = some x := ⟨_, List.getElem?_eq_getElem hlt2⟩
        obtain ⟨gb, off2, rfl, -, hcx2⟩ := acts_cell hl2 hx2
        obtain ⟨y0, y1⟩ := hcx2 wr HJ.out.p.t.b
        have r2 := Duo.play2 HJ.out kd2 tk2
        clear hcx2 hx2
        as_aux_lemma =>
          go_wp2_with (first
            | (go_at_call 22; refine r2.mono ?_; clear r2; rintro e w2 ⟨rfl, s3, P2⟩; have r3 := Duo.told P2; clear P2 HJ)
            | (go_at_call 23; refine r3.mono ?_; clear r3; rintro e w3 ⟨rfl, P3⟩; have r4 := Duo.told2 P3; clear P3)
            | (go_at_call 23; refine r4.mono ?_; clear r4; rintro e w4 ⟨rfl, P4⟩; have HP4 : Hid (Duo W w4 rs B v u D da db dc s B2 v2 u2 D2 ea eb ec s3) := P4; clear P4))
          go_roundw
          case rel => have hib := HIB.out; exact ⟨i + 1, s, s3, by omega, by go_num, HP4.out⟩
          case measure => simp [intOf]; omega
      · have hge2 : ¬ ((i : Int) < l2.length) := by omega
        clear hi
        have r1 := tCopy HJ.out.p
        as_aux_lemma =>
          go_upto_region 15 with (first
            | (go_at_call 24; refine r1.mono ?_; clear r1; rintro e w1 ⟨B4, v4, u4, rfl, P1⟩; have r2 := P1.doc; clear P1)
            | (go_at_call 27; refine r2.mono ?_; clear r2; rintro e w2 ⟨D4, a4, b4, c4, rfl, P2, P3, P4⟩; have HD : Hid (Duo W w2 rs B v u D da db dc s B4 v4 u4 D4 a4 b4 c4 s) := ⟨P3, P2, fun x e f => P4 x f e⟩; clear P2 P3 P4))
          clear HJ hlt hge hlt2 hge2 HIB
          go_wp2
          go_loopw [18] (fun v18 wr => ∃ (j : Nat) (s4 : List Sd), j ≤ l2.length ∧ v18 = I j ∧ Hid (Duo W wr rs B v u D da db dc s B4 v4 u4 D4 a4 b4 c4 s4)) (fun v18 _ => l2.length - (intOf v18).toNat)
          case atStart => exact ⟨0, s, by omega, rfl, HD.out⟩
          case round =>
            clear HD
            obtain ⟨j, s4, hj, rfl, HJ⟩ := hrel
            by_cases hlt : j < l2.length
            · have hltI : (j : Int) < l2.length := by omega
              obtain ⟨⟨kd, tk⟩, hx⟩ : ∃ x, l2[j]? = some x := ⟨_, List.getElem?_eq_getElem hlt⟩
              obtain ⟨ga, off, rfl, -, hcx⟩ := acts_cell hl2 hx
              obtain ⟨x0, x1⟩ := hcx wr HJ.out.p.t.b
              have r2 := Duo.play2 HJ.out kd tk
              clear hcx hx
              go_wp2_with (first
                | (go_at_call 22; refine r2.mono ?_; clear r2; rintro e w2 ⟨rfl, s3, P2⟩; have r3 := Duo.told P2; clear P2 HJ)
                | (go_at_call 23; refine r3.mono ?_; clear r3; rintro e w3 ⟨rfl, P3⟩; have r4 := Duo.told2 P3; clear P3)
                | (go_at_call 23; refine r4.mono ?_; clear r4; rintro e w4 ⟨rfl, P4⟩; have HP4 : Hid (Duo W w4 rs B v u D da db dc s B4 v4 u4 D4 a4 b4 c4 s3) := P4; clear P4))
              go_roundw
              case rel => exact ⟨j + 1, s3, by omega, by go_num, HP4.out⟩
              case measure => simp [intOf]; omega
            · obtain rfl : j = l2.length := by omega
              have hge : ¬ ((l2.length : Int) < l2.length) := by omega
              have HB9 : Hid (Below W.heap.size W wr) := HJ.out.p.t.b
              have r5 := hA wr HB9.out
              go_wp2_with (go_at_call 10; refine r5.mono ?_; rintro e w7 ⟨rfl, b7⟩)
              go_ret
              exact ⟨rfl, HB9.out.trans (b7.mono HB9.out.size)⟩
theorem apart_law (W : World) (hE : EnvR W) (sr : Sl) (rs : List Rw) (hr : RowsAt W 2 rowP sr rs) (hrl : rs.length ≤ 8796093022208) (ss : Sl) (l : List Cl) (hl : RowsAt W 2 actP ss l) (hll : l.length ≤ 8796093022208) (tt : Sl) (l2 : List Cl) (hl2 : RowsAt W 2 actP tt l2) (hll2 : l2.length ≤ 8796093022208) : Calls Tryd.prog 7 #[.slice sr.a sr.n sr.c, .slice ss.a ss.n ss.c, .slice tt.a tt.n tt.c] W fun e w' => e = .returned (.bool true) ∧ Below W.heap.size W w' := by
  cases hm : mayN rs with
  | false => exact apart_no W hE sr rs hr hrl _ _ hm
  | true => exact apart_ok W hE sr rs hr hrl ss tt l l2 hl hll hl2 hll2 hm
end Go.Proofs.YthmecgfbapemjaaDoor
