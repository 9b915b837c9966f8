import Derived.Test.YthmecgfbapemjaaDoorDy
import Derived.Deep.DeepAppendWide
import Derived.Deep.CutRange
namespace Go.Proofs.YthmecgfbapemjaaDoor
open Go.RowKit Go.Shelf Go.Sort
set_option linter.unusedVariables false
set_option linter.unusedSimpArgs false

/-! ### TaskPlays -/
theorem rows_news {W : World} {ad : Addr} {n c : Nat} {rs : List Rw} (h : RowsAt W 2 rowP ⟨some ad, n, c⟩ rs) : ∀ j u, (flR rs)[j]? = some u → W.cell? (ad.add j) = some u := fun j u hu => by
  have hs := rows_src h
  have hn := h.n
  simp only at hn
  subst hn
  rcases hs.2 with ⟨a', c', e, h0⟩ | ⟨g, off, c', e, hg, hc⟩
  · have hl := (List.getElem?_eq_some_iff.1 hu).1
    rw [flR_len, h0] at hl
    omega
  · cases e
    rw [addr_add]
    exact hc j u hu
/-- the rows, copied by append -/
theorem wpList_append_rows {w : World} {ops : Array Oper} {rest : List Oper} {o : Oper} {a : Act} {Q : Exit → Act → World → Prop} (hgd : o.guard = none) (s x : Operand)
    (ho : o.op = .call { callee := .builtin .append, args := #[s, x], argTypes := #[28, 28] })
    (hs : a.eval s = .slice none 0 0) (aa : Option Addr) (rs : List Rw) (c : Nat) (hx : a.eval x = .slice aa rs.length c) (hr : RowsAt w 2 rowP ⟨aa, rs.length, c⟩ rs) (hl : rs.length ≤ 8796093022208)
    (h : ∀ v' w', w'.ownsRow w.heap.size 27 2 v' rs.length (flR rs) → Below w.heap.size w w' → wpList Tryd.prog ops Q rest (a.put o.dst v') w') : wpList Tryd.prog ops Q (o :: rest) a w := by
  obtain ⟨iu, hiu, hu0, hu1, hu2⟩ := info_parts rinfo
  have hown := World.ownsRow_nil w w.heap.size 27 2
  cases aa with
  | none =>
    have h1 := hr.nz rfl
    have h2 := hr.c
    simp only at h1 h2
    subst h1
    have h0 : rs = [] := List.eq_nil_of_length_eq_zero (by omega)
    subst h0
    exact wpList_append_own_none hgd s x _ ho w.heap.size _ iu 2 Tryd.underlying28 hiu _ 0 [] hs hown hx (h _ w hown (Below.refl _ _))
  | some ad =>
    refine wpList_append_own_wide w hgd s x _ ho w.heap.size 27 iu (.agg #[.int .i64 0, .bool false]) 2 16 Tryd.underlying28 hiu hu0 hu1 hu2 rfl (by decide) _ 0 [] hs hown ad rs.length c (flR rs) hx (flR_len rs) (rows_news hr) (flR_one rs) (by unfold maxLen; omega) (by omega) (Nat.le_refl _) ?_
    intro v' w' h1 h2 _
    rw [Nat.zero_add, List.nil_append] at h1
    exact h v' w' h1 ⟨h2.os, h2.tape, h2.output, h2.size, fun i hi => h2.block i hi (by simp [Value.ownBlock])⟩
theorem rowR_set {w : World} {b g n c k : Nat} {xs : List Value} (h : w.ownsRow b 27 2 (.slice (some ⟨g, 0, none⟩) n c) n xs) (y z : Value) : ((w.setCell ⟨g, k * 2, none⟩ y).setCell ⟨g, k * 2 + 1, none⟩ z).ownsRow b 27 2 (.slice (some ⟨g, 0, none⟩) n c) n ((xs.set (k * 2) y).set (k * 2 + 1) z) :=
  (((h.stored (k * 2) y).1).stored (k * 2 + 1) z).1
def XN (D q : Nat) (Z : World) : Prop := Z.cell? ⟨D, 0, none⟩ = some (.bool false) ∧ q ≤ D
theorem XN.up {D q : Nat} {Z Z' : World} (h : XN D q Z) (hb : Below Z.heap.size Z Z') : XN D q Z' := ⟨(Fz.of_below (M := fun _ => False) hb).cell h.1 id, h.2⟩
theorem XN.keep {D q g : Nat} {Z Z' : World} (h : XN D q Z) (hf : Fz (fun b => b = g) Z Z') (hg : g < q) : XN D q Z' := ⟨hf.cell h.1 (fun e => by have := h.2; omega), h.2⟩
def XO (W : World) (B : Nat) (v u : Value) (D : Nat) (a b c : Value) (rs : List Rw) (q : Nat) (Z : World) : Prop := Pd W Z B v u D a b c rs (rstL rs.length) (rstL rs.length) ∧ (∀ x, Pb B v u D a b c x → q ≤ x) ∧ W.heap.size ≤ q
theorem XO.up {W : World} {B : Nat} {v u : Value} {D : Nat} {a b c : Value} {rs : List Rw} {q : Nat} {Z Z' : World} (h : XO W B v u D a b c rs q Z) (hb : Below Z.heap.size Z Z') : XO W B v u D a b c rs q Z' := ⟨h.1.below hb, h.2⟩
theorem XO.keep {W : World} {B : Nat} {v u : Value} {D : Nat} {a b c : Value} {rs : List Rw} {q g : Nat} {Z Z' : World} (h : XO W B v u D a b c rs q Z) (hf : Fz (fun b => b = g) Z Z') (hg : g < q) (hW : W.heap.size ≤ g) : XO W B v u D a b c rs q Z' := ⟨h.1.keep hf (fun x hx e => by have := h.2.1 x hx; omega) (fun x e => by omega), h.2⟩
set_option maxHeartbeats 16000000 in
set_option maxRecDepth 100000 in
theorem plays_no (W : World) (hE : EnvR W) (sr : Sl) (rs : List Rw) (hr : RowsAt W 2 rowP sr rs) (hrl : rs.length ≤ 8796093022208) (ss : Sl) (l : List Cl) (hl : RowsAt W 2 actP ss l) (hll : l.length ≤ 8796093022208) (hm : mayN rs = false) : Calls Tryd.prog 6 #[.slice sr.a sr.n sr.c, .slice ss.a ss.n ss.c] W fun e w' => e = .returned (.bool true) ∧ Below W.heap.size W w' := by
  obtain ⟨ar, nr, cr⟩ := sr
  have hnr := hr.n
  simp only at hnr
  subst hnr
  obtain ⟨a1, n1, c1⟩ := ss
  have hn1 := hl.n
  simp only at hn1
  subst hn1
  have HR : Hid (Src W 2 (.slice ar rs.length cr) rs.length (flR rs)) := rows_src hr
  have hA := fun Z (hz : Below W.heap.size W Z) => alive_any Z (hE.up hz)
  clear hE
  go_enter Tryd.func6, Tryd.ntmps6
  go_upto_region 6 with (first
    | (at_builtin; refine wpList_append_rows rfl _ (.tmp 13) rfl rfl ar rs cr rfl hr hrl ?_; intro v5 w1 o1 b1; obtain ⟨a5, k5, rfl⟩ := own_sl o1; have h1 := New_no (Src.own o1) hm (by omega); have H1 : Hid (w1.ownsRow W.heap.size 27 2 (.slice a5 rs.length k5) rs.length (flR rs) ∧ Below W.heap.size W w1) := ⟨o1, b1⟩; clear o1 b1)
    | (go_at_call 8; refine h1.mono ?_; clear h1; rintro e w2 ⟨rfl, b2⟩; have h2 := dNew_any (HR.out.up (H1.out.2.trans (b2.mono H1.out.2.size))) (by omega); have H2 : Hid (Below w1.heap.size w1 w2) := b2; clear b2)
    | (go_at_call 25; refine h2.mono ?_; clear h2; rintro e w3 ⟨hd, b3⟩; obtain ⟨D, rfl, cD, hD⟩ : ∃ D, e = .returned (.tuple #[cP D, I 182]) ∧ w3.cell? ⟨D, 0, none⟩ = some (.bool false) ∧ w2.heap.size ≤ D := (by rcases hd with ⟨h9, _⟩ | ⟨_, h9⟩; (· rw [hm] at h9; cases h9); (· exact h9)); have H3 : Hid (Below w2.heap.size w2 w3 ∧ XN D w1.heap.size w3) := ⟨b3, cD, Nat.le_trans H2.out.size hD⟩; clear b3 hd hD)
    | (go_at_call 9; refine (num_any _ _).mono ?_; rintro e w0 ⟨rfl, rfl⟩))
  have b13 := H2.out.trans (H3.out.1.mono H2.out.size)
  have HL : Hid (w3.ownsRow W.heap.size 27 2 (.slice a5 rs.length k5) rs.length (flR rs) ∧ Below W.heap.size W w3 ∧ (∀ g, (Value.slice a5 rs.length k5).ownBlock = some g → g < w1.heap.size) ∧ XN D w1.heap.size w3) := ⟨own_below H1.out.1 b13, H1.out.2.trans (b13.mono H1.out.2.size), fun g e => (H1.out.1.lt g e).2, H3.out.2⟩
  clear H1 H2 H3 b13 cD
  generalize hq : w1.heap.size = q at *
  clear hq
  go_wp2
  go_loopw [10] (fun v10 wq => ∃ (i : Nat) (xs : List Value), i ≤ rs.length ∧ v10 = I i ∧ Hid (wq.ownsRow W.heap.size 27 2 (.slice a5 rs.length k5) rs.length xs ∧ (∀ j, i * 2 ≤ j → xs[j]? = (flR rs)[j]?) ∧ Below W.heap.size W wq ∧ (∀ g, (Value.slice a5 rs.length k5).ownBlock = some g → g < q) ∧ XN D q wq)) (fun v10 _ => rs.length - (intOf v10).toNat)
  case atStart => exact ⟨0, flR rs, by omega, rfl, HL.out.1, fun _ _ => rfl, HL.out.2.1, HL.out.2.2.1, HL.out.2.2.2⟩
  case round =>
    clear HL
    obtain ⟨i, xs, hi, rfl, HJ⟩ := hrel
    by_cases hlt : i < rs.length
    · have hltI : (i : Int) < rs.length := by omega
      obtain ⟨g5, c5, e5⟩ := own_some HJ.out.1 (by omega)
      cases e5
      obtain ⟨x, hx⟩ : ∃ x, rs[i]? = some x := ⟨_, List.getElem?_eq_getElem hlt⟩
      obtain ⟨f1, f2⟩ := flR_at hx
      obtain ⟨g1, off, c2, e1, r1, r2⟩ := (HR.out.up HJ.out.2.2.1).at hx
      cases e1
      have p1 : wr.cell? ⟨g5, i * 2, none⟩ = some (I x.1) := by rw [HJ.out.1.cellAt _ (by omega), HJ.out.2.1 _ (Nat.le_refl _)]; exact f1
      have p2 : wr.cell? ⟨g5, i * 2 + 1, none⟩ = some (.bool x.2) := by rw [HJ.out.1.cellAt _ (by omega), HJ.out.2.1 _ (by omega)]; exact f2
      have z1 := cell_regrown p1
      have z2 := cell_regrown p2
      have z3 := cell_regrown r1
      have z4 := cell_regrown r2
      clear p1 p2 r1 r2 f1 f2 hx
      obtain ⟨lx, bx⟩ := x
      dsimp only at z1 z2 z3 z4
      go_upto_region 9 with (first | fail)
      refine wp_region_quiet_below (by kernel_rfl) (by kernel_rfl) ?_
      repeat (go_big_quiet_step (first | fail))
      refine wpQuiet_nil ?_
      rintro _ ⟨⟨dq, osq⟩, rfl⟩
      dsimp only
      have bq := below_regrown wr dq osq
      have H7 : Hid ((grow (redrawn wr dq) osq).ownsRow W.heap.size 27 2 (.slice (some ⟨g5, 0, none⟩) rs.length k5) rs.length xs ∧ Below W.heap.size W (grow (redrawn wr dq) osq) ∧ XN D q (grow (redrawn wr dq) osq)) := ⟨own_below HJ.out.1 bq, HJ.out.2.2.1.trans (bq.mono HJ.out.2.2.1.size), HJ.out.2.2.2.2.up bq⟩
      have H8 : Hid ((∀ j, i * 2 ≤ j → xs[j]? = (flR rs)[j]?) ∧ ∀ g, (Value.slice (some ⟨g5, 0, none⟩) rs.length k5).ownBlock = some g → g < q) := ⟨HJ.out.2.1, HJ.out.2.2.2.1⟩
      clear z1 z2 z3 z4 bq HJ
      generalize grow (redrawn wr dq) osq = w7 at *
      have hxl := H7.out.1.1
      obtain ⟨t0, ht0⟩ : ∃ t0, xs[i * 2]? = some t0 := ⟨_, List.getElem?_eq_getElem (by omega)⟩
      obtain ⟨t1, ht1⟩ : ∃ t1, xs[i * 2 + 1]? = some t1 := ⟨_, List.getElem?_eq_getElem (by omega)⟩
      have p1 : w7.cell? ⟨g5, i * 2, none⟩ = some t0 := by rw [H7.out.1.cellAt _ (by omega)]; exact ht0
      have p2 : w7.cell? ⟨g5, i * 2 + 1, none⟩ = some t1 := by rw [H7.out.1.cellAt _ (by omega)]; exact ht1
      have p3 : (w7.setCell ⟨g5, i * 2, none⟩ (I 77)).cell? ⟨g5, i * 2 + 1, none⟩ = some t1 := cell_set_off p2 (by omega)
      have p4 := H7.out.1.frozenAt
      have hg5 := H8.out.2 g5 rfl
      have hg5b := (H7.out.1.lt g5 rfl).1
      have F9 := fz_set2 w7 g5 (i * 2) (i * 2 + 1) (I 77) (.bool false)
      have H9 : Hid (((w7.setCell ⟨g5, i * 2, none⟩ (I 77)).setCell ⟨g5, i * 2 + 1, none⟩ (.bool false)).ownsRow W.heap.size 27 2 (.slice (some ⟨g5, 0, none⟩) rs.length k5) rs.length ((xs.set (i * 2) (I 77)).set (i * 2 + 1) (.bool false)) ∧ (∀ j, (i + 1) * 2 ≤ j → ((xs.set (i * 2) (I 77)).set (i * 2 + 1) (.bool false))[j]? = (flR rs)[j]?) ∧ Below W.heap.size W ((w7.setCell ⟨g5, i * 2, none⟩ (I 77)).setCell ⟨g5, i * 2 + 1, none⟩ (.bool false)) ∧ (∀ g, (Value.slice (some ⟨g5, 0, none⟩) rs.length k5).ownBlock = some g → g < q) ∧ XN D q ((w7.setCell ⟨g5, i * 2, none⟩ (I 77)).setCell ⟨g5, i * 2 + 1, none⟩ (.bool false))) := by
        refine ⟨rowR_set H7.out.1 _ _, fun j hj => ?_, H7.out.2.1.trans (F9.below H7.out.2.1.size (fun b e => by omega)), H8.out.2, H7.out.2.2.keep F9 hg5⟩
        rw [List.getElem?_set_ne (by omega), List.getElem?_set_ne (by omega)]
        exact H8.out.1 j (by omega)
      clear H7 H8 F9 ht0 ht1 hg5 hg5b hxl
      go_wp2
      go_roundw
      case rel => exact ⟨i + 1, _, by omega, by go_num, H9.out⟩
      case measure => simp [intOf]; omega
    · obtain rfl : i = rs.length := by omega
      have hge : ¬ ((rs.length : Int) < rs.length) := by omega
      have cD : wr.cell? ⟨D, 0, none⟩ = some (.bool false) := HJ.out.2.2.2.2.1
      have hA1 := hA wr HJ.out.2.2.1
      have HB : Hid (Below W.heap.size W wr) := HJ.out.2.2.1
      clear HJ
      go_wp2_with (first | (go_at_call 10; refine hA1.mono ?_; clear hA1; rintro e w7 ⟨rfl, b7⟩))
      go_ret
      exact ⟨rfl, HB.out.trans (b7.mono HB.out.size)⟩
set_option maxHeartbeats 16000000 in
set_option maxRecDepth 100000 in
theorem plays_ok (W : World) (hE : EnvR W) (sr : Sl) (rs : List Rw) (hr : RowsAt W 2 rowP sr rs) (hrl : rs.length ≤ 8796093022208) (ss : Sl) (l : List Cl) (hl : RowsAt W 2 actP ss l) (hll : l.length ≤ 8796093022208) (hm : mayN rs = true) : Calls Tryd.prog 6 #[.slice sr.a sr.n sr.c, .slice ss.a ss.n ss.c] W fun e w' => e = .returned (.bool true) ∧ Below W.heap.size W w' := by
  obtain ⟨ar, nr, cr⟩ := sr
  have hnr := hr.n
  simp only at hnr
  subst hnr
  obtain ⟨a1, n1, c1⟩ := ss
  have hn1 := hl.n
  simp only at hn1
  subst hn1
  have HR : Hid (Src W 2 (.slice ar rs.length cr) rs.length (flR rs)) := rows_src hr
  have hA := fun Z (hz : Below W.heap.size W Z) => alive_any Z (hE.up hz)
  have HE : Hid (EnvR W) := hE
  clear hE
  go_enter Tryd.func6, Tryd.ntmps6
  go_upto_region 6 with (first
    | (at_builtin; refine wpList_append_rows rfl _ (.tmp 13) rfl rfl ar rs cr rfl hr hrl ?_; intro v5 w1 o1 b1; obtain ⟨a5, k5, rfl⟩ := own_sl o1; have h1 := tNew (W := W) (Src.own o1) b1 HE.out hm; have H1 : Hid (w1.ownsRow W.heap.size 27 2 (.slice a5 rs.length k5) rs.length (flR rs) ∧ Below W.heap.size W w1) := ⟨o1, b1⟩; clear o1 b1)
    | (go_at_call 8; refine h1.mono ?_; clear h1; rintro e w2 ⟨B, v, u, rfl, T2, o2, b2⟩; have h2 := dNew_any (HR.out.up (H1.out.2.trans (b2.mono H1.out.2.size))) (by omega); have H2 : Hid (Tb W w2 B v u rs (rstL rs.length) ∧ (∀ x, Cb B v u x → w1.heap.size ≤ x) ∧ Below w1.heap.size w1 w2) := ⟨T2, o2, b2⟩; clear b2 T2 o2)
    | (go_at_call 25; refine h2.mono ?_; clear h2; rintro e w3 ⟨hd, b3⟩; obtain ⟨D, a, b, c, rfl, D3, o3⟩ : ∃ D a b c, e = .returned (.tuple #[cP D, I 0]) ∧ Dk w3 D true a b c rs (rstL rs.length) ∧ ∀ x, Db D a b c x → w2.heap.size ≤ x := (by rcases hd with ⟨_, h9⟩ | ⟨h9, _⟩; (· exact h9); (· rw [hm] at h9; cases h9)); have cD := D3.cells.1; have H3 : Hid (Below w2.heap.size w2 w3 ∧ XO W B v u D a b c rs w1.heap.size w3) := ⟨b3, Pd.mk0 H2.out.1 b3 D3 o3, (by rintro x (hx | hx); (· exact H2.out.2.1 x hx); (· exact Nat.le_trans H2.out.2.2.size (o3 x hx))), H1.out.2.size⟩; clear b3 hd D3 o3)
    | (go_at_call 9; refine (num_any _ _).mono ?_; rintro e w0 ⟨rfl, rfl⟩))
  have b13 := H2.out.2.2.trans (H3.out.1.mono H2.out.2.2.size)
  have HL : Hid (w3.ownsRow W.heap.size 27 2 (.slice a5 rs.length k5) rs.length (flR rs) ∧ Below W.heap.size W w3 ∧ (∀ g, (Value.slice a5 rs.length k5).ownBlock = some g → g < w1.heap.size) ∧ XO W B v u D a b c rs w1.heap.size w3) := ⟨own_below H1.out.1 b13, H1.out.2.trans (b13.mono H1.out.2.size), fun g e => (H1.out.1.lt g e).2, H3.out.2⟩
  clear H1 H2 H3 b13 cD
  generalize hq : w1.heap.size = q at *
  clear hq
  go_wp2
  go_loopw [10] (fun v10 wq => ∃ (i : Nat) (xs : List Value), i ≤ rs.length ∧ v10 = I i ∧ Hid (wq.ownsRow W.heap.size 27 2 (.slice a5 rs.length k5) rs.length xs ∧ (∀ j, i * 2 ≤ j → xs[j]? = (flR rs)[j]?) ∧ Below W.heap.size W wq ∧ (∀ g, (Value.slice a5 rs.length k5).ownBlock = some g → g < q) ∧ XO W B v u D a b c rs q wq)) (fun v10 _ => rs.length - (intOf v10).toNat)
  case atStart => exact ⟨0, flR rs, by omega, rfl, HL.out.1, fun _ _ => rfl, HL.out.2.1, HL.out.2.2.1, HL.out.2.2.2⟩
  case round =>
    clear HL
    obtain ⟨i, xs, hi, rfl, HJ⟩ := hrel
    by_cases hlt : i < rs.length
    · have hltI : (i : Int) < rs.length := by omega
      obtain ⟨g5, c5, e5⟩ := own_some HJ.out.1 (by omega)
      cases e5
      obtain ⟨x, hx⟩ : ∃ x, rs[i]? = some x := ⟨_, List.getElem?_eq_getElem hlt⟩
      obtain ⟨f1, f2⟩ := flR_at hx
      obtain ⟨g1, off, c2, e1, r1, r2⟩ := (HR.out.up HJ.out.2.2.1).at hx
      cases e1
      have p1 : wr.cell? ⟨g5, i * 2, none⟩ = some (I x.1) := by rw [HJ.out.1.cellAt _ (by omega), HJ.out.2.1 _ (Nat.le_refl _)]; exact f1
      have p2 : wr.cell? ⟨g5, i * 2 + 1, none⟩ = some (.bool x.2) := by rw [HJ.out.1.cellAt _ (by omega), HJ.out.2.1 _ (by omega)]; exact f2
      have z1 := cell_regrown p1
      have z2 := cell_regrown p2
      have z3 := cell_regrown r1
      have z4 := cell_regrown r2
      clear p1 p2 r1 r2 f1 f2 hx
      obtain ⟨lx, bx⟩ := x
      dsimp only at z1 z2 z3 z4
      go_upto_region 9 with (first | fail)
      refine wp_region_quiet_below (by kernel_rfl) (by kernel_rfl) ?_
      repeat (go_big_quiet_step (first | fail))
      refine wpQuiet_nil ?_
      rintro _ ⟨⟨dq, osq⟩, rfl⟩
      dsimp only
      have bq := below_regrown wr dq osq
      have H7 : Hid ((grow (redrawn wr dq) osq).ownsRow W.heap.size 27 2 (.slice (some ⟨g5, 0, none⟩) rs.length k5) rs.length xs ∧ Below W.heap.size W (grow (redrawn wr dq) osq) ∧ XO W B v u D a b c rs q (grow (redrawn wr dq) osq)) := ⟨own_below HJ.out.1 bq, HJ.out.2.2.1.trans (bq.mono HJ.out.2.2.1.size), HJ.out.2.2.2.2.up bq⟩
      have H8 : Hid ((∀ j, i * 2 ≤ j → xs[j]? = (flR rs)[j]?) ∧ ∀ g, (Value.slice (some ⟨g5, 0, none⟩) rs.length k5).ownBlock = some g → g < q) := ⟨HJ.out.2.1, HJ.out.2.2.2.1⟩
      clear z1 z2 z3 z4 bq HJ
      generalize grow (redrawn wr dq) osq = w7 at *
      have hxl := H7.out.1.1
      obtain ⟨t0, ht0⟩ : ∃ t0, xs[i * 2]? = some t0 := ⟨_, List.getElem?_eq_getElem (by omega)⟩
      obtain ⟨t1, ht1⟩ : ∃ t1, xs[i * 2 + 1]? = some t1 := ⟨_, List.getElem?_eq_getElem (by omega)⟩
      have p1 : w7.cell? ⟨g5, i * 2, none⟩ = some t0 := by rw [H7.out.1.cellAt _ (by omega)]; exact ht0
      have p2 : w7.cell? ⟨g5, i * 2 + 1, none⟩ = some t1 := by rw [H7.out.1.cellAt _ (by omega)]; exact ht1
      have p3 : (w7.setCell ⟨g5, i * 2, none⟩ (I 77)).cell? ⟨g5, i * 2 + 1, none⟩ = some t1 := cell_set_off p2 (by omega)
      have p4 := H7.out.1.frozenAt
      have hg5 := H8.out.2 g5 rfl
      have hg5b := (H7.out.1.lt g5 rfl).1
      have F9 := fz_set2 w7 g5 (i * 2) (i * 2 + 1) (I 77) (.bool false)
      have H9 : Hid (((w7.setCell ⟨g5, i * 2, none⟩ (I 77)).setCell ⟨g5, i * 2 + 1, none⟩ (.bool false)).ownsRow W.heap.size 27 2 (.slice (some ⟨g5, 0, none⟩) rs.length k5) rs.length ((xs.set (i * 2) (I 77)).set (i * 2 + 1) (.bool false)) ∧ (∀ j, (i + 1) * 2 ≤ j → ((xs.set (i * 2) (I 77)).set (i * 2 + 1) (.bool false))[j]? = (flR rs)[j]?) ∧ Below W.heap.size W ((w7.setCell ⟨g5, i * 2, none⟩ (I 77)).setCell ⟨g5, i * 2 + 1, none⟩ (.bool false)) ∧ (∀ g, (Value.slice (some ⟨g5, 0, none⟩) rs.length k5).ownBlock = some g → g < q) ∧ XO W B v u D a b c rs q ((w7.setCell ⟨g5, i * 2, none⟩ (I 77)).setCell ⟨g5, i * 2 + 1, none⟩ (.bool false))) := by
        refine ⟨rowR_set H7.out.1 _ _, fun j hj => ?_, H7.out.2.1.trans (F9.below H7.out.2.1.size (fun b e => by omega)), H8.out.2, H7.out.2.2.keep F9 hg5 hg5b⟩
        rw [List.getElem?_set_ne (by omega), List.getElem?_set_ne (by omega)]
        exact H8.out.1 j (by omega)
      clear H7 H8 F9 ht0 ht1 hg5 hg5b hxl
      go_wp2
      go_roundw
      case rel => exact ⟨i + 1, _, by omega, by go_num, H9.out⟩
      case measure => simp [intOf]; omega
    · obtain rfl : i = rs.length := by omega
      have hge : ¬ ((rs.length : Int) < rs.length) := by omega
      have cD : wr.cell? ⟨D, 0, none⟩ = some (.bool true) := HJ.out.2.2.2.2.1.d.cells.1
      have hT := pair_told HJ.out.2.2.2.2.1
      clear HJ HR hi hge hlt
      go_upto_region 16 with (first | (go_at_call 23; refine hT.mono ?_; clear hT; rintro e w4 ⟨rfl, P4, -⟩; have HP : Hid (Pd W w4 B v u D a b c rs (rstL rs.length) (rstL rs.length)) := P4; clear P4))
      clear cD
      generalize rstL rs.length = s0 at *
      go_wp2
      go_loopw [6, 8, 11, 12] (fun v6 v8 v11 _ wr => ∃ (i B D : Nat) (v u a b c : Value) (s : List Sd), i ≤ l.length ∧ v6 = cP B ∧ v8 = cP D ∧ v11 = I i ∧ Hid (Pd W wr B v u D a b c rs s s)) (fun _ _ v11 _ _ => l.length - (intOf v11).toNat)
      case atStart => exact ⟨0, B, D, v, u, a, b, c, s0, by omega, rfl, rfl, rfl, HP.out⟩
      case round =>
        clear HP
        obtain ⟨i, B, D, v, u, a, b, c, s, hi, rfl, rfl, rfl, HJ⟩ := hrel
        by_cases hlt : i < l.length
        · have hltI : (i : Int) < l.length := by omega
          obtain ⟨⟨kd, tk⟩, hx⟩ : ∃ x, l[i]? = some x := ⟨_, List.getElem?_eq_getElem hlt⟩
          obtain ⟨ga, off, rfl, -, hcx⟩ := acts_cell hl hx
          obtain ⟨x0, x1⟩ := hcx wr HJ.out.t.b
          have HX : Hid (∀ Z, Below W.heap.size W Z → Z.cell? ⟨ga, off + i * 2, none⟩ = some (I kd) ∧ Z.cell? ⟨ga, off + i * 2 + 1, none⟩ = some (I tk)) := hcx
          clear hcx hx
          go_upto_if 78 with (first | fail)
          go_cut [6, 8, 12] from 79 to 91 (fun s6 s8 _ wx => ∃ (B D : Nat) (v u a b c : Value) (s : List Sd), s6 = cP B ∧ s8 = cP D ∧ Hid (Pd W wx B v u D a b c rs s s))
          case first =>
            by_cases k9 : kd = 9
            · subst k9
              have h0 := tCopy HJ.out
              as_aux_lemma =>
                go_wp2_with (first
                  | (go_at_call 24; refine h0.mono ?_; clear h0; rintro e w1 ⟨B2, v2, u2, rfl, T1⟩; have h2 := tReset T1.p.t; have HT1 : Hid (Tri W w1 B v u D a b c rs s s B2 v2 u2) := T1; clear T1)
                  | (go_at_call 26; refine h2.mono ?_; clear h2; rintro e w2 ⟨rfl, k2, f2⟩; have T2 := HT1.out.step k2 f2; have h3 := tActivate T2.p.t 0; have HT2 : Hid (Tri W w2 B v u D a b c rs (rstL rs.length) s B2 v2 u2) := T2; clear T2 k2 f2)
                  | (go_at_call 11; refine h3.mono ?_; clear h3; rintro e w3 ⟨rfl, k3, f3⟩; have T3 := HT2.out.step k3 f3; have h4 := tStart T3.p.t 0; have HT3 : Hid (Tri W w3 B v u D a b c rs _ s B2 v2 u2) := T3; clear T3 k3 f3)
                  | (go_at_call 12; refine h4.mono ?_; clear h4; rintro e w4 ⟨rfl, k4, f4⟩; have T4 := HT3.out.step k4 f4; have h5 := T4.doc; clear T4 k4 f4)
                  | (go_at_call 27; refine h5.mono ?_; clear h5; rintro e w5 ⟨D2, a2, b2, c2, rfl, P5, -, -⟩; have HP5 : Hid (Pd W w5 B2 v2 u2 D2 a2 b2 c2 rs s s) := P5; clear P5))
                go_meet
                case rel => exact ⟨B2, D2, v2, u2, a2, b2, c2, s, rfl, rfl, HP5.out⟩
            · have k9b : (kd == 9) = false := beq_eq_false_iff_ne.2 k9
              go_wp2
              go_meet
              case rel => exact ⟨B, D, v, u, a, b, c, s, rfl, rfl, HJ.out⟩
          obtain ⟨B, D, v, u, a, b, c, s, rfl, rfl, HP⟩ := hcut
          clear HJ x0 x1
          obtain ⟨x0, x1⟩ := HX.out wc HP.out.t.b
          have hP := pair_play HP.out kd tk
          as_aux_lemma =>
            go_wp2_with (first
              | (go_at_call 22; refine hP.mono ?_; clear hP; rintro e w1 ⟨rfl, ⟨s', P1⟩, -⟩; have hT := pair_told P1; clear P1)
              | (go_at_call 23; refine hT.mono ?_; clear hT; rintro e w2 ⟨rfl, P2, -⟩; have HP2 : Hid (Pd W w2 B v u D a b c rs s' s') := P2; clear P2))
            go_roundw
            case rel => exact ⟨i + 1, B, D, v, u, a, b, c, s', by omega, rfl, rfl, by go_num, HP2.out⟩
            case measure => simp [intOf]; omega
        · obtain rfl : i = l.length := by omega
          have hge : ¬ ((l.length : Int) < l.length) := by omega
          have hA1 := hA wr HJ.out.t.b
          have HB : Hid (Below W.heap.size W wr) := HJ.out.t.b
          go_wp2_with (first | (go_at_call 10; refine hA1.mono ?_; clear hA1; rintro e w7 ⟨rfl, b7⟩))
          go_ret
          exact ⟨rfl, HB.out.trans (b7.mono HB.out.size)⟩
theorem plays_law (W : World) (hE : EnvR W) (sr : Sl) (rs : List Rw) (hr : RowsAt W 2 rowP sr rs) (hrl : rs.length ≤ 8796093022208) (ss : Sl) (l : List Cl) (hl : RowsAt W 2 actP ss l) (hll : l.length ≤ 8796093022208) : Calls Tryd.prog 6 #[.slice sr.a sr.n sr.c, .slice ss.a ss.n ss.c] W fun e w' => e = .returned (.bool true) ∧ Below W.heap.size W w' := by
  cases hm : mayN rs with
  | false => exact plays_no W hE sr rs hr hrl ss l hl hll hm
  | true => exact plays_ok W hE sr rs hr hrl ss l hl hll hm
end Go.Proofs.YthmecgfbapemjaaDoor
