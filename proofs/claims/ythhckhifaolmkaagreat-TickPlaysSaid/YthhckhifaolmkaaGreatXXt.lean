import Derived.Test.YthhckhifaolmkaaGreatXXzb
namespace Go.Proofs.YthhckhifaolmkaaGreat
open Go.RowKit Go.Shelf Go.Sort
open Go.Proofs.YthhckhifaolmkaaGreat.Cl (Fx Fz Ck Cb Alm psA dueA dueF U Q cP own_sl own_some own_below own_base inL ret_bool ret_int heap_lt iinfo cell_one_new take_snoc aftN)
set_option linter.unusedVariables false
set_option linter.unusedSimpArgs false

theorem calls_idX {P : Program} {f : Nat} {args : Array Value} {w : World} {R : Ending → World → Prop} (h : Calls P f args w R) : Calls P f args w R := h
theorem Nm.lo {w : World} {L nk : Nat} {vn : Value} {ca : Nat → Sl} {zq : Nat → Nat} {f : Nat → List Nat} (h : Nm w L nk vn ca zq f) : Nm w L nk vn ca (fun b => if L ≤ b then zq b else 0) f :=
  ⟨h.n, h.r, fun i hi b e => by
    have := ((h.r i hi).lt b e).1
    show (if _ then _ else _) = _
    rw [if_pos this]
    exact h.z i hi b e, fun b e => by
    have e' : (if L ≤ b then zq b else 0) ≠ 0 := e
    split at e'
    · exact h.s b e'
    · exact absurd rfl e'⟩
theorem Nm.base {w : World} {L L2 nk : Nat} {vn : Value} {ca : Nat → Sl} {zq : Nat → Nat} {f : Nat → List Nat} (h : Nm w L nk vn ca zq f) (hl : L2 ≤ L) : Nm w L2 nk vn ca zq f := ⟨own_base h.n hl, fun i hi => own_base (h.r i hi) hl, h.z, h.s⟩
theorem may_of21 {tb : Tb} (ok : OKb tb) {i : Nat} (hi : i < tb.ctrs.length) : Cl.mayC (ctK tb i).max (ctK tb i).min = true := by
  have := ok.k i hi
  unfold Cl.mayC
  simp
  omega
theorem alC_zero (tb : Tb) (i : Nat) : alC tb (fun _ => (0, 0)) i = List.replicate (idxA tb i).length (0, 0) := by
  unfold alC
  rw [List.map_const']
section
variable {w w' : World} {tb : Tb} {v : Ts}
set_option maxRecDepth 100000 in
set_option maxHeartbeats 4000000 in
theorem bNew_no (h : TbAt w tb v) (hw : WfT tb) (hc : chkP tb = false) : Calls Tryz.prog 7 #[.agg (tbC tb v)] w fun e w' => e = .returned (.tuple #[.pointer none, I 210]) ∧ Below w.heap.size w w' := by
  have hb0 := below_alloc w (.cells (tbC tb v) 37)
  have hV := heap_alloc_new w (.cells (tbC tb v) 37)
  obtain ⟨c0, c1, c2, c3, c4, c5, c6, c7, c8, c9, c10, c11, c12⟩ := var13 hV
  have hC := check_any tb v _ (h.below hb0) hw
  rw [hc] at hC
  have HB : Hid (∀ w', Below (w.alloc (.cells (tbC tb v) 37)).heap.size (w.alloc (.cells (tbC tb v) 37)) w' → Below w.heap.size w w') := fun w' hb => hb0.trans (hb.mono hb0.size)
  unfold tbC at *
  clear h hV hb0
  go_enter Tryz.func7, Tryz.ntmps7
  go_upto_region 1 with fail
  generalize w.alloc (.cells #[I tb.uses, I tb.modes, .slice v.t.a v.t.n v.t.c, .slice v.g.a v.g.n v.g.c, .slice v.r.a v.r.n v.r.c, .slice v.k.a v.k.n v.k.c, .slice v.a.a v.a.n v.a.c, .slice v.i.a v.i.n v.i.c, .slice v.s.a v.s.n v.s.c, I tb.depth, I tb.frames, I tb.errors, I tb.calls] 37) = w1 at *
  go_wp2_with (first | (go_at_call 25; refine hC.mono ?_; clear hC; rintro e w2 ⟨rfl, hb2⟩; simp only [Bool.false_eq_true, if_false]))
  go_ret2
  exact ⟨rfl, HB.out _ hb2⟩
abbrev tbO (tb : Tb) (v : Ts) : Obj := .cells #[I tb.uses, I tb.modes, .slice v.t.a v.t.n v.t.c, .slice v.g.a v.g.n v.g.c, .slice v.r.a v.r.n v.r.c, .slice v.k.a v.k.n v.k.c, .slice v.a.a v.a.n v.a.c, .slice v.i.a v.i.n v.i.c, .slice v.s.a v.s.n v.s.c, I tb.depth, I tb.frames, I tb.errors, I tb.calls] 37
set_option maxRecDepth 100000 in
set_option maxHeartbeats 16000000 in
theorem bNew_ok (h : TbAt w tb v) (hw : WfT tb) (hc : chkP tb = true) : Calls Tryz.prog 7 #[.agg (tbC tb v)] w fun e w' => ∃ B, e = .returned (.tuple #[bP B, I 0]) ∧ ∃ p zn, Bo w' zn tb B p newT ∧ (∀ b, zn b ≠ 0 → w.heap.size ≤ b) ∧ Below w.heap.size w w' := by
  obtain ⟨ic, hic, hc0, hc1, hc2⟩ := info_parts ctinfoN
  obtain ⟨is, his, hs0, hs1, hs2⟩ := info_parts isinfo
  have ok := okb_of hc hw
  have hb0 := below_alloc w (.cells (tbC tb v) 37)
  have hV := heap_alloc_new w (.cells (tbC tb v) 37)
  have hsz0 : (w.alloc (.cells (tbC tb v) 37)).heap.size = w.heap.size + 1 := by simp
  obtain ⟨c0, c1, c2, c3, c4, c5, c6, c7, c8, c9, c10, c11, c12⟩ := var13 hV
  have hC := check_any tb v _ (h.below hb0) hw
  rw [hc] at hC
  have HT : Hid (TbAt w tb v ∧ OKb tb ∧ v.k.n = tb.ctrs.length ∧ v.i.n = tb.isrs.length) := ⟨h, ok, h.k.n, h.i.n⟩
  have H0 : Hid (Below w.heap.size w (w.alloc (tbO tb v)) ∧ (w.alloc (tbO tb v)).heap[w.heap.size]? = some (tbO tb v) ∧ (w.alloc (tbO tb v)).heap.size = w.heap.size + 1) := ⟨hb0, hV, hsz0⟩
  unfold tbC at hC c0 c1 c2 c3 c4 c5 c6 c7 c8 c9 c10 c11 c12 ⊢
  clear h hV hb0 hsz0 hw hc ok
  go_enter Tryz.func7, Tryz.ntmps7
  go_upto_region 1 with fail
  generalize w.alloc (.cells #[I tb.uses, I tb.modes, .slice v.t.a v.t.n v.t.c, .slice v.g.a v.g.n v.g.c, .slice v.r.a v.r.n v.r.c, .slice v.k.a v.k.n v.k.c, .slice v.a.a v.a.n v.a.c, .slice v.i.a v.i.n v.i.c, .slice v.s.a v.s.n v.s.c, I tb.depth, I tb.frames, I tb.errors, I tb.calls] 37) = w0 at *
  go_upto_region 3 with (first | (go_at_call 25; refine hC.mono ?_; clear hC; rintro e w1 ⟨rfl, hb1⟩; simp only [if_true]))
  have B1 : Below w.heap.size w w1 := H0.out.1.trans (hb1.mono H0.out.1.size)
  have hV1 : w1.heap[w.heap.size]? = some (.cells (tbC tb v) 37) := (hb1.block _ (by rw [H0.out.2.2]; omega)).trans H0.out.2.1
  have hsz1 : w.heap.size < w1.heap.size := by have := hb1.size; have := H0.out.2.2; omega
  have hP := placed_any (HT.out.1.below B1) HT.out.2.1
  have H1 : Hid (Below w.heap.size w w1 ∧ w1.heap[w.heap.size]? = some (.cells (tbC tb v) 37) ∧ w.heap.size < w1.heap.size) := ⟨B1, hV1, hsz1⟩
  clear c0 c1 c2 c3 c4 c5 c6 c7 c8 c9 c10 c11 c12 hb1
  obtain ⟨c0, c1, c2, c3, c4, c5, c6, c7, c8, c9, c10, c11, c12⟩ := var13 hV1
  unfold tbC at hP
  clear B1 hV1 hsz1 H0
  go_upto_region 4 with (first | (go_at_call 26; refine hP.mono ?_; clear hP; rintro e w2 ⟨va, vn, rfl, oa, ⟨ca, zq, hNm⟩, b2⟩))
  have B2 : Below w.heap.size w w2 := H1.out.1.trans (b2.mono H1.out.1.size)
  have hV2 := (b2.block _ H1.out.2.2).trans H1.out.2.1
  clear c0 c1 c2 c3 c4 c5 c6 c7 c8 c9 c10 c11 c12
  obtain ⟨-, c1, -⟩ := var13 hV2
  have hb3 := below_alloc w2 (nwB tb ⟨none, 0, 0⟩ va ⟨none, 0, 0⟩)
  have hv3 := heap_alloc_new w2 (nwB tb ⟨none, 0, 0⟩ va ⟨none, 0, 0⟩)
  have hs3 : (w2.alloc (nwB tb ⟨none, 0, 0⟩ va ⟨none, 0, 0⟩)).heap.size = w2.heap.size + 1 := by simp
  have hs12 := b2.size
  have H3 : Hid (∃ zq, (∀ b, zq b ≠ 0 → w.heap.size ≤ b) ∧ Nw w (w2.alloc (nwB tb ⟨none, 0, 0⟩ va ⟨none, 0, 0⟩)) tb v w2.heap.size (w2.heap.size + 1) ⟨none, 0, 0⟩ va ⟨none, 0, 0⟩ vn ca zq (fun _ => 0) (fun _ => .pointer none) (fun _ => 0) 0 0) := by
    have hlo := (hNm.lo).base (L2 := w.heap.size) (by have := H1.out.2.2; omega)
    refine ⟨_, fun b e => ?_, B2.trans (hb3.mono B2.size), (hb3.block _ (heap_lt hV2)).trans hV2, hv3, ⟨by have := H1.out.2.2; omega, by omega, by rw [hs3]; omega⟩, by simpa [flat] using World.ownsRow_nil _ _ _ _, own_base (own_below oa hb3) (by have := H1.out.2.2; omega), hlo.below hb3, by simpa [flat] using World.ownsRow_nil _ _ _ _, Cks.zero _ _ _ _ _, (fun b e => (by cases e)), (fun b e => (by cases e)), fun b e => ?_, fun b e => ?_⟩
    · have e' : (if w1.heap.size ≤ b then zq b else 0) ≠ 0 := e
      split at e'
      · have := H1.out.2.2; omega
      · exact absurd rfl e'
    · have := hlo.s b e; omega
    · have := (oa.lt b e).2; omega
  clear oa hNm b2 B2 hb3 hv3 hs3 hs12 hV2 H1
  go_upto_region 5 with fail
  have hN3 := H3.out
  obtain ⟨an, nn, cn⟩ := vn
  have env : slT ⟨an, nn, cn⟩ = .slice an tb.ctrs.length cn := by
    obtain ⟨zq0, -, hNw⟩ := hN3
    obtain ⟨a', c', e⟩ := own_sl hNw.m.n
    cases e
    rfl
  obtain rfl : nn = tb.ctrs.length := by cases env; rfl
  clear env hN3
  generalize w2.alloc (nwB tb ⟨none, 0, 0⟩ va ⟨none, 0, 0⟩) = w3 at *
  generalize w2.heap.size = N at *
  have c5 : w3.cell? ⟨w.heap.size, 5, none⟩ = some (.slice v.k.a v.k.n v.k.c) := by
    obtain ⟨zq0, -, hNw⟩ := H3.out
    obtain ⟨-, -, -, -, -, c5, -⟩ := var13 hNw.t
    exact c5
  clear c1
  rw [show slT ⟨an, tb.ctrs.length, cn⟩ = .slice an tb.ctrs.length cn from rfl]
  generalize Value.agg #[I tb.uses, I tb.modes, .slice v.t.a v.t.n v.t.c, .slice v.g.a v.g.n v.g.c, .slice v.r.a v.r.n v.r.c, .slice v.k.a v.k.n v.k.c, .slice v.a.a v.a.n v.a.c, .slice v.i.a v.i.n v.i.c, .slice v.s.a v.s.n v.s.c, I tb.depth, I tb.frames, I tb.errors, I tb.calls] = A13
  generalize Value.agg #[I tb.modes, .slice none 0 0, slT va, .slice none 0 0, .int .u8 0, .int .u8 0, .int .u8 0, .int .u8 0] = A8
  generalize Value.tuple #[slT va, Value.slice an tb.ctrs.length cn] = A2
  go_wp2
  clear c5
  go_loopw [7, 8, 27] (fun _ _ v27 wr => ∃ k : Nat, k ≤ v.k.n ∧ v27 = I k ∧ Hid (∃ zq vc cb cv zk, (∀ b, zq b ≠ 0 → w.heap.size ≤ b) ∧ Nw w wr tb v N (N + 1) vc va ⟨none, 0, 0⟩ ⟨an, tb.ctrs.length, cn⟩ ca zq cb cv zk k 0)) (fun _ _ v27 _ => v.k.n - (intOf v27).toNat)
  case atStart =>
    obtain ⟨zq0, h1, h2⟩ := H3.out
    exact ⟨0, by omega, rfl, zq0, _, _, _, _, h1, h2⟩
  case round =>
    clear H3
    obtain ⟨k, hk, rfl, HJ⟩ := hrel
    by_cases hlt : k < v.k.n
    · have hltI : (k : Int) < v.k.n := by omega
      obtain ⟨zq, vc, cb, cv, zk, hzq, hNw⟩ := HJ.out
      obtain ⟨ht, ok, ek, ei⟩ := HT.out
      have hkc : k < tb.ctrs.length := by omega
      have hkcI : (k : Int) < tb.ctrs.length := by omega
      have hxk : tb.ctrs[k]? = some (ctK tb k) := by unfold ctK; rw [List.getD_eq_getElem?_getD, List.getElem?_eq_getElem hkc]; rfl
      obtain ⟨g, off, ea, -, d0, d1, d2⟩ := ctr_at (ht.below hNw.b) hxk
      have hb1 := below_alloc wr (.cells #[U (ctK tb k).max, U (ctK tb k).base, U (ctK tb k).min] 81)
      have hv1 := heap_alloc_new wr (.cells #[U (ctK tb k).max, U (ctK tb k).base, U (ctK tb k).min] 81)
      have hX : (wr.alloc (.cells #[U (ctK tb k).max, U (ctK tb k).base, U (ctK tb k).min] 81)).heap.size = wr.heap.size + 1 := by simp
      obtain ⟨gn, cn', en⟩ := own_some hNw.m.n (by omega)
      obtain ⟨ak, ck, ec⟩ := own_sl (hNw.m.r k hkc)
      have ecn : (ca k).n = (idxA tb k).length := by
        generalize ca k = q at ec
        obtain ⟨q1, q2, q3⟩ := q
        cases ec
        rfl
      have hl64 : (ca k).n ≤ 64 := by rw [ecn]; have := idxA_len tb k; have := ok.na; omega
      have hk16 : k ≤ 16 := by have := ok.nk; omega
      have HN : Hid (∀ W, Calls Tryz.prog 27 #[.agg #[U (ctK tb k).max, U (ctK tb k).base, U (ctK tb k).min], slT (ca k)] W fun e w' => ∃ B v, e = .returned (.agg #[cP B, U (ctK tb k).max, U (ctK tb k).base, U (ctK tb k).min, slT (ca k)]) ∧ Ck w' B v (ctK tb k).max (ctK tb k).min 0 (alC tb (fun _ => (0, 0)) k) ∧ (∀ b, Cb B v b → W.heap.size + 1 < b) ∧ Below W.heap.size W w') := fun W => by
        have := newCounter_any W (ctK tb k).max (ctK tb k).base (ctK tb k).min (ca k) hl64 (may_of21 ok hkc)
        rw [ecn, ← alC_zero] at this
        exact this
      have H2 : Hid (Nw w (wr.alloc (.cells #[U (ctK tb k).max, U (ctK tb k).base, U (ctK tb k).min] 81)) tb v N (N + 1) vc va ⟨none, 0, 0⟩ ⟨an, tb.ctrs.length, cn⟩ ca zq cb cv zk k 0 ∧ (wr.alloc (.cells #[U (ctK tb k).max, U (ctK tb k).base, U (ctK tb k).min] 81)).heap[wr.heap.size]? = some (.cells #[U (ctK tb k).max, U (ctK tb k).base, U (ctK tb k).min] 81) ∧ (∀ b, zq b ≠ 0 → w.heap.size ≤ b)) := ⟨hNw.below hb1, hv1, hzq⟩
      have ean : an = some ⟨gn, 0, none⟩ := by cases en; rfl
      have nc : (wr.alloc (.cells #[U (ctK tb k).max, U (ctK tb k).base, U (ctK tb k).min] 81)).cell? ⟨gn, k, none⟩ = some (slT (ca k)) := by
        have hn := H2.out.1.m.n
        rw [en] at hn
        rw [hn.cellAt _ (by omega)]
        exact slL_at hkc
      have HKE : Hid (v.k.n = tb.ctrs.length) := ek
      clear HJ hNw ht ok ek ei hb1 hv1 hxk ec ecn hX hkc en hzq
      generalize v.k.a = vka at *
      subst ea ean
      go_upto_region 8 with fail
      clear d0 d1 d2
      generalize wr.alloc (.cells #[U (ctK tb k).max, U (ctK tb k).base, U (ctK tb k).min] 81) = w4 at *
      generalize wr.heap.size = X1 at *
      have x0 : w4.cell? ⟨X1, 0, none⟩ = some (U (ctK tb k).max) := by rw [cell_of_row _ _ _ _ _ (0, 0) H2.out.2.1]; rfl
      have x1 : w4.cell? ⟨X1, 1, none⟩ = some (U (ctK tb k).base) := by rw [cell_of_row _ _ _ _ _ (0, 0) H2.out.2.1]; rfl
      have x2 : w4.cell? ⟨X1, 2, none⟩ = some (U (ctK tb k).min) := by rw [cell_of_row _ _ _ _ _ (0, 0) H2.out.2.1]; rfl
      have n1 : w4.cell? ⟨N, 1, none⟩ = some (slT vc) := by rw [cell_of_row _ _ _ _ _ (0, 0) H2.out.1.o]; rfl
      have hx0 := H2.out.2.1
      have HPut : Hid (∀ W W1 W2 B2 v2 (x : Sl), Below w4.heap.size w4 W → Ck W B2 v2 (ctK tb k).max (ctK tb k).min 0 (alC tb (fun _ => (0, 0)) k) → (∀ b, Cb B2 v2 b → w4.heap.size ≤ b) → Below W.heap.size W W1 → W1.grownBy W2 (slT vc).ownBlock → W2.ownsRow w.heap.size 85 5 (slT x) (k + 1) (flat (ctRm tb cb ca) k ++ [cP B2, U (ctK tb k).max, U (ctK tb k).base, U (ctK tb k).min, slT (ca k)]) → ((slT x).ownBlock = (slT vc).ownBlock ∨ (slT x).ownBlock = some W1.heap.size) →
          (fun w' : World => w'.cell? ⟨X1, 0, none⟩ = some (U (ctK tb k).max) ∧ w'.cell? ⟨X1, 1, none⟩ = some (U (ctK tb k).base) ∧ w'.cell? ⟨X1, 2, none⟩ = some (U (ctK tb k).min) ∧ w'.cell? ⟨gn, k, none⟩ = some (slT (ca k))) W2 ∧ (fun w' : World => w'.cell? ⟨X1, 0, none⟩ = some (U (ctK tb k).max) ∧ w'.cell? ⟨X1, 1, none⟩ = some (U (ctK tb k).base) ∧ w'.cell? ⟨X1, 2, none⟩ = some (U (ctK tb k).min) ∧ w'.cell? ⟨gn, k, none⟩ = some (slT (ca k))) (W2.setCell ⟨N, 1, none⟩ (slT x)) ∧ W2.cell? ⟨N, 1, none⟩ = some (slT vc) ∧ W2.frozen? ⟨N, 1, none⟩ = false ∧ ∃ zq vc cb cv zk, (∀ b, zq b ≠ 0 → w.heap.size ≤ b) ∧ Nw w (W2.setCell ⟨N, 1, none⟩ (slT x)) tb v N (N + 1) vc va ⟨none, 0, 0⟩ ⟨some ⟨gn, 0, none⟩, tb.ctrs.length, cn⟩ ca zq cb cv zk (k + 1) 0) := by
        intro W W1 W2 B2 v2 x p1 p2 p3 p4 p5 p6 p7
        obtain ⟨o2, hn⟩ := H2.out.1.putC p1 p2 p3 p4 p5 (by unfold ctRm; rw [upN_same]; exact p6) p7
        have hf : Fz (fun y => (slT vc).ownBlock = some y) W1 W2 := ⟨p5.os, p5.tape, p5.output, p5.size, fun b hb hne => p5.block b hb (fun e => hne e.symm)⟩
        have h1 := (H2.out.1.below p1).below p4
        have hx1 := (p4.block _ (heap_lt ((p1.block _ (heap_lt H2.out.2.1)).trans H2.out.2.1))).trans ((p1.block _ (heap_lt H2.out.2.1)).trans H2.out.2.1)
        have hx2 := hf.heap hx1 (heap_apart hx1 h1.c (by decide))
        have fs : Fz (fun b => b = N) W2 (W2.setCell ⟨N, 1, none⟩ (slT x)) := (Fz.refl (fun b => b = N) W2).set (.inl rfl) _ _
        have hm2 := hf.own h1.m.n (fun g e => own_apart h1.m.n h1.c (by decide) e)
        have nX : X1 ≠ N := fun e => by rw [e, H2.out.1.o] at hx0; cases hx0
        have hm3 := fs.own hm2 (fun g e e2 => heap_apart o2 hm2 (by decide) (by rw [e, e2]))
        have hS : ∀ W, W.heap[X1]? = some (.cells #[U (ctK tb k).max, U (ctK tb k).base, U (ctK tb k).min] 81) → W.ownsRow w.heap.size 40 1 (.slice (some ⟨gn, 0, none⟩) tb.ctrs.length cn) tb.ctrs.length (slL ca tb.ctrs.length) → (fun w' : World => w'.cell? ⟨X1, 0, none⟩ = some (U (ctK tb k).max) ∧ w'.cell? ⟨X1, 1, none⟩ = some (U (ctK tb k).base) ∧ w'.cell? ⟨X1, 2, none⟩ = some (U (ctK tb k).min) ∧ w'.cell? ⟨gn, k, none⟩ = some (slT (ca k))) W := fun W e1 e2 => ⟨by rw [cell_of_row _ _ _ _ _ (0, 0) e1]; rfl, by rw [cell_of_row _ _ _ _ _ (0, 0) e1]; rfl, by rw [cell_of_row _ _ _ _ _ (0, 0) e1]; rfl, by rw [e2.cellAt _ (by omega)]; exact slL_at (by omega)⟩
        exact ⟨hS _ hx2 hm2, hS _ (fs.heap hx2 nX) hm3, by rw [cell_of_row _ _ _ _ _ (0, 0) o2]; rfl, frozen_of_row _ _ _ _ _ o2, _, _, _, _, _, H2.out.2.2, hn⟩
      have HOc : Hid (w4.ownsRow w.heap.size 85 5 (slT vc) k (flat (ctRm tb cb ca) k) ∧ w.heap.size ≤ w4.heap.size ∧ w4.heap[N]? = some (nwB tb vc va ⟨none, 0, 0⟩)) := ⟨H2.out.1.c, H2.out.1.b.size, H2.out.1.o⟩
      have HN2 : Hid (∀ W, Below w4.heap.size w4 W → Calls Tryz.prog 27 #[.agg #[U (ctK tb k).max, U (ctK tb k).base, U (ctK tb k).min], slT (ca k)] W fun e w' => ∃ B v, e = .returned (.agg #[cP B, U (ctK tb k).max, U (ctK tb k).base, U (ctK tb k).min, slT (ca k)]) ∧ w'.cell? ⟨N, 1, none⟩ = some (slT vc) ∧ (∀ o, (w'.alloc o).cell? ⟨N, 1, none⟩ = some (slT vc)) ∧ w.heap.size ≤ w'.heap.size ∧ Hid (Below w4.heap.size w4 w' ∧ Ck w' B v (ctK tb k).max (ctK tb k).min 0 (alC tb (fun _ => (0, 0)) k) ∧ (∀ b, Cb B v b → w4.heap.size ≤ b) ∧ w'.ownsRow w.heap.size 85 5 (slT vc) k (flat (ctRm tb cb ca) k))) := fun W hb => by
        refine (HN.out W).mono ?_
        rintro e w5 ⟨B2, v2, rfl, k5, n5, b5⟩
        have B5 : Below w4.heap.size w4 w5 := hb.trans (b5.mono hb.size)
        have o5 := (B5.block _ (heap_lt HOc.out.2.2)).trans HOc.out.2.2
        have n5c : w5.cell? ⟨N, 1, none⟩ = some (slT vc) := by rw [cell_of_row _ _ _ _ _ (0, 0) o5]; rfl
        exact ⟨B2, v2, rfl, n5c, fun o => (World.cell?_of_block ((below_alloc w5 o).block N (heap_lt o5))).trans n5c, Nat.le_trans HOc.out.2.1 B5.size, B5, k5, fun b hb2 => by have h9 : W.heap.size + 1 < b := n5 b hb2; have := hb.size; omega, own_below HOc.out.1 B5⟩
      have HB0 : Hid (Below w4.heap.size w4 w4 ∧ Below w4.heap.size w4 w4.drew) := ⟨Below.refl _ _, (Below.refl _ _).drew⟩
      clear H2 hx0 HN
      go_region_law (first
        | (refine step_append_X rfl (.tmp 36) (.tmp 43) 55 rfl w.heap.size 85 ic _ 5 48 Tryz.underlying55 hic hc0 hc1 hc2 rfl (by decide) (slT vc) k (flat (ctRm tb cb ca) k) (by simp [Act.eval, Act.put]) (by first | exact own_below H5.out.2.2.2 (below_alloc _ _) | exact own_below H5.out.2.2.2 ((Below.refl _ _).drew.alloc (Nat.le_refl _) _) | exact own_below H5.out.2.2.2 ((below_alloc _ _).drew)) ⟨w5.heap.size, 0, none⟩ 1 1 [cP B2, U (ctK tb k).max, U (ctK tb k).base, U (ctK tb k).min, slT (ca k)] (by simp [Act.eval, Act.put]) rfl (by first | exact row_new _ _ _ | exact fun j u hu => row_new w5 _ _ j u hu) (by simp [Value.oneCell']) (by unfold maxLen; omega) (by omega) (by simp; omega) ?_; intro v6 w6 h6 hg6 hb6; obtain ⟨a6, k6, rfl⟩ := own_sl h6; obtain ⟨HZ, HW, q6, f6, hn6⟩ := HPut.out w5 _ w6 B2 v2 ⟨a6, k + 1, k6⟩ H5.out.1 H5.out.2.1 H5.out.2.2.1 (by first | exact below_alloc _ _ | exact (Below.refl _ _).drew.alloc (Nat.le_refl _) _ | exact (below_alloc _ _).drew) hg6 h6 hb6; have H6 : Hid (∃ zq vc cb cv zk, (∀ b, zq b ≠ 0 → w.heap.size ≤ b) ∧ Nw w (w6.setCell ⟨N, 1, none⟩ (.slice a6 (k + 1) k6)) tb v N (N + 1) vc va ⟨none, 0, 0⟩ ⟨some ⟨gn, 0, none⟩, tb.ctrs.length, cn⟩ ca zq cb cv zk (k + 1) 0) := hn6; clear h6 hg6 hb6 hn6)
        | (go_simp; with_reducible refine calls_idX ?_; refine (HN2.out _ (by first | exact HB0.out.2 | exact HB0.out.1)).mono ?_; rintro e w5 ⟨B2, v2, rfl, n5c, n5a, hs5, H5⟩))
      all_goals
        go_wp2
        go_roundw
        case rel => exact ⟨k + 1, by omega, by go_num, H6.out⟩
        case measure => simp [intOf]; omega
    · obtain rfl : k = v.k.n := by omega
      have hge : ¬ ((v.k.n : Int) < v.k.n) := by omega
      have H7 : Hid (∃ zq vc cb cv zk, (∀ b, zq b ≠ 0 → w.heap.size ≤ b) ∧ Nw w wr tb v N (N + 1) vc va ⟨none, 0, 0⟩ ⟨an, tb.ctrs.length, cn⟩ ca zq cb cv zk tb.ctrs.length 0) := by
        have := HJ.out
        rwa [HT.out.2.2.1] at this
      have c7 : wr.cell? ⟨w.heap.size, 7, none⟩ = some (.slice v.i.a v.i.n v.i.c) := by
        obtain ⟨zq0, _, _, _, _, -, hNw⟩ := H7.out
        obtain ⟨-, -, -, -, -, -, -, c7, -⟩ := var13 hNw.t
        exact c7
      clear HJ
      go_wp2
      clear c7
      go_loopw [10, 51] (fun _ v51 wr => ∃ k : Nat, k ≤ v.i.n ∧ v51 = I k ∧ Hid (∃ vi zq vc cb cv zk, (∀ b, zq b ≠ 0 → w.heap.size ≤ b) ∧ Nw w wr tb v N (N + 1) vc va vi ⟨an, tb.ctrs.length, cn⟩ ca zq cb cv zk tb.ctrs.length k)) (fun _ v51 _ => v.i.n - (intOf v51).toNat)
      case atStart =>
        obtain ⟨zq, vc, cb, cv, zk, h1, h2⟩ := H7.out
        exact ⟨0, by omega, rfl, _, zq, vc, cb, cv, zk, h1, h2⟩
      case round =>
        clear H7 hge hk
        obtain ⟨k, hk, rfl, HJ⟩ := hrel
        by_cases hlt : k < v.i.n
        · have hltI : (k : Int) < v.i.n := by omega
          obtain ⟨vi, zq, vc, cb, cv, zk, hzq, hNw⟩ := HJ.out
          obtain ⟨ht, ok, ek, ei⟩ := HT.out
          have hki : k < tb.isrs.length := by omega
          have hxk : tb.isrs[k]? = some (isK tb k) := by unfold isK; rw [List.getD_eq_getElem?_getD, List.getElem?_eq_getElem hki]; rfl
          obtain ⟨g, off, s2, ea, -, d0, d1, d2, -⟩ := isr_at (ht.below hNw.b) hxk
          have hb1 := below_alloc wr (.cells #[I (isK tb k).cat, I (isK tb k).prio, .slice s2.a s2.n s2.c] 88)
          have hv1 := heap_alloc_new wr (.cells #[I (isK tb k).cat, I (isK tb k).prio, .slice s2.a s2.n s2.c] 88)
          have hk32 : k ≤ 32 := by have := ok.ni; omega
          have H2 : Hid (Nw w (wr.alloc (.cells #[I (isK tb k).cat, I (isK tb k).prio, .slice s2.a s2.n s2.c] 88)) tb v N (N + 1) vc va vi ⟨an, tb.ctrs.length, cn⟩ ca zq cb cv zk tb.ctrs.length k ∧ (wr.alloc (.cells #[I (isK tb k).cat, I (isK tb k).prio, .slice s2.a s2.n s2.c] 88)).heap[wr.heap.size]? = some (.cells #[I (isK tb k).cat, I (isK tb k).prio, .slice s2.a s2.n s2.c] 88) ∧ (∀ b, zq b ≠ 0 → w.heap.size ≤ b)) := ⟨hNw.below hb1, hv1, hzq⟩
          clear HJ hNw ht ok ek ei hb1 hv1 hxk hki hzq
          generalize v.i.a = via at *
          subst ea
          go_upto_region 13 with fail
          clear d0 d1 d2
          generalize wr.alloc (.cells #[I (isK tb k).cat, I (isK tb k).prio, .slice s2.a s2.n s2.c] 88) = w4 at *
          generalize wr.heap.size = X1 at *
          have x0 : w4.cell? ⟨X1, 0, none⟩ = some (I (isK tb k).cat) := by rw [cell_of_row _ _ _ _ _ (0, 0) H2.out.2.1]; rfl
          have x1 : w4.cell? ⟨X1, 1, none⟩ = some (I (isK tb k).prio) := by rw [cell_of_row _ _ _ _ _ (0, 0) H2.out.2.1]; rfl
          have n3 : w4.cell? ⟨N, 3, none⟩ = some (slT vi) := by rw [cell_of_row _ _ _ _ _ (0, 0) H2.out.1.o]; rfl
          have n3a : ∀ o, (w4.alloc o).cell? ⟨N, 3, none⟩ = some (slT vi) := fun o => (World.cell?_of_block ((below_alloc w4 o).block N (heap_lt H2.out.1.o))).trans n3
          have hs4 : w.heap.size ≤ w4.heap.size := H2.out.1.b.size
          have HPut : Hid (∀ W1 W2 (x : Sl), Below w4.heap.size w4 W1 → W1.grownBy W2 (slT vi).ownBlock → W2.ownsRow w.heap.size 90 2 (slT x) (k + 1) (flat (isRw tb) k ++ [I (isK tb k).cat, I (isK tb k).prio]) → ((slT x).ownBlock = (slT vi).ownBlock ∨ (slT x).ownBlock = some W1.heap.size) →
              W2.cell? ⟨N, 3, none⟩ = some (slT vi) ∧ W2.frozen? ⟨N, 3, none⟩ = false ∧ ∃ vi zq vc cb cv zk, (∀ b, zq b ≠ 0 → w.heap.size ≤ b) ∧ Nw w (W2.setCell ⟨N, 3, none⟩ (slT x)) tb v N (N + 1) vc va vi ⟨an, tb.ctrs.length, cn⟩ ca zq cb cv zk tb.ctrs.length (k + 1)) := by
            intro W1 W2 x p1 p2 p3 p4
            obtain ⟨o2, hn⟩ := H2.out.1.putI p1 p2 p3 p4
            exact ⟨by rw [cell_of_row _ _ _ _ _ (0, 0) o2]; rfl, frozen_of_row _ _ _ _ _ o2, _, _, _, _, _, _, H2.out.2.2, hn⟩
          have HOi : Hid (w4.ownsRow w.heap.size 90 2 (slT vi) k (flat (isRw tb) k)) := H2.out.1.i
          clear H2
          go_region_law (first
            | (refine step_append_X rfl (.tmp 59) (.tmp 65) 57 rfl w.heap.size 90 is _ 2 16 Tryz.underlying57 his hs0 hs1 hs2 rfl (by decide) (slT vi) k (flat (isRw tb) k) (by simp [Act.eval, Act.put]) (by first | exact own_below HOi.out (below_alloc _ _) | exact own_below HOi.out ((Below.refl _ _).drew.alloc (Nat.le_refl _) _) | exact own_below HOi.out ((below_alloc _ _).drew)) ⟨w4.heap.size, 0, none⟩ 1 1 [I (isK tb k).cat, I (isK tb k).prio] (by simp [Act.eval, Act.put]) rfl (by first | exact row_new _ _ _ | exact fun j u hu => row_new w4 _ _ j u hu) (by simp [Value.oneCell']) (by unfold maxLen; omega) (by omega) (by simp; omega) ?_; intro v6 w6 h6 hg6 hb6; obtain ⟨a6, k6, rfl⟩ := own_sl h6; obtain ⟨q6, f6, hn6⟩ := HPut.out _ w6 ⟨a6, k + 1, k6⟩ (by first | exact below_alloc _ _ | exact (Below.refl _ _).drew.alloc (Nat.le_refl _) _ | exact (below_alloc _ _).drew) hg6 h6 hb6; have H6 : Hid (∃ vi zq vc cb cv zk, (∀ b, zq b ≠ 0 → w.heap.size ≤ b) ∧ Nw w (w6.setCell ⟨N, 3, none⟩ (.slice a6 (k + 1) k6)) tb v N (N + 1) vc va vi ⟨an, tb.ctrs.length, cn⟩ ca zq cb cv zk tb.ctrs.length (k + 1)) := hn6; clear h6 hg6 hb6 hn6))
          all_goals
            go_wp2
            go_roundw
            case rel => exact ⟨k + 1, by omega, by go_num, H6.out⟩
            case measure => simp [intOf]; omega
        · obtain rfl : k = v.i.n := by omega
          have hge : ¬ ((v.i.n : Int) < v.i.n) := by omega
          go_wp2
          go_ret2
          obtain ⟨vi, zq, vc, cb, cv, zk, hzq, hNw⟩ := HJ.out
          rw [HT.out.2.2.2] at hNw
          obtain ⟨r1, r2⟩ := hNw.bo HT.out.2.1 hzq
          exact ⟨N, rfl, _, _, r1, r2, hNw.b⟩
end
end Go.Proofs.YthhckhifaolmkaaGreat

namespace Go.Proofs.YthhckhifaolmkaaGreat
open Go.RowKit Go.Shelf Go.Sort
open Go.Proofs.YthhckhifaolmkaaGreat.Cl (Fx Fz Ck Cb Alm psA dueA dueF U Q cP own_sl own_some own_below own_base inL ret_bool ret_int heap_lt iinfo cell_one_new take_snoc aftN)
set_option linter.unusedVariables false
set_option linter.unusedSimpArgs false

/-! ### One -/
def oneT (mx : Nat) : Tb := ⟨0, 1, [⟨1, 0, false, 1, 0, -1, [], 0⟩], [⟨1, 1⟩], [], [⟨mx, 1, 1⟩], [⟨0, ⟨1, 0, 0⟩, 0, 0, 0⟩, ⟨0, ⟨1, 0, 0⟩, 0, 0, 0⟩], [⟨2, 70, []⟩, ⟨1, 90, []⟩], [], 1, 6, 2, 0⟩
theorem one_wf {mx : Nat} (h : mx < 4294967296) : WfT (oneT mx) := ⟨by simp [oneT], by simp [oneT]; exact h, by simp [oneT], by simp [oneT]⟩
def one9 : Tb := oneT 9
theorem one_chk9 : chkP one9 = true := by decide
theorem one_als (mx : Nat) : (oneT mx).als.all (alB (oneT mx)) = true := by
  unfold oneT
  simp only [List.all_cons, List.all_nil, Bool.and_true]
  have : alB ⟨0, 1, [⟨1, 0, false, 1, 0, -1, [], 0⟩], [⟨1, 1⟩], [], [⟨mx, 1, 1⟩], [⟨0, ⟨1, 0, 0⟩, 0, 0, 0⟩, ⟨0, ⟨1, 0, 0⟩, 0, 0, 0⟩], [⟨2, 70, []⟩, ⟨1, 90, []⟩], [], 1, 6, 2, 0⟩ ⟨0, ⟨1, 0, 0⟩, 0, 0, 0⟩ = true := by
    unfold alB
    simp only [Bool.and_eq_true]
    refine ⟨⟨⟨rfl, rfl⟩, rfl⟩, ?_⟩
    unfold timesB
    rw [if_pos rfl]
    rfl
  rw [this]
  rfl
theorem one_chk (mx : Nat) : chkP (oneT mx) = (decide (1 ≤ mx) && decide (mx ≤ 2147483647)) := by
  have h6 := one_als mx
  unfold chkP
  rw [h6]
  have h5 : (oneT mx).ctrs.all ctB = (decide (1 ≤ mx) && decide (mx ≤ 2147483647)) := by
    unfold oneT
    simp only [List.all_cons, List.all_nil, Bool.and_true, ctB]
    rw [Bool.eq_iff_iff]
    simp
    omega
  rw [h5]
  have h1 : (countsB (oneT mx) && (oneT mx).ress.all (fun r => inI r.ceil (-1) 127) && ringsW (oneT mx).tasks 64 (oneT mx).rings && (oneT mx).tasks.all (tkB (oneT mx))) = true := by rfl
  have h7 : isrsG (oneT mx) [] (oneT mx).isrs = true := by rfl
  have h8 : ((oneT mx).msgs.all fldB && (oneT mx).msgs.all (msB (oneT mx))) = true := by rfl
  have h9 : roomB (oneT mx) (max (crowdL ((oneT mx).als.map fun x => x.ctr)) (crowdL (rcvL (oneT mx)))) = true := by rfl
  rw [h1, h7, h8, h9]
  simp
theorem rows_litX {α : Type} {w : World} {k g : Nat} {P : α → Nat → Value → Prop} {cs : Array Value} {t : TypeId} {l : List α} (h : w.heap[g]? = some (.cells cs t)) (hl : l.length ≤ 1000) (hr : ∀ j x, l[j]? = some x → ∀ i, i < k → ∃ u, cs[j * k + i]? = some u ∧ P x i u) : RowsAt w k P ⟨some ⟨g, 0, none⟩, l.length, l.length⟩ l := by
  refine ⟨rfl, Nat.le_refl _, by unfold maxLen; show l.length ≤ _; omega, fun j x hj => ⟨g, 0, rfl, heap_lt h, fun i hi => ?_⟩⟩
  obtain ⟨u, h1, h2⟩ := hr j x hj i hi
  exact ⟨u, by rw [cell_of_row w g _ _ _ (0, 0) h, Nat.zero_add]; exact h1, h2⟩
theorem rows_nilX {α : Type} (w : World) (k : Nat) (P : α → Nat → Value → Prop) : RowsAt w k P ⟨none, 0, 0⟩ [] := ⟨rfl, Nat.le_refl _, Nat.zero_le _, fun j x hj => by cases hj⟩
theorem res13X {fn : Func} {n : Nat} (hf : fn.results = #[.cell n 37]) (tmps : Array Value) (b : Nat) (w : World) (v0 v1 v2 v3 v4 v5 v6 v7 v8 v9 v10 v11 v12 : Value)
    (h2 : tmps[n]? = some (.pointer (some ⟨b, 0, none⟩))) (hk : w.heap[b]? = some (.cells #[v0, v1, v2, v3, v4, v5, v6, v7, v8, v9, v10, v11, v12] 37 (0, 0))) : (results fn tmps).run Tryz.prog w = .ok (.agg #[v0, v1, v2, v3, v4, v5, v6, v7, v8, v9, v10, v11, v12]) w := by
  have a1 := fun i => cell_of_row w b i _ _ (0, 0) hk
  have z0 := a1 0; have z1 := a1 1; have z2 := a1 2; have z3 := a1 3; have z4 := a1 4; have z5 := a1 5; have z6 := a1 6; have z7 := a1 7; have z8 := a1 8; have z9 := a1 9; have z10 := a1 10; have z11 := a1 11; have z12 := a1 12
  simp at z0 z1 z2 z3 z4 z5 z6 z7 z8 z9 z10 z11 z12
  simp [results, hf, go_sem, h2, z0, z1, z2, z3, z4, z5, z6, z7, z8, z9, z10, z11, z12]
/-- blocks laid one after another -/
theorem pile_below : ∀ (os : List Obj) (w : World), Below w.heap.size w (os.foldl World.alloc w)
  | [], w => Below.refl _ _
  | o :: r, w => (below_alloc w o).trans ((pile_below r (w.alloc o)).mono (by simp))
theorem pile_at : ∀ (os : List Obj) (w : World) (i : Nat) (o : Obj), os[i]? = some o → (os.foldl World.alloc w).heap[w.heap.size + i]? = some o
  | [], w, i, o, h => by simp at h
  | x :: r, w, 0, o, h => by
    simp at h
    subst h
    exact ((pile_below r (w.alloc x)).block w.heap.size (by simp)).trans (heap_alloc_new w x)
  | x :: r, w, i + 1, o, h => by
    have := pile_at r (w.alloc x) i o (by simpa using h)
    rw [World.size_alloc] at this
    rw [show w.heap.size + (i + 1) = w.heap.size + 1 + i by omega]
    exact this
def oneV (X : Nat) : Ts := ⟨⟨some ⟨X + 2, 0, none⟩, 1, 1⟩, ⟨some ⟨X + 3, 0, none⟩, 1, 1⟩, ⟨none, 0, 0⟩, ⟨some ⟨X + 4, 0, none⟩, 1, 1⟩, ⟨some ⟨X + 5, 0, none⟩, 2, 2⟩, ⟨some ⟨X + 6, 0, none⟩, 2, 2⟩, ⟨none, 0, 0⟩⟩
def oneO (mx X : Nat) : List Obj := [.cells (tbC (oneT mx) (oneV X)) 37, .cells #[I 1, I 0, .int .u32 0] 93, .cells #[I 1, I 0, .bool false, I 1, .int .u32 0, I (-1), .slice none 0 0, .int .u32 0] 95, .cells #[I 1, I 1] 97, .cells #[U mx, U 1, U 1] 81, .cells #[I 0, I 1, I 0, .int .u32 0, .int .u32 0, .int .u32 0, .int .u32 0, I 0, I 1, I 0, .int .u32 0, .int .u32 0, .int .u32 0, .int .u32 0] 99, .cells #[I 2, I 70, .slice none 0 0, I 1, I 90, .slice none 0 0] 88]
theorem one_at (w : World) (mx : Nat) : TbAt ((oneO mx w.heap.size).foldl World.alloc w) (oneT mx) (oneV w.heap.size) := by
  have h2 := pile_at (oneO mx w.heap.size) w 2 _ rfl
  have h3 := pile_at (oneO mx w.heap.size) w 3 _ rfl
  have h4 := pile_at (oneO mx w.heap.size) w 4 _ rfl
  have h5 := pile_at (oneO mx w.heap.size) w 5 _ rfl
  have h6 := pile_at (oneO mx w.heap.size) w 6 _ rfl
  generalize (oneO mx w.heap.size).foldl World.alloc w = W at *
  have ni : IntsV W [] (.slice none 0 0) := ⟨⟨none, 0, 0⟩, rfl, rows_nilX _ _ _⟩
  refine ⟨rows_litX (l := (oneT mx).tasks) h2 (by simp [oneT]) (fun j x hj i hi => ?_), rows_litX (l := (oneT mx).rings) h3 (by simp [oneT]) (fun j x hj i hi => ?_), rows_nilX _ _ _, rows_litX (l := (oneT mx).ctrs) h4 (by simp [oneT]) (fun j x hj i hi => ?_), rows_litX (l := (oneT mx).als) h5 (by simp [oneT]) (fun j x hj i hi => ?_), rows_litX (l := (oneT mx).isrs) h6 (by simp [oneT]) (fun j x hj i hi => ?_), rows_nilX _ _ _⟩
  · match j, hj with
    | 0, hj => cases hj; match i, hi with
      | 0, _ => exact ⟨_, rfl, rfl⟩
      | 1, _ => exact ⟨_, rfl, rfl⟩
      | 2, _ => exact ⟨_, rfl, rfl⟩
      | 3, _ => exact ⟨_, rfl, rfl⟩
      | 4, _ => exact ⟨_, rfl, rfl⟩
      | 5, _ => exact ⟨_, rfl, rfl⟩
      | 6, _ => exact ⟨_, rfl, ni⟩
      | 7, _ => exact ⟨_, rfl, rfl⟩
  · match j, hj with
    | 0, hj => cases hj; match i, hi with
      | 0, _ => exact ⟨_, rfl, rfl⟩
      | 1, _ => exact ⟨_, rfl, rfl⟩
  · match j, hj with
    | 0, hj => cases hj; match i, hi with
      | 0, _ => exact ⟨_, rfl, rfl⟩
      | 1, _ => exact ⟨_, rfl, rfl⟩
      | 2, _ => exact ⟨_, rfl, rfl⟩
  · match j, hj with
    | 0, hj => cases hj; match i, hi with
      | 0, _ => exact ⟨_, rfl, rfl⟩
      | 1, _ => exact ⟨_, rfl, rfl⟩
      | 2, _ => exact ⟨_, rfl, rfl⟩
      | 3, _ => exact ⟨_, rfl, rfl⟩
      | 4, _ => exact ⟨_, rfl, rfl⟩
      | 5, _ => exact ⟨_, rfl, rfl⟩
      | 6, _ => exact ⟨_, rfl, rfl⟩
    | 1, hj => cases hj; match i, hi with
      | 0, _ => exact ⟨_, rfl, rfl⟩
      | 1, _ => exact ⟨_, rfl, rfl⟩
      | 2, _ => exact ⟨_, rfl, rfl⟩
      | 3, _ => exact ⟨_, rfl, rfl⟩
      | 4, _ => exact ⟨_, rfl, rfl⟩
      | 5, _ => exact ⟨_, rfl, rfl⟩
      | 6, _ => exact ⟨_, rfl, rfl⟩
  · match j, hj with
    | 0, hj => cases hj; match i, hi with
      | 0, _ => exact ⟨_, rfl, rfl⟩
      | 1, _ => exact ⟨_, rfl, rfl⟩
      | 2, _ => exact ⟨_, rfl, ni⟩
    | 1, hj => cases hj; match i, hi with
      | 0, _ => exact ⟨_, rfl, rfl⟩
      | 1, _ => exact ⟨_, rfl, rfl⟩
      | 2, _ => exact ⟨_, rfl, ni⟩
set_option maxRecDepth 100000 in
set_option maxHeartbeats 8000000 in
theorem One_any (w : World) (mx : Nat) : Calls Tryz.prog 8 #[U mx] w fun e w' => ∃ v, e = .returned (.agg (tbC (oneT mx) v)) ∧ TbAt w' (oneT mx) v ∧ Below w.heap.size w w' := by
  have h0 := pile_at (oneO mx w.heap.size) w 0 _ rfl
  have hT := one_at w mx
  have hb := pile_below (oneO mx w.heap.size) w
  have HH : Hid (((oneO mx w.heap.size).foldl World.alloc w).heap[w.heap.size]? = some (.cells (tbC (oneT mx) (oneV w.heap.size)) 37) ∧ TbAt ((oneO mx w.heap.size).foldl World.alloc w) (oneT mx) (oneV w.heap.size) ∧ Below w.heap.size w ((oneO mx w.heap.size).foldl World.alloc w)) := ⟨h0, hT, hb⟩
  clear h0 hT hb
  go_enter Tryz.func8, Tryz.ntmps8
  go_wp2
  refine bodyPost_ret (res13X Tryz.results8 _ w.heap.size _ _ _ _ _ _ _ _ _ _ _ _ _ _ rfl HH.out.1) rfl ⟨oneV w.heap.size, rfl, HH.out.2.1, HH.out.2.2⟩
end Go.Proofs.YthhckhifaolmkaaGreat

