import Derived.Test.YthhckhifaolmkaaGreatXXl
import Derived.Test.YthhckhifaolmkaaGreatXTda
import Derived.Maps.AppendAt
namespace Go.Proofs.YthhckhifaolmkaaGreat
open Go.RowKit Go.Shelf Go.Sort
open Go.Proofs.YthhckhifaolmkaaGreat.Cl (Fx Fz Ck Cb Alm psA dueA dueF U Q cP own_sl own_some own_below own_base inL ret_bool ret_int heap_lt iinfo cell_one_new take_snoc aftN)
set_option linter.unusedVariables false
set_option linter.unusedSimpArgs false

/-! ### What Check says of counters, alarms, ISRs -/
theorem isrsG_inX {tb : Tb} : ∀ {pre l : List IsR}, isrsG tb pre l = true → ∀ x ∈ l, isB tb x = true
  | pre, [], _, x, hx => by cases hx
  | pre, y :: l, h, x, hx => by
    rw [isrsG] at h
    simp only [Bool.and_eq_true] at h
    rcases List.mem_cons.1 hx with rfl | hx
    · exact h.1.1
    · exact isrsG_inX h.2 x hx
theorem okb_of {tb : Tb} (h : chkP tb = true) (hw : WfT tb) : OKb tb := by
  unfold chkP at h
  simp only [Bool.and_eq_true] at h
  obtain ⟨⟨⟨⟨⟨⟨⟨⟨h1, h2⟩, h3⟩, h4⟩, h5⟩, h6⟩, h7⟩, h8⟩, h9⟩ := h
  unfold countsB at h1
  simp only [Bool.and_eq_true, decide_eq_true_eq, inI] at h1
  refine ⟨⟨h1.1.1.2.1, h1.1.1.2.2⟩, h1.2.2.1, h1.2.2.2.1, h1.2.2.2.2.1, fun i hi => ?_, fun j hj => ?_, fun j hj => ?_⟩
  · have e : ctK tb i = tb.ctrs[i] := by unfold ctK; rw [List.getD_eq_getElem?_getD, List.getElem?_eq_getElem hi]; rfl
    have := List.all_eq_true.1 h5 _ (List.getElem_mem hi)
    rw [← e] at this
    unfold ctB at this
    simp at this
    omega
  · have e : alK tb j = tb.als[j] := by unfold alK; rw [List.getD_eq_getElem?_getD, List.getElem?_eq_getElem hj]; rfl
    have hm := List.getElem_mem hj
    have hb := List.all_eq_true.1 h6 _ hm
    have hwa := hw.a _ hm
    rw [← e] at hb hwa
    have ec : ctrN tb j = (alK tb j).ctr.toNat := by unfold ctrN; rw [List.getElem?_eq_getElem hj, e]
    unfold alB at hb
    simp only [Bool.and_eq_true] at hb
    obtain ⟨⟨⟨b1, b2⟩, b3⟩, b4⟩ := hb
    unfold idB at b1
    simp at b1
    have hcl : ctrN tb j < tb.ctrs.length := by omega
    have ek : ctOf tb (alK tb j).ctr = ctK tb (ctrN tb j) := by
      unfold ctOf ctK
      rw [← ec, List.getD_eq_getElem?_getD, List.getElem?_eq_getElem hcl]
      rfl
    rw [ek] at b4
    refine ⟨by omega, hcl, hwa.2.1, hwa.2.2.1, hwa.2.2.2, fun hne => ?_⟩
    unfold timesB at b4
    rw [if_neg hne] at b4
    simp at b4
    omega
  · have e : isK tb j = tb.isrs[j] := by unfold isK; rw [List.getD_eq_getElem?_getD, List.getElem?_eq_getElem hj]; rfl
    have hb := isrsG_inX h7 _ (List.getElem_mem hj)
    rw [← e] at hb
    unfold isB at hb
    simp only [Bool.and_eq_true, inI, decide_eq_true_eq] at hb
    omega
/-! ### newCounter -/
theorem two_at4 (w : World) (o : Obj) (t : TypeId) (a b c d e : Value) : ((w.alloc o).alloc (.cells #[a, b, c, d, e] t)).heap[w.heap.size + 1]? = some (.cells #[a, b, c, d, e] t) := two_at2 w o a b c d e t
set_option maxRecDepth 100000 in
theorem newCounter_any (w : World) (mx bs mn : Nat) (sl : Sl) (hn : sl.n ≤ 64) (hm : Cl.mayC mx mn = true) : Calls Tryz.prog 27 #[.agg #[U mx, U bs, U mn], slT sl] w fun e w' => ∃ B v, e = .returned (.agg #[cP B, U mx, U bs, U mn, slT sl]) ∧ Ck w' B v mx mn 0 (List.replicate sl.n (0, 0)) ∧ (∀ b, Cb B v b → w.heap.size + 1 < b) ∧ Below w.heap.size w w' := by
  have hbb : Below w.heap.size w ((w.alloc (.cells #[U mx, U bs, U mn] 81)).alloc zC) := (below_alloc w _).trans ((below_alloc _ _).mono (by simp))
  have hs2 : ((w.alloc (.cells #[U mx, U bs, U mn] 81)).alloc zC).heap.size = w.heap.size + 1 + 1 := by simp
  have hC := Cl.New_ok ((w.alloc (.cells #[U mx, U bs, U mn] 81)).alloc zC) ⟨#[]⟩ mx bs mn sl.n (by unfold Cl.newB; rw [hm]; simp; omega)
  rw [hs2] at hC
  have q1 := two_at1 w (.cells #[U mx, U bs, U mn] 81) zC
  have q2 := two_at2 w (.cells #[U mx, U bs, U mn] 81) (.pointer none) (.int .u32 0) (.int .u32 0) (.int .u32 0) (.slice none 0 0) 85
  have H0 : Hid (Below w.heap.size w ((w.alloc (.cells #[U mx, U bs, U mn] 81)).alloc zC) ∧ ((w.alloc (.cells #[U mx, U bs, U mn] 81)).alloc zC).heap[w.heap.size]? = some (.cells #[U mx, U bs, U mn] 81) ∧ ((w.alloc (.cells #[U mx, U bs, U mn] 81)).alloc zC).heap[w.heap.size + 1]? = some zC) := ⟨hbb, q1, q2⟩
  have c0 : ((w.alloc (.cells #[U mx, U bs, U mn] 81)).alloc zC).cell? ⟨w.heap.size, 0, none⟩ = some (U mx) := by rw [cell_of_row _ _ _ _ _ (0, 0) q1]; rfl
  have c1 : ((w.alloc (.cells #[U mx, U bs, U mn] 81)).alloc zC).cell? ⟨w.heap.size, 1, none⟩ = some (U bs) := by rw [cell_of_row _ _ _ _ _ (0, 0) q1]; rfl
  have c2 : ((w.alloc (.cells #[U mx, U bs, U mn] 81)).alloc zC).cell? ⟨w.heap.size, 2, none⟩ = some (U mn) := by rw [cell_of_row _ _ _ _ _ (0, 0) q1]; rfl
  clear hbb hs2 q1 q2 hm
  go_enter Tryz.func27, Tryz.ntmps27
  go_upto_region 1 with fail
  generalize ((w.alloc (.cells #[U mx, U bs, U mn] 81)).alloc zC) = w1 at *
  go_upto_region 2 with (first | (go_at_call 69; refine hC.mono ?_; clear hC; rintro e w3 ⟨B2, v2, rfl, k3, n3, b3⟩))
  have e1 := (b3.block _ (by omega)).trans H0.out.2.1
  have e2 := (b3.block _ (by omega)).trans H0.out.2.2
  have B3 := H0.out.1.trans (b3.mono (by omega))
  clear c0 c1 c2 H0 b3
  have y0 : w3.cell? ⟨w.heap.size, 0, none⟩ = some (U mx) := by rw [cell_of_row _ _ _ _ _ (0, 0) e1]; rfl
  have y1 : w3.cell? ⟨w.heap.size, 1, none⟩ = some (U bs) := by rw [cell_of_row _ _ _ _ _ (0, 0) e1]; rfl
  have y2 : w3.cell? ⟨w.heap.size, 2, none⟩ = some (U mn) := by rw [cell_of_row _ _ _ _ _ (0, 0) e1]; rfl
  obtain ⟨r0, r1, r2, r3, r4, f0, f1, f2, f3, f4, hq⟩ := five e2 (cP B2) (U mx) (U bs) (U mn) (slT sl)
  have F5 : Fz (fun b => b = w.heap.size + 1) w3 (((((w3.setCell ⟨w.heap.size + 1, 0, none⟩ (cP B2)).setCell ⟨w.heap.size + 1, 1, none⟩ (U mx)).setCell ⟨w.heap.size + 1, 2, none⟩ (U bs)).setCell ⟨w.heap.size + 1, 3, none⟩ (U mn)).setCell ⟨w.heap.size + 1, 4, none⟩ (slT sl)) := (((((Fz.refl (fun b => b = w.heap.size + 1) w3).set (.inl rfl) _ _).set (.inl rfl) _ _).set (.inl rfl) _ _).set (.inl rfl) _ _).set (.inl rfl) _ _
  have H5 : Hid (Ck (((((w3.setCell ⟨w.heap.size + 1, 0, none⟩ (cP B2)).setCell ⟨w.heap.size + 1, 1, none⟩ (U mx)).setCell ⟨w.heap.size + 1, 2, none⟩ (U bs)).setCell ⟨w.heap.size + 1, 3, none⟩ (U mn)).setCell ⟨w.heap.size + 1, 4, none⟩ (slT sl)) B2 v2 mx mn 0 (List.replicate sl.n (0, 0)) ∧ (∀ b, Cb B2 v2 b → w.heap.size + 1 < b) ∧ Below w.heap.size w (((((w3.setCell ⟨w.heap.size + 1, 0, none⟩ (cP B2)).setCell ⟨w.heap.size + 1, 1, none⟩ (U mx)).setCell ⟨w.heap.size + 1, 2, none⟩ (U bs)).setCell ⟨w.heap.size + 1, 3, none⟩ (U mn)).setCell ⟨w.heap.size + 1, 4, none⟩ (slT sl))) := ⟨k3.keptZ F5 (fun b hb e => by have := n3 b hb; omega), fun b hb => by have := n3 b hb; omega, B3.trans (F5.below (by have := B3.size; omega) (by rintro b rfl; omega))⟩
  clear e1 e2 k3 n3 F5 B3
  go_wp2
  refine bodyPost_ret (res_ctr Tryz.results27 _ (w.heap.size + 1) _ _ _ _ _ _ rfl hq) rfl ?_
  exact ⟨B2, v2, rfl, H5.out.1, H5.out.2.1, H5.out.2.2⟩
end Go.Proofs.YthhckhifaolmkaaGreat

namespace Go.Proofs.YthhckhifaolmkaaGreat
open Go.RowKit Go.Shelf Go.Sort
open Go.Proofs.YthhckhifaolmkaaGreat.Cl (Fx Fz Ck Cb Alm psA dueA dueF U Q cP own_sl own_some own_below own_base inL ret_bool ret_int heap_lt iinfo cell_one_new take_snoc aftN)
set_option linter.unusedVariables false
set_option linter.unusedSimpArgs false

/-! ### placed -/
theorem own_apart {w : World} {b1 b2 e1 e2 k1 k2 n1 n2 : Nat} {v1 v2 : Value} {x1 x2 : List Value} (h1 : w.ownsRow b1 e1 k1 v1 n1 x1) (h2 : w.ownsRow b2 e2 k2 v2 n2 x2) (he : e1 ≠ e2) {g : Nat} (hg : v1.ownBlock = some g) : v2.ownBlock ≠ some g := by
  intro hg2
  rcases h1.2 with ⟨rfl, _⟩ | ⟨g1, c1, cur1, rfl, _, hh1, _⟩
  · cases hg
  · rcases h2.2 with ⟨rfl, _⟩ | ⟨g2, c2, cur2, rfl, _, hh2, _⟩
    · cases hg2
    · cases hg
      cases hg2
      rw [hh1] at hh2
      cases hh2
      exact he rfl
theorem step_append_X {P : Program} {ops : Array Oper} {o : Oper} {a : Act} {w : World} {K : Act → World → Prop} {Q : Exit → Act → World → Prop} {F : Prop}
    (hgd : o.guard = none) (s x : Operand) (t : TypeId) (ho : o.op = .call { callee := .builtin .append, args := #[s, x], argTypes := #[t, t] })
    (base : Nat) (e : TypeId) (i : TypeInfo) (z : Value) (size bytes : Nat) (ht : P.underlying t = some (.slice e)) (hi : P.info? e = some i) (hz : i.zero = some z)
    (hsize : i.size = size) (hby : i.bytes = bytes) (hzs : z.cells.size = size) (hsz : 0 < size)
    (v : Value) (n : Nat) (xs : List Value) (hs : a.eval s = v) (hown : w.ownsRow base e size v n xs)
    (ad : Addr) (m c : Nat) (news : List Value) (hx : a.eval x = .slice (some ad) m c) (hl : news.length = m * size) (hnews : ∀ j u, news[j]? = some u → w.cell? (ad.add j) = some u) (h1 : ∀ u ∈ news, u.oneCell' = true)
    (h63 : n + m ≤ maxLen) (hbytes : (n + m) * bytes ≤ 140737488355328) (hbase : base ≤ w.heap.size)
    (h : ∀ v' w', w'.ownsRow base e size v' (n + m) (xs ++ news) → w.grownBy w' v.ownBlock → (v'.ownBlock = v.ownBlock ∨ v'.ownBlock = some w.heap.size) → K (a.put o.dst v') w') :
    if Region.wanted o (yielded ops a.tmps) = true then Oper.wp P o a w K Q else F := by
  have hw : Region.wanted o (yielded ops a.tmps) = true := by simp [Region.wanted, hgd]
  rw [if_pos hw]
  obtain ⟨v', w', hr, h2, h3, h4, h5⟩ := run_append_own_at (P := P) w base t o.type e i z size bytes ht hi hz hsize hby hzs hsz v n xs hown ad m c news hl hnews h1 h63 hbytes hbase
  unfold Oper.wp execOp
  simp only [ho, resolve, invoke, builtin, Sem.run_bind, Sem.run_pure, Result.andThen_ok, List.map_toArray, List.map_cons, List.map_nil, hs, hx, hr]
  exact h v' w' h2 h3 h5
theorem getE {W : World} {a : Addr} {xs : List Value} {j : Nat} (h : j < xs.length) (e : W.cell? a = xs[j]?) : ∃ y, W.cell? a = some y := ⟨_, e.trans (List.getElem?_eq_getElem h)⟩
theorem row_new (w : World) (cs : List Value) (t : TypeId) : ∀ (j : Nat) (u : Value), cs[j]? = some u → (w.alloc (.cells cs.toArray t)).cell? ((⟨w.heap.size, 0, none⟩ : Addr).add j) = some u := by
  intro j u hu
  rw [Cl.addr_add, Nat.zero_add, cell_of_row _ _ _ _ _ (0, 0) (heap_alloc_new w _)]
  simpa using hu
theorem slinfo : (Tryz.prog.info? 40).map (fun i => (i.zero, i.size, i.bytes)) = some (some (.slice none 0 0), 1, 24) := by kernel_rfl
theorem alinfo : (Tryz.prog.info? 136).map (fun i => (i.zero, i.size, i.bytes)) = some (some (.agg #[.int .i64 0, .int .i64 0, .int .u32 0, .int .u32 0, .int .u32 0]), 5, 32) := by kernel_rfl
def slL (ca : Nat → Sl) (n : Nat) : List Value := (List.range n).map (fun i => slT (ca i))
theorem slL_at {ca : Nat → Sl} {n i : Nat} (h : i < n) : (slL ca n)[i]? = some (slT (ca i)) := by
  unfold slL
  rw [List.getElem?_map, List.getElem?_range h]
  rfl
theorem slL_set (ca : Nat → Sl) (n c : Nat) (x : Sl) : (slL ca n).set c (slT x) = slL (upN ca c x) n := by
  apply List.ext_getElem?
  intro i
  by_cases hi : i < n
  · rw [slL_at hi, List.getElem?_set]
    by_cases e : c = i
    · subst e
      rw [if_pos rfl, if_pos (by simpa [slL] using hi), upN_same]
    · rw [if_neg e, slL_at hi, upN_ne _ _ (fun h => e h.symm)]
  · rw [List.getElem?_eq_none (by simp [slL]; omega), List.getElem?_eq_none (by simp [slL]; omega)]
/-- Rows of numbers, one a counter, each in a block of its own. -/
structure Nm (w : World) (L nk : Nat) (vn : Value) (ca : Nat → Sl) (zq : Nat → Nat) (f : Nat → List Nat) : Prop where
  n : w.ownsRow L 40 1 vn nk (slL ca nk)
  r : ∀ i, i < nk → w.ownsRow L 3 1 (slT (ca i)) (f i).length (inL (f i))
  z : ∀ i, i < nk → ∀ b, (slT (ca i)).ownBlock = some b → zq b = i + 1
  s : ∀ b, zq b ≠ 0 → b < w.heap.size
section
variable {w w' : World} {L nk : Nat} {vn : Value} {ca : Nat → Sl} {zq : Nat → Nat} {f : Nat → List Nat}
theorem Nm.below (h : Nm w L nk vn ca zq f) (hb : Below w.heap.size w w') : Nm w' L nk vn ca zq f := ⟨own_below h.n hb, fun i hi => own_below (h.r i hi) hb, h.z, fun b e => Nat.lt_of_lt_of_le (h.s b e) hb.size⟩
theorem Nm.congr (h : Nm w L nk vn ca zq f) {g : Nat → List Nat} (e : ∀ i, i < nk → f i = g i) : Nm w L nk vn ca zq g := ⟨h.n, fun i hi => by rw [← e i hi]; exact h.r i hi, h.z, h.s⟩
/-- what grows beside them, of another type -/
theorem Nm.grown (h : Nm w L nk vn ca zq f) {b E k n : Nat} {v : Value} {xs : List Value} (hv : w.ownsRow b E k v n xs) (h1 : E ≠ 3) (h2 : E ≠ 40) (hg : w.grownBy w' v.ownBlock) : Nm w' L nk vn ca zq f := by
  have hf : Fz (fun x => v.ownBlock = some x) w w' := ⟨hg.os, hg.tape, hg.output, hg.size, fun b hb hne => hg.block b hb (fun e => hne e.symm)⟩
  exact ⟨hf.own h.n (fun g e => own_apart h.n hv (fun e => h2 e.symm) e), fun i hi => hf.own (h.r i hi) (fun g e => own_apart (h.r i hi) hv (fun e => h1 e.symm) e), h.z, fun b e => Nat.lt_of_lt_of_le (h.s b e) hg.size⟩
/-- one row grows by a number, and is put where it was -/
theorem Nm.put {gn cn c x : Nat} {W2 : World} {v6 : Sl} (h : Nm w L nk (.slice (some ⟨gn, 0, none⟩) nk cn) ca zq f) (hc : c < nk) (hg : w.grownBy W2 (slT (ca c)).ownBlock) (ho : W2.ownsRow L 3 1 (slT v6) ((f c).length + 1) (inL (f c) ++ [I x])) (hb : (slT v6).ownBlock = (slT (ca c)).ownBlock ∨ (slT v6).ownBlock = some w.heap.size) :
    Nm (W2.setCell ⟨gn, c, none⟩ (slT v6)) L nk (.slice (some ⟨gn, 0, none⟩) nk cn) (upN ca c v6) (fun b => if b = w.heap.size ∧ w.heap.size < W2.heap.size then c + 1 else zq b) (upN f c (f c ++ [x])) := by
  have hf : Fz (fun y => (slT (ca c)).ownBlock = some y) w W2 := ⟨hg.os, hg.tape, hg.output, hg.size, fun b hb hne => hg.block b hb (fun e => hne e.symm)⟩
  have hn2 := hf.own h.n (fun g e => own_apart h.n (h.r c hc) (by decide) e)
  have fs : Fz (fun b => b = gn) W2 (W2.setCell ⟨gn, c, none⟩ (slT v6)) := (Fz.refl (fun b => b = gn) W2).set (.inl rfl) _ _
  have hgn : (Value.slice (some ⟨gn, 0, none⟩) nk cn).ownBlock = some gn := rfl
  refine ⟨?_, fun i hi => ?_, fun i hi b e => ?_, fun b e => ?_⟩
  · have := (hn2.stored c (slT v6)).1
    rwa [slL_set] at this
  · by_cases e : i = c
    · subst e
      simp only [upN_same]
      rw [List.length_append]
      have : inL (f i ++ [x]) = inL (f i) ++ [I x] := by simp [inL]
      rw [this]
      exact fs.own ho (fun g e e2 => own_apart hn2 ho (by decide) hgn (by rw [← e2]; exact e))
    · simp only [upN_ne _ _ e]
      have r2 := hf.own (h.r i hi) (fun g e1 e2 => by have := h.z i hi g e1; have := h.z c hc g e2; omega)
      exact fs.own r2 (fun g e e2 => own_apart hn2 r2 (by decide) hgn (by rw [← e2]; exact e))
  · by_cases e2 : i = c
    · subst e2
      simp only [upN_same] at e
      rcases hb with hb | hb
      · rw [hb] at e
        have := ((h.r i hi).lt b e).2
        show (if _ then _ else _) = _
        rw [if_neg (by omega)]
        exact h.z i hi b e
      · rw [hb] at e
        cases e
        have := (ho.lt _ hb).2
        show (if _ then _ else _) = _
        rw [if_pos ⟨rfl, this⟩]
    · simp only [upN_ne _ _ e2] at e
      have := ((h.r i hi).lt b e).2
      show (if _ then _ else _) = _
      rw [if_neg (by omega)]
      exact h.z i hi b e
  · have e' : (if b = w.heap.size ∧ w.heap.size < W2.heap.size then c + 1 else zq b) ≠ 0 := e
    have hs := hf.size
    have : (W2.setCell ⟨gn, c, none⟩ (slT v6)).heap.size = W2.heap.size := by simp
    rw [this]
    split at e'
    · omega
    · have := h.s b e'; omega
end
section
variable {w w' : World} {tb : Tb} {v : Ts}
set_option maxRecDepth 100000 in
set_option maxHeartbeats 8000000 in
theorem placed_any (h : TbAt w tb v) (ok : OKb tb) : Calls Tryz.prog 26 #[.agg (tbC tb v)] w fun e w' => ∃ va vn, e = .returned (.tuple #[slT va, slT vn]) ∧ w'.ownsRow w.heap.size 136 5 (slT va) tb.als.length (flat (alRw tb) tb.als.length) ∧ (∃ ca zq, Nm w' w.heap.size tb.ctrs.length (slT vn) ca zq (idxA tb)) ∧ Below w.heap.size w w' := by
  obtain ⟨ii, hii, hi0, hi1, hi2⟩ := info_parts iinfo
  obtain ⟨ia, hia, ha0, ha1, ha2⟩ := info_parts alinfo
  obtain ⟨is, his, hs0, hs1, hs2⟩ := info_parts slinfo
  have hb0 := below_alloc w (.cells (tbC tb v) 37)
  have hV0 := heap_alloc_new w (.cells (tbC tb v) 37)
  have hsz0 : (w.alloc (.cells (tbC tb v) 37)).heap.size = w.heap.size + 1 := by simp
  have h0 := h.below hb0
  obtain ⟨-, -, -, -, -, c5, c6, -⟩ := var13 hV0
  have hnk := ok.nk
  have hna := ok.na
  have en : v.a.n = tb.als.length := h.a.n
  have ek : v.k.n = tb.ctrs.length := h.k.n
  obtain ⟨w1, hmk, ho1, hg1⟩ := run_make_full (P := Tryz.prog) (w.alloc (.cells (tbC tb v) 37)) (w.heap.size + 1) 77 40 is _ 1 Tryz.underlying77 his hs0 hs1 .i64 .i64 tb.ctrs.length (by rw [hs2]; omega) (by unfold maxLen; omega) (by simp)
  rw [← ek] at hmk
  have b1 : Below w.heap.size w w1 := hb0.trans ((⟨hg1.os, hg1.tape, hg1.output, hg1.size, fun i hi => hg1.block i hi (by simp)⟩ : Below _ _ w1).mono hb0.size)
  have hV1 : w1.heap[w.heap.size]? = some (.cells (tbC tb v) 37) := (hg1.block _ (by simp) (by simp)).trans hV0
  obtain ⟨-, -, -, -, -, -, d6, -⟩ := var13 hV1
  rw [hsz0] at hmk ho1
  have HT : Hid (TbAt w tb v ∧ OKb tb ∧ v.a.n = tb.als.length ∧ v.k.n = tb.ctrs.length) := ⟨h, ok, en, ek⟩
  have H1 : Hid (Below w.heap.size w w1 ∧ w1.heap[w.heap.size]? = some (.cells (tbC tb v) 37) ∧ (∃ va, Value.slice none 0 0 = slT va ∧ w1.ownsRow w.heap.size 136 5 (slT va) 0 (flat (alRw tb) 0)) ∧ ∃ ca zq, Nm w1 w.heap.size v.k.n (.slice (some ⟨w.heap.size + 1, 0, none⟩) v.k.n v.k.n) ca zq (fun i => idxT tb i 0)) := by
    rw [ek]
    refine ⟨b1, hV1, ⟨⟨none, 0, 0⟩, rfl, by simpa [flat] using World.ownsRow_nil w1 _ _ _⟩, fun _ => ⟨none, 0, 0⟩, fun _ => 0, ?_, fun i hi => ?_, (fun i hi b e => (by cases e)), fun b e => absurd rfl e⟩
    · have e : slL (fun _ => (⟨none, 0, 0⟩ : Sl)) tb.ctrs.length = (madeCells (Value.slice none 0 0).cells (tb.ctrs.length * 1)).toList := by
        apply List.ext_getElem?
        intro i
        by_cases hi : i < tb.ctrs.length
        · rw [slL_at hi]
          simp [madeCells, Value.cells, hi]
          rw [Nat.mod_one]
          rfl
        · rw [List.getElem?_eq_none (by simp [slL]; omega), List.getElem?_eq_none (by simp [size_madeCells]; omega)]
      rw [e]
      exact own_base ho1 (by omega)
    · simpa [idxT, inL] using World.ownsRow_nil w1 _ _ _
  unfold tbC at hmk c5 c6 ⊢
  clear h ok hb0 hV0 h0 ho1 hg1 b1 hV1 hsz0 en ek
  go_enter Tryz.func26, Tryz.ntmps26
  go_wp2
  clear hmk c5 c6 d6
  go_loopw [4, 6, 7, 8, 16] (fun v4 _ _ _ v16 wr => ∃ k : Nat, k ≤ v.a.n ∧ v16 = I k ∧ Hid (Below w.heap.size w wr ∧ wr.heap[w.heap.size]? = some (.cells (tbC tb v) 37) ∧ (∃ va, v4 = slT va ∧ wr.ownsRow w.heap.size 136 5 (slT va) k (flat (alRw tb) k)) ∧ ∃ ca zq, Nm wr w.heap.size v.k.n (.slice (some ⟨w.heap.size + 1, 0, none⟩) v.k.n v.k.n) ca zq (fun i => idxT tb i k))) (fun _ _ _ _ v16 _ => v.a.n - (intOf v16).toNat)
  case atStart => exact ⟨0, by omega, rfl, H1.out⟩
  case round =>
    clear H1
    obtain ⟨k, hk, rfl, HJ⟩ := hrel
    by_cases hlt : k < v.a.n
    · have hltI : (k : Int) < v.a.n := by omega
      obtain ⟨b, hV, ⟨va, rfl, oa⟩, ca, zq, hNm⟩ := HJ.out
      obtain ⟨ht, ok, en, ek⟩ := HT.out
      have hka : k < tb.als.length := by omega
      have hxk : tb.als[k]? = some (alK tb k) := by unfold alK; rw [List.getD_eq_getElem?_getD, List.getElem?_eq_getElem hka]; rfl
      obtain ⟨g, off, ea, -, d0, d1, d2, d3, d4, d5, d6⟩ := alr_at (ht.below b) hxk
      rw [(ok.a k hka).1] at d0
      have hc : ctrN tb k < v.k.n := by rw [ek]; exact (ok.a k hka).2.1
      have hcI : (ctrN tb k : Int) < v.k.n := by omega
      have hb1 := below_alloc wr (.cells #[I (ctrN tb k), I (alK tb k).ac.kind, I (alK tb k).ac.task, .int .u32 ((alK tb k).ac.mask : Int), .int .u32 ((alK tb k).auto : Int), .int .u32 ((alK tb k).time : Int), .int .u32 ((alK tb k).cycle : Int)] 99)
      have hv1 := heap_alloc_new wr (.cells #[I (ctrN tb k), I (alK tb k).ac.kind, I (alK tb k).ac.task, .int .u32 ((alK tb k).ac.mask : Int), .int .u32 ((alK tb k).auto : Int), .int .u32 ((alK tb k).time : Int), .int .u32 ((alK tb k).cycle : Int)] 99)
      have hlc := (hNm.r _ hc)
      have hlc2 : (idxT tb (ctrN tb k) k).length ≤ 64 := by have := idxT_len tb (ctrN tb k) k; have := ok.na; omega
      have hk64 : k ≤ 64 := by have := ok.na; omega
      have hbs := b.size
      have H2 : Hid (Below w.heap.size w (wr.alloc (.cells #[I (ctrN tb k), I (alK tb k).ac.kind, I (alK tb k).ac.task, .int .u32 ((alK tb k).ac.mask : Int), .int .u32 ((alK tb k).auto : Int), .int .u32 ((alK tb k).time : Int), .int .u32 ((alK tb k).cycle : Int)] 99)) ∧ (wr.alloc (.cells #[I (ctrN tb k), I (alK tb k).ac.kind, I (alK tb k).ac.task, .int .u32 ((alK tb k).ac.mask : Int), .int .u32 ((alK tb k).auto : Int), .int .u32 ((alK tb k).time : Int), .int .u32 ((alK tb k).cycle : Int)] 99)).heap[w.heap.size]? = some (.cells (tbC tb v) 37) ∧ (wr.alloc (.cells #[I (ctrN tb k), I (alK tb k).ac.kind, I (alK tb k).ac.task, .int .u32 ((alK tb k).ac.mask : Int), .int .u32 ((alK tb k).auto : Int), .int .u32 ((alK tb k).time : Int), .int .u32 ((alK tb k).cycle : Int)] 99)).ownsRow w.heap.size 136 5 (slT va) k (flat (alRw tb) k) ∧ Nm (wr.alloc (.cells #[I (ctrN tb k), I (alK tb k).ac.kind, I (alK tb k).ac.task, .int .u32 ((alK tb k).ac.mask : Int), .int .u32 ((alK tb k).auto : Int), .int .u32 ((alK tb k).time : Int), .int .u32 ((alK tb k).cycle : Int)] 99)) w.heap.size v.k.n (.slice (some ⟨w.heap.size + 1, 0, none⟩) v.k.n v.k.n) ca zq (fun i => idxT tb i k) ∧ (wr.alloc (.cells #[I (ctrN tb k), I (alK tb k).ac.kind, I (alK tb k).ac.task, .int .u32 ((alK tb k).ac.mask : Int), .int .u32 ((alK tb k).auto : Int), .int .u32 ((alK tb k).time : Int), .int .u32 ((alK tb k).cycle : Int)] 99)).heap[wr.heap.size]? = some (.cells #[I (ctrN tb k), I (alK tb k).ac.kind, I (alK tb k).ac.task, .int .u32 ((alK tb k).ac.mask : Int), .int .u32 ((alK tb k).auto : Int), .int .u32 ((alK tb k).time : Int), .int .u32 ((alK tb k).cycle : Int)] 99) ∧ (slT (ca (ctrN tb k))).ownBlock ≠ some wr.heap.size) := ⟨b.trans (hb1.mono b.size), (hb1.block _ (heap_lt hV)).trans hV, own_below oa hb1, hNm.below hb1, hv1, fun e => by have := (hlc.lt _ e).2; omega⟩
      have nc : (wr.alloc (.cells #[I (ctrN tb k), I (alK tb k).ac.kind, I (alK tb k).ac.task, .int .u32 ((alK tb k).ac.mask : Int), .int .u32 ((alK tb k).auto : Int), .int .u32 ((alK tb k).time : Int), .int .u32 ((alK tb k).cycle : Int)] 99)).cell? ⟨w.heap.size + 1, ctrN tb k, none⟩ = some (slT (ca (ctrN tb k))) := by
        rw [H2.out.2.2.2.1.n.cellAt _ (by omega)]
        exact slL_at hc
      obtain ⟨sa, sc, es⟩ := own_sl hlc
      have ep : (idxT tb (ctrN tb k) k).length = plN tb k := rfl
      have HES : Hid (slT (ca (ctrN tb k)) = .slice sa (plN tb k) sc) := es
      rw [es, ep] at nc
      have hpl : plN tb k ≤ 64 := hlc2
      have HKE : Hid (v.k.n = tb.ctrs.length ∧ v.a.n = tb.als.length) := ⟨ek, en⟩
      clear HJ b hV oa hNm ht hb1 hv1 hlc hxk es ep hlc2 en ek ok hka
      generalize v.a.a = vaa at *
      subst ea
      go_upto_region 7 with fail
      clear d0 d1 d2 d3 d4 d5 d6
      have hs2 : (wr.alloc (.cells #[I (ctrN tb k), I (alK tb k).ac.kind, I (alK tb k).ac.task, .int .u32 ((alK tb k).ac.mask : Int), .int .u32 ((alK tb k).auto : Int), .int .u32 ((alK tb k).time : Int), .int .u32 ((alK tb k).cycle : Int)] 99)).heap.size = wr.heap.size + 1 := by simp
      generalize wr.alloc (.cells #[I (ctrN tb k), I (alK tb k).ac.kind, I (alK tb k).ac.task, .int .u32 ((alK tb k).ac.mask : Int), .int .u32 ((alK tb k).auto : Int), .int .u32 ((alK tb k).time : Int), .int .u32 ((alK tb k).cycle : Int)] 99) = w2 at *
      generalize wr.heap.size = X1 at *
      have x0 : w2.cell? ⟨X1, 0, none⟩ = some (I (ctrN tb k)) := by rw [cell_of_row _ _ _ _ _ (0, 0) H2.out.2.2.2.2.1]; rfl
      have x0a := fun o => (World.cell?_of_block ((below_alloc w2 o).block X1 (heap_lt H2.out.2.2.2.2.1))).trans x0
      have nca := fun o => (World.cell?_of_block ((below_alloc w2 o).block _ (World.block_lt_of_cell? w2 _ nc))).trans nc
      have hL2 : w.heap.size ≤ w2.heap.size := H2.out.1.size
      have HO : Hid (w2.ownsRow w.heap.size 3 1 (.slice sa (plN tb k) sc) (plN tb k) (inL (idxT tb (ctrN tb k) k))) := by
        have := H2.out.2.2.2.1.r _ hc
        rwa [HES.out] at this
      have HSl : Hid (ca (ctrN tb k) = ⟨sa, plN tb k, sc⟩) := by
        have := HES.out
        show ca (ctrN tb k) = _
        generalize ca (ctrN tb k) = q at this
        obtain ⟨q1, q2, q3⟩ := q
        cases this
        rfl
      have HPut : Hid (∀ W W2 (v6 : Sl), Below w2.heap.size w2 W → W.grownBy W2 (Value.slice sa (plN tb k) sc).ownBlock → W2.ownsRow w.heap.size 3 1 (slT v6) (plN tb k + 1) (inL (idxT tb (ctrN tb k) k) ++ [I k]) → ((slT v6).ownBlock = (Value.slice sa (plN tb k) sc).ownBlock ∨ (slT v6).ownBlock = some W.heap.size) →
          ((∃ y, W2.cell? ⟨w.heap.size + 1, ctrN tb k, none⟩ = some y) ∧ W2.frozen? ⟨w.heap.size + 1, ctrN tb k, none⟩ = false ∧ W2.cell? ⟨X1, 0, none⟩ = some (I (ctrN tb k))) ∧ (∃ ca zq, Nm (W2.setCell ⟨w.heap.size + 1, ctrN tb k, none⟩ (slT v6)) w.heap.size v.k.n (.slice (some ⟨w.heap.size + 1, 0, none⟩) v.k.n v.k.n) ca zq (fun i => idxT tb i (k + 1))) ∧ Below w.heap.size w (W2.setCell ⟨w.heap.size + 1, ctrN tb k, none⟩ (slT v6)) ∧ (W2.setCell ⟨w.heap.size + 1, ctrN tb k, none⟩ (slT v6)).heap[w.heap.size]? = some (.cells (tbC tb v) 37) ∧ (W2.setCell ⟨w.heap.size + 1, ctrN tb k, none⟩ (slT v6)).ownsRow w.heap.size 136 5 (slT va) k (flat (alRw tb) k) ∧ (W2.setCell ⟨w.heap.size + 1, ctrN tb k, none⟩ (slT v6)).heap[X1]? = some (.cells #[I (ctrN tb k), I (alK tb k).ac.kind, I (alK tb k).ac.task, .int .u32 ((alK tb k).ac.mask : Int), .int .u32 ((alK tb k).auto : Int), .int .u32 ((alK tb k).time : Int), .int .u32 ((alK tb k).cycle : Int)] 99)) := by
        intro W W2 v6 hb hg ho hbl
        obtain ⟨b, hV, oa, hNm, hvr, hne⟩ := H2.out
        have hNm2 := hNm.below hb
        have ec := HSl.out
        have hE : slT (ca (ctrN tb k)) = .slice sa (plN tb k) sc := HES.out
        have hf : Fz (fun y => (Value.slice sa (plN tb k) sc).ownBlock = some y) W W2 := ⟨hg.os, hg.tape, hg.output, hg.size, fun b hb hne => hg.block b hb (fun e => hne e.symm)⟩
        have hrow := hNm2.r _ hc
        have hn2 := hf.own hNm2.n (fun g e e2 => own_apart hNm2.n hrow (by decide) e (by rw [hE]; exact e2))
        have hoa := hf.own (own_below oa hb) (fun g e e2 => own_apart (own_below oa hb) hrow (by decide) e (by rw [hE]; exact e2))
        have hP := Nm.put (x := k) (v6 := v6) hNm2 hc (by rw [hE]; exact hg) ho (by rw [hE]; exact hbl)
        have fs : Fz (fun b => b = w.heap.size + 1) W2 (W2.setCell ⟨w.heap.size + 1, ctrN tb k, none⟩ (slT v6)) := (Fz.refl (fun b => b = w.heap.size + 1) W2).set (.inl rfl) _ _
        have hblk : ∀ y, (Value.slice sa (plN tb k) sc).ownBlock = some y → w.heap.size ≤ y := fun y e => (hrow.lt y (by rw [hE]; exact e)).1
        have bW : Below w.heap.size w W2 := (b.trans (hb.mono b.size)).trans (hf.below (by have := b.size; have := hb.size; omega) hblk)
        have hVW : W.heap[w.heap.size]? = some (.cells (tbC tb v) 37) := (hb.block _ (heap_lt hV)).trans hV
        have hXW : W.heap[X1]? = some (.cells #[I (ctrN tb k), I (alK tb k).ac.kind, I (alK tb k).ac.task, .int .u32 ((alK tb k).ac.mask : Int), .int .u32 ((alK tb k).auto : Int), .int .u32 ((alK tb k).time : Int), .int .u32 ((alK tb k).cycle : Int)] 99) := (hb.block _ (heap_lt hvr)).trans hvr
        have n1 : ¬ (Value.slice sa (plN tb k) sc).ownBlock = some w.heap.size := fun e => by
          rcases hrow.2 with ⟨e0, -⟩ | ⟨gg, cap, cur, e0, -, hh, -⟩
          · rw [hE] at e0; rw [e0] at e; cases e
          · rw [hE] at e0; rw [e0] at e; have e1 : gg = w.heap.size := Option.some.inj e; rw [e1, hVW] at hh; cases hh
        have n2 : ¬ (Value.slice sa (plN tb k) sc).ownBlock = some X1 := fun e => by
          rcases hrow.2 with ⟨e0, -⟩ | ⟨gg, cap, cur, e0, -, hh, -⟩
          · rw [hE] at e0; rw [e0] at e; cases e
          · rw [hE] at e0; rw [e0] at e; have e1 : gg = X1 := Option.some.inj e; rw [e1, hXW] at hh; cases hh
        have n3 : X1 ≠ w.heap.size + 1 := fun e => by
          rcases hNm2.n.2 with ⟨e0, -⟩ | ⟨gg, cap, cur, e0, -, hh, -⟩
          · cases e0
          · cases e0; rw [e] at hXW; rw [hXW] at hh; cases hh
        refine ⟨⟨getE (j := ctrN tb k) (by simp [slL]; exact hc) (hn2.cellAt _ (by omega)), hn2.frozenAt _, by rw [cell_of_row _ _ _ _ _ (0, 0) (hf.heap hXW n2)]; rfl⟩, ⟨_, _, hP.congr (fun i hi => ?_)⟩, below_set bW (by omega), fs.heap (hf.heap hVW n1) (by omega), fs.own hoa (fun g e e2 => own_apart hoa hn2 (by decide) e (by rw [e2]; rfl)), fs.heap (hf.heap hXW n2) n3⟩
        show upN (fun i => idxT tb i k) (ctrN tb k) (idxT tb (ctrN tb k) k ++ [k]) i = idxT tb i (k + 1)
        rw [idxT_succ]
        unfold upN
        by_cases e : i = ctrN tb k
        · rw [if_pos e, if_pos e.symm, e]
        · rw [if_neg e, if_neg (fun h => e h.symm), List.append_nil]
      clear HES HSl
      go_region_law (first
        | (refine step_append_X rfl (.tmp 34) (.tmp 36) 40 rfl w.heap.size 3 ii (.int .i64 0) 1 8 Tryz.underlying40 hii hi0 hi1 hi2 rfl (by decide) (.slice sa (plN tb k) sc) (plN tb k) (inL (idxT tb (ctrN tb k) k)) (by simp [Act.eval, Act.put]) (by first | exact own_below HO.out (below_alloc _ _) | exact own_below HO.out ((Below.refl _ _).drew.alloc (Nat.le_refl _) _) | exact own_below HO.out ((below_alloc _ _).drew)) ⟨w2.heap.size, 0, none⟩ 1 1 [I k] (by simp [Act.eval, Act.put]) rfl (by first | exact cell_one_new _ _ _ | exact fun j u hu => cell_one_new w2 _ _ j u hu) (by simp [Value.oneCell']) (by unfold maxLen; omega) (by omega) (by simp; omega) ?_; intro v6 w6 h6 hg6 hb6; obtain ⟨a6, k6, rfl⟩ := own_sl h6; obtain ⟨⟨⟨y6, q6⟩, f6, x6⟩, hnm6, bb6, hV6, oa6, hx6⟩ := HPut.out _ w6 ⟨a6, plN tb k + 1, k6⟩ (by first | exact below_alloc _ _ | exact (Below.refl _ _).drew.alloc (Nat.le_refl _) _ | exact (below_alloc _ _).drew) hg6 h6 hb6; have H6 : Hid ((∃ ca zq, Nm (w6.setCell ⟨w.heap.size + 1, ctrN tb k, none⟩ (.slice a6 (plN tb k + 1) k6)) w.heap.size v.k.n (.slice (some ⟨w.heap.size + 1, 0, none⟩) v.k.n v.k.n) ca zq (fun i => idxT tb i (k + 1))) ∧ Below w.heap.size w (w6.setCell ⟨w.heap.size + 1, ctrN tb k, none⟩ (.slice a6 (plN tb k + 1) k6)) ∧ (w6.setCell ⟨w.heap.size + 1, ctrN tb k, none⟩ (.slice a6 (plN tb k + 1) k6)).heap[w.heap.size]? = some (.cells (tbC tb v) 37) ∧ (w6.setCell ⟨w.heap.size + 1, ctrN tb k, none⟩ (.slice a6 (plN tb k + 1) k6)).ownsRow w.heap.size 136 5 (slT va) k (flat (alRw tb) k) ∧ (w6.setCell ⟨w.heap.size + 1, ctrN tb k, none⟩ (.slice a6 (plN tb k + 1) k6)).heap[X1]? = some (.cells #[I (ctrN tb k), I (alK tb k).ac.kind, I (alK tb k).ac.task, .int .u32 ((alK tb k).ac.mask : Int), .int .u32 ((alK tb k).auto : Int), .int .u32 ((alK tb k).time : Int), .int .u32 ((alK tb k).cycle : Int)] 99)) := ⟨hnm6, bb6, hV6, oa6, hx6⟩; clear h6 hg6 hb6 hnm6 bb6 hV6 oa6 hx6))
      all_goals
        clear x0 x0a nca HPut H2 HO nc q6 f6 x6
        go_upto_region 8 with fail
        generalize w6.setCell ⟨w.heap.size + 1, ctrN tb k, none⟩ (.slice a6 (plN tb k + 1) k6) = w7 at *
        obtain ⟨hnm7, b7, hV7, oa7, hx7⟩ := H6.out
        have z0 : w7.cell? ⟨X1, 0, none⟩ = some (I (ctrN tb k)) := by rw [cell_of_row _ _ _ _ _ (0, 0) hx7]; rfl
        have z4 : w7.cell? ⟨X1, 4, none⟩ = some (.int .u32 ((alK tb k).auto : Int)) := by rw [cell_of_row _ _ _ _ _ (0, 0) hx7]; rfl
        have z5 : w7.cell? ⟨X1, 5, none⟩ = some (.int .u32 ((alK tb k).time : Int)) := by rw [cell_of_row _ _ _ _ _ (0, 0) hx7]; rfl
        have z6 : w7.cell? ⟨X1, 6, none⟩ = some (.int .u32 ((alK tb k).cycle : Int)) := by rw [cell_of_row _ _ _ _ _ (0, 0) hx7]; rfl
        have hO7 := oa7.alloc (.cells #[I (ctrN tb k), I (plN tb k), U (alK tb k).auto, U (alK tb k).time, U (alK tb k).cycle] 136)
        have hs7 : w.heap.size ≤ w7.heap.size := b7.size
        clear hnm7 b7 hV7 oa7 hx7
        go_wp2_with (first
          | (at_builtin; refine wpList_append_own _ rfl (.tmp 39) (.tmp 50) 56 rfl w.heap.size 136 ia _ 5 32 Tryz.underlying56 hia ha0 ha1 ha2 rfl (by decide) _ _ _ rfl hO7 ⟨w7.heap.size, 0, none⟩ 1 1 [I (ctrN tb k), I (plN tb k), U (alK tb k).auto, U (alK tb k).time, U (alK tb k).cycle] rfl rfl (row_new _ _ _) (by simp [Value.oneCell']) (by unfold maxLen; omega) (by omega) (by simp; omega) ?_))
        intro v8 w8 ho8 hg8 _
        obtain ⟨a8, k8, rfl⟩ := own_sl ho8
        obtain ⟨hnm7, b7, hV7, oa7, hx7⟩ := H6.out
        have ba := below_alloc w7 (.cells #[I (ctrN tb k), I (plN tb k), U (alK tb k).auto, U (alK tb k).time, U (alK tb k).cycle] 136)
        have f8 : Fz (fun x => (slT va).ownBlock = some x) (w7.alloc (.cells #[I (ctrN tb k), I (plN tb k), U (alK tb k).auto, U (alK tb k).time, U (alK tb k).cycle] 136)) w8 := ⟨hg8.os, hg8.tape, hg8.output, hg8.size, fun i hi hne => hg8.block i hi (fun e => hne e.symm)⟩
        have H8 : Hid (Below w.heap.size w w8 ∧ w8.heap[w.heap.size]? = some (.cells (tbC tb v) 37) ∧ (∃ va, Value.slice a8 (k + 1) k8 = slT va ∧ w8.ownsRow w.heap.size 136 5 (slT va) (k + 1) (flat (alRw tb) (k + 1))) ∧ ∃ ca zq, Nm w8 w.heap.size v.k.n (.slice (some ⟨w.heap.size + 1, 0, none⟩) v.k.n v.k.n) ca zq (fun i => idxT tb i (k + 1))) := by
          obtain ⟨ca7, zq7, hnm⟩ := hnm7
          refine ⟨(b7.trans (ba.mono b7.size)).trans (f8.below (by have := b7.size; have := ba.size; omega) (fun x e => (oa7.lt x e).1)), f8.heap ((ba.block _ (heap_lt hV7)).trans hV7) (fun e => ?_), ⟨⟨a8, k + 1, k8⟩, rfl, ?_⟩, ca7, zq7, (hnm.below ba).grown hO7 (by decide) (by decide) hg8⟩
          · rcases oa7.2 with ⟨e0, -⟩ | ⟨gg, cap, cur, e0, -, hh, -⟩
            · rw [e0] at e; cases e
            · rw [e0] at e; have e1 : gg = w.heap.size := Option.some.inj e; rw [e1, hV7] at hh; cases hh
          · rw [flat_succ]
            exact ho8
        clear ho8 hg8 f8 ba hnm7 b7 hV7 oa7 hx7 hO7 H6
        go_wp2
        go_roundw
        case rel => exact ⟨k + 1, by omega, by go_num, H8.out⟩
        case measure => simp [intOf]; omega
    · obtain rfl : k = v.a.n := by omega
      have hge : ¬ ((v.a.n : Int) < v.a.n) := by omega
      obtain ⟨b, hV, ⟨va, rfl, oa⟩, ca, zq, hNm⟩ := HJ.out
      obtain ⟨ht, ok, en, ek⟩ := HT.out
      have HE : Hid (wr.ownsRow w.heap.size 136 5 (slT va) tb.als.length (flat (alRw tb) tb.als.length) ∧ (∃ ca zq, Nm wr w.heap.size tb.ctrs.length (slT ⟨some ⟨w.heap.size + 1, 0, none⟩, v.k.n, v.k.n⟩) ca zq (idxA tb)) ∧ Below w.heap.size w wr) := ⟨by rw [← en]; exact oa, ⟨ca, zq, by rw [← ek]; exact hNm.congr (fun i hi => by show idxT tb i v.a.n = idxA tb i; rw [en]; rfl)⟩, b⟩
      clear HJ b hV oa hNm ht ok en ek HT
      go_wp2
      go_ret2
      exact ⟨va, ⟨some ⟨w.heap.size + 1, 0, none⟩, v.k.n, v.k.n⟩, rfl, HE.out.1, HE.out.2.1, HE.out.2.2⟩
end
end Go.Proofs.YthhckhifaolmkaaGreat

