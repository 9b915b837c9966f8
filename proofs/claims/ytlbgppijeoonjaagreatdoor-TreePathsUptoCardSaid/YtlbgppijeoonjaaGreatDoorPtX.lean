import Derived.Test.YtlbgppijeoonjaaGreatDoorSsX
import Derived.Test.YtlbgppijeoonjaaGreatDoorAnX
import Derived.Test.YtlbgppijeoonjaaGreatDoorFda
namespace Go.Proofs.YtlbgppijeoonjaaGreatDoor
open Go.RowKit
set_option linter.unusedVariables false

/-! ### The paths of attributes: lists; and rows of rows of ints in memory -/
mutual
def pathA (ahead : List Int) (i : Nat) : At → List (List Int)
  | .mk _ _ _ _ _ _ ps _ _ => (ahead ++ [(i : Int)]) :: pathsL (ahead ++ [(i : Int)]) 0 ps
def pathsL (ahead : List Int) : Nat → List At → List (List Int)
  | _, [] => []
  | i, a :: l => pathA ahead i a ++ pathsL ahead (i + 1) l
end
theorem pathsL_app (ahead : List Int) (a b : List At) : ∀ i, pathsL ahead i (a ++ b) = pathsL ahead i a ++ pathsL ahead (i + a.length) b := by
  induction a with
  | nil => intro i; rw [List.nil_append, pathsL]; simp
  | cons x a ih => intro i; rw [List.cons_append, pathsL, pathsL, ih (i + 1), List.append_assoc, List.length_cons, show i + 1 + a.length = i + (a.length + 1) by omega]
theorem pathsL_take (ahead : List Int) (l : List At) (j : Nat) (a : At) (h : l[j]? = some a) : pathsL ahead 0 (l.take (j + 1)) = pathsL ahead 0 (l.take j) ++ pathA ahead j a := by
  have hj : j < l.length := (List.getElem?_eq_some_iff.1 h).1
  rw [List.take_add_one, h, pathsL_app]
  show _ ++ pathsL ahead (0 + (l.take j).length) [a] = _
  rw [pathsL, pathsL, List.append_nil, List.length_take, Nat.min_eq_left (by omega), Nat.zero_add]
theorem pathsL_le (ahead : List Int) (l : List At) (j : Nat) : (pathsL ahead 0 (l.take j)).length ≤ (pathsL ahead 0 l).length := by
  conv => rhs; rw [← List.take_append_drop j l, pathsL_app, List.length_append]
  omega
/-- A path in a row of paths: it lies apart from the row. -/
def PV (w : World) (base : Nat) (v u : Value) (p : List Int) : Prop := ∃ g cap, u = .slice (some ⟨g, 0, none⟩) p.length cap ∧ p.length ≤ cap ∧ cap ≤ maxLen ∧ base ≤ g ∧ g < w.heap.size ∧ v.ownBlock ≠ some g ∧ ∀ k i, p[k]? = some i → w.cell? ⟨g, k, none⟩ = some (.int .i64 i)
theorem PV.below {w w' : World} {base : Nat} {v u : Value} {p : List Int} (h : PV w base v u p) (hb : Below w.heap.size w w') : PV w' base v u p := by
  obtain ⟨g, cap, e, h1, h2, h3, h4, h5, h6⟩ := h
  exact ⟨g, cap, e, h1, h2, h3, Nat.lt_of_lt_of_le h4 hb.size, h5, fun k i hk => by rw [cell_below hb _ _ h4]; exact h6 k i hk⟩
theorem PV.grow {w w' : World} {base : Nat} {v v' u : Value} {p : List Int} (h : PV w base v u p) (hg : w.grownBy w' v.ownBlock) (hat : v'.ownBlock = v.ownBlock ∨ v'.ownBlock = some w.heap.size) : PV w' base v' u p := by
  obtain ⟨g, cap, e, h1, h2, h3, h4, h5, h6⟩ := h
  refine ⟨g, cap, e, h1, h2, h3, Nat.lt_of_lt_of_le h4 hg.size, ?_, fun k i hk => ?_⟩
  · rcases hat with e1 | e1
    · rw [e1]; exact h5
    · rw [e1]; intro e2; cases e2; omega
  · rw [World.cell?_of_block (hg.block g h4 h5.symm)]
    exact h6 k i hk
structure SP (w W : World) (v : Value) (ps : List (List Int)) : Prop where
  below : Below w.heap.size w W
  row : ∃ us : List Value, W.ownsRow w.heap.size 25 1 v ps.length us ∧ ∀ (j : Nat) (u : Value) (p : List Int), us[j]? = some u → ps[j]? = some p → PV W w.heap.size v u p
theorem SP.call {w W W' : World} {v : Value} {ps : List (List Int)} (h : SP w W v ps) (hb : Below W.heap.size W W') : SP w W' v ps := by
  obtain ⟨us, h1, h2⟩ := h.row
  exact ⟨h.below.trans (hb.mono h.below.size), us, own_below h1 hb, fun j u p hu hp => (h2 j u p hu hp).below hb⟩
theorem infoP : ∃ i, Tryz.prog.info? 25 = some i ∧ i.zero = some (.slice none 0 0) ∧ i.size = 1 ∧ i.bytes = 24 :=
  info_parts (show (Tryz.prog.info? 25).map (fun i => (i.zero, i.size, i.bytes)) = some (some (.slice none 0 0), 1, 24) by kernel_rfl)
/-- append of paths that lie in memory, to a row of paths. -/
theorem wpList_app_ps {w W : World} {v : Value} {ps qs : List (List Int)} {ops : Array Oper} {rest : List Oper} {o : Oper} {a : Act} {Q : Exit → Act → World → Prop} (hgd : o.guard = none) (s x : Operand)
    (ho : o.op = .call { callee := .builtin .append, args := #[s, x], argTypes := #[44, 44] }) (h : SP w W v ps) (hs : a.eval s = v) (g c : Nat) (us : List Value) (hl : us.length = qs.length)
    (hx : a.eval x = .slice (some ⟨g, 0, none⟩) qs.length c) (hc : ∀ j u, us[j]? = some u → W.cell? ((⟨g, 0, none⟩ : Addr).add j) = some u) (hq : ∀ (j : Nat) (u : Value) (p : List Int), us[j]? = some u → qs[j]? = some p → PV W w.heap.size v u p) (hlen : ps.length + qs.length ≤ 2199023255552)
    (k : ∀ v' W', SP w W' v' (ps ++ qs) → (∀ u p, PV W w.heap.size v u p → PV W' w.heap.size v' u p) → wpList Tryz.prog ops Q rest (a.put o.dst v') W') : wpList Tryz.prog ops Q (o :: rest) a W := by
  obtain ⟨i0, hi, hz0, hz1, hz2⟩ := infoP
  obtain ⟨us0, h1, h2⟩ := h.row
  have h1c : ∀ u ∈ us, u.oneCell' = true := fun u hu => by
    obtain ⟨j, hj⟩ := List.mem_iff_getElem?.1 hu
    have hjl : j < qs.length := by rw [← hl]; exact (List.getElem?_eq_some_iff.1 hj).1
    obtain ⟨g1, c1, rfl, _⟩ := hq j u qs[j] hj (List.getElem?_eq_getElem hjl)
    rfl
  refine wpList_append_own_at _ hgd s x 44 ho w.heap.size 25 i0 _ 1 24 Tryz.underlying44 hi hz0 hz1 hz2 rfl (by decide) v ps.length us0 hs h1 ⟨g, 0, none⟩ qs.length c us hx (by omega) hc h1c (by unfold maxLen; omega) (by omega) h.below.size ?_
  intro v' W' ho' hg' _ hat'
  refine k v' W' ⟨h.below.grown hg' h.below.size (fun k e => (h1.lt k e).1), us0 ++ us, by rw [List.length_append]; exact ho', fun j u p hu hp => ?_⟩ (fun u p hp => hp.grow hg' hat')
  have hl0 : us0.length = ps.length := by have := h1.1; omega
  by_cases hj : j < ps.length
  · rw [List.getElem?_append_left (by omega)] at hu hp
    exact (h2 j u p hu hp).grow hg' hat'
  · rw [List.getElem?_append_right (by omega)] at hu hp
    rw [hl0] at hu
    exact (hq _ u p hu hp).grow hg' hat'
end Go.Proofs.YtlbgppijeoonjaaGreatDoor

namespace Go.Proofs.YtlbgppijeoonjaaGreatDoor
open Go.RowKit
set_option linter.unusedVariables false

/-! ### The document's below -/
theorem own_ints {w : World} {base n : Nat} {v : Value} {p : List Int} (h : w.ownsRow base 3 1 v n (p.map fun i => Value.int .i64 i)) (hp : p ≠ []) :
    ∃ g cap, v = .slice (some ⟨g, 0, none⟩) n cap ∧ n = p.length ∧ p.length ≤ cap ∧ cap ≤ maxLen ∧ base ≤ g ∧ g < w.heap.size ∧ ∀ k i, p[k]? = some i → w.cell? ⟨g, k, none⟩ = some (.int .i64 i) := by
  obtain ⟨hl, ⟨rfl, h0⟩ | ⟨g, cap, cur, rfl, hb, hh, h1, h2, h3, h4⟩⟩ := h
  · rw [List.length_map, h0] at hl
    exact absurd (List.eq_nil_of_length_eq_zero (by omega)) hp
  · rw [List.length_map] at hl
    obtain rfl : p.length = n := by omega
    refine ⟨g, cap, rfl, rfl, h1, h2, hb, heap_lt hh, fun k i hk => ?_⟩
    have hx : (p.map fun i => Value.int .i64 i)[k]? = some (.int .i64 i) := by rw [List.getElem?_map, hk]; rfl
    have := cell_of_row w g k _ _ (0, 0) hh
    rw [this, ← Array.getElem?_toList]
    rw [← h4, List.getElem?_take] at hx
    split at hx
    · exact hx
    · cases hx
theorem wpList_app_sp {w w3 w4 : World} {v3 v4 : Value} {ps qs : List (List Int)} {ops : Array Oper} {rest : List Oper} {o : Oper} {a : Act} {Q : Exit → Act → World → Prop} (hgd : o.guard = none) (s x : Operand)
    (ho : o.op = .call { callee := .builtin .append, args := #[s, x], argTypes := #[44, 44] }) (h : SP w w3 v3 ps) (h4 : SP w3 w4 v4 qs) (hs : a.eval s = v3) (hx : a.eval x = v4) (hlen : ps.length + qs.length ≤ 2199023255552)
    (k : ∀ v' W', SP w W' v' (ps ++ qs) → wpList Tryz.prog ops Q rest (a.put o.dst v') W') : wpList Tryz.prog ops Q (o :: rest) a w4 := by
  have hS := h.call h4.below
  obtain ⟨us, h1, h2⟩ := h4.row
  obtain ⟨us0, h10, _⟩ := h.row
  have h1' := h1
  obtain ⟨hl, ⟨rfl, h0⟩ | ⟨g, cap, cur, rfl, hb, hh, h5, h6, h7, h8⟩⟩ := h1
  · obtain ⟨i0, hi, hz0, hz1, hz2⟩ := infoP
    obtain ⟨us1, h11, _⟩ := hS.row
    have hq : qs = [] := List.eq_nil_of_length_eq_zero h0
    subst hq
    refine wpList_append_own_none hgd s x 44 ho w.heap.size 25 i0 1 Tryz.underlying44 hi v3 ps.length us1 hs h11 hx (k v3 w4 ?_)
    rw [List.append_nil]
    exact hS
  · refine wpList_app_ps hgd s x ho hS hs g cap us (by omega) hx (fun j u hj => ?_) (fun j u p hu hp => ?_) hlen (fun v' W' hS' _ => k v' W' hS')
    · rw [Lib.add_plain, Nat.zero_add]
      have := cell_of_row w4 g j _ _ (0, 0) hh
      rw [this, ← Array.getElem?_toList]
      rw [← h8, List.getElem?_take] at hj
      split at hj
      · exact hj
      · cases hj
    · obtain ⟨g1, c1, e, a1, a2, a3, a4, a5, a6⟩ := h2 j u p hu hp
      refine ⟨g1, c1, e, a1, a2, Nat.le_trans h.below.size a3, a4, fun e2 => ?_, a6⟩
      have := (h10.lt g1 e2).2
      omega
def CBel (ahead : List Int) (l : List At) : Prop := ∀ (w : World) (F : Nat → Prop) (pv : Value) (ga oa ca : Nat), AttrsAt w F pv l → ga < w.heap.size → (∀ k i, ahead[k]? = some i → w.cell? ⟨ga, oa + k, none⟩ = some (.int .i64 i)) →
  Calls Tryz.prog 32 #[.slice (some ⟨ga, oa, none⟩) ahead.length ca, pv] w fun e w' => ∃ v, e = .returned v ∧ SP w w' v (pathsL ahead 0 l)
set_option maxHeartbeats 8000000 in
set_option maxRecDepth 100000 in
theorem below_row (ahead : List Int) (w : World) (F : Nat → Prop) (ga oa ca g off cap : Nat) (ps : List (At × Value)) (hga : ga < w.heap.size) (hca : ∀ k i, ahead[k]? = some i → w.cell? ⟨ga, oa + k, none⟩ = some (.int .i64 i))
    (hg : g < w.heap.size) (hc : ∀ j u, (rowsA ps)[j]? = some u → w.cell? ⟨g, off + j, none⟩ = some u) (N : Nat) (hl : ps.length = N) (m : Nat) (hm : ahead.length = m)
    (hA : ∀ p, p ∈ ps → AttrsAt w F p.2 p.1.params) (hI : ∀ (j : Nat) (p : At × Value), ps[j]? = some p → CBel (ahead ++ [(j : Int)]) p.1.params) (hb1 : m + (pathsL ahead 0 (ps.map Prod.fst)).length ≤ 1099511627776) (hN : N ≤ 1099511627776) :
    Calls Tryz.prog 32 #[.slice (some ⟨ga, oa, none⟩) m ca, .slice (some ⟨g, off, none⟩) N cap] w fun e w' => ∃ v, e = .returned v ∧ SP w w' v (pathsL ahead 0 (ps.map Prod.fst)) := by
  have HX : Hid (ps.length = N) := hl
  have HMM : Hid (ahead.length = m) := hm
  have hN2 : (N : Int) ≤ 9223372036854775807 := by omega
  obtain ⟨ii, hi0, hz0, hz1, hz2⟩ := info_parts Tryz.infoInt
  have hone : ∀ u ∈ (ahead.map fun i => Value.int .i64 i), u.oneCell' = true := fun u hu => by obtain ⟨i, _, rfl⟩ := List.mem_map.1 hu; rfl
  have HNL : Hid ((ahead.map fun i => Value.int .i64 i).length = m * 1) := by show _ = _; simp [hm]
  clear hl hm
  go_enter Tryz.func32, Tryz.ntmps32
  go_wp2
  go_loopw [6, 5] (fun i v wr => ∃ j : Nat, j ≤ N ∧ i = .int .i64 j ∧ SP w wr v (pathsL ahead 0 ((ps.map Prod.fst).take j))) (fun i _ _ => N - (intOf i).toNat)
  case atStart => exact ⟨0, by omega, rfl, ⟨Below.refl _ _, [], ⟨by rfl, .inl ⟨rfl, rfl⟩⟩, (fun j u p h => by simp at h)⟩⟩
  case round =>
    obtain ⟨j, hj, rfl, hSt⟩ := hrel
    by_cases hlt : j < N
    · have hlt' : (j : Int) < N := by omega
      have hj0 : (0 : Int) ≤ j := by omega
      obtain ⟨p, hp⟩ : ∃ x, ps[j]? = some x := ⟨ps[j]'(by rw [HX.out]; exact hlt), List.getElem?_eq_getElem _⟩
      have hAp := hA p (List.mem_of_getElem? hp)
      have hIp := hI j p hp
      have h9 : (rowsA ps)[j * 12 + 9]? = some p.2 := (rowsA_at ps j p hp 9 (by omega)).trans (by obtain ⟨⟨nm, o, l, c, v, br, prm, nd, nt⟩, pv⟩ := p; rfl)
      have hpar := hc _ _ h9
      have hnext := pathsL_take ahead (ps.map Prod.fst) j p.1 (by rw [List.getElem?_map, hp]; rfl)
      have hle := pathsL_le ahead (ps.map Prod.fst) (j + 1)
      rw [hnext, List.length_append] at hle
      have HNX : Hid (pathsL ahead 0 ((ps.map Prod.fst).take (j + 1)) = pathsL ahead 0 ((ps.map Prod.fst).take j) ++ pathA ahead j p.1) := hnext
      clear hnext h9 hc hA hI
      generalize pathsL ahead 0 ((ps.map Prod.fst).take j) = xs at *
      obtain ⟨⟨name, ao, al, ac, vl, br, prm, nd, nt⟩, pv⟩ := p
      obtain ⟨pa, pn, pc, rfl⟩ := attrsAt_shape hAp
      dsimp only at hIp hAp HNX hle hpar
      have hpl : xs.length + 1 + (pathsL (ahead ++ [(j : Int)]) 0 prm).length ≤ 1099511627776 := by rw [pathA] at hle; simp at hle; omega
      have hbel := hSt.below
      have hclW : ∀ ad, some (⟨ga, oa, none⟩ : Addr) = some ad → ∀ k u, (ahead.map fun i => Value.int .i64 i)[k]? = some u → wr.cell? (ad.add k) = some u := fun ad had k u hk => by
        cases had
        rw [List.getElem?_map] at hk
        cases e : ahead[k]? with
        | none => rw [e] at hk; cases hk
        | some i =>
          rw [e] at hk
          cases hk
          rw [Lib.add_plain, cell_below hbel _ _ hga]
          exact hca k i e
      obtain ⟨us0, hown0, _⟩ := hSt.row
      have hm4 : m ≤ 1099511627776 := by omega
      have hlj : (ahead ++ [(j : Int)]).length = m + 1 := by rw [List.length_append, HMM.out]; rfl
      have HLJ : Hid ((ahead ++ [(j : Int)]).length = m + 1) := hlj
      have hcI : ∀ (W : World) (gq cq : Nat), Below w.heap.size w W → gq < W.heap.size → (∀ k i, (ahead ++ [(j : Int)])[k]? = some i → W.cell? ⟨gq, k, none⟩ = some (.int .i64 i)) → Calls Tryz.prog 32 #[.slice (some ⟨gq, 0, none⟩) (m + 1) cq, .slice pa pn pc] W fun e w' => ∃ v, e = .returned v ∧ SP W w' v (pathsL (ahead ++ [(j : Int)]) 0 prm) := fun W gq cq hW hq hqc => by
        have := hIp W F (.slice pa pn pc) gq 0 cq (attrsAt_below hW hAp) hq (fun k i hk => by rw [Nat.zero_add]; exact hqc k i hk)
        rwa [hlj] at this
      clear hlj hIp hAp hca hle
      go_wp2_with (at_builtin; refine wpList_append_in rfl _ _ 25 rfl wr.heap.size 3 ii (.int .i64 0) 1 8 Tryz.underlying25 hi0 hz0 hz1 hz2 rfl (by decide) (.slice none 0 0) 0 [] rfl ⟨rfl, .inl ⟨rfl, rfl⟩⟩ (some ⟨ga, oa, none⟩) m ca (ahead.map fun i => Value.int .i64 i) rfl (fun h => by cases h) HNL.out hclW hone (by unfold maxLen; omega) (by omega) (Nat.le_refl _) ?_)
      intro p1 w1 ho1' hg1
      have hB1 : Below wr.heap.size wr w1 := (Below.refl _ _).grown hg1 (Nat.le_refl _) (fun k e => by simp [Value.ownBlock] at e)
      have ho1 : w1.ownsRow wr.heap.size 3 1 p1 m (ahead.map fun i => Value.int .i64 i) := ho1'
      clear ho1' hg1 hclW
      have hs1 := hB1.size
      go_wp2_with (at_builtin; refine wpList_append_own_at _ rfl _ _ 25 rfl wr.heap.size 3 ii (.int .i64 0) 1 8 Tryz.underlying25 hi0 hz0 hz1 hz2 rfl (by decide) p1 m (ahead.map fun i => Value.int .i64 i) rfl (ho1.alloc _) ⟨w1.heap.size, 0, none⟩ 1 1 [.int .i64 (j : Int)] rfl rfl (cell_new7 w1 #[.int .i64 (j : Int)] _) (by intro u hu; simp at hu; subst hu; rfl) (by unfold maxLen; omega) (by omega) (by simp; omega) ?_)
      intro p2 w2 ho2 hg2 _ _
      have hB2 : Below wr.heap.size wr w2 := (hB1.alloc hs1 _).grown hg2 (by simp; omega) (fun k e => (ho1.lt k e).1)
      have ho2' : w2.ownsRow wr.heap.size 3 1 p2 (m + 1) ((ahead ++ [(j : Int)]).map fun i => Value.int .i64 i) := by rw [List.map_append]; exact ho2
      obtain ⟨g2, c2, rfl, e0, e1, e2, e3, e4, e5⟩ := own_ints ho2' (by simp)
      clear ho2 ho2' hg2 ho1 hB1 hs1
      have hal := hB2.alloc hB2.size (.cells #[.slice (some ⟨g2, 0, none⟩) (m + 1) c2] 25)
      have hal2 := (Below.refl w2.heap.size w2).alloc (Nat.le_refl _) (.cells #[.slice (some ⟨g2, 0, none⟩) (m + 1) c2] 25)
      have hS2 := hSt.call hal
      have hPV2 : PV (w2.alloc (.cells #[.slice (some ⟨g2, 0, none⟩) (m + 1) c2] 25)) w.heap.size _ (.slice (some ⟨g2, 0, none⟩) (m + 1) c2) (ahead ++ [(j : Int)]) :=
        ⟨g2, c2, by rw [HLJ.out], e1, e2, Nat.le_trans hbel.size e3, Nat.lt_of_lt_of_le e4 hal2.size, (fun e => by have := (hown0.lt _ e).2; omega), fun k i hk => by rw [cell_below hal2 _ _ e4]; exact e5 k i hk⟩
      clear e0 e1 e2 e3 e4 e5 hal hal2 hB2 hown0 hSt hbel
      go_wp2_with (at_builtin; refine wpList_app_ps (qs := [ahead ++ [(j : Int)]]) rfl _ _ rfl hS2 rfl w2.heap.size 1 [.slice (some ⟨g2, 0, none⟩) (m + 1) c2] rfl rfl (cell_new7 w2 #[.slice (some ⟨g2, 0, none⟩) (m + 1) c2] _) (fun k u q hu hq => by match k, hu, hq with | 0, hu, hq => (cases hu; cases hq; exact hPV2)) (by simp; omega) ?_)
      intro v3 w3 hS3 hPV3
      obtain ⟨g3, c3, he, e1, e2, e3, e4, _, e5⟩ := hPV3 _ _ hPV2
      obtain ⟨i1, i2, i3⟩ := Value.slice.inj he
      cases i1
      subst i3
      clear he i2
      have hb3 := hS3.below
      have cI := hcI w3 g2 c2 hb3 e4 e5
      have x9 : w3.cell? ⟨g, off + j * 12 + 9, none⟩ = some (.slice pa pn pc) := by rw [cell_below hb3 _ _ hg, Nat.add_assoc]; exact hpar
      clear hS2 hPV2 hPV3 e1 e2 e3 e4 e5 hcI hpar
      go_wp2_with (first | (go_at_call 32; refine cI.mono ?_; rintro e w4 ⟨v4, rfl, hS4⟩) | (at_builtin; refine wpList_app_sp rfl _ _ rfl hS3 hS4 rfl rfl (by simp; omega) ?_))
      intro v5 w5 hS5
      go_wp2
      go_roundw
      case rel => exact ⟨j + 1, by omega, by go_num, by rw [HNX.out, pathA]; simpa using hS5⟩
      case measure => simp [intOf]; omega
    · have hlt' : ¬ (j : Int) < N := by omega
      obtain rfl : j = N := by omega
      go_wp2
      go_ret
      refine ⟨_, rfl, ?_⟩
      rwa [List.take_of_length_le (by rw [List.length_map, HX.out]; exact Nat.le_refl _)] at hSt
end Go.Proofs.YtlbgppijeoonjaaGreatDoor

namespace Go.Proofs.YtlbgppijeoonjaaGreatDoor
open Go.RowKit
set_option linter.unusedVariables false

set_option maxRecDepth 100000 in
theorem below_zero (va : Value) (a : Option Addr) (cap : Nat) (w : World) : Calls Tryz.prog 32 #[va, .slice a 0 cap] w fun e w' => ∃ v, e = .returned v ∧ SP w w' v [] := by
  go_enter Tryz.func32, Tryz.ntmps32
  go_wp2
  go_loopw [6, 5] (fun i v wr => i = .int .i64 0 ∧ v = .slice none 0 0 ∧ wr = w) (fun i _ _ => 0)
  case atStart => exact ⟨rfl, rfl, rfl⟩
  case round =>
    obtain ⟨rfl, rfl, rfl⟩ := hrel
    go_wp2
    go_ret
    exact ⟨_, rfl, ⟨Below.refl _ _, [], ⟨by rfl, .inl ⟨rfl, rfl⟩⟩, (fun j u p h => by simp at h)⟩⟩
theorem pathA_pos (ahead : List Int) (i : Nat) (a : At) : (pathA ahead i a).length = (pathsL (ahead ++ [(i : Int)]) 0 a.params).length + 1 := by
  obtain ⟨name, o, ln, c, v, br, ps, nd, nt⟩ := a
  rw [pathA, List.length_cons]
  rfl
theorem pathsL_len (ahead : List Int) (l : List At) : ∀ i, l.length ≤ (pathsL ahead i l).length := by
  induction l with
  | nil => intro i; simp
  | cons a l ih =>
    intro i
    have h1 := pathA_pos ahead i a
    have h2 := ih (i + 1)
    rw [pathsL, List.length_append, List.length_cons]
    omega
theorem pathsL_par (ahead : List Int) (l : List At) (j : Nat) (a : At) (h : l[j]? = some a) : (pathsL (ahead ++ [(j : Int)]) 0 a.params).length + 1 ≤ (pathsL ahead 0 l).length := by
  have h1 := pathsL_take ahead l j a h
  have h2 := pathsL_le ahead l (j + 1)
  rw [h1, List.length_append, pathA_pos] at h2
  omega
theorem below_all (n : Nat) : ∀ (ahead : List Int) (l : List At), (pathsL ahead 0 l).length ≤ n → ahead.length + (pathsL ahead 0 l).length ≤ 1099511627776 → CBel ahead l := by
  induction n with
  | zero =>
    intro ahead l hn hd w F pv ga oa ca hA hga hca
    cases hA with
    | nil => exact below_zero _ _ _ w
    | @row g off cap ps _ _ _ _ _ =>
      have := pathsL_len ahead (ps.map Prod.fst) 0
      have h0 : ps = [] := by
        apply List.eq_nil_of_length_eq_zero
        rw [List.length_map] at this
        omega
      subst h0
      exact below_zero _ _ _ w
  | succ n ih =>
    intro ahead l hn hd w F pv ga oa ca hA hga hca
    cases hA with
    | nil => exact below_zero _ _ _ w
    | @row g off cap ps hF hg hc hcap hP =>
      have hlen := pathsL_len ahead (ps.map Prod.fst) 0
      rw [List.length_map] at hlen
      refine below_row ahead w F ga oa ca g off cap ps hga hca hg hc ps.length rfl ahead.length rfl hP (fun j p hp => ?_) hd (by omega)
      have := pathsL_par ahead (ps.map Prod.fst) j p.1 (by rw [List.getElem?_map, hp]; rfl)
      exact ih (ahead ++ [(j : Int)]) p.1.params (by omega) (by simp; omega)
theorem below_c (ahead : List Int) (l : List At) (h : ahead.length + (pathsL ahead 0 l).length ≤ 1099511627776) : CBel ahead l := below_all _ ahead l (Nat.le_refl _) h
/-! ### samePath -/
set_option maxRecDepth 100000 in
theorem samePath_row (w : World) (ga oa ca gb ob cb : Nat) (p : List Int) (m : Nat) (hm : p.length = m) (hga : ga < w.heap.size) (hgb : gb < w.heap.size) (hm2 : m ≤ 1099511627776)
    (ha : ∀ k i, p[k]? = some i → w.cell? ⟨ga, oa + k, none⟩ = some (.int .i64 i)) (hb : ∀ k i, p[k]? = some i → w.cell? ⟨gb, ob + k, none⟩ = some (.int .i64 i)) :
    Calls Tryz.prog 17 #[.slice (some ⟨ga, oa, none⟩) m ca, .slice (some ⟨gb, ob, none⟩) m cb] w fun e w' => e = .returned (.bool true) ∧ Below w.heap.size w w' := by
  have HX : Hid (p.length = m) := hm
  have hN2 : (m : Int) ≤ 9223372036854775807 := by omega
  clear hm
  go_enter Tryz.func17, Tryz.ntmps17
  go_wp2
  go_loopw [5] (fun i wr => ∃ j : Nat, j ≤ m ∧ i = .int .i64 j ∧ Below w.heap.size w wr) (fun i _ => m - (intOf i).toNat)
  case atStart => exact ⟨0, by omega, rfl, Below.refl _ _⟩
  case round =>
    obtain ⟨j, hj, rfl, hbl⟩ := hrel
    by_cases hlt : j < m
    · have hlt' : (j : Int) < m := by omega
      have hj0 : (0 : Int) ≤ j := by omega
      obtain ⟨x, hx⟩ : ∃ x, p[j]? = some x := ⟨p[j]'(by rw [HX.out]; exact hlt), List.getElem?_eq_getElem _⟩
      have xa : wr.cell? ⟨ga, oa + j, none⟩ = some (.int .i64 x) := by rw [cell_below hbl _ _ hga]; exact ha j x hx
      have xb : wr.cell? ⟨gb, ob + j, none⟩ = some (.int .i64 x) := by rw [cell_below hbl _ _ hgb]; exact hb j x hx
      clear ha hb hx
      go_wp2
      go_region
      all_goals
        go_wp2
        go_roundw
        case rel => exact ⟨j + 1, by omega, by go_num, hbl.drew⟩
        case measure => simp [intOf]; omega
    · have hlt' : ¬ (j : Int) < m := by omega
      go_wp2
      go_ret
      exact ⟨rfl, hbl⟩
end Go.Proofs.YtlbgppijeoonjaaGreatDoor

namespace Go.Proofs.YtlbgppijeoonjaaGreatDoor
open Go.RowKit
set_option linter.unusedVariables false

/-! ### The document's Paths -/
def pathsO : Nat → List Ob → List (List Int)
  | _, [] => []
  | i, o :: l => pathsL [(i : Int)] 0 o.attrs ++ pathsO (i + 1) l
theorem pathsO_app (a b : List Ob) : ∀ i, pathsO i (a ++ b) = pathsO i a ++ pathsO (i + a.length) b := by
  induction a with
  | nil => intro i; rw [List.nil_append, pathsO]; simp
  | cons x a ih => intro i; rw [List.cons_append, pathsO, pathsO, ih (i + 1), List.append_assoc, List.length_cons, show i + 1 + a.length = i + (a.length + 1) by omega]
theorem pathsO_take (l : List Ob) (j : Nat) (a : Ob) (h : l[j]? = some a) : pathsO 0 (l.take (j + 1)) = pathsO 0 (l.take j) ++ pathsL [(j : Int)] 0 a.attrs := by
  have hj : j < l.length := (List.getElem?_eq_some_iff.1 h).1
  rw [List.take_add_one, h, pathsO_app]
  show _ ++ pathsO (0 + (l.take j).length) [a] = _
  rw [pathsO, pathsO, List.append_nil, List.length_take, Nat.min_eq_left (by omega), Nat.zero_add]
theorem pathsO_le (l : List Ob) (j : Nat) : (pathsO 0 (l.take j)).length ≤ (pathsO 0 l).length := by
  conv => rhs; rw [← List.take_append_drop j l, pathsO_app, List.length_append]
  omega
set_option maxHeartbeats 8000000 in
set_option maxRecDepth 100000 in
theorem rpaths_any (w : World) (F : Nat → Prop) (tv tc : List UInt8) (tnd : Bool) (tnt : List UInt8) (oa : Option Addr) (ocap N : Nat) (qs : List (Ob × Value)) (hl : qs.length = N)
    (hrow : ∀ j q, qs[j]? = some q → ∃ g off, oa = some ⟨g, off, none⟩ ∧ g < w.heap.size ∧ ∀ i u, i < 8 → (obC q.1 q.2)[i]? = some u → w.cell? ⟨g, off + j * 8 + i, none⟩ = some u)
    (hA : ∀ q, q ∈ qs → AttrsAt w F q.2 q.1.attrs) (hN : N ≤ 1099511627776) (hb1 : (pathsO 0 (qs.map Prod.fst)).length + 20 ≤ 1099511627776) :
    Calls Tryz.prog 15 #[.agg #[.string ⟨tv.toArray⟩, .string ⟨tc.toArray⟩, .slice oa N ocap, .bool tnd, .string ⟨tnt.toArray⟩]] w fun e w' => ∃ v, e = .returned v ∧ SP w w' v (pathsO 0 (qs.map Prod.fst)) := by
  have HX : Hid (qs.length = N) := hl
  have hN2 : (N : Int) ≤ 9223372036854775807 := by omega
  clear hl
  go_enter Tryz.func15, Tryz.ntmps15
  go_wp2
  have hV0 := heap_alloc_new w (.cells #[.string ⟨tv.toArray⟩, .string ⟨tc.toArray⟩, .slice oa N ocap, .bool tnd, .string ⟨tnt.toArray⟩] 24)
  have hB0 := (Below.refl w.heap.size w).alloc (Nat.le_refl _) (.cells #[.string ⟨tv.toArray⟩, .string ⟨tc.toArray⟩, .slice oa N ocap, .bool tnd, .string ⟨tnt.toArray⟩] 24)
  generalize w.alloc (.cells #[.string ⟨tv.toArray⟩, .string ⟨tc.toArray⟩, .slice oa N ocap, .bool tnd, .string ⟨tnt.toArray⟩] 24) = W0 at *
  go_loopw [4, 3] (fun i v wr => ∃ j : Nat, j ≤ N ∧ i = .int .i64 j ∧ SP W0 wr v (pathsO 0 ((qs.map Prod.fst).take j))) (fun i _ _ => N - (intOf i).toNat)
  case atStart => exact ⟨0, by omega, rfl, ⟨Below.refl _ _, [], ⟨by rfl, .inl ⟨rfl, rfl⟩⟩, (fun j u p h => by simp at h)⟩⟩
  case round =>
    obtain ⟨j, hj, rfl, hSt⟩ := hrel
    have hVr := (hSt.below.block _ (heap_lt hV0)).trans hV0
    have hBr := hB0.trans (hSt.below.mono hB0.size)
    obtain ⟨⟨k0, k1, k2, k3, k4⟩, fk⟩ := var5 hVr
    by_cases hlt : j < N
    · have hlt' : (j : Int) < N := by omega
      have hj0 : (0 : Int) ≤ j := by omega
      obtain ⟨q, hq⟩ : ∃ x, qs[j]? = some x := ⟨qs[j]'(by rw [HX.out]; exact hlt), List.getElem?_eq_getElem _⟩
      have hAq := hA q (List.mem_of_getElem? hq)
      obtain ⟨g, off, rfl, hg, hc⟩ := hrow j q hq
      have hnext := pathsO_take (qs.map Prod.fst) j q.1 (by rw [List.getElem?_map, hq]; rfl)
      have hle := pathsO_le (qs.map Prod.fst) (j + 1)
      rw [hnext, List.length_append] at hle
      have HNX : Hid (pathsO 0 ((qs.map Prod.fst).take (j + 1)) = pathsO 0 ((qs.map Prod.fst).take j) ++ pathsL [(j : Int)] 0 q.1.attrs) := hnext
      clear hnext hrow hA hq
      generalize pathsO 0 ((qs.map Prod.fst).take j) = xs at *
      obtain ⟨⟨ok, on, oo, ol, oc, oat, ond, ont⟩, pv⟩ := q
      obtain ⟨pa, pn, pc, rfl⟩ := attrsAt_shape hAq
      dsimp only at hAq hle HNX hc
      have hal := (Below.refl wr.heap.size wr).alloc (Nat.le_refl _) (.cells #[.int .i64 (j : Int)] 3)
      have hBa := hBr.trans (hal.mono hBr.size)
      have k2' : (wr.alloc (.cells #[.int .i64 (j : Int)] 3)).cell? ⟨w.heap.size, 2, none⟩ = some (.slice (some ⟨g, off, none⟩) N ocap) := by rw [cell_below hal _ _ (heap_lt hVr)]; exact k2
      have x5 : (wr.alloc (.cells #[.int .i64 (j : Int)] 3)).cell? ⟨g, off + j * 8 + 5, none⟩ = some (.slice pa pn pc) := by rw [cell_below hBa _ _ hg]; exact hc 5 _ (by omega) rfl
      have cB : Calls Tryz.prog 32 #[.slice (some ⟨wr.heap.size, 0, none⟩) 1 1, .slice pa pn pc] (wr.alloc (.cells #[.int .i64 (j : Int)] 3)) fun e w' => ∃ v, e = .returned v ∧ SP (wr.alloc (.cells #[.int .i64 (j : Int)] 3)) w' v (pathsL [(j : Int)] 0 oat) :=
        below_c [(j : Int)] oat (by simp; omega) _ F _ wr.heap.size 0 1 (attrsAt_below hBa hAq) (by simp) (fun k i hk => by
          have := cell_new7 wr #[.int .i64 (j : Int)] 3 k (.int .i64 i) (by
            cases k with
            | zero => simp at hk ⊢; exact hk
            | succ k => simp at hk)
          rwa [Lib.add_plain] at this)
      have hS1 := hSt.call hal
      clear hc hAq hal hSt HX
      go_wp2_with (first | (go_at_call 32; refine cB.mono ?_; rintro e w4 ⟨v4, rfl, hS4⟩) | (at_builtin; refine wpList_app_sp rfl _ _ rfl hS1 hS4 rfl rfl (by omega) ?_))
      intro v5 w5 hS5
      go_wp2
      go_roundw
      case rel => exact ⟨j + 1, by omega, by go_num, by rw [HNX.out]; exact hS5⟩
      case measure => simp [intOf]; omega
    · have hlt' : ¬ (j : Int) < N := by omega
      obtain rfl : j = N := by omega
      go_wp2
      go_ret
      refine ⟨_, rfl, ?_⟩
      rw [List.take_of_length_le (by rw [List.length_map, HX.out]; exact Nat.le_refl _)] at hSt
      obtain ⟨us, h1, h2⟩ := hSt.row
      refine ⟨hBr, us, own_base h1 hB0.size, fun j u p hu hp => ?_⟩
      obtain ⟨g, c, e, a1, a2, a3, a4, a5, a6⟩ := h2 j u p hu hp
      exact ⟨g, c, e, a1, a2, Nat.le_trans hB0.size a3, a4, a5, a6⟩
end Go.Proofs.YtlbgppijeoonjaaGreatDoor

namespace Go.Proofs.YtlbgppijeoonjaaGreatDoor
open Go.RowKit
set_option linter.unusedVariables false

set_option maxHeartbeats 2000000 in
set_option maxRecDepth 100000 in
/-- slices.Clone of a row of ints that is not empty. -/
theorem cloneInts_row (w : World) (g off N cap : Nat) (p : List Int) (hl : p.length = N) (hN : N ≤ 1099511627776) (hg : g < w.heap.size) (hc : ∀ k i, p[k]? = some i → w.cell? ⟨g, off + k, none⟩ = some (.int .i64 i)) :
    Calls Tryz.prog 35 #[.slice (some ⟨g, off, none⟩) N cap] w fun e w' => ∃ v', e = .returned v' ∧ w'.ownsRow w.heap.size 3 1 v' N (p.map fun i => Value.int .i64 i) ∧ Below w.heap.size w w' := by
  have hq : ∀ (w : World) (a : Option Addr) (n c n' c' : Nat), (binOp .eql 25 (.slice a n c) (.slice none n' c')).run Tryz.prog w = .ok (.bool a.isNone) w := fun w a n c n' c' => Lib.run_eql_slice_nil w _ _ a n c n' c' Tryz.underlying25
  obtain ⟨i0, hi0, hz0, hz1, hz2⟩ := info_parts Tryz.infoInt
  have hown := World.ownsRow_lit (base := w.heap.size) (e := 3) (size := 1) w #[] 0 (Nat.le_refl _) (Nat.zero_le _) rfl
  have HNL : Hid ((p.map fun i => Value.int .i64 i).length = N * 1) := by show _ = _; simp [hl]
  have hcl : ∀ j u, (p.map fun i => Value.int .i64 i)[j]? = some u → (w.alloc (.cells #[] 3)).cell? ((⟨g, off, none⟩ : Addr).add j) = some u := fun j u hj => by
    rw [List.getElem?_map] at hj
    cases e : p[j]? with
    | none => rw [e] at hj; cases hj
    | some i =>
      rw [e] at hj
      cases hj
      rw [Lib.add_plain, cell_below ((Below.refl w.heap.size w).alloc (Nat.le_refl _) _) _ _ hg]
      exact hc j i e
  have ho : ∀ u ∈ (p.map fun i => Value.int .i64 i), u.oneCell' = true := fun u hu => by obtain ⟨i, _, rfl⟩ := List.mem_map.1 hu; rfl
  clear hl hc
  go_enter Tryz.func35, Tryz.ntmps35
  go_wp2_with (at_builtin; refine wpList_append_own_at _ rfl _ _ 25 rfl w.heap.size 3 i0 (.int .i64 0) 1 8 Tryz.underlying25 hi0 hz0 hz1 hz2 rfl (by decide) _ 0 _ rfl hown ⟨g, off, none⟩ N cap (p.map fun i => Value.int .i64 i) rfl HNL.out hcl ho (by unfold maxLen; omega) (by omega) (by simp) ?_)
  intro v6 w6 ho6 hg6 _ hat6
  obtain ⟨av6, cv6, rfl⟩ := own_shape1 ho6
  have hb6 : Below w.heap.size w w6 := ((Below.refl w.heap.size w).alloc (Nat.le_refl _) _).grown hg6 (by simp) (fun k e => by simp [Value.ownBlock] at e; omega)
  have ho7 : w6.ownsRow w.heap.size 3 1 (.slice av6 N cv6) N (p.map fun i => Value.int .i64 i) := by simpa using ho6
  clear ho6 hg6 hat6 hown hcl ho
  go_wp2
  go_ret
  exact ⟨_, rfl, ho7, hb6⟩
end Go.Proofs.YtlbgppijeoonjaaGreatDoor

