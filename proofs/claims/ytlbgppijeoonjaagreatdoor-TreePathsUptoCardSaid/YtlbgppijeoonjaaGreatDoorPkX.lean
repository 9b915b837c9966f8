import Derived.RangeFuncNested
import Derived.OrdersIn
import Derived.Test.YtlbgppijeoonjaaGreatDoorPgX
import Derived.Test.YtlbgppijeoonjaaGreatDoorPtX
import Derived.Test.YtlbgppijeoonjaaGreatDoorPrw
import Derived.Sort.CutIn
import Derived.Deep.Cut
namespace Go.Proofs.YtlbgppijeoonjaaGreatDoor
open Go.RowKit
set_option linter.unusedVariables false

/-! ### Regions that draw, within a fence: orders that come to one end -/
section
variable {F : Fence} {n : Nat} {P : Program} {md : Region.Mode} {ops : Array Oper} {Q : Exit → Act → World → Prop} {fuel : Nat} {L : Array Bool} {a : Act} {w : World}
theorem any_one {i : Nat} (hr : Region.ready md ops L = [i]) (h : wpOpIn F n P ops Q i (wpAnyIn F n P md ops Q fuel (L.setIfInBounds i true)) a w) : wpAnyIn F n P md ops Q (fuel + 1) L a w :=
  wpAnyIn_all hr (by simp) (fun k hk => by rw [List.mem_singleton.1 hk]; exact h)
theorem any_two {i j : Nat} (hr : Region.ready md ops L = [i, j]) (h1 : wpOpIn F n P ops Q i (wpAnyIn F n P md ops Q fuel (L.setIfInBounds i true)) a w) (h2 : wpOpIn F n P ops Q j (wpAnyIn F n P md ops Q fuel (L.setIfInBounds j true)) a w) : wpAnyIn F n P md ops Q (fuel + 1) L a w :=
  wpAnyIn_all hr (by simp) (fun k hk => by
    rcases List.mem_cons.1 hk with rfl | hk
    · exact h1
    · rw [List.mem_singleton.1 hk]; exact h2)
/-- Two loads. -/
theorem any_comm2 {i j : Nat} {Ai Aj Aij : Act} (hr : Region.ready md ops L = [i, j]) (hri : Region.ready md ops (L.setIfInBounds i true) = [j]) (hrj : Region.ready md ops (L.setIfInBounds j true) = [i])
    (hL : (L.setIfInBounds j true).setIfInBounds i true = (L.setIfInBounds i true).setIfInBounds j true)
    (hi : ∀ K : Act → World → Prop, K Ai w → wpOpIn F n P ops Q i K a w) (hj : ∀ K : Act → World → Prop, K Aj w → wpOpIn F n P ops Q j K a w)
    (hij : ∀ K : Act → World → Prop, K Aij w → wpOpIn F n P ops Q j K Ai w) (hji : ∀ K : Act → World → Prop, K Aij w → wpOpIn F n P ops Q i K Aj w)
    (h : wpAnyIn F n P md ops Q fuel ((L.setIfInBounds i true).setIfInBounds j true) Aij w) : wpAnyIn F n P md ops Q (fuel + 2) L a w := by
  refine any_two hr (hi _ ?_) (hj _ ?_)
  · exact any_one hri (hij _ h)
  · exact any_one hrj (hji _ (by rw [hL]; exact h))
/-- Two loads and a call that wants the second. -/
theorem any_012 {A0 A1 A01 : Act} {A12 A012 : Value → Act} (Post : Value → World → Prop)
    (hr : Region.ready md ops L = [0, 1]) (hr0 : Region.ready md ops (L.setIfInBounds 0 true) = [1]) (hr1 : Region.ready md ops (L.setIfInBounds 1 true) = [0, 2]) (hr01 : Region.ready md ops ((L.setIfInBounds 0 true).setIfInBounds 1 true) = [2])
    (hr12 : Region.ready md ops ((L.setIfInBounds 1 true).setIfInBounds 2 true) = [0]) (e1 : (L.setIfInBounds 1 true).setIfInBounds 0 true = (L.setIfInBounds 0 true).setIfInBounds 1 true) (e2 : ((L.setIfInBounds 1 true).setIfInBounds 2 true).setIfInBounds 0 true = ((L.setIfInBounds 0 true).setIfInBounds 1 true).setIfInBounds 2 true)
    (h0 : ∀ K : Act → World → Prop, K A0 w → wpOpIn F n P ops Q 0 K a w) (h1 : ∀ K : Act → World → Prop, K A1 w → wpOpIn F n P ops Q 1 K a w)
    (h01 : ∀ K : Act → World → Prop, K A01 w → wpOpIn F n P ops Q 1 K A0 w) (h10 : ∀ K : Act → World → Prop, K A01 w → wpOpIn F n P ops Q 0 K A1 w)
    (h2 : ∀ K : Act → World → Prop, (∀ v2 w4, Post v2 w4 → K (A012 v2) w4) → wpOpIn F n P ops Q 2 K A01 w)
    (h12 : ∀ K : Act → World → Prop, (∀ v2 w4, Post v2 w4 → K (A12 v2) w4) → wpOpIn F n P ops Q 2 K A1 w)
    (h120 : ∀ v2 w4, Post v2 w4 → ∀ K : Act → World → Prop, K (A012 v2) w4 → wpOpIn F n P ops Q 0 K (A12 v2) w4)
    (h : ∀ v2 w4, Post v2 w4 → wpAnyIn F n P md ops Q fuel (((L.setIfInBounds 0 true).setIfInBounds 1 true).setIfInBounds 2 true) (A012 v2) w4) : wpAnyIn F n P md ops Q (fuel + 3) L a w := by
  have t : wpAnyIn F n P md ops Q (fuel + 1) ((L.setIfInBounds 0 true).setIfInBounds 1 true) A01 w := any_one hr01 (h2 _ h)
  refine any_two hr (h0 _ ?_) (h1 _ ?_)
  · exact any_one hr0 (h01 _ t)
  · refine any_two hr1 (h10 _ ?_) (h12 _ fun v2 w4 hp => ?_)
    · rw [e1]; exact t
    · exact any_one hr12 (h120 v2 w4 hp _ (by rw [e2]; exact h v2 w4 hp))
end
end Go.Proofs.YtlbgppijeoonjaaGreatDoor

namespace Go.Proofs.YtlbgppijeoonjaaGreatDoor
open Go.RowKit Go.Shelf
set_option linter.unusedVariables false
set_option linter.unusedSimpArgs false
attribute [local go_sem] Oper.semAt_some

/-! ### The iterator's walk: it calls itself -/
/-- Where no depth is asked the figures are all one. -/
theorem yield_any {m : Nat} (m' : Nat) {P : Program} {l : Nat} {args : Array Value} {W : World} {R : Ending → World → Prop} (h : YieldAt Fence.wide m P l args W R) : YieldAt Fence.wide m' P l args W R := by
  obtain ⟨fn, tmps, assign, body, hy, hR⟩ := h
  exact ⟨fn, tmps, assign, body, hy, hR.1, fun c cs _ => hR.2 c cs (fun d h => by cases h)⟩
def WPost (n₀ l By Bp Bw : Nat) (Mp : Nat → Prop) (all : List (List Int)) (J Jx : List (List Int) → World → Prop) (ahead : List Int) (l' : List At) (pre : List (List Int)) (W : World) : Ending → World → Prop := fun e W' =>
  (e = .returned (.bool true) ∧ (∃ v', Pq n₀ l By Bp Bw W' v' ahead) ∧ J (pre ++ pathsL ahead 0 l') W' ∧ Kz Mp W W') ∨ (e = .returned (.bool false) ∧ ∃ q, q <+: all ∧ Jx q W')
def CWalk (n₀ l By Bp Bw : Nat) (Mp : Nat → Prop) (all : List (List Int)) (J Jx : List (List Int) → World → Prop) (ahead : List Int) (l' : List At) : Prop :=
  ∀ (n : Nat) (W : World) (v u : Value) (pre : List (List Int)), Pq n₀ l By Bp Bw W v ahead → AttrsAt W Mp u l' → J pre W → pre ++ pathsL ahead 0 l' <+: all →
    CallsIn Fence.wide n Tryz.prog 34 #[u, .pointer (some ⟨Bp, 0, none⟩), .pointer (some ⟨By, 0, none⟩), .pointer (some ⟨Bw, 0, none⟩)] W (WPost n₀ l By Bp Bw Mp all J Jx ahead l' pre W)
/-- A round, as the iterator meets it. -/
def HYield (n₀ l : Nat) (Mp : Nat → Prop) (all : List (List Int)) (J Jx : List (List Int) → World → Prop) : Prop :=
  ∀ (m : Nat) (pre : List (List Int)) (x : List Int) (y : Yv) (A : World), J pre A → Hd n₀ all pre x y A → YieldAt Fence.wide m Tryz.prog l #[yE y] A fun e B =>
    (e = .returned (.bool true) ∧ J (pre ++ [x]) B ∧ Kz (fun b => (Mp b ∨ n₀ ≤ b) ∧ ¬ y.1 = b) A B) ∨ (e = .returned (.bool false) ∧ Jx (pre ++ [x]) B)
theorem rowsA_cells (ps : List (At × Value)) (j : Nat) (p : At × Value) (hp : ps[j]? = some p) {w : World} {g off : Nat} (hc : ∀ j u, (rowsA ps)[j]? = some u → w.cell? ⟨g, off + j, none⟩ = some u) (i : Nat) (hi : i < 12) (u : Value) (hu : (atC p.1 p.2)[i]? = some u) : w.cell? ⟨g, off + j * 12 + i, none⟩ = some u := by
  have := hc _ u ((rowsA_at ps j p hp i hi).trans (by rw [← hu]))
  rw [← Nat.add_assoc] at this
  exact this
/-- What a round answers, and what the walk does then. -/
def WayY (n n₀ l By Bp Bw : Nat) (Mp : Nat → Prop) (all : List (List Int)) (J Jx : List (List Int) → World → Prop) (W : World) (ahead : List Int) (j : Nat) (aps : List At) (L BA : Nat) (pa : Option Addr) (pn pc : Nat) (pre xs : List (List Int)) (v2 : Value) (w4 : World) : Prop :=
  ∃ g4 c4, v2 = .slice (some ⟨g4, 0, none⟩) (L + 1) c4 ∧ w4.cell? ⟨By, 0, none⟩ = some (.func (.yield l) #[] #[]) ∧ YieldAt Fence.wide (n - 1) Tryz.prog l #[.slice (some ⟨g4, 0, none⟩) (L + 1) c4] w4 (fun e W5 =>
          (e = .returned (.bool true) ∧ W5.cell? ⟨Bw, 0, none⟩ = some (.func (.func 34) #[] #[.pointer (some ⟨Bp, 0, none⟩), .pointer (some ⟨By, 0, none⟩), .pointer (some ⟨Bw, 0, none⟩)]) ∧ W5.cell? ⟨BA, 9, none⟩ = some (.slice pa pn pc) ∧
            ∀ m, CallsIn Fence.wide m Tryz.prog 34 #[.slice pa pn pc, .pointer (some ⟨Bp, 0, none⟩), .pointer (some ⟨By, 0, none⟩), .pointer (some ⟨Bw, 0, none⟩)] W5 (fun e W6 =>
              (e = .returned (.bool true) ∧ ∃ g6 c6, W6.cell? ⟨Bp, 0, none⟩ = some (.slice (some ⟨g6, 0, none⟩) (L + 1) c6) ∧ W6.frozen? ⟨Bp, 0, none⟩ = false ∧ L + 1 ≤ c6 ∧ Hid (Pq n₀ l By Bp Bw (W6.setCell ⟨Bp, 0, none⟩ (.slice (some ⟨g6, 0, none⟩) L c6)) (.slice (some ⟨g6, 0, none⟩) L c6) ahead ∧ J (pre ++ (xs ++ (ahead ++ [(j : Int)]) :: pathsL (ahead ++ [(j : Int)]) 0 aps)) (W6.setCell ⟨Bp, 0, none⟩ (.slice (some ⟨g6, 0, none⟩) L c6)) ∧ Kz Mp W (W6.setCell ⟨Bp, 0, none⟩ (.slice (some ⟨g6, 0, none⟩) L c6)))) ∨
              (e = .returned (.bool false) ∧ Hid (∃ q, q <+: all ∧ Jx q W6)))) ∨
          (e = .returned (.bool false) ∧ Hid (∃ q, q <+: all ∧ Jx q W5)))

set_option maxRecDepth 100000 in
theorem way_ok (n n₀ l By Bp Bw : Nat) (Mp : Nat → Prop) (hMp : ∀ b, Mp b → b < n₀) (all : List (List Int)) (J Jx : List (List Int) → World → Prop) (hJ : ∀ s A B, J s A → Below n₀ A B → J s B) (hY : HYield n₀ l Mp all J Jx) (W W3 : World) (ahead : List Int) (j L BA g2 c2 : Nat) (pre xs : List (List Int))
    (an : List UInt8) (ao al ac vk : Int) (vt : List UInt8) (vn : Nat) (vh ab : Bool) (aps : List At) (and : Bool) (ant : List UInt8) (pa : Option Addr) (pn pc : Nat) (hb1 : L + 1 ≤ 1099511627776) (HL : Hid (ahead.length = L)) (HB : Hid (n₀ ≤ BA))
    (HAL : Hid (pre ++ (xs ++ (ahead ++ [(j : Int)]) :: pathsL (ahead ++ [(j : Int)]) 0 aps) <+: all)) (hP3 : Pq n₀ l By Bp Bw W3 (.slice (some ⟨g2, 0, none⟩) (L + 1) c2) (ahead ++ [(j : Int)]))
    (hA3 : W3.heap[BA]? = some (.cells #[.string ⟨an.toArray⟩, .int .i64 ao, .int .i64 al, .int .i64 ac, .int .i64 vk, .string ⟨vt.toArray⟩, .int .u32 (vn : Int), .bool vh, .bool ab, .slice pa pn pc, .bool and, .string ⟨ant.toArray⟩] 34 (0, 0)))
    (hJ3 : J (pre ++ xs) W3) (hK3 : Kz Mp W W3) (hlr : n₀ ≤ g2 ∧ g2 < W3.heap.size ∧ ∃ cur, W3.heap[g2]? = some (.cells cur 3 (0, 0))) (hAp : AttrsAt W Mp (.slice pa pn pc) aps) (hIp : CWalk n₀ l By Bp Bw Mp all J Jx (ahead ++ [(j : Int)]) aps) (m : Nat) :
    CallsIn Fence.wide m Tryz.prog 35 #[.slice (some ⟨g2, 0, none⟩) (L + 1) c2] W3.drew (fun e w4 => ∃ v2, e = .returned v2 ∧ WayY n n₀ l By Bp Bw Mp all J Jx W ahead j aps L BA pa pn pc pre xs v2 w4) := by
  refine (callsIn_wide.2 (cloneInts_row W3.drew g2 0 (L + 1) c2 (ahead ++ [(j : Int)]) (by simp [HL.out]) (by omega) hlr.2.1 (fun k i hk => ?_))).mono ?_
  · have := hP3.row.cells (g := g2) rfl k (.int .i64 i) (by rw [iC, List.getElem?_map, hk]; rfl)
    rw [Lib.add_plain] at this
    exact this
  rintro e w4 ⟨v4, rfl, ho4, hb4⟩
  obtain ⟨g4, c4, rfl⟩ : ∃ g4 c4, v4 = .slice (some ⟨g4, 0, none⟩) (L + 1) c4 := by
    obtain ⟨_, ⟨_, h0⟩ | ⟨g', cap', cur, rfl, _⟩⟩ := ho4
    · omega
    · exact ⟨g', cap', rfl⟩
  have hb4' : Below W3.heap.size W3 w4 := (Below.refl W3.heap.size W3).drew.trans hb4
  have hP4 := hP3.below hb4'
  have hA4 := (hb4'.block BA (heap_lt hA3)).trans hA3
  have hg4 : W3.heap.size ≤ g4 := (own_ltR ho4 rfl).1
  have hn3 : n₀ ≤ W3.heap.size := hP3.n
  refine ⟨_, rfl, g4, c4, rfl, Boxed.cell hP4.yld, ?_⟩
  have hHd : Hd n₀ all (pre ++ xs) (ahead ++ [(j : Int)]) (g4, L + 1, c4) w4 := by
    refine ⟨?_, by simp [HL.out], ?_⟩
    · refine List.IsPrefix.trans ?_ HAL.out
      exact ⟨pathsL (ahead ++ [(j : Int)]) 0 aps, by simp⟩
    · obtain ⟨k1, k2⟩ := ho4
      refine ⟨by simp [iC], ?_⟩
      rcases k2 with ⟨k3, _⟩ | ⟨g', cap', cur, k3, k4, k5⟩
      · cases k3
      · refine .inr ⟨g', cap', cur, by rw [show (ahead ++ [(j : Int)]).length = L + 1 by simp [HL.out]]; exact k3, Nat.le_trans hn3 k4, ?_⟩
        rw [show (ahead ++ [(j : Int)]).length = L + 1 by simp [HL.out]]
        exact k5
  refine YieldAt.mono (hY (n - 1) (pre ++ xs) (ahead ++ [(j : Int)]) (g4, L + 1, c4) w4 (hJ _ _ _ hJ3 (hb4'.mono hn3)) hHd) ?_
  rintro e W5 (⟨rfl, hJ5, hk5⟩ | ⟨rfl, hx5⟩)
  · have hne : ∀ b, b < W3.heap.size → g4 ≠ b := fun b hb e => by omega
    have hP5 := hP4.yielded hk5 (fun b hb => hne b (by
      rcases hb with rfl | rfl | rfl | e
      · exact heap_lt hP3.pth
      · exact heap_lt hP3.yld
      · exact heap_lt hP3.wlk
      · exact (own_ltR hP3.row e).2.1))
    have hA5 := (hk5.same BA ⟨.inr HB.out, hne BA (heap_lt hA3)⟩ (heap_lt hA4)).trans hA4
    have hK5 : Kz Mp W W5 := hK3.trans ((Kz.of_below hMp (hb4'.mono hn3)).trans (hk5.mono (fun b hb => ⟨.inl hb, fun e => by have := hMp b hb; omega⟩)))
    refine .inl ⟨rfl, Boxed.cell hP5.wlk, by simp [World.cell?, hA5], fun m => ?_⟩
    refine (hIp m W5 _ (.slice pa pn pc) (pre ++ xs ++ [ahead ++ [(j : Int)]]) hP5 (attrsAt_keep hK5.size (fun g hF hl => hK5.same g hF hl) hAp) hJ5 (by have := HAL.out; simpa using this)).mono ?_
    rintro e W6 (⟨rfl, ⟨v6, hP6⟩, hJ6, hK6⟩ | ⟨rfl, q, hq, hx6⟩)
    · refine .inl ⟨rfl, ?_⟩
      have hr6 := hP6.row
      rw [show (ahead ++ [(j : Int)]).length = L + 1 by simp [HL.out]] at hr6
      obtain ⟨g6, c6, rfl, hc6⟩ : ∃ g6 c6, v6 = .slice (some ⟨g6, 0, none⟩) (L + 1) c6 ∧ L + 1 ≤ c6 := by
        obtain ⟨_, ⟨_, h0⟩ | ⟨g', cap', cur, rfl, _, _, h1, _⟩⟩ := hr6
        · omega
        · exact ⟨g', cap', rfl, h1⟩
      have hr7 : W6.ownsRow n₀ 3 1 (.slice (some ⟨g6, 0, none⟩) L c6) L (iC ahead) := own_cutR (x := .int .i64 (j : Int)) (by simpa [iC] using hr6)
      have hP7 := hP6.store (v' := .slice (some ⟨g6, 0, none⟩) L c6) (a' := ahead) (by rw [HL.out]; exact hr7)
      have hb7 := below_setR (n₀ := n₀) (b := Bp) W6 (.slice (some ⟨g6, 0, none⟩) L c6) hP6.hp
      exact ⟨g6, c6, Boxed.cell hP6.pth, Boxed.frozen hP6.pth, hc6, hP7, hJ _ _ _ (by simpa using hJ6) hb7, hK5.trans (hK6.trans (Kz.of_below hMp hb7))⟩
    · exact .inr ⟨rfl, q, hq, hx6⟩
  · refine .inr ⟨rfl, _, ?_, hx5⟩
    exact hHd.1

set_option maxHeartbeats 8000000 in
set_option maxRecDepth 100000 in
theorem walk_row (n₀ l By Bp Bw : Nat) (Mp : Nat → Prop) (hMp : ∀ b, Mp b → b < n₀) (all : List (List Int)) (J Jx : List (List Int) → World → Prop) (hJ : ∀ s A B, J s A → Below n₀ A B → J s B) (hY : HYield n₀ l Mp all J Jx)
    (ahead : List Int) (n : Nat) (W : World) (v : Value) (pre : List (List Int)) (hP : Pq n₀ l By Bp Bw W v ahead) (hJ0 : J pre W) (g off cap : Nat) (ps : List (At × Value)) (hFg : Mp g) (hg : g < W.heap.size)
    (hc : ∀ j u, (rowsA ps)[j]? = some u → W.cell? ⟨g, off + j, none⟩ = some u) (hA : ∀ p, p ∈ ps → AttrsAt W Mp p.2 p.1.params) (hI : ∀ (j : Nat) (p : At × Value), ps[j]? = some p → CWalk n₀ l By Bp Bw Mp all J Jx (ahead ++ [(j : Int)]) p.1.params)
    (N : Nat) (hl : ps.length = N) (hb1 : ahead.length + N ≤ 1099511627776) (hall : pre ++ pathsL ahead 0 (ps.map Prod.fst) <+: all) :
    CallsIn Fence.wide n Tryz.prog 34 #[.slice (some ⟨g, off, none⟩) N cap, .pointer (some ⟨Bp, 0, none⟩), .pointer (some ⟨By, 0, none⟩), .pointer (some ⟨Bw, 0, none⟩)] W (WPost n₀ l By Bp Bw Mp all J Jx ahead (ps.map Prod.fst) pre W) := by
  have HX : Hid (ps.length = N) := hl
  have hN2 : (N : Int) ≤ 9223372036854775807 := by omega
  obtain ⟨ii, hi0, hz0, hz1, hz2⟩ := info_parts Tryz.infoInt
  have HS : Hid (Pq n₀ l By Bp Bw W v ahead ∧ J pre W ∧ Kz Mp W W) := ⟨hP, hJ0, Kz.refl _ _⟩
  clear hl hP hJ0
  refine callsIn_of_wp Tryz.func34 rfl trivial ?_ rfl
  simp only [Tryz.ntmps34, List.size_toArray, List.length_cons, List.length_nil, Nat.reduceAdd, Nat.reduceSub, Array.replicate_succ, Array.replicate_zero, List.push_toArray, List.append_toArray, List.nil_append, List.cons_append]
  gi_wp2
  gi_loopw [10] (fun i wr => ∃ (j : Nat) (v' : Value), j ≤ N ∧ i = .int .i64 j ∧ Hid (Pq n₀ l By Bp Bw wr v' ahead ∧ J (pre ++ pathsL ahead 0 ((ps.map Prod.fst).take j)) wr ∧ Kz Mp W wr)) (fun i _ => N - (intOf i).toNat)
  case atStart => exact ⟨0, v, by omega, rfl, by simpa [pathsL] using HS⟩
  case round =>
    clear HS
    obtain ⟨j, v', hj, rfl, HS⟩ := hrel
    by_cases hlt : j < N
    · have hlt' : (j : Int) < N := by omega
      have hj0 : ¬ (j : Int) < 0 := by omega
      obtain ⟨hP, hJs, hK⟩ := HS.out
      obtain ⟨p, hp⟩ : ∃ x, ps[j]? = some x := ⟨ps[j]'(by rw [HX.out]; exact hlt), List.getElem?_eq_getElem _⟩
      have hAp := hA p (List.mem_of_getElem? hp)
      have hIp := hI j p hp
      have hcp : ∀ (i : Nat) (u : Value), i < 12 → (atC p.1 p.2)[i]? = some u → wr.cell? ⟨g, off + j * 12 + i, none⟩ = some u := fun i u hi hu => by
        rw [World.cell?_of_block (hK.same g hFg hg)]
        exact rowsA_cells ps j p hp hc i hi u hu
      have hnext := pathsL_take ahead (ps.map Prod.fst) j p.1 (by rw [List.getElem?_map, hp]; rfl)
      have hpre := pathsL_pre ahead (ps.map Prod.fst) (j + 1)
      rw [hnext, pathA_eq] at hpre
      have HAL : Hid (pre ++ (pathsL ahead 0 ((ps.map Prod.fst).take j) ++ (ahead ++ [(j : Int)]) :: pathsL (ahead ++ [(j : Int)]) 0 p.1.params) <+: all) := (pre_app hpre).trans hall
      have HNX : Hid (pathsL ahead 0 ((ps.map Prod.fst).take (j + 1)) = pathsL ahead 0 ((ps.map Prod.fst).take j) ++ (ahead ++ [(j : Int)]) :: pathsL (ahead ++ [(j : Int)]) 0 p.1.params) := by rw [← pathA_eq]; exact hnext
      clear hnext hpre HS hp
      generalize pathsL ahead 0 ((ps.map Prod.fst).take j) = xs at *
      have hsw : W.heap.size ≤ wr.heap.size := hK.size
      obtain ⟨⟨an, ao, al, ac, ⟨vk, vt, vn, vh⟩, ab, aps, and, ant⟩, pv⟩ := p
      obtain ⟨pa, pn, pc, rfl⟩ := attrsAt_shape hAp
      dsimp only [At.params] at hAp hIp HAL HNX
      simp only [atC] at hcp
      have x0 := hcp 0 _ (by omega) rfl
      have x1 := hcp 1 _ (by omega) rfl
      have x2 := hcp 2 _ (by omega) rfl
      have x3 := hcp 3 _ (by omega) rfl
      have x4 := hcp 4 _ (by omega) rfl
      have x5 := hcp 5 _ (by omega) rfl
      have x6 := hcp 6 _ (by omega) rfl
      have x7 := hcp 7 _ (by omega) rfl
      have x8 := hcp 8 _ (by omega) rfl
      have x9 := hcp 9 _ (by omega) rfl
      have x10 := hcp 10 _ (by omega) rfl
      have x11 := hcp 11 _ (by omega) rfl
      rw [Nat.add_zero] at x0
      have hst := run_storeCells_new (P := Tryz.prog) wr 34 zero12 #[.string ⟨an.toArray⟩, .int .i64 ao, .int .i64 al, .int .i64 ac, .int .i64 vk, .string ⟨vt.toArray⟩, .int .u32 (vn : Int), .bool vh, .bool ab, .slice pa pn pc, .bool and, .string ⟨ant.toArray⟩] (by kernel_rfl) rfl (by simp [Value.oneCell'])
      have hbA := (Below.refl wr.heap.size wr).alloc (Nat.le_refl _) (.cells #[.string ⟨an.toArray⟩, .int .i64 ao, .int .i64 al, .int .i64 ac, .int .i64 vk, .string ⟨vt.toArray⟩, .int .u32 (vn : Int), .bool vh, .bool ab, .slice pa pn pc, .bool and, .string ⟨ant.toArray⟩] 34)
      have hnA := heap_alloc_new wr (.cells #[.string ⟨an.toArray⟩, .int .i64 ao, .int .i64 al, .int .i64 ac, .int .i64 vk, .string ⟨vt.toArray⟩, .int .u32 (vn : Int), .bool vh, .bool ab, .slice pa pn pc, .bool and, .string ⟨ant.toArray⟩] 34)
      have hPA := hP.below hbA
      have cP := Boxed.cell hPA.pth
      have fP := Boxed.frozen hPA.pth
      obtain ⟨va, vc, rfl⟩ := own_shape1 hPA.row
      unfold zero12 at hst
      clear hcp
      gi_upto_region 4 with (fail)
      have hn0 : n₀ ≤ wr.heap.size := hP.n
      have HA : Hid (Pq n₀ l By Bp Bw (wr.alloc (.cells #[.string ⟨an.toArray⟩, .int .i64 ao, .int .i64 al, .int .i64 ac, .int .i64 vk, .string ⟨vt.toArray⟩, .int .u32 (vn : Int), .bool vh, .bool ab, .slice pa pn pc, .bool and, .string ⟨ant.toArray⟩] 34)) (.slice va ahead.length vc) ahead ∧ Below n₀ wr (wr.alloc (.cells #[.string ⟨an.toArray⟩, .int .i64 ao, .int .i64 al, .int .i64 ac, .int .i64 vk, .string ⟨vt.toArray⟩, .int .u32 (vn : Int), .bool vh, .bool ab, .slice pa pn pc, .bool and, .string ⟨ant.toArray⟩] 34))) := ⟨hPA, hbA.mono hn0⟩
      obtain ⟨BA, hBA⟩ : ∃ BA, BA = wr.heap.size := ⟨_, rfl⟩
      have HB : Hid (n₀ ≤ BA) := by show _ ≤ _; omega
      clear hst x0 x1 x2 x3 x4 x5 x6 x7 x8 x9 x10 x11 hPA hbA hP
      rw [← hBA] at hnA ⊢
      clear hBA
      generalize wr.alloc (.cells #[.string ⟨an.toArray⟩, .int .i64 ao, .int .i64 al, .int .i64 ac, .int .i64 vk, .string ⟨vt.toArray⟩, .int .u32 (vn : Int), .bool vh, .bool ab, .slice pa pn pc, .bool and, .string ⟨ant.toArray⟩] 34) = WA at *
      obtain ⟨hPA, hbA⟩ := HA.out
      clear HA
      have hnA0 : n₀ ≤ WA.heap.size := hPA.n
      obtain ⟨L, hL⟩ : ∃ L, ahead.length = L := ⟨_, rfl⟩
      have hrow := hPA.row
      rw [hL] at hb1 cP hPA hrow
      have HL : Hid (ahead.length = L) := hL
      clear hL
      gi_wp2_with (gi_at_builtin; refine wpListIn_append_own_at _ rfl _ _ 25 rfl n₀ 3 ii (.int .i64 0) 1 8 Tryz.underlying25 hi0 hz0 hz1 hz2 rfl (by decide) _ L (iC ahead) rfl (hrow.alloc _) ⟨WA.heap.size, 0, none⟩ 1 1 [.int .i64 (j : Int)] rfl rfl (cell_new7 WA #[.int .i64 (j : Int)] _) (by intro u hu; simp at hu; subst hu; rfl) (by unfold maxLen; omega) (by omega) (by simp; omega) ?_)
      intro v2 w2 ho2 hg2 _ hat2
      have hP2 := (hPA.below ((Below.refl WA.heap.size WA).alloc (Nat.le_refl _) _)).grown hg2 (a' := ahead ++ [(j : Int)]) (by simpa [iC, HL.out] using ho2)
      obtain ⟨g2, c2, rfl, hc2⟩ : ∃ g2 c2, v2 = .slice (some ⟨g2, 0, none⟩) (L + 1) c2 ∧ L + 1 ≤ c2 := by
        obtain ⟨_, ⟨_, h0⟩ | ⟨g', cap', cur, rfl, _, _, h1, _⟩⟩ := ho2
        · omega
        · exact ⟨g', cap', rfl, h1⟩
      have hbp : w2.heap[Bp]? = some (.cells #[.slice va L vc] 25 (0, 0)) := (hg2.block Bp (by have := heap_lt hPA.pth; simp; omega) (fun e => hPA.ne.2.2.1 e.symm)).trans ((Below.heap_alloc WA _ _ (heap_lt hPA.pth)).trans hPA.pth)
      have hba : (w2.setCell ⟨Bp, 0, none⟩ (.slice (some ⟨g2, 0, none⟩) (L + 1) c2)).heap[BA]? = some (.cells #[.string ⟨an.toArray⟩, .int .i64 ao, .int .i64 al, .int .i64 ac, .int .i64 vk, .string ⟨vt.toArray⟩, .int .u32 (vn : Int), .bool vh, .bool ab, .slice pa pn pc, .bool and, .string ⟨ant.toArray⟩] 34 (0, 0)) := by
        have hA1 : w2.heap[BA]? = _ := (hg2.block BA (by have := heap_lt hnA; simp; omega) (fun e => by
          obtain ⟨_, _, cur, hh⟩ := own_ltR hrow e.symm
          have := hh.symm.trans hnA
          cases this)).trans ((Below.heap_alloc WA _ _ (heap_lt hnA)).trans hnA)
        refine (Below.heap_setCell w2 ⟨Bp, 0, none⟩ _ BA (fun e => ?_)).trans hA1
        have e' : BA = Bp := e
        rw [e'] at hA1
        have := hbp.symm.trans hA1
        cases this
      have hb2 : Below n₀ wr (w2.setCell ⟨Bp, 0, none⟩ (.slice (some ⟨g2, 0, none⟩) (L + 1) c2)) := ((hbA.alloc hnA0 _).grown hg2 (by simp; omega) (fun k e => (own_ltR hrow e).1)).setCell (p := ⟨Bp, 0, none⟩) hPA.hp _
      have cP2 := Boxed.cell hbp
      have fP2 := Boxed.frozen hbp
      clear ho2 hg2 hat2 hrow hPA hbA hnA hbp
      gi_upto_region 5 with (fail)
      have HW : Hid (Pq n₀ l By Bp Bw (w2.setCell ⟨Bp, 0, none⟩ (.slice (some ⟨g2, 0, none⟩) (L + 1) c2)) (.slice (some ⟨g2, 0, none⟩) (L + 1) c2) (ahead ++ [(j : Int)]) ∧ Below n₀ wr (w2.setCell ⟨Bp, 0, none⟩ (.slice (some ⟨g2, 0, none⟩) (L + 1) c2)) ∧ (w2.setCell ⟨Bp, 0, none⟩ (.slice (some ⟨g2, 0, none⟩) (L + 1) c2)).heap[BA]? = some (.cells #[.string ⟨an.toArray⟩, .int .i64 ao, .int .i64 al, .int .i64 ac, .int .i64 vk, .string ⟨vt.toArray⟩, .int .u32 (vn : Int), .bool vh, .bool ab, .slice pa pn pc, .bool and, .string ⟨ant.toArray⟩] 34 (0, 0))) := ⟨hP2, hb2, hba⟩
      clear hP2 hb2 hba cP2 fP2 cP fP
      generalize w2.setCell ⟨Bp, 0, none⟩ (.slice (some ⟨g2, 0, none⟩) (L + 1) c2) = W3 at *
      obtain ⟨hP3, hb3, hA3⟩ := HW.out
      clear HW
      have hJ3 := hJ _ _ _ hJs hb3
      have hK3 := hK.trans (Kz.of_below hMp hb3)
      have hlr := own_ltR hP3.row (g := g2) rfl
      have HYY := way_ok n n₀ l By Bp Bw Mp hMp all J Jx hJ hY W W3 ahead j L BA g2 c2 pre xs an ao al ac vk vt vn vh ab aps and ant pa pn pc (by omega) HL HB HAL hP3 hA3 hJ3 hK3 hlr hAp hIp
      have y3 := Boxed.cell hP3.yld
      have p3 := Boxed.cell hP3.pth
      clear hJ3 hK3 hlr hP3 hb3 hA3 hIp hAp hJs hK
      have hdd : ∀ k : Nat, (Fence.wide.depth.isSome = true → 1 ≤ k) := fun k h => by cases h
      refine wpIn_region_any (by kernel_rfl) ?_
      change wpAnyIn _ _ _ _ _ _ (9 + 3) (Array.replicate 12 false) _ (World.drew _)
      apply any_012 (WayY n n₀ l By Bp Bw Mp all J Jx W ahead j aps L BA pa pn pc pre xs) (by kernel_rfl) (by kernel_rfl) (by kernel_rfl) (by kernel_rfl) (by kernel_rfl) (by kernel_rfl) (by kernel_rfl)
      case h0 => intro K hK; refine wpOpIn_step rfl (fun K1 hK1 => ?_); go_simp; exact hK1 _ _ hK
      case h1 => intro K hK; refine wpOpIn_step rfl (fun K1 hK1 => ?_); go_simp; exact hK1 _ _ hK
      case h01 => intro K hK; refine wpOpIn_step rfl (fun K1 hK1 => ?_); go_simp; exact hK1 _ _ hK
      case h10 => intro K hK; refine wpOpIn_step rfl (fun K1 hK1 => ?_); go_simp; exact hK1 _ _ hK
      case h2 =>
        intro K hK
        refine wpOpIn_step rfl (fun K1 hK1 => ?_)
        go_simp
        refine ⟨trivial, hdd _, ?_⟩
        refine (HYY _).mono ?_
        rintro e w4 ⟨v2, rfl, hp⟩
        exact hK1 _ _ (hK v2 w4 hp)
      case h12 =>
        intro K hK
        refine wpOpIn_step rfl (fun K1 hK1 => ?_)
        go_simp
        refine ⟨trivial, hdd _, ?_⟩
        refine (HYY _).mono ?_
        rintro e w4 ⟨v2, rfl, hp⟩
        exact hK1 _ _ (hK v2 w4 hp)
      case h120 =>
        intro v2 w4 hp K hK
        have cy4 : w4.cell? ⟨By, 0, none⟩ = some (.func (.yield l) #[] #[]) := by obtain ⟨_, _, _, h, _⟩ := hp; exact h
        refine wpOpIn_step rfl (fun K1 hK1 => ?_)
        go_simp
        exact hK1 _ _ hK
      case h =>
        rintro v2 w4 ⟨g4, c4, rfl, cy4, fn4, tmps4, assign4, body4, hy4, hR4⟩
        refine any_one (i := 3) (by kernel_rfl) (wpOpIn_step rfl (fun K hK => ?_))
        gi_wp2_with (first | ((try refine ⟨hdd _, ?_⟩); refine hR4.mono ?_; clear hR4; rintro e W5 (⟨rfl, cw5, ca5, hC5⟩ | ⟨rfl, HX5⟩)))
        · try (refine hK _ _ ?_; clear hK K)
          refine any_one (i := 4) (by kernel_rfl) (wpOpIn_step rfl (fun K hK => ?_))
          go_simp
          refine hK _ _ ?_
          clear hK K
          refine any_one (i := 5) (by kernel_rfl) (wpOpIn_step rfl (fun K hK => ?_))
          go_simp
          refine hK _ _ ?_
          clear hK K
          refine wpAnyIn_take (i := 7) (v := .pointer (some ⟨BA, 9, none⟩)) rfl rfl (by kernel_rfl) (by kernel_rfl) (by kernel_rfl) (fun _ _ _ h => h) ⟨Or.inl ⟨by rfl, ?_⟩, fun _ => rfl⟩ ?_
          · intro w
            go_simp
          apply any_comm2 (i := 6) (j := 8) (by kernel_rfl) (by kernel_rfl) (by kernel_rfl) (by kernel_rfl)
          case hi => intro K hK; refine wpOpIn_step rfl (fun K1 hK1 => ?_); go_simp; exact hK1 _ _ hK
          case hj => intro K hK; refine wpOpIn_step rfl (fun K1 hK1 => ?_); go_simp; exact hK1 _ _ hK
          case hij => intro K hK; refine wpOpIn_step rfl (fun K1 hK1 => ?_); go_simp; exact hK1 _ _ hK
          case hji => intro K hK; refine wpOpIn_step rfl (fun K1 hK1 => ?_); go_simp; exact hK1 _ _ hK
          refine any_one (i := 9) (by kernel_rfl) (wpOpIn_step rfl (fun K hK => ?_))
          go_simp
          refine ⟨trivial, hdd _, ?_⟩
          refine (hC5 _).mono ?_
          rintro e W6 (⟨rfl, g6, c6, cp6, fp6, hc6, H6⟩ | ⟨rfl, HX6⟩)
          · refine hK _ _ ?_
            clear hK K
            refine any_one (i := 10) (by kernel_rfl) (wpOpIn_step rfl (fun K hK => ?_))
            go_simp
            refine hK _ _ ?_
            clear hK K
            refine any_one (i := 11) (by kernel_rfl) (wpOpIn_step rfl (fun K hK => ?_))
            go_simp
            refine hK _ _ ?_
            clear hK K
            refine wpAnyIn_done (by kernel_rfl) ?_ _
            gi_wp2
            go_roundw
            case rel => exact ⟨j + 1, _, by omega, by go_num, by rw [HNX.out]; exact H6⟩
            case measure => simp [intOf]; omega
          · refine hK _ _ ?_
            clear hK K
            refine any_one (i := 10) (by kernel_rfl) (wpOpIn_step rfl (fun K hK => ?_))
            go_simp
            refine hK _ _ ?_
            clear hK K
            refine any_one (i := 11) (by kernel_rfl) (wpOpIn_step rfl (fun K hK => ?_))
            go_simp
            refine hK _ _ ?_
            clear hK K
            refine wpAnyIn_done (by kernel_rfl) ?_ _
            gi_wp2
            go_ret
            exact .inr ⟨rfl, HX6.out⟩
        · try (refine hK _ _ ?_; clear hK K)
          refine any_one (i := 4) (by kernel_rfl) (wpOpIn_step rfl (fun K hK => ?_))
          go_simp
          refine hK _ _ ?_
          clear hK K
          refine any_one (i := 5) (by kernel_rfl) (wpOpIn_step rfl (fun K hK => ?_))
          go_simp
          refine hK _ _ ?_
          clear hK K
          refine wpAnyIn_take (i := 6) (v := undef) rfl rfl (by kernel_rfl) (by kernel_rfl) (by kernel_rfl) (fun _ _ _ h => h) ⟨Or.inr ⟨by rfl, rfl⟩, fun _ => rfl⟩ ?_
          refine wpAnyIn_take (i := 7) (v := undef) rfl rfl (by kernel_rfl) (by kernel_rfl) (by kernel_rfl) (fun _ _ _ h => h) ⟨Or.inr ⟨by rfl, rfl⟩, fun _ => rfl⟩ ?_
          refine wpAnyIn_take (i := 8) (v := undef) rfl rfl (by kernel_rfl) (by kernel_rfl) (by kernel_rfl) (fun _ _ _ h => h) ⟨Or.inr ⟨by rfl, rfl⟩, fun _ => rfl⟩ ?_
          refine wpAnyIn_take (i := 9) (v := undef) rfl rfl (by kernel_rfl) (by kernel_rfl) (by kernel_rfl) (fun _ _ _ h => h) ⟨Or.inr ⟨by rfl, rfl⟩, fun _ => rfl⟩ ?_
          refine wpAnyIn_take (i := 10) (v := undef) rfl rfl (by kernel_rfl) (by kernel_rfl) (by kernel_rfl) (fun _ _ _ h => h) ⟨Or.inr ⟨by rfl, rfl⟩, fun _ => rfl⟩ ?_
          refine any_one (i := 11) (by kernel_rfl) (wpOpIn_step rfl (fun K hK => ?_))
          go_simp
          refine hK _ _ ?_
          clear hK K
          refine wpAnyIn_done (by kernel_rfl) ?_ _
          gi_wp2
          go_ret
          exact .inr ⟨rfl, HX5.out⟩
    · have hlt' : ¬ (j : Int) < N := by omega
      obtain rfl : j = N := by omega
      obtain ⟨hP, hJs, hK⟩ := HS.out
      rw [List.take_of_length_le (by rw [List.length_map, HX.out]; exact Nat.le_refl _)] at hJs
      gi_wp2
      go_ret
      exact .inl ⟨rfl, ⟨_, hP⟩, hJs, hK⟩
set_option maxRecDepth 100000 in
theorem walk_zero (n : Nat) (a : Option Addr) (cap : Nat) (p q r : Value) (W : World) : CallsIn Fence.wide n Tryz.prog 34 #[.slice a 0 cap, p, q, r] W fun e w' => e = .returned (.bool true) ∧ w' = W := by
  refine callsIn_of_wp Tryz.func34 rfl trivial ?_ rfl
  simp only [Tryz.ntmps34, List.size_toArray, List.length_cons, List.length_nil, Nat.reduceAdd, Nat.reduceSub, Array.replicate_succ, Array.replicate_zero, List.push_toArray, List.append_toArray, List.nil_append, List.cons_append]
  gi_wp2
  gi_loopw [10] (fun i wr => i = .int .i64 0 ∧ wr = W) (fun _ _ => 0)
  case atStart => exact ⟨rfl, rfl⟩
  case round =>
    obtain ⟨rfl, rfl⟩ := hrel
    gi_wp2
    go_ret
    exact ⟨rfl, rfl⟩
theorem walk_zeroP (n₀ l By Bp Bw : Nat) (Mp : Nat → Prop) (all : List (List Int)) (J Jx : List (List Int) → World → Prop) (ahead : List Int) (n : Nat) (W : World) (v : Value) (pre : List (List Int)) (hP : Pq n₀ l By Bp Bw W v ahead) (hJ0 : J pre W) (a : Option Addr) (cap : Nat) :
    CallsIn Fence.wide n Tryz.prog 34 #[.slice a 0 cap, .pointer (some ⟨Bp, 0, none⟩), .pointer (some ⟨By, 0, none⟩), .pointer (some ⟨Bw, 0, none⟩)] W (WPost n₀ l By Bp Bw Mp all J Jx ahead [] pre W) := by
  refine (walk_zero n a cap _ _ _ W).mono ?_
  rintro e w' ⟨rfl, rfl⟩
  exact .inl ⟨rfl, ⟨_, hP⟩, by rw [pathsL, List.append_nil]; exact hJ0, Kz.refl _ _⟩
theorem walk_all (n₀ l By Bp Bw : Nat) (Mp : Nat → Prop) (hMp : ∀ b, Mp b → b < n₀) (all : List (List Int)) (J Jx : List (List Int) → World → Prop) (hJ : ∀ s A B, J s A → Below n₀ A B → J s B) (hY : HYield n₀ l Mp all J Jx) (N : Nat) :
    ∀ (ahead : List Int) (l' : List At), (pathsL ahead 0 l').length ≤ N → ahead.length + (pathsL ahead 0 l').length ≤ 1099511627776 → CWalk n₀ l By Bp Bw Mp all J Jx ahead l' := by
  induction N with
  | zero =>
    intro ahead l' hn hd n W v u pre hP hA hJ0 hall
    cases hA with
    | nil => exact walk_zeroP n₀ l By Bp Bw Mp all J Jx ahead n W v pre hP hJ0 _ _
    | @row g off cap ps _ _ _ _ _ =>
      have := pathsL_len ahead (ps.map Prod.fst) 0
      have h0 : ps = [] := by
        apply List.eq_nil_of_length_eq_zero
        rw [List.length_map] at this
        omega
      subst h0
      exact walk_zeroP n₀ l By Bp Bw Mp all J Jx ahead n W v pre hP hJ0 _ _
  | succ N ih =>
    intro ahead l' hn hd n W v u pre hP hA hJ0 hall
    cases hA with
    | nil => exact walk_zeroP n₀ l By Bp Bw Mp all J Jx ahead n W v pre hP hJ0 _ _
    | @row g off cap ps hF hg hc hcap hPs =>
      have hlen := pathsL_len ahead (ps.map Prod.fst) 0
      rw [List.length_map] at hlen
      refine walk_row n₀ l By Bp Bw Mp hMp all J Jx hJ hY ahead n W v pre hP hJ0 g off cap ps hF hg hc hPs (fun j p hp => ?_) ps.length rfl (by omega) hall
      have := pathsL_par ahead (ps.map Prod.fst) j p.1 (by rw [List.getElem?_map, hp]; rfl)
      exact ih (ahead ++ [(j : Int)]) p.1.params (by omega) (by simp; omega)
theorem walk_c (n₀ l By Bp Bw : Nat) (Mp : Nat → Prop) (hMp : ∀ b, Mp b → b < n₀) (all : List (List Int)) (J Jx : List (List Int) → World → Prop) (hJ : ∀ s A B, J s A → Below n₀ A B → J s B) (hY : HYield n₀ l Mp all J Jx)
    (ahead : List Int) (l' : List At) (h : ahead.length + (pathsL ahead 0 l').length ≤ 1099511627776) : CWalk n₀ l By Bp Bw Mp all J Jx ahead l' := walk_all n₀ l By Bp Bw Mp hMp all J Jx hJ hY _ ahead l' (Nat.le_refl _) h
end Go.Proofs.YtlbgppijeoonjaaGreatDoor

