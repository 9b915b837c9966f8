import Derived.Test.YthhckhifaolmkaaGreatXTcq
import Derived.Deep.Cut
namespace Go.Proofs.YthhckhifaolmkaaGreat
open Go.RowKit Go.Shelf Go.Sort Go.Maps
set_option linter.unusedVariables false
set_option linter.unusedSimpArgs false

set_option maxHeartbeats 8000000 in
set_option maxRecDepth 100000 in
theorem crowd_alr (w : World) (s : Sl) (l : List AlR) (hl : ∀ W, Below w.heap.size w W → RowsAt W 7 alrP s l) (f : Nat) (caps : Array Value) (eg : ∀ args W, (callFunc f args).run Tryz.prog W = .ok (.enter f args) W) (p : AlR → Int) (n : Nat) (hp : ∀ x ∈ l, 0 ≤ p x ∧ p x < (n : Int)) (hn : n ≤ 1048576) (hll : l.length ≤ 1048576)
    (hf : ∀ W, Below w.heap.size w W → ∀ x ∈ l, Calls Tryz.prog f (#[.agg #[I x.ctr, I x.ac.kind, I x.ac.task, .int .u32 (x.ac.mask : Int), .int .u32 (x.auto : Int), .int .u32 (x.time : Int), .int .u32 (x.cycle : Int)]] ++ caps) W fun e w' => e = .returned (I (p x)) ∧ Below W.heap.size W w') :
    Calls Tryz.prog 136 #[.slice s.a s.n s.c, .func (.func f) #[] caps] w fun e w' => e = .returned (I (crowdL (l.map p))) ∧ Below w.heap.size w w' := by
  have hmm := @run_makeMap Tryz.prog
  have h0 := hl w (Below.refl _ _)
  have HS : Hid (s.n = l.length) := h0.n
  have hsc : s.n ≤ s.c := h0.c
  have hsm : s.c ≤ maxLen := h0.m
  unfold maxLen at hsm
  have HH : Hid (∀ W, Below w.heap.size w W → RowsAt W 7 alrP s l) := hl
  have HFF : Hid (∀ W, Below w.heap.size w W → ∀ x ∈ l, Calls Tryz.prog f (#[.agg #[I x.ctr, I x.ac.kind, I x.ac.task, .int .u32 (x.ac.mask : Int), .int .u32 (x.auto : Int), .int .u32 (x.time : Int), .int .u32 (x.cycle : Int)]] ++ caps) W fun e w' => e = .returned (I (p x)) ∧ Below W.heap.size W w') := hf
  have HPP : Hid (∀ x ∈ l, 0 ≤ p x ∧ p x < (n : Int)) := hp
  have HLL : Hid (l.length ≤ 1048576) := hll
  have HM0 : Hid (MapOf (w.alloc (.map #[] 0)) w.heap.size n [] (fun k => (((l.take 0).map p).count (k : Int) : Int)) ∧ Below w.heap.size w (w.alloc (.map #[] 0))) := ⟨MapOf.made w n _, below_alloc w _⟩
  obtain ⟨R, hR⟩ : ∃ R : Int, R = crowdL (l.map p) := ⟨_, rfl⟩
  rw [← hR]
  have HR : Hid (R = crowdL (l.map p)) := hR
  clear hl hR hf h0 hp hll
  go_enter Tryz.func136, Tryz.ntmps136
  go_wp2
  clear hmm
  go_loopw [6, 8, 12] (fun mv _ iv wr => ∃ (j : Nat) (m : Int), j ≤ s.n ∧ iv = .int .i64 j ∧ mv = .int .i64 m ∧ Hid (m = (crowdL ((l.take j).map p) : Nat) ∧ (∃ ks, MapOf wr w.heap.size n ks (fun k => (((l.take j).map p).count (k : Int) : Int)) ∧ ∀ k : Nat, k ∉ ks → ((l.take j).map p).count (k : Int) = 0) ∧ Below w.heap.size w wr)) (fun _ _ iv _ => s.n - (intOf iv).toNat)
  case atStart => exact ⟨0, 0, by omega, rfl, rfl, by simp [crowdL, maxL], ⟨[], HM0.out.1, fun k _ => by simp⟩, HM0.out.2⟩
  case round =>
    clear HM0
    obtain ⟨j, m, hj, rfl, rfl, HJ⟩ := hrel
    by_cases hlt : j < s.n
    · have hlt' : (j : Int) < s.n := by omega
      obtain ⟨x, hx⟩ : ∃ x, l[j]? = some x := ⟨_, List.getElem?_eq_getElem (by rw [← HS.out]; exact hlt)⟩
      obtain ⟨g5, o5, e5, hg5, hr5⟩ := (HH.out _ HJ.out.2.2).row j x hx
      obtain ⟨u0, a0, q0⟩ := hr5 0 (by omega)
      obtain ⟨u1, a1, q1⟩ := hr5 1 (by omega)
      obtain ⟨u2, a2, q2⟩ := hr5 2 (by omega)
      obtain ⟨u3, a3, q3⟩ := hr5 3 (by omega)
      obtain ⟨u4, a4, q4⟩ := hr5 4 (by omega)
      obtain ⟨u5, a5, q5⟩ := hr5 5 (by omega)
      obtain ⟨u6, a6, q6⟩ := hr5 6 (by omega)
      have f0 : u0 = I x.ctr := q0
      have f1 : u1 = I x.ac.kind := q1
      have f2 : u2 = I x.ac.task := q2
      have f3 : u3 = .int .u32 (x.ac.mask : Int) := q3
      have f4 : u4 = .int .u32 (x.auto : Int) := q4
      have f5 : u5 = .int .u32 (x.time : Int) := q5
      have f6 : u6 = .int .u32 (x.cycle : Int) := q6
      subst f0 f1 f2 f3 f4 f5 f6
      rw [Nat.add_zero] at a0
      have bX : Below wr.heap.size wr (wr.alloc (.cells #[I x.ctr, I x.ac.kind, I x.ac.task, .int .u32 (x.ac.mask : Int), .int .u32 (x.auto : Int), .int .u32 (x.time : Int), .int .u32 (x.cycle : Int)] 99)) := below_alloc wr _
      have bW : Below w.heap.size w (wr.alloc (.cells #[I x.ctr, I x.ac.kind, I x.ac.task, .int .u32 (x.ac.mask : Int), .int .u32 (x.auto : Int), .int .u32 (x.time : Int), .int .u32 (x.cycle : Int)] 99)) := HJ.out.2.2.trans (bX.mono HJ.out.2.2.size)
      have hXX := heap_alloc_new wr (.cells #[I x.ctr, I x.ac.kind, I x.ac.task, .int .u32 (x.ac.mask : Int), .int .u32 (x.auto : Int), .int .u32 (x.time : Int), .int .u32 (x.cycle : Int)] 99)
      have hxl := List.mem_of_getElem? hx
      obtain ⟨c, hc⟩ := Int.eq_ofNat_of_zero_le (HPP.out x hxl).1
      have hcn : c < n := by have := (HPP.out x hxl).2; omega
      have HC : Hid (∀ W, Below w.heap.size w W → Calls Tryz.prog f (#[.agg #[I x.ctr, I x.ac.kind, I x.ac.task, .int .u32 (x.ac.mask : Int), .int .u32 (x.auto : Int), .int .u32 (x.time : Int), .int .u32 (x.cycle : Int)]] ++ caps) W fun e w' => e = .returned (I (c : Int)) ∧ Below W.heap.size W w') := fun W hW => by
        have := HFF.out W hW x hxl
        rw [hc] at this
        exact this
      obtain ⟨ks, hM, hz⟩ := HJ.out.2.1
      have hM0 := hM.below bX
      have hcnt : ((l.take j).map p).count (c : Int) ≤ 1048576 := by
        have h1 := List.count_le_length (a := (c : Int)) (l := (l.take j).map p)
        have h2 := HLL.out
        rw [List.length_map, List.length_take] at h1
        omega
      have hval : (if c ∈ ks then (((l.take j).map p).count (c : Int) : Int) else 0) = (((l.take j).map p).count (c : Int) : Int) := by
        by_cases h9 : c ∈ ks
        · rw [if_pos h9]
        · rw [if_neg h9, hz c h9]; rfl
      have htk : (l.take (j + 1)).map p = (l.take j).map p ++ [(c : Int)] := by
        rw [List.take_add_one, hx, Option.toList_some, List.map_append, List.map_singleton, hc]
      have HA : Hid ((max m ((((l.take j).map p).count (c : Int) : Int) + 1)) = (crowdL ((l.take (j + 1)).map p) : Nat)) := by
        show _ = _
        rw [htk, crowd_snoc, HJ.out.1]
        omega
      have HF : Hid (∀ W, MapOf W w.heap.size n (insK ks c) (mapF (fun k => (((l.take j).map p).count (k : Int) : Int)) c ((((l.take j).map p).count (c : Int) : Int) + 1)) → ∃ ks', MapOf W w.heap.size n ks' (fun k => (((l.take (j + 1)).map p).count (k : Int) : Int)) ∧ ∀ k : Nat, k ∉ ks' → ((l.take (j + 1)).map p).count (k : Int) = 0) := fun W hW => by
        have hcc : ∀ k : Nat, ((l.take (j + 1)).map p).count (k : Int) = ((l.take j).map p).count (k : Int) + (if k = c then 1 else 0) := fun k => by
          rw [htk, List.count_append, List.count_singleton]
          by_cases h9 : k = c
          · subst h9; simp
          · have h8 : ¬ (c : Int) = (k : Int) := by omega
            simp [h9, h8]
        refine ⟨_, hW.congr (fun k hk => ?_), fun k hk => ?_⟩
        · show mapF _ c _ k = _
          unfold mapF
          rw [hcc]
          by_cases h9 : k = c
          · subst h9; simp
          · rw [if_neg h9, if_neg h9]; simp
        · rw [hcc]
          have h1 : ¬ k = c := fun e => hk (mem_insK.2 (.inl e))
          have h2 : k ∉ ks := fun e => hk (mem_insK.2 (.inr e))
          rw [if_neg h1, hz k h2]
      rw [e5]
      have y0 : ∀ i u, #[I x.ctr, I x.ac.kind, I x.ac.task, .int .u32 (x.ac.mask : Int), .int .u32 (x.auto : Int), .int .u32 (x.time : Int), .int .u32 (x.cycle : Int)][i]? = some u → (wr.alloc (.cells #[I x.ctr, I x.ac.kind, I x.ac.task, .int .u32 (x.ac.mask : Int), .int .u32 (x.auto : Int), .int .u32 (x.time : Int), .int .u32 (x.cycle : Int)] 99)).cell? ⟨wr.heap.size, i, none⟩ = some u := fun i u hu => by rw [cell_of_row _ _ _ _ _ (0, 0) hXX]; simpa using hu
      have Hhr : Hid (HJ = HJ) := rfl
      clear hx e5 hr5 q0 q1 q2 q3 q4 q5 q6 Hhr hz hxl
      go_upto_region 5 with fail
      generalize hcg : ((l.take j).map p).count (c : Int) = cnt at *
      have Hcg : Hid (((l.take j).map p).count (c : Int) = cnt) := hcg
      have hbx : w.heap.size < wr.heap.size := hM.block
      have Hhbx : Hid (w.heap.size < wr.heap.size) := hbx
      have hxs : wr.heap.size < (wr.alloc (.cells #[I x.ctr, I x.ac.kind, I x.ac.task, .int .u32 (x.ac.mask : Int), .int .u32 (x.auto : Int), .int .u32 (x.time : Int), .int .u32 (x.cycle : Int)] 99)).heap.size := by simp
      have HXS : Hid (wr.heap.size < (wr.alloc (.cells #[I x.ctr, I x.ac.kind, I x.ac.task, .int .u32 (x.ac.mask : Int), .int .u32 (x.auto : Int), .int .u32 (x.time : Int), .int .u32 (x.cycle : Int)] 99)).heap.size) := hxs
      clear hcg hM hbx hxs hc hXX bX
      generalize wr.heap.size = X at *
      generalize (wr.alloc (.cells #[I x.ctr, I x.ac.kind, I x.ac.task, .int .u32 (x.ac.mask : Int), .int .u32 (x.auto : Int), .int .u32 (x.time : Int), .int .u32 (x.cycle : Int)] 99)) = W0 at *
      have y0_ := y0 0 _ rfl
      have y1_ := y0 1 _ rfl
      have y2_ := y0 2 _ rfl
      have y3_ := y0 3 _ rfl
      have y4_ := y0 4 _ rfl
      have y5_ := y0 5 _ rfl
      have y6_ := y0 6 _ rfl
      have c1 := HC.out W0 bW
      have HY : Hid (∀ i u, #[I x.ctr, I x.ac.kind, I x.ac.task, .int .u32 (x.ac.mask : Int), .int .u32 (x.auto : Int), .int .u32 (x.time : Int), .int .u32 (x.cycle : Int)][i]? = some u → W0.cell? ⟨X, i, none⟩ = some u) := y0
      have HM : Hid (MapOf W0 w.heap.size n ks (fun k => (((l.take j).map p).count (k : Int) : Int))) := hM0
      have HBW : Hid (Below w.heap.size w W0) := bW
      have hm0 := HJ.out.1
      have Hm0 : Hid (m = (crowdL ((l.take j).map p) : Nat)) := hm0
      clear y0 hM0 bW hm0 HJ
      go_wp2
      refine c1.mono ?_
      clear c1
      rintro e2 w2 ⟨rfl, hb2⟩
      have hM2 := HM.out.below hb2
      go_upto_region 6 with (first
        | (refine wpList_find_at rfl (.tmp 16) (.tmp 19) 216 rfl Tryz.underlying216 w.heap.size n ks _ rfl hM2 c (by omega) rfl ?_; intro e3 he3; have he4 : e3 = (cnt : Int) := (he3.out.trans (by show (if c ∈ ks then (((l.take j).map p).count (c : Int) : Int) else 0) = _; rw [Hcg.out]; exact hval)); subst he4; clear he3)
        | (refine wpList_put_at rfl (.tmp 16) (.tmp 19) (.tmp 21) 216 rfl Tryz.underlying216 w.heap.size n ks _ rfl hM2 (by omega) c hcn rfl ((cnt : Int) + 1) (WalkArith.wf_i64 (by omega)) rfl ?_; intro w3 hM3 hg3; have b3 : Below w.heap.size w w3 := ((HBW.out.trans (hb2.mono HBW.out.size)).grown hg3 (HBW.out.trans (hb2.mono HBW.out.size)).size (fun k e => (by cases e; exact Nat.le_refl _))); have HY3 : Hid (∀ i u, #[I x.ctr, I x.ac.kind, I x.ac.task, .int .u32 (x.ac.mask : Int), .int .u32 (x.auto : Int), .int .u32 (x.time : Int), .int .u32 (x.cycle : Int)][i]? = some u → w3.cell? ⟨X, i, none⟩ = some u) := (fun i u hu => (World.cell?_of_block (hg3.block X (Nat.lt_of_lt_of_le HXS.out hb2.size) (by intro e; injection e with e1; exact absurd e1 (Nat.ne_of_gt Hhbx.out)))).trans ((hb2.cell (p := ⟨X, i, none⟩) HXS.out).trans (HY.out i u hu)))))
      clear y0_ y1_ y2_ y3_ y4_ y5_ y6_
      have t0 := HY3.out 0 _ rfl
      have t1 := HY3.out 1 _ rfl
      have t2 := HY3.out 2 _ rfl
      have t3 := HY3.out 3 _ rfl
      have t4 := HY3.out 4 _ rfl
      have t5 := HY3.out 5 _ rfl
      have t6 := HY3.out 6 _ rfl
      have c3 := HC.out w3 b3
      have HM3 : Hid (MapOf w3 w.heap.size n (insK ks c) (mapF (fun k => (((l.take j).map p).count (k : Int) : Int)) c ((cnt : Int) + 1)) ∧ Below w.heap.size w w3) := ⟨hM3, b3⟩
      clear hM2 hg3 b3 hb2
      have hM3 := HM3.out.1
      go_wp2
      refine c3.mono ?_
      clear c3
      rintro e4 w4 ⟨rfl, hb4⟩
      have hM4 := hM3.below hb4
      go_wp2_with (first
        | (refine wpList_find_at rfl (.tmp 23) (.tmp 26) 216 rfl Tryz.underlying216 w.heap.size n (insK ks c) _ rfl hM4 c (by omega) rfl ?_; intro e5 he5; have he6 : e5 = (cnt : Int) + 1 := (he5.out.trans (by rw [if_pos (mem_insK.2 (.inl rfl))]; unfold mapF; rw [if_pos rfl])); subst he6; clear he5))
      go_roundw
      case rel => exact ⟨j + 1, _, by omega, by go_num, rfl, (by rw [← HA.out]; split <;> omega), HF.out w4 hM4, HM3.out.2.trans (hb4.mono HM3.out.2.size)⟩
      case measure => simp [intOf]; omega
    · obtain rfl : j = s.n := by omega
      have hlt' : ¬ ((s.n : Nat) : Int) < (s.n : Nat) := by omega
      have HE : Hid (m = R) := by
        show _ = _
        rw [HR.out, HJ.out.1, List.take_of_length_le (by rw [HS.out]; exact Nat.le_refl _)]
      have HB : Hid (Below w.heap.size w wr) := HJ.out.2.2
      clear HR HJ
      go_wp2
      go_ret
      exact ⟨ret_i HE.out, HB.out⟩
end Go.Proofs.YthhckhifaolmkaaGreat

namespace Go.Proofs.YthhckhifaolmkaaGreat
open Go.RowKit Go.Shelf Go.Sort Go.Maps
set_option linter.unusedVariables false
set_option linter.unusedSimpArgs false

set_option maxHeartbeats 8000000 in
set_option maxRecDepth 100000 in
theorem crowd_msr (w : World) (s : Sl) (l : List MsR) (hl : ∀ W, Below w.heap.size w W → RowsAt W 8 msrP s l) (f : Nat) (caps : Array Value) (eg : ∀ args W, (callFunc f args).run Tryz.prog W = .ok (.enter f args) W) (p : MsR → Int) (n : Nat) (hp : ∀ x ∈ l, 0 ≤ p x ∧ p x < (n : Int)) (hn : n ≤ 1048576) (hll : l.length ≤ 1048576)
    (hf : ∀ W, Below w.heap.size w W → ∀ x ∈ l, Calls Tryz.prog f (#[.agg #[I x.kind, I x.len, I x.frm, .int .u64 (x.init : Int), I x.queue, I x.ac.kind, I x.ac.task, .int .u32 (x.ac.mask : Int)]] ++ caps) W fun e w' => e = .returned (I (p x)) ∧ Below W.heap.size W w') :
    Calls Tryz.prog 138 #[.slice s.a s.n s.c, .func (.func f) #[] caps] w fun e w' => e = .returned (I (crowdL (l.map p))) ∧ Below w.heap.size w w' := by
  have hmm := @run_makeMap Tryz.prog
  have h0 := hl w (Below.refl _ _)
  have HS : Hid (s.n = l.length) := h0.n
  have hsc : s.n ≤ s.c := h0.c
  have hsm : s.c ≤ maxLen := h0.m
  unfold maxLen at hsm
  have HH : Hid (∀ W, Below w.heap.size w W → RowsAt W 8 msrP s l) := hl
  have HFF : Hid (∀ W, Below w.heap.size w W → ∀ x ∈ l, Calls Tryz.prog f (#[.agg #[I x.kind, I x.len, I x.frm, .int .u64 (x.init : Int), I x.queue, I x.ac.kind, I x.ac.task, .int .u32 (x.ac.mask : Int)]] ++ caps) W fun e w' => e = .returned (I (p x)) ∧ Below W.heap.size W w') := hf
  have HPP : Hid (∀ x ∈ l, 0 ≤ p x ∧ p x < (n : Int)) := hp
  have HLL : Hid (l.length ≤ 1048576) := hll
  have HM0 : Hid (MapOf (w.alloc (.map #[] 0)) w.heap.size n [] (fun k => (((l.take 0).map p).count (k : Int) : Int)) ∧ Below w.heap.size w (w.alloc (.map #[] 0))) := ⟨MapOf.made w n _, below_alloc w _⟩
  obtain ⟨R, hR⟩ : ∃ R : Int, R = crowdL (l.map p) := ⟨_, rfl⟩
  rw [← hR]
  have HR : Hid (R = crowdL (l.map p)) := hR
  clear hl hR hf h0 hp hll
  go_enter Tryz.func138, Tryz.ntmps138
  go_wp2
  clear hmm
  go_loopw [6, 8, 12] (fun mv _ iv wr => ∃ (j : Nat) (m : Int), j ≤ s.n ∧ iv = .int .i64 j ∧ mv = .int .i64 m ∧ Hid (m = (crowdL ((l.take j).map p) : Nat) ∧ (∃ ks, MapOf wr w.heap.size n ks (fun k => (((l.take j).map p).count (k : Int) : Int)) ∧ ∀ k : Nat, k ∉ ks → ((l.take j).map p).count (k : Int) = 0) ∧ Below w.heap.size w wr)) (fun _ _ iv _ => s.n - (intOf iv).toNat)
  case atStart => exact ⟨0, 0, by omega, rfl, rfl, by simp [crowdL, maxL], ⟨[], HM0.out.1, fun k _ => by simp⟩, HM0.out.2⟩
  case round =>
    clear HM0
    obtain ⟨j, m, hj, rfl, rfl, HJ⟩ := hrel
    by_cases hlt : j < s.n
    · have hlt' : (j : Int) < s.n := by omega
      obtain ⟨x, hx⟩ : ∃ x, l[j]? = some x := ⟨_, List.getElem?_eq_getElem (by rw [← HS.out]; exact hlt)⟩
      obtain ⟨g5, o5, e5, hg5, hr5⟩ := (HH.out _ HJ.out.2.2).row j x hx
      obtain ⟨u0, a0, q0⟩ := hr5 0 (by omega)
      obtain ⟨u1, a1, q1⟩ := hr5 1 (by omega)
      obtain ⟨u2, a2, q2⟩ := hr5 2 (by omega)
      obtain ⟨u3, a3, q3⟩ := hr5 3 (by omega)
      obtain ⟨u4, a4, q4⟩ := hr5 4 (by omega)
      obtain ⟨u5, a5, q5⟩ := hr5 5 (by omega)
      obtain ⟨u6, a6, q6⟩ := hr5 6 (by omega)
      obtain ⟨u7, a7, q7⟩ := hr5 7 (by omega)
      have f0 : u0 = I x.kind := q0
      have f1 : u1 = I x.len := q1
      have f2 : u2 = I x.frm := q2
      have f3 : u3 = .int .u64 (x.init : Int) := q3
      have f4 : u4 = I x.queue := q4
      have f5 : u5 = I x.ac.kind := q5
      have f6 : u6 = I x.ac.task := q6
      have f7 : u7 = .int .u32 (x.ac.mask : Int) := q7
      subst f0 f1 f2 f3 f4 f5 f6 f7
      rw [Nat.add_zero] at a0
      have bX : Below wr.heap.size wr (wr.alloc (.cells #[I x.kind, I x.len, I x.frm, .int .u64 (x.init : Int), I x.queue, I x.ac.kind, I x.ac.task, .int .u32 (x.ac.mask : Int)] 184)) := below_alloc wr _
      have bW : Below w.heap.size w (wr.alloc (.cells #[I x.kind, I x.len, I x.frm, .int .u64 (x.init : Int), I x.queue, I x.ac.kind, I x.ac.task, .int .u32 (x.ac.mask : Int)] 184)) := HJ.out.2.2.trans (bX.mono HJ.out.2.2.size)
      have hXX := heap_alloc_new wr (.cells #[I x.kind, I x.len, I x.frm, .int .u64 (x.init : Int), I x.queue, I x.ac.kind, I x.ac.task, .int .u32 (x.ac.mask : Int)] 184)
      have hxl := List.mem_of_getElem? hx
      obtain ⟨c, hc⟩ := Int.eq_ofNat_of_zero_le (HPP.out x hxl).1
      have hcn : c < n := by have := (HPP.out x hxl).2; omega
      have HC : Hid (∀ W, Below w.heap.size w W → Calls Tryz.prog f (#[.agg #[I x.kind, I x.len, I x.frm, .int .u64 (x.init : Int), I x.queue, I x.ac.kind, I x.ac.task, .int .u32 (x.ac.mask : Int)]] ++ caps) W fun e w' => e = .returned (I (c : Int)) ∧ Below W.heap.size W w') := fun W hW => by
        have := HFF.out W hW x hxl
        rw [hc] at this
        exact this
      obtain ⟨ks, hM, hz⟩ := HJ.out.2.1
      have hM0 := hM.below bX
      have hcnt : ((l.take j).map p).count (c : Int) ≤ 1048576 := by
        have h1 := List.count_le_length (a := (c : Int)) (l := (l.take j).map p)
        have h2 := HLL.out
        rw [List.length_map, List.length_take] at h1
        omega
      have hval : (if c ∈ ks then (((l.take j).map p).count (c : Int) : Int) else 0) = (((l.take j).map p).count (c : Int) : Int) := by
        by_cases h9 : c ∈ ks
        · rw [if_pos h9]
        · rw [if_neg h9, hz c h9]; rfl
      have htk : (l.take (j + 1)).map p = (l.take j).map p ++ [(c : Int)] := by
        rw [List.take_add_one, hx, Option.toList_some, List.map_append, List.map_singleton, hc]
      have HA : Hid ((max m ((((l.take j).map p).count (c : Int) : Int) + 1)) = (crowdL ((l.take (j + 1)).map p) : Nat)) := by
        show _ = _
        rw [htk, crowd_snoc, HJ.out.1]
        omega
      have HF : Hid (∀ W, MapOf W w.heap.size n (insK ks c) (mapF (fun k => (((l.take j).map p).count (k : Int) : Int)) c ((((l.take j).map p).count (c : Int) : Int) + 1)) → ∃ ks', MapOf W w.heap.size n ks' (fun k => (((l.take (j + 1)).map p).count (k : Int) : Int)) ∧ ∀ k : Nat, k ∉ ks' → ((l.take (j + 1)).map p).count (k : Int) = 0) := fun W hW => by
        have hcc : ∀ k : Nat, ((l.take (j + 1)).map p).count (k : Int) = ((l.take j).map p).count (k : Int) + (if k = c then 1 else 0) := fun k => by
          rw [htk, List.count_append, List.count_singleton]
          by_cases h9 : k = c
          · subst h9; simp
          · have h8 : ¬ (c : Int) = (k : Int) := by omega
            simp [h9, h8]
        refine ⟨_, hW.congr (fun k hk => ?_), fun k hk => ?_⟩
        · show mapF _ c _ k = _
          unfold mapF
          rw [hcc]
          by_cases h9 : k = c
          · subst h9; simp
          · rw [if_neg h9, if_neg h9]; simp
        · rw [hcc]
          have h1 : ¬ k = c := fun e => hk (mem_insK.2 (.inl e))
          have h2 : k ∉ ks := fun e => hk (mem_insK.2 (.inr e))
          rw [if_neg h1, hz k h2]
      rw [e5]
      have y0 : ∀ i u, #[I x.kind, I x.len, I x.frm, .int .u64 (x.init : Int), I x.queue, I x.ac.kind, I x.ac.task, .int .u32 (x.ac.mask : Int)][i]? = some u → (wr.alloc (.cells #[I x.kind, I x.len, I x.frm, .int .u64 (x.init : Int), I x.queue, I x.ac.kind, I x.ac.task, .int .u32 (x.ac.mask : Int)] 184)).cell? ⟨wr.heap.size, i, none⟩ = some u := fun i u hu => by rw [cell_of_row _ _ _ _ _ (0, 0) hXX]; simpa using hu
      have Hhr : Hid (HJ = HJ) := rfl
      clear hx e5 hr5 q0 q1 q2 q3 q4 q5 q6 q7 Hhr hz hxl
      go_upto_region 5 with fail
      generalize hcg : ((l.take j).map p).count (c : Int) = cnt at *
      have Hcg : Hid (((l.take j).map p).count (c : Int) = cnt) := hcg
      have hbx : w.heap.size < wr.heap.size := hM.block
      have Hhbx : Hid (w.heap.size < wr.heap.size) := hbx
      have hxs : wr.heap.size < (wr.alloc (.cells #[I x.kind, I x.len, I x.frm, .int .u64 (x.init : Int), I x.queue, I x.ac.kind, I x.ac.task, .int .u32 (x.ac.mask : Int)] 184)).heap.size := by simp
      have HXS : Hid (wr.heap.size < (wr.alloc (.cells #[I x.kind, I x.len, I x.frm, .int .u64 (x.init : Int), I x.queue, I x.ac.kind, I x.ac.task, .int .u32 (x.ac.mask : Int)] 184)).heap.size) := hxs
      clear hcg hM hbx hxs hc hXX bX
      generalize wr.heap.size = X at *
      generalize (wr.alloc (.cells #[I x.kind, I x.len, I x.frm, .int .u64 (x.init : Int), I x.queue, I x.ac.kind, I x.ac.task, .int .u32 (x.ac.mask : Int)] 184)) = W0 at *
      have y0_ := y0 0 _ rfl
      have y1_ := y0 1 _ rfl
      have y2_ := y0 2 _ rfl
      have y3_ := y0 3 _ rfl
      have y4_ := y0 4 _ rfl
      have y5_ := y0 5 _ rfl
      have y6_ := y0 6 _ rfl
      have y7_ := y0 7 _ rfl
      have c1 := HC.out W0 bW
      have HY : Hid (∀ i u, #[I x.kind, I x.len, I x.frm, .int .u64 (x.init : Int), I x.queue, I x.ac.kind, I x.ac.task, .int .u32 (x.ac.mask : Int)][i]? = some u → W0.cell? ⟨X, i, none⟩ = some u) := y0
      have HM : Hid (MapOf W0 w.heap.size n ks (fun k => (((l.take j).map p).count (k : Int) : Int))) := hM0
      have HBW : Hid (Below w.heap.size w W0) := bW
      have hm0 := HJ.out.1
      have Hm0 : Hid (m = (crowdL ((l.take j).map p) : Nat)) := hm0
      clear y0 hM0 bW hm0 HJ
      go_wp2
      refine c1.mono ?_
      clear c1
      rintro e2 w2 ⟨rfl, hb2⟩
      have hM2 := HM.out.below hb2
      go_upto_region 6 with (first
        | (refine wpList_find_at rfl (.tmp 16) (.tmp 19) 216 rfl Tryz.underlying216 w.heap.size n ks _ rfl hM2 c (by omega) rfl ?_; intro e3 he3; have he4 : e3 = (cnt : Int) := (he3.out.trans (by show (if c ∈ ks then (((l.take j).map p).count (c : Int) : Int) else 0) = _; rw [Hcg.out]; exact hval)); subst he4; clear he3)
        | (refine wpList_put_at rfl (.tmp 16) (.tmp 19) (.tmp 21) 216 rfl Tryz.underlying216 w.heap.size n ks _ rfl hM2 (by omega) c hcn rfl ((cnt : Int) + 1) (WalkArith.wf_i64 (by omega)) rfl ?_; intro w3 hM3 hg3; have b3 : Below w.heap.size w w3 := ((HBW.out.trans (hb2.mono HBW.out.size)).grown hg3 (HBW.out.trans (hb2.mono HBW.out.size)).size (fun k e => (by cases e; exact Nat.le_refl _))); have HY3 : Hid (∀ i u, #[I x.kind, I x.len, I x.frm, .int .u64 (x.init : Int), I x.queue, I x.ac.kind, I x.ac.task, .int .u32 (x.ac.mask : Int)][i]? = some u → w3.cell? ⟨X, i, none⟩ = some u) := (fun i u hu => (World.cell?_of_block (hg3.block X (Nat.lt_of_lt_of_le HXS.out hb2.size) (by intro e; injection e with e1; exact absurd e1 (Nat.ne_of_gt Hhbx.out)))).trans ((hb2.cell (p := ⟨X, i, none⟩) HXS.out).trans (HY.out i u hu)))))
      clear y0_ y1_ y2_ y3_ y4_ y5_ y6_ y7_
      have t0 := HY3.out 0 _ rfl
      have t1 := HY3.out 1 _ rfl
      have t2 := HY3.out 2 _ rfl
      have t3 := HY3.out 3 _ rfl
      have t4 := HY3.out 4 _ rfl
      have t5 := HY3.out 5 _ rfl
      have t6 := HY3.out 6 _ rfl
      have t7 := HY3.out 7 _ rfl
      have c3 := HC.out w3 b3
      have HM3 : Hid (MapOf w3 w.heap.size n (insK ks c) (mapF (fun k => (((l.take j).map p).count (k : Int) : Int)) c ((cnt : Int) + 1)) ∧ Below w.heap.size w w3) := ⟨hM3, b3⟩
      clear hM2 hg3 b3 hb2
      have hM3 := HM3.out.1
      go_wp2
      refine c3.mono ?_
      clear c3
      rintro e4 w4 ⟨rfl, hb4⟩
      have hM4 := hM3.below hb4
      go_wp2_with (first
        | (refine wpList_find_at rfl (.tmp 23) (.tmp 26) 216 rfl Tryz.underlying216 w.heap.size n (insK ks c) _ rfl hM4 c (by omega) rfl ?_; intro e5 he5; have he6 : e5 = (cnt : Int) + 1 := (he5.out.trans (by rw [if_pos (mem_insK.2 (.inl rfl))]; unfold mapF; rw [if_pos rfl])); subst he6; clear he5))
      go_roundw
      case rel => exact ⟨j + 1, _, by omega, by go_num, rfl, (by rw [← HA.out]; split <;> omega), HF.out w4 hM4, HM3.out.2.trans (hb4.mono HM3.out.2.size)⟩
      case measure => simp [intOf]; omega
    · obtain rfl : j = s.n := by omega
      have hlt' : ¬ ((s.n : Nat) : Int) < (s.n : Nat) := by omega
      have HE : Hid (m = R) := by
        show _ = _
        rw [HR.out, HJ.out.1, List.take_of_length_le (by rw [HS.out]; exact Nat.le_refl _)]
      have HB : Hid (Below w.heap.size w wr) := HJ.out.2.2
      clear HR HJ
      go_wp2
      go_ret
      exact ⟨ret_i HE.out, HB.out⟩
end Go.Proofs.YthhckhifaolmkaaGreat

namespace Go.Proofs.YthhckhifaolmkaaGreat
open Go.RowKit Go.Shelf Go.Sort
set_option linter.unusedVariables false
set_option linter.unusedSimpArgs false

/-! ### those of the messages -/
theorem minfo : (Tryz.prog.info? 184).map (fun i => (i.zero, i.size, i.bytes)) = some (some (.agg #[I 0, I 0, I 0, .int .u64 0, I 0, I 0, I 0, .int .u32 0]), 8, 64) := by kernel_rfl
def flatM (l : List MsR) : List Value := l.flatMap (fun x => (msrC x).toList)
theorem flatM_len (l : List MsR) : (flatM l).length = l.length * 8 := by
  induction l with
  | nil => rfl
  | cons x r ih =>
    rw [flatM, List.flatMap_cons, List.length_append, List.length_cons]
    have : (List.flatMap (fun x => (msrC x).toList) r).length = r.length * 8 := ih
    rw [this]
    have h8 : ((msrC x).toList).length = 8 := rfl
    omega
theorem flatM_snoc (l : List MsR) (x : MsR) : flatM (l ++ [x]) = flatM l ++ (msrC x).toList := by simp [flatM]
theorem flatM_at : ∀ (l : List MsR) (j : Nat) (x : MsR) (i : Nat) (u : Value), l[j]? = some x → (msrC x)[i]? = some u → i < 8 → (flatM l)[j * 8 + i]? = some u
  | [], j, x, i, u, h, _, _ => by simp at h
  | y :: r, 0, x, i, u, h, hu, hi => by
    cases h
    have h8 : ((msrC y).toList).length = 8 := rfl
    rw [flatM, List.flatMap_cons, Nat.zero_mul, Nat.zero_add, List.getElem?_append_left (by omega)]
    rw [Array.getElem?_toList]
    exact hu
  | y :: r, j + 1, x, i, u, h, hu, hi => by
    have ih := flatM_at r j x i u (by simpa using h) hu hi
    have h8 : ((msrC y).toList).length = 8 := rfl
    rw [flatM, List.flatMap_cons, List.getElem?_append_right (by omega), show (j + 1) * 8 + i - ((msrC y).toList).length = j * 8 + i by omega]
    exact ih
theorem rows_of_own {w : World} {b : Nat} {a : Option Addr} {c : Nat} {l : List MsR} (hl : l.length ≤ 1048576) (h : w.ownsRow b 184 8 (.slice a l.length c) l.length (flatM l)) : RowsAt w 8 msrP ⟨a, l.length, c⟩ l := by
  rcases h.2 with ⟨h1, h0⟩ | ⟨g, cap, cur, h1, hb, hg, hnc, hcm, hcs, ht⟩
  · have hn : l = [] := List.eq_nil_of_length_eq_zero h0
    subst hn
    injection h1 with e1 e2 e3
    subst e1 e3
    exact ⟨rfl, Nat.le_refl _, Nat.zero_le _, fun j x hj => by simp at hj⟩
  · injection h1 with e1 e2 e3
    subst e1 e3
    refine ⟨rfl, hnc, hcm, fun j x hj => ⟨g, 0, rfl, heap_lt hg, fun i hi => ?_⟩⟩
    have hjl := (List.getElem?_eq_some_iff.1 hj).1
    have h8 : (msrC x).size = 8 := rfl
    obtain ⟨u, hu⟩ : ∃ u, (msrC x)[i]? = some u := ⟨_, Array.getElem?_eq_getElem (by omega)⟩
    refine ⟨u, ?_, ?_⟩
    · rw [Nat.zero_add, h.cellAt (j * 8 + i) (by omega)]
      exact flatM_at l j x i u hj hu hi
    · rcases (by omega : i = 0 ∨ i = 1 ∨ i = 2 ∨ i = 3 ∨ i = 4 ∨ i = 5 ∨ i = 6 ∨ i = 7) with e | e | e | e | e | e | e | e <;> (subst e; cases hu; rfl)
theorem Addr.add_mid9 (b o j : Nat) : (⟨b, o, none⟩ : Addr).add j = ⟨b, o + j, none⟩ := by unfold Addr.add; split <;> simp_all
theorem own_sl8 {w : World} {b E n : Nat} {v : Value} {xs : List Value} (h : w.ownsRow b E 8 v n xs) : ∃ a cc, v = .slice a n cc := by
  rcases h.2 with ⟨h1, h0⟩ | ⟨g, cap, cur, h1, _⟩
  · exact ⟨none, 0, by rw [h0]; exact h1⟩
  · exact ⟨_, _, h1⟩
set_option maxHeartbeats 8000000 in
set_option maxRecDepth 100000 in
theorem those_msr (w : World) (s : Sl) (l : List MsR) (hl : ∀ W, Below w.heap.size w W → RowsAt W 8 msrP s l) (hll : l.length ≤ 1048576) (f : Nat) (caps : Array Value) (eg : ∀ args W, (callFunc f args).run Tryz.prog W = .ok (.enter f args) W) (p : MsR → Bool)
    (hf : ∀ W, Below w.heap.size w W → ∀ x ∈ l, Calls Tryz.prog f (#[.agg #[I x.kind, I x.len, I x.frm, .int .u64 (x.init : Int), I x.queue, I x.ac.kind, I x.ac.task, .int .u32 (x.ac.mask : Int)]] ++ caps) W fun e w' => e = .returned (.bool (p x)) ∧ Below W.heap.size W w') :
    Calls Tryz.prog 139 #[.slice s.a s.n s.c, .func (.func f) #[] caps] w fun e w' => (∃ a c, e = .returned (.slice a (l.filter p).length c) ∧ RowsAt w' 8 msrP ⟨a, (l.filter p).length, c⟩ (l.filter p)) ∧ Below w.heap.size w w' := by
  obtain ⟨im, him, hm0, hm1, hm2⟩ := info_parts minfo
  have h0 := hl w (Below.refl _ _)
  have HS : Hid (s.n = l.length) := h0.n
  have hsc : s.n ≤ s.c := h0.c
  have hsm : s.c ≤ maxLen := h0.m
  unfold maxLen at hsm
  have HH : Hid (∀ W, Below w.heap.size w W → RowsAt W 8 msrP s l) := hl
  have HFF : Hid (∀ W, Below w.heap.size w W → ∀ x ∈ l, Calls Tryz.prog f (#[.agg #[I x.kind, I x.len, I x.frm, .int .u64 (x.init : Int), I x.queue, I x.ac.kind, I x.ac.task, .int .u32 (x.ac.mask : Int)]] ++ caps) W fun e w' => e = .returned (.bool (p x)) ∧ Below W.heap.size W w') := hf
  have HLL : Hid (l.length ≤ 1048576) := hll
  clear hl hf h0 hll
  go_enter Tryz.func139, Tryz.ntmps139
  go_wp2
  go_loopw [5, 7, 10] (fun ov _ iv wr => ∃ (j q : Nat) (a : Option Addr) (c : Nat), j ≤ s.n ∧ iv = .int .i64 j ∧ ov = .slice a q c ∧ Hid (q = ((l.take j).filter p).length ∧ wr.ownsRow w.heap.size 184 8 (.slice a q c) q (flatM ((l.take j).filter p)) ∧ Below w.heap.size w wr)) (fun _ _ iv _ => s.n - (intOf iv).toNat)
  case atStart => exact ⟨0, 0, none, 0, by omega, rfl, rfl, by simp, World.ownsRow_nil _ _ _ _, Below.refl _ _⟩
  case round =>
    obtain ⟨j, q, a, c, hj, rfl, rfl, HJ⟩ := hrel
    by_cases hlt : j < s.n
    · have hlt' : (j : Int) < s.n := by omega
      obtain ⟨x, hx⟩ : ∃ x, l[j]? = some x := ⟨_, List.getElem?_eq_getElem (by rw [← HS.out]; exact hlt)⟩
      obtain ⟨g5, o5, e5, hg5, hr5⟩ := (HH.out _ HJ.out.2.2).row j x hx
      obtain ⟨u0, a0, q0⟩ := hr5 0 (by omega)
      obtain ⟨u1, a1, q1⟩ := hr5 1 (by omega)
      obtain ⟨u2, a2, q2⟩ := hr5 2 (by omega)
      obtain ⟨u3, a3, q3⟩ := hr5 3 (by omega)
      obtain ⟨u4, a4, q4⟩ := hr5 4 (by omega)
      obtain ⟨u5, a5, q5⟩ := hr5 5 (by omega)
      obtain ⟨u6, a6, q6⟩ := hr5 6 (by omega)
      obtain ⟨u7, a7, q7⟩ := hr5 7 (by omega)
      have f0 : u0 = I x.kind := q0
      have f1 : u1 = I x.len := q1
      have f2 : u2 = I x.frm := q2
      have f3 : u3 = .int .u64 (x.init : Int) := q3
      have f4 : u4 = I x.queue := q4
      have f5 : u5 = I x.ac.kind := q5
      have f6 : u6 = I x.ac.task := q6
      have f7 : u7 = .int .u32 (x.ac.mask : Int) := q7
      subst f0 f1 f2 f3 f4 f5 f6 f7
      rw [Nat.add_zero] at a0
      have bX : Below wr.heap.size wr (wr.alloc (.cells #[I x.kind, I x.len, I x.frm, .int .u64 (x.init : Int), I x.queue, I x.ac.kind, I x.ac.task, .int .u32 (x.ac.mask : Int)] 184)) := below_alloc wr _
      have bW : Below w.heap.size w (wr.alloc (.cells #[I x.kind, I x.len, I x.frm, .int .u64 (x.init : Int), I x.queue, I x.ac.kind, I x.ac.task, .int .u32 (x.ac.mask : Int)] 184)) := HJ.out.2.2.trans (bX.mono HJ.out.2.2.size)
      have hXX := heap_alloc_new wr (.cells #[I x.kind, I x.len, I x.frm, .int .u64 (x.init : Int), I x.queue, I x.ac.kind, I x.ac.task, .int .u32 (x.ac.mask : Int)] 184)
      have cx := HFF.out _ bW x (List.mem_of_getElem? hx)
      have oX := own_below HJ.out.2.1 bX
      have HTk : Hid (l.take (j + 1) = l.take j ++ [x]) := by show _ = _; rw [List.take_add_one, hx]; rfl
      have HQ : Hid (q = ((l.take j).filter p).length ∧ q ≤ 1048576) := ⟨HJ.out.1, by
        have h1 := HJ.out.1
        have h2 := List.length_filter_le p (l.take j)
        have h3 := HLL.out
        rw [List.length_take] at h2
        omega⟩
      rw [e5]
      clear hx e5 hr5 q0 q1 q2 q3 q4 q5 q6 q7 HJ
      go_upto_region 5 with fail
      generalize wr.heap.size = X at *
      generalize (wr.alloc (.cells #[I x.kind, I x.len, I x.frm, .int .u64 (x.init : Int), I x.queue, I x.ac.kind, I x.ac.task, .int .u32 (x.ac.mask : Int)] 184)) = W0 at *
      have HXX : Hid (∀ W, Below W0.heap.size W0 W → W.heap[X]? = some (.cells #[I x.kind, I x.len, I x.frm, .int .u64 (x.init : Int), I x.queue, I x.ac.kind, I x.ac.task, .int .u32 (x.ac.mask : Int)] 184)) := fun W hW => (hW.block X (heap_lt hXX)).trans hXX
      have hi97 : (Tryz.prog.info? 184).map (·.size) = some (#[I x.kind, I x.len, I x.frm, .int .u64 (x.init : Int), I x.queue, I x.ac.kind, I x.ac.task, .int .u32 (x.ac.mask : Int)] : Array Value).size := by kernel_rfl
      have HO : Hid (∀ W, Below W0.heap.size W0 W → W.ownsRow w.heap.size 184 8 (.slice a q c) q (flatM ((l.take j).filter p))) := fun W hW => own_below oX hW
      have HBW : Hid (Below w.heap.size w W0) := bW
      clear oX bW bX
      cases hpx : p x with
      | false =>
        rw [hpx] at cx
        go_wp2_with (first
          | (refine wpList_load_row rfl 184 _ rfl X rfl 184 _ (0, 0) _ hXX Tryz.underlying184 rfl hi97 ?_))
        refine cx.mono ?_
        clear cx
        rintro e7 w7 ⟨rfl, hb7⟩
        have H9 : Hid (q = ((l.take (j + 1)).filter p).length ∧ w7.ownsRow w.heap.size 184 8 (.slice a q c) q (flatM ((l.take (j + 1)).filter p)) ∧ Below w.heap.size w w7) := by
          have e9 : (l.take (j + 1)).filter p = (l.take j).filter p := by rw [HTk.out, List.filter_append]; simp [hpx]
          rw [e9]
          exact ⟨HQ.out.1, HO.out w7 hb7, HBW.out.trans (hb7.mono HBW.out.size)⟩
        clear hb7
        go_wp2
        go_roundw
        case rel => exact ⟨j + 1, q, a, c, by omega, by go_num, rfl, H9.out⟩
        case measure => simp [intOf]; omega
      | true =>
        rw [hpx] at cx
        go_wp2_with (first
          | (refine wpList_load_row rfl 184 _ rfl X rfl 184 _ (0, 0) _ hXX Tryz.underlying184 rfl hi97 ?_))
        refine cx.mono ?_
        clear cx
        rintro e7 w7 ⟨rfl, hb7⟩
        have hX7 := HXX.out w7 hb7
        have o7 := HO.out w7 hb7
        have b7 : Below w.heap.size w w7 := HBW.out.trans (hb7.mono HBW.out.size)
        clear hb7
        have hqq := HQ.out.2
        have s7 := b7.size
        go_wp2_with (first
          | (refine wpList_load_row rfl 184 _ rfl X rfl 184 _ (0, 0) _ hX7 Tryz.underlying184 rfl hi97 ?_)
          | (at_builtin; refine wpList_append_own _ rfl (.tmp 17) (.tmp 19) 35 rfl w.heap.size 184 im _ 8 64 Tryz.underlying35 him hm0 hm1 hm2 rfl (by decide) _ _ _ rfl (o7.alloc _) ⟨w7.heap.size, 0, none⟩ 1 1 (msrC x).toList rfl rfl (fun jj uu hu => by rw [Addr.add_mid9, cell_of_row _ _ _ _ _ (0, 0) (heap_alloc_new w7 _)]; rw [Nat.zero_add]; rw [Array.getElem?_toList] at hu; exact hu) (fun uu hu => (by unfold msrC at hu; simp at hu; rcases hu with e | e | e | e | e | e | e | e <;> (subst e; rfl))) (by unfold maxLen; omega) (by omega) (by simp; omega) ?_))
        intro v8 w8 o8 g8 _
        obtain ⟨a8, k8, rfl⟩ := own_sl8 o8
        have H9 : Hid (q + 1 = ((l.take (j + 1)).filter p).length ∧ w8.ownsRow w.heap.size 184 8 (.slice a8 (q + 1) k8) (q + 1) (flatM ((l.take (j + 1)).filter p)) ∧ Below w.heap.size w w8) := by
          have e9 : (l.take (j + 1)).filter p = (l.take j).filter p ++ [x] := by rw [HTk.out, List.filter_append]; simp [hpx]
          rw [e9, flatM_snoc]
          refine ⟨by rw [List.length_append, ← HQ.out.1]; rfl, o8, (b7.alloc b7.size _).grown g8 (by simp; omega) (fun k e => (o7.lt k e).1)⟩
        clear o8 g8 o7 b7 hX7
        go_wp2
        go_roundw
        case rel => exact ⟨j + 1, q + 1, a8, k8, by omega, by go_num, rfl, H9.out⟩
        case measure => simp [intOf]; omega
    · obtain rfl : j = s.n := by omega
      have hlt' : ¬ ((s.n : Nat) : Int) < (s.n : Nat) := by omega
      have HE : Hid (q = (l.filter p).length ∧ wr.ownsRow w.heap.size 184 8 (.slice a q c) q (flatM (l.filter p)) ∧ Below w.heap.size w wr) := by
        have := HJ.out
        rwa [List.take_of_length_le (by rw [HS.out]; exact Nat.le_refl _)] at this
      have Hll : Hid ((l.filter p).length ≤ 1048576) := Nat.le_trans (List.length_filter_le p l) HLL.out
      clear HJ
      go_wp2
      go_ret
      obtain ⟨h1, h2, h3⟩ := HE.out
      subst h1
      exact ⟨⟨a, c, rfl, rows_of_own Hll.out h2⟩, h3⟩
end Go.Proofs.YthhckhifaolmkaaGreat

