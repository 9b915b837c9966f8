import Derived.Test.YtijgopkhdjaolaaGreatXTcq
import Derived.Deep.Cut
import Derived.Deep.RegionHeldLaw
namespace Go.Proofs.YtijgopkhdjaolaaGreat
open Go.Maps Go.RowKit Go.Shelf Go.Sort
set_option linter.unusedSimpArgs false
set_option linter.unusedVariables false
set_option maxHeartbeats 16000000
set_option maxRecDepth 100000
theorem qjf (w : World) (s : Sl) (l : List AlR) (hl : ∀ W,Below w.heap.size w W → RowsAt W 7 alrP s l) (f : Nat) (caps : Array Value) (eg : ∀ args W,(callFunc f args).run Tryz.prog W = .ok (.enter f args) W) (p : AlR → Int) (n : Nat) (hp : ∀ x ∈ l,0 ≤ p x ∧ p x < (n : Int)) (hn : n ≤ 1048576) (hll : l.length ≤ 1048576)
  (hf : ∀ W,Below w.heap.size w W → ∀ x ∈ l,Calls Tryz.prog f (#[.agg #[I x.ctr,I x.ac.kind,I x.ac.task, .int .u32 (x.ac.mask : Int), .int .u32 (x.auto : Int), .int .u32 (x.time : Int), .int .u32 (x.cycle : Int)]] ++ caps) W fun e w' => e = .returned (I (p x)) ∧ Below W.heap.size W w') :
  Calls Tryz.prog 155 #[.slice s.a s.n s.c, .func (.func f) #[] caps] w fun e w' => e = .returned (I (qar (l.map p))) ∧ Below w.heap.size w w' := by
 have hmm := @run_makeMap Tryz.prog
 have h0 := hl w (Below.refl _ _)
 have HS : Hid (s.n = l.length) := h0.n
 have hsc : s.n ≤ s.c := h0.c
 have hsm : s.c ≤ maxLen := h0.m
 unfold maxLen at hsm
 have HH : Hid (∀ W,Below w.heap.size w W → RowsAt W 7 alrP s l) := hl
 have HFF : Hid (∀ W,Below w.heap.size w W → ∀ x ∈ l,Calls Tryz.prog f (#[.agg #[I x.ctr,I x.ac.kind,I x.ac.task, .int .u32 (x.ac.mask : Int), .int .u32 (x.auto : Int), .int .u32 (x.time : Int), .int .u32 (x.cycle : Int)]] ++ caps) W fun e w' => e = .returned (I (p x)) ∧ Below W.heap.size W w') := hf
 have HPP : Hid (∀ x ∈ l,0 ≤ p x ∧ p x < (n : Int)) := hp
 have HLL : Hid (l.length ≤ 1048576) := hll
 have HM0 : Hid (MapOf (w.alloc (.map #[] 0)) w.heap.size n [] (fun k => (((l.take 0).map p).count (k : Int) : Int)) ∧ Below w.heap.size w (w.alloc (.map #[] 0))) := ⟨MapOf.made w n _,qa0 w _⟩
 obtain ⟨R,hR⟩ : ∃ R : Int,R = qar (l.map p) := ⟨_,rfl⟩
 rw [← hR]
 have HR : Hid (R = qar (l.map p)) := hR
 clear hl hR hf h0 hp hll
 go_enter Tryz.func155,Tryz.ntmps155
 go_wp2
 clear hmm
 go_loopw [6,8,12] (fun mv _ iv wr => ∃ (j : Nat) (m : Int),j ≤ s.n ∧ iv = .int .i64 j ∧ mv = .int .i64 m ∧ Hid (m = (qar ((l.take j).map p) : Nat) ∧ (∃ ks,MapOf wr w.heap.size n ks (fun k => (((l.take j).map p).count (k : Int) : Int)) ∧ ∀ k : Nat,k ∉ ks → ((l.take j).map p).count (k : Int) = 0) ∧ Below w.heap.size w wr)) (fun _ _ iv _ => s.n - (intOf iv).toNat)
 case atStart => exact ⟨0,0,by omega,rfl,rfl,by simp [qar,maxL],⟨[],HM0.out.1,fun k _ => by simp⟩,HM0.out.2⟩
 case round =>
  clear HM0
  obtain ⟨j,m,hj,rfl,rfl,HJ⟩ := hrel
  by_cases hlt : j < s.n
  ·have hlt' : (j : Int) < s.n := by omega
   obtain ⟨x,hx⟩ : ∃ x,l[j]? = some x := ⟨_,List.getElem?_eq_getElem (by rw [← HS.out]; exact hlt)⟩
   obtain ⟨g5,o5,e5,hg5,hr5⟩ := (HH.out _ HJ.out.2.2).row j x hx
   obtain ⟨u0,a0,q0⟩ := hr5 0 (by omega)
   obtain ⟨u1,a1,q1⟩ := hr5 1 (by omega)
   obtain ⟨u2,a2,q2⟩ := hr5 2 (by omega)
   obtain ⟨u3,a3,q3⟩ := hr5 3 (by omega)
   obtain ⟨u4,a4,q4⟩ := hr5 4 (by omega)
   obtain ⟨u5,a5,q5⟩ := hr5 5 (by omega)
   obtain ⟨u6,a6,q6⟩ := hr5 6 (by omega)
   have f0 : u0 = I x.ctr := q0
   have f1 : u1 = I x.ac.kind := q1
   have f2 : u2 = I x.ac.task := q2
   have f3 : u3 = .int .u32 (x.ac.mask : Int) := q3
   have f4 : u4 = .int .u32 (x.auto : Int) := q4
   have f5 : u5 = .int .u32 (x.time : Int) := q5
   have f6 : u6 = .int .u32 (x.cycle : Int) := q6
   subst f0 f1 f2 f3 f4 f5 f6
   rw [Nat.add_zero] at a0
   have bX : Below wr.heap.size wr (wr.alloc (.cells #[I x.ctr,I x.ac.kind,I x.ac.task, .int .u32 (x.ac.mask : Int), .int .u32 (x.auto : Int), .int .u32 (x.time : Int), .int .u32 (x.cycle : Int)] 85)) := qa0 wr _
   have bW : Below w.heap.size w (wr.alloc (.cells #[I x.ctr,I x.ac.kind,I x.ac.task, .int .u32 (x.ac.mask : Int), .int .u32 (x.auto : Int), .int .u32 (x.time : Int), .int .u32 (x.cycle : Int)] 85)) := HJ.out.2.2.trans (bX.mono HJ.out.2.2.size)
   have hXX := heap_alloc_new wr (.cells #[I x.ctr,I x.ac.kind,I x.ac.task, .int .u32 (x.ac.mask : Int), .int .u32 (x.auto : Int), .int .u32 (x.time : Int), .int .u32 (x.cycle : Int)] 85)
   have hxl := List.mem_of_getElem? hx
   obtain ⟨c,hc⟩ := Int.eq_ofNat_of_zero_le (HPP.out x hxl).1
   have hcn : c < n := by have := (HPP.out x hxl).2; omega
   have HC : Hid (∀ W,Below w.heap.size w W → Calls Tryz.prog f (#[.agg #[I x.ctr,I x.ac.kind,I x.ac.task, .int .u32 (x.ac.mask : Int), .int .u32 (x.auto : Int), .int .u32 (x.time : Int), .int .u32 (x.cycle : Int)]] ++ caps) W fun e w' => e = .returned (I (c : Int)) ∧ Below W.heap.size W w') := fun W hW => by
    have := HFF.out W hW x hxl
    rw [hc] at this
    exact this
   obtain ⟨ks,hM,hz⟩ := HJ.out.2.1
   have hM0 := hM.below bX
   have hcnt : ((l.take j).map p).count (c : Int) ≤ 1048576 := by
    have h1 := List.count_le_length (a := (c : Int)) (l := (l.take j).map p)
    have h2 := HLL.out
    rw [List.length_map,List.length_take] at h1
    omega
   have hval : (if c ∈ ks then (((l.take j).map p).count (c : Int) : Int) else 0) = (((l.take j).map p).count (c : Int) : Int) := by
    by_cases h9 : c ∈ ks
    ·rw [if_pos h9]
    ·rw [if_neg h9,hz c h9]; rfl
   have htk : (l.take (j + 1)).map p = (l.take j).map p ++ [(c : Int)] := by
    rw [List.take_add_one,hx,Option.toList_some,List.map_append,List.map_singleton,hc]
   have HA : Hid ((max m ((((l.take j).map p).count (c : Int) : Int) + 1)) = (qar ((l.take (j + 1)).map p) : Nat)) := by
    show _ = _
    rw [htk,qeo,HJ.out.1]
    omega
   have HF : Hid (∀ W,MapOf W w.heap.size n (insK ks c) (mapF (fun k => (((l.take j).map p).count (k : Int) : Int)) c ((((l.take j).map p).count (c : Int) : Int) + 1)) → ∃ ks',MapOf W w.heap.size n ks' (fun k => (((l.take (j + 1)).map p).count (k : Int) : Int)) ∧ ∀ k : Nat,k ∉ ks' → ((l.take (j + 1)).map p).count (k : Int) = 0) := fun W hW => by
    have hcc : ∀ k : Nat,((l.take (j + 1)).map p).count (k : Int) = ((l.take j).map p).count (k : Int) + (if k = c then 1 else 0) := fun k => by
     rw [htk,List.count_append,List.count_singleton]
     by_cases h9 : k = c
     ·subst h9; simp
     ·have h8 : ¬ (c : Int) = (k : Int) := by omega
      simp [h9,h8]
    refine ⟨_,hW.congr (fun k hk => ?_),fun k hk => ?_⟩
    ·show mapF _ c _ k = _
     unfold mapF
     rw [hcc]
     by_cases h9 : k = c
     ·subst h9; simp
     ·rw [if_neg h9,if_neg h9]; simp
    ·rw [hcc]
     have h1 : ¬ k = c := fun e => hk (mem_insK.2 (.inl e))
     have h2 : k ∉ ks := fun e => hk (mem_insK.2 (.inr e))
     rw [if_neg h1,hz k h2]
   rw [e5]
   have y0 : ∀ i u,#[I x.ctr,I x.ac.kind,I x.ac.task, .int .u32 (x.ac.mask : Int), .int .u32 (x.auto : Int), .int .u32 (x.time : Int), .int .u32 (x.cycle : Int)][i]? = some u → (wr.alloc (.cells #[I x.ctr,I x.ac.kind,I x.ac.task, .int .u32 (x.ac.mask : Int), .int .u32 (x.auto : Int), .int .u32 (x.time : Int), .int .u32 (x.cycle : Int)] 85)).cell? ⟨wr.heap.size,i,none⟩ = some u := fun i u hu => by rw [cell_of_row _ _ _ _ _ (0,0) hXX]; simpa using hu
   have Hhr : Hid (HJ = HJ) := rfl
   clear hx e5 hr5 q0 q1 q2 q3 q4 q5 q6 Hhr hz hxl
   go_upto_region 5 with fail
   generalize hcg : ((l.take j).map p).count (c : Int) = cnt at *
   have Hcg : Hid (((l.take j).map p).count (c : Int) = cnt) := hcg
   have hbx : w.heap.size < wr.heap.size := hM.block
   have Hhbx : Hid (w.heap.size < wr.heap.size) := hbx
   have hxs : wr.heap.size < (wr.alloc (.cells #[I x.ctr,I x.ac.kind,I x.ac.task, .int .u32 (x.ac.mask : Int), .int .u32 (x.auto : Int), .int .u32 (x.time : Int), .int .u32 (x.cycle : Int)] 85)).heap.size := by simp
   have HXS : Hid (wr.heap.size < (wr.alloc (.cells #[I x.ctr,I x.ac.kind,I x.ac.task, .int .u32 (x.ac.mask : Int), .int .u32 (x.auto : Int), .int .u32 (x.time : Int), .int .u32 (x.cycle : Int)] 85)).heap.size) := hxs
   clear hcg hM hbx hxs hc hXX bX
   generalize wr.heap.size = X at *
   generalize (wr.alloc (.cells #[I x.ctr,I x.ac.kind,I x.ac.task, .int .u32 (x.ac.mask : Int), .int .u32 (x.auto : Int), .int .u32 (x.time : Int), .int .u32 (x.cycle : Int)] 85)) = W0 at *
   have y0_ := y0 0 _ rfl
   have y1_ := y0 1 _ rfl
   have y2_ := y0 2 _ rfl
   have y3_ := y0 3 _ rfl
   have y4_ := y0 4 _ rfl
   have y5_ := y0 5 _ rfl
   have y6_ := y0 6 _ rfl
   have c1 := HC.out W0 bW
   have HY : Hid (∀ i u,#[I x.ctr,I x.ac.kind,I x.ac.task, .int .u32 (x.ac.mask : Int), .int .u32 (x.auto : Int), .int .u32 (x.time : Int), .int .u32 (x.cycle : Int)][i]? = some u → W0.cell? ⟨X,i,none⟩ = some u) := y0
   have HM : Hid (MapOf W0 w.heap.size n ks (fun k => (((l.take j).map p).count (k : Int) : Int))) := hM0
   have HBW : Hid (Below w.heap.size w W0) := bW
   have hm0 := HJ.out.1
   have Hm0 : Hid (m = (qar ((l.take j).map p) : Nat)) := hm0
   clear y0 hM0 bW hm0 HJ
   go_wp2
   refine c1.mono ?_
   clear c1
   rintro e2 w2 ⟨rfl,hb2⟩
   have hM2 := HM.out.below hb2
   go_upto_region 6 with (first
    | (refine qc6 rfl (.tmp 16) (.tmp 19) 211 rfl Tryz.underlying211 w.heap.size n ks _ rfl hM2 c (by omega) rfl ?_; intro e3 he3; have he4 : e3 = (cnt : Int) := (he3.out.trans (by show (if c ∈ ks then (((l.take j).map p).count (c : Int) : Int) else 0) = _; rw [Hcg.out]; exact hval)); subst he4; clear he3)
    | (refine qdr rfl (.tmp 16) (.tmp 19) (.tmp 21) 211 rfl Tryz.underlying211 w.heap.size n ks _ rfl hM2 (by omega) c hcn rfl ((cnt : Int) + 1) (WalkArith.wf_i64 (by omega)) rfl ?_; intro w3 hM3 hg3; have b3 : Below w.heap.size w w3 := ((HBW.out.trans (hb2.mono HBW.out.size)).grown hg3 (HBW.out.trans (hb2.mono HBW.out.size)).size (fun k e => (by cases e; exact Nat.le_refl _))); have HY3 : Hid (∀ i u,#[I x.ctr,I x.ac.kind,I x.ac.task, .int .u32 (x.ac.mask : Int), .int .u32 (x.auto : Int), .int .u32 (x.time : Int), .int .u32 (x.cycle : Int)][i]? = some u → w3.cell? ⟨X,i,none⟩ = some u) := (fun i u hu => (World.cell?_of_block (hg3.block X (Nat.lt_of_lt_of_le HXS.out hb2.size) (by intro e; injection e with e1; exact absurd e1 (Nat.ne_of_gt Hhbx.out)))).trans ((hb2.cell (p := ⟨X,i,none⟩) HXS.out).trans (HY.out i u hu)))))
   clear y0_ y1_ y2_ y3_ y4_ y5_ y6_
   have t0 := HY3.out 0 _ rfl
   have t1 := HY3.out 1 _ rfl
   have t2 := HY3.out 2 _ rfl
   have t3 := HY3.out 3 _ rfl
   have t4 := HY3.out 4 _ rfl
   have t5 := HY3.out 5 _ rfl
   have t6 := HY3.out 6 _ rfl
   have c3 := HC.out w3 b3
   have HM3 : Hid (MapOf w3 w.heap.size n (insK ks c) (mapF (fun k => (((l.take j).map p).count (k : Int) : Int)) c ((cnt : Int) + 1)) ∧ Below w.heap.size w w3) := ⟨hM3,b3⟩
   clear hM2 hg3 b3 hb2
   have hM3 := HM3.out.1
   go_wp2
   refine c3.mono ?_
   clear c3
   rintro e4 w4 ⟨rfl,hb4⟩
   have hM4 := hM3.below hb4
   go_wp2_with (first
    | (refine qc6 rfl (.tmp 23) (.tmp 26) 211 rfl Tryz.underlying211 w.heap.size n (insK ks c) _ rfl hM4 c (by omega) rfl ?_; intro e5 he5; have he6 : e5 = (cnt : Int) + 1 := (he5.out.trans (by rw [if_pos (mem_insK.2 (.inl rfl))]; unfold mapF; rw [if_pos rfl])); subst he6; clear he5))
   go_roundw
   case rel => exact ⟨j + 1,_,by omega,by go_num,rfl,(by rw [← HA.out]; split <;> omega),HF.out w4 hM4,HM3.out.2.trans (hb4.mono HM3.out.2.size)⟩
   case measure => simp [intOf]; omega
  ·obtain rfl : j = s.n := by omega
   have hlt' : ¬ ((s.n : Nat) : Int) < (s.n : Nat) := by omega
   have HE : Hid (m = R) := by
    show _ = _
    rw [HR.out,HJ.out.1,List.take_of_length_le (by rw [HS.out]; exact Nat.le_refl _)]
   have HB : Hid (Below w.heap.size w wr) := HJ.out.2.2
   clear HR HJ
   go_wp2
   go_ret
   exact ⟨qen HE.out,HB.out⟩
theorem qjg (w : World) (s : Sl) (l : List MsR) (hl : ∀ W,Below w.heap.size w W → RowsAt W 8 msrP s l) (f : Nat) (caps : Array Value) (eg : ∀ args W,(callFunc f args).run Tryz.prog W = .ok (.enter f args) W) (p : MsR → Int) (n : Nat) (hp : ∀ x ∈ l,0 ≤ p x ∧ p x < (n : Int)) (hn : n ≤ 1048576) (hll : l.length ≤ 1048576)
  (hf : ∀ W,Below w.heap.size w W → ∀ x ∈ l,Calls Tryz.prog f (#[.agg #[I x.kind,I x.len,I x.frm, .int .u64 (x.init : Int),I x.queue,I x.ac.kind,I x.ac.task, .int .u32 (x.ac.mask : Int)]] ++ caps) W fun e w' => e = .returned (I (p x)) ∧ Below W.heap.size W w') :
  Calls Tryz.prog 157 #[.slice s.a s.n s.c, .func (.func f) #[] caps] w fun e w' => e = .returned (I (qar (l.map p))) ∧ Below w.heap.size w w' := by
 have hmm := @run_makeMap Tryz.prog
 have h0 := hl w (Below.refl _ _)
 have HS : Hid (s.n = l.length) := h0.n
 have hsc : s.n ≤ s.c := h0.c
 have hsm : s.c ≤ maxLen := h0.m
 unfold maxLen at hsm
 have HH : Hid (∀ W,Below w.heap.size w W → RowsAt W 8 msrP s l) := hl
 have HFF : Hid (∀ W,Below w.heap.size w W → ∀ x ∈ l,Calls Tryz.prog f (#[.agg #[I x.kind,I x.len,I x.frm, .int .u64 (x.init : Int),I x.queue,I x.ac.kind,I x.ac.task, .int .u32 (x.ac.mask : Int)]] ++ caps) W fun e w' => e = .returned (I (p x)) ∧ Below W.heap.size W w') := hf
 have HPP : Hid (∀ x ∈ l,0 ≤ p x ∧ p x < (n : Int)) := hp
 have HLL : Hid (l.length ≤ 1048576) := hll
 have HM0 : Hid (MapOf (w.alloc (.map #[] 0)) w.heap.size n [] (fun k => (((l.take 0).map p).count (k : Int) : Int)) ∧ Below w.heap.size w (w.alloc (.map #[] 0))) := ⟨MapOf.made w n _,qa0 w _⟩
 obtain ⟨R,hR⟩ : ∃ R : Int,R = qar (l.map p) := ⟨_,rfl⟩
 rw [← hR]
 have HR : Hid (R = qar (l.map p)) := hR
 clear hl hR hf h0 hp hll
 go_enter Tryz.func157,Tryz.ntmps157
 go_wp2
 clear hmm
 go_loopw [6,8,12] (fun mv _ iv wr => ∃ (j : Nat) (m : Int),j ≤ s.n ∧ iv = .int .i64 j ∧ mv = .int .i64 m ∧ Hid (m = (qar ((l.take j).map p) : Nat) ∧ (∃ ks,MapOf wr w.heap.size n ks (fun k => (((l.take j).map p).count (k : Int) : Int)) ∧ ∀ k : Nat,k ∉ ks → ((l.take j).map p).count (k : Int) = 0) ∧ Below w.heap.size w wr)) (fun _ _ iv _ => s.n - (intOf iv).toNat)
 case atStart => exact ⟨0,0,by omega,rfl,rfl,by simp [qar,maxL],⟨[],HM0.out.1,fun k _ => by simp⟩,HM0.out.2⟩
 case round =>
  clear HM0
  obtain ⟨j,m,hj,rfl,rfl,HJ⟩ := hrel
  by_cases hlt : j < s.n
  ·have hlt' : (j : Int) < s.n := by omega
   obtain ⟨x,hx⟩ : ∃ x,l[j]? = some x := ⟨_,List.getElem?_eq_getElem (by rw [← HS.out]; exact hlt)⟩
   obtain ⟨g5,o5,e5,hg5,hr5⟩ := (HH.out _ HJ.out.2.2).row j x hx
   obtain ⟨u0,a0,q0⟩ := hr5 0 (by omega)
   obtain ⟨u1,a1,q1⟩ := hr5 1 (by omega)
   obtain ⟨u2,a2,q2⟩ := hr5 2 (by omega)
   obtain ⟨u3,a3,q3⟩ := hr5 3 (by omega)
   obtain ⟨u4,a4,q4⟩ := hr5 4 (by omega)
   obtain ⟨u5,a5,q5⟩ := hr5 5 (by omega)
   obtain ⟨u6,a6,q6⟩ := hr5 6 (by omega)
   obtain ⟨u7,a7,q7⟩ := hr5 7 (by omega)
   have f0 : u0 = I x.kind := q0
   have f1 : u1 = I x.len := q1
   have f2 : u2 = I x.frm := q2
   have f3 : u3 = .int .u64 (x.init : Int) := q3
   have f4 : u4 = I x.queue := q4
   have f5 : u5 = I x.ac.kind := q5
   have f6 : u6 = I x.ac.task := q6
   have f7 : u7 = .int .u32 (x.ac.mask : Int) := q7
   subst f0 f1 f2 f3 f4 f5 f6 f7
   rw [Nat.add_zero] at a0
   have bX : Below wr.heap.size wr (wr.alloc (.cells #[I x.kind,I x.len,I x.frm, .int .u64 (x.init : Int),I x.queue,I x.ac.kind,I x.ac.task, .int .u32 (x.ac.mask : Int)] 91)) := qa0 wr _
   have bW : Below w.heap.size w (wr.alloc (.cells #[I x.kind,I x.len,I x.frm, .int .u64 (x.init : Int),I x.queue,I x.ac.kind,I x.ac.task, .int .u32 (x.ac.mask : Int)] 91)) := HJ.out.2.2.trans (bX.mono HJ.out.2.2.size)
   have hXX := heap_alloc_new wr (.cells #[I x.kind,I x.len,I x.frm, .int .u64 (x.init : Int),I x.queue,I x.ac.kind,I x.ac.task, .int .u32 (x.ac.mask : Int)] 91)
   have hxl := List.mem_of_getElem? hx
   obtain ⟨c,hc⟩ := Int.eq_ofNat_of_zero_le (HPP.out x hxl).1
   have hcn : c < n := by have := (HPP.out x hxl).2; omega
   have HC : Hid (∀ W,Below w.heap.size w W → Calls Tryz.prog f (#[.agg #[I x.kind,I x.len,I x.frm, .int .u64 (x.init : Int),I x.queue,I x.ac.kind,I x.ac.task, .int .u32 (x.ac.mask : Int)]] ++ caps) W fun e w' => e = .returned (I (c : Int)) ∧ Below W.heap.size W w') := fun W hW => by
    have := HFF.out W hW x hxl
    rw [hc] at this
    exact this
   obtain ⟨ks,hM,hz⟩ := HJ.out.2.1
   have hM0 := hM.below bX
   have hcnt : ((l.take j).map p).count (c : Int) ≤ 1048576 := by
    have h1 := List.count_le_length (a := (c : Int)) (l := (l.take j).map p)
    have h2 := HLL.out
    rw [List.length_map,List.length_take] at h1
    omega
   have hval : (if c ∈ ks then (((l.take j).map p).count (c : Int) : Int) else 0) = (((l.take j).map p).count (c : Int) : Int) := by
    by_cases h9 : c ∈ ks
    ·rw [if_pos h9]
    ·rw [if_neg h9,hz c h9]; rfl
   have htk : (l.take (j + 1)).map p = (l.take j).map p ++ [(c : Int)] := by
    rw [List.take_add_one,hx,Option.toList_some,List.map_append,List.map_singleton,hc]
   have HA : Hid ((max m ((((l.take j).map p).count (c : Int) : Int) + 1)) = (qar ((l.take (j + 1)).map p) : Nat)) := by
    show _ = _
    rw [htk,qeo,HJ.out.1]
    omega
   have HF : Hid (∀ W,MapOf W w.heap.size n (insK ks c) (mapF (fun k => (((l.take j).map p).count (k : Int) : Int)) c ((((l.take j).map p).count (c : Int) : Int) + 1)) → ∃ ks',MapOf W w.heap.size n ks' (fun k => (((l.take (j + 1)).map p).count (k : Int) : Int)) ∧ ∀ k : Nat,k ∉ ks' → ((l.take (j + 1)).map p).count (k : Int) = 0) := fun W hW => by
    have hcc : ∀ k : Nat,((l.take (j + 1)).map p).count (k : Int) = ((l.take j).map p).count (k : Int) + (if k = c then 1 else 0) := fun k => by
     rw [htk,List.count_append,List.count_singleton]
     by_cases h9 : k = c
     ·subst h9; simp
     ·have h8 : ¬ (c : Int) = (k : Int) := by omega
      simp [h9,h8]
    refine ⟨_,hW.congr (fun k hk => ?_),fun k hk => ?_⟩
    ·show mapF _ c _ k = _
     unfold mapF
     rw [hcc]
     by_cases h9 : k = c
     ·subst h9; simp
     ·rw [if_neg h9,if_neg h9]; simp
    ·rw [hcc]
     have h1 : ¬ k = c := fun e => hk (mem_insK.2 (.inl e))
     have h2 : k ∉ ks := fun e => hk (mem_insK.2 (.inr e))
     rw [if_neg h1,hz k h2]
   rw [e5]
   have y0 : ∀ i u,#[I x.kind,I x.len,I x.frm, .int .u64 (x.init : Int),I x.queue,I x.ac.kind,I x.ac.task, .int .u32 (x.ac.mask : Int)][i]? = some u → (wr.alloc (.cells #[I x.kind,I x.len,I x.frm, .int .u64 (x.init : Int),I x.queue,I x.ac.kind,I x.ac.task, .int .u32 (x.ac.mask : Int)] 91)).cell? ⟨wr.heap.size,i,none⟩ = some u := fun i u hu => by rw [cell_of_row _ _ _ _ _ (0,0) hXX]; simpa using hu
   have Hhr : Hid (HJ = HJ) := rfl
   clear hx e5 hr5 q0 q1 q2 q3 q4 q5 q6 q7 Hhr hz hxl
   go_upto_region 5 with fail
   generalize hcg : ((l.take j).map p).count (c : Int) = cnt at *
   have Hcg : Hid (((l.take j).map p).count (c : Int) = cnt) := hcg
   have hbx : w.heap.size < wr.heap.size := hM.block
   have Hhbx : Hid (w.heap.size < wr.heap.size) := hbx
   have hxs : wr.heap.size < (wr.alloc (.cells #[I x.kind,I x.len,I x.frm, .int .u64 (x.init : Int),I x.queue,I x.ac.kind,I x.ac.task, .int .u32 (x.ac.mask : Int)] 91)).heap.size := by simp
   have HXS : Hid (wr.heap.size < (wr.alloc (.cells #[I x.kind,I x.len,I x.frm, .int .u64 (x.init : Int),I x.queue,I x.ac.kind,I x.ac.task, .int .u32 (x.ac.mask : Int)] 91)).heap.size) := hxs
   clear hcg hM hbx hxs hc hXX bX
   generalize wr.heap.size = X at *
   generalize (wr.alloc (.cells #[I x.kind,I x.len,I x.frm, .int .u64 (x.init : Int),I x.queue,I x.ac.kind,I x.ac.task, .int .u32 (x.ac.mask : Int)] 91)) = W0 at *
   have y0_ := y0 0 _ rfl
   have y1_ := y0 1 _ rfl
   have y2_ := y0 2 _ rfl
   have y3_ := y0 3 _ rfl
   have y4_ := y0 4 _ rfl
   have y5_ := y0 5 _ rfl
   have y6_ := y0 6 _ rfl
   have y7_ := y0 7 _ rfl
   have c1 := HC.out W0 bW
   have HY : Hid (∀ i u,#[I x.kind,I x.len,I x.frm, .int .u64 (x.init : Int),I x.queue,I x.ac.kind,I x.ac.task, .int .u32 (x.ac.mask : Int)][i]? = some u → W0.cell? ⟨X,i,none⟩ = some u) := y0
   have HM : Hid (MapOf W0 w.heap.size n ks (fun k => (((l.take j).map p).count (k : Int) : Int))) := hM0
   have HBW : Hid (Below w.heap.size w W0) := bW
   have hm0 := HJ.out.1
   have Hm0 : Hid (m = (qar ((l.take j).map p) : Nat)) := hm0
   clear y0 hM0 bW hm0 HJ
   go_wp2
   refine c1.mono ?_
   clear c1
   rintro e2 w2 ⟨rfl,hb2⟩
   have hM2 := HM.out.below hb2
   go_upto_region 6 with (first
    | (refine qc6 rfl (.tmp 16) (.tmp 19) 211 rfl Tryz.underlying211 w.heap.size n ks _ rfl hM2 c (by omega) rfl ?_; intro e3 he3; have he4 : e3 = (cnt : Int) := (he3.out.trans (by show (if c ∈ ks then (((l.take j).map p).count (c : Int) : Int) else 0) = _; rw [Hcg.out]; exact hval)); subst he4; clear he3)
    | (refine qdr rfl (.tmp 16) (.tmp 19) (.tmp 21) 211 rfl Tryz.underlying211 w.heap.size n ks _ rfl hM2 (by omega) c hcn rfl ((cnt : Int) + 1) (WalkArith.wf_i64 (by omega)) rfl ?_; intro w3 hM3 hg3; have b3 : Below w.heap.size w w3 := ((HBW.out.trans (hb2.mono HBW.out.size)).grown hg3 (HBW.out.trans (hb2.mono HBW.out.size)).size (fun k e => (by cases e; exact Nat.le_refl _))); have HY3 : Hid (∀ i u,#[I x.kind,I x.len,I x.frm, .int .u64 (x.init : Int),I x.queue,I x.ac.kind,I x.ac.task, .int .u32 (x.ac.mask : Int)][i]? = some u → w3.cell? ⟨X,i,none⟩ = some u) := (fun i u hu => (World.cell?_of_block (hg3.block X (Nat.lt_of_lt_of_le HXS.out hb2.size) (by intro e; injection e with e1; exact absurd e1 (Nat.ne_of_gt Hhbx.out)))).trans ((hb2.cell (p := ⟨X,i,none⟩) HXS.out).trans (HY.out i u hu)))))
   clear y0_ y1_ y2_ y3_ y4_ y5_ y6_ y7_
   have t0 := HY3.out 0 _ rfl
   have t1 := HY3.out 1 _ rfl
   have t2 := HY3.out 2 _ rfl
   have t3 := HY3.out 3 _ rfl
   have t4 := HY3.out 4 _ rfl
   have t5 := HY3.out 5 _ rfl
   have t6 := HY3.out 6 _ rfl
   have t7 := HY3.out 7 _ rfl
   have c3 := HC.out w3 b3
   have HM3 : Hid (MapOf w3 w.heap.size n (insK ks c) (mapF (fun k => (((l.take j).map p).count (k : Int) : Int)) c ((cnt : Int) + 1)) ∧ Below w.heap.size w w3) := ⟨hM3,b3⟩
   clear hM2 hg3 b3 hb2
   have hM3 := HM3.out.1
   go_wp2
   refine c3.mono ?_
   clear c3
   rintro e4 w4 ⟨rfl,hb4⟩
   have hM4 := hM3.below hb4
   go_wp2_with (first
    | (refine qc6 rfl (.tmp 23) (.tmp 26) 211 rfl Tryz.underlying211 w.heap.size n (insK ks c) _ rfl hM4 c (by omega) rfl ?_; intro e5 he5; have he6 : e5 = (cnt : Int) + 1 := (he5.out.trans (by rw [if_pos (mem_insK.2 (.inl rfl))]; unfold mapF; rw [if_pos rfl])); subst he6; clear he5))
   go_roundw
   case rel => exact ⟨j + 1,_,by omega,by go_num,rfl,(by rw [← HA.out]; split <;> omega),HF.out w4 hM4,HM3.out.2.trans (hb4.mono HM3.out.2.size)⟩
   case measure => simp [intOf]; omega
  ·obtain rfl : j = s.n := by omega
   have hlt' : ¬ ((s.n : Nat) : Int) < (s.n : Nat) := by omega
   have HE : Hid (m = R) := by
    show _ = _
    rw [HR.out,HJ.out.1,List.take_of_length_le (by rw [HS.out]; exact Nat.le_refl _)]
   have HB : Hid (Below w.heap.size w wr) := HJ.out.2.2
   clear HR HJ
   go_wp2
   go_ret
   exact ⟨qen HE.out,HB.out⟩
end Go.Proofs.YtijgopkhdjaolaaGreat
namespace Go.Proofs.YtijgopkhdjaolaaGreat
open Go.RowKit Go.Shelf Go.Sort
set_option linter.unusedSimpArgs false
set_option linter.unusedVariables false
set_option maxHeartbeats 16000000
set_option maxRecDepth 100000
theorem qd8 {α : Type} (p : α → Bool) (h : α → Int) (hh : ∀ x,h x = if p x then 1 else 0) : ∀ l : List α,sumZ h l = ((l.filter p).length : Int)
 | [] => rfl
 | x :: l => by
  rw [sumZ,qd8 p h hh l,hh,List.filter_cons]
  cases p x <;> simp
  omega
structure RoomOK (tb : Tb) : Prop where
 a : ∀ x ∈ tb.als,0 ≤ x.ctr ∧ x.ctr < (tb.ctrs.length : Int)
 s : ∀ x ∈ tb.msgs,x.kind ≠ 1 → 0 ≤ x.frm ∧ x.frm < (tb.msgs.length : Int)
 l : tb.ctrs.length ≤ 16 ∧ tb.als.length ≤ 64 ∧ tb.msgs.length ≤ 64 ∧ tb.isrs.length ≤ 32
def rmC (tb : Tb) : Array Value := #[I tb.rings.length,I ((tb.isrs.length : Int) + 4),I ((max 2 (max (qar (tb.als.map fun x => x.ctr)) (qar (rcvL tb))) : Nat) : Int),I (qdv tb)]
def mx3 (a b c : Int) : Int := max a (max b c)
theorem qi4 (ats : Array TypeId) (ty : TypeId) (a b c : Int) : Builtin.max_ ats ty #[.int .i64 a, .int .i64 b, .int .i64 c] = pure (.int .i64 (mx3 a b c)) := by
 show (do let s ← Builtin.max2 (.int .i64 a) (.int .i64 b); let s ← Builtin.max2 s (.int .i64 c); pure s : Sem Value) = _
 simp only [Builtin.max2]
 show (pure _ : Sem Value) = _
 congr 2
 unfold mx3
 split <;> split <;> omega
attribute [local go_sem 5000] qi4
theorem qh5 {w : World} {g : Nat} {t : TypeId} {o0 o1 o2 o3 : Value} (h : w.heap[g]? = some (.cells #[o0,o1,o2,o3] t)) : w.cell? ⟨g,0,none⟩ = some o0 ∧ w.cell? ⟨g,1,none⟩ = some o1 ∧ w.cell? ⟨g,2,none⟩ = some o2 ∧ w.cell? ⟨g,3,none⟩ = some o3 ∧ w.frozen? ⟨g,0,none⟩ = false ∧ w.frozen? ⟨g,1,none⟩ = false ∧ w.frozen? ⟨g,2,none⟩ = false ∧ w.frozen? ⟨g,3,none⟩ = false :=
 ⟨by rw [cell_of_row w g 0 _ _ (0,0) h]; rfl,by rw [cell_of_row w g 1 _ _ (0,0) h]; rfl,by rw [cell_of_row w g 2 _ _ (0,0) h]; rfl,by rw [cell_of_row w g 3 _ _ (0,0) h]; rfl,frozen_of_row w g 0 _ _ h,frozen_of_row w g 1 _ _ h,frozen_of_row w g 2 _ _ h,frozen_of_row w g 3 _ _ h⟩
theorem qki (w : World) (b : Nat) (t : TypeId) (o0 o1 o2 o3 v0 v1 v2 v3 : Value) (k : w.heap[b]? = some (.cells #[o0,o1,o2,o3] t (0,0))) :
  ((((w.setCell ⟨b,0,none⟩ v0).setCell ⟨b,1,none⟩ v1).setCell ⟨b,2,none⟩ v2).setCell ⟨b,3,none⟩ v3).heap[b]? = some (.cells #[v0,v1,v2,v3] t (0,0)) := by
 have h0 : (w.setCell ⟨b,0,none⟩ v0).heap[b]? = some (.cells #[v0,o1,o2,o3] t (0,0)) := heap_setCell_same _ b 0 _ t _ k
 generalize w.setCell ⟨b,0,none⟩ v0 = w0 at *
 have h1 : (w0.setCell ⟨b,1,none⟩ v1).heap[b]? = some (.cells #[v0,v1,o2,o3] t (0,0)) := heap_setCell_same _ b 1 _ t _ h0
 generalize w0.setCell ⟨b,1,none⟩ v1 = w1 at *
 have h2 : (w1.setCell ⟨b,2,none⟩ v2).heap[b]? = some (.cells #[v0,v1,v2,o3] t (0,0)) := heap_setCell_same _ b 2 _ t _ h1
 generalize w1.setCell ⟨b,2,none⟩ v2 = w2 at *
 exact heap_setCell_same _ b 3 _ t _ h2
theorem qjh {fn : Func} {n : Nat} (hf : fn.results = #[.cell n 142]) (tmps : Array Value) (b : Nat) (w : World) (v0 v1 v2 v3 : Value)
  (h2 : tmps[n]? = some (.pointer (some ⟨b,0,none⟩))) (hk : w.heap[b]? = some (.cells #[v0,v1,v2,v3] 142 (0,0))) :
  (results fn tmps).run Tryz.prog w = .ok (.agg #[v0,v1,v2,v3]) w := by
 have a1 := fun i => cell_of_row w b i _ _ (0,0) hk
 have z0 := a1 0; have z1 := a1 1; have z2 := a1 2; have z3 := a1 3
 simp at z0 z1 z2 z3
 simp [results,hf,go_sem,h2,z0,z1,z2,z3]
theorem qkj {w : World} {b g i k : Nat} {v : Value} (h : b ≠ g) : (w.setCell ⟨g,k,none⟩ v).cell? ⟨b,i,none⟩ = w.cell? ⟨b,i,none⟩ := World.cell?_of_block (heap_setCell_other w ⟨g,k,none⟩ b v h)
theorem qh6 (tb : Tb) (v : Ts) (w : World) (h : TbAt w tb v) (hr : RoomOK tb) : Calls Tryz.prog 99 #[.agg (tbC tb v)] w fun e w' => e = .returned (.agg (rmC tb)) ∧ Below w.heap.size w w' := by
 have hb : Below w.heap.size w ((w.alloc (.cells (tbC tb v) 30)).alloc (.cells #[I 0,I 0,I 0,I 0] 142)) := (qa0 w _).trans ((qa0 _ _).mono (by simp))
 have hV0 : ((w.alloc (.cells (tbC tb v) 30)).alloc (.cells #[I 0,I 0,I 0,I 0] 142)).heap[w.heap.size]? = some (.cells (tbC tb v) 30) := by
  rw [heap_alloc_old _ _ (by simp)]; exact heap_alloc_new w _
 have hR0 : ((w.alloc (.cells (tbC tb v) 30)).alloc (.cells #[I 0,I 0,I 0,I 0] 142)).heap[w.heap.size + 1]? = some (.cells #[I 0,I 0,I 0,I 0] 142) := by
  have := heap_alloc_new (w.alloc (.cells (tbC tb v) 30)) (.cells #[I 0,I 0,I 0,I 0] 142)
  rw [World.size_alloc] at this
  exact this
 have hT0 := h.below hb
 have HB0 : Hid (Below w.heap.size w ((w.alloc (.cells (tbC tb v) 30)).alloc (.cells #[I 0,I 0,I 0,I 0] 142))) := hb
 have hgn : v.g.n = tb.rings.length := h.g.n
 have hin : v.i.n = tb.isrs.length := h.i.n
 have hgm : v.g.n ≤ 9223372036854775807 := by have := h.g.c; have h2 := h.g.m; unfold maxLen at h2; omega
 have him : v.i.n ≤ 32 := by have := hr.l; omega
 have HF : Hid (rmC tb = #[I (v.g.n : Int),I ((v.i.n : Int) + 4),I ((max 2 (max (qar (tb.als.map fun x => x.ctr)) (qar (rcvL tb))) : Nat) : Int),I (((tb.als.filter fun x => x.ac.kind == 3).length : Int) + ((tb.msgs.filter fun x => x.ac.kind == 3).length : Int))]) := by
  show _ = _
  rw [hgn,hin]
  unfold rmC qdv
  simp
 have HL : Hid (tb.ctrs.length ≤ 16 ∧ tb.als.length ≤ 64 ∧ tb.msgs.length ≤ 64 ∧ tb.isrs.length ≤ 32) := hr.l
 clear hgn hin
 have hA1 : qar (tb.als.map fun x => x.ctr) ≤ 64 := by have := qga (tb.als.map fun x => x.ctr); rw [List.length_map] at this; have := hr.l; omega
 have hA2 : qar (rcvL tb) ≤ 64 := by
  have h1 := qga (rcvL tb)
  have h2 := List.length_filter_le (fun x : MsR => x.kind != 1) tb.msgs
  have h3 : (rcvL tb).length = (tb.msgs.filter fun x => x.kind != 1).length := by unfold rcvL; rw [List.length_map]
  have := hr.l
  omega
 have hS1 : (tb.als.filter fun x => x.ac.kind == 3).length ≤ 64 := by have := List.length_filter_le (fun x : AlR => x.ac.kind == 3) tb.als; have := hr.l; omega
 have hS2 : (tb.msgs.filter fun x => x.ac.kind == 3).length ≤ 64 := by have := List.length_filter_le (fun x : MsR => x.ac.kind == 3) tb.msgs; have := hr.l; omega
 obtain ⟨Z,hZ⟩ : ∃ Z,Z = rmC tb := ⟨_,rfl⟩
 rw [← hZ] at HF ⊢
 clear hZ h hb
 have HRk : Hid (RoomOK tb) := hr
 have HA12 : Hid (qar (tb.als.map fun x => x.ctr) ≤ 64 ∧ qar (rcvL tb) ≤ 64 ∧ (tb.als.filter fun x => x.ac.kind == 3).length ≤ 64 ∧ (tb.msgs.filter fun x => x.ac.kind == 3).length ≤ 64) := ⟨hA1,hA2,hS1,hS2⟩
 clear hr hA1 hA2 hS1 hS2
 unfold tbC at *
 go_enter Tryz.func99,Tryz.ntmps99
 go_upto_region 1 with fail
 generalize ((w.alloc (.cells #[I tb.uses,I tb.modes, .slice v.t.a v.t.n v.t.c, .slice v.g.a v.g.n v.g.c, .slice v.r.a v.r.n v.r.c, .slice v.k.a v.k.n v.k.c, .slice v.a.a v.a.n v.a.c, .slice v.i.a v.i.n v.i.c, .slice v.s.a v.s.n v.s.c,I tb.depth,I tb.frames,I tb.errors,I tb.calls] 30)).alloc (.cells #[I 0,I 0,I 0,I 0] 142)) = W0 at *
 have hr := HRk.out
 obtain ⟨hA1,hA2,hS1,hS2⟩ := HA12.out
 clear HA12
 have kA : ∀ W,Below W0.heap.size W0 W → Calls Tryz.prog 155 #[.slice v.a.a v.a.n v.a.c, .func (.func 156) #[] #[]] W fun e w' => e = .returned (I (qar (tb.als.map fun x => x.ctr))) ∧ Below W.heap.size W w' := fun W hW =>
  qjf W v.a tb.als (fun W2 hW2 => ((hT0.below hW).below hW2).a) 156 #[] (enters_of Tryz.func156 (by kernel_rfl) rfl) (fun x => x.ctr) tb.ctrs.length hr.a (by have := hr.l; omega) (by have := hr.l; omega) (fun W2 hW2 x hx => qfq x W2)
 have kT : ∀ W,Below W0.heap.size W0 W → Calls Tryz.prog 158 #[.slice v.s.a v.s.n v.s.c, .func (.func 159) #[] #[]] W fun e w' => (∃ a c,e = .returned (.slice a (tb.msgs.filter fun x => x.kind != 1).length c) ∧ RowsAt w' 8 msrP ⟨a,(tb.msgs.filter fun x => x.kind != 1).length,c⟩ (tb.msgs.filter fun x => x.kind != 1)) ∧ Below W.heap.size W w' := fun W hW =>
  qjc W v.s tb.msgs (fun W2 hW2 => ((hT0.below hW).below hW2).s) (by have := hr.l; omega) 159 #[] (enters_of Tryz.func159 (by kernel_rfl) rfl) (fun x => x.kind != 1) (fun W2 hW2 x hx => qf3 x W2)
 have hfl : (tb.msgs.filter fun x => x.kind != 1).length ≤ 1048576 := by
  have h1 := List.length_filter_le (fun x : MsR => x.kind != 1) tb.msgs
  have h2 := hr.l.2.2.1
  exact Nat.le_trans h1 (Nat.le_trans h2 (by decide))
 have hfp : ∀ x ∈ (tb.msgs.filter fun x => x.kind != 1),0 ≤ x.frm ∧ x.frm < (tb.msgs.length : Int) := fun x hx => hr.s x (List.mem_filter.1 hx).1 (by have := (List.mem_filter.1 hx).2; simpa using this)
 have hfn : tb.msgs.length ≤ 1048576 := Nat.le_trans hr.l.2.2.1 (by decide)
 have kM : ∀ W a c,RowsAt W 8 msrP ⟨a,(tb.msgs.filter fun x => x.kind != 1).length,c⟩ (tb.msgs.filter fun x => x.kind != 1) → Calls Tryz.prog 157 #[.slice a (tb.msgs.filter fun x => x.kind != 1).length c, .func (.func 160) #[] #[]] W fun e w' => e = .returned (I (qar (rcvL tb))) ∧ Below W.heap.size W w' := by
  unfold rcvL
  generalize (tb.msgs.filter fun x => x.kind != 1) = fl at *
  intro W a c hrow
  exact qjg W ⟨a,fl.length,c⟩ fl (fun W2 hW2 => hrow.below hW2 (fun _ _ _ _ h => h)) 160 #[] (enters_of Tryz.func160 (by kernel_rfl) rfl) (fun x => x.frm) tb.msgs.length hfp hfn hfl (fun W2 hW2 x hx => qg8 x W2)
 clear hfl hfp hfn
 have kS1 : ∀ W,Below W0.heap.size W0 W → Calls Tryz.prog 161 #[.slice v.a.a v.a.n v.a.c, .func (.func 162) #[] #[]] W fun e w' => e = .returned (I ((tb.als.filter fun x => x.ac.kind == 3).length : Int)) ∧ Below W.heap.size W w' := fun W hW => by
  have := qlt W v.a tb.als (fun W2 hW2 => ((hT0.below hW).below hW2).a) 162 #[] (enters_of Tryz.func162 (by kernel_rfl) rfl) (fun x => if x.ac.kind = 3 then 1 else 0) (fun W2 hW2 x hx => qh2 x W2)
  rw [qd8 (fun x : AlR => x.ac.kind == 3) _ (fun x => by simp),qdf (by omega) (by omega)] at this
  exact this
 have kS2 : ∀ W,Below W0.heap.size W0 W → Calls Tryz.prog 163 #[.slice v.s.a v.s.n v.s.c, .func (.func 164) #[] #[]] W fun e w' => e = .returned (I ((tb.msgs.filter fun x => x.ac.kind == 3).length : Int)) ∧ Below W.heap.size W w' := fun W hW => by
  have := qlu W v.s tb.msgs (fun W2 hW2 => ((hT0.below hW).below hW2).s) 164 #[] (enters_of Tryz.func164 (by kernel_rfl) rfl) (fun x => if x.ac.kind = 3 then 1 else 0) (fun W2 hW2 x hx => qh3 x W2)
  rw [qd8 (fun x : MsR => x.ac.kind == 3) _ (fun x => by simp),qdf (by omega) (by omega)] at this
  exact this
 generalize qar (tb.als.map fun x => x.ctr) = A1 at *
 generalize qar (rcvL tb) = A2 at *
 generalize (tb.als.filter fun x => x.ac.kind == 3).length = S1 at *
 generalize (tb.msgs.filter fun x => x.ac.kind == 3).length = S2 at *
 have HS : Hid (∀ W,Below W0.heap.size W0 W → W.cell? ⟨w.heap.size,3,none⟩ = some (.slice v.g.a v.g.n v.g.c) ∧ W.cell? ⟨w.heap.size,6,none⟩ = some (.slice v.a.a v.a.n v.a.c) ∧ W.cell? ⟨w.heap.size,7,none⟩ = some (.slice v.i.a v.i.n v.i.c) ∧ W.cell? ⟨w.heap.size,8,none⟩ = some (.slice v.s.a v.s.n v.s.c)) := fun W hW => by
  obtain ⟨d0,d1,d2,d3,d4,d5,d6,d7,d8,d9,d10,d11,d12⟩ := qbx ((hW.block w.heap.size (qay hV0)).trans hV0)
  exact ⟨d3,d6,d7,d8⟩
 have HRR : Hid (∀ W,Below W0.heap.size W0 W → W.heap[w.heap.size + 1]? = some (.cells #[I 0,I 0,I 0,I 0] 142)) := fun W hW => (hW.block (w.heap.size + 1) (qay hR0)).trans hR0
 have b0 : Below W0.heap.size W0 W0.drew := (Below.refl _ _).drew
 obtain ⟨s3,s6,s7,s8⟩ := HS.out W0 (Below.refl _ _)
 clear hT0 hr hV0 hR0
 have HM : Hid (((max 2 (max A1 A2) : Nat) : Int) = mx3 2 A1 A2) := by show _ = _; unfold mx3; omega
 go_wp2
 go_region_held_law (fun w' => w'.cell? ⟨w.heap.size,3,none⟩ = some (.slice v.g.a v.g.n v.g.c) ∧ w'.cell? ⟨w.heap.size,6,none⟩ = some (.slice v.a.a v.a.n v.a.c) ∧ w'.cell? ⟨w.heap.size,7,none⟩ = some (.slice v.i.a v.i.n v.i.c) ∧ w'.cell? ⟨w.heap.size,8,none⟩ = some (.slice v.s.a v.s.n v.s.c))
  (first | with_reducible exact ⟨s3, s6, s7, s8⟩ | with_reducible exact HS.out _ b0 | with_reducible exact m1 | with_reducible exact m2 | with_reducible exact m3 | with_reducible exact m4 | with_reducible exact m5 | (refine ⟨?_, ?_, ?_, ?_⟩ <;> (repeat rw [qkj (Nat.ne_of_lt (Nat.lt_succ_self w.heap.size))]) <;> first | with_reducible exact m5.1 | with_reducible exact m5.2.1 | with_reducible exact m5.2.2.1 | with_reducible exact m5.2.2.2) | (trace_state; fail "keep"))
  (first
   | (go_at_call 155; refine (kA _ b0).mono ?_; clear kA; rintro e w1 ⟨rfl,q1⟩; have b1 := b0.trans (q1.mono b0.size); have m1 := HS.out w1 b1)
   | (go_at_call 158; refine (kT _ b1).mono ?_; clear kT; rintro e w2 ⟨⟨a2,c2,rfl,r2⟩,q2⟩; have b2 := b1.trans (q2.mono b1.size); have m2 := HS.out w2 b2)
   | (go_at_call 157; refine (kM _ a2 c2 r2).mono ?_; clear kM; rintro e w3 ⟨rfl,q3⟩; have b3 := b2.trans (q3.mono b2.size); have m3 := HS.out w3 b3)
   | (go_at_call 161; refine (kS1 _ b3).mono ?_; clear kS1; rintro e w4 ⟨rfl,q4⟩; have b4 := b3.trans (q4.mono b3.size); have m4 := HS.out w4 b4)
   | (go_at_call 163; refine (kS2 _ b4).mono ?_; clear kS2; rintro e w5 ⟨rfl,q5⟩; have b5 := b4.trans (q5.mono b4.size); have m5 := HS.out w5 b5; have hR5 := HRR.out w5 b5; obtain ⟨n0,n1,n2,n3,f0,f1,f2,f3⟩ := qh5 hR5; clear hR5))
 all_goals
  have HR : Hid (w5.heap[w.heap.size + 1]? = some (.cells #[I 0,I 0,I 0,I 0] 142)) := HRR.out w5 b5
  have HBz : Hid (Below w.heap.size w w5) := HB0.out.trans (b5.mono HB0.out.size)
  clear m1 m2 m3 m4 m5 n0 n1 n2 n3 f0 f1 f2 f3 s3 s6 s7 s8 r2 q1 q2 q3 q4 q5 b0 b1 b2 b3 b4 b5 HRR HS
  rename_i hHeld
  clear hHeld
  go_wp2
  refine bodyPost_ret (qjh Tryz.results99 _ (w.heap.size + 1) _ _ _ _ _ rfl (qki _ _ _ _ _ _ _ _ _ _ _ HR.out)) rfl ⟨?_, ?_⟩
  ·rw [HF.out,HM.out,qdf (v := (v.i.n : Int) + 4) (by omega) (by omega),qdf (v := (S1 : Int) + S2) (by omega) (by omega)]
  ·exact (((HBz.out.setCell (Nat.le_succ _) _).setCell (Nat.le_succ _) _).setCell (Nat.le_succ _) _).setCell (Nat.le_succ _) _
end Go.Proofs.YtijgopkhdjaolaaGreat
namespace Go.Proofs.YtijgopkhdjaolaaGreat
open Go.RowKit Go.Shelf Go.Sort
set_option linter.unusedSimpArgs false
set_option linter.unusedVariables false
set_option maxHeartbeats 16000000
set_option maxRecDepth 100000
def rmB (tb : Tb) : Bool := qhz tb (max (qar (tb.als.map fun x => x.ctr)) (qar (rcvL tb)))
theorem qgb (tb : Tb) (v : Ts) (w : World) (h : TbAt w tb v) (hr : RoomOK tb) : Calls Tryz.prog 33 #[.agg (tbC tb v)] w fun e w' => e = .returned (.bool (rmB tb)) ∧ Below w.heap.size w w' := by
 have hb := qa0 w (.cells (tbC tb v) 30)
 have hV0 := heap_alloc_new w (.cells (tbC tb v) 30)
 have hT0 := h.below hb
 have HB0 : Hid (Below w.heap.size w (w.alloc (.cells (tbC tb v) 30))) := hb
 have hi30 : (Tryz.prog.info? 30).map (·.size) = some (tbC tb v).size := by kernel_rfl
 obtain ⟨p0,p1,p2,p3,hp,hB⟩ : ∃ p0 p1 p2 p3 : Int,rmC tb = #[I p0,I p1,I p2,I p3] ∧ rmB tb = ((tb.depth == p0) && (tb.frames == p1) && (tb.errors == p2) && (tb.calls == p3)) := ⟨_,_,_,_,rfl,rfl⟩
 obtain ⟨R,hR⟩ : ∃ R,R = rmB tb := ⟨_,rfl⟩
 have HX : Hid (R = ((tb.depth == p0) && (tb.frames == p1) && (tb.errors == p2) && (tb.calls == p3))) := hR.trans hB
 rw [← hR]
 have kR := fun W hW => qh6 tb v W (hT0.below hW) hr
 rw [hp] at kR
 clear h hb hB hR hp
 go_enter Tryz.func33,Tryz.ntmps33
 unfold tbC at *
 go_upto_region 1 with fail
 generalize (w.alloc (.cells #[I tb.uses,I tb.modes, .slice v.t.a v.t.n v.t.c, .slice v.g.a v.g.n v.g.c, .slice v.r.a v.r.n v.r.c, .slice v.k.a v.k.n v.k.c, .slice v.a.a v.a.n v.a.c, .slice v.i.a v.i.n v.i.c, .slice v.s.a v.s.n v.s.c,I tb.depth,I tb.frames,I tb.errors,I tb.calls] 30)) = W0 at *
 have cR : ∀ d os,Calls Tryz.prog 99 #[.agg #[I tb.uses,I tb.modes, .slice v.t.a v.t.n v.t.c, .slice v.g.a v.g.n v.g.c, .slice v.r.a v.r.n v.r.c, .slice v.k.a v.k.n v.k.c, .slice v.a.a v.a.n v.a.c, .slice v.i.a v.i.n v.i.c, .slice v.s.a v.s.n v.s.c,I tb.depth,I tb.frames,I tb.errors,I tb.calls]] (grow (redrawn W0 d) os) fun e w'' => e = .returned (.agg #[I p0,I p1,I p2,I p3]) ∧ ∃ p : Regrown,w'' = grow (redrawn W0 p.d) p.os := qaz kR
 have hRV := qbk hV0
 have x9 := cell_of_row _ w.heap.size 9 _ _ (0,0) hV0
 have x10 := cell_of_row _ w.heap.size 10 _ _ (0,0) hV0
 have x11 := cell_of_row _ w.heap.size 11 _ _ (0,0) hV0
 have x12 := cell_of_row _ w.heap.size 12 _ _ (0,0) hV0
 simp at x9 x10 x11 x12
 have y9 := cell_regrown x9
 have y10 := cell_regrown x10
 have y11 := cell_regrown x11
 have y12 := cell_regrown x12
 clear kR hT0 hr hV0 x9 x10 x11 x12
 by_cases b0 : p0 = tb.depth
 rotate_left
 ·refine wp_region_quiet_below (by kernel_rfl) (by kernel_rfl) ?_
  repeat (first | (go_big_quiet_step (first | exact cR _ _)) | (refine qaa (by kernel_rfl) 30 _ rfl w.heap.size rfl 30 _ (0,0) _ hRV Tryz.underlying30 rfl hi30 ?_; simp only [Act.put,q7a,q7b,q7c,q7d,q7e,q7f]))
  refine wpQuiet_nil ?_
  rintro _ ⟨⟨dq,osq⟩,rfl⟩
  dsimp only
  have HB9 : Hid (Below w.heap.size w (grow (redrawn W0 dq) osq)) := HB0.out.trans ((below_regrown W0 dq osq).mono HB0.out.size)
  clear cR y9 y10 y11 y12 hRV
  generalize grow (redrawn W0 dq) osq = w9 at *
  go_wp2
  go_ret
  exact ⟨qa5 (by rw [HX.out,Bool.eq_iff_iff]; simp; try omega),HB9.out⟩
 subst b0
 by_cases b1 : p1 = tb.frames
 rotate_left
 ·refine wp_region_quiet_below (by kernel_rfl) (by kernel_rfl) ?_
  repeat (first | (go_big_quiet_step (first | exact cR _ _)) | (refine qaa (by kernel_rfl) 30 _ rfl w.heap.size rfl 30 _ (0,0) _ hRV Tryz.underlying30 rfl hi30 ?_; simp only [Act.put,q7a,q7b,q7c,q7d,q7e,q7f]))
  refine wpQuiet_nil ?_
  rintro _ ⟨⟨dq,osq⟩,rfl⟩
  dsimp only
  have HB9 : Hid (Below w.heap.size w (grow (redrawn W0 dq) osq)) := HB0.out.trans ((below_regrown W0 dq osq).mono HB0.out.size)
  clear cR y9 y10 y11 y12 hRV
  generalize grow (redrawn W0 dq) osq = w9 at *
  go_wp2
  go_ret
  exact ⟨qa5 (by rw [HX.out,Bool.eq_iff_iff]; simp; try omega),HB9.out⟩
 subst b1
 by_cases b2 : p2 = tb.errors
 rotate_left
 ·refine wp_region_quiet_below (by kernel_rfl) (by kernel_rfl) ?_
  repeat (first | (go_big_quiet_step (first | exact cR _ _)) | (refine qaa (by kernel_rfl) 30 _ rfl w.heap.size rfl 30 _ (0,0) _ hRV Tryz.underlying30 rfl hi30 ?_; simp only [Act.put,q7a,q7b,q7c,q7d,q7e,q7f]))
  refine wpQuiet_nil ?_
  rintro _ ⟨⟨dq,osq⟩,rfl⟩
  dsimp only
  have HB9 : Hid (Below w.heap.size w (grow (redrawn W0 dq) osq)) := HB0.out.trans ((below_regrown W0 dq osq).mono HB0.out.size)
  clear cR y9 y10 y11 y12 hRV
  generalize grow (redrawn W0 dq) osq = w9 at *
  go_wp2
  go_ret
  exact ⟨qa5 (by rw [HX.out,Bool.eq_iff_iff]; simp; try omega),HB9.out⟩
 subst b2
 by_cases b3 : p3 = tb.calls
 rotate_left
 ·refine wp_region_quiet_below (by kernel_rfl) (by kernel_rfl) ?_
  repeat (first | (go_big_quiet_step (first | exact cR _ _)) | (refine qaa (by kernel_rfl) 30 _ rfl w.heap.size rfl 30 _ (0,0) _ hRV Tryz.underlying30 rfl hi30 ?_; simp only [Act.put,q7a,q7b,q7c,q7d,q7e,q7f]))
  refine wpQuiet_nil ?_
  rintro _ ⟨⟨dq,osq⟩,rfl⟩
  dsimp only
  have HB9 : Hid (Below w.heap.size w (grow (redrawn W0 dq) osq)) := HB0.out.trans ((below_regrown W0 dq osq).mono HB0.out.size)
  clear cR y9 y10 y11 y12 hRV
  generalize grow (redrawn W0 dq) osq = w9 at *
  go_wp2
  go_ret
  exact ⟨qa5 (by rw [HX.out,Bool.eq_iff_iff]; simp; try omega),HB9.out⟩
 subst b3
 refine wp_region_quiet_below (by kernel_rfl) (by kernel_rfl) ?_
 repeat (first | (go_big_quiet_step (first | exact cR _ _)) | (refine qaa (by kernel_rfl) 30 _ rfl w.heap.size rfl 30 _ (0,0) _ hRV Tryz.underlying30 rfl hi30 ?_; simp only [Act.put,q7a,q7b,q7c,q7d,q7e,q7f]))
 refine wpQuiet_nil ?_
 rintro _ ⟨⟨dq,osq⟩,rfl⟩
 dsimp only
 have HB9 : Hid (Below w.heap.size w (grow (redrawn W0 dq) osq)) := HB0.out.trans ((below_regrown W0 dq osq).mono HB0.out.size)
 clear cR y9 y10 y11 y12 hRV
 generalize grow (redrawn W0 dq) osq = w9 at *
 go_wp2
 go_ret
 exact ⟨qa5 (by rw [HX.out,Bool.eq_iff_iff]; simp; try omega),HB9.out⟩
end Go.Proofs.YtijgopkhdjaolaaGreat
