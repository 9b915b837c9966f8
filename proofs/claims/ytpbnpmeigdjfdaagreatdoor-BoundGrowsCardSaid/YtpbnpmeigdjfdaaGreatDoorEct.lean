import Derived.Test.YtpbnpmeigdjfdaaGreatDoorXEcs
import Derived.Deep.RegionHeldLaw
namespace Go.Proofs.YtpbnpmeigdjfdaaGreatDoor.Ce
open Go.Maps Go.RowKit
set_option linter.unusedSimpArgs false
set_option linter.unusedVariables false
set_option maxHeartbeats 16000000
set_option maxRecDepth 100000
theorem yieldsIf_load_row {P : Program} {ops : Array Oper} {S : World → Prop} {a : Act} {o : Oper} (hgd : Region.wanted o (yielded ops a.tmps) = true) (ty : TypeId) (x : Operand) (ho : o.op = .load ty x)
  (g : Nat) (hx : a.eval x = .pointer (some ⟨g, 0, none⟩)) (t : TypeId) (cs : Array Value) (fr : Nat × Nat) (d : TypeDesc) (hg : ∀ w, S w → w.heap[g]? = some (.cells cs t fr))
  (hu : P.underlying ty = some d) (hd : (match d with | .struct _ | .array _ _ => true | _ => false) = true) (hi : (P.info? ty).map (·.size) = some cs.size) : YieldsIf P ops S o (.agg cs) a :=
 .inl ⟨hgd, fun w hw => by
  unfold execOp
  simp only [ho, hx, Instr.loadAt, Instr.sureAddr, Sem.run_bind, Sem.run_pure, Result.andThen_ok, run_loadVar_row w g t ty cs fr d (hg w hw) hu hd hi]⟩
def fitU (c : Cf) (isr : Bool) (l : List Int) : Bool := decide ((l.length : Int) - ((takenL c l).length : Int) ≤ if isr then 0 else 1)
theorem namesFit1_any (W : World) (c : Cf) (v : Vs) (h : CfAt W c v) (isr : Bool) (id : Nat) (prio : Int) (s : Sl) (l : List Int) (hl : RowsAt W 1 intP s l) (hid : ∀ x ∈ l, isId x c.ress.length = true) (hlen : l.length ≤ 8796093022208) (bm bc : Nat) (m : Bool) (hm : BoxB W bm m) (hc : BoxC W bc c v) (hbc : bm ≠ bc) :
  Calls Tryz.prog 163 #[.agg (usC isr id prio s), .pointer (some ⟨bm, 0, none⟩), .pointer (some ⟨bc, 0, none⟩)] W fun e w' => e = .returned (.tuple #[]) ∧ W.grownBy w' (some bm) ∧ BoxB w' bm (m && fitU c isr l) := by
 have hi18 : (Tryz.prog.info? 33).map (·.size) = some (cfC c v).size := by rw [show (cfC c v).size = 18 from rfl]; kernel_rfl
 have hbl := heap_lt hm
 have hcl := heap_lt hc
 have x0 : W.cell? ⟨bm, 0, none⟩ = some (.bool m) := by rw [cell_of_row W bm 0 _ _ (0, 0) hm]; rfl
 have x1 : W.frozen? ⟨bm, 0, none⟩ = false := frozen_of_row W bm 0 _ _ hm
 have hset := boxed_set hm (.cells (usC isr id prio s) 181)
 have hb := below_alloc W (.cells (usC isr id prio s) 181)
 have HK : Hid (∀ W', Below W.heap.size W W' → Calls Tryz.prog 108 #[.agg (cfC c v), .slice s.a s.n s.c] W' fun e w' => TakPost W' (takenL c l) e w') := fun W' hW => taken_any W' c v (h.below hW) s l (hl.below hW (fun _ _ _ _ h => h)) hid hlen
 have HS : Hid (s.n = l.length) := hl.n
 have hsl : s.n ≤ 8796093022208 := by have := hl.n; omega
 have hnb : bm ≠ W.heap.size := Nat.ne_of_lt hbl
 have hnc : bc ≠ W.heap.size := Nat.ne_of_lt hcl
 have z1 : (W.alloc (.cells (usC isr id prio s) 181)).heap[bc]? = some (.cells (cfC c v) 33 (0, 0)) := heap_over _ _ hc
 have z2 : (W.alloc (.cells (usC isr id prio s) 181)).cell? ⟨W.heap.size, 3, none⟩ = some (.slice s.a s.n s.c) := by rw [cell_of_row _ _ 3 _ _ (0, 0) (heap_alloc_new W _)]; rfl
 have HM : Hid (BoxB W bm m) := hm
 generalize cfC c v = C at *
 unfold usC at *
 clear hl h hid hlen hm hc
 cases m with
 | false =>
  have HSt : Hid _ := hset false
  clear hset HK
  cases isr <;>
  (go_enter Tryz.func163, Tryz.ntmps163
   go_wp2
   go_big_region
   go_wp2
   refine bodyPost_end (v := .tuple #[]) (by simp [results, Tryz.results163, go_sem]) rfl ?_
   exact ⟨rfl, ⟨HSt.out.1.os, HSt.out.1.tape, HSt.out.1.output, HSt.out.1.size, HSt.out.1.block⟩, HSt.out.2⟩)
 | true =>
  cases isr with
  | false =>
   go_enter Tryz.func163, Tryz.ntmps163
   go_wp2
   refine wp_region_held_drew (S := fun W' => W'.heap[bc]? = some (.cells C 33 (0, 0)) ∧ W'.cell? ⟨W.heap.size, 3, none⟩ = some (.slice s.a s.n s.c)) (by kernel_rfl) ⟨z1, z2⟩ (fun hHeld => ?_)
   refine wpAnyH_ready (rs := [0]) (by kernel_rfl) (by simp) ?_
   refine AllReadyH.cons rfl (fun K hK => ?_) AllReadyH.nil
   go_simp
   refine hK.out _ _ ⟨z1, z2⟩ (fun hHeld => ?_)
   clear hK K
   refine wpAnyH_take (i := 1) (v := ?_) rfl (by kernel_rfl) (by kernel_rfl) (by kernel_rfl) (fun _ _ _ h => h) (Or.inl ⟨by rfl, ?_⟩) hHeld ?_
   rotate_left
   ·intro w' hSw
    obtain ⟨_, hS2⟩ := hSw
    go_simp
    try with_reducible rfl
   try simp only [Act.put, q7d, q7e, q7f]
   refine wpAnyH_take (i := 2) (v := ?_) rfl (by kernel_rfl) (by kernel_rfl) (by kernel_rfl) (fun _ _ _ h => h) (Or.inl ⟨by rfl, ?_⟩) hHeld ?_
   rotate_left
   ·intro w' hSw
    obtain ⟨_, hS2⟩ := hSw
    go_simp
    try with_reducible rfl
   try simp only [Act.put, q7d, q7e, q7f]
   refine wpAnyH_take (i := 3) (v := ?_) rfl (by kernel_rfl) (by kernel_rfl) (by kernel_rfl) (fun _ _ _ h => h) (Or.inl ⟨by rfl, ?_⟩) hHeld ?_
   rotate_left
   ·intro w' hSw
    obtain ⟨_, hS2⟩ := hSw
    go_simp
    try with_reducible rfl
   try simp only [Act.put, q7d, q7e, q7f]
   refine wpAnyH_take (i := 4) (v := ?_) rfl (by kernel_rfl) (by kernel_rfl) (by kernel_rfl) (fun _ _ _ h => h) (Or.inl ⟨by rfl, ?_⟩) hHeld ?_
   rotate_left
   ·intro w' hSw
    obtain ⟨_, hS2⟩ := hSw
    go_simp
    try with_reducible rfl
   try simp only [Act.put, q7d, q7e, q7f]
   refine wpAnyH_take (i := 5) (v := .agg C) rfl (by kernel_rfl) (by kernel_rfl) (by kernel_rfl) (fun _ _ _ h => h) (yieldsIf_load_row (by rfl) 33 _ rfl bc rfl 33 C (0, 0) _ (fun _ hw => hw.1) Tryz.underlying33 rfl hi18) hHeld ?_
   try simp only [Act.put, q7d, q7e, q7f]
   refine wpAnyH_take (i := 6) (v := ?_) rfl (by kernel_rfl) (by kernel_rfl) (by kernel_rfl) (fun _ _ _ h => h) (Or.inl ⟨by rfl, ?_⟩) hHeld ?_
   rotate_left
   ·intro w' hSw
    obtain ⟨_, hS2⟩ := hSw
    go_simp
    try with_reducible rfl
   try simp only [Act.put, q7d, q7e, q7f]
   refine wpAnyH_take (i := 7) (v := ?_) rfl (by kernel_rfl) (by kernel_rfl) (by kernel_rfl) (fun _ _ _ h => h) (Or.inl ⟨by rfl, ?_⟩) hHeld ?_
   rotate_left
   ·intro w' hSw
    obtain ⟨_, hS2⟩ := hSw
    go_simp
    try with_reducible rfl
   try simp only [Act.put, q7d, q7e, q7f]
   refine wpAnyH_take (i := 11) (v := ?_) rfl (by kernel_rfl) (by kernel_rfl) (by kernel_rfl) (fun _ _ _ h => h) (Or.inl ⟨by rfl, ?_⟩) hHeld ?_
   rotate_left
   ·intro w' hSw
    obtain ⟨_, hS2⟩ := hSw
    go_simp
    try with_reducible rfl
   try simp only [Act.put, q7d, q7e, q7f]
   refine wpAnyH_ready (rs := [8]) (by kernel_rfl) (by simp) ?_
   refine AllReadyH.cons rfl (fun K hK => ?_) AllReadyH.nil
   go_simp
   have hbd : Below W.heap.size W (W.alloc (.cells #[.bool false, I (id : Int), I prio, .slice s.a s.n s.c] 181)).drew := ⟨hb.os, hb.tape, hb.output, hb.size, hb.block⟩
   go_wp2_with (go_at_call 108; refine (HK.out _ hbd).mono ?_; rintro e w2 ⟨u, rfl, hO, hb2⟩)
   have hB2 : Below (W.alloc (.cells #[.bool false, I (id : Int), I prio, .slice s.a s.n s.c] 181)).heap.size (W.alloc (.cells #[.bool false, I (id : Int), I prio, .slice s.a s.n s.c] 181)) w2 := ⟨hb2.os, hb2.tape, hb2.output, hb2.size, hb2.block⟩
   have z1' : w2.heap[bc]? = some (.cells C 33 (0, 0)) := (hB2.block _ (heap_lt z1)).trans z1
   have z2' : w2.cell? ⟨W.heap.size, 3, none⟩ = some (.slice s.a s.n s.c) := by rw [cell_below hB2 _ _ (World.block_lt_of_cell? _ _ z2)]; exact z2
   have hm2 : BoxB w2 bm true := (hB2.block _ (by simp; omega)).trans (heap_over _ _ HM.out)
   have x0' : w2.cell? ⟨bm, 0, none⟩ = some (.bool true) := by rw [cell_of_row w2 bm 0 _ _ (0, 0) hm2]; rfl
   have x1' : w2.frozen? ⟨bm, 0, none⟩ = false := frozen_of_row w2 bm 0 _ _ hm2
   have HB2 : Hid (Below W.heap.size W w2) := hb.trans (hB2.mono hb.size)
   obtain ⟨q, hq, hR⟩ := rows_ints hO (l := takenL c l) rfl rfl
   subst hq
   have HQ : Hid (q.n = (takenL c l).length) := hR.n
   have hqn : q.n ≤ s.n := by rw [HQ.out, HS.out]; exact List.length_filter_le _ _
   refine hK.out _ _ ⟨z1', z2'⟩ (fun hHeld => ?_)
   clear hK K hO hR hbd HK
   refine wpAnyH_take (i := 9) (v := ?_) rfl (by kernel_rfl) (by kernel_rfl) (by kernel_rfl) (fun _ _ _ h => h) (Or.inl ⟨by rfl, ?_⟩) hHeld ?_
   rotate_left
   ·intro w' hSw
    obtain ⟨_, hS2⟩ := hSw
    go_simp
    try with_reducible rfl
   try simp only [Act.put, q7d, q7e, q7f]
   refine wpAnyH_take (i := 10) (v := ?_) rfl (by kernel_rfl) (by kernel_rfl) (by kernel_rfl) (fun _ _ _ h => h) (Or.inl ⟨by rfl, ?_⟩) hHeld ?_
   rotate_left
   ·intro w' hSw
    obtain ⟨_, hS2⟩ := hSw
    go_simp
    try with_reducible rfl
   try simp only [Act.put, q7d, q7e, q7f]
   refine wpAnyH_take (i := 12) (v := ?_) rfl (by kernel_rfl) (by kernel_rfl) (by kernel_rfl) (fun _ _ _ h => h) (Or.inl ⟨by rfl, ?_⟩) hHeld ?_
   rotate_left
   ·intro w' hSw
    obtain ⟨_, hS2⟩ := hSw
    go_simp
    try with_reducible rfl
   try simp only [Act.put, q7d, q7e, q7f]
   refine wpAnyH_take (i := 13) (v := ?_) rfl (by kernel_rfl) (by kernel_rfl) (by kernel_rfl) (fun _ _ _ h => h) (Or.inl ⟨by rfl, ?_⟩) hHeld ?_
   rotate_left
   ·intro w' hSw
    obtain ⟨_, hS2⟩ := hSw
    go_simp
    try with_reducible rfl
   try simp only [Act.put, q7d, q7e, q7f]
   refine wpAnyH_ready (rs := [14]) (by kernel_rfl) (by simp) ?_
   refine AllReadyH.cons rfl (fun K hK => ?_) AllReadyH.nil
   go_simp
   have hwr : IntKind.i64.wrap ((s.n : Int) - (q.n : Int)) = (s.n : Int) - (q.n : Int) := IntWalk.i64_in _ (by omega)
   have HW : Hid (decide (IntKind.i64.wrap ((s.n : Int) - (q.n : Int)) ≤ 1) = fitU c false l) := by
    show _ = _
    rw [hwr, HQ.out, HS.out]
    rfl
   rw [HW.out]
   have hgs := grown_set w2 bm 0 (.bool (fitU c false l))
   refine hK.out _ _ ⟨(hgs.block _ (heap_lt z1') (fun e => hbc (Option.some.inj e).symm)).trans z1', hgs.cell z2' (fun e => hnb (Option.some.inj e).symm)⟩ (fun hHeld => ?_)
   clear hK K
   refine wpAnyH_done (by kernel_rfl) ?_ _
   go_wp2
   refine bodyPost_end (v := .tuple #[]) (by simp [results, Tryz.results163, go_sem]) rfl ?_
   exact ⟨rfl, grown_same (grown_of_below HB2.out) hgs, heap_setCell_same w2 bm 0 _ _ _ hm2⟩
  | true =>
   go_enter Tryz.func163, Tryz.ntmps163
   go_wp2
   refine wp_region_held_drew (S := fun W' => W'.heap[bc]? = some (.cells C 33 (0, 0)) ∧ W'.cell? ⟨W.heap.size, 3, none⟩ = some (.slice s.a s.n s.c)) (by kernel_rfl) ⟨z1, z2⟩ (fun hHeld => ?_)
   refine wpAnyH_ready (rs := [0]) (by kernel_rfl) (by simp) ?_
   refine AllReadyH.cons rfl (fun K hK => ?_) AllReadyH.nil
   go_simp
   refine hK.out _ _ ⟨z1, z2⟩ (fun hHeld => ?_)
   clear hK K
   refine wpAnyH_take (i := 1) (v := ?_) rfl (by kernel_rfl) (by kernel_rfl) (by kernel_rfl) (fun _ _ _ h => h) (Or.inl ⟨by rfl, ?_⟩) hHeld ?_
   rotate_left
   ·intro w' hSw
    obtain ⟨_, hS2⟩ := hSw
    go_simp
    try with_reducible rfl
   try simp only [Act.put, q7d, q7e, q7f]
   refine wpAnyH_take (i := 2) (v := ?_) rfl (by kernel_rfl) (by kernel_rfl) (by kernel_rfl) (fun _ _ _ h => h) (Or.inl ⟨by rfl, ?_⟩) hHeld ?_
   rotate_left
   ·intro w' hSw
    obtain ⟨_, hS2⟩ := hSw
    go_simp
    try with_reducible rfl
   try simp only [Act.put, q7d, q7e, q7f]
   refine wpAnyH_take (i := 3) (v := ?_) rfl (by kernel_rfl) (by kernel_rfl) (by kernel_rfl) (fun _ _ _ h => h) (Or.inl ⟨by rfl, ?_⟩) hHeld ?_
   rotate_left
   ·intro w' hSw
    obtain ⟨_, hS2⟩ := hSw
    go_simp
    try with_reducible rfl
   try simp only [Act.put, q7d, q7e, q7f]
   refine wpAnyH_take (i := 4) (v := ?_) rfl (by kernel_rfl) (by kernel_rfl) (by kernel_rfl) (fun _ _ _ h => h) (Or.inl ⟨by rfl, ?_⟩) hHeld ?_
   rotate_left
   ·intro w' hSw
    obtain ⟨_, hS2⟩ := hSw
    go_simp
    try with_reducible rfl
   try simp only [Act.put, q7d, q7e, q7f]
   refine wpAnyH_take (i := 5) (v := .agg C) rfl (by kernel_rfl) (by kernel_rfl) (by kernel_rfl) (fun _ _ _ h => h) (yieldsIf_load_row (by rfl) 33 _ rfl bc rfl 33 C (0, 0) _ (fun _ hw => hw.1) Tryz.underlying33 rfl hi18) hHeld ?_
   try simp only [Act.put, q7d, q7e, q7f]
   refine wpAnyH_take (i := 6) (v := ?_) rfl (by kernel_rfl) (by kernel_rfl) (by kernel_rfl) (fun _ _ _ h => h) (Or.inl ⟨by rfl, ?_⟩) hHeld ?_
   rotate_left
   ·intro w' hSw
    obtain ⟨_, hS2⟩ := hSw
    go_simp
    try with_reducible rfl
   try simp only [Act.put, q7d, q7e, q7f]
   refine wpAnyH_take (i := 7) (v := ?_) rfl (by kernel_rfl) (by kernel_rfl) (by kernel_rfl) (fun _ _ _ h => h) (Or.inl ⟨by rfl, ?_⟩) hHeld ?_
   rotate_left
   ·intro w' hSw
    obtain ⟨_, hS2⟩ := hSw
    go_simp
    try with_reducible rfl
   try simp only [Act.put, q7d, q7e, q7f]
   refine wpAnyH_take (i := 11) (v := ?_) rfl (by kernel_rfl) (by kernel_rfl) (by kernel_rfl) (fun _ _ _ h => h) (Or.inl ⟨by rfl, ?_⟩) hHeld ?_
   rotate_left
   ·intro w' hSw
    obtain ⟨_, hS2⟩ := hSw
    go_simp
    try with_reducible rfl
   try simp only [Act.put, q7d, q7e, q7f]
   refine wpAnyH_ready (rs := [8]) (by kernel_rfl) (by simp) ?_
   refine AllReadyH.cons rfl (fun K hK => ?_) AllReadyH.nil
   go_simp
   have hbd : Below W.heap.size W (W.alloc (.cells #[.bool true, I (id : Int), I prio, .slice s.a s.n s.c] 181)).drew := ⟨hb.os, hb.tape, hb.output, hb.size, hb.block⟩
   go_wp2_with (go_at_call 108; refine (HK.out _ hbd).mono ?_; rintro e w2 ⟨u, rfl, hO, hb2⟩)
   have hB2 : Below (W.alloc (.cells #[.bool true, I (id : Int), I prio, .slice s.a s.n s.c] 181)).heap.size (W.alloc (.cells #[.bool true, I (id : Int), I prio, .slice s.a s.n s.c] 181)) w2 := ⟨hb2.os, hb2.tape, hb2.output, hb2.size, hb2.block⟩
   have z1' : w2.heap[bc]? = some (.cells C 33 (0, 0)) := (hB2.block _ (heap_lt z1)).trans z1
   have z2' : w2.cell? ⟨W.heap.size, 3, none⟩ = some (.slice s.a s.n s.c) := by rw [cell_below hB2 _ _ (World.block_lt_of_cell? _ _ z2)]; exact z2
   have hm2 : BoxB w2 bm true := (hB2.block _ (by simp; omega)).trans (heap_over _ _ HM.out)
   have x0' : w2.cell? ⟨bm, 0, none⟩ = some (.bool true) := by rw [cell_of_row w2 bm 0 _ _ (0, 0) hm2]; rfl
   have x1' : w2.frozen? ⟨bm, 0, none⟩ = false := frozen_of_row w2 bm 0 _ _ hm2
   have HB2 : Hid (Below W.heap.size W w2) := hb.trans (hB2.mono hb.size)
   obtain ⟨q, hq, hR⟩ := rows_ints hO (l := takenL c l) rfl rfl
   subst hq
   have HQ : Hid (q.n = (takenL c l).length) := hR.n
   have hqn : q.n ≤ s.n := by rw [HQ.out, HS.out]; exact List.length_filter_le _ _
   refine hK.out _ _ ⟨z1', z2'⟩ (fun hHeld => ?_)
   clear hK K hO hR hbd HK
   refine wpAnyH_take (i := 9) (v := ?_) rfl (by kernel_rfl) (by kernel_rfl) (by kernel_rfl) (fun _ _ _ h => h) (Or.inl ⟨by rfl, ?_⟩) hHeld ?_
   rotate_left
   ·intro w' hSw
    obtain ⟨_, hS2⟩ := hSw
    go_simp
    try with_reducible rfl
   try simp only [Act.put, q7d, q7e, q7f]
   refine wpAnyH_take (i := 10) (v := ?_) rfl (by kernel_rfl) (by kernel_rfl) (by kernel_rfl) (fun _ _ _ h => h) (Or.inl ⟨by rfl, ?_⟩) hHeld ?_
   rotate_left
   ·intro w' hSw
    obtain ⟨_, hS2⟩ := hSw
    go_simp
    try with_reducible rfl
   try simp only [Act.put, q7d, q7e, q7f]
   refine wpAnyH_take (i := 12) (v := ?_) rfl (by kernel_rfl) (by kernel_rfl) (by kernel_rfl) (fun _ _ _ h => h) (Or.inl ⟨by rfl, ?_⟩) hHeld ?_
   rotate_left
   ·intro w' hSw
    obtain ⟨_, hS2⟩ := hSw
    go_simp
    try with_reducible rfl
   try simp only [Act.put, q7d, q7e, q7f]
   refine wpAnyH_take (i := 13) (v := ?_) rfl (by kernel_rfl) (by kernel_rfl) (by kernel_rfl) (fun _ _ _ h => h) (Or.inl ⟨by rfl, ?_⟩) hHeld ?_
   rotate_left
   ·intro w' hSw
    obtain ⟨_, hS2⟩ := hSw
    go_simp
    try with_reducible rfl
   try simp only [Act.put, q7d, q7e, q7f]
   refine wpAnyH_ready (rs := [14]) (by kernel_rfl) (by simp) ?_
   refine AllReadyH.cons rfl (fun K hK => ?_) AllReadyH.nil
   go_simp
   have hwr : IntKind.i64.wrap ((s.n : Int) - (q.n : Int)) = (s.n : Int) - (q.n : Int) := IntWalk.i64_in _ (by omega)
   have HW : Hid (decide (IntKind.i64.wrap ((s.n : Int) - (q.n : Int)) ≤ 0) = fitU c true l) := by
    show _ = _
    rw [hwr, HQ.out, HS.out]
    rfl
   rw [HW.out]
   have hgs := grown_set w2 bm 0 (.bool (fitU c true l))
   refine hK.out _ _ ⟨(hgs.block _ (heap_lt z1') (fun e => hbc (Option.some.inj e).symm)).trans z1', hgs.cell z2' (fun e => hnb (Option.some.inj e).symm)⟩ (fun hHeld => ?_)
   clear hK K
   refine wpAnyH_done (by kernel_rfl) ?_ _
   go_wp2
   refine bodyPost_end (v := .tuple #[]) (by simp [results, Tryz.results163, go_sem]) rfl ?_
   exact ⟨rfl, grown_same (grown_of_below HB2.out) hgs, heap_setCell_same w2 bm 0 _ _ _ hm2⟩
theorem ris_len {a n : Int} {l : List Int} (h : risF a l n = true) : l.length ≤ (n - a - 1).toNat := by
 induction l generalizing a with
 | nil => exact Nat.zero_le _
 | cons y r ih =>
  have h2 : a < y ∧ y < n ∧ risF y r n = true := by
   unfold risF at h
   have h3 : isId y n = true ∧ a < y ∧ risF y r n = true := by simpa [and_assoc] using h
   have h4 : 0 ≤ y ∧ y < n := by simpa [isId] using h3.1
   exact ⟨h3.2.1, h4.2, h3.2.2⟩
  have := ih h2.2.2
  rw [List.length_cons]
  omega
def fitB (c : Cf) : Bool := c.tasks.all (fun x => fitU c false x.res) && c.isrs.all (fun x => fitU c true x.res)
theorem meet_task {c : Cf} (h : meetB c = true) (hn : c.ress.length ≤ 8796093022208) {x : Tk} (hx : x ∈ c.tasks) : (∀ y ∈ x.res, isId y c.ress.length = true) ∧ x.res.length ≤ 8796093022208 := by
 have h1 : c.tasks.all (risT c) = true := by unfold meetB at h; simp only [Bool.and_eq_true] at h; exact h.1
 have h2 : risF (-1) x.res c.ress.length = true := List.all_eq_true.1 h1 x hx
 have := ris_len h2
 exact ⟨ids_of_ris h2, by omega⟩
theorem meet_isr {c : Cf} (h : meetB c = true) (hn : c.ress.length ≤ 8796093022208) {x : Is} (hx : x ∈ c.isrs) : (∀ y ∈ x.res, isId y c.ress.length = true) ∧ x.res.length ≤ 8796093022208 := by
 have h1 : c.isrs.all (risI c) = true := by unfold meetB at h; simp only [Bool.and_eq_true] at h; exact h.2
 have h2 : risF (-1) x.res c.ress.length = true := List.all_eq_true.1 h1 x hx
 have := ris_len h2
 exact ⟨ids_of_ris h2, by omega⟩
theorem namesFit_any (w : World) (c : Cf) (v : Vs) (h : CfAt w c v) (hn : c.ress.length ≤ 8796093022208) (hmt : meetB c = true) : Calls Tryz.prog 102 #[.agg (cfC c v)] w fun e w' => Ans w (fitB c) e w' := by
 have hi18 : (Tryz.prog.info? 33).map (·.size) = some (cfC c v).size := by rw [show (cfC c v).size = 18 from rfl]; kernel_rfl
 have hV2 := heap_two0 w (.cells (cfC c v) 33) (.cells #[.bool true] 4)
 have hM2 := heap_two w (.cells (cfC c v) 33) (.cells #[.bool true] 4)
 have hb2 : Below w.heap.size w ((w.alloc (.cells (cfC c v) 33)).alloc (.cells #[.bool true] 4)) := ((Below.refl w.heap.size w).alloc (Nat.le_refl _) _).alloc (by simp) _
 have hs2 : ((w.alloc (.cells (cfC c v) 33)).alloc (.cells #[.bool true] 4)).heap.size = w.heap.size + 2 := by simp
 have hst : (storeCells ⟨w.heap.size + 1, 0, none⟩ [.bool true] 0).run Tryz.prog ((w.alloc (.cells (cfC c v) 33)).alloc (.cells #[.bool false] 4)) = .ok () ((w.alloc (.cells (cfC c v) 33)).alloc (.cells #[.bool true] 4)) := by
  have := run_storeCells_new (P := Tryz.prog) (w.alloc (.cells (cfC c v) 33)) 4 #[.bool false] #[.bool true] (by kernel_rfl) rfl (by simp [Value.oneCell'])
  rwa [show (w.alloc (.cells (cfC c v) 33)).heap.size = w.heap.size + 1 by simp] at this
 have ke : Calls Tryz.prog 103 #[.agg (cfC c v), .func (.func 163) #[] #[.pointer (some ⟨w.heap.size + 1, 0, none⟩), .pointer (some ⟨w.heap.size, 0, none⟩)]] ((w.alloc (.cells (cfC c v) 33)).alloc (.cells #[.bool true] 4)) fun e w' => e = .returned (.tuple #[]) ∧ BoxB w' (w.heap.size + 1) (fitB c) ∧ Below w.heap.size w w' := by
  refine (eachUser_any _ c v 163 #[.pointer (some ⟨w.heap.size + 1, 0, none⟩), .pointer (some ⟨w.heap.size, 0, none⟩)] (enters_of Tryz.func163 (by kernel_rfl) rfl)
   (fun j W => BoxB W (w.heap.size + 1) ((c.tasks.take j).all (fun x => fitU c false x.res)) ∧ BoxC W w.heap.size c v ∧ Below w.heap.size w W)
   (fun j W => BoxB W (w.heap.size + 1) (c.tasks.all (fun x => fitU c false x.res) && (c.isrs.take j).all (fun x => fitU c true x.res)) ∧ BoxC W w.heap.size c v ∧ Below w.heap.size w W)
   (fun j W W' ⟨h1, h2, h3⟩ hb => ⟨(hb.block _ (heap_lt h1)).trans h1, (hb.block _ (heap_lt h2)).trans h2, h3.trans (hb.mono h3.size)⟩)
   (fun j W W' ⟨h1, h2, h3⟩ hb => ⟨(hb.block _ (heap_lt h1)).trans h1, (hb.block _ (heap_lt h2)).trans h2, h3.trans (hb.mono h3.size)⟩)
   (fun j W ⟨_, _, h3⟩ => h.below h3) (fun j W ⟨_, _, h3⟩ => h.below h3) ⟨hM2, hV2, hb2⟩ (fun W ⟨h1, h2, h3⟩ => ⟨by rw [List.take_of_length_le (Nat.le_refl _)] at h1; simpa using h1, h2, h3⟩) ?_ ?_).mono ?_
  ·intro j x s W hx hr ⟨h1, h2, h3⟩ hlt
   obtain ⟨hid, hlen⟩ := meet_task hmt hn (List.mem_of_getElem? hx)
   refine (namesFit1_any W c v (h.below h3) false j x.prio s x.res hr hid hlen (w.heap.size + 1) w.heap.size _ h1 h2 (by omega)).mono ?_
   rintro e w' ⟨rfl, hg, hb⟩
   refine ⟨rfl, ⟨?_, heap_kept h2 hg (fun e => by have := Option.some.inj e; omega), h3.grown hg h3.size (fun k e => by cases e; omega)⟩, ?_, hg.size⟩
   ·rw [all_take _ _ j x hx]
    exact hb
   ·rw [hs2]
    exact hg.block _ (by rw [hs2] at hlt; exact hlt) (fun e => by have := Option.some.inj e; omega)
  ·intro j x s W hx hr ⟨h1, h2, h3⟩ hlt
   obtain ⟨hid, hlen⟩ := meet_isr hmt hn (List.mem_of_getElem? hx)
   refine (namesFit1_any W c v (h.below h3) true j x.prio s x.res hr hid hlen (w.heap.size + 1) w.heap.size _ h1 h2 (by omega)).mono ?_
   rintro e w' ⟨rfl, hg, hb⟩
   refine ⟨rfl, ⟨?_, heap_kept h2 hg (fun e => by have := Option.some.inj e; omega), h3.grown hg h3.size (fun k e => by cases e; omega)⟩, ?_, hg.size⟩
   ·rw [all_take _ _ j x hx, ← Bool.and_assoc]
    exact hb
   ·rw [hs2]
    exact hg.block _ (by rw [hs2] at hlt; exact hlt) (fun e => by have := Option.some.inj e; omega)
  ·rintro e w' ⟨rfl, h1, h2, h3⟩
   refine ⟨rfl, ?_, h3⟩
   rw [List.take_of_length_le (Nat.le_refl _)] at h1
   exact h1
 generalize fitB c = mb at *
 generalize cfC c v = C at *
 clear hM2 hb2 hs2 h
 go_enter Tryz.func102, Tryz.ntmps102
 go_wp2_with (first | (refine wpList_load_row rfl 33 _ rfl w.heap.size rfl 33 _ (0, 0) _ hV2 Tryz.underlying33 rfl hi18 ?_) | (go_at_call 103; refine ke.mono ?_; clear ke; rintro e w1 ⟨rfl, hb1, hbw1⟩; have z0 : w1.cell? ⟨w.heap.size + 1, 0, none⟩ = some (.bool mb) := (by rw [cell_of_row w1 _ 0 _ _ (0, 0) hb1]; rfl)))
 go_ret
 exact ⟨rfl, hbw1⟩
end Go.Proofs.YtpbnpmeigdjfdaaGreatDoor.Ce
