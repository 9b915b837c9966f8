import Derived.Test.YtmidaeljeoifdaaGreatDoorXEcs
import Derived.Deep.RegionHeldLaw
namespace Go.Proofs.YtmidaeljeoifdaaGreatDoor.Ce
open Go.Maps Go.RowKit
set_option linter.unusedSimpArgs false
set_option linter.unusedVariables false
set_option maxHeartbeats 16000000
set_option maxRecDepth 100000
theorem yieldsIf_load_row {P : Program} {ops : Array Oper} {S : World → Prop} {a : Act} {o : Oper} (hgd : Region.wanted o (yielded ops a.tmps) = true) (ty : TypeId) (x : Operand) (ho : o.op = .load ty x)
  (g : Nat) (hx : a.eval x = .pointer (some ⟨g,0,none⟩)) (t : TypeId) (cs : Array Value) (fr : Nat × Nat) (d : TypeDesc) (hg : ∀ w,S w → w.heap[g]? = some (.cells cs t fr))
  (hu : P.underlying ty = some d) (hd : (match d with | .struct _ | .array _ _ => true | _ => false) = true) (hi : (P.info? ty).map (·.size) = some cs.size) : YieldsIf P ops S o (.agg cs) a :=
 .inl ⟨hgd,fun w hw => by
  unfold execOp
  simp only [ho,hx,Instr.loadAt,Instr.sureAddr,Sem.run_bind,Sem.run_pure,Result.andThen_ok,run_loadVar_row w g t ty cs fr d (hg w hw) hu hd hi]⟩
def fitU (c : Cf) (isr : Bool) (l : List Int) : Bool := decide ((l.length : Int) - ((takenL c l).length : Int) ≤ if isr then 0 else 1)
theorem qer (W : World) (c : Cf) (v : Vs) (h : CfAt W c v) (isr : Bool) (id : Nat) (prio : Int) (s : Sl) (l : List Int) (hl : RowsAt W 1 intP s l) (hid : ∀ x ∈ l,isId x c.ress.length = true) (hlen : l.length ≤ 8796093022208) (bm bc : Nat) (m : Bool) (hm : BoxB W bm m) (hc : BoxC W bc c v) (hbc : bm ≠ bc) :
  Calls Tryz.prog 201 #[.agg (usC isr id prio s), .pointer (some ⟨bm,0,none⟩), .pointer (some ⟨bc,0,none⟩)] W fun e w' => e = .returned (.tuple #[]) ∧ W.grownBy w' (some bm) ∧ BoxB w' bm (m && fitU c isr l) := by
 have hi18 : (Tryz.prog.info? 47).map (·.size) = some (cfC c v).size := by rw [show (cfC c v).size = 18 from rfl]; kernel_rfl
 have hbl := qa1 hm
 have hcl := qa1 hc
 have x0 : W.cell? ⟨bm,0,none⟩ = some (.bool m) := by rw [cell_of_row W bm 0 _ _ (0,0) hm]; rfl
 have x1 : W.frozen? ⟨bm,0,none⟩ = false := frozen_of_row W bm 0 _ _ hm
 have hset := qij hm (.cells (usC isr id prio s) 207)
 have hb := qa0 W (.cells (usC isr id prio s) 207)
 have HK : Hid (∀ W',Below W.heap.size W W' → Calls Tryz.prog 135 #[.agg (cfC c v), .slice s.a s.n s.c] W' fun e w' => qi5 W' (takenL c l) e w') := fun W' hW => qii W' c v (h.below hW) s l (hl.below hW (fun _ _ _ _ h => h)) hid hlen
 have HS : Hid (s.n = l.length) := hl.n
 have hsl : s.n ≤ 8796093022208 := by have := hl.n; omega
 have hnb : bm ≠ W.heap.size := Nat.ne_of_lt hbl
 have hnc : bc ≠ W.heap.size := Nat.ne_of_lt hcl
 have z1 : (W.alloc (.cells (usC isr id prio s) 207)).heap[bc]? = some (.cells (cfC c v) 47 (0,0)) := qad _ _ hc
 have z2 : (W.alloc (.cells (usC isr id prio s) 207)).cell? ⟨W.heap.size,3,none⟩ = some (.slice s.a s.n s.c) := by rw [cell_of_row _ _ 3 _ _ (0,0) (heap_alloc_new W _)]; rfl
 have HM : Hid (BoxB W bm m) := hm
 generalize cfC c v = C at *
 unfold usC at *
 clear hl h hid hlen hm hc
 cases m with
 | false =>
  have HSt : Hid _ := hset false
  clear hset HK
  cases isr <;>
  (go_enter Tryz.func201,Tryz.ntmps201
   go_wp2
   go_big_region
   go_wp2
   refine bodyPost_end (v := .tuple #[]) (by simp [results,Tryz.results201,go_sem]) rfl ?_
   exact ⟨rfl,⟨HSt.out.1.os,HSt.out.1.tape,HSt.out.1.output,HSt.out.1.size,HSt.out.1.block⟩,HSt.out.2⟩)
 | true =>
  cases isr with
  | false =>
   go_enter Tryz.func201,Tryz.ntmps201
   go_wp2
   refine wp_region_held_drew (S := fun W' => W'.heap[bc]? = some (.cells C 47 (0,0)) ∧ W'.cell? ⟨W.heap.size,3,none⟩ = some (.slice s.a s.n s.c)) (by kernel_rfl) ⟨z1,z2⟩ (fun hHeld => ?_)
   refine wpAnyH_ready (rs := [0]) (by kernel_rfl) (by simp) ?_
   refine AllReadyH.cons rfl (fun K hK => ?_) AllReadyH.nil
   go_simp
   refine hK.out _ _ ⟨z1,z2⟩ (fun hHeld => ?_)
   clear hK K
   refine wpAnyH_take (i := 1) (v := ?_) rfl (by kernel_rfl) (by kernel_rfl) (by kernel_rfl) (fun _ _ _ h => h) (Or.inl ⟨by rfl, ?_⟩) hHeld ?_
   rotate_left
   ·intro w' hSw
    obtain ⟨_,hS2⟩ := hSw
    go_simp
    try with_reducible rfl
   try simp only [Act.put,q7d,q7e,q7f]
   refine wpAnyH_take (i := 2) (v := ?_) rfl (by kernel_rfl) (by kernel_rfl) (by kernel_rfl) (fun _ _ _ h => h) (Or.inl ⟨by rfl, ?_⟩) hHeld ?_
   rotate_left
   ·intro w' hSw
    obtain ⟨_,hS2⟩ := hSw
    go_simp
    try with_reducible rfl
   try simp only [Act.put,q7d,q7e,q7f]
   refine wpAnyH_take (i := 3) (v := ?_) rfl (by kernel_rfl) (by kernel_rfl) (by kernel_rfl) (fun _ _ _ h => h) (Or.inl ⟨by rfl, ?_⟩) hHeld ?_
   rotate_left
   ·intro w' hSw
    obtain ⟨_,hS2⟩ := hSw
    go_simp
    try with_reducible rfl
   try simp only [Act.put,q7d,q7e,q7f]
   refine wpAnyH_take (i := 4) (v := ?_) rfl (by kernel_rfl) (by kernel_rfl) (by kernel_rfl) (fun _ _ _ h => h) (Or.inl ⟨by rfl, ?_⟩) hHeld ?_
   rotate_left
   ·intro w' hSw
    obtain ⟨_,hS2⟩ := hSw
    go_simp
    try with_reducible rfl
   try simp only [Act.put,q7d,q7e,q7f]
   refine wpAnyH_take (i := 5) (v := .agg C) rfl (by kernel_rfl) (by kernel_rfl) (by kernel_rfl) (fun _ _ _ h => h) (yieldsIf_load_row (by rfl) 47 _ rfl bc rfl 47 C (0,0) _ (fun _ hw => hw.1) Tryz.underlying47 rfl hi18) hHeld ?_
   try simp only [Act.put,q7d,q7e,q7f]
   refine wpAnyH_take (i := 6) (v := ?_) rfl (by kernel_rfl) (by kernel_rfl) (by kernel_rfl) (fun _ _ _ h => h) (Or.inl ⟨by rfl, ?_⟩) hHeld ?_
   rotate_left
   ·intro w' hSw
    obtain ⟨_,hS2⟩ := hSw
    go_simp
    try with_reducible rfl
   try simp only [Act.put,q7d,q7e,q7f]
   refine wpAnyH_take (i := 7) (v := ?_) rfl (by kernel_rfl) (by kernel_rfl) (by kernel_rfl) (fun _ _ _ h => h) (Or.inl ⟨by rfl, ?_⟩) hHeld ?_
   rotate_left
   ·intro w' hSw
    obtain ⟨_,hS2⟩ := hSw
    go_simp
    try with_reducible rfl
   try simp only [Act.put,q7d,q7e,q7f]
   refine wpAnyH_take (i := 11) (v := ?_) rfl (by kernel_rfl) (by kernel_rfl) (by kernel_rfl) (fun _ _ _ h => h) (Or.inl ⟨by rfl, ?_⟩) hHeld ?_
   rotate_left
   ·intro w' hSw
    obtain ⟨_,hS2⟩ := hSw
    go_simp
    try with_reducible rfl
   try simp only [Act.put,q7d,q7e,q7f]
   refine wpAnyH_ready (rs := [8]) (by kernel_rfl) (by simp) ?_
   refine AllReadyH.cons rfl (fun K hK => ?_) AllReadyH.nil
   go_simp
   have hbd : Below W.heap.size W (W.alloc (.cells #[.bool false,I (id : Int),I prio, .slice s.a s.n s.c] 207)).drew := ⟨hb.os,hb.tape,hb.output,hb.size,hb.block⟩
   go_wp2_with (go_at_call 135; refine (HK.out _ hbd).mono ?_; rintro e w2 ⟨u,rfl,hO,hb2⟩)
   have hB2 : Below (W.alloc (.cells #[.bool false,I (id : Int),I prio, .slice s.a s.n s.c] 207)).heap.size (W.alloc (.cells #[.bool false,I (id : Int),I prio, .slice s.a s.n s.c] 207)) w2 := ⟨hb2.os,hb2.tape,hb2.output,hb2.size,hb2.block⟩
   have z1' : w2.heap[bc]? = some (.cells C 47 (0,0)) := (hB2.block _ (qa1 z1)).trans z1
   have z2' : w2.cell? ⟨W.heap.size,3,none⟩ = some (.slice s.a s.n s.c) := by rw [qa7 hB2 _ _ (World.block_lt_of_cell? _ _ z2)]; exact z2
   have hm2 : BoxB w2 bm true := (hB2.block _ (by simp; omega)).trans (qad _ _ HM.out)
   have x0' : w2.cell? ⟨bm,0,none⟩ = some (.bool true) := by rw [cell_of_row w2 bm 0 _ _ (0,0) hm2]; rfl
   have x1' : w2.frozen? ⟨bm,0,none⟩ = false := frozen_of_row w2 bm 0 _ _ hm2
   have HB2 : Hid (Below W.heap.size W w2) := hb.trans (hB2.mono hb.size)
   obtain ⟨q,hq,hR⟩ := qcs hO (l := takenL c l) rfl rfl
   subst hq
   have HQ : Hid (q.n = (takenL c l).length) := hR.n
   have hqn : q.n ≤ s.n := by rw [HQ.out,HS.out]; exact List.length_filter_le _ _
   refine hK.out _ _ ⟨z1',z2'⟩ (fun hHeld => ?_)
   clear hK K hO hR hbd HK
   refine wpAnyH_take (i := 9) (v := ?_) rfl (by kernel_rfl) (by kernel_rfl) (by kernel_rfl) (fun _ _ _ h => h) (Or.inl ⟨by rfl, ?_⟩) hHeld ?_
   rotate_left
   ·intro w' hSw
    obtain ⟨_,hS2⟩ := hSw
    go_simp
    try with_reducible rfl
   try simp only [Act.put,q7d,q7e,q7f]
   refine wpAnyH_take (i := 10) (v := ?_) rfl (by kernel_rfl) (by kernel_rfl) (by kernel_rfl) (fun _ _ _ h => h) (Or.inl ⟨by rfl, ?_⟩) hHeld ?_
   rotate_left
   ·intro w' hSw
    obtain ⟨_,hS2⟩ := hSw
    go_simp
    try with_reducible rfl
   try simp only [Act.put,q7d,q7e,q7f]
   refine wpAnyH_take (i := 12) (v := ?_) rfl (by kernel_rfl) (by kernel_rfl) (by kernel_rfl) (fun _ _ _ h => h) (Or.inl ⟨by rfl, ?_⟩) hHeld ?_
   rotate_left
   ·intro w' hSw
    obtain ⟨_,hS2⟩ := hSw
    go_simp
    try with_reducible rfl
   try simp only [Act.put,q7d,q7e,q7f]
   refine wpAnyH_take (i := 13) (v := ?_) rfl (by kernel_rfl) (by kernel_rfl) (by kernel_rfl) (fun _ _ _ h => h) (Or.inl ⟨by rfl, ?_⟩) hHeld ?_
   rotate_left
   ·intro w' hSw
    obtain ⟨_,hS2⟩ := hSw
    go_simp
    try with_reducible rfl
   try simp only [Act.put,q7d,q7e,q7f]
   refine wpAnyH_ready (rs := [14]) (by kernel_rfl) (by simp) ?_
   refine AllReadyH.cons rfl (fun K hK => ?_) AllReadyH.nil
   go_simp
   have hwr : IntKind.i64.wrap ((s.n : Int) - (q.n : Int)) = (s.n : Int) - (q.n : Int) := IntWalk.i64_in _ (by omega)
   have HW : Hid (decide (IntKind.i64.wrap ((s.n : Int) - (q.n : Int)) ≤ 1) = fitU c false l) := by
    show _ = _
    rw [hwr,HQ.out,HS.out]
    rfl
   rw [HW.out]
   have hgs := qac w2 bm 0 (.bool (fitU c false l))
   refine hK.out _ _ ⟨(hgs.block _ (qa1 z1') (fun e => hbc (Option.some.inj e).symm)).trans z1',hgs.cell z2' (fun e => hnb (Option.some.inj e).symm)⟩ (fun hHeld => ?_)
   clear hK K
   refine wpAnyH_done (by kernel_rfl) ?_ _
   go_wp2
   refine bodyPost_end (v := .tuple #[]) (by simp [results,Tryz.results201,go_sem]) rfl ?_
   exact ⟨rfl,grown_same (qbf HB2.out) hgs,heap_setCell_same w2 bm 0 _ _ _ hm2⟩
  | true =>
   go_enter Tryz.func201,Tryz.ntmps201
   go_wp2
   refine wp_region_held_drew (S := fun W' => W'.heap[bc]? = some (.cells C 47 (0,0)) ∧ W'.cell? ⟨W.heap.size,3,none⟩ = some (.slice s.a s.n s.c)) (by kernel_rfl) ⟨z1,z2⟩ (fun hHeld => ?_)
   refine wpAnyH_ready (rs := [0]) (by kernel_rfl) (by simp) ?_
   refine AllReadyH.cons rfl (fun K hK => ?_) AllReadyH.nil
   go_simp
   refine hK.out _ _ ⟨z1,z2⟩ (fun hHeld => ?_)
   clear hK K
   refine wpAnyH_take (i := 1) (v := ?_) rfl (by kernel_rfl) (by kernel_rfl) (by kernel_rfl) (fun _ _ _ h => h) (Or.inl ⟨by rfl, ?_⟩) hHeld ?_
   rotate_left
   ·intro w' hSw
    obtain ⟨_,hS2⟩ := hSw
    go_simp
    try with_reducible rfl
   try simp only [Act.put,q7d,q7e,q7f]
   refine wpAnyH_take (i := 2) (v := ?_) rfl (by kernel_rfl) (by kernel_rfl) (by kernel_rfl) (fun _ _ _ h => h) (Or.inl ⟨by rfl, ?_⟩) hHeld ?_
   rotate_left
   ·intro w' hSw
    obtain ⟨_,hS2⟩ := hSw
    go_simp
    try with_reducible rfl
   try simp only [Act.put,q7d,q7e,q7f]
   refine wpAnyH_take (i := 3) (v := ?_) rfl (by kernel_rfl) (by kernel_rfl) (by kernel_rfl) (fun _ _ _ h => h) (Or.inl ⟨by rfl, ?_⟩) hHeld ?_
   rotate_left
   ·intro w' hSw
    obtain ⟨_,hS2⟩ := hSw
    go_simp
    try with_reducible rfl
   try simp only [Act.put,q7d,q7e,q7f]
   refine wpAnyH_take (i := 4) (v := ?_) rfl (by kernel_rfl) (by kernel_rfl) (by kernel_rfl) (fun _ _ _ h => h) (Or.inl ⟨by rfl, ?_⟩) hHeld ?_
   rotate_left
   ·intro w' hSw
    obtain ⟨_,hS2⟩ := hSw
    go_simp
    try with_reducible rfl
   try simp only [Act.put,q7d,q7e,q7f]
   refine wpAnyH_take (i := 5) (v := .agg C) rfl (by kernel_rfl) (by kernel_rfl) (by kernel_rfl) (fun _ _ _ h => h) (yieldsIf_load_row (by rfl) 47 _ rfl bc rfl 47 C (0,0) _ (fun _ hw => hw.1) Tryz.underlying47 rfl hi18) hHeld ?_
   try simp only [Act.put,q7d,q7e,q7f]
   refine wpAnyH_take (i := 6) (v := ?_) rfl (by kernel_rfl) (by kernel_rfl) (by kernel_rfl) (fun _ _ _ h => h) (Or.inl ⟨by rfl, ?_⟩) hHeld ?_
   rotate_left
   ·intro w' hSw
    obtain ⟨_,hS2⟩ := hSw
    go_simp
    try with_reducible rfl
   try simp only [Act.put,q7d,q7e,q7f]
   refine wpAnyH_take (i := 7) (v := ?_) rfl (by kernel_rfl) (by kernel_rfl) (by kernel_rfl) (fun _ _ _ h => h) (Or.inl ⟨by rfl, ?_⟩) hHeld ?_
   rotate_left
   ·intro w' hSw
    obtain ⟨_,hS2⟩ := hSw
    go_simp
    try with_reducible rfl
   try simp only [Act.put,q7d,q7e,q7f]
   refine wpAnyH_take (i := 11) (v := ?_) rfl (by kernel_rfl) (by kernel_rfl) (by kernel_rfl) (fun _ _ _ h => h) (Or.inl ⟨by rfl, ?_⟩) hHeld ?_
   rotate_left
   ·intro w' hSw
    obtain ⟨_,hS2⟩ := hSw
    go_simp
    try with_reducible rfl
   try simp only [Act.put,q7d,q7e,q7f]
   refine wpAnyH_ready (rs := [8]) (by kernel_rfl) (by simp) ?_
   refine AllReadyH.cons rfl (fun K hK => ?_) AllReadyH.nil
   go_simp
   have hbd : Below W.heap.size W (W.alloc (.cells #[.bool true,I (id : Int),I prio, .slice s.a s.n s.c] 207)).drew := ⟨hb.os,hb.tape,hb.output,hb.size,hb.block⟩
   go_wp2_with (go_at_call 135; refine (HK.out _ hbd).mono ?_; rintro e w2 ⟨u,rfl,hO,hb2⟩)
   have hB2 : Below (W.alloc (.cells #[.bool true,I (id : Int),I prio, .slice s.a s.n s.c] 207)).heap.size (W.alloc (.cells #[.bool true,I (id : Int),I prio, .slice s.a s.n s.c] 207)) w2 := ⟨hb2.os,hb2.tape,hb2.output,hb2.size,hb2.block⟩
   have z1' : w2.heap[bc]? = some (.cells C 47 (0,0)) := (hB2.block _ (qa1 z1)).trans z1
   have z2' : w2.cell? ⟨W.heap.size,3,none⟩ = some (.slice s.a s.n s.c) := by rw [qa7 hB2 _ _ (World.block_lt_of_cell? _ _ z2)]; exact z2
   have hm2 : BoxB w2 bm true := (hB2.block _ (by simp; omega)).trans (qad _ _ HM.out)
   have x0' : w2.cell? ⟨bm,0,none⟩ = some (.bool true) := by rw [cell_of_row w2 bm 0 _ _ (0,0) hm2]; rfl
   have x1' : w2.frozen? ⟨bm,0,none⟩ = false := frozen_of_row w2 bm 0 _ _ hm2
   have HB2 : Hid (Below W.heap.size W w2) := hb.trans (hB2.mono hb.size)
   obtain ⟨q,hq,hR⟩ := qcs hO (l := takenL c l) rfl rfl
   subst hq
   have HQ : Hid (q.n = (takenL c l).length) := hR.n
   have hqn : q.n ≤ s.n := by rw [HQ.out,HS.out]; exact List.length_filter_le _ _
   refine hK.out _ _ ⟨z1',z2'⟩ (fun hHeld => ?_)
   clear hK K hO hR hbd HK
   refine wpAnyH_take (i := 9) (v := ?_) rfl (by kernel_rfl) (by kernel_rfl) (by kernel_rfl) (fun _ _ _ h => h) (Or.inl ⟨by rfl, ?_⟩) hHeld ?_
   rotate_left
   ·intro w' hSw
    obtain ⟨_,hS2⟩ := hSw
    go_simp
    try with_reducible rfl
   try simp only [Act.put,q7d,q7e,q7f]
   refine wpAnyH_take (i := 10) (v := ?_) rfl (by kernel_rfl) (by kernel_rfl) (by kernel_rfl) (fun _ _ _ h => h) (Or.inl ⟨by rfl, ?_⟩) hHeld ?_
   rotate_left
   ·intro w' hSw
    obtain ⟨_,hS2⟩ := hSw
    go_simp
    try with_reducible rfl
   try simp only [Act.put,q7d,q7e,q7f]
   refine wpAnyH_take (i := 12) (v := ?_) rfl (by kernel_rfl) (by kernel_rfl) (by kernel_rfl) (fun _ _ _ h => h) (Or.inl ⟨by rfl, ?_⟩) hHeld ?_
   rotate_left
   ·intro w' hSw
    obtain ⟨_,hS2⟩ := hSw
    go_simp
    try with_reducible rfl
   try simp only [Act.put,q7d,q7e,q7f]
   refine wpAnyH_take (i := 13) (v := ?_) rfl (by kernel_rfl) (by kernel_rfl) (by kernel_rfl) (fun _ _ _ h => h) (Or.inl ⟨by rfl, ?_⟩) hHeld ?_
   rotate_left
   ·intro w' hSw
    obtain ⟨_,hS2⟩ := hSw
    go_simp
    try with_reducible rfl
   try simp only [Act.put,q7d,q7e,q7f]
   refine wpAnyH_ready (rs := [14]) (by kernel_rfl) (by simp) ?_
   refine AllReadyH.cons rfl (fun K hK => ?_) AllReadyH.nil
   go_simp
   have hwr : IntKind.i64.wrap ((s.n : Int) - (q.n : Int)) = (s.n : Int) - (q.n : Int) := IntWalk.i64_in _ (by omega)
   have HW : Hid (decide (IntKind.i64.wrap ((s.n : Int) - (q.n : Int)) ≤ 0) = fitU c true l) := by
    show _ = _
    rw [hwr,HQ.out,HS.out]
    rfl
   rw [HW.out]
   have hgs := qac w2 bm 0 (.bool (fitU c true l))
   refine hK.out _ _ ⟨(hgs.block _ (qa1 z1') (fun e => hbc (Option.some.inj e).symm)).trans z1',hgs.cell z2' (fun e => hnb (Option.some.inj e).symm)⟩ (fun hHeld => ?_)
   clear hK K
   refine wpAnyH_done (by kernel_rfl) ?_ _
   go_wp2
   refine bodyPost_end (v := .tuple #[]) (by simp [results,Tryz.results201,go_sem]) rfl ?_
   exact ⟨rfl,grown_same (qbf HB2.out) hgs,heap_setCell_same w2 bm 0 _ _ _ hm2⟩
theorem qe4 {a n : Int} {l : List Int} (h : risF a l n = true) : l.length ≤ (n - a - 1).toNat := by
 induction l generalizing a with
 | nil => exact Nat.zero_le _
 | cons y r ih =>
  have h2 : a < y ∧ y < n ∧ risF y r n = true := by
   unfold risF at h
   have h3 : isId y n = true ∧ a < y ∧ risF y r n = true := by simpa [and_assoc] using h
   have h4 : 0 ≤ y ∧ y < n := by simpa [isId] using h3.1
   exact ⟨h3.2.1,h4.2,h3.2.2⟩
  have := ih h2.2.2
  rw [List.length_cons]
  omega
def fitB (c : Cf) : Bool := c.tasks.all (fun x => fitU c false x.res) && c.isrs.all (fun x => fitU c true x.res)
theorem qdx {c : Cf} (h : meetB c = true) (hn : c.ress.length ≤ 8796093022208) {x : Tk} (hx : x ∈ c.tasks) : (∀ y ∈ x.res,isId y c.ress.length = true) ∧ x.res.length ≤ 8796093022208 := by
 have h1 : c.tasks.all (risT c) = true := by unfold meetB at h; simp only [Bool.and_eq_true] at h; exact h.1
 have h2 : risF (-1) x.res c.ress.length = true := List.all_eq_true.1 h1 x hx
 have := qe4 h2
 exact ⟨qba h2,by omega⟩
theorem qgl {c : Cf} (h : meetB c = true) (hn : c.ress.length ≤ 8796093022208) {x : Is} (hx : x ∈ c.isrs) : (∀ y ∈ x.res,isId y c.ress.length = true) ∧ x.res.length ≤ 8796093022208 := by
 have h1 : c.isrs.all (risI c) = true := by unfold meetB at h; simp only [Bool.and_eq_true] at h; exact h.2
 have h2 : risF (-1) x.res c.ress.length = true := List.all_eq_true.1 h1 x hx
 have := qe4 h2
 exact ⟨qba h2,by omega⟩
theorem qku (w : World) (c : Cf) (v : Vs) (h : CfAt w c v) (hn : c.ress.length ≤ 8796093022208) (hmt : meetB c = true) : Calls Tryz.prog 129 #[.agg (cfC c v)] w fun e w' => Ans w (fitB c) e w' := by
 have hi18 : (Tryz.prog.info? 47).map (·.size) = some (cfC c v).size := by rw [show (cfC c v).size = 18 from rfl]; kernel_rfl
 have hV2 := qar w (.cells (cfC c v) 47) (.cells #[.bool true] 4)
 have hM2 := qaj w (.cells (cfC c v) 47) (.cells #[.bool true] 4)
 have hb2 : Below w.heap.size w ((w.alloc (.cells (cfC c v) 47)).alloc (.cells #[.bool true] 4)) := ((Below.refl w.heap.size w).alloc (Nat.le_refl _) _).alloc (by simp) _
 have hs2 : ((w.alloc (.cells (cfC c v) 47)).alloc (.cells #[.bool true] 4)).heap.size = w.heap.size + 2 := by simp
 have hst : (storeCells ⟨w.heap.size + 1,0,none⟩ [.bool true] 0).run Tryz.prog ((w.alloc (.cells (cfC c v) 47)).alloc (.cells #[.bool false] 4)) = .ok () ((w.alloc (.cells (cfC c v) 47)).alloc (.cells #[.bool true] 4)) := by
  have := run_storeCells_new (P := Tryz.prog) (w.alloc (.cells (cfC c v) 47)) 4 #[.bool false] #[.bool true] (by kernel_rfl) rfl (by simp [Value.oneCell'])
  rwa [show (w.alloc (.cells (cfC c v) 47)).heap.size = w.heap.size + 1 by simp] at this
 have ke : Calls Tryz.prog 130 #[.agg (cfC c v), .func (.func 201) #[] #[.pointer (some ⟨w.heap.size + 1,0,none⟩), .pointer (some ⟨w.heap.size,0,none⟩)]] ((w.alloc (.cells (cfC c v) 47)).alloc (.cells #[.bool true] 4)) fun e w' => e = .returned (.tuple #[]) ∧ BoxB w' (w.heap.size + 1) (fitB c) ∧ Below w.heap.size w w' := by
  refine (qd1 _ c v 201 #[.pointer (some ⟨w.heap.size + 1,0,none⟩), .pointer (some ⟨w.heap.size,0,none⟩)] (enters_of Tryz.func201 (by kernel_rfl) rfl)
   (fun j W => BoxB W (w.heap.size + 1) ((c.tasks.take j).all (fun x => fitU c false x.res)) ∧ BoxC W w.heap.size c v ∧ Below w.heap.size w W)
   (fun j W => BoxB W (w.heap.size + 1) (c.tasks.all (fun x => fitU c false x.res) && (c.isrs.take j).all (fun x => fitU c true x.res)) ∧ BoxC W w.heap.size c v ∧ Below w.heap.size w W)
   (fun j W W' ⟨h1,h2,h3⟩ hb => ⟨(hb.block _ (qa1 h1)).trans h1,(hb.block _ (qa1 h2)).trans h2,h3.trans (hb.mono h3.size)⟩)
   (fun j W W' ⟨h1,h2,h3⟩ hb => ⟨(hb.block _ (qa1 h1)).trans h1,(hb.block _ (qa1 h2)).trans h2,h3.trans (hb.mono h3.size)⟩)
   (fun j W ⟨_,_,h3⟩ => h.below h3) (fun j W ⟨_,_,h3⟩ => h.below h3) ⟨hM2,hV2,hb2⟩ (fun W ⟨h1,h2,h3⟩ => ⟨by rw [List.take_of_length_le (Nat.le_refl _)] at h1; simpa using h1,h2,h3⟩) ?_ ?_).mono ?_
  ·intro j x s W hx hr ⟨h1,h2,h3⟩ hlt
   obtain ⟨hid,hlen⟩ := qdx hmt hn (List.mem_of_getElem? hx)
   refine (qer W c v (h.below h3) false j x.prio s x.res hr hid hlen (w.heap.size + 1) w.heap.size _ h1 h2 (by omega)).mono ?_
   rintro e w' ⟨rfl,hg,hb⟩
   refine ⟨rfl,⟨?_,qak h2 hg (fun e => by have := Option.some.inj e; omega),h3.grown hg h3.size (fun k e => by cases e; omega)⟩, ?_,hg.size⟩
   ·rw [qbu _ _ j x hx]
    exact hb
   ·rw [hs2]
    exact hg.block _ (by rw [hs2] at hlt; exact hlt) (fun e => by have := Option.some.inj e; omega)
  ·intro j x s W hx hr ⟨h1,h2,h3⟩ hlt
   obtain ⟨hid,hlen⟩ := qgl hmt hn (List.mem_of_getElem? hx)
   refine (qer W c v (h.below h3) true j x.prio s x.res hr hid hlen (w.heap.size + 1) w.heap.size _ h1 h2 (by omega)).mono ?_
   rintro e w' ⟨rfl,hg,hb⟩
   refine ⟨rfl,⟨?_,qak h2 hg (fun e => by have := Option.some.inj e; omega),h3.grown hg h3.size (fun k e => by cases e; omega)⟩, ?_,hg.size⟩
   ·rw [qbu _ _ j x hx, ← Bool.and_assoc]
    exact hb
   ·rw [hs2]
    exact hg.block _ (by rw [hs2] at hlt; exact hlt) (fun e => by have := Option.some.inj e; omega)
  ·rintro e w' ⟨rfl,h1,h2,h3⟩
   refine ⟨rfl, ?_,h3⟩
   rw [List.take_of_length_le (Nat.le_refl _)] at h1
   exact h1
 generalize fitB c = mb at *
 generalize cfC c v = C at *
 clear hM2 hb2 hs2 h
 go_enter Tryz.func129,Tryz.ntmps129
 go_wp2_with (first | (refine wpList_load_row rfl 47 _ rfl w.heap.size rfl 47 _ (0,0) _ hV2 Tryz.underlying47 rfl hi18 ?_) | (go_at_call 130; refine ke.mono ?_; clear ke; rintro e w1 ⟨rfl,hb1,hbw1⟩; have z0 : w1.cell? ⟨w.heap.size + 1,0,none⟩ = some (.bool mb) := (by rw [cell_of_row w1 _ 0 _ _ (0,0) hb1]; rfl)))
 go_ret
 exact ⟨rfl,hbw1⟩
theorem qde {P : Program} {ops : Array Oper} {rest : List Oper} {o : Oper} {a : Act} {w : World} {Q : Exit → Act → World → Prop} (ty : TypeId) (x : Operand) (ho : o.op = .load ty x)
  (g : Nat) (hx : a.eval x = .pointer (some ⟨g,0,none⟩)) (t : TypeId) (cs : Array Value) (fr : Nat × Nat) (d : TypeDesc) (hg : w.heap[g]? = some (.cells cs t fr))
  (hu : P.underlying ty = some d) (hd : (match d with | .struct _ | .array _ _ => true | _ => false) = true) (hi : (P.info? ty).map (·.size) = some cs.size) (hgd : Region.wanted o (yielded ops a.tmps) = true)
  (h : wpList P ops Q rest (a.put o.dst (.agg cs)) w) : wpList P ops Q (o :: rest) a w :=
 wpList_step fun K hK => by rw [if_pos hgd]; exact wp_load_row ty x ho g hx t cs fr d hg hu hd hi (hK _ _ h)
def lkB (c : Cf) : Bool := c.ress.all (lmB c.ress.length)
def lookE (c : Cf) : Int := if (meetB c && lkB c) = false then 80 else if endsB c = false then 81 else if (linksB c && fitB c) = false then 82 else 0
theorem qsd {c : Cf} (h : lkB c = true) : ∀ x ∈ c.ress,x.kind = 2 → isId x.link c.ress.length = true := fun x hx hk => by
 have h1 := List.all_eq_true.1 h x hx
 unfold lmB at h1
 rw [hk] at h1
 simpa using h1
def LookP (c : Cf) (R : Int) (w : World) (e : Ending) (w' : World) : Prop := Below w.heap.size w w' ∧ ((R = 0 ∧ ∃ b,e = .returned (.tuple #[.map (some b),I 0]) ∧ w.heap.size ≤ b ∧ EndsAt w' b c) ∨ (R ≠ 0 ∧ e = .returned (.tuple #[.map none,I R])))
theorem LookP.bad {c : Cf} {R r : Int} {w w' : World} {e : Ending} (hR : R = r) (hr : r ≠ 0) (hb : Below w.heap.size w w') (he : e = .returned (.tuple #[.map none,I r])) : LookP c R w e w' := ⟨hb, .inr ⟨by rw [hR]; exact hr,by rw [he,hR]⟩⟩
theorem LookP.ok {c : Cf} {R : Int} {w w' : World} {e : Ending} {b : Nat} (hR : R = 0) (hb : Below w.heap.size w w') (hl : w.heap.size ≤ b) (hE : EndsAt w' b c) (he : e = .returned (.tuple #[.map (some b),I 0])) : LookP c R w e w' := ⟨hb, .inl ⟨hR,b,he,hl,hE⟩⟩
theorem qpq (w : World) (c : Cf) (v : Vs) (h : CfAt w c v) (hn : c.ress.length ≤ 8796093022208) : Calls Tryz.prog 78 #[.agg (cfC c v)] w fun e w' => LookP c (lookE c) w e w' := by
 have hi18 : (Tryz.prog.info? 47).map (·.size) = some (cfC c v).size := by rw [show (cfC c v).size = 18 from rfl]; kernel_rfl
 have hV0 := heap_alloc_new w (.cells (cfC c v) 47)
 have hb := qa0 w (.cells (cfC c v) 47)
 have hcv : ∀ W : World,W.heap[w.heap.size]? = some (.cells (cfC c v) 47 (0,0)) → W.cell? ⟨w.heap.size,12,none⟩ = some (.slice v.r.a v.r.n v.r.c) := fun W hW => by
  obtain ⟨_,h10,h11,h12,h13,h14,h15,h16,h17⟩ := qao hW
  exact h12
 have HNM : Hid (∀ W,Below w.heap.size w W → Calls Tryz.prog 125 #[.agg (cfC c v)] W fun e w' => Ans W (meetB c) e w') := fun W hW => qj7 W c v (h.below hW)
 have HLM : Hid (∀ W,Below w.heap.size w W → Calls Tryz.prog 126 #[.slice v.r.a v.r.n v.r.c] W fun e w' => Ans W (lkB c) e w') := fun W hW => qj6 W c v (h.below hW)
 have HEO : Hid (lkB c = true → ∀ W,Below w.heap.size w W → Calls Tryz.prog 127 #[.slice v.r.a v.r.n v.r.c] W fun e w' => qgk c W e w') := fun hk W hW => qny W c v (h.below hW) hn (qsd hk)
 have HLF : Hid (endsB c = true → ∀ W b,Below w.heap.size w W → EndsAt W b c → Calls Tryz.prog 128 #[.slice v.r.a v.r.n v.r.c, .map (some b)] W fun e w' => Ans W (linksB c) e w') := fun hk W b hW hE => qkt W c v (h.below hW) hn b hE hk
 have HNF : Hid (meetB c = true → ∀ W,Below w.heap.size w W → Calls Tryz.prog 129 #[.agg (cfC c v)] W fun e w' => Ans W (fitB c) e w') := fun hk W hW => qku W c v (h.below hW) hn hk
 obtain ⟨R,hR⟩ : ∃ R,R = lookE c := ⟨_,rfl⟩
 rw [← hR]
 unfold lookE at hR
 have HR : Hid (R = _) := hR
 generalize cfC c v = C at *
 have HF : Hid (∀ W,Below (w.alloc (.cells C 47)).heap.size (w.alloc (.cells C 47)) W → W.heap[w.heap.size]? = some (.cells C 47 (0,0)) ∧ W.cell? ⟨w.heap.size,12,none⟩ = some (.slice v.r.a v.r.n v.r.c) ∧ Below w.heap.size w W) := fun W hW => by
  have hVW := (hW.block _ (qa1 hV0)).trans hV0
  exact ⟨hVW,hcv W hVW,hb.trans (hW.mono hb.size)⟩
 have HB0 : Hid (Below w.heap.size w (w.alloc (.cells C 47))) := hb
 clear hR h hb hcv
 cases hm : meetB c with
 | false =>
  have HE : Hid (R = 80) := by show _ = _; rw [HR.out,hm]; rfl
  rw [hm] at HNM
  clear HR HLM HEO HLF HNF
  go_enter Tryz.func78,Tryz.ntmps78
  go_wp2_with (first | (refine wpList_load_row rfl 47 _ rfl w.heap.size rfl 47 _ (0,0) _ hV0 Tryz.underlying47 rfl hi18 ?_) | (go_at_call 125; refine (HNM.out _ HB0.out).mono ?_; rintro e w1 ⟨rfl,hb1⟩; obtain ⟨hV1,y1,hbw1⟩ := HF.out _ hb1; have HB1 : Hid (Below (w.alloc (.cells C 47)).heap.size (w.alloc (.cells C 47)) w1) := hb1; have Hbw1 : Hid (Below w.heap.size w w1) := hbw1; clear hb1 HNM))
  go_ret2
  exact LookP.bad HE.out (by decide) hbw1 rfl
 | true =>
  rw [hm] at HNM
  have kNF := HNF.out hm
  have HNF2 : Hid (∀ W,Below w.heap.size w W → Calls Tryz.prog 129 #[.agg C] W fun e w' => Ans W (fitB c) e w') := kNF
  clear HNF kNF
  cases hk : lkB c with
  | false =>
   have HE : Hid (R = 80) := by show _ = _; rw [HR.out,hm,hk]; rfl
   rw [hk] at HLM
   clear HR HEO HLF HNF2
   go_enter Tryz.func78,Tryz.ntmps78
   go_wp2_with (first | (refine wpList_load_row rfl 47 _ rfl w.heap.size rfl 47 _ (0,0) _ hV0 Tryz.underlying47 rfl hi18 ?_) | (go_at_call 125; refine (HNM.out _ HB0.out).mono ?_; rintro e w1 ⟨rfl,hb1⟩; obtain ⟨hV1,y1,hbw1⟩ := HF.out _ hb1; have HB1 : Hid (Below (w.alloc (.cells C 47)).heap.size (w.alloc (.cells C 47)) w1) := hb1; have Hbw1 : Hid (Below w.heap.size w w1) := hbw1; clear hb1 HNM) | (go_at_call 126; refine (HLM.out _ Hbw1.out).mono ?_; clear hV1 y1 hbw1; rintro e w2 ⟨rfl,hb2⟩; have HB2 : Hid (Below (w.alloc (.cells C 47)).heap.size (w.alloc (.cells C 47)) w2) := HB1.out.trans (hb2.mono HB1.out.size); obtain ⟨hV2,y2,hbw2⟩ := HF.out _ HB2.out; have Hbw2 : Hid (Below w.heap.size w w2) := hbw2; clear hb2 HLM))
   go_ret2
   exact LookP.bad HE.out (by decide) hbw2 rfl
  | true =>
   rw [hk] at HLM
   have kEO := HEO.out hk
   have HEO2 : Hid (∀ W,Below w.heap.size w W → Calls Tryz.prog 127 #[.slice v.r.a v.r.n v.r.c] W fun e w' => qgk c W e w') := kEO
   clear HEO kEO
   cases he : endsB c with
   | false =>
    have HE : Hid (R = 81) := by show _ = _; rw [HR.out,hm,hk,he]; rfl
    have Hen : Hid (endsB c = false) := he
    clear HR HLF HNF2 he
    go_enter Tryz.func78,Tryz.ntmps78
    go_wp2_with (first | (refine wpList_load_row rfl 47 _ rfl w.heap.size rfl 47 _ (0,0) _ hV0 Tryz.underlying47 rfl hi18 ?_) | (go_at_call 125; refine (HNM.out _ HB0.out).mono ?_; rintro e w1 ⟨rfl,hb1⟩; obtain ⟨hV1,y1,hbw1⟩ := HF.out _ hb1; have HB1 : Hid (Below (w.alloc (.cells C 47)).heap.size (w.alloc (.cells C 47)) w1) := hb1; have Hbw1 : Hid (Below w.heap.size w w1) := hbw1; clear hb1 HNM) | (go_at_call 126; refine (HLM.out _ Hbw1.out).mono ?_; clear hV1 y1 hbw1; rintro e w2 ⟨rfl,hb2⟩; have HB2 : Hid (Below (w.alloc (.cells C 47)).heap.size (w.alloc (.cells C 47)) w2) := HB1.out.trans (hb2.mono HB1.out.size); obtain ⟨hV2,y2,hbw2⟩ := HF.out _ HB2.out; have Hbw2 : Hid (Below w.heap.size w w2) := hbw2; clear hb2 HLM) | (go_at_call 127; refine (HEO2.out _ Hbw2.out).mono ?_; clear hV2 y2 hbw2; rintro e w3 ⟨hb3,he3⟩; rw [Hen.out,if_neg (by decide)] at he3; subst he3; have HB3 : Hid (Below (w.alloc (.cells C 47)).heap.size (w.alloc (.cells C 47)) w3) := HB2.out.trans (hb3.mono HB2.out.size); obtain ⟨hV3,y3,hbw3⟩ := HF.out _ HB3.out; clear hb3 HEO2))
    go_ret2
    exact LookP.bad HE.out (by decide) hbw3 rfl
   | true =>
    have kLF := HLF.out he
    have HLF2 : Hid (∀ W b,Below w.heap.size w W → EndsAt W b c → Calls Tryz.prog 128 #[.slice v.r.a v.r.n v.r.c, .map (some b)] W fun e w' => Ans W (linksB c) e w') := kLF
    have Hen : Hid (endsB c = true) := he
    clear HLF kLF
    cases hl : linksB c with
    | false =>
     have HE : Hid (R = 82) := by show _ = _; rw [HR.out,hm,hk,he,hl]; rfl
     rw [hl] at HLF2
     clear HR HNF2 he
     go_enter Tryz.func78,Tryz.ntmps78
     go_wp2_with (first | (refine wpList_load_row rfl 47 _ rfl w.heap.size rfl 47 _ (0,0) _ hV0 Tryz.underlying47 rfl hi18 ?_) | (go_at_call 125; refine (HNM.out _ HB0.out).mono ?_; rintro e w1 ⟨rfl,hb1⟩; obtain ⟨hV1,y1,hbw1⟩ := HF.out _ hb1; have HB1 : Hid (Below (w.alloc (.cells C 47)).heap.size (w.alloc (.cells C 47)) w1) := hb1; have Hbw1 : Hid (Below w.heap.size w w1) := hbw1; clear hb1 HNM) | (go_at_call 126; refine (HLM.out _ Hbw1.out).mono ?_; clear hV1 y1 hbw1; rintro e w2 ⟨rfl,hb2⟩; have HB2 : Hid (Below (w.alloc (.cells C 47)).heap.size (w.alloc (.cells C 47)) w2) := HB1.out.trans (hb2.mono HB1.out.size); obtain ⟨hV2,y2,hbw2⟩ := HF.out _ HB2.out; have Hbw2 : Hid (Below w.heap.size w w2) := hbw2; clear hb2 HLM) | (go_at_call 127; refine (HEO2.out _ Hbw2.out).mono ?_; rintro e w3 ⟨hb3,he3⟩; rw [Hen.out,if_pos rfl] at he3; obtain ⟨b3,rfl,hbl,hE3⟩ := he3; have hbl3 : w.heap.size ≤ b3 := Nat.le_trans Hbw2.out.size hbl; clear hV2 y2 hbw2 hbl; have HB3 : Hid (Below (w.alloc (.cells C 47)).heap.size (w.alloc (.cells C 47)) w3) := HB2.out.trans (hb3.mono HB2.out.size); obtain ⟨hV3,y3,hbw3⟩ := HF.out _ HB3.out; have Hbw3 : Hid (Below w.heap.size w w3) := hbw3; clear hb3 HEO2) | (go_at_call 128; refine (HLF2.out _ _ Hbw3.out hE3).mono ?_; clear hV3 y3 hbw3; rintro e w4 ⟨rfl,hb4⟩; have hE4 := hE3.below hb4; have HB4 : Hid (Below (w.alloc (.cells C 47)).heap.size (w.alloc (.cells C 47)) w4) := HB3.out.trans (hb4.mono HB3.out.size); obtain ⟨hV4,y4,hbw4⟩ := HF.out _ HB4.out; have Hbw4 : Hid (Below w.heap.size w w4) := hbw4; clear hb4 HLF2 hE3))
     go_ret2
     exact LookP.bad HE.out (by decide) hbw4 rfl
    | true =>
     rw [hl] at HLF2
     cases hf : fitB c with
     | false =>
      have HE : Hid (R = 82) := by show _ = _; rw [HR.out,hm,hk,he,hl,hf]; rfl
      rw [hf] at HNF2
      clear HR he
      go_enter Tryz.func78,Tryz.ntmps78
      go_wp2_with (first | (refine wpList_load_row rfl 47 _ rfl w.heap.size rfl 47 _ (0,0) _ hV0 Tryz.underlying47 rfl hi18 ?_) | (go_at_call 125; refine (HNM.out _ HB0.out).mono ?_; rintro e w1 ⟨rfl,hb1⟩; obtain ⟨hV1,y1,hbw1⟩ := HF.out _ hb1; have HB1 : Hid (Below (w.alloc (.cells C 47)).heap.size (w.alloc (.cells C 47)) w1) := hb1; have Hbw1 : Hid (Below w.heap.size w w1) := hbw1; clear hb1 HNM) | (go_at_call 126; refine (HLM.out _ Hbw1.out).mono ?_; clear hV1 y1 hbw1; rintro e w2 ⟨rfl,hb2⟩; have HB2 : Hid (Below (w.alloc (.cells C 47)).heap.size (w.alloc (.cells C 47)) w2) := HB1.out.trans (hb2.mono HB1.out.size); obtain ⟨hV2,y2,hbw2⟩ := HF.out _ HB2.out; have Hbw2 : Hid (Below w.heap.size w w2) := hbw2; clear hb2 HLM) | (go_at_call 127; refine (HEO2.out _ Hbw2.out).mono ?_; rintro e w3 ⟨hb3,he3⟩; rw [Hen.out,if_pos rfl] at he3; obtain ⟨b3,rfl,hbl,hE3⟩ := he3; have hbl3 : w.heap.size ≤ b3 := Nat.le_trans Hbw2.out.size hbl; clear hV2 y2 hbw2 hbl; have HB3 : Hid (Below (w.alloc (.cells C 47)).heap.size (w.alloc (.cells C 47)) w3) := HB2.out.trans (hb3.mono HB2.out.size); obtain ⟨hV3,y3,hbw3⟩ := HF.out _ HB3.out; have Hbw3 : Hid (Below w.heap.size w w3) := hbw3; clear hb3 HEO2) | (go_at_call 128; refine (HLF2.out _ _ Hbw3.out hE3).mono ?_; clear hV3 y3 hbw3; rintro e w4 ⟨rfl,hb4⟩; have hE4 := hE3.below hb4; have HB4 : Hid (Below (w.alloc (.cells C 47)).heap.size (w.alloc (.cells C 47)) w4) := HB3.out.trans (hb4.mono HB3.out.size); obtain ⟨hV4,y4,hbw4⟩ := HF.out _ HB4.out; have Hbw4 : Hid (Below w.heap.size w w4) := hbw4; clear hb4 HLF2 hE3) | (refine qde 47 _ rfl w.heap.size rfl 47 _ (0,0) _ hV4 Tryz.underlying47 rfl hi18 (by kernel_rfl) ?_; simp only [Act.put,q7d,q7f,q7e]; go_wp2_with (go_at_call 129; refine (HNF2.out _ Hbw4.out).mono ?_; clear hV4 y4 hbw4; rintro e w5 ⟨rfl,hb5⟩; have hE5 := hE4.below hb5; have HB5 : Hid (Below (w.alloc (.cells C 47)).heap.size (w.alloc (.cells C 47)) w5) := HB4.out.trans (hb5.mono HB4.out.size); obtain ⟨hV5,y5,hbw5⟩ := HF.out _ HB5.out; clear hb5 HNF2 hE4)))
      go_ret2
      exact LookP.bad HE.out (by decide) hbw5 rfl
     | true =>
      have HE : Hid (R = 0) := by show _ = _; rw [HR.out,hm,hk,he,hl,hf]; rfl
      rw [hf] at HNF2
      clear HR he
      go_enter Tryz.func78,Tryz.ntmps78
      go_wp2_with (first | (refine wpList_load_row rfl 47 _ rfl w.heap.size rfl 47 _ (0,0) _ hV0 Tryz.underlying47 rfl hi18 ?_) | (go_at_call 125; refine (HNM.out _ HB0.out).mono ?_; rintro e w1 ⟨rfl,hb1⟩; obtain ⟨hV1,y1,hbw1⟩ := HF.out _ hb1; have HB1 : Hid (Below (w.alloc (.cells C 47)).heap.size (w.alloc (.cells C 47)) w1) := hb1; have Hbw1 : Hid (Below w.heap.size w w1) := hbw1; clear hb1 HNM) | (go_at_call 126; refine (HLM.out _ Hbw1.out).mono ?_; clear hV1 y1 hbw1; rintro e w2 ⟨rfl,hb2⟩; have HB2 : Hid (Below (w.alloc (.cells C 47)).heap.size (w.alloc (.cells C 47)) w2) := HB1.out.trans (hb2.mono HB1.out.size); obtain ⟨hV2,y2,hbw2⟩ := HF.out _ HB2.out; have Hbw2 : Hid (Below w.heap.size w w2) := hbw2; clear hb2 HLM) | (go_at_call 127; refine (HEO2.out _ Hbw2.out).mono ?_; rintro e w3 ⟨hb3,he3⟩; rw [Hen.out,if_pos rfl] at he3; obtain ⟨b3,rfl,hbl,hE3⟩ := he3; have hbl3 : w.heap.size ≤ b3 := Nat.le_trans Hbw2.out.size hbl; clear hV2 y2 hbw2 hbl; have HB3 : Hid (Below (w.alloc (.cells C 47)).heap.size (w.alloc (.cells C 47)) w3) := HB2.out.trans (hb3.mono HB2.out.size); obtain ⟨hV3,y3,hbw3⟩ := HF.out _ HB3.out; have Hbw3 : Hid (Below w.heap.size w w3) := hbw3; clear hb3 HEO2) | (go_at_call 128; refine (HLF2.out _ _ Hbw3.out hE3).mono ?_; clear hV3 y3 hbw3; rintro e w4 ⟨rfl,hb4⟩; have hE4 := hE3.below hb4; have HB4 : Hid (Below (w.alloc (.cells C 47)).heap.size (w.alloc (.cells C 47)) w4) := HB3.out.trans (hb4.mono HB3.out.size); obtain ⟨hV4,y4,hbw4⟩ := HF.out _ HB4.out; have Hbw4 : Hid (Below w.heap.size w w4) := hbw4; clear hb4 HLF2 hE3) | (refine qde 47 _ rfl w.heap.size rfl 47 _ (0,0) _ hV4 Tryz.underlying47 rfl hi18 (by kernel_rfl) ?_; simp only [Act.put,q7d,q7f,q7e]; go_wp2_with (go_at_call 129; refine (HNF2.out _ Hbw4.out).mono ?_; clear hV4 y4 hbw4; rintro e w5 ⟨rfl,hb5⟩; have hE5 := hE4.below hb5; have HB5 : Hid (Below (w.alloc (.cells C 47)).heap.size (w.alloc (.cells C 47)) w5) := HB4.out.trans (hb5.mono HB4.out.size); obtain ⟨hV5,y5,hbw5⟩ := HF.out _ HB5.out; clear hb5 HNF2 hE4)))
      go_ret2
      exact LookP.ok HE.out hbw5 hbl3 hE5 rfl
def topC : Option Int → Array Value
 | none => #[.bool false,I 0]
 | some p => #[.bool true,I p]
def topAdd (t : Option Int) (p : Int) : Option Int := some (match t with | none => p | some q => max p q)
def qek (t : Option Int) : Int := match t with | none => -1 | some p => p
theorem qmu {fn : Func} {n : Nat} (hf : fn.results = #[.cell n 209]) (tmps : Array Value) (b : Nat) (w : World) (v0 v1 : Value)
  (h2 : tmps[n]? = some (.pointer (some ⟨b,0,none⟩))) (hk : w.heap[b]? = some (.cells #[v0,v1] 209 (0,0))) :
  (results fn tmps).run Tryz.prog w = .ok (.agg #[v0,v1]) w := by
 have a1 := fun i => cell_of_row w b i _ _ (0,0) hk
 have z0 := a1 0; have z1 := a1 1
 simp at z0 z1
 simp [results,hf,go_sem,h2,z0,z1]
theorem qkv (w : World) (t : Option Int) (p : Int) : Calls Tryz.prog 132 #[.agg (topC t),I p] w fun e w' => e = .returned (.agg (topC (topAdd t p))) ∧ Below w.heap.size w w' := by
 have hb2 : ∀ o o',Below w.heap.size w ((w.alloc o).alloc o') := fun o o' => ((Below.refl w.heap.size w).alloc (Nat.le_refl _) _).alloc (by simp) _
 have hh := qaj w
 cases t with
 | none =>
  show Calls _ _ #[.agg #[.bool false,I 0],I p] _ (fun e w' => e = .returned (.agg #[.bool true,I p]) ∧ Below w.heap.size w w')
  go_enter Tryz.func132,Tryz.ntmps132
  go_wp2
  refine bodyPost_ret (qmu Tryz.results132 _ (w.heap.size + 1) _ _ _ rfl (hh _ _)) rfl ⟨rfl,hb2 _ _⟩
 | some q =>
  show Calls _ _ #[.agg #[.bool true,I q],I p] _ (fun e w' => e = .returned (.agg #[.bool true,I (max p q)]) ∧ Below w.heap.size w w')
  obtain ⟨m,hm⟩ : ∃ m,m = max p q := ⟨_,rfl⟩
  rw [← hm]
  have HM : Hid (m = max p q) := hm
  clear hm
  go_enter Tryz.func132,Tryz.ntmps132
  go_wp2
  all_goals
   refine bodyPost_ret (qmu Tryz.results132 _ (w.heap.size + 1) _ _ _ rfl (hh _ _)) rfl ⟨?_,hb2 _ _⟩
   rw [HM.out]
   first
    | (rw [show max p q = q by omega])
    | (rw [show max p q = p by omega])
theorem qkw (w : World) (t : Option Int) : Calls Tryz.prog 133 #[.agg (topC t)] w fun e w' => e = .returned (I (qek t)) ∧ Below w.heap.size w w' := by
 have hb := qa0 w
 cases t with
 | none =>
  show Calls _ _ #[.agg #[.bool false,I 0]] _ (fun e w' => e = .returned (I (-1)) ∧ Below w.heap.size w w')
  go_enter Tryz.func133,Tryz.ntmps133
  go_wp2
  go_ret
  exact ⟨rfl,hb _⟩
 | some q =>
  show Calls _ _ #[.agg #[.bool true,I q]] _ (fun e w' => e = .returned (I q) ∧ Below w.heap.size w w')
  go_enter Tryz.func133,Tryz.ntmps133
  go_wp2
  go_ret
  exact ⟨rfl,hb _⟩
def schT (c : Cf) (k : Nat) : Option Int := (c.tasks.take k).foldl (fun t x => topAdd t x.prio) none
theorem qpr {c : Cf} {k : Nat} {x : Tk} (h : c.tasks[k]? = some x) : schT c (k + 1) = topAdd (schT c k) x.prio := by
 unfold schT
 rw [List.take_add_one,h,Option.toList_some,List.foldl_append]
 rfl
theorem qgm (t : Option Int) : ∃ s q,topC t = #[.bool s,I q] := by
 cases t with
 | none => exact ⟨false,0,rfl⟩
 | some p => exact ⟨true,p,rfl⟩
def schE (c : Cf) : Int := qek (schT c c.tasks.length)
theorem qu5 (w : World) (b : Nat) (t : TypeId) (o0 o1 v0 v1 : Value) (k : w.heap[b]? = some (.cells #[o0,o1] t (0,0))) : ((w.setCell ⟨b,0,none⟩ v0).setCell ⟨b,1,none⟩ v1).heap[b]? = some (.cells #[v0,v1] t (0,0)) := by
 have h0 : (w.setCell ⟨b,0,none⟩ v0).heap[b]? = some (.cells #[v0,o1] t (0,0)) := heap_setCell_same _ b 0 _ t _ k
 generalize w.setCell ⟨b,0,none⟩ v0 = w0 at *
 exact heap_setCell_same _ b 1 _ t _ h0
theorem qo0 (w : World) (b : Nat) (v0 v1 : Value) : w.grownBy ((w.setCell ⟨b,0,none⟩ v0).setCell ⟨b,1,none⟩ v1) (some b) := grown_same (qac w b 0 v0) (qac _ b 1 v1)
theorem qj8 (w : World) (c : Cf) (v : Vs) (h : CfAt w c v) : Calls Tryz.prog 80 #[.agg (cfC c v)] w fun e w' => e = .returned (I (schE c)) ∧ Below w.heap.size w w' := by
 have HN : Hid (v.t.n = c.tasks.length) := h.t.n
 have HH : Hid (CfAt w c v) := h
 have hct : v.t.n ≤ v.t.c := h.t.c
 have hmt : v.t.c ≤ maxLen := h.t.m
 unfold maxLen at hmt
 have f11 : ∀ h : 11 < (cfC c v).size,(cfC c v)[11] = .slice v.t.a v.t.n v.t.c := fun _ => rfl
 have hs18 : (cfC c v).size = 18 := rfl
 generalize cfC c v = C at *
 replace f11 := f11 (by omega)
 have hb2 : Below w.heap.size w ((w.alloc (.cells C 47)).alloc (.cells #[.bool false,I 0] 209)) := ((Below.refl w.heap.size w).alloc (Nat.le_refl _) _).alloc (by simp) _
 have hT2 := qaj w (.cells C 47) (.cells #[.bool false,I 0] 209)
 have HB2 : Hid (Below w.heap.size w ((w.alloc (.cells C 47)).alloc (.cells #[.bool false,I 0] 209))) := hb2
 have HT2 : Hid (((w.alloc (.cells C 47)).alloc (.cells #[.bool false,I 0] 209)).heap[w.heap.size + 1]? = some (.cells (topC (schT c 0)) 209 (0,0))) := hT2
 have hiT : (Tryz.prog.info? 209).map (·.size) = some 2 := by kernel_rfl
 clear h hb2 hT2
 go_enter Tryz.func80,Tryz.ntmps80
 go_wp2
 clear f11
 go_loopw [5,9] (fun _ iv wr => ∃ j : Nat,j ≤ v.t.n ∧ iv = .int .i64 j ∧ Hid (Below w.heap.size w wr ∧ wr.heap[w.heap.size + 1]? = some (.cells (topC (schT c j)) 209 (0,0)))) (fun _ iv _ => v.t.n - (intOf iv).toNat)
 case atStart => exact ⟨0,by omega,rfl,HB2.out,HT2.out⟩
 case round =>
  clear HB2 HT2
  obtain ⟨j,hj,rfl,HJ⟩ := hrel
  have hbr := HJ.out.1
  by_cases hlt : j < v.t.n
  ·have hlt' : (j : Int) < v.t.n := by omega
   obtain ⟨x,hx⟩ : ∃ x,c.tasks[j]? = some x := ⟨_,List.getElem?_eq_getElem (by rw [← HN.out]; exact hlt)⟩
   obtain ⟨g,off,s4,s5,s6,s7,e,hg,a0,a1,a2,a3,a4,a5,a6,a7,r4,r5,r6,r7⟩ := qbj (HH.out.below hbr) hx
   have hng : g ≠ wr.heap.size := Nat.ne_of_lt hg
   have hst : (storeCells ⟨wr.heap.size,0,none⟩ [S x.name,I x.prio, .bool x.full,I x.act, .slice s4.a s4.n s4.c, .slice s5.a s5.n s5.c, .slice s6.a s6.n s6.c, .slice s7.a s7.n s7.c] 0).run Tryz.prog (wr.alloc (.cells #[.string ⟨#[]⟩, .int .i64 0, .bool false, .int .i64 0, .slice none 0 0, .slice none 0 0, .slice none 0 0, .slice none 0 0] 58)) = .ok () (wr.alloc (.cells #[S x.name,I x.prio, .bool x.full,I x.act, .slice s4.a s4.n s4.c, .slice s5.a s5.n s5.c, .slice s6.a s6.n s6.c, .slice s7.a s7.n s7.c] 58)) :=
    run_storeCells_new (P := Tryz.prog) wr 58 #[.string ⟨#[]⟩, .int .i64 0, .bool false, .int .i64 0, .slice none 0 0, .slice none 0 0, .slice none 0 0, .slice none 0 0] #[S x.name,I x.prio, .bool x.full,I x.act, .slice s4.a s4.n s4.c, .slice s5.a s5.n s5.c, .slice s6.a s6.n s6.c, .slice s7.a s7.n s7.c] (by kernel_rfl) rfl (by simp [Value.oneCell'])
   have hal := qa0 wr (.cells #[S x.name,I x.prio, .bool x.full,I x.act, .slice s4.a s4.n s4.c, .slice s5.a s5.n s5.c, .slice s6.a s6.n s6.c, .slice s7.a s7.n s7.c] 58)
   have HTn : Hid (schT c (j + 1) = topAdd (schT c j) x.prio) := qpr hx
   have kw := qkv (wr.alloc (.cells #[S x.name,I x.prio, .bool x.full,I x.act, .slice s4.a s4.n s4.c, .slice s5.a s5.n s5.c, .slice s6.a s6.n s6.c, .slice s7.a s7.n s7.c] 58)) (schT c j) x.prio
   have hT := HJ.out.2
   have hTl := qa1 hT
   have hTa := qad wr (.cells #[S x.name,I x.prio, .bool x.full,I x.act, .slice s4.a s4.n s4.c, .slice s5.a s5.n s5.c, .slice s6.a s6.n s6.c, .slice s7.a s7.n s7.c] 58) hT
   rw [← HTn.out] at kw
   obtain ⟨s0,q0,ht0⟩ := qgm (schT c j)
   obtain ⟨s1,q1,ht1⟩ := qgm (schT c (j + 1))
   rw [ht0] at kw hT hTa
   rw [ht1] at kw
   have y0 : wr.cell? ⟨w.heap.size + 1,0,none⟩ = some (.bool s0) := by rw [cell_of_row wr _ 0 _ _ (0,0) hT]; rfl
   have y1 : wr.cell? ⟨w.heap.size + 1,1,none⟩ = some (I q0) := by rw [cell_of_row wr _ 1 _ _ (0,0) hT]; rfl
   have HF : Hid (∀ w2,Below (wr.alloc (.cells #[S x.name,I x.prio, .bool x.full,I x.act, .slice s4.a s4.n s4.c, .slice s5.a s5.n s5.c, .slice s6.a s6.n s6.c, .slice s7.a s7.n s7.c] 58)).heap.size (wr.alloc (.cells #[S x.name,I x.prio, .bool x.full,I x.act, .slice s4.a s4.n s4.c, .slice s5.a s5.n s5.c, .slice s6.a s6.n s6.c, .slice s7.a s7.n s7.c] 58)) w2 → w2.heap[w.heap.size + 1]? = some (.cells #[.bool s0,I q0] 209 (0,0)) ∧ Below w.heap.size w w2) := fun w2 h2 => by
    have b1 := hbr.trans (hal.mono hbr.size)
    exact ⟨(h2.block _ (qa1 hTa)).trans hTa,b1.trans (h2.mono b1.size)⟩
   have Ht1 : Hid (topC (schT c (j + 1)) = #[.bool s1,I q1]) := ht1
   rw [e]
   clear hx e HJ hal r4 r5 r6 r7 hbr HTn hT hTa ht0 ht1
   go_wp2_with (go_at_call 132; refine kw.mono ?_; clear kw; rintro e5 w2 ⟨rfl,hb2⟩; obtain ⟨hT2,hbw2⟩ := HF.out _ hb2; have z0 : w2.cell? ⟨w.heap.size + 1,0,none⟩ = some (.bool s0) := (by rw [cell_of_row w2 _ 0 _ _ (0,0) hT2]; rfl); have z1 : w2.cell? ⟨w.heap.size + 1,1,none⟩ = some (I q0) := (by rw [cell_of_row w2 _ 1 _ _ (0,0) hT2]; rfl); have fz : ∀ i,w2.frozen? ⟨w.heap.size + 1,i,none⟩ = false := (fun i => frozen_of_row w2 _ i _ _ hT2); have HT2 : Hid (w2.heap[w.heap.size + 1]? = some (.cells #[.bool s0,I q0] 209 (0,0))) := hT2; have Hb2 : Hid (Below w.heap.size w w2) := hbw2; clear hb2 hT2 hbw2)
   have HJ2 : Hid (Below w.heap.size w ((w2.setCell ⟨w.heap.size + 1,0,none⟩ (.bool s1)).setCell ⟨w.heap.size + 1,1,none⟩ (I q1)) ∧ ((w2.setCell ⟨w.heap.size + 1,0,none⟩ (.bool s1)).setCell ⟨w.heap.size + 1,1,none⟩ (I q1)).heap[w.heap.size + 1]? = some (.cells (topC (schT c (j + 1))) 209 (0,0))) := ⟨Hb2.out.grown (qo0 w2 _ _ _) Hb2.out.size (fun k e => by cases e; omega),by rw [Ht1.out]; exact qu5 w2 _ _ _ _ _ _ HT2.out⟩
   go_roundw
   case rel => exact ⟨j + 1,by omega,by go_num,HJ2.out⟩
   case measure => simp [intOf]; omega
  ·obtain rfl : j = v.t.n := by omega
   have hlt' : ¬ ((v.t.n : Nat) : Int) < (v.t.n : Nat) := by omega
   have kt := qkw wr (schT c v.t.n)
   have hT := HJ.out.2
   obtain ⟨s0,q0,ht0⟩ := qgm (schT c v.t.n)
   have HE : Hid (qek (schT c v.t.n) = schE c) := by show _ = _; rw [HN.out]; rfl
   rw [HE.out,ht0] at kt
   rw [ht0] at hT
   have y0 : wr.cell? ⟨w.heap.size + 1,0,none⟩ = some (.bool s0) := by rw [cell_of_row wr _ 0 _ _ (0,0) hT]; rfl
   have y1 : wr.cell? ⟨w.heap.size + 1,1,none⟩ = some (I q0) := by rw [cell_of_row wr _ 1 _ _ (0,0) hT]; rfl
   clear hT ht0 HE
   go_wp2_with (go_at_call 133; refine kt.mono ?_; clear kt; rintro e5 w2 ⟨rfl,hb2⟩)
   go_ret
   exact ⟨rfl,hbr.trans (hb2.mono hbr.size)⟩
end Go.Proofs.YtmidaeljeoifdaaGreatDoor.Ce
