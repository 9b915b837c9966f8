import Derived.Test.YtmidaeljeoifdaaGreatDoorXKlb
import Derived.Deep.Cut
import Derived.Test.YtmidaeljeoifdaaGreatDoorXKve
import Derived.Test.YtmidaeljeoifdaaGreatDoorXKvl
namespace Go.Proofs.YtmidaeljeoifdaaGreatDoor
open Go.RowKit
set_option linter.unusedSimpArgs false
set_option linter.unusedVariables false
set_option maxHeartbeats 16000000
set_option maxRecDepth 100000
theorem qns (w : World) (c : Cf) (v : Vs) (h : CfAt w c v) (i : Nat) (x : Al) (hi : c.als[i]? = some x) (hsz : x.ac.name.length < 9223372036854775808) :
  Calls Tryz.prog 164 #[.agg (cfC c v),I i] w fun e w' => e = .returned (I (almE c x)) ∧ Below w.heap.size w w' := by
 have hn : v.a.n = c.als.length := h.a.n
 have hlt : (i : Int) < v.a.n := by have := (List.getElem?_eq_some_iff.1 hi).1; omega
 obtain ⟨g,off,s6,e,hg,a0,a1,a2,a3,a4,a5,a6,a7,a8,r6⟩ := qea h hi
 have hne : g ≠ w.heap.size := by omega
 have hb := qa0 w
 have hb2 := fun o o' => (hb o).trans ((qa0 (w.alloc o) o').mono (hb o).size)
 have hcv : ∀ W : World,W.heap[w.heap.size]? = some (.cells (cfC c v) 47 (0,0)) → W.cell? ⟨w.heap.size,10,none⟩ = some (.slice v.m.a v.m.n v.m.c) ∧ W.cell? ⟨w.heap.size,14,none⟩ = some (.slice v.k.a v.k.n v.k.c) := fun W hW => by
  obtain ⟨_,h10,h11,h12,h13,h14,h15,h16,h17⟩ := qao hW
  exact ⟨h10,h14⟩
 have hi18 : (Tryz.prog.info? 47).map (·.size) = some (cfC c v).size := by rw [show (cfC c v).size = 18 from rfl]; kernel_rfl
 have ka := fun W (hW : Below w.heap.size w W) => qdy W c v (h.below hW) x.ac 1 3 hsz
 have f15 : ∀ h : 15 < (cfC c v).size,(cfC c v)[15] = .slice v.a.a v.a.n v.a.c := fun _ => rfl
 have f14 : ∀ h : 14 < (cfC c v).size,(cfC c v)[14] = .slice v.k.a v.k.n v.k.c := fun _ => rfl
 have hs18 : (cfC c v).size = 18 := rfl
 generalize cfC c v = C at *
 replace f15 := f15 (by omega)
 replace f14 := f14 (by omega)
 rw [e] at f15
 have hst : (storeCells ⟨w.heap.size + 1,0,none⟩ #[S x.name,I x.ctr,I x.ac.kind,I x.ac.task,I x.ac.event,S x.ac.name, .slice s6.a s6.n s6.c, .int .u32 (x.time : Int), .int .u32 (x.cycle : Int)].toList 0).run Tryz.prog ((w.alloc (.cells C 47)).alloc (.cells #[.string ⟨#[]⟩, .int .i64 0, .int .i64 0, .int .i64 0, .int .i64 0, .string ⟨#[]⟩, .slice none 0 0, .int .u32 0, .int .u32 0] 66)) = .ok () ((w.alloc (.cells C 47)).alloc (.cells #[S x.name,I x.ctr,I x.ac.kind,I x.ac.task,I x.ac.event,S x.ac.name, .slice s6.a s6.n s6.c, .int .u32 (x.time : Int), .int .u32 (x.cycle : Int)] 66)) := by
  have := run_storeCells_new (P := Tryz.prog) (w.alloc (.cells C 47)) 66 #[.string ⟨#[]⟩, .int .i64 0, .int .i64 0, .int .i64 0, .int .i64 0, .string ⟨#[]⟩, .slice none 0 0, .int .u32 0, .int .u32 0] #[S x.name,I x.ctr,I x.ac.kind,I x.ac.task,I x.ac.event,S x.ac.name, .slice s6.a s6.n s6.c, .int .u32 (x.time : Int), .int .u32 (x.cycle : Int)] (by kernel_rfl) rfl (by simp [Value.oneCell'])
  rwa [show (w.alloc (.cells C 47)).heap.size = w.heap.size + 1 by simp] at this
 have hbW : Below w.heap.size w ((w.alloc (.cells C 47)).alloc (.cells #[S x.name,I x.ctr,I x.ac.kind,I x.ac.task,I x.ac.event,S x.ac.name, .slice s6.a s6.n s6.c, .int .u32 (x.time : Int), .int .u32 (x.cycle : Int)] 66)) := hb2 _ _
 have hV2 := qar w (.cells C 47) (.cells #[S x.name,I x.ctr,I x.ac.kind,I x.ac.task,I x.ac.event,S x.ac.name, .slice s6.a s6.n s6.c, .int .u32 (x.time : Int), .int .u32 (x.cycle : Int)] 66)
 have hT2 := qaj w (.cells C 47) (.cells #[S x.name,I x.ctr,I x.ac.kind,I x.ac.task,I x.ac.event,S x.ac.name, .slice s6.a s6.n s6.c, .int .u32 (x.time : Int), .int .u32 (x.cycle : Int)] 66)
 have HF : Hid (∀ W,Below ((w.alloc (.cells C 47)).alloc (.cells #[S x.name,I x.ctr,I x.ac.kind,I x.ac.task,I x.ac.event,S x.ac.name, .slice s6.a s6.n s6.c, .int .u32 (x.time : Int), .int .u32 (x.cycle : Int)] 66)).heap.size ((w.alloc (.cells C 47)).alloc (.cells #[S x.name,I x.ctr,I x.ac.kind,I x.ac.task,I x.ac.event,S x.ac.name, .slice s6.a s6.n s6.c, .int .u32 (x.time : Int), .int .u32 (x.cycle : Int)] 66)) W → (W.cell? ⟨w.heap.size,10,none⟩ = some (.slice v.m.a v.m.n v.m.c) ∧ W.cell? ⟨w.heap.size,14,none⟩ = some (.slice v.k.a v.k.n v.k.c)) ∧ (W.cell? ⟨w.heap.size + 1,1,none⟩ = some (I x.ctr) ∧ W.cell? ⟨w.heap.size + 1,6,none⟩ = some (.slice s6.a s6.n s6.c) ∧ W.cell? ⟨w.heap.size + 1,7,none⟩ = some (.int .u32 (x.time : Int)) ∧ W.cell? ⟨w.heap.size + 1,8,none⟩ = some (.int .u32 (x.cycle : Int))) ∧ CfAt W c v ∧ Below w.heap.size w W ∧ w.heap.size + 1 < W.heap.size) := fun W hW => by
  have hc := hcv W ((hW.block _ (qa1 hV2)).trans hV2)
  have hT := (hW.block _ (qa1 hT2)).trans hT2
  have ht := fun i => cell_of_row W (w.heap.size + 1) i _ _ (0,0) hT
  exact ⟨hc,⟨ht 1,ht 6,ht 7,ht 8⟩,(h.below hbW).below hW,hbW.trans (hW.mono hbW.size),qa1 hT⟩
 have kr : ∀ W,Below w.heap.size w W → Calls Tryz.prog 210 #[.slice s6.a s6.n s6.c,I v.m.n] W fun e w' => e = .returned (.bool (risF (-1) x.auto v.m.n)) ∧ Below W.heap.size W w' := fun W hW => qbv W s6 x.auto (r6.below hW (fun _ _ _ _ h => h)) v.m.n
 have HNN : Hid (v.m.n = c.modes.length ∧ v.k.n = c.ctrs.length) := ⟨h.m.n,h.k.n⟩
 have HN6 : Hid (s6.n = x.auto.length) := r6.n
 have hc6 : s6.n ≤ s6.c := r6.c
 have hm6 : s6.c ≤ maxLen := r6.m
 unfold maxLen at hm6
 obtain ⟨R,hR⟩ : ∃ R,R = almE c x := ⟨_,rfl⟩
 rw [← hR]
 unfold almE qcv at hR
 rw [← HNN.out.1, ← HNN.out.2, ← HN6.out] at hR
 have HR : Hid (R = _) := hR
 clear hR hi hn h e r6 hcv hT2 hb
 have hA : x.ctr < 0 ∨ (¬ x.ctr < 0 ∧ x.ctr ≥ v.k.n) ∨ (0 ≤ x.ctr ∧ x.ctr < v.k.n) := by omega
 rcases hA with p1 | ⟨p1,p2⟩ | ⟨p1,p2⟩
 ·have HE : Hid (R = 73) := by show _ = _; rw [HR.out,if_pos (by simp [isId]; omega)]
  clear HR HF kr ka
  go_enter Tryz.func164,Tryz.ntmps164
  go_wp2
  go_ret
  exact ⟨qa3 HE.out.symm,hbW⟩
 ·have HE : Hid (R = 73) := by show _ = _; rw [HR.out,if_pos (by simp [isId]; omega)]
  clear HR HF kr ka
  go_enter Tryz.func164,Tryz.ntmps164
  go_wp2
  go_ret
  exact ⟨qa3 HE.out.symm,hbW⟩
 ·rw [if_neg (by simp [isId]; omega)] at HR
  obtain ⟨p,hp⟩ := Int.eq_ofNat_of_zero_le p1
  have hpn : (p : Int) < v.k.n := by omega
  have hp0 : ¬ x.ctr < 0 := by omega
  have hp1 : ¬ x.ctr ≥ v.k.n := by omega
  obtain ⟨y,hy⟩ : ∃ y,c.ctrs[p]? = some y := ⟨_,List.getElem?_eq_getElem (by have := HNN.out.2; omega)⟩
  have HCT : Hid (∀ W,CfAt W c v → ∃ gc oc : Nat,v.k.a = some ⟨gc,oc,none⟩ ∧ gc < W.heap.size ∧ W.cell? ⟨gc,oc + p * 4,none⟩ = some (S y.name) ∧ W.cell? ⟨gc,oc + p * 4 + 1,none⟩ = some (.int .u32 (y.max : Int)) ∧ W.cell? ⟨gc,oc + p * 4 + 2,none⟩ = some (.int .u32 (y.base : Int)) ∧ W.cell? ⟨gc,oc + p * 4 + 3,none⟩ = some (.int .u32 (y.min : Int))) := fun W hW => qfm hW hy
  have hco : qec c x.ctr = y := by rw [hp]; simp [qec,hy]
  rw [hco] at HR
  have HST4 : Hid (∀ W : World,(storeCells ⟨W.heap.size,0,none⟩ #[S y.name, .int .u32 (y.max : Int), .int .u32 (y.base : Int), .int .u32 (y.min : Int)].toList 0).run Tryz.prog (W.alloc (.cells #[.string ⟨#[]⟩, .int .u32 0, .int .u32 0, .int .u32 0] 111)) = .ok () (W.alloc (.cells #[S y.name, .int .u32 (y.max : Int), .int .u32 (y.base : Int), .int .u32 (y.min : Int)] 111))) := fun W =>
   run_storeCells_new (P := Tryz.prog) W 111 #[.string ⟨#[]⟩, .int .u32 0, .int .u32 0, .int .u32 0] #[S y.name, .int .u32 (y.max : Int), .int .u32 (y.base : Int), .int .u32 (y.min : Int)] (by kernel_rfl) rfl (by simp [Value.oneCell'])
  have HKA : Hid (∀ W,Below w.heap.size w W → Calls Tryz.prog 211 #[.agg C, .agg #[I x.ac.kind,I x.ac.task,I x.ac.event,S x.ac.name],I 1,I 3] W fun e w' => e = .returned (I (actE c x.ac 1 3)) ∧ Below W.heap.size W w') := ka
  have HKR : Hid (∀ W,Below w.heap.size w W → Calls Tryz.prog 210 #[.slice s6.a s6.n s6.c,I v.m.n] W fun e w' => e = .returned (.bool (risF (-1) x.auto v.m.n)) ∧ Below W.heap.size W w') := kr
  have HbW : Hid (Below w.heap.size w ((w.alloc (.cells C 47)).alloc (.cells #[S x.name,I x.ctr,I x.ac.kind,I x.ac.task,I x.ac.event,S x.ac.name, .slice s6.a s6.n s6.c, .int .u32 (x.time : Int), .int .u32 (x.cycle : Int)] 66))) := hbW
  clear ka kr hbW hb2 hco hy p1 p2
  obtain ⟨ec,hec⟩ : ∃ q,q = actE c x.ac 1 3 := ⟨_,rfl⟩
  rw [← hec] at HKA HR
  obtain ⟨br,hbr⟩ : ∃ b,b = risF (-1) x.auto v.m.n := ⟨_,rfl⟩
  rw [← hbr] at HKR HR
  clear hec hbr
  rw [hp] at HF a1 hst HbW hV2 hp0 hp1
  cases he0 : ec != 0 with
  | true =>
   have HE : Hid (R = ec) := by show _ = _; rw [HR.out,if_pos he0]
   clear HR
   go_enter Tryz.func164,Tryz.ntmps164
   go_wp2_with (first | (refine wpList_load_row rfl 47 _ rfl w.heap.size rfl 47 _ (0,0) _ hV2 Tryz.underlying47 rfl hi18 ?_) | (go_at_call 211; refine (HKA.out _ HbW.out).mono ?_; rintro e w3 ⟨rfl,hB'⟩; have HB3 : Hid (Below ((w.alloc (.cells C 47)).alloc (.cells #[S x.name,I (p : Int),I x.ac.kind,I x.ac.task,I x.ac.event,S x.ac.name, .slice s6.a s6.n s6.c, .int .u32 (x.time : Int), .int .u32 (x.cycle : Int)] 66)).heap.size ((w.alloc (.cells C 47)).alloc (.cells #[S x.name,I (p : Int),I x.ac.kind,I x.ac.task,I x.ac.event,S x.ac.name, .slice s6.a s6.n s6.c, .int .u32 (x.time : Int), .int .u32 (x.cycle : Int)] 66)) w3) := hB'; clear hB' HKA; obtain ⟨⟨c10,c14⟩,⟨t1,t6,t7,t8⟩,hCf,hbw,hgw⟩ := HF.out _ HB3.out; have Hbw3 : Hid (Below w.heap.size w w3) := hbw; clear hCf hbw))
   go_ret
   exact ⟨qa3 HE.out.symm,Hbw3.out⟩
  | false =>
   rw [if_neg (by rw [he0]; decide)] at HR
   cases br with
   | false =>
    have HE : Hid (R = 73) := by show _ = _; rw [HR.out,if_pos rfl]
    clear HR
    go_enter Tryz.func164,Tryz.ntmps164
    go_wp2_with (first | (refine wpList_load_row rfl 47 _ rfl w.heap.size rfl 47 _ (0,0) _ hV2 Tryz.underlying47 rfl hi18 ?_) | (go_at_call 211; refine (HKA.out _ HbW.out).mono ?_; rintro e w3 ⟨rfl,hB'⟩; have HB3 : Hid (Below ((w.alloc (.cells C 47)).alloc (.cells #[S x.name,I (p : Int),I x.ac.kind,I x.ac.task,I x.ac.event,S x.ac.name, .slice s6.a s6.n s6.c, .int .u32 (x.time : Int), .int .u32 (x.cycle : Int)] 66)).heap.size ((w.alloc (.cells C 47)).alloc (.cells #[S x.name,I (p : Int),I x.ac.kind,I x.ac.task,I x.ac.event,S x.ac.name, .slice s6.a s6.n s6.c, .int .u32 (x.time : Int), .int .u32 (x.cycle : Int)] 66)) w3) := hB'; clear hB' HKA; obtain ⟨⟨c10,c14⟩,⟨t1,t6,t7,t8⟩,hCf,hbw,hgw⟩ := HF.out _ HB3.out; have Hbw3 : Hid (Below w.heap.size w w3) := hbw; clear hCf hbw) | (go_at_call 210; refine (HKR.out _ Hbw3.out).mono ?_; clear c10 c14 t1 t6 t7 t8 hgw; rintro e w4 ⟨rfl,hB'⟩; have HB4 : Hid (Below ((w.alloc (.cells C 47)).alloc (.cells #[S x.name,I (p : Int),I x.ac.kind,I x.ac.task,I x.ac.event,S x.ac.name, .slice s6.a s6.n s6.c, .int .u32 (x.time : Int), .int .u32 (x.cycle : Int)] 66)).heap.size ((w.alloc (.cells C 47)).alloc (.cells #[S x.name,I (p : Int),I x.ac.kind,I x.ac.task,I x.ac.event,S x.ac.name, .slice s6.a s6.n s6.c, .int .u32 (x.time : Int), .int .u32 (x.cycle : Int)] 66)) w4) := HB3.out.trans (hB'.mono HB3.out.size); clear hB' HKR; obtain ⟨⟨c10,c14⟩,⟨t1,t6,t7,t8⟩,hCf,hbw,hgw⟩ := HF.out _ HB4.out; have Hbw4 : Hid (Below w.heap.size w w4) := hbw; obtain ⟨gc,oc,ek,hgc,d0,d1,d2,d3⟩ := HCT.out _ hCf; have hgne : gc ≠ w4.heap.size := Nat.ne_of_lt hgc; have hst4 := HST4.out w4; rw [ek] at c14; clear hCf hbw ek))
    go_ret
    exact ⟨qa3 HE.out.symm,Hbw4.out⟩
   | true =>
    rw [if_neg (by decide)] at HR
    generalize (x.time : Int) = τ at *
    generalize (x.cycle : Int) = κ at *
    generalize (y.max : Int) = ymx at *
    generalize (y.min : Int) = ymn at *
    have HAL : Hid (∀ W,Below w.heap.size w W → ∀ o,Below w.heap.size w (W.alloc o)) := fun W hW o => hW.trans ((qa0 W o).mono hW.size)
    have hz : ((s6.n : Int) == 0) = true ∨ ((s6.n : Int) == 0) = false := by cases ((s6.n : Int) == 0) <;> simp
    rcases hz with hz | hz
    ·rw [if_pos hz] at HR
     have hz' : ((s6.n : Int) = 0) := by simpa using hz
     have HZ : Hid ((s6.n : Int) = 0) := hz'
     clear hz'
     cases ht : (τ == 0) with
     | false =>
      have ht' : (τ != 0) = true := by simp only [bne,ht]; rfl
      have HE : Hid (R = 74) := by show _ = _; rw [HR.out,ht]; rfl
      clear HR
      go_enter Tryz.func164,Tryz.ntmps164
      go_upto_region 4 with fail
      go_upto_region 9 with (first | (refine wpList_load_row rfl 47 _ rfl w.heap.size rfl 47 _ (0,0) _ hV2 Tryz.underlying47 rfl hi18 ?_) | (go_at_call 211; refine (HKA.out _ HbW.out).mono ?_; rintro e w3 ⟨rfl,hB'⟩; have HB3 : Hid (Below ((w.alloc (.cells C 47)).alloc (.cells #[S x.name,I (p : Int),I x.ac.kind,I x.ac.task,I x.ac.event,S x.ac.name, .slice s6.a s6.n s6.c, .int .u32 τ, .int .u32 κ] 66)).heap.size ((w.alloc (.cells C 47)).alloc (.cells #[S x.name,I (p : Int),I x.ac.kind,I x.ac.task,I x.ac.event,S x.ac.name, .slice s6.a s6.n s6.c, .int .u32 τ, .int .u32 κ] 66)) w3) := hB'; clear hB' HKA; obtain ⟨⟨c10,c14⟩,⟨t1,t6,t7,t8⟩,hCf,hbw,hgw⟩ := HF.out _ HB3.out; have Hbw3 : Hid (Below w.heap.size w w3) := hbw; clear hCf hbw) | (go_at_call 210; refine (HKR.out _ Hbw3.out).mono ?_; clear c10 c14 t1 t6 t7 t8 hgw; rintro e w4 ⟨rfl,hB'⟩; have HB4 : Hid (Below ((w.alloc (.cells C 47)).alloc (.cells #[S x.name,I (p : Int),I x.ac.kind,I x.ac.task,I x.ac.event,S x.ac.name, .slice s6.a s6.n s6.c, .int .u32 τ, .int .u32 κ] 66)).heap.size ((w.alloc (.cells C 47)).alloc (.cells #[S x.name,I (p : Int),I x.ac.kind,I x.ac.task,I x.ac.event,S x.ac.name, .slice s6.a s6.n s6.c, .int .u32 τ, .int .u32 κ] 66)) w4) := HB3.out.trans (hB'.mono HB3.out.size); clear hB' HKR; obtain ⟨⟨c10,c14⟩,⟨t1,t6,t7,t8⟩,hCf,hbw,hgw⟩ := HF.out _ HB4.out; have Hbw4 : Hid (Below w.heap.size w w4) := hbw; obtain ⟨gc,oc,ek,hgc,d0,d1,d2,d3⟩ := HCT.out _ hCf; have hgne : gc ≠ w4.heap.size := Nat.ne_of_lt hgc; have hst4 := HST4.out w4; rw [ek] at c14; clear hCf hbw ek))
      go_wp2
      go_ret
      exact ⟨qa3 HE.out.symm,HAL.out _ Hbw4.out _⟩
     | true =>
      have ht' : (τ != 0) = false := by simp only [bne,ht]; rfl
      cases hc : (κ == 0) with
      | false =>
       have hc' : (κ != 0) = true := by simp only [bne,hc]; rfl
       have HE : Hid (R = 74) := by show _ = _; rw [HR.out,ht,hc]; rfl
       clear HR
       go_enter Tryz.func164,Tryz.ntmps164
       go_upto_region 4 with fail
       go_upto_region 9 with (first | (refine wpList_load_row rfl 47 _ rfl w.heap.size rfl 47 _ (0,0) _ hV2 Tryz.underlying47 rfl hi18 ?_) | (go_at_call 211; refine (HKA.out _ HbW.out).mono ?_; rintro e w3 ⟨rfl,hB'⟩; have HB3 : Hid (Below ((w.alloc (.cells C 47)).alloc (.cells #[S x.name,I (p : Int),I x.ac.kind,I x.ac.task,I x.ac.event,S x.ac.name, .slice s6.a s6.n s6.c, .int .u32 τ, .int .u32 κ] 66)).heap.size ((w.alloc (.cells C 47)).alloc (.cells #[S x.name,I (p : Int),I x.ac.kind,I x.ac.task,I x.ac.event,S x.ac.name, .slice s6.a s6.n s6.c, .int .u32 τ, .int .u32 κ] 66)) w3) := hB'; clear hB' HKA; obtain ⟨⟨c10,c14⟩,⟨t1,t6,t7,t8⟩,hCf,hbw,hgw⟩ := HF.out _ HB3.out; have Hbw3 : Hid (Below w.heap.size w w3) := hbw; clear hCf hbw) | (go_at_call 210; refine (HKR.out _ Hbw3.out).mono ?_; clear c10 c14 t1 t6 t7 t8 hgw; rintro e w4 ⟨rfl,hB'⟩; have HB4 : Hid (Below ((w.alloc (.cells C 47)).alloc (.cells #[S x.name,I (p : Int),I x.ac.kind,I x.ac.task,I x.ac.event,S x.ac.name, .slice s6.a s6.n s6.c, .int .u32 τ, .int .u32 κ] 66)).heap.size ((w.alloc (.cells C 47)).alloc (.cells #[S x.name,I (p : Int),I x.ac.kind,I x.ac.task,I x.ac.event,S x.ac.name, .slice s6.a s6.n s6.c, .int .u32 τ, .int .u32 κ] 66)) w4) := HB3.out.trans (hB'.mono HB3.out.size); clear hB' HKR; obtain ⟨⟨c10,c14⟩,⟨t1,t6,t7,t8⟩,hCf,hbw,hgw⟩ := HF.out _ HB4.out; have Hbw4 : Hid (Below w.heap.size w w4) := hbw; obtain ⟨gc,oc,ek,hgc,d0,d1,d2,d3⟩ := HCT.out _ hCf; have hgne : gc ≠ w4.heap.size := Nat.ne_of_lt hgc; have hst4 := HST4.out w4; rw [ek] at c14; clear hCf hbw ek))
       go_wp2
       go_ret
       exact ⟨qa3 HE.out.symm,HAL.out _ Hbw4.out _⟩
      | true =>
       have hc' : (κ != 0) = false := by simp only [bne,hc]; rfl
       have HE : Hid (R = 0) := by show _ = _; rw [HR.out,ht,hc]; rfl
       clear HR
       go_enter Tryz.func164,Tryz.ntmps164
       go_upto_region 4 with fail
       go_upto_region 9 with (first | (refine wpList_load_row rfl 47 _ rfl w.heap.size rfl 47 _ (0,0) _ hV2 Tryz.underlying47 rfl hi18 ?_) | (go_at_call 211; refine (HKA.out _ HbW.out).mono ?_; rintro e w3 ⟨rfl,hB'⟩; have HB3 : Hid (Below ((w.alloc (.cells C 47)).alloc (.cells #[S x.name,I (p : Int),I x.ac.kind,I x.ac.task,I x.ac.event,S x.ac.name, .slice s6.a s6.n s6.c, .int .u32 τ, .int .u32 κ] 66)).heap.size ((w.alloc (.cells C 47)).alloc (.cells #[S x.name,I (p : Int),I x.ac.kind,I x.ac.task,I x.ac.event,S x.ac.name, .slice s6.a s6.n s6.c, .int .u32 τ, .int .u32 κ] 66)) w3) := hB'; clear hB' HKA; obtain ⟨⟨c10,c14⟩,⟨t1,t6,t7,t8⟩,hCf,hbw,hgw⟩ := HF.out _ HB3.out; have Hbw3 : Hid (Below w.heap.size w w3) := hbw; clear hCf hbw) | (go_at_call 210; refine (HKR.out _ Hbw3.out).mono ?_; clear c10 c14 t1 t6 t7 t8 hgw; rintro e w4 ⟨rfl,hB'⟩; have HB4 : Hid (Below ((w.alloc (.cells C 47)).alloc (.cells #[S x.name,I (p : Int),I x.ac.kind,I x.ac.task,I x.ac.event,S x.ac.name, .slice s6.a s6.n s6.c, .int .u32 τ, .int .u32 κ] 66)).heap.size ((w.alloc (.cells C 47)).alloc (.cells #[S x.name,I (p : Int),I x.ac.kind,I x.ac.task,I x.ac.event,S x.ac.name, .slice s6.a s6.n s6.c, .int .u32 τ, .int .u32 κ] 66)) w4) := HB3.out.trans (hB'.mono HB3.out.size); clear hB' HKR; obtain ⟨⟨c10,c14⟩,⟨t1,t6,t7,t8⟩,hCf,hbw,hgw⟩ := HF.out _ HB4.out; have Hbw4 : Hid (Below w.heap.size w w4) := hbw; obtain ⟨gc,oc,ek,hgc,d0,d1,d2,d3⟩ := HCT.out _ hCf; have hgne : gc ≠ w4.heap.size := Nat.ne_of_lt hgc; have hst4 := HST4.out w4; rw [ek] at c14; clear hCf hbw ek))
       go_wp2
       go_ret
       exact ⟨qa3 HE.out.symm,HAL.out _ Hbw4.out _⟩
    ·rw [if_neg (show ¬ ((s6.n : Int) == 0) = true by rw [hz]; decide)] at HR
     by_cases q1 : τ < 1
     ·have HE : Hid (R = 74) := by show _ = _; rw [HR.out,if_neg (by simp [inR]; omega)]
      clear HR
      go_enter Tryz.func164,Tryz.ntmps164
      go_upto_region 4 with fail
      go_upto_region 9 with (first | (refine wpList_load_row rfl 47 _ rfl w.heap.size rfl 47 _ (0,0) _ hV2 Tryz.underlying47 rfl hi18 ?_) | (go_at_call 211; refine (HKA.out _ HbW.out).mono ?_; rintro e w3 ⟨rfl,hB'⟩; have HB3 : Hid (Below ((w.alloc (.cells C 47)).alloc (.cells #[S x.name,I (p : Int),I x.ac.kind,I x.ac.task,I x.ac.event,S x.ac.name, .slice s6.a s6.n s6.c, .int .u32 τ, .int .u32 κ] 66)).heap.size ((w.alloc (.cells C 47)).alloc (.cells #[S x.name,I (p : Int),I x.ac.kind,I x.ac.task,I x.ac.event,S x.ac.name, .slice s6.a s6.n s6.c, .int .u32 τ, .int .u32 κ] 66)) w3) := hB'; clear hB' HKA; obtain ⟨⟨c10,c14⟩,⟨t1,t6,t7,t8⟩,hCf,hbw,hgw⟩ := HF.out _ HB3.out; have Hbw3 : Hid (Below w.heap.size w w3) := hbw; clear hCf hbw) | (go_at_call 210; refine (HKR.out _ Hbw3.out).mono ?_; clear c10 c14 t1 t6 t7 t8 hgw; rintro e w4 ⟨rfl,hB'⟩; have HB4 : Hid (Below ((w.alloc (.cells C 47)).alloc (.cells #[S x.name,I (p : Int),I x.ac.kind,I x.ac.task,I x.ac.event,S x.ac.name, .slice s6.a s6.n s6.c, .int .u32 τ, .int .u32 κ] 66)).heap.size ((w.alloc (.cells C 47)).alloc (.cells #[S x.name,I (p : Int),I x.ac.kind,I x.ac.task,I x.ac.event,S x.ac.name, .slice s6.a s6.n s6.c, .int .u32 τ, .int .u32 κ] 66)) w4) := HB3.out.trans (hB'.mono HB3.out.size); clear hB' HKR; obtain ⟨⟨c10,c14⟩,⟨t1,t6,t7,t8⟩,hCf,hbw,hgw⟩ := HF.out _ HB4.out; have Hbw4 : Hid (Below w.heap.size w w4) := hbw; obtain ⟨gc,oc,ek,hgc,d0,d1,d2,d3⟩ := HCT.out _ hCf; have hgne : gc ≠ w4.heap.size := Nat.ne_of_lt hgc; have hst4 := HST4.out w4; rw [ek] at c14; clear hCf hbw ek))
      go_wp2
      go_ret
      exact ⟨qa3 HE.out.symm,HAL.out _ Hbw4.out _⟩
     ·by_cases q2 : τ > ymx
      ·have HE : Hid (R = 74) := by show _ = _; rw [HR.out,if_neg (by simp [inR]; omega)]
       clear HR
       go_enter Tryz.func164,Tryz.ntmps164
       go_upto_region 4 with fail
       go_upto_region 9 with (first | (refine wpList_load_row rfl 47 _ rfl w.heap.size rfl 47 _ (0,0) _ hV2 Tryz.underlying47 rfl hi18 ?_) | (go_at_call 211; refine (HKA.out _ HbW.out).mono ?_; rintro e w3 ⟨rfl,hB'⟩; have HB3 : Hid (Below ((w.alloc (.cells C 47)).alloc (.cells #[S x.name,I (p : Int),I x.ac.kind,I x.ac.task,I x.ac.event,S x.ac.name, .slice s6.a s6.n s6.c, .int .u32 τ, .int .u32 κ] 66)).heap.size ((w.alloc (.cells C 47)).alloc (.cells #[S x.name,I (p : Int),I x.ac.kind,I x.ac.task,I x.ac.event,S x.ac.name, .slice s6.a s6.n s6.c, .int .u32 τ, .int .u32 κ] 66)) w3) := hB'; clear hB' HKA; obtain ⟨⟨c10,c14⟩,⟨t1,t6,t7,t8⟩,hCf,hbw,hgw⟩ := HF.out _ HB3.out; have Hbw3 : Hid (Below w.heap.size w w3) := hbw; clear hCf hbw) | (go_at_call 210; refine (HKR.out _ Hbw3.out).mono ?_; clear c10 c14 t1 t6 t7 t8 hgw; rintro e w4 ⟨rfl,hB'⟩; have HB4 : Hid (Below ((w.alloc (.cells C 47)).alloc (.cells #[S x.name,I (p : Int),I x.ac.kind,I x.ac.task,I x.ac.event,S x.ac.name, .slice s6.a s6.n s6.c, .int .u32 τ, .int .u32 κ] 66)).heap.size ((w.alloc (.cells C 47)).alloc (.cells #[S x.name,I (p : Int),I x.ac.kind,I x.ac.task,I x.ac.event,S x.ac.name, .slice s6.a s6.n s6.c, .int .u32 τ, .int .u32 κ] 66)) w4) := HB3.out.trans (hB'.mono HB3.out.size); clear hB' HKR; obtain ⟨⟨c10,c14⟩,⟨t1,t6,t7,t8⟩,hCf,hbw,hgw⟩ := HF.out _ HB4.out; have Hbw4 : Hid (Below w.heap.size w w4) := hbw; obtain ⟨gc,oc,ek,hgc,d0,d1,d2,d3⟩ := HCT.out _ hCf; have hgne : gc ≠ w4.heap.size := Nat.ne_of_lt hgc; have hst4 := HST4.out w4; rw [ek] at c14; clear hCf hbw ek))
       go_wp2
       go_ret
       exact ⟨qa3 HE.out.symm,HAL.out _ Hbw4.out _⟩
      ·have HI1 : Hid (inR τ 1 ymx = true) := by show _ = _; simp [inR]; omega
       rw [HI1.out,Bool.true_and] at HR
       cases hc : (κ == 0) with
       | true =>
        have hc' : (κ != 0) = false := by simp only [bne,hc]; rfl
        have HE : Hid (R = 0) := by show _ = _; rw [HR.out,hc]; rfl
        clear HR
        go_enter Tryz.func164,Tryz.ntmps164
        go_upto_region 4 with fail
        go_upto_region 9 with (first | (refine wpList_load_row rfl 47 _ rfl w.heap.size rfl 47 _ (0,0) _ hV2 Tryz.underlying47 rfl hi18 ?_) | (go_at_call 211; refine (HKA.out _ HbW.out).mono ?_; rintro e w3 ⟨rfl,hB'⟩; have HB3 : Hid (Below ((w.alloc (.cells C 47)).alloc (.cells #[S x.name,I (p : Int),I x.ac.kind,I x.ac.task,I x.ac.event,S x.ac.name, .slice s6.a s6.n s6.c, .int .u32 τ, .int .u32 κ] 66)).heap.size ((w.alloc (.cells C 47)).alloc (.cells #[S x.name,I (p : Int),I x.ac.kind,I x.ac.task,I x.ac.event,S x.ac.name, .slice s6.a s6.n s6.c, .int .u32 τ, .int .u32 κ] 66)) w3) := hB'; clear hB' HKA; obtain ⟨⟨c10,c14⟩,⟨t1,t6,t7,t8⟩,hCf,hbw,hgw⟩ := HF.out _ HB3.out; have Hbw3 : Hid (Below w.heap.size w w3) := hbw; clear hCf hbw) | (go_at_call 210; refine (HKR.out _ Hbw3.out).mono ?_; clear c10 c14 t1 t6 t7 t8 hgw; rintro e w4 ⟨rfl,hB'⟩; have HB4 : Hid (Below ((w.alloc (.cells C 47)).alloc (.cells #[S x.name,I (p : Int),I x.ac.kind,I x.ac.task,I x.ac.event,S x.ac.name, .slice s6.a s6.n s6.c, .int .u32 τ, .int .u32 κ] 66)).heap.size ((w.alloc (.cells C 47)).alloc (.cells #[S x.name,I (p : Int),I x.ac.kind,I x.ac.task,I x.ac.event,S x.ac.name, .slice s6.a s6.n s6.c, .int .u32 τ, .int .u32 κ] 66)) w4) := HB3.out.trans (hB'.mono HB3.out.size); clear hB' HKR; obtain ⟨⟨c10,c14⟩,⟨t1,t6,t7,t8⟩,hCf,hbw,hgw⟩ := HF.out _ HB4.out; have Hbw4 : Hid (Below w.heap.size w w4) := hbw; obtain ⟨gc,oc,ek,hgc,d0,d1,d2,d3⟩ := HCT.out _ hCf; have hgne : gc ≠ w4.heap.size := Nat.ne_of_lt hgc; have hst4 := HST4.out w4; rw [ek] at c14; clear hCf hbw ek))
        go_wp2
        go_ret
        exact ⟨qa3 HE.out.symm,HAL.out _ Hbw4.out _⟩
       | false =>
        have hc' : (κ != 0) = true := by simp only [bne,hc]; rfl
        rw [hc,Bool.false_or] at HR
        by_cases q3 : κ < ymn
        ·have HE : Hid (R = 74) := by show _ = _; rw [HR.out,if_neg (by simp [inR]; omega)]
         clear HR
         go_enter Tryz.func164,Tryz.ntmps164
         go_upto_region 4 with fail
         go_upto_region 9 with (first | (refine wpList_load_row rfl 47 _ rfl w.heap.size rfl 47 _ (0,0) _ hV2 Tryz.underlying47 rfl hi18 ?_) | (go_at_call 211; refine (HKA.out _ HbW.out).mono ?_; rintro e w3 ⟨rfl,hB'⟩; have HB3 : Hid (Below ((w.alloc (.cells C 47)).alloc (.cells #[S x.name,I (p : Int),I x.ac.kind,I x.ac.task,I x.ac.event,S x.ac.name, .slice s6.a s6.n s6.c, .int .u32 τ, .int .u32 κ] 66)).heap.size ((w.alloc (.cells C 47)).alloc (.cells #[S x.name,I (p : Int),I x.ac.kind,I x.ac.task,I x.ac.event,S x.ac.name, .slice s6.a s6.n s6.c, .int .u32 τ, .int .u32 κ] 66)) w3) := hB'; clear hB' HKA; obtain ⟨⟨c10,c14⟩,⟨t1,t6,t7,t8⟩,hCf,hbw,hgw⟩ := HF.out _ HB3.out; have Hbw3 : Hid (Below w.heap.size w w3) := hbw; clear hCf hbw) | (go_at_call 210; refine (HKR.out _ Hbw3.out).mono ?_; clear c10 c14 t1 t6 t7 t8 hgw; rintro e w4 ⟨rfl,hB'⟩; have HB4 : Hid (Below ((w.alloc (.cells C 47)).alloc (.cells #[S x.name,I (p : Int),I x.ac.kind,I x.ac.task,I x.ac.event,S x.ac.name, .slice s6.a s6.n s6.c, .int .u32 τ, .int .u32 κ] 66)).heap.size ((w.alloc (.cells C 47)).alloc (.cells #[S x.name,I (p : Int),I x.ac.kind,I x.ac.task,I x.ac.event,S x.ac.name, .slice s6.a s6.n s6.c, .int .u32 τ, .int .u32 κ] 66)) w4) := HB3.out.trans (hB'.mono HB3.out.size); clear hB' HKR; obtain ⟨⟨c10,c14⟩,⟨t1,t6,t7,t8⟩,hCf,hbw,hgw⟩ := HF.out _ HB4.out; have Hbw4 : Hid (Below w.heap.size w w4) := hbw; obtain ⟨gc,oc,ek,hgc,d0,d1,d2,d3⟩ := HCT.out _ hCf; have hgne : gc ≠ w4.heap.size := Nat.ne_of_lt hgc; have hst4 := HST4.out w4; rw [ek] at c14; clear hCf hbw ek))
         go_wp2
         go_ret
         exact ⟨qa3 HE.out.symm,HAL.out _ Hbw4.out _⟩
        ·by_cases q4 : κ > ymx
         ·have HE : Hid (R = 74) := by show _ = _; rw [HR.out,if_neg (by simp [inR]; omega)]
          clear HR
          go_enter Tryz.func164,Tryz.ntmps164
          go_upto_region 4 with fail
          go_upto_region 9 with (first | (refine wpList_load_row rfl 47 _ rfl w.heap.size rfl 47 _ (0,0) _ hV2 Tryz.underlying47 rfl hi18 ?_) | (go_at_call 211; refine (HKA.out _ HbW.out).mono ?_; rintro e w3 ⟨rfl,hB'⟩; have HB3 : Hid (Below ((w.alloc (.cells C 47)).alloc (.cells #[S x.name,I (p : Int),I x.ac.kind,I x.ac.task,I x.ac.event,S x.ac.name, .slice s6.a s6.n s6.c, .int .u32 τ, .int .u32 κ] 66)).heap.size ((w.alloc (.cells C 47)).alloc (.cells #[S x.name,I (p : Int),I x.ac.kind,I x.ac.task,I x.ac.event,S x.ac.name, .slice s6.a s6.n s6.c, .int .u32 τ, .int .u32 κ] 66)) w3) := hB'; clear hB' HKA; obtain ⟨⟨c10,c14⟩,⟨t1,t6,t7,t8⟩,hCf,hbw,hgw⟩ := HF.out _ HB3.out; have Hbw3 : Hid (Below w.heap.size w w3) := hbw; clear hCf hbw) | (go_at_call 210; refine (HKR.out _ Hbw3.out).mono ?_; clear c10 c14 t1 t6 t7 t8 hgw; rintro e w4 ⟨rfl,hB'⟩; have HB4 : Hid (Below ((w.alloc (.cells C 47)).alloc (.cells #[S x.name,I (p : Int),I x.ac.kind,I x.ac.task,I x.ac.event,S x.ac.name, .slice s6.a s6.n s6.c, .int .u32 τ, .int .u32 κ] 66)).heap.size ((w.alloc (.cells C 47)).alloc (.cells #[S x.name,I (p : Int),I x.ac.kind,I x.ac.task,I x.ac.event,S x.ac.name, .slice s6.a s6.n s6.c, .int .u32 τ, .int .u32 κ] 66)) w4) := HB3.out.trans (hB'.mono HB3.out.size); clear hB' HKR; obtain ⟨⟨c10,c14⟩,⟨t1,t6,t7,t8⟩,hCf,hbw,hgw⟩ := HF.out _ HB4.out; have Hbw4 : Hid (Below w.heap.size w w4) := hbw; obtain ⟨gc,oc,ek,hgc,d0,d1,d2,d3⟩ := HCT.out _ hCf; have hgne : gc ≠ w4.heap.size := Nat.ne_of_lt hgc; have hst4 := HST4.out w4; rw [ek] at c14; clear hCf hbw ek))
          go_wp2
          go_ret
          exact ⟨qa3 HE.out.symm,HAL.out _ Hbw4.out _⟩
         ·have HE : Hid (R = 0) := by show _ = _; rw [HR.out,if_pos (by simp [inR]; omega)]
          clear HR
          go_enter Tryz.func164,Tryz.ntmps164
          go_upto_region 4 with fail
          go_upto_region 9 with (first | (refine wpList_load_row rfl 47 _ rfl w.heap.size rfl 47 _ (0,0) _ hV2 Tryz.underlying47 rfl hi18 ?_) | (go_at_call 211; refine (HKA.out _ HbW.out).mono ?_; rintro e w3 ⟨rfl,hB'⟩; have HB3 : Hid (Below ((w.alloc (.cells C 47)).alloc (.cells #[S x.name,I (p : Int),I x.ac.kind,I x.ac.task,I x.ac.event,S x.ac.name, .slice s6.a s6.n s6.c, .int .u32 τ, .int .u32 κ] 66)).heap.size ((w.alloc (.cells C 47)).alloc (.cells #[S x.name,I (p : Int),I x.ac.kind,I x.ac.task,I x.ac.event,S x.ac.name, .slice s6.a s6.n s6.c, .int .u32 τ, .int .u32 κ] 66)) w3) := hB'; clear hB' HKA; obtain ⟨⟨c10,c14⟩,⟨t1,t6,t7,t8⟩,hCf,hbw,hgw⟩ := HF.out _ HB3.out; have Hbw3 : Hid (Below w.heap.size w w3) := hbw; clear hCf hbw) | (go_at_call 210; refine (HKR.out _ Hbw3.out).mono ?_; clear c10 c14 t1 t6 t7 t8 hgw; rintro e w4 ⟨rfl,hB'⟩; have HB4 : Hid (Below ((w.alloc (.cells C 47)).alloc (.cells #[S x.name,I (p : Int),I x.ac.kind,I x.ac.task,I x.ac.event,S x.ac.name, .slice s6.a s6.n s6.c, .int .u32 τ, .int .u32 κ] 66)).heap.size ((w.alloc (.cells C 47)).alloc (.cells #[S x.name,I (p : Int),I x.ac.kind,I x.ac.task,I x.ac.event,S x.ac.name, .slice s6.a s6.n s6.c, .int .u32 τ, .int .u32 κ] 66)) w4) := HB3.out.trans (hB'.mono HB3.out.size); clear hB' HKR; obtain ⟨⟨c10,c14⟩,⟨t1,t6,t7,t8⟩,hCf,hbw,hgw⟩ := HF.out _ HB4.out; have Hbw4 : Hid (Below w.heap.size w w4) := hbw; obtain ⟨gc,oc,ek,hgc,d0,d1,d2,d3⟩ := HCT.out _ hCf; have hgne : gc ≠ w4.heap.size := Nat.ne_of_lt hgc; have hst4 := HST4.out w4; rw [ek] at c14; clear hCf hbw ek))
          go_wp2
          go_ret
          exact ⟨qa3 HE.out.symm,HAL.out _ Hbw4.out _⟩
end Go.Proofs.YtmidaeljeoifdaaGreatDoor
