import Derived.Test.YtijgopkhdjaolaaGreatHt2
import Derived.Deep.CutBlock
namespace Go.Proofs.YtijgopkhdjaolaaGreat
open Go.RowKit Go.Shelf Go.Sort
open Go.Proofs.YtijgopkhdjaolaaGreat.Ob (leB leV qa9 qai crc Rd RdAll qaa)
set_option linter.unusedSimpArgs false
set_option linter.unusedVariables false
set_option maxHeartbeats 16000000
set_option maxRecDepth 100000
theorem qgr (w : World) (tb : Tb) (v : Ts) (h : TbAt w tb v) (hw : WfT tb) (ba : Option Addr) (bn bc : Nat) (bs : List UInt8) (hbs : Rd w ba bn bc bs) : Calls Tryz.prog 4 #[.agg (tbC tb v), .slice ba bn bc] w fun e w' => e = .returned (.bool true) ∧ Below w.heap.size w w' := by
 have hb1 := qa0 w (tO tb v)
 have hv1 := heap_alloc_new w (tO tb v)
 have hE := qgg (w.alloc (tO tb v)) tb v (h.below hb1) hw
 have hCk : Hid (∀ W,TbAt W tb v → Calls Tryz.prog 14 #[.agg (tbC tb v)] W fun e w' => e = .returned (I (if chkP tb then 0 else 90)) ∧ Below W.heap.size W w') := fun W hT => qcy tb v W hT hw
 obtain ⟨cE,hcE⟩ : ∃ cE : Int,cE = if chkP tb then 0 else 90 := ⟨_,rfl⟩
 rw [← hcE] at hE hCk
 have HCE : Hid (cE = if chkP tb then 0 else 90) := hcE
 have HW : Hid (WfT tb) := hw
 have HS : Hid (∀ W,Below (w.alloc (tO tb v)).heap.size (w.alloc (tO tb v)) W → (W.cell? ⟨w.heap.size,0,none⟩ = some (I tb.uses) ∧ W.cell? ⟨w.heap.size,1,none⟩ = some (I tb.modes) ∧ W.cell? ⟨w.heap.size,2,none⟩ = some (.slice v.t.a v.t.n v.t.c) ∧ W.cell? ⟨w.heap.size,3,none⟩ = some (.slice v.g.a v.g.n v.g.c) ∧ W.cell? ⟨w.heap.size,4,none⟩ = some (.slice v.r.a v.r.n v.r.c) ∧ W.cell? ⟨w.heap.size,5,none⟩ = some (.slice v.k.a v.k.n v.k.c) ∧ W.cell? ⟨w.heap.size,6,none⟩ = some (.slice v.a.a v.a.n v.a.c) ∧ W.cell? ⟨w.heap.size,7,none⟩ = some (.slice v.i.a v.i.n v.i.c) ∧ W.cell? ⟨w.heap.size,8,none⟩ = some (.slice v.s.a v.s.n v.s.c) ∧ W.cell? ⟨w.heap.size,9,none⟩ = some (I tb.depth) ∧ W.cell? ⟨w.heap.size,10,none⟩ = some (I tb.frames) ∧ W.cell? ⟨w.heap.size,11,none⟩ = some (I tb.errors) ∧ W.cell? ⟨w.heap.size,12,none⟩ = some (I tb.calls))) := fun W hW => qbv ((hW.block _ (qa4 hv1)).trans hv1)
 have HT : Hid (∀ W,Below (w.alloc (tO tb v)).heap.size (w.alloc (tO tb v)) W → TbAt W tb v ∧ Rd W ba bn bc bs) := fun W hW => ⟨(h.below hb1).below hW,(hbs.below hb1).below hW⟩
 have HB1 : Hid (Below w.heap.size w (w.alloc (tO tb v))) := hb1
 have hA := fun W => qd1 W
 have hnn := fun W (x : Int) => qdd W x
 unfold tbC at *
 clear hb1 hv1 h hw hcE hbs
 go_enter Tryz.func4,Tryz.ntmps4
 go_upto_region 1 with fail
 generalize w.alloc (.cells #[I tb.uses,I tb.modes, .slice v.t.a v.t.n v.t.c, .slice v.g.a v.g.n v.g.c, .slice v.r.a v.r.n v.r.c, .slice v.k.a v.k.n v.k.c, .slice v.a.a v.a.n v.a.c, .slice v.i.a v.i.n v.i.c, .slice v.s.a v.s.n v.s.c,I tb.depth,I tb.frames,I tb.errors,I tb.calls] 30) = w1 at *
 generalize hX1 : w.heap.size = X1 at *
 have HX1 : Hid (w.heap.size = X1) := hX1
 clear hX1
 obtain ⟨c0,c1,c2,c3,c4,c5,c6,c7,c8,c9,c10,c11,c12⟩ := HS.out w1 (Below.refl _ _)
 go_upto_region 2 with (first | (go_at_call 9; refine hE.mono ?_; clear hE c0 c1 c2 c3 c4 c5 c6 c7 c8 c9 c10 c11 c12; rintro e w2 ⟨xa,xn,xc,rfl,hRx,b2⟩; have HRx : Hid (chkP tb = true → Rd w2 xa xn xc (img tb)) := hRx; clear hRx))
 have HY := HS.out _ b2.drew
 have hbz := b2.drew
 have B2 : Hid (Below w1.heap.size w1 w2) := b2
 have hb2 : Below w2.heap.size w2 w2.drew := (Below.refl _ _).drew
 clear b2
 go_region_held_law (fun W => W.cell? ⟨X1,0,none⟩ = some (I tb.uses) ∧ W.cell? ⟨X1,1,none⟩ = some (I tb.modes) ∧ W.cell? ⟨X1,2,none⟩ = some (.slice v.t.a v.t.n v.t.c) ∧ W.cell? ⟨X1,3,none⟩ = some (.slice v.g.a v.g.n v.g.c) ∧ W.cell? ⟨X1,4,none⟩ = some (.slice v.r.a v.r.n v.r.c) ∧ W.cell? ⟨X1,5,none⟩ = some (.slice v.k.a v.k.n v.k.c) ∧ W.cell? ⟨X1,6,none⟩ = some (.slice v.a.a v.a.n v.a.c) ∧ W.cell? ⟨X1,7,none⟩ = some (.slice v.i.a v.i.n v.i.c) ∧ W.cell? ⟨X1,8,none⟩ = some (.slice v.s.a v.s.n v.s.c) ∧ W.cell? ⟨X1,9,none⟩ = some (I tb.depth) ∧ W.cell? ⟨X1,10,none⟩ = some (I tb.frames) ∧ W.cell? ⟨X1,11,none⟩ = some (I tb.errors) ∧ W.cell? ⟨X1,12,none⟩ = some (I tb.calls)) (first | exact HY | exact HS.out _ (by repeat' (first | exact hbz | apply Below.drew | apply belA)) | (go_keep; done)) (first
  | (go_at_call 11; refine (hnn _ _).mono ?_; rintro e w' ⟨rfl,rfl⟩)
  | (go_at_call 14; refine (hCk.out _ (HT.out _ hbz).1).mono ?_; rintro e w3 ⟨rfl,b3⟩; have hb2 := belT hb2 b3; have hbz := belT hbz b3; have HY := HS.out _ hbz; clear b3))
 have hne : ((cE == 0) != (cE == 0)) = false := by simp
 obtain ⟨z,hz⟩ : ∃ z,(cE == 0) = z := ⟨_,rfl⟩
 have hz2 : (z != z) = false := by simp
 have H3 : Hid (Below w1.heap.size w1 w3 ∧ Below w2.heap.size w2 w3) := ⟨hbz,hb2⟩
 clear HY hbz hb2 B2 hCk
 go_upto_if 28 with (first | (go_at_call 11; refine (hnn _ _).mono ?_; rintro e w' ⟨rfl,rfl⟩))
 go_cut [7,8] from 29 to 48 (fun _ _ wx => Hid (Below w1.heap.size w1 wx))
 case first =>
  cases hck : chkP tb with
  | false =>
   have hzf : z = false := by rw [← hz,HCE.out,hck]; rfl
   subst hzf
   go_wp2
   go_meet
   case rel => exact H3.out.1
  | true =>
   have hzf : z = true := by rw [← hz,HCE.out,hck]; rfl
   subst hzf
   have hRx := (HRx.out hck).below H3.out.2
   have hD : Calls Tryz.prog 15 #[.slice xa xn xc] w3 fun e w' => ∃ v3,e = .returned (.tuple #[.agg (tbC tb v3),I 0]) ∧ TbAt w' tb v3 ∧ Below w3.heap.size w3 w' := by
    have hdc := qdq hck HW.out (Ob.crc_lt _ _ (by decide))
    refine (qd2 hRx).mono ?_
    rintro e w' ⟨t3,v3,rfl,hq,b⟩
    obtain ⟨rfl,hT⟩ := hq _ hdc
    exact ⟨v3,by rw [hdc]; rfl,hT,b⟩
   clear hRx HRx
   unfold tbC at hD
   go_upto_region 6 with (first | (go_at_call 15; refine hD.mono ?_; clear hD; rintro e w4 ⟨v3,rfl,hT3,b4⟩))
   have hb5 := qa0 w4 (tO tb v3)
   have hv5 := heap_alloc_new w4 (tO tb v3)
   have HS5 : Hid (∀ W,Below (w4.alloc (tO tb v3)).heap.size (w4.alloc (tO tb v3)) W → (W.cell? ⟨X1,0,none⟩ = some (I tb.uses) ∧ W.cell? ⟨X1,1,none⟩ = some (I tb.modes) ∧ W.cell? ⟨X1,2,none⟩ = some (.slice v.t.a v.t.n v.t.c) ∧ W.cell? ⟨X1,3,none⟩ = some (.slice v.g.a v.g.n v.g.c) ∧ W.cell? ⟨X1,4,none⟩ = some (.slice v.r.a v.r.n v.r.c) ∧ W.cell? ⟨X1,5,none⟩ = some (.slice v.k.a v.k.n v.k.c) ∧ W.cell? ⟨X1,6,none⟩ = some (.slice v.a.a v.a.n v.a.c) ∧ W.cell? ⟨X1,7,none⟩ = some (.slice v.i.a v.i.n v.i.c) ∧ W.cell? ⟨X1,8,none⟩ = some (.slice v.s.a v.s.n v.s.c) ∧ W.cell? ⟨X1,9,none⟩ = some (I tb.depth) ∧ W.cell? ⟨X1,10,none⟩ = some (I tb.frames) ∧ W.cell? ⟨X1,11,none⟩ = some (I tb.errors) ∧ W.cell? ⟨X1,12,none⟩ = some (I tb.calls)) ∧ (W.cell? ⟨w4.heap.size,0,none⟩ = some (I tb.uses) ∧ W.cell? ⟨w4.heap.size,1,none⟩ = some (I tb.modes) ∧ W.cell? ⟨w4.heap.size,2,none⟩ = some (.slice v3.t.a v3.t.n v3.t.c) ∧ W.cell? ⟨w4.heap.size,3,none⟩ = some (.slice v3.g.a v3.g.n v3.g.c) ∧ W.cell? ⟨w4.heap.size,4,none⟩ = some (.slice v3.r.a v3.r.n v3.r.c) ∧ W.cell? ⟨w4.heap.size,5,none⟩ = some (.slice v3.k.a v3.k.n v3.k.c) ∧ W.cell? ⟨w4.heap.size,6,none⟩ = some (.slice v3.a.a v3.a.n v3.a.c) ∧ W.cell? ⟨w4.heap.size,7,none⟩ = some (.slice v3.i.a v3.i.n v3.i.c) ∧ W.cell? ⟨w4.heap.size,8,none⟩ = some (.slice v3.s.a v3.s.n v3.s.c) ∧ W.cell? ⟨w4.heap.size,9,none⟩ = some (I tb.depth) ∧ W.cell? ⟨w4.heap.size,10,none⟩ = some (I tb.frames) ∧ W.cell? ⟨w4.heap.size,11,none⟩ = some (I tb.errors) ∧ W.cell? ⟨w4.heap.size,12,none⟩ = some (I tb.calls)) ∧ TbAt W tb v ∧ TbAt W tb v3 ∧ Below w1.heap.size w1 W) := fun W hW => by
    have bb := belT (belT H3.out.1 (belT b4 hb5)) hW
    exact ⟨HS.out W bb,qbv ((hW.block _ (qa4 hv5)).trans hv5),(HT.out W bb).1,(hT3.below hb5).below hW,bb⟩
   clear hb5 hv5 hT3 b4
   generalize w4.alloc (.cells #[I tb.uses,I tb.modes, .slice v3.t.a v3.t.n v3.t.c, .slice v3.g.a v3.g.n v3.g.c, .slice v3.r.a v3.r.n v3.r.c, .slice v3.k.a v3.k.n v3.k.c, .slice v3.a.a v3.a.n v3.a.c, .slice v3.i.a v3.i.n v3.i.c, .slice v3.s.a v3.s.n v3.s.c,I tb.depth,I tb.frames,I tb.errors,I tb.calls] 30) = w5 at *
   generalize w4.heap.size = X7 at *
   have HSM : Hid (∀ W,TbAt W tb v → TbAt W tb v3 → Calls Tryz.prog 16 #[.agg (tbC tb v), .agg (tbC tb v3)] W fun e w' => e = .returned (.bool true) ∧ Below W.heap.size W w') := fun W h1 h2 => qfl W tb v v3 h1 h2
   have HSP : Hid (∀ W,TbAt W tb v → TbAt W tb v3 → Calls Tryz.prog 17 #[.agg (tbC tb v), .agg (tbC tb v3)] W fun e w' => e = .returned (.bool true) ∧ Below W.heap.size W w') := fun W h1 h2 => (same_any W tb tb v v3 h1 h2).mono fun e w' q => ⟨qag q.1 rfl,q.2⟩
   unfold tbC at HSM HSP
   obtain ⟨⟨c0,c1,c2,c3,c4,c5,c6,c7,c8,c9,c10,c11,c12⟩,⟨d0,d1,d2,d3,d4,d5,d6,d7,d8,d9,d10,d11,d12⟩,hTa,hTb, -⟩ := HS5.out w5 (Below.refl _ _)
   have hM := HSM.out _ hTa hTb
   clear hTa hTb
   go_wp2_with (first
    | (go_at_call 11; refine (hnn _ _).mono ?_; rintro e w' ⟨rfl,rfl⟩)
    | (go_at_call 16; refine hM.mono ?_; clear hM HSM c0 c1 c2 c3 c4 c5 c6 c7 c8 c9 c10 c11 c12 d0 d1 d2 d3 d4 d5 d6 d7 d8 d9 d10 d11 d12; rintro e w6 ⟨rfl,b6⟩; have B6 : Hid (Below w5.heap.size w5 w6) := b6; obtain ⟨⟨c0,c1,c2,c3,c4,c5,c6,c7,c8,c9,c10,c11,c12⟩,⟨d0,d1,d2,d3,d4,d5,d6,d7,d8,d9,d10,d11,d12⟩,hTa,hTb, -⟩ := HS5.out w6 b6; have hP := HSP.out _ hTa hTb; clear hTa hTb b6)
    | (go_at_call 17; refine hP.mono ?_; clear hP HSP c0 c1 c2 c3 c4 c5 c6 c7 c8 c9 c10 c11 c12 d0 d1 d2 d3 d4 d5 d6 d7 d8 d9 d10 d11 d12; rintro e w7 ⟨rfl,b7⟩; have B7 : Hid (Below w5.heap.size w5 w7) := belT B6.out b7; clear b7))
   go_meet
   case rel => exact (HS5.out _ B7.out).2.2.2.2
 have HC : Hid (Below w1.heap.size w1 wc) := hcut
 clear hcut H3 HRx HCE HW
 have hRb := (HT.out _ HC.out).2
 have hD := qd2 hRb
 obtain ⟨cN,hcN⟩ : ∃ cN : Nat,cN = qbh (dec bs) := ⟨_,rfl⟩
 rw [← hcN] at hD
 have HCN : Hid (cN = qbh (dec bs)) := hcN
 unfold tbC at hD
 clear hcN hRb
 go_upto_if 56 with (first
  | (go_at_call 15; refine hD.mono ?_; clear hD; rintro e w6 ⟨tb2,v2,rfl,hq,b6⟩; have HQ : Hid ((∀ tb',dec bs = .ok tb' → tb2 = tb' ∧ TbAt w6 tb2 v2) ∧ Below wc.heap.size wc w6) := ⟨hq,b6⟩; clear hq b6)
  | (go_at_call 11; refine (hnn _ _).mono ?_; rintro e w' ⟨rfl,rfl⟩))
 have hb8 := qa0 w6 (tO tb2 v2)
 have hv8 := heap_alloc_new w6 (tO tb2 v2)
 have HC8 : Hid (Below wc.heap.size wc (w6.alloc (tO tb2 v2))) := belT HQ.out.2 hb8
 have HS8 : Hid (∀ W,Below (w6.alloc (tO tb2 v2)).heap.size (w6.alloc (tO tb2 v2)) W → (W.cell? ⟨w6.heap.size,0,none⟩ = some (I tb2.uses) ∧ W.cell? ⟨w6.heap.size,1,none⟩ = some (I tb2.modes) ∧ W.cell? ⟨w6.heap.size,2,none⟩ = some (.slice v2.t.a v2.t.n v2.t.c) ∧ W.cell? ⟨w6.heap.size,3,none⟩ = some (.slice v2.g.a v2.g.n v2.g.c) ∧ W.cell? ⟨w6.heap.size,4,none⟩ = some (.slice v2.r.a v2.r.n v2.r.c) ∧ W.cell? ⟨w6.heap.size,5,none⟩ = some (.slice v2.k.a v2.k.n v2.k.c) ∧ W.cell? ⟨w6.heap.size,6,none⟩ = some (.slice v2.a.a v2.a.n v2.a.c) ∧ W.cell? ⟨w6.heap.size,7,none⟩ = some (.slice v2.i.a v2.i.n v2.i.c) ∧ W.cell? ⟨w6.heap.size,8,none⟩ = some (.slice v2.s.a v2.s.n v2.s.c) ∧ W.cell? ⟨w6.heap.size,9,none⟩ = some (I tb2.depth) ∧ W.cell? ⟨w6.heap.size,10,none⟩ = some (I tb2.frames) ∧ W.cell? ⟨w6.heap.size,11,none⟩ = some (I tb2.errors) ∧ W.cell? ⟨w6.heap.size,12,none⟩ = some (I tb2.calls))) := fun W hW => qbv ((hW.block _ (qa4 hv8)).trans hv8)
 have HQ8 : Hid (∀ tb',dec bs = .ok tb' → tb2 = tb' ∧ TbAt (w6.alloc (tO tb2 v2)) tb2 v2) := fun tb' e => ⟨(HQ.out.1 tb' e).1,(HQ.out.1 tb' e).2.below hb8⟩
 clear hb8 hv8 HQ
 generalize w6.alloc (.cells #[I tb2.uses,I tb2.modes, .slice v2.t.a v2.t.n v2.t.c, .slice v2.g.a v2.g.n v2.g.c, .slice v2.r.a v2.r.n v2.r.c, .slice v2.k.a v2.k.n v2.k.c, .slice v2.a.a v2.a.n v2.a.c, .slice v2.i.a v2.i.n v2.i.c, .slice v2.s.a v2.s.n v2.s.c,I tb2.depth,I tb2.frames,I tb2.errors,I tb2.calls] 30) = w8 at *
 generalize w6.heap.size = X9 at *
 cases hd : dec bs with
 | error q =>
  have hq : cN = q := by rw [HCN.out,hd]; rfl
  have hq0 : ((cN : Int) == 0) = false := by have := qiq hd; rw [beq_eq_false_iff_ne]; omega
  clear hq
  go_wp2_with (first | (go_at_call 12; refine (hA _).mono ?_; clear hA; rintro ew w9 ⟨rfl,b9⟩; have HB9 : Hid (Below w8.heap.size w8 w9) := b9; clear b9))
  go_ret
  refine ⟨rfl, ?_⟩
  have := belT (belT (by have := HB1.out; rw [← HX1.out] at this; exact this) (belT HC.out HC8.out)) HB9.out
  exact this
 | ok t3 =>
  have hq : cN = 0 := by rw [HCN.out,hd]; rfl
  have hq0 : ((cN : Int) == 0) = true := by rw [hq]; rfl
  obtain ⟨e3,hT2⟩ := HQ8.out _ hd
  obtain ⟨ebs,hok,hck⟩ := qe8 hd
  rw [← e3] at ebs hok hck
  have hwf := qk0 hok
  have hE := qgg w8 tb2 v2 hT2 hwf
  rw [hck] at hE
  have HT2 : Hid (∀ W,Below w8.heap.size w8 W → TbAt W tb2 v2 ∧ Rd W ba bn bc bs) := fun W hW => ⟨hT2.below hW,(HT.out W (belT (belT HC.out HC8.out) hW)).2⟩
  have HCk : Hid (∀ W,TbAt W tb2 v2 → Calls Tryz.prog 14 #[.agg (tbC tb2 v2)] W fun e w' => e = .returned (I 0) ∧ Below W.heap.size W w') := fun W hT => by
   have := qcy tb2 v2 W hT hwf
   rw [hck] at this
   exact this
  have HSa : Hid (∀ (W : World) a n c,Rd W a n c (img tb2) → Rd W ba bn bc bs → Calls Tryz.prog 18 #[.slice a n c, .slice ba bn bc] W fun e w' => e = .returned (.bool true) ∧ ∃ q,w' = W.drewN q) := fun W a n c h1 h2 => by
   refine (Ob.same_any a ba n bn c bc _ _ W h1 h2).mono ?_
   rintro e w' ⟨rfl,hw'⟩
   rw [ebs]
   exact ⟨by simp,hw'⟩
  unfold tbC at hE HCk
  clear hq e3 hT2 ebs hok hck hwf
  obtain ⟨c0,c1,c2,c3,c4,c5,c6,c7,c8,c9,c10,c11,c12⟩ := HS8.out w8 (Below.refl _ _)
  go_wp2_with (first
   | (go_at_call 9; refine hE.mono ?_; clear hE c0 c1 c2 c3 c4 c5 c6 c7 c8 c9 c10 c11 c12; rintro e w9 ⟨ya,yn,yc,rfl,hRy,b9⟩; have hS := HSa.out _ _ _ _ (hRy rfl) (HT2.out _ b9).2; have B9 : Hid (Below w8.heap.size w8 w9) := b9; clear b9 hRy HSa)
   | (go_at_call 11; refine (hnn _ _).mono ?_; rintro e w' ⟨rfl,rfl⟩)
   | (go_at_call 18; refine hS.mono ?_; clear hS; rintro e wy ⟨rfl,qy,hwy⟩; have hby : Below w8.heap.size w8 wy := (by rw [hwy]; exact below_drewN B9.out qy); clear hwy; obtain ⟨c0,c1,c2,c3,c4,c5,c6,c7,c8,c9,c10,c11,c12⟩ := HS8.out wy hby; have hCk := HCk.out _ (HT2.out _ hby).1; have B10 : Hid (Below w8.heap.size w8 wy) := hby; clear hby HCk)
   | (go_at_call 14; refine hCk.mono ?_; clear hCk c0 c1 c2 c3 c4 c5 c6 c7 c8 c9 c10 c11 c12; rintro e wz ⟨rfl,bz⟩; have B11 : Hid (Below w8.heap.size w8 wz) := belT B10.out bz; clear bz)
   | (go_at_call 12; refine (hA _).mono ?_; clear hA; rintro ew wl ⟨rfl,bl⟩; have HB9 : Hid (Below w8.heap.size w8 wl) := belT B11.out bl; clear bl))
  go_ret
  refine ⟨rfl, ?_⟩
  have := belT (belT (by have := HB1.out; rw [← HX1.out] at this; exact this) (belT HC.out HC8.out)) HB9.out
  exact this
end Go.Proofs.YtijgopkhdjaolaaGreat
