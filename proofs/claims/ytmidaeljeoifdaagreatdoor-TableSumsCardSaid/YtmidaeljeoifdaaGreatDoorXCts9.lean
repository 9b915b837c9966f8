import Derived.Test.YtmidaeljeoifdaaGreatDoorXTcx
import Derived.Test.YtmidaeljeoifdaaGreatDoorXTcl
import Derived.Test.YtmidaeljeoifdaaGreatDoorXTch
import Derived.Test.YtmidaeljeoifdaaGreatDoorXTcd
import Derived.Test.YtmidaeljeoifdaaGreatDoorXKmy
import Derived.Test.YtmidaeljeoifdaaGreatDoorRows
import Derived.Test.YtmidaeljeoifdaaGreatDoorXKve
import Derived.ProofKit
import Derived.OpenShut
import Derived.LaidMore
import Derived.LaidSub
import Derived.Lay
import Derived.LaidHandle
import Derived.LaidLaws
import Derived.Stop.Joined
import Derived.SizedLaws
import Derived.HandedShaped
import Derived.Handed
import Derived.ChangeSame
import Derived.Test.YtmidaeljeoifdaaGreatDoorTie
import Derived.Test.YtmidaeljeoifdaaGreatDoorCards
import Derived.Test.YtmidaeljeoifdaaGreatDoorXKvi
import Derived.ChangeOld
import Derived.SevenTiedAt
namespace Go.Proofs.YtmidaeljeoifdaaGreatDoor
open Go.RowKit Go.Shelf Go.Sort
set_option linter.unusedSimpArgs false
set_option linter.unusedVariables false
set_option maxHeartbeats 16000000
set_option maxRecDepth 100000
def chL (tb : Tb) : List Bool := [qct tb,tb.ress.all (fun r => inI r.ceil (-1) 127),qcj tb.tasks 64 tb.rings,tb.tasks.all (tkB tb),tb.ctrs.all ctB,tb.als.all (alB tb),qdb tb [] tb.isrs,(tb.msgs.all fldB && tb.msgs.all (msB tb)),rmB tb]
theorem qn5 (tb : Tb) : (chL tb).all id = chkP tb := by
 unfold chL chkP rmB
 simp only [List.all_cons,List.all_nil,id,Bool.and_true,Bool.and_assoc]
def fnL : List Nat := [17,18,19,20,21,22,23,24,25]
theorem qr1 {tb : Tb} (h0 : qct tb = true) (h5 : tb.als.all (alB tb) = true) (h7 : (tb.msgs.all fldB && tb.msgs.all (msB tb)) = true) : RoomOK tb := by
 refine ⟨fun x hx => ?_,fun x hx hk => ?_, ?_⟩
 ·have := List.all_eq_true.1 h5 x hx
  unfold alB idB at this
  simp at this
  omega
 ·rw [Bool.and_eq_true] at h7
  have := List.all_eq_true.1 h7.2 x hx
  unfold msB at this
  rw [if_neg hk] at this
  unfold sndB idB at this
  simp at this
  omega
 ·unfold qct at h0
  simp at h0
  omega
theorem qlx {tb : Tb} (h0 : qct tb = true) : 1 ≤ tb.modes ∧ tb.modes ≤ 8 := by
 unfold qct inI at h0
 simp at h0
 omega
theorem quu (tb : Tb) (v : Ts) (W : World) (h : TbAt W tb v) (hw : WfT tb) (k f : Nat) (b : Bool) (hf : fnL[k]? = some f) (hb : (chL tb)[k]? = some b) (hp : ((chL tb).take k).all id = true) :
  Calls Tryz.prog f #[.agg (tbC tb v)] W fun e w' => e = .returned (.bool b) ∧ Below W.heap.size W w' := by
 unfold fnL at hf
 unfold chL at hb hp
 match k,hf,hb,hp with
 | 0,hf,hb,hp => cases hf; cases hb; exact qjc tb v W h
 | 1,hf,hb,hp => cases hf; cases hb; exact qgn tb v W h
 | 2,hf,hb,hp => cases hf; cases hb; exact ql7 tb v W h
 | 3,hf,hb,hp => cases hf; cases hb; simp at hp; exact qlw tb v W h hw (qlx hp.1)
 | 4,hf,hb,hp => cases hf; cases hb; exact qhj tb v W h
 | 5,hf,hb,hp => cases hf; cases hb; simp only [List.take_succ_cons,List.all_cons,Bool.and_eq_true,id] at hp; exact qjk tb v W h hw (qlx hp.1)
 | 6,hf,hb,hp => cases hf; cases hb; exact qmp tb v W h
 | 7,hf,hb,hp => cases hf; cases hb; exact qhr tb v W h hw
 | 8,hf,hb,hp => cases hf; cases hb; simp only [List.take_succ_cons,List.all_cons,Bool.and_eq_true,id] at hp; exact qlu tb v W h (qr1 hp.1 hp.2.2.2.2.2.1 (by rw [Bool.and_eq_true]; exact hp.2.2.2.2.2.2.2.1))
 | n + 9,hf,hb,hp => simp at hf
theorem qoq (k f : Nat) (hf : fnL[k]? = some f) : ∀ args W,(callFunc f args).run Tryz.prog W = .ok (.enter f args) W := by
 unfold fnL at hf
 match k,hf with
 | 0,hf => cases hf; exact enters_of Tryz.func17 (by kernel_rfl) rfl
 | 1,hf => cases hf; exact enters_of Tryz.func18 (by kernel_rfl) rfl
 | 2,hf => cases hf; exact enters_of Tryz.func19 (by kernel_rfl) rfl
 | 3,hf => cases hf; exact enters_of Tryz.func20 (by kernel_rfl) rfl
 | 4,hf => cases hf; exact enters_of Tryz.func21 (by kernel_rfl) rfl
 | 5,hf => cases hf; exact enters_of Tryz.func22 (by kernel_rfl) rfl
 | 6,hf => cases hf; exact enters_of Tryz.func23 (by kernel_rfl) rfl
 | 7,hf => cases hf; exact enters_of Tryz.func24 (by kernel_rfl) rfl
 | 8,hf => cases hf; exact enters_of Tryz.func25 (by kernel_rfl) rfl
 | n + 9,hf => simp at hf
def fvA : Array Value := #[.func (.func 17) #[] #[], .func (.func 18) #[] #[], .func (.func 19) #[] #[], .func (.func 20) #[] #[], .func (.func 21) #[] #[], .func (.func 22) #[] #[], .func (.func 23) #[] #[], .func (.func 24) #[] #[], .func (.func 25) #[] #[]]
theorem qwa (k f : Nat) (hf : fnL[k]? = some f) : fvA[k]? = some (.func (.func f) #[] #[]) := by
 unfold fnL at hf
 match k,hf with
 | 0,hf => cases hf; rfl
 | 1,hf => cases hf; rfl
 | 2,hf => cases hf; rfl
 | 3,hf => cases hf; rfl
 | 4,hf => cases hf; rfl
 | 5,hf => cases hf; rfl
 | 6,hf => cases hf; rfl
 | 7,hf => cases hf; rfl
 | 8,hf => cases hf; rfl
 | n + 9,hf => simp at hf
theorem qr2 (tb : Tb) (v : Ts) (w : World) (h : TbAt w tb v) (hw : WfT tb) : Calls Tryz.prog 8 #[.agg (tbC tb v)] w fun e w' => e = .returned (I (if chkP tb then 0 else 90)) ∧ Below w.heap.size w w' := by
 have hb1 : Below w.heap.size w ((w.alloc (.cells (tbC tb v) 30)).alloc (.cells fvA 35)) := (qa0 w _).trans ((qa0 _ _).mono (by simp))
 have hV0 : ((w.alloc (.cells (tbC tb v) 30)).alloc (.cells fvA 35)).heap[w.heap.size]? = some (.cells (tbC tb v) 30) := by
  rw [heap_alloc_old _ _ (by simp)]; exact heap_alloc_new w _
 have hG0 : ((w.alloc (.cells (tbC tb v) 30)).alloc (.cells fvA 35)).heap[w.heap.size + 1]? = some (.cells fvA 35) := by
  have := heap_alloc_new (w.alloc (.cells (tbC tb v) 30)) (.cells fvA 35)
  rw [World.size_alloc] at this
  exact this
 have HT : Hid (TbAt ((w.alloc (.cells (tbC tb v) 30)).alloc (.cells fvA 35)) tb v) := h.below hb1
 have HW : Hid (WfT tb) := hw
 have hi30 : (Tryz.prog.info? 30).map (·.size) = some (tbC tb v).size := by kernel_rfl
 obtain ⟨Z,hZ⟩ : ∃ Z : Int,Z = if chkP tb then 0 else 90 := ⟨_,rfl⟩
 rw [← hZ]
 have HZ : Hid (Z = if chkP tb then 0 else 90) := hZ
 have HC : Hid (∀ (W : World) (k f : Nat) (b : Bool),TbAt W tb v → fnL[k]? = some f → (chL tb)[k]? = some b → ((chL tb).take k).all id = true → Calls Tryz.prog f #[.agg (tbC tb v)] W fun e w' => e = .returned (.bool b) ∧ Below W.heap.size W w') := fun W k f b hT hf hb hp => quu tb v W hT hw k f b hf hb hp
 have HFV : Hid (∀ W : World,W.heap[w.heap.size + 1]? = some (.cells fvA 35) → ∀ k f : Nat,fnL[k]? = some f → W.cell? ⟨w.heap.size + 1,k,none⟩ = some (.func (.func f) #[] #[])) := fun W hW k f hf => by
  rw [cell_of_row W _ k _ _ (0,0) hW]; exact qwa k f hf
 have HB0 : Hid (Below w.heap.size w ((w.alloc (.cells (tbC tb v) 30)).alloc (.cells fvA 35))) := hb1
 have HV0 : Hid (((w.alloc (.cells (tbC tb v) 30)).alloc (.cells fvA 35)).heap[w.heap.size]? = some (.cells (tbC tb v) 30) ∧ ((w.alloc (.cells (tbC tb v) 30)).alloc (.cells fvA 35)).heap[w.heap.size + 1]? = some (.cells fvA 35)) := ⟨hV0,hG0⟩
 clear h hw hZ hb1 hV0 hG0
 unfold tbC at *
 unfold fvA at HT HV0 HB0
 go_enter Tryz.func8,Tryz.ntmps8
 go_wp2
 generalize ((w.alloc (.cells #[I tb.uses,I tb.modes, .slice v.t.a v.t.n v.t.c, .slice v.g.a v.g.n v.g.c, .slice v.r.a v.r.n v.r.c, .slice v.k.a v.k.n v.k.c, .slice v.a.a v.a.n v.a.c, .slice v.i.a v.i.n v.i.c, .slice v.s.a v.s.n v.s.c,I tb.depth,I tb.frames,I tb.errors,I tb.calls] 30)).alloc (.cells #[.func (.func 17) #[] #[], .func (.func 18) #[] #[], .func (.func 19) #[] #[], .func (.func 20) #[] #[], .func (.func 21) #[] #[], .func (.func 22) #[] #[], .func (.func 23) #[] #[], .func (.func 24) #[] #[], .func (.func 25) #[] #[]] 35)) = W0 at *
 go_loopw [4,7] (fun _ iv wr => ∃ j : Nat,j ≤ 9 ∧ iv = .int .i64 j ∧ Hid (((chL tb).take j).all id = true ∧ Below W0.heap.size W0 wr)) (fun _ iv _ => 9 - (intOf iv).toNat)
 case atStart => exact ⟨0,by omega,rfl,by simp,Below.refl _ _⟩
 case round =>
  obtain ⟨j,hj,rfl,HJ⟩ := hrel
  by_cases hlt : j < 9
  ·have hlt' : (j : Int) < 9 := by omega
   obtain ⟨f,hf⟩ : ∃ f,fnL[j]? = some f := ⟨_,List.getElem?_eq_getElem (by exact hlt)⟩
   obtain ⟨b,hbx⟩ : ∃ b,(chL tb)[j]? = some b := ⟨_,List.getElem?_eq_getElem (by exact hlt)⟩
   have eg := qoq j f hf
   have hV : wr.heap[w.heap.size]? = some (.cells #[I tb.uses,I tb.modes, .slice v.t.a v.t.n v.t.c, .slice v.g.a v.g.n v.g.c, .slice v.r.a v.r.n v.r.c, .slice v.k.a v.k.n v.k.c, .slice v.a.a v.a.n v.a.c, .slice v.i.a v.i.n v.i.c, .slice v.s.a v.s.n v.s.c,I tb.depth,I tb.frames,I tb.errors,I tb.calls] 30) := (HJ.out.2.block _ (qa1 HV0.out.1)).trans HV0.out.1
   have hG := (HJ.out.2.block _ (qa1 HV0.out.2)).trans HV0.out.2
   have hc := HFV.out wr (by unfold fvA; exact hG) j f hf
   have cx := HC.out wr j f b (HT.out.below HJ.out.2) hf hbx HJ.out.1
   have HTT : Hid (b = false → Z = 90) := fun ht => by rw [HZ.out, ← qn5,qbw (p := id) hbx ht]; rfl
   have HA : Hid (b = true → ((chL tb).take (j + 1)).all id = true) := fun ht => by rw [qce _ _ j _ hbx,HJ.out.1,ht]; rfl
   have HBW : Hid (Below W0.heap.size W0 wr) := HJ.out.2
   clear hbx HJ hf hG
   cases b with
   | false =>
    have HE : Hid (Z = 90) := HTT.out rfl
    clear HTT HA
    go_wp2_with (first | (refine wpList_load_row rfl 30 _ rfl w.heap.size rfl 30 _ (0,0) _ hV Tryz.underlying30 rfl hi30 ?_))
    refine cx.mono ?_
    clear cx
    rintro e7 w7 ⟨rfl,hb7⟩
    have HB7 : Hid (Below W0.heap.size W0 w7) := HBW.out.trans (hb7.mono HBW.out.size)
    clear hb7 hV hc eg
    go_wp2
    go_ret
    exact ⟨by rw [HE.out]; rfl,HB0.out.trans (HB7.out.mono HB0.out.size)⟩
   | true =>
    have HA2 : Hid (((chL tb).take (j + 1)).all id = true) := HA.out rfl
    clear HTT HA
    go_wp2_with (first | (refine wpList_load_row rfl 30 _ rfl w.heap.size rfl 30 _ (0,0) _ hV Tryz.underlying30 rfl hi30 ?_))
    refine cx.mono ?_
    clear cx
    rintro e7 w7 ⟨rfl,hb7⟩
    have HB7 : Hid (Below W0.heap.size W0 w7) := HBW.out.trans (hb7.mono HBW.out.size)
    clear hb7 hV hc eg
    go_wp2
    go_roundw
    case rel => exact ⟨j + 1,by omega,by go_num,HA2.out,HB7.out⟩
    case measure => simp [intOf]; omega
  ·obtain rfl : j = 9 := by omega
   have HE : Hid (Z = 0) := by
    show _ = _
    have := HJ.out.1
    rw [List.take_of_length_le (by exact Nat.le_refl 9),qn5] at this
    rw [HZ.out,this]
    rfl
   have HB : Hid (Below w.heap.size w wr) := HB0.out.trans (HJ.out.2.mono HB0.out.size)
   clear HJ
   go_wp2
   go_ret
   exact ⟨by rw [HE.out]; rfl,HB.out⟩
end Go.Proofs.YtmidaeljeoifdaaGreatDoor
namespace Go.Proofs.YtmidaeljeoifdaaGreatDoor
open Go.Maps Go.RowKit Go.Shelf Go.Sort
set_option linter.unusedSimpArgs false
set_option linter.unusedVariables false
set_option maxHeartbeats 16000000
set_option maxRecDepth 100000
theorem qg5 {P : Program} {ops : Array Oper} {rest : List Oper} {o : Oper} {a : Act} {w : World} {Q : Exit → Act → World → Prop} (hgd : Region.wanted o (yielded ops a.tmps) = true) (ty : TypeId) (x : Operand) (ho : o.op = .load ty x)
  (g : Nat) (hx : a.eval x = .pointer (some ⟨g,0,none⟩)) (t : TypeId) (cs : Array Value) (fr : Nat × Nat) (d : TypeDesc) (hg : w.heap[g]? = some (.cells cs t fr))
  (hu : P.underlying ty = some d) (hd : (match d with | .struct _ | .array _ _ => true | _ => false) = true) (hi : (P.info? ty).map (·.size) = some cs.size)
  (h : wpList P ops Q rest (a.put o.dst (.agg cs)) w) : wpList P ops Q (o :: rest) a w :=
 BigFrame.wpList_want hgd fun _ hK => wp_load_row ty x ho g hx t cs fr d hg hu hd hi (hK _ _ h)
abbrev qwb : Tb := tbS (tkS 116) 0 1 2 4 2 0
theorem qwc : chkP tbK = true := by decide +kernel
theorem qvv : chkP qwb = false := by decide +kernel
theorem wfKg (d f e c : Int) : WfT (tbS (tkS 116) 0 1 d f e c) := by
 refine ⟨fun x hx => ?_,(fun x hx => by cases hx),(fun x hx => by cases hx),(fun x hx => by cases hx)⟩
 have e1 : x = trow (tkS 116) := by simpa [tbS] using hx
 subst e1
 exact ⟨by decide,by decide⟩
theorem qwd : IntKind.i64.wrap (capN [trow (tkS 116)] (tkS 116).prio) = 1 := by decide +kernel
theorem qmq (w : World) (hE : EnvE w) : Calls Tryz.prog 10 #[] w fun e w' => e = .returned (.bool true) ∧ Below w.heap.size w w' := by
 have kS := qpa w
 have HM : Hid (∀ (W : World) (bm g : Nat),Below w.heap.size w W → W.heap[bm]? = some (.cells #[S [109]] 9 (0,0)) → W.heap[g]? = some (.cells (tkC 116).toArray 58 (0,0)) → Calls Tryz.prog 11 #[.agg (cfC cS0 (vS0 bm g))] W fun e w' => (∃ v : Ts,e = .returned (.tuple #[.agg (tbC tbK v),I 0]) ∧ SO W.heap.size w' (tkS 116) v) ∧ Below W.heap.size W w') := fun W bm g hW h1 h2 => qmo W bm g (qrn h1 h2 [116] (by decide) (by unfold maxLen; decide) rfl) (hE.below hW)
 clear hE
 go_enter Tryz.func10,Tryz.ntmps10
 go_wp2_with (first | fail)
 refine kS.mono ?_
 clear kS
 rintro e w1 ⟨bm,g,rfl,b1,_,hm1,ht1⟩
 have kM := HM.out w1 bm g b1 hm1 ht1
 clear hm1 ht1 HM
 generalize cfC cS0 (vS0 bm g) = C at *
 go_wp2_with (first | fail)
 refine kM.mono ?_
 clear kM
 rintro e w2 ⟨⟨v,rfl,so⟩,b2⟩
 obtain ⟨at_,ct,ag,cg,ar,cr,ak,ck,aa,ca,ai,ci,am,cm2,rfl,h6,hG⟩ := so
 have so : SO w1.heap.size w2 (tkS 116) ⟨⟨at_,1,ct⟩,⟨ag,1,cg⟩,⟨ar,0,cr⟩,⟨ak,0,ck⟩,⟨aa,0,ca⟩,⟨ai,0,ci⟩,⟨am,0,cm2⟩⟩ := ⟨at_,ct,ag,cg,ar,cr,ak,ck,aa,ca,ai,ci,am,cm2,rfl,h6,hG⟩
 have b3 := qa0 w2 (.cells #[I 0,I 1, .slice at_ 1 ct, .slice ag 1 cg, .slice ar 0 cr, .slice ak 0 ck, .slice aa 0 ca, .slice ai 0 ci, .slice am 0 cm2,I 1,I 4,I 2,I 0] 30)
 have hT3 := heap_alloc_new w2 (.cells #[I 0,I 1, .slice at_ 1 ct, .slice ag 1 cg, .slice ar 0 cr, .slice ak 0 ck, .slice aa 0 ca, .slice ai 0 ci, .slice am 0 cm2,I 1,I 4,I 2,I 0] 30)
 have H3 : Hid (SO w1.heap.size (w2.alloc (.cells #[I 0,I 1, .slice at_ 1 ct, .slice ag 1 cg, .slice ar 0 cr, .slice ak 0 ck, .slice aa 0 ca, .slice ai 0 ci, .slice am 0 cm2,I 1,I 4,I 2,I 0] 30)) (tkS 116) ⟨⟨at_,1,ct⟩,⟨ag,1,cg⟩,⟨ar,0,cr⟩,⟨ak,0,ck⟩,⟨aa,0,ca⟩,⟨ai,0,ci⟩,⟨am,0,cm2⟩⟩) := so.below b3
 have HB3 : Hid (Below w.heap.size w (w2.alloc (.cells #[I 0,I 1, .slice at_ 1 ct, .slice ag 1 cg, .slice ar 0 cr, .slice ak 0 ck, .slice aa 0 ca, .slice ai 0 ci, .slice am 0 cm2,I 1,I 4,I 2,I 0] 30))) := by
  have q := b1.trans (b2.mono b1.size)
  exact q.trans (b3.mono q.size)
 have HX : Hid (w.heap.size ≤ w2.heap.size) := (b1.trans (b2.mono b1.size)).size
 have hR := (RO.rows (l := [_]) (RG.below hG b3) (P := rgrP) (fun _ _ _ h => h)).row 0 _ rfl
 obtain ⟨gg,oo,eg,hgl,hrr⟩ := hR
 obtain ⟨u0,r0,f0⟩ := hrr 0 (by omega)
 obtain ⟨u1,r1,f1⟩ := hrr 1 (by omega)
 have f0' : u0 = I 1 := f0
 have f1' : u1 = I 1 := by have q : u1 = I (IntKind.i64.wrap (capN [trow (tkS 116)] (tkS 116).prio)) := f1; rw [qwd] at q; exact q
 subst f0' f1'
 dsimp only at eg
 subst eg
 simp only [Nat.zero_mul,Nat.add_zero] at r0 r1
 have KC : Hid (∀ (W : World) (d : Int),SO w1.heap.size W (tkS 116) ⟨⟨at_,1,ct⟩,⟨some ⟨gg,oo,none⟩,1,cg⟩,⟨ar,0,cr⟩,⟨ak,0,ck⟩,⟨aa,0,ca⟩,⟨ai,0,ci⟩,⟨am,0,cm2⟩⟩ → Calls Tryz.prog 8 #[.agg #[I 0,I 1, .slice at_ 1 ct, .slice (some ⟨gg,oo,none⟩) 1 cg, .slice ar 0 cr, .slice ak 0 ck, .slice aa 0 ca, .slice ai 0 ci, .slice am 0 cm2,I d,I 4,I 2,I 0]] W fun e w' => e = .returned (I (if chkP (tbS (tkS 116) 0 1 d 4 2 0) then 0 else 90)) ∧ Below W.heap.size W w') := fun W d hs => qr2 (tbS (tkS 116) 0 1 d 4 2 0) ⟨⟨at_,1,ct⟩,⟨some ⟨gg,oo,none⟩,1,cg⟩,⟨ar,0,cr⟩,⟨ak,0,ck⟩,⟨aa,0,ca⟩,⟨ai,0,ci⟩,⟨am,0,cm2⟩⟩ W (hs.at9 0 1 d 4 2 0) (wfKg d 4 2 0)
 clear f0 f1 hrr hgl so h6 hG b1 b2 b3
 have hiT : (Tryz.prog.info? 30).map (·.size) = some (#[I 0,I 1, .slice at_ 1 ct, .slice (some ⟨gg,oo,none⟩) 1 cg, .slice ar 0 cr, .slice ak 0 ck, .slice aa 0 ca, .slice ai 0 ci, .slice am 0 cm2,I 1,I 4,I 2,I 0] : Array Value).size := by kernel_rfl
 have hz13 := heap_alloc_new w2 (.cells zT13 30)
 have hst : (w2.alloc (.cells zT13 30)).setRow w2.heap.size #[I 0,I 1, .slice at_ 1 ct, .slice (some ⟨gg,oo,none⟩) 1 cg, .slice ar 0 cr, .slice ak 0 ck, .slice aa 0 ca, .slice ai 0 ci, .slice am 0 cm2,I 1,I 4,I 2,I 0] = w2.alloc (.cells #[I 0,I 1, .slice at_ 1 ct, .slice (some ⟨gg,oo,none⟩) 1 cg, .slice ar 0 cr, .slice ak 0 ck, .slice aa 0 ca, .slice ai 0 ci, .slice am 0 cm2,I 1,I 4,I 2,I 0] 30) := World.setRow_alloc_new _ _ _ _
 have h1c : (#[I 0,I 1, .slice at_ 1 ct, .slice (some ⟨gg,oo,none⟩) 1 cg, .slice ar 0 cr, .slice ak 0 ck, .slice aa 0 ca, .slice ai 0 ci, .slice am 0 cm2,I 1,I 4,I 2,I 0] : Array Value).all (·.oneCell') = true := by simp [Value.oneCell']
 have hsz : zT13.size = (#[I 0,I 1, .slice at_ 1 ct, .slice (some ⟨gg,oo,none⟩) 1 cg, .slice ar 0 cr, .slice ak 0 ck, .slice aa 0 ca, .slice ai 0 ci, .slice am 0 cm2,I 1,I 4,I 2,I 0] : Array Value).size := rfl
 obtain ⟨TB,hTB⟩ : ∃ TB : Array Value,TB = #[I 0,I 1, .slice at_ 1 ct, .slice (some ⟨gg,oo,none⟩) 1 cg, .slice ar 0 cr, .slice ak 0 ck, .slice aa 0 ca, .slice ai 0 ci, .slice am 0 cm2,I 1,I 4,I 2,I 0] := ⟨_,rfl⟩
 rw [← hTB] at hiT hst h1c hsz
 have hgo : (tbC tbK ⟨⟨at_,1,ct⟩,⟨some ⟨gg,oo,none⟩,1,cg⟩,⟨ar,0,cr⟩,⟨ak,0,ck⟩,⟨aa,0,ca⟩,⟨ai,0,ci⟩,⟨am,0,cm2⟩⟩) = TB := hTB.symm
 rw [hgo]
 clear hgo
 unfold zT13 at hz13 hst hsz
 go_upto_region 2 with (first | (with_reducible refine qa8 ?_; refine wpList_store_row rfl 30 _ _ rfl w2.heap.size _ rfl rfl 30 _ hz13 hiT hsz h1c ?_; rw [hst]))
 clear hz13 hst h1c hsz hiT
 (try rw [hTB])
 clear hTB
 generalize (w2.alloc (.cells #[I 0,I 1, .slice at_ 1 ct, .slice (some ⟨gg,oo,none⟩) 1 cg, .slice ar 0 cr, .slice ak 0 ck, .slice aa 0 ca, .slice ai 0 ci, .slice am 0 cm2,I 1,I 4,I 2,I 0] 30)) = w3 at *
 generalize w2.heap.size = X at *
 have z2 := cell_of_row w3 X 2 _ _ (0,0) hT3
 have z3 := cell_of_row w3 X 3 _ _ (0,0) hT3
 have z9 := cell_of_row w3 X 9 _ _ (0,0) hT3
 have z10 := cell_of_row w3 X 10 _ _ (0,0) hT3
 have z11 := cell_of_row w3 X 11 _ _ (0,0) hT3
 simp at z2 z3 z9 z10 z11
 have kC := KC.out w3 1 H3.out
 rw [show chkP (tbS (tkS 116) 0 1 1 4 2 0) = true from qwc] at kC
 have hi13 : (Tryz.prog.info? 30).map (·.size) = some (#[I 0,I 1, .slice at_ 1 ct, .slice (some ⟨gg,oo,none⟩) 1 cg, .slice ar 0 cr, .slice ak 0 ck, .slice aa 0 ca, .slice ai 0 ci, .slice am 0 cm2,I 1,I 4,I 2,I 0] : Array Value).size := by kernel_rfl
 go_upto_region 5 with (first | (with_reducible refine qa8 ?_; refine wpList_load_row rfl 30 _ rfl X rfl 30 _ (0,0) _ hT3 Tryz.underlying30 rfl hi13 ?_) | (go_at_call 8; refine kC.mono ?_; clear kC; rintro e w4 ⟨rfl,b4⟩))
 have hT4 := (b4.block _ (qa1 hT3)).trans hT3
 have y9 := cell_of_row w4 X 9 _ _ (0,0) hT4
 have fz := frozen_of_row w4 X 9 _ _ hT4
 simp at y9
 have g5 := qac w4 X 9 (I 2)
 have hT5 := heap_setCell_same w4 X 9 _ _ (I 2) hT4
 have hb4 : Below w.heap.size w w4 := HB3.out.trans (b4.mono HB3.out.size)
 have HB5 : Hid (Below w.heap.size w (w4.setCell ⟨X,9,none⟩ (I 2))) := hb4.grown g5 hb4.size (fun k e => by cases e; exact HX.out)
 have so5 : SO w1.heap.size (w4.setCell ⟨X,9,none⟩ (I 2)) (tkS 116) ⟨⟨at_,1,ct⟩,⟨some ⟨gg,oo,none⟩,1,cg⟩,⟨ar,0,cr⟩,⟨ak,0,ck⟩,⟨aa,0,ca⟩,⟨ai,0,ci⟩,⟨am,0,cm2⟩⟩ := (H3.out.below b4).store hT4 g5
 have kC := KC.out _ 2 so5
 rw [show chkP (tbS (tkS 116) 0 1 2 4 2 0) = false from qvv] at kC
 clear so5 g5 hT3 hT4 b4 z2 z3 z9 z10 z11 hi13 hb4 r0 r1
 go_upto_region 6 with fail
 generalize w4.setCell ⟨X,9,none⟩ (I 2) = w5 at *
 clear y9 fz
 have hT6 : w5.heap[X]? = some (.cells #[I 0,I 1, .slice at_ 1 ct, .slice (some ⟨gg,oo,none⟩) 1 cg, .slice ar 0 cr, .slice ak 0 ck, .slice aa 0 ca, .slice ai 0 ci, .slice am 0 cm2,I 2,I 4,I 2,I 0] 30 (0,0)) := hT5
 clear hT5
 have hi13 : (Tryz.prog.info? 30).map (·.size) = some (#[I 0,I 1, .slice at_ 1 ct, .slice (some ⟨gg,oo,none⟩) 1 cg, .slice ar 0 cr, .slice ak 0 ck, .slice aa 0 ca, .slice ai 0 ci, .slice am 0 cm2,I 2,I 4,I 2,I 0] : Array Value).size := by kernel_rfl
 go_wp2_with (first | (with_reducible refine qa8 ?_; refine qg5 (by kernel_rfl) 30 _ rfl X rfl 30 _ (0,0) _ hT6 Tryz.underlying30 rfl hi13 ?_))
 refine kC.mono ?_
 clear kC
 rintro e w6 ⟨rfl,b6⟩
 go_wp2
 go_ret
 exact ⟨rfl,HB5.out.trans (b6.mono HB5.out.size)⟩
theorem qt6 (w : World) (c : Cf) (v : Vs)
  (kM : ∀ W,Below w.heap.size w W → Calls Tryz.prog 11 #[.agg (cfC c v)] W fun e w' => e = .returned (.tuple #[.agg zTb,I 90]) ∧ Below W.heap.size W w')
  (kY : ∀ W,Below w.heap.size w W → Calls Tryz.prog 12 #[.agg (cfC c v)] W fun e w' => e = .returned (.bool false) ∧ Below W.heap.size W w')
  (kH : ∀ W,Below w.heap.size w W → Calls Tryz.prog 10 #[] W fun e w' => e = .returned (.bool true) ∧ Below W.heap.size W w') : Calls Tryz.prog 4 #[.agg (cfC c v)] w fun e w' => e = .returned (.bool true) ∧ Below w.heap.size w w' := by
 have hb := qa0 w (.cells (cfC c v) 47)
 have hV := heap_alloc_new w (.cells (cfC c v) 47)
 have hi18 : (Tryz.prog.info? 47).map (·.size) = some (cfC c v).size := by rw [show (cfC c v).size = 18 from rfl]; kernel_rfl
 have HKY : Hid _ := kY
 have HKH : Hid _ := kH
 have kM1 := kM _ hb
 have HVB : Hid _ := hb
 clear kM kY kH
 generalize hCC : cfC c v = C at *
 clear hCC
 go_enter Tryz.func4,Tryz.ntmps4
 go_upto_region 1 with fail
 have hv0 := hV
 generalize (w.alloc (.cells C 47)) = W1 at *
 go_upto_region 2 with (first
  | (with_reducible refine qa8 ?_; refine wpList_load_row rfl 47 _ rfl w.heap.size rfl 47 _ (0,0) _ hv0 Tryz.underlying47 rfl hi18 ?_)
  | (go_at_call 11; refine kM1.mono ?_; clear kM1; rintro e w1 ⟨rfl,b1⟩; have hz := heap_alloc_new w1 (.cells zTb 30); have hiT : (Tryz.prog.info? 30).map (·.size) = some zTb.size := (by rw [show zTb.size = 13 from rfl]; kernel_rfl); have h1c : zTb.all (·.oneCell') = true := (by simp [zTb,Value.oneCell']); have hsz : zTb.size = zTb.size := rfl; have HZ : Hid (zTb.size = 13) := rfl; unfold zTb at hz hsz)
  | (with_reducible refine qa8 ?_; refine wpList_store_row rfl 30 _ _ rfl w1.heap.size _ rfl rfl 30 _ hz hiT (by kernel_rfl) h1c ?_))
 have B2 : Below W1.heap.size W1 ((w1.alloc (.cells #[I 0,I 0, .slice none 0 0, .slice none 0 0, .slice none 0 0, .slice none 0 0, .slice none 0 0, .slice none 0 0, .slice none 0 0,I 0,I 0,I 0,I 0] 30)).setRow w1.heap.size zTb) := by
  have g2 : (w1.alloc (.cells #[I 0,I 0, .slice none 0 0, .slice none 0 0, .slice none 0 0, .slice none 0 0, .slice none 0 0, .slice none 0 0, .slice none 0 0,I 0,I 0,I 0,I 0] 30)).grownBy ((w1.alloc (.cells #[I 0,I 0, .slice none 0 0, .slice none 0 0, .slice none 0 0, .slice none 0 0, .slice none 0 0, .slice none 0 0, .slice none 0 0,I 0,I 0,I 0,I 0] 30)).setRow w1.heap.size zTb) (some w1.heap.size) := Ce.grown_row _ _ _
  have b2 := qa0 w1 (.cells #[I 0,I 0, .slice none 0 0, .slice none 0 0, .slice none 0 0, .slice none 0 0, .slice none 0 0, .slice none 0 0, .slice none 0 0,I 0,I 0,I 0,I 0] 30)
  have b3 := b1.trans (b2.mono b1.size)
  exact b3.grown g2 b3.size (fun k e => by cases e; exact b1.size)
 clear hz hiT h1c hsz HZ b1
 generalize (w1.alloc (.cells #[I 0,I 0, .slice none 0 0, .slice none 0 0, .slice none 0 0, .slice none 0 0, .slice none 0 0, .slice none 0 0, .slice none 0 0,I 0,I 0,I 0,I 0] 30)).setRow w1.heap.size zTb = W2 at *
 generalize w1.heap.size = T at *
 have hv2 := (B2.block _ (qa1 hV)).trans hV
 have BW2 : Hid (Below w.heap.size w W2) := HVB.out.trans (B2.mono HVB.out.size)
 have kY2 := HKY.out W2 BW2.out
 clear hV hv0 B2
 go_upto_region 3 with (first
  | (with_reducible refine qa8 ?_; refine wpList_load_row rfl 47 _ rfl w.heap.size rfl 47 _ (0,0) _ hv2 Tryz.underlying47 rfl hi18 ?_)
  | (go_at_call 12; refine kY2.mono ?_; clear kY2; rintro e w3 ⟨rfl,b3⟩))
 have BW3 : Hid (Below w.heap.size w w3) := BW2.out.trans (b3.mono BW2.out.size)
 have kH3 := HKH.out w3 BW3.out
 clear b3 hv2
 go_wp2_with (first | (go_at_call 10; refine kH3.mono ?_; clear kH3; rintro e w7 ⟨rfl,b7⟩))
 go_ret
 exact ⟨rfl,BW3.out.trans (b7.mono BW3.out.size)⟩
theorem qt7 (w : World) (c : Cf) (v : Vs) (h : CfAt w c v) (hl : LensOK c) (hm : ∀ x ∈ c.evs,x.mask < 4294967296) (hz : NamesOK c) (hE : EnvE w) : Calls Tryz.prog 4 #[.agg (cfC c v)] w fun e w' => e = .returned (.bool true) ∧ Below w.heap.size w w' := by
 have kH : ∀ W,Below w.heap.size w W → Calls Tryz.prog 10 #[] W fun e w' => e = .returned (.bool true) ∧ Below W.heap.size W w' := fun W hW => qmq W (hE.below hW)
 cases ha : allF c with
 | none =>
  exact qt3 w c v h ha (fun W hW => qlp W c v (h.below hW) hl (hE.below hW) hm ha) (fun W hW => by
   have := qkp W c v (h.below hW) hl hz
   rw [ha] at this
   exact this) kH
 | some t =>
  obtain ⟨k,wd,i⟩ := t
  exact qt6 w c v (fun W hW => qsy W c v (h.below hW) hl (hE.below hW) k wd i ha (qif ha)) (fun W hW => by
   have := qkp W c v (h.below hW) hl hz
   rw [ha] at this
   exact this) kH
end Go.Proofs.YtmidaeljeoifdaaGreatDoor
namespace Go.Proofs.YtmidaeljeoifdaaGreatDoor
open Go.ChangeShapes Go.RowKit Go.WideShapes
set_option linter.unusedSimpArgs false
set_option linter.unusedVariables false
set_option maxHeartbeats 16000000
set_option maxRecDepth 100000
abbrev laidT : List (String × DataW Unit) := Rows.tableChecksRow.laid
theorem qvw : ((List.range Tryz.prog.types.size).filter fun t => Tryz.prog.rowNamed t [101,114,114,111,114]) = [149] := by kernel_rfl
theorem qwe {W : World} (h : laidMetH Tryz.prog laidT W) : W.cell? ⟨0,0,none⟩ = some (.iface 265 (.agg #[.pointer (some ⟨1,149,none⟩)])) := by
 have h1 := h.filter (fun x => x.1 == "errors.errorType")
 have e : (laidT.filter fun x => x.1 == "errors.errorType") = [("errors.errorType", Rows.laid_errors_errorType)] := by rfl
 rw [e] at h1
 have h' : laidMet Tryz.prog [] W ∧ handlesMet Tryz.prog [("errors.errorType", Rows.laid_errors_errorType)] W := h1
 obtain ⟨name,u,ty,e1,e2,e3,e4,e5⟩ := h'.2 _ (List.mem_singleton.2 rfl)
 have en : name = [101,114,114,111,114] := (Option.some.inj e1).symm
 subst en
 obtain rfl := Option.some.inj ((show (Tryz.prog.cutTypes.find? (·.1 == "internal/reflectlite.rtype")).map (·.2) = some 265 by kernel_rfl).symm.trans e2)
 have hm : ty ∈ (List.range Tryz.prog.types.size).filter fun t => Tryz.prog.rowNamed t [101,114,114,111,114] := List.mem_filter.2 ⟨List.mem_range.2 e3,e4⟩
 rw [qvw] at hm
 obtain rfl := List.mem_singleton.1 hm
 have hh : typeHandle Tryz.prog 149 = .pointer (some ⟨1,149,none⟩) := by kernel_rfl
 rw [hh] at e5
 simpa using World.var?_cell (show Tryz.prog.globalNamed "errors.errorType" = some 0 by kernel_rfl) e5 0
theorem own : ownKnob Tryz.prog.godebug = none := by kernel_rfl
noncomputable def witH (os : Os) : World :=
 let w0 := World.holding Tryz.prog os ⟨#[],#[], []⟩
 { w0 with heap := w0.heap.modify 0 fun
   | .cells _ t frozen => .cells #[.iface 265 (.agg #[.pointer (some ⟨1,149,none⟩)])] t frozen
   | o => o }
abbrev laidP : List (String × DataW Unit) := laidT.filter fun x => x.2.handleName?.isNone
noncomputable def witW (os : Os) : World := (witH os).layVars Tryz.prog laidP
theorem quv (os : Os) : (witW os).os = os := World.layVars_os _ _ _
theorem qr3 (os : Os) : laidMet Tryz.prog laidP (witW os) := by
 have e1 : (laidP.filter fun x => (laidP.map (·.1)).contains x.1) = laidP := List.filter_eq_self.2 fun x hx => List.contains_iff_mem.2 (List.mem_map.2 ⟨x,hx,rfl⟩)
 have e2 : (laidP.filter fun x => !(laidP.map (·.1)).contains x.1) = [] := List.filter_eq_nil_iff.2 fun x hx => by rw [List.contains_iff_mem.2 (List.mem_map.2 ⟨x,hx,rfl⟩)]; simp
 exact laidMet_layVars (w0 := witH os) (laidP.map (·.1)) [] (by rw [e1]; rfl) (by rw [e1]; kernel_rfl) (by rw [e1]; kernel_rfl) (by rw [e2]; exact LaidIn.none)
theorem qwf (os : Os) : laidMetH Tryz.prog laidT (witW os) := laidMetH_of_parts (qr3 os) (by kernel_rfl)
theorem quw (os : Os) (args : Array Value) : laidMetH Tryz.prog laidT ((witW os).forCall (fun _ _ => 0) ⟨#[],args, []⟩).memory :=
 (qwf os).of_heap (by simp [World.memory,World.forCall,Input.heap])
theorem qor (os : Os) (args : Array Value) : ((witW os).forCall (fun _ _ => 0) ⟨#[],args, []⟩).Shaped Tryz.checked.prog := World.shaped_of_ZipB (by kernel_rfl) (by kernel_rfl)
theorem qr4 {H : Type} {enc : TypeId × Value → H} {C : Checked} {os : Os} {f : FuncId} {fn : Func} {s : ChangeSpec} {X : World → Prop} (hX : ∀ w w' : World,w.heap = w'.heap → X w → X w')
  (hown : ownKnob C.prog.godebug = none) (started : os.Started) (hi : C.prog.inits.idxOf? f = none) (hf : C.prog.funcs[f]? = some fn)
  (wit : ∃ (w : World) (tape : Tape) (i : Input),w.os = os ∧ (w.forCall tape i).Shaped C.prog ∧ i.vars = [] ∧ Input.okWide C.prog (w.forCall tape i) .any w.heap.size f i ∧
   ((s.pre enc C.prog fn [] false (w.forCall tape i).memory i.args ∧ X (w.forCall tape i).memory) ∧ sizedMet enc C.prog fn (OpenSpec.ofChange s) false (w.forCall tape i).memory i.args) ∧ ({} : Assume).holds C.prog (lone (Frame.enter C.prog f i.args .normal) [] (w.forCall tape i)))
  (con : ∀ (W : World) (base : Nat) (args : Array Value) (ds gs : List (DataW H)) (before : List MemPlace),
   (∀ (j : Nat) t v,fn.params[j]? = some t → args[j]? = some v → Value.okWide C.prog W .any base t v) →
   DataW.Whole enc C.prog fn.params.toList s.vars false W args.toList ds gs before →
   (DataW.weightsEach C.prog (fn.params.toList ++ s.plain.varTypes C.prog) (ds ++ gs)).all (· ≤ reachBytes) = true → X W → W.ShapedOpen C.prog →
   Calls C.prog f args W fun e W' => ∃ v,e = .returned v ∧ s.post enc C.prog fn false true false false W args v W') :
  ReturnsInHanded {} C os f .any (fun w args => (s.pre enc C.prog fn [] false w args ∧ X w) ∧ sizedMet enc C.prog fn (OpenSpec.ofChange s) false w args) (s.post enc C.prog fn false true false false) := by
 refine returnsInHanded_of_calls hown started hi wit ?_
 intro w tape i _ shape _ ok pre _
 obtain ⟨⟨⟨ds,gs,before,whole,_⟩,laid⟩,size⟩ := pre
 obtain ⟨_,_,_,fn1,h1,_,_,_,_,vals⟩ := ok
 cases Option.some.inj (h1.symm.trans hf)
 refine (con (w.forCall tape i) w.heap.size i.args ds gs before vals (DataW.Whole.of_heap (w' := w.forCall tape i) (by rfl) whole) (size.weights whole) (hX _ _ (by rfl) laid) shape).mono ?_
 rintro e W1 ⟨v,rfl,post⟩
 exact ChangeSpec.post_blind post
theorem qr5 : laidOutB Tryz.prog = true := by kernel_rfl
def qvx : Value := .agg #[.string ⟨#[]⟩, .string ⟨#[]⟩, .bool false, .bool false, .bool false, .bool false, .bool false, .bool false, .bool false, .bool false, .slice none 0 0, .slice none 0 0, .slice none 0 0, .slice none 0 0, .slice none 0 0, .slice none 0 0, .slice none 0 0, .slice none 0 0]
theorem qgw (os : Os) (started : os.Started) (H : Type) (enc : TypeId × Value → H) :
  ReturnsInHanded {} Tryz.checked os 4 .any (fun w args => (Rows.tableSumsSpec.pre enc Tryz.prog Tryz.f4 [] false w args ∧ laidMetH Tryz.prog laidT w) ∧ sizedMet enc Tryz.prog Tryz.f4 (OpenSpec.ofChange Rows.tableSumsSpec) false w args)
   (Rows.tableSumsSpec.post enc Tryz.prog Tryz.f4 false true false false) := by
 refine qr4 (C := Tryz.checked) (X := fun w => laidMetH Tryz.prog laidT w) (fun _ _ hh h => h.of_heap hh) own started (by kernel_rfl) Tryz.func4
  (ChangeSpec.witness_shaped (enc := enc) (C := Tryz.checked) (os := os) (X := fun w _ => laidMetH Tryz.prog laidT w) false (witW os) #[qvx] 8 (quv os) (qor os _) (by kernel_rfl) (by kernel_rfl) (by kernel_rfl) (quw os _)) ?_
 intro W base args ds gs before hval0 hW hsz0 hL hSh
 have hval : ∀ (j : Nat) t v,Tryz.f4.params[j]? = some t → args[j]? = some v → Value.okWide Tryz.prog W .any base t v := hval0
 have hW' := hW
 obtain ⟨p,q,hA0,hV,rfl,hfz,hnd⟩ := hW
 have hA : DataW.TrodAll enc Tryz.prog W 0 (fun _ => true) true Tryz.f4.params.toList args.toList ds p := hA0
 have hsz : (DataW.weightsEach Tryz.prog (Tryz.f4.params.toList ++ Rows.tableSumsSpec.plain.varTypes Tryz.prog) (ds ++ gs)).all (· ≤ reachBytes) = true := hsz0
 rw [Tryz.params4] at hA hval hsz
 obtain ⟨v0,vs0,d0,ds0,p0,q0,hargs,rfl,rfl,h0,r0⟩ := trodAll_cons hA
 obtain ⟨rfl,rfl,rfl⟩ := trodAll_nil r0
 obtain rfl : args = #[v0] := by cases args; simp_all
 obtain ⟨rfl,rfl⟩ := trodVars_none hV
 have k0 := h0
 have lt0 : ∀ x ∈ p0,x.block < W.heap.size := by obtain ⟨m,hm⟩ := k0; exact DataW.trod_lt m _ _ _ hm
 have z0 : qef (d0.weights Tryz.prog 47) := fun n hn => qkd hsz n (DataW.weights_mem_each (j := 0) rfl rfl n hn)
 obtain ⟨c,vv,rfl,hC,hLn,hMk,hNm⟩ := qkg (hval 0 47 v0 rfl rfl) h0 z0
 clear hA0 hval0
 refine (qt7 W c vv hC hLn hMk hNm (qwe hL)).mono fun e W' ⟨he,bel⟩ => ?_
 subst he
 exact ⟨_,rfl,_,_,_, [],_, [],hW',trodAll_mk1 (shut_bool Tryz.underlying4 _),(trodAll_cons_mk (Below.trod qr5 (by kernel_rfl) (of_decide_eq_true (by kernel_rfl)) k0 bel lt0) trodAll_mk0),rfl,bel.frame _,fun h => by cases h⟩
theorem qt8 {a b : Bool} (h1 : a = true) (h2 : b = true) : (a && b) = true := by rw [h1,h2]; rfl
theorem qhs : joinedFacts Tryz.prog 4 Tryz.f4 Rows.tableSumsSpec Rows.tableSumsRow = true := by
 unfold joinedFacts
 repeat' (with_reducible refine qt8 ?_ ?_)
 all_goals (as_aux_lemma => kernel_rfl)
theorem qid : Rows.TableSumsSaid :=
 OpenClaim.holds_of_wide 4 Tryz.f4 rfl rfl rfl rfl rfl rfl rfl ⟨rfl,rfl,rfl,rfl,rfl⟩ rfl rfl rfl rfl rfl (by kernel_rfl) Tryz.func4 qhs
  (of_decide_eq_true (by kernel_rfl)) (by unfold Func.isWrapper; first | (rw [if_pos (by decide +kernel)]; kernel_rfl) | (rw [if_neg (by decide +kernel)]; exact ⟨rfl,rfl⟩))
  (fun os started H enc _ => qgw os started H enc)
end Go.Proofs.YtmidaeljeoifdaaGreatDoor
namespace Go.Proofs.YtmidaeljeoifdaaGreatDoor
set_option linter.unusedSimpArgs false
set_option linter.unusedVariables false
set_option maxHeartbeats 16000000
set_option maxRecDepth 100000
theorem tableSums_holds : Rows.TableSumsCardSaid :=
 Claim7.holds_tied_plain_at .later [] [.handle] true _ true
  qid (fun _ h => by cases h) (by kernel_rfl) (fun _ h => by cases h) tableSums_row_tie rfl ⟨rfl,rfl⟩ (by kernel_rfl) rfl
  (fun f fn hf hfn => by
   obtain rfl : f = 4 := Option.some.inj ((show Tryz.prog.funcNamed "tappet/tappetlaw09.TableSums" = some 4 by kernel_rfl).symm.trans hf) |>.symm
   obtain rfl : fn = Tryz.f4 := (Option.some.inj (Tryz.func4.symm.trans hfn)).symm
   exact ⟨by kernel_rfl,fun j t ht => by
    rw [Tryz.params4] at ht
    have hm : t ∈ [47] := by simpa using Array.mem_of_getElem? ht
    have hall : ([47].all fun u => !Tryz.prog.wantsStandIn u) = true := by kernel_rfl
    exact (show Tryz.prog.wantsStandIn t = false by simpa using List.all_eq_true.1 hall t hm)⟩)
  (by kernel_rfl)
end Go.Proofs.YtmidaeljeoifdaaGreatDoor
