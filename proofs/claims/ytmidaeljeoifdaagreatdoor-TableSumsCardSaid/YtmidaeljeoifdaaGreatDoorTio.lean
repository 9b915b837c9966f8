import Derived.Test.YtmidaeljeoifdaaGreatDoorXTcq
import Derived.Test.YtmidaeljeoifdaaGreatDoorXTid
import Derived.Test.YtmidaeljeoifdaaGreatDoorXTim
namespace Go.Proofs.YtmidaeljeoifdaaGreatDoor
open Go.Maps Go.RowKit Go.Shelf Go.Sort
set_option linter.unusedSimpArgs false
set_option linter.unusedVariables false
set_option maxHeartbeats 16000000
set_option maxRecDepth 100000
structure TaG (w w1 : World) (ts : List TkR) (pl : List Int) (rs : List RsR) (ks : List CtR) (als : List AlR) (is : List IsR) (ms : List MsR) (us : Int) (md : Nat) (al_ : Option Addr) (cl : Nat) (W : World) (T : Nat) (at_ : Option Addr) (ct : Nat) (ar : Option Addr) (cr : Nat) (ak : Option Addr) (ck : Nat) (aa : Option Addr) (ca : Nat) (ai : Option Addr) (ci : Nat) (am : Option Addr) (cm2 : Nat) : Prop where
 b : Below w.heap.size w W
 s : w.heap.size + 3 ≤ T
 h : W.heap[T]? = some (.cells #[I us,I md, .slice at_ ts.length ct, .slice none 0 0, .slice ar rs.length cr, .slice ak ks.length ck, .slice aa als.length ca, .slice ai is.length ci, .slice am ms.length cm2,I 0,I 0,I 0,I 0] 30 (0,0))
 six : Six w.heap.size W ts rs ks als is ms (.slice at_ ts.length ct) (.slice ar rs.length cr) (.slice ak ks.length ck) (.slice aa als.length ca) (.slice ai is.length ci) (.slice am ms.length cm2)
 l : W.ownsRow w.heap.size 3 1 (.slice al_ pl.length cl) pl.length (pl.map fun x => I x)
 r : W.heap[w.heap.size + 1 + 1]? = some (.cells #[I 0,I 0, .slice none 0 0, .slice none 0 0, .slice none 0 0, .slice none 0 0, .slice none 0 0, .slice none 0 0, .slice none 0 0,I 0,I 0,I 0,I 0] 30 (0,0))
theorem TaG.mk9 {w w1 W W' : World} {ts : List TkR} {pl : List Int} {rs : List RsR} {ks : List CtR} {als : List AlR} {is : List IsR} {ms : List MsR} {us : Int} {md : Nat} {al_ : Option Addr} {cl T : Nat} {at_ : Option Addr} {ct : Nat} {ar : Option Addr} {cr : Nat} {ak : Option Addr} {ck : Nat} {aa : Option Addr} {ca : Nat} {ai : Option Addr} {ci : Nat} {am : Option Addr} {cm2 : Nat} {cs : Array Value} {fr : Nat × Nat}
  (B : Below w1.heap.size w1 W) (H : Below w.heap.size w w1 ∧ w.heap.size + 3 ≤ w1.heap.size ∧ w1.ownsRow w.heap.size 3 1 (.slice al_ pl.length cl) pl.length (pl.map fun x => I x) ∧ w1.heap[w.heap.size + 1 + 1]? = some (.cells #[I 0,I 0, .slice none 0 0, .slice none 0 0, .slice none 0 0, .slice none 0 0, .slice none 0 0, .slice none 0 0, .slice none 0 0,I 0,I 0,I 0,I 0] 30 (0,0)))
  (hs : w1.heap.size ≤ T) (hT : W.heap[T]? = some (.cells cs 30 fr)) (h6 : Six w.heap.size W ts rs ks als is ms (.slice at_ ts.length ct) (.slice ar rs.length cr) (.slice ak ks.length ck) (.slice aa als.length ca) (.slice ai is.length ci) (.slice am ms.length cm2)) (g : W.grownBy W' (some T))
  (hT' : W'.heap[T]? = some (.cells #[I us,I md, .slice at_ ts.length ct, .slice none 0 0, .slice ar rs.length cr, .slice ak ks.length ck, .slice aa als.length ca, .slice ai is.length ci, .slice am ms.length cm2,I 0,I 0,I 0,I 0] 30 (0,0))) : TaG w w1 ts pl rs ks als is ms us md al_ cl W' T at_ ct ar cr ak ck aa ca ai ci am cm2 := by
 obtain ⟨h1,h2,h3,h4⟩ := H
 have hb := h1.trans (B.mono h1.size)
 have l4 := qa1 h4
 have h4' := (B.block _ l4).trans h4
 refine ⟨hb.grown g hb.size (fun k e => by cases e; have := h1.size; omega),by omega,hT',h6.store hT g, ?_, ?_⟩
 ·have h5 := qa6 h3 B
  have h7 : qa9 W w.heap.size pl (.slice al_ pl.length cl) := h5
  exact qcg h7 hT (by decide) g
 ·rw [qay g (qa1 h4') (fun e => by have := Option.some.inj e; omega)]
  exact h4'
theorem qoo (w : World) (b k g i : Nat) (v : Value) (h : g ≠ b) : (w.setCell ⟨b,k,none⟩ v).cell? ⟨g,i,none⟩ = w.cell? ⟨g,i,none⟩ :=
 World.cell?_of_block (heap_setCell_other w ⟨b,k,none⟩ g _ (fun e => h e))
theorem qcl {w : World} {R7 T : Nat} {zd zf ze zc : Int} (h : R7 ≠ T) (v : Value) (k : Nat) (hr : w.cell? ⟨R7,0,none⟩ = some (I zd) ∧ w.cell? ⟨R7,1,none⟩ = some (I zf) ∧ w.cell? ⟨R7,2,none⟩ = some (I ze) ∧ w.cell? ⟨R7,3,none⟩ = some (I zc)) : (w.setCell ⟨T,k,none⟩ v).cell? ⟨R7,0,none⟩ = some (I zd) ∧ (w.setCell ⟨T,k,none⟩ v).cell? ⟨R7,1,none⟩ = some (I zf) ∧ (w.setCell ⟨T,k,none⟩ v).cell? ⟨R7,2,none⟩ = some (I ze) ∧ (w.setCell ⟨T,k,none⟩ v).cell? ⟨R7,3,none⟩ = some (I zc) := by
 simp only [qoo _ _ _ _ _ _ h]
 exact hr
def rgF (ts : List TkR) (p : Int) : RgR := ⟨p,IntKind.i64.wrap (capN ts p)⟩
theorem qsu {B : Nat} {W : World} {ts : List TkR} {pl : List Int} {ag : Option Addr} {cg : Nat} (hg : RG B W (pl.map (rgF ts)) (.slice ag pl.length cg)) : RowsAt W 2 rgrP ⟨ag,pl.length,cg⟩ (pl.map (rgF ts)) := by
 have e : pl.length = (pl.map (rgF ts)).length := by simp
 rw [e] at hg ⊢
 exact RO.rows hg (fun _ _ _ h => h)
def tbG (us : Int) (md : Nat) (ts : List TkR) (pl : List Int) (rs : List RsR) (ks : List CtR) (als : List AlR) (is : List IsR) (ms : List MsR) (d f e c : Int) : Tb := ⟨us,md,ts,pl.map (rgF ts),rs,ks,als,is,ms,d,f,e,c⟩
theorem qqv {B : Nat} {W : World} {ts : List TkR} {pl : List Int} {rs : List RsR} {ks : List CtR} {als : List AlR} {is : List IsR} {ms : List MsR} {us : Int} {md : Nat} {d f e c : Int} {at_ : Option Addr} {ct : Nat} {ag : Option Addr} {cg : Nat} {ar : Option Addr} {cr : Nat} {ak : Option Addr} {ck : Nat} {aa : Option Addr} {ca : Nat} {ai : Option Addr} {ci : Nat} {am : Option Addr} {cm2 : Nat}
  (h : Six B W ts rs ks als is ms (.slice at_ ts.length ct) (.slice ar rs.length cr) (.slice ak ks.length ck) (.slice aa als.length ca) (.slice ai is.length ci) (.slice am ms.length cm2)) (hg : RG B W (pl.map (rgF ts)) (.slice ag pl.length cg)) : TbAt W (tbG us md ts pl rs ks als is ms d f e c) ⟨⟨at_,ts.length,ct⟩,⟨ag,pl.length,cg⟩,⟨ar,rs.length,cr⟩,⟨ak,ks.length,ck⟩,⟨aa,als.length,ca⟩,⟨ai,is.length,ci⟩,⟨am,ms.length,cm2⟩⟩ :=
 ⟨RO.rows (l := ts) h.t (fun _ _ _ h => qlb h),qsu hg,RO.rows (l := rs) h.r (fun _ _ _ h => h),RO.rows (l := ks) h.k (fun _ _ _ h => h),RO.rows (l := als) h.a (fun _ _ _ h => h),RO.rows (l := is) h.i (fun _ _ _ h => qqg h),RO.rows (l := ms) h.m (fun _ _ _ h => h)⟩
def SG (B : Nat) (W : World) (ts : List TkR) (pl : List Int) (rs : List RsR) (ks : List CtR) (als : List AlR) (is : List IsR) (ms : List MsR) (v : Ts) : Prop := ∃ (at_ : Option Addr) (ct : Nat) (ag : Option Addr) (cg : Nat) (ar : Option Addr) (cr : Nat) (ak : Option Addr) (ck : Nat) (aa : Option Addr) (ca : Nat) (ai : Option Addr) (ci : Nat) (am : Option Addr) (cm2 : Nat),v = ⟨⟨at_,ts.length,ct⟩,⟨ag,pl.length,cg⟩,⟨ar,rs.length,cr⟩,⟨ak,ks.length,ck⟩,⟨aa,als.length,ca⟩,⟨ai,is.length,ci⟩,⟨am,ms.length,cm2⟩⟩ ∧ Six B W ts rs ks als is ms (.slice at_ ts.length ct) (.slice ar rs.length cr) (.slice ak ks.length ck) (.slice aa als.length ca) (.slice ai is.length ci) (.slice am ms.length cm2) ∧ RG B W (pl.map (rgF ts)) (.slice ag pl.length cg)
theorem SG.at9 {B : Nat} {W : World} {ts : List TkR} {pl : List Int} {rs : List RsR} {ks : List CtR} {als : List AlR} {is : List IsR} {ms : List MsR} {v : Ts} (h : SG B W ts pl rs ks als is ms v) (us : Int) (md : Nat) (d f e c : Int) : TbAt W (tbG us md ts pl rs ks als is ms d f e c) v := by
 obtain ⟨at_,ct,ag,cg,ar,cr,ak,ck,aa,ca,ai,ci,am,cm2,rfl,h1,h2⟩ := h
 exact qqv h1 h2
theorem SG.below {B : Nat} {W W' : World} {ts : List TkR} {pl : List Int} {rs : List RsR} {ks : List CtR} {als : List AlR} {is : List IsR} {ms : List MsR} {v : Ts} (h : SG B W ts pl rs ks als is ms v) (hb : Below W.heap.size W W') : SG B W' ts pl rs ks als is ms v := by
 obtain ⟨at_,ct,ag,cg,ar,cr,ak,ck,aa,ca,ai,ci,am,cm2,rfl,h1,h2⟩ := h
 exact ⟨at_,ct,ag,cg,ar,cr,ak,ck,aa,ca,ai,ci,am,cm2,rfl,h1.below hb,RG.below h2 hb⟩
theorem SG.store {B : Nat} {W W' : World} {ts : List TkR} {pl : List Int} {rs : List RsR} {ks : List CtR} {als : List AlR} {is : List IsR} {ms : List MsR} {v : Ts} {g : Nat} {cs : Array Value} {fr : Nat × Nat} (h : SG B W ts pl rs ks als is ms v) (hg : W.heap[g]? = some (.cells cs 30 fr)) (hb : W.grownBy W' (some g)) : SG B W' ts pl rs ks als is ms v := by
 obtain ⟨at_,ct,ag,cg,ar,cr,ak,ck,aa,ca,ai,ci,am,cm2,rfl,h1,h2⟩ := h
 exact ⟨at_,ct,ag,cg,ar,cr,ak,ck,aa,ca,ai,ci,am,cm2,rfl,h1.store hg hb,RG.store h2 hg hb⟩
theorem qop (w : World) (C E : Array Value) (hC : C.size = 18) (hE : E.size = 5) (ts : List TkR) (pl : List Int) (rs : List RsR) (ks : List CtR) (als : List AlR) (is : List IsR) (ms : List MsR) (us : Int) (on : List UInt8) (o1 o2 o3 o4 o5 o6 o7 o8 : Bool) (amd : Option Addr) (md cmd : Nat) (s : Sl) (a14 : Option Addr) (n14 c14 : Nat) (a16 : Option Addr) (n16 c16 : Nat)
  (c1 : C[1]? = some (S on)) (c2 : C[2]? = some (.bool o1)) (c3 : C[3]? = some (.bool o2)) (c4 : C[4]? = some (.bool o3)) (c5 : C[5]? = some (.bool o4)) (c6 : C[6]? = some (.bool o5)) (c7 : C[7]? = some (.bool o6)) (c8 : C[8]? = some (.bool o7)) (c9 : C[9]? = some (.bool o8)) (c10 : C[10]? = some (.slice amd md cmd)) (c11 : C[11]? = some (.slice s.a s.n s.c)) (h14 : C[14]? = some (.slice a14 n14 c14)) (h16 : C[16]? = some (.slice a16 n16 c16))
  (k0 : ∀ W,Below w.heap.size w W → Calls Tryz.prog 83 #[.slice s.a s.n s.c] W fun e w' => (∃ a c,e = .returned (.slice a pl.length c) ∧ w'.ownsRow w.heap.size 3 1 (.slice a pl.length c) pl.length (pl.map fun x => I x)) ∧ Below W.heap.size W w')
  (k1 : ∀ W,Calls Tryz.prog 84 #[.agg #[S on, .bool o1, .bool o2, .bool o3, .bool o4, .bool o5, .bool o6, .bool o7, .bool o8]] W fun e w' => e = .returned (I us) ∧ Below W.heap.size W w')
  (k2' : ∀ W,Below w.heap.size w W → ∀ lv : Sl,RowsAt W 1 intP lv pl → Calls Tryz.prog 85 #[.agg C, .agg E, .slice lv.a lv.n lv.c] W fun e w' => (∃ a c,e = .returned (.slice a ts.length c) ∧ RT w.heap.size w' ts (.slice a ts.length c)) ∧ Below W.heap.size W w')
  (k3 : ∀ W,Below w.heap.size w W → Calls Tryz.prog 86 #[.agg C, .agg E] W fun e w' => (∃ a c,e = .returned (.slice a rs.length c) ∧ RR w.heap.size w' rs (.slice a rs.length c)) ∧ Below W.heap.size W w')
  (k4 : ∀ W,Below w.heap.size w W → Calls Tryz.prog 87 #[.slice a14 n14 c14, .func (.func 88) #[] #[]] W fun e w' => (∃ a c,e = .returned (.slice a ks.length c) ∧ RK w.heap.size w' ks (.slice a ks.length c)) ∧ Below W.heap.size W w')
  (k5 : ∀ W,Below w.heap.size w W → Calls Tryz.prog 89 #[.agg C] W fun e w' => (∃ a c,e = .returned (.slice a als.length c) ∧ RA w.heap.size w' als (.slice a als.length c)) ∧ Below W.heap.size W w')
  (k6 : ∀ W,Below w.heap.size w W → Calls Tryz.prog 90 #[.slice a16 n16 c16, .func (.func 91) #[] #[]] W fun e w' => (∃ a c,e = .returned (.slice a is.length c) ∧ RI w.heap.size w' is (.slice a is.length c)) ∧ Below W.heap.size W w')
  (k7 : ∀ W,Below w.heap.size w W → Calls Tryz.prog 92 #[.agg C] W fun e w' => (∃ a c,e = .returned (.slice a ms.length c) ∧ RM w.heap.size w' ms (.slice a ms.length c)) ∧ Below W.heap.size W w')
  (hpl : pl.length ≤ 1048576) (zd zf ze zc : Int) (hrm : rmC (tbG us md ts pl rs ks als is ms 0 0 0 0) = #[I zd,I zf,I ze,I zc]) (hok : RoomOK (tbG us md ts pl rs ks als is ms 0 0 0 0)) :
  Calls Tryz.prog 34 #[.agg C, .agg E] w fun e w' => (∃ v : Ts,e = .returned (.agg (tbC (tbG us md ts pl rs ks als is ms zd zf ze zc) v)) ∧ SG w.heap.size w' ts pl rs ks als is ms v) ∧ Below w.heap.size w w' := by
 have HPL : Hid (pl.length ≤ 1048576) := hpl
 have HRM : Hid (rmC (tbG us md ts pl rs ks als is ms 0 0 0 0) = #[I zd,I zf,I ze,I zc]) := hrm
 have HOK : Hid (RoomOK (tbG us md ts pl rs ks als is ms 0 0 0 0)) := hok
 clear hpl hrm hok
 have hi18 : (Tryz.prog.info? 47).map (·.size) = some C.size := by rw [hC]; kernel_rfl
 have hi5 : (Tryz.prog.info? 82).map (·.size) = some E.size := by rw [hE]; kernel_rfl
 have hb0 : Below w.heap.size w (((w.alloc (.cells C 47)).alloc (.cells E 82)).alloc (.cells #[I 0,I 0, .slice none 0 0, .slice none 0 0, .slice none 0 0, .slice none 0 0, .slice none 0 0, .slice none 0 0, .slice none 0 0,I 0,I 0,I 0,I 0] 30)) := qp9 _ _ _ _
 have hV1 : (((w.alloc (.cells C 47)).alloc (.cells E 82)).alloc (.cells #[I 0,I 0, .slice none 0 0, .slice none 0 0, .slice none 0 0, .slice none 0 0, .slice none 0 0, .slice none 0 0, .slice none 0 0,I 0,I 0,I 0,I 0] 30)).heap[w.heap.size]? = some (.cells C 47) := h3_0 _ _ _ _
 have hV2 : (((w.alloc (.cells C 47)).alloc (.cells E 82)).alloc (.cells #[I 0,I 0, .slice none 0 0, .slice none 0 0, .slice none 0 0, .slice none 0 0, .slice none 0 0, .slice none 0 0, .slice none 0 0,I 0,I 0,I 0,I 0] 30)).heap[w.heap.size + 1]? = some (.cells E 82) := qcx _ _ _ _
 have hV3 : (((w.alloc (.cells C 47)).alloc (.cells E 82)).alloc (.cells #[I 0,I 0, .slice none 0 0, .slice none 0 0, .slice none 0 0, .slice none 0 0, .slice none 0 0, .slice none 0 0, .slice none 0 0,I 0,I 0,I 0,I 0] 30)).heap[w.heap.size + 1 + 1]? = some (.cells #[I 0,I 0, .slice none 0 0, .slice none 0 0, .slice none 0 0, .slice none 0 0, .slice none 0 0, .slice none 0 0, .slice none 0 0,I 0,I 0,I 0,I 0] 30) := h3_2 _ _ _ _
 have q11 : (((w.alloc (.cells C 47)).alloc (.cells E 82)).alloc (.cells #[I 0,I 0, .slice none 0 0, .slice none 0 0, .slice none 0 0, .slice none 0 0, .slice none 0 0, .slice none 0 0, .slice none 0 0,I 0,I 0,I 0,I 0] 30)).cell? ⟨w.heap.size,11,none⟩ = some (.slice s.a s.n s.c) := by rw [cell_of_row _ _ 11 _ _ (0,0) hV1]; exact c11
 have kp := k0 _ hb0
 have HCC : Hid (C[1]? = some (S on) ∧ C[2]? = some (.bool o1) ∧ C[3]? = some (.bool o2) ∧ C[4]? = some (.bool o3) ∧ C[5]? = some (.bool o4) ∧ C[6]? = some (.bool o5) ∧ C[7]? = some (.bool o6) ∧ C[8]? = some (.bool o7) ∧ C[9]? = some (.bool o8) ∧ C[10]? = some (.slice amd md cmd) ∧ C[14]? = some (.slice a14 n14 c14) ∧ C[16]? = some (.slice a16 n16 c16)) := ⟨c1,c2,c3,c4,c5,c6,c7,c8,c9,c10,h14,h16⟩
 have HSZ : Hid (w.heap.size + 3 ≤ (((w.alloc (.cells C 47)).alloc (.cells E 82)).alloc (.cells #[I 0,I 0, .slice none 0 0, .slice none 0 0, .slice none 0 0, .slice none 0 0, .slice none 0 0, .slice none 0 0, .slice none 0 0,I 0,I 0,I 0,I 0] 30)).heap.size) := by show _ ≤ _; simp <;> omega
 have HV : Hid ((((w.alloc (.cells C 47)).alloc (.cells E 82)).alloc (.cells #[I 0,I 0, .slice none 0 0, .slice none 0 0, .slice none 0 0, .slice none 0 0, .slice none 0 0, .slice none 0 0, .slice none 0 0,I 0,I 0,I 0,I 0] 30)).heap[w.heap.size]? = some (.cells C 47) ∧ (((w.alloc (.cells C 47)).alloc (.cells E 82)).alloc (.cells #[I 0,I 0, .slice none 0 0, .slice none 0 0, .slice none 0 0, .slice none 0 0, .slice none 0 0, .slice none 0 0, .slice none 0 0,I 0,I 0,I 0,I 0] 30)).heap[w.heap.size + 1]? = some (.cells E 82) ∧ (((w.alloc (.cells C 47)).alloc (.cells E 82)).alloc (.cells #[I 0,I 0, .slice none 0 0, .slice none 0 0, .slice none 0 0, .slice none 0 0, .slice none 0 0, .slice none 0 0, .slice none 0 0,I 0,I 0,I 0,I 0] 30)).heap[w.heap.size + 1 + 1]? = some (.cells #[I 0,I 0, .slice none 0 0, .slice none 0 0, .slice none 0 0, .slice none 0 0, .slice none 0 0, .slice none 0 0, .slice none 0 0,I 0,I 0,I 0,I 0] 30)) := ⟨hV1,hV2,hV3⟩
 have HB0 : Hid _ := hb0
 clear c1 c2 c3 c4 c5 c6 c7 c8 c9 c10 c11 h14 h16 hV1 hV2 hV3 k0 hb0
 go_enter Tryz.func34,Tryz.ntmps34
 go_upto_region 2 with (first | (go_at_call 83; refine kp.mono ?_; clear kp; rintro e w1 ⟨⟨al_,cl,rfl,o1_⟩,b1⟩; have HW : Hid (Below w.heap.size w w1 ∧ w.heap.size + 3 ≤ w1.heap.size ∧ w1.ownsRow w.heap.size 3 1 (.slice al_ pl.length cl) pl.length (pl.map fun x => I x) ∧ w1.heap[w.heap.size + 1 + 1]? = some (.cells #[I 0,I 0, .slice none 0 0, .slice none 0 0, .slice none 0 0, .slice none 0 0, .slice none 0 0, .slice none 0 0, .slice none 0 0,I 0,I 0,I 0,I 0] 30 (0,0))) := ⟨HB0.out.trans (b1.mono HB0.out.size),Nat.le_trans HSZ.out b1.size,o1_,(b1.block _ (qa1 HV.out.2.2)).trans HV.out.2.2⟩; have HS : Hid (∀ W,Below w1.heap.size w1 W → W.cell? ⟨w.heap.size,1,none⟩ = some (S on) ∧ W.cell? ⟨w.heap.size,2,none⟩ = some (.bool o1) ∧ W.cell? ⟨w.heap.size,3,none⟩ = some (.bool o2) ∧ W.cell? ⟨w.heap.size,4,none⟩ = some (.bool o3) ∧ W.cell? ⟨w.heap.size,5,none⟩ = some (.bool o4) ∧ W.cell? ⟨w.heap.size,6,none⟩ = some (.bool o5) ∧ W.cell? ⟨w.heap.size,7,none⟩ = some (.bool o6) ∧ W.cell? ⟨w.heap.size,8,none⟩ = some (.bool o7) ∧ W.cell? ⟨w.heap.size,9,none⟩ = some (.bool o8) ∧ W.cell? ⟨w.heap.size,10,none⟩ = some (.slice amd md cmd) ∧ W.cell? ⟨w.heap.size,14,none⟩ = some (.slice a14 n14 c14) ∧ W.cell? ⟨w.heap.size,16,none⟩ = some (.slice a16 n16 c16) ∧ W.heap[w.heap.size]? = some (.cells C 47 (0,0)) ∧ W.heap[w.heap.size + 1]? = some (.cells E 82 (0,0))) := (fun W hW => by
   have hbW := b1.trans (hW.mono b1.size)
   have h1 := (hbW.block _ (qa1 HV.out.1)).trans HV.out.1
   have h2 := (hbW.block _ (qa1 HV.out.2.1)).trans HV.out.2.1
   obtain ⟨c1,c2,c3,c4,c5,c6,c7,c8,c9,c10,h14,h16⟩ := HCC.out
   exact ⟨by rw [cell_of_row W _ 1 _ _ (0,0) h1]; exact c1,by rw [cell_of_row W _ 2 _ _ (0,0) h1]; exact c2,by rw [cell_of_row W _ 3 _ _ (0,0) h1]; exact c3,by rw [cell_of_row W _ 4 _ _ (0,0) h1]; exact c4,by rw [cell_of_row W _ 5 _ _ (0,0) h1]; exact c5,by rw [cell_of_row W _ 6 _ _ (0,0) h1]; exact c6,by rw [cell_of_row W _ 7 _ _ (0,0) h1]; exact c7,by rw [cell_of_row W _ 8 _ _ (0,0) h1]; exact c8,by rw [cell_of_row W _ 9 _ _ (0,0) h1]; exact c9,by rw [cell_of_row W _ 10 _ _ (0,0) h1]; exact c10,by rw [cell_of_row W _ 14 _ _ (0,0) h1]; exact h14,by rw [cell_of_row W _ 16 _ _ (0,0) h1]; exact h16,h1,h2⟩)))
 have HB : Hid (∀ W,Below w1.heap.size w1 W → Below w.heap.size w W) := fun W hW => HW.out.1.trans (hW.mono HW.out.1.size)
 have k2 : ∀ W,Below w.heap.size w W ∧ Below w1.heap.size w1 W → Calls Tryz.prog 85 #[.agg C, .agg E, .slice al_ pl.length cl] W fun e w' => (∃ a c,e = .returned (.slice a ts.length c) ∧ RT w.heap.size w' ts (.slice a ts.length c)) ∧ Below W.heap.size W w' := fun W hW => k2' W hW.1 ⟨al_,pl.length,cl⟩ (qdg (n := pl.length) (base := w.heap.size) (s := ⟨al_,pl.length,cl⟩) (l := pl) rfl (qa6 HW.out.2.2.1 hW.2))
 have HK2 : Hid (∀ W,Below w1.heap.size w1 W → Below w.heap.size w W ∧ Below w1.heap.size w1 W) := fun W hW => ⟨HB.out W hW,hW⟩
 have HSG : Hid (∀ (W W' : World) (T : Nat),(W.cell? ⟨w.heap.size,1,none⟩ = some (S on) ∧ W.cell? ⟨w.heap.size,2,none⟩ = some (.bool o1) ∧ W.cell? ⟨w.heap.size,3,none⟩ = some (.bool o2) ∧ W.cell? ⟨w.heap.size,4,none⟩ = some (.bool o3) ∧ W.cell? ⟨w.heap.size,5,none⟩ = some (.bool o4) ∧ W.cell? ⟨w.heap.size,6,none⟩ = some (.bool o5) ∧ W.cell? ⟨w.heap.size,7,none⟩ = some (.bool o6) ∧ W.cell? ⟨w.heap.size,8,none⟩ = some (.bool o7) ∧ W.cell? ⟨w.heap.size,9,none⟩ = some (.bool o8) ∧ W.cell? ⟨w.heap.size,10,none⟩ = some (.slice amd md cmd) ∧ W.cell? ⟨w.heap.size,14,none⟩ = some (.slice a14 n14 c14) ∧ W.cell? ⟨w.heap.size,16,none⟩ = some (.slice a16 n16 c16) ∧ W.heap[w.heap.size]? = some (.cells C 47 (0,0)) ∧ W.heap[w.heap.size + 1]? = some (.cells E 82 (0,0))) → Below w1.heap.size w1 W → W.grownBy W' (some T) → w1.heap.size ≤ T → W'.cell? ⟨w.heap.size,1,none⟩ = some (S on) ∧ W'.cell? ⟨w.heap.size,2,none⟩ = some (.bool o1) ∧ W'.cell? ⟨w.heap.size,3,none⟩ = some (.bool o2) ∧ W'.cell? ⟨w.heap.size,4,none⟩ = some (.bool o3) ∧ W'.cell? ⟨w.heap.size,5,none⟩ = some (.bool o4) ∧ W'.cell? ⟨w.heap.size,6,none⟩ = some (.bool o5) ∧ W'.cell? ⟨w.heap.size,7,none⟩ = some (.bool o6) ∧ W'.cell? ⟨w.heap.size,8,none⟩ = some (.bool o7) ∧ W'.cell? ⟨w.heap.size,9,none⟩ = some (.bool o8) ∧ W'.cell? ⟨w.heap.size,10,none⟩ = some (.slice amd md cmd) ∧ W'.cell? ⟨w.heap.size,14,none⟩ = some (.slice a14 n14 c14) ∧ W'.cell? ⟨w.heap.size,16,none⟩ = some (.slice a16 n16 c16) ∧ W'.heap[w.heap.size]? = some (.cells C 47 (0,0)) ∧ W'.heap[w.heap.size + 1]? = some (.cells E 82 (0,0))) := fun W W' T hS hB hg hT => by
  have hl : w.heap.size + 3 ≤ W.heap.size := Nat.le_trans HW.out.2.1 hB.size
  have hw1 := HW.out.2.1
  have q : ∀ i,W'.cell? ⟨w.heap.size,i,none⟩ = W.cell? ⟨w.heap.size,i,none⟩ := fun i => World.cell?_of_block (qay (i := w.heap.size) hg (by omega) (fun e => by have := Option.some.inj e; omega))
  have q1 : W'.heap[w.heap.size]? = W.heap[w.heap.size]? := qay hg (by omega) (fun e => by have := Option.some.inj e; omega)
  have q2 : W'.heap[w.heap.size + 1]? = W.heap[w.heap.size + 1]? := qay hg (by omega) (fun e => by have := Option.some.inj e; omega)
  simp only [q,q1,q2]
  exact hS
 have B2 : Below w1.heap.size w1 w1.drew := (Below.refl _ _).drew
 go_cut [6] from 8 (fun s6 wx => ∃ (T : Nat) (at_ : Option Addr) (ct : Nat) (ar : Option Addr) (cr : Nat) (ak : Option Addr) (ck : Nat) (aa : Option Addr) (ca : Nat) (ai : Option Addr) (ci : Nat) (am : Option Addr) (cm2 : Nat),s6 = .pointer (some ⟨T,0,none⟩) ∧ Hid (TaG w w1 ts pl rs ks als is ms us md al_ cl wx T at_ ct ar cr ak ck aa ca ai ci am cm2))
 case first =>
  refine wp_region_held_drew (S := fun W' => W'.cell? ⟨w.heap.size,1,none⟩ = some (S on) ∧ W'.cell? ⟨w.heap.size,2,none⟩ = some (.bool o1) ∧ W'.cell? ⟨w.heap.size,3,none⟩ = some (.bool o2) ∧ W'.cell? ⟨w.heap.size,4,none⟩ = some (.bool o3) ∧ W'.cell? ⟨w.heap.size,5,none⟩ = some (.bool o4) ∧ W'.cell? ⟨w.heap.size,6,none⟩ = some (.bool o5) ∧ W'.cell? ⟨w.heap.size,7,none⟩ = some (.bool o6) ∧ W'.cell? ⟨w.heap.size,8,none⟩ = some (.bool o7) ∧ W'.cell? ⟨w.heap.size,9,none⟩ = some (.bool o8) ∧ W'.cell? ⟨w.heap.size,10,none⟩ = some (.slice amd md cmd) ∧ W'.cell? ⟨w.heap.size,14,none⟩ = some (.slice a14 n14 c14) ∧ W'.cell? ⟨w.heap.size,16,none⟩ = some (.slice a16 n16 c16) ∧ W'.heap[w.heap.size]? = some (.cells C 47 (0,0)) ∧ W'.heap[w.heap.size + 1]? = some (.cells E 82 (0,0))) (by kernel_rfl) (HS.out _ B2) (fun hHeld => ?_)
  refine wpAnyH_take (i := 0) (v := ?_) rfl (by kernel_rfl) (by kernel_rfl) (by kernel_rfl) (fun _ _ _ h => h) (Or.inl ⟨by rfl, ?_⟩) hHeld ?_
  rotate_left
  ·intro w' hSw
   obtain ⟨y1,y2,y3,y4,y5,y6,y7,y8,y9,y10,y14,y16,_,_⟩ := hSw
   go_simp
   try with_reducible rfl
  try simp only [Act.put,q7a,q7b,q7c,q7d,q7e,q7f]
  refine wpAnyH_take (i := 1) (v := ?_) rfl (by kernel_rfl) (by kernel_rfl) (by kernel_rfl) (fun _ _ _ h => h) (Or.inl ⟨by rfl, ?_⟩) hHeld ?_
  rotate_left
  ·intro w' hSw
   obtain ⟨y1,y2,y3,y4,y5,y6,y7,y8,y9,y10,y14,y16,_,_⟩ := hSw
   go_simp
   try with_reducible rfl
  try simp only [Act.put,q7a,q7b,q7c,q7d,q7e,q7f]
  refine wpAnyH_take (i := 3) (v := ?_) rfl (by kernel_rfl) (by kernel_rfl) (by kernel_rfl) (fun _ _ _ h => h) (Or.inl ⟨by rfl, ?_⟩) hHeld ?_
  rotate_left
  ·intro w' hSw
   obtain ⟨y1,y2,y3,y4,y5,y6,y7,y8,y9,y10,y14,y16,_,_⟩ := hSw
   go_simp
   try with_reducible rfl
  try simp only [Act.put,q7a,q7b,q7c,q7d,q7e,q7f]
  refine wpAnyH_take (i := 4) (v := ?_) rfl (by kernel_rfl) (by kernel_rfl) (by kernel_rfl) (fun _ _ _ h => h) (Or.inl ⟨by rfl, ?_⟩) hHeld ?_
  rotate_left
  ·intro w' hSw
   obtain ⟨y1,y2,y3,y4,y5,y6,y7,y8,y9,y10,y14,y16,_,_⟩ := hSw
   go_simp
   try with_reducible rfl
  try simp only [Act.put,q7a,q7b,q7c,q7d,q7e,q7f]
  refine wpAnyH_take (i := 5) (v := ?_) rfl (by kernel_rfl) (by kernel_rfl) (by kernel_rfl) (fun _ _ _ h => h) (Or.inl ⟨by rfl, ?_⟩) hHeld ?_
  rotate_left
  ·intro w' hSw
   obtain ⟨y1,y2,y3,y4,y5,y6,y7,y8,y9,y10,y14,y16,_,_⟩ := hSw
   go_simp
   try with_reducible rfl
  try simp only [Act.put,q7a,q7b,q7c,q7d,q7e,q7f]
  refine wpAnyH_take (i := 6) (v := .agg C) rfl (by kernel_rfl) (by kernel_rfl) (by kernel_rfl) (fun _ _ _ h => h) (Ce.yieldsIf_load_row (by rfl) 47 _ rfl w.heap.size rfl 47 C (0,0) _ (fun _ hw => hw.2.2.2.2.2.2.2.2.2.2.2.2.1) Tryz.underlying47 rfl hi18) hHeld ?_
  try simp only [Act.put,q7a,q7b,q7c,q7d,q7e,q7f]
  refine wpAnyH_take (i := 7) (v := .agg E) rfl (by kernel_rfl) (by kernel_rfl) (by kernel_rfl) (fun _ _ _ h => h) (Ce.yieldsIf_load_row (by rfl) 82 _ rfl (w.heap.size + 1) rfl 82 E (0,0) _ (fun _ hw => hw.2.2.2.2.2.2.2.2.2.2.2.2.2) Tryz.underlying82 rfl hi5) hHeld ?_
  try simp only [Act.put,q7a,q7b,q7c,q7d,q7e,q7f]
  refine wpAnyH_take (i := 8) (v := ?_) rfl (by kernel_rfl) (by kernel_rfl) (by kernel_rfl) (fun _ _ _ h => h) (Or.inl ⟨by rfl, ?_⟩) hHeld ?_
  rotate_left
  ·intro w' hSw
   obtain ⟨y1,y2,y3,y4,y5,y6,y7,y8,y9,y10,y14,y16,_,_⟩ := hSw
   go_simp
   try with_reducible rfl
  try simp only [Act.put,q7a,q7b,q7c,q7d,q7e,q7f]
  refine wpAnyH_take (i := 10) (v := .agg C) rfl (by kernel_rfl) (by kernel_rfl) (by kernel_rfl) (fun _ _ _ h => h) (Ce.yieldsIf_load_row (by rfl) 47 _ rfl w.heap.size rfl 47 C (0,0) _ (fun _ hw => hw.2.2.2.2.2.2.2.2.2.2.2.2.1) Tryz.underlying47 rfl hi18) hHeld ?_
  try simp only [Act.put,q7a,q7b,q7c,q7d,q7e,q7f]
  refine wpAnyH_take (i := 11) (v := .agg E) rfl (by kernel_rfl) (by kernel_rfl) (by kernel_rfl) (fun _ _ _ h => h) (Ce.yieldsIf_load_row (by rfl) 82 _ rfl (w.heap.size + 1) rfl 82 E (0,0) _ (fun _ hw => hw.2.2.2.2.2.2.2.2.2.2.2.2.2) Tryz.underlying82 rfl hi5) hHeld ?_
  try simp only [Act.put,q7a,q7b,q7c,q7d,q7e,q7f]
  refine wpAnyH_take (i := 13) (v := ?_) rfl (by kernel_rfl) (by kernel_rfl) (by kernel_rfl) (fun _ _ _ h => h) (Or.inl ⟨by rfl, ?_⟩) hHeld ?_
  rotate_left
  ·intro w' hSw
   obtain ⟨y1,y2,y3,y4,y5,y6,y7,y8,y9,y10,y14,y16,_,_⟩ := hSw
   go_simp
   try with_reducible rfl
  try simp only [Act.put,q7a,q7b,q7c,q7d,q7e,q7f]
  refine wpAnyH_take (i := 14) (v := ?_) rfl (by kernel_rfl) (by kernel_rfl) (by kernel_rfl) (fun _ _ _ h => h) (Or.inl ⟨by rfl, ?_⟩) hHeld ?_
  rotate_left
  ·intro w' hSw
   obtain ⟨y1,y2,y3,y4,y5,y6,y7,y8,y9,y10,y14,y16,_,_⟩ := hSw
   go_simp
   try with_reducible rfl
  try simp only [Act.put,q7a,q7b,q7c,q7d,q7e,q7f]
  refine wpAnyH_take (i := 16) (v := .agg C) rfl (by kernel_rfl) (by kernel_rfl) (by kernel_rfl) (fun _ _ _ h => h) (Ce.yieldsIf_load_row (by rfl) 47 _ rfl w.heap.size rfl 47 C (0,0) _ (fun _ hw => hw.2.2.2.2.2.2.2.2.2.2.2.2.1) Tryz.underlying47 rfl hi18) hHeld ?_
  try simp only [Act.put,q7a,q7b,q7c,q7d,q7e,q7f]
  refine wpAnyH_take (i := 18) (v := ?_) rfl (by kernel_rfl) (by kernel_rfl) (by kernel_rfl) (fun _ _ _ h => h) (Or.inl ⟨by rfl, ?_⟩) hHeld ?_
  rotate_left
  ·intro w' hSw
   obtain ⟨y1,y2,y3,y4,y5,y6,y7,y8,y9,y10,y14,y16,_,_⟩ := hSw
   go_simp
   try with_reducible rfl
  try simp only [Act.put,q7a,q7b,q7c,q7d,q7e,q7f]
  refine wpAnyH_take (i := 19) (v := ?_) rfl (by kernel_rfl) (by kernel_rfl) (by kernel_rfl) (fun _ _ _ h => h) (Or.inl ⟨by rfl, ?_⟩) hHeld ?_
  rotate_left
  ·intro w' hSw
   obtain ⟨y1,y2,y3,y4,y5,y6,y7,y8,y9,y10,y14,y16,_,_⟩ := hSw
   go_simp
   try with_reducible rfl
  try simp only [Act.put,q7a,q7b,q7c,q7d,q7e,q7f]
  refine wpAnyH_take (i := 21) (v := .agg C) rfl (by kernel_rfl) (by kernel_rfl) (by kernel_rfl) (fun _ _ _ h => h) (Ce.yieldsIf_load_row (by rfl) 47 _ rfl w.heap.size rfl 47 C (0,0) _ (fun _ hw => hw.2.2.2.2.2.2.2.2.2.2.2.2.1) Tryz.underlying47 rfl hi18) hHeld ?_
  try simp only [Act.put,q7a,q7b,q7c,q7d,q7e,q7f]
  obtain ⟨w2,hw2⟩ : ∃ w2,w1.drew = w2 := ⟨_,rfl⟩
  rw [hw2] at B2 ⊢
  clear hw2
  refine wpAnyH_ready (rs := [2,24]) (by kernel_rfl) (by simp) ?_
  refine AllReadyH.cons rfl (fun K hK => ?_) (AllReadyH.cons rfl (fun K hK => ?_) AllReadyH.nil)
  ·go_simp
   go_wp2_with (go_at_call 84; refine (k1 _).mono ?_; rintro e w3 ⟨rfl,b3⟩)
   have B3 : Below w1.heap.size w1 w3 := B2.trans (b3.mono B2.size)
   refine hK.out _ _ (HS.out _ B3) (fun hHeld => ?_)
   clear hK K
   try simp only [Act.put,q7a,q7b,q7c,q7d,q7e,q7f]
   refine wpAnyH_ready (rs := [9,24]) (by kernel_rfl) (by simp) ?_
   refine AllReadyH.cons rfl (fun K hK => ?_) (AllReadyH.cons rfl (fun K hK => ?_) AllReadyH.nil)
   ·go_simp
    go_wp2_with (go_at_call 85; refine (k2 _ (HK2.out _ B3)).mono ?_; rintro e w4 ⟨⟨at_,ct,rfl,rT⟩,b4⟩)
    have B4 : Below w1.heap.size w1 w4 := B3.trans (b4.mono B3.size)
    refine hK.out _ _ (HS.out _ B4) (fun hHeld => ?_)
    clear hK K
    try simp only [Act.put,q7a,q7b,q7c,q7d,q7e,q7f]
    refine wpAnyH_ready (rs := [12,24]) (by kernel_rfl) (by simp) ?_
    refine AllReadyH.cons rfl (fun K hK => ?_) (AllReadyH.cons rfl (fun K hK => ?_) AllReadyH.nil)
    ·go_simp
     go_wp2_with (go_at_call 86; refine (k3 _ (HB.out _ B4)).mono ?_; rintro e w5 ⟨⟨ar,cr,rfl,rR⟩,b5⟩)
     have B5 : Below w1.heap.size w1 w5 := B4.trans (b5.mono B4.size)
     have rT := RT.below rT b5
     refine hK.out _ _ (HS.out _ B5) (fun hHeld => ?_)
     clear hK K
     try simp only [Act.put,q7a,q7b,q7c,q7d,q7e,q7f]
     refine wpAnyH_ready (rs := [15,24]) (by kernel_rfl) (by simp) ?_
     refine AllReadyH.cons rfl (fun K hK => ?_) (AllReadyH.cons rfl (fun K hK => ?_) AllReadyH.nil)
     ·go_simp
      go_wp2_with (go_at_call 87; refine (k4 _ (HB.out _ B5)).mono ?_; rintro e w6 ⟨⟨ak,ck,rfl,rK⟩,b6⟩)
      have B6 : Below w1.heap.size w1 w6 := B5.trans (b6.mono B5.size)
      have rT := RT.below rT b6
      have rR := RR.below rR b6
      refine hK.out _ _ (HS.out _ B6) (fun hHeld => ?_)
      clear hK K
      try simp only [Act.put,q7a,q7b,q7c,q7d,q7e,q7f]
      refine wpAnyH_ready (rs := [17,24]) (by kernel_rfl) (by simp) ?_
      refine AllReadyH.cons rfl (fun K hK => ?_) (AllReadyH.cons rfl (fun K hK => ?_) AllReadyH.nil)
      ·go_simp
       go_wp2_with (go_at_call 89; refine (k5 _ (HB.out _ B6)).mono ?_; rintro e w7 ⟨⟨aa,ca,rfl,rA⟩,b7⟩)
       have B7 : Below w1.heap.size w1 w7 := B6.trans (b7.mono B6.size)
       have rT := RT.below rT b7
       have rR := RR.below rR b7
       have rK := RK.below rK b7
       refine hK.out _ _ (HS.out _ B7) (fun hHeld => ?_)
       clear hK K
       try simp only [Act.put,q7a,q7b,q7c,q7d,q7e,q7f]
       refine wpAnyH_ready (rs := [20,24]) (by kernel_rfl) (by simp) ?_
       refine AllReadyH.cons rfl (fun K hK => ?_) (AllReadyH.cons rfl (fun K hK => ?_) AllReadyH.nil)
       ·go_simp
        go_wp2_with (go_at_call 90; refine (k6 _ (HB.out _ B7)).mono ?_; rintro e w8 ⟨⟨ai,ci,rfl,rI⟩,b8⟩)
        have B8 : Below w1.heap.size w1 w8 := B7.trans (b8.mono B7.size)
        have rT := RT.below rT b8
        have rR := RR.below rR b8
        have rK := RK.below rK b8
        have rA := RA.below rA b8
        refine hK.out _ _ (HS.out _ B8) (fun hHeld => ?_)
        clear hK K
        try simp only [Act.put,q7a,q7b,q7c,q7d,q7e,q7f]
        refine wpAnyH_ready (rs := [22,24]) (by kernel_rfl) (by simp) ?_
        refine AllReadyH.cons rfl (fun K hK => ?_) (AllReadyH.cons rfl (fun K hK => ?_) AllReadyH.nil)
        ·go_simp
         go_wp2_with (go_at_call 92; refine (k7 _ (HB.out _ B8)).mono ?_; rintro e w9 ⟨⟨am,cm2,rfl,rM⟩,b9⟩)
         have B9 : Below w1.heap.size w1 w9 := B8.trans (b9.mono B8.size)
         have rT := RT.below rT b9
         have rR := RR.below rR b9
         have rK := RK.below rK b9
         have rA := RA.below rA b9
         have rI := RI.below rI b9
         refine hK.out _ _ (HS.out _ B9) (fun hHeld => ?_)
         clear hK K
         try simp only [Act.put,q7a,q7b,q7c,q7d,q7e,q7f]
         refine wpAnyH_take (i := 23) (v := ?_) rfl (by kernel_rfl) (by kernel_rfl) (by kernel_rfl) (fun _ _ _ h => h) (Or.inl ⟨by rfl, ?_⟩) hHeld ?_
         rotate_left
         ·intro w' hSw
          obtain ⟨y1,y2,y3,y4,y5,y6,y7,y8,y9,y10,y14,y16,_,_⟩ := hSw
          go_simp
          try with_reducible rfl
         try simp only [Act.put,q7a,q7b,q7c,q7d,q7e,q7f]
         refine wpAnyH_ready (rs := [24]) (by kernel_rfl) (by simp) ?_
         refine AllReadyH.cons rfl (fun K hK => ?_) AllReadyH.nil
         go_simp
         have b10 := qa0 w9 (.cells #[I 0,I 0, .slice none 0 0, .slice none 0 0, .slice none 0 0, .slice none 0 0, .slice none 0 0, .slice none 0 0, .slice none 0 0,I 0,I 0,I 0,I 0] 30)
         have hT := heap_alloc_new w9 (.cells #[I 0,I 0, .slice none 0 0, .slice none 0 0, .slice none 0 0, .slice none 0 0, .slice none 0 0, .slice none 0 0, .slice none 0 0,I 0,I 0,I 0,I 0] 30)
         have hTs : w1.heap.size ≤ w9.heap.size := B9.size
         have B10 : Below w1.heap.size w1 (w9.alloc (.cells #[I 0,I 0, .slice none 0 0, .slice none 0 0, .slice none 0 0, .slice none 0 0, .slice none 0 0, .slice none 0 0, .slice none 0 0,I 0,I 0,I 0,I 0] 30)) := B9.trans (b10.mono B9.size)
         have rT := RT.below rT b10
         have rR := RR.below rR b10
         have rK := RK.below rK b10
         have rA := RA.below rA b10
         have rI := RI.below rI b10
         have rM := RM.below rM b10
         refine hK.out _ _ (HS.out _ B10) (fun hHeld => ?_)
         clear hK K
         try simp only [Act.put,q7a,q7b,q7c,q7d,q7e,q7f]
         generalize (w9.alloc (.cells #[I 0,I 0, .slice none 0 0, .slice none 0 0, .slice none 0 0, .slice none 0 0, .slice none 0 0, .slice none 0 0, .slice none 0 0,I 0,I 0,I 0,I 0] 30)) = w10 at *
         have hi13 : (Tryz.prog.info? 30).map (·.size) = some (#[I us,I md, .slice at_ ts.length ct, .slice none 0 0, .slice ar rs.length cr, .slice ak ks.length ck, .slice aa als.length ca, .slice ai is.length ci, .slice am ms.length cm2,I 0,I 0,I 0,I 0] : Array Value).size := by kernel_rfl
         have g9 : w10.grownBy (w10.setRow w9.heap.size #[I us,I md, .slice at_ ts.length ct, .slice none 0 0, .slice ar rs.length cr, .slice ak ks.length ck, .slice aa als.length ca, .slice ai is.length ci, .slice am ms.length cm2,I 0,I 0,I 0,I 0]) (some w9.heap.size) := Ce.grown_row _ _ _
         have L9 : TaG w w1 ts pl rs ks als is ms us md al_ cl (w10.setRow w9.heap.size #[I us,I md, .slice at_ ts.length ct, .slice none 0 0, .slice ar rs.length cr, .slice ak ks.length ck, .slice aa als.length ca, .slice ai is.length ci, .slice am ms.length cm2,I 0,I 0,I 0,I 0]) w9.heap.size at_ ct ar cr ak ck aa ca ai ci am cm2 := TaG.mk9 B10 HW.out hTs hT ⟨rT,rR,rK,rA,rI,rM⟩ g9 (setRow_heap _ _ _ _ _ _ hT)
         refine wpAnyH_ready (rs := [25]) (by kernel_rfl) (by simp) ?_
         refine AllReadyH.cons rfl (fun K hK => ?_) AllReadyH.nil
         rw [if_pos (by kernel_rfl)]
         refine wp_store_row 30 _ _ rfl w9.heap.size _ rfl rfl 30 _ hT hi13 rfl (by simp [Value.oneCell']) ?_
         refine hK.out _ _ (HSG.out _ _ _ (HS.out _ B10) B10 g9 hTs) (fun hHeld => ?_)
         clear hK K
         refine wpAnyH_done (by kernel_rfl) ?_ _
         go_wp2_with fail
         go_meet
         exact ⟨_,_,_,_,_,_,_,_,_,_,_,_,_,rfl,L9⟩
        ·go_simp
         have b9 := qa0 w8 (.cells #[I 0,I 0, .slice none 0 0, .slice none 0 0, .slice none 0 0, .slice none 0 0, .slice none 0 0, .slice none 0 0, .slice none 0 0,I 0,I 0,I 0,I 0] 30)
         have hT := heap_alloc_new w8 (.cells #[I 0,I 0, .slice none 0 0, .slice none 0 0, .slice none 0 0, .slice none 0 0, .slice none 0 0, .slice none 0 0, .slice none 0 0,I 0,I 0,I 0,I 0] 30)
         have hTs : w1.heap.size ≤ w8.heap.size := B8.size
         have B9 : Below w1.heap.size w1 (w8.alloc (.cells #[I 0,I 0, .slice none 0 0, .slice none 0 0, .slice none 0 0, .slice none 0 0, .slice none 0 0, .slice none 0 0, .slice none 0 0,I 0,I 0,I 0,I 0] 30)) := B8.trans (b9.mono B8.size)
         have rT := RT.below rT b9
         have rR := RR.below rR b9
         have rK := RK.below rK b9
         have rA := RA.below rA b9
         have rI := RI.below rI b9
         refine hK.out _ _ (HS.out _ B9) (fun hHeld => ?_)
         clear hK K
         try simp only [Act.put,q7a,q7b,q7c,q7d,q7e,q7f]
         generalize (w8.alloc (.cells #[I 0,I 0, .slice none 0 0, .slice none 0 0, .slice none 0 0, .slice none 0 0, .slice none 0 0, .slice none 0 0, .slice none 0 0,I 0,I 0,I 0,I 0] 30)) = w9 at *
         refine wpAnyH_ready (rs := [22]) (by kernel_rfl) (by simp) ?_
         refine AllReadyH.cons rfl (fun K hK => ?_) AllReadyH.nil
         go_simp
         go_wp2_with (go_at_call 92; refine (k7 _ (HB.out _ B9)).mono ?_; rintro e w10 ⟨⟨am,cm2,rfl,rM⟩,b10⟩)
         have B10 : Below w1.heap.size w1 w10 := B9.trans (b10.mono B9.size)
         have rT := RT.below rT b10
         have rR := RR.below rR b10
         have rK := RK.below rK b10
         have rA := RA.below rA b10
         have rI := RI.below rI b10
         have hT := (b10.block _ (qa1 hT)).trans hT
         refine hK.out _ _ (HS.out _ B10) (fun hHeld => ?_)
         clear hK K
         try simp only [Act.put,q7a,q7b,q7c,q7d,q7e,q7f]
         refine wpAnyH_take (i := 23) (v := ?_) rfl (by kernel_rfl) (by kernel_rfl) (by kernel_rfl) (fun _ _ _ h => h) (Or.inl ⟨by rfl, ?_⟩) hHeld ?_
         rotate_left
         ·intro w' hSw
          obtain ⟨y1,y2,y3,y4,y5,y6,y7,y8,y9,y10,y14,y16,_,_⟩ := hSw
          go_simp
          try with_reducible rfl
         try simp only [Act.put,q7a,q7b,q7c,q7d,q7e,q7f]
         have hi13 : (Tryz.prog.info? 30).map (·.size) = some (#[I us,I md, .slice at_ ts.length ct, .slice none 0 0, .slice ar rs.length cr, .slice ak ks.length ck, .slice aa als.length ca, .slice ai is.length ci, .slice am ms.length cm2,I 0,I 0,I 0,I 0] : Array Value).size := by kernel_rfl
         have g9 : w10.grownBy (w10.setRow w8.heap.size #[I us,I md, .slice at_ ts.length ct, .slice none 0 0, .slice ar rs.length cr, .slice ak ks.length ck, .slice aa als.length ca, .slice ai is.length ci, .slice am ms.length cm2,I 0,I 0,I 0,I 0]) (some w8.heap.size) := Ce.grown_row _ _ _
         have L9 : TaG w w1 ts pl rs ks als is ms us md al_ cl (w10.setRow w8.heap.size #[I us,I md, .slice at_ ts.length ct, .slice none 0 0, .slice ar rs.length cr, .slice ak ks.length ck, .slice aa als.length ca, .slice ai is.length ci, .slice am ms.length cm2,I 0,I 0,I 0,I 0]) w8.heap.size at_ ct ar cr ak ck aa ca ai ci am cm2 := TaG.mk9 B10 HW.out hTs hT ⟨rT,rR,rK,rA,rI,rM⟩ g9 (setRow_heap _ _ _ _ _ _ hT)
         refine wpAnyH_ready (rs := [25]) (by kernel_rfl) (by simp) ?_
         refine AllReadyH.cons rfl (fun K hK => ?_) AllReadyH.nil
         rw [if_pos (by kernel_rfl)]
         refine wp_store_row 30 _ _ rfl w8.heap.size _ rfl rfl 30 _ hT hi13 rfl (by simp [Value.oneCell']) ?_
         refine hK.out _ _ (HSG.out _ _ _ (HS.out _ B10) B10 g9 hTs) (fun hHeld => ?_)
         clear hK K
         refine wpAnyH_done (by kernel_rfl) ?_ _
         go_wp2_with fail
         go_meet
         exact ⟨_,_,_,_,_,_,_,_,_,_,_,_,_,rfl,L9⟩
       ·go_simp
        have b8 := qa0 w7 (.cells #[I 0,I 0, .slice none 0 0, .slice none 0 0, .slice none 0 0, .slice none 0 0, .slice none 0 0, .slice none 0 0, .slice none 0 0,I 0,I 0,I 0,I 0] 30)
        have hT := heap_alloc_new w7 (.cells #[I 0,I 0, .slice none 0 0, .slice none 0 0, .slice none 0 0, .slice none 0 0, .slice none 0 0, .slice none 0 0, .slice none 0 0,I 0,I 0,I 0,I 0] 30)
        have hTs : w1.heap.size ≤ w7.heap.size := B7.size
        have B8 : Below w1.heap.size w1 (w7.alloc (.cells #[I 0,I 0, .slice none 0 0, .slice none 0 0, .slice none 0 0, .slice none 0 0, .slice none 0 0, .slice none 0 0, .slice none 0 0,I 0,I 0,I 0,I 0] 30)) := B7.trans (b8.mono B7.size)
        have rT := RT.below rT b8
        have rR := RR.below rR b8
        have rK := RK.below rK b8
        have rA := RA.below rA b8
        refine hK.out _ _ (HS.out _ B8) (fun hHeld => ?_)
        clear hK K
        try simp only [Act.put,q7a,q7b,q7c,q7d,q7e,q7f]
        generalize (w7.alloc (.cells #[I 0,I 0, .slice none 0 0, .slice none 0 0, .slice none 0 0, .slice none 0 0, .slice none 0 0, .slice none 0 0, .slice none 0 0,I 0,I 0,I 0,I 0] 30)) = w8 at *
        refine wpAnyH_ready (rs := [20]) (by kernel_rfl) (by simp) ?_
        refine AllReadyH.cons rfl (fun K hK => ?_) AllReadyH.nil
        go_simp
        go_wp2_with (go_at_call 90; refine (k6 _ (HB.out _ B8)).mono ?_; rintro e w9 ⟨⟨ai,ci,rfl,rI⟩,b9⟩)
        have B9 : Below w1.heap.size w1 w9 := B8.trans (b9.mono B8.size)
        have rT := RT.below rT b9
        have rR := RR.below rR b9
        have rK := RK.below rK b9
        have rA := RA.below rA b9
        have hT := (b9.block _ (qa1 hT)).trans hT
        refine hK.out _ _ (HS.out _ B9) (fun hHeld => ?_)
        clear hK K
        try simp only [Act.put,q7a,q7b,q7c,q7d,q7e,q7f]
        refine wpAnyH_ready (rs := [22]) (by kernel_rfl) (by simp) ?_
        refine AllReadyH.cons rfl (fun K hK => ?_) AllReadyH.nil
        go_simp
        go_wp2_with (go_at_call 92; refine (k7 _ (HB.out _ B9)).mono ?_; rintro e w10 ⟨⟨am,cm2,rfl,rM⟩,b10⟩)
        have B10 : Below w1.heap.size w1 w10 := B9.trans (b10.mono B9.size)
        have rT := RT.below rT b10
        have rR := RR.below rR b10
        have rK := RK.below rK b10
        have rA := RA.below rA b10
        have rI := RI.below rI b10
        have hT := (b10.block _ (qa1 hT)).trans hT
        refine hK.out _ _ (HS.out _ B10) (fun hHeld => ?_)
        clear hK K
        try simp only [Act.put,q7a,q7b,q7c,q7d,q7e,q7f]
        refine wpAnyH_take (i := 23) (v := ?_) rfl (by kernel_rfl) (by kernel_rfl) (by kernel_rfl) (fun _ _ _ h => h) (Or.inl ⟨by rfl, ?_⟩) hHeld ?_
        rotate_left
        ·intro w' hSw
         obtain ⟨y1,y2,y3,y4,y5,y6,y7,y8,y9,y10,y14,y16,_,_⟩ := hSw
         go_simp
         try with_reducible rfl
        try simp only [Act.put,q7a,q7b,q7c,q7d,q7e,q7f]
        have hi13 : (Tryz.prog.info? 30).map (·.size) = some (#[I us,I md, .slice at_ ts.length ct, .slice none 0 0, .slice ar rs.length cr, .slice ak ks.length ck, .slice aa als.length ca, .slice ai is.length ci, .slice am ms.length cm2,I 0,I 0,I 0,I 0] : Array Value).size := by kernel_rfl
        have g9 : w10.grownBy (w10.setRow w7.heap.size #[I us,I md, .slice at_ ts.length ct, .slice none 0 0, .slice ar rs.length cr, .slice ak ks.length ck, .slice aa als.length ca, .slice ai is.length ci, .slice am ms.length cm2,I 0,I 0,I 0,I 0]) (some w7.heap.size) := Ce.grown_row _ _ _
        have L9 : TaG w w1 ts pl rs ks als is ms us md al_ cl (w10.setRow w7.heap.size #[I us,I md, .slice at_ ts.length ct, .slice none 0 0, .slice ar rs.length cr, .slice ak ks.length ck, .slice aa als.length ca, .slice ai is.length ci, .slice am ms.length cm2,I 0,I 0,I 0,I 0]) w7.heap.size at_ ct ar cr ak ck aa ca ai ci am cm2 := TaG.mk9 B10 HW.out hTs hT ⟨rT,rR,rK,rA,rI,rM⟩ g9 (setRow_heap _ _ _ _ _ _ hT)
        refine wpAnyH_ready (rs := [25]) (by kernel_rfl) (by simp) ?_
        refine AllReadyH.cons rfl (fun K hK => ?_) AllReadyH.nil
        rw [if_pos (by kernel_rfl)]
        refine wp_store_row 30 _ _ rfl w7.heap.size _ rfl rfl 30 _ hT hi13 rfl (by simp [Value.oneCell']) ?_
        refine hK.out _ _ (HSG.out _ _ _ (HS.out _ B10) B10 g9 hTs) (fun hHeld => ?_)
        clear hK K
        refine wpAnyH_done (by kernel_rfl) ?_ _
        go_wp2_with fail
        go_meet
        exact ⟨_,_,_,_,_,_,_,_,_,_,_,_,_,rfl,L9⟩
      ·go_simp
       have b7 := qa0 w6 (.cells #[I 0,I 0, .slice none 0 0, .slice none 0 0, .slice none 0 0, .slice none 0 0, .slice none 0 0, .slice none 0 0, .slice none 0 0,I 0,I 0,I 0,I 0] 30)
       have hT := heap_alloc_new w6 (.cells #[I 0,I 0, .slice none 0 0, .slice none 0 0, .slice none 0 0, .slice none 0 0, .slice none 0 0, .slice none 0 0, .slice none 0 0,I 0,I 0,I 0,I 0] 30)
       have hTs : w1.heap.size ≤ w6.heap.size := B6.size
       have B7 : Below w1.heap.size w1 (w6.alloc (.cells #[I 0,I 0, .slice none 0 0, .slice none 0 0, .slice none 0 0, .slice none 0 0, .slice none 0 0, .slice none 0 0, .slice none 0 0,I 0,I 0,I 0,I 0] 30)) := B6.trans (b7.mono B6.size)
       have rT := RT.below rT b7
       have rR := RR.below rR b7
       have rK := RK.below rK b7
       refine hK.out _ _ (HS.out _ B7) (fun hHeld => ?_)
       clear hK K
       try simp only [Act.put,q7a,q7b,q7c,q7d,q7e,q7f]
       generalize (w6.alloc (.cells #[I 0,I 0, .slice none 0 0, .slice none 0 0, .slice none 0 0, .slice none 0 0, .slice none 0 0, .slice none 0 0, .slice none 0 0,I 0,I 0,I 0,I 0] 30)) = w7 at *
       refine wpAnyH_ready (rs := [17]) (by kernel_rfl) (by simp) ?_
       refine AllReadyH.cons rfl (fun K hK => ?_) AllReadyH.nil
       go_simp
       go_wp2_with (go_at_call 89; refine (k5 _ (HB.out _ B7)).mono ?_; rintro e w8 ⟨⟨aa,ca,rfl,rA⟩,b8⟩)
       have B8 : Below w1.heap.size w1 w8 := B7.trans (b8.mono B7.size)
       have rT := RT.below rT b8
       have rR := RR.below rR b8
       have rK := RK.below rK b8
       have hT := (b8.block _ (qa1 hT)).trans hT
       refine hK.out _ _ (HS.out _ B8) (fun hHeld => ?_)
       clear hK K
       try simp only [Act.put,q7a,q7b,q7c,q7d,q7e,q7f]
       refine wpAnyH_ready (rs := [20]) (by kernel_rfl) (by simp) ?_
       refine AllReadyH.cons rfl (fun K hK => ?_) AllReadyH.nil
       go_simp
       go_wp2_with (go_at_call 90; refine (k6 _ (HB.out _ B8)).mono ?_; rintro e w9 ⟨⟨ai,ci,rfl,rI⟩,b9⟩)
       have B9 : Below w1.heap.size w1 w9 := B8.trans (b9.mono B8.size)
       have rT := RT.below rT b9
       have rR := RR.below rR b9
       have rK := RK.below rK b9
       have rA := RA.below rA b9
       have hT := (b9.block _ (qa1 hT)).trans hT
       refine hK.out _ _ (HS.out _ B9) (fun hHeld => ?_)
       clear hK K
       try simp only [Act.put,q7a,q7b,q7c,q7d,q7e,q7f]
       refine wpAnyH_ready (rs := [22]) (by kernel_rfl) (by simp) ?_
       refine AllReadyH.cons rfl (fun K hK => ?_) AllReadyH.nil
       go_simp
       go_wp2_with (go_at_call 92; refine (k7 _ (HB.out _ B9)).mono ?_; rintro e w10 ⟨⟨am,cm2,rfl,rM⟩,b10⟩)
       have B10 : Below w1.heap.size w1 w10 := B9.trans (b10.mono B9.size)
       have rT := RT.below rT b10
       have rR := RR.below rR b10
       have rK := RK.below rK b10
       have rA := RA.below rA b10
       have rI := RI.below rI b10
       have hT := (b10.block _ (qa1 hT)).trans hT
       refine hK.out _ _ (HS.out _ B10) (fun hHeld => ?_)
       clear hK K
       try simp only [Act.put,q7a,q7b,q7c,q7d,q7e,q7f]
       refine wpAnyH_take (i := 23) (v := ?_) rfl (by kernel_rfl) (by kernel_rfl) (by kernel_rfl) (fun _ _ _ h => h) (Or.inl ⟨by rfl, ?_⟩) hHeld ?_
       rotate_left
       ·intro w' hSw
        obtain ⟨y1,y2,y3,y4,y5,y6,y7,y8,y9,y10,y14,y16,_,_⟩ := hSw
        go_simp
        try with_reducible rfl
       try simp only [Act.put,q7a,q7b,q7c,q7d,q7e,q7f]
       have hi13 : (Tryz.prog.info? 30).map (·.size) = some (#[I us,I md, .slice at_ ts.length ct, .slice none 0 0, .slice ar rs.length cr, .slice ak ks.length ck, .slice aa als.length ca, .slice ai is.length ci, .slice am ms.length cm2,I 0,I 0,I 0,I 0] : Array Value).size := by kernel_rfl
       have g9 : w10.grownBy (w10.setRow w6.heap.size #[I us,I md, .slice at_ ts.length ct, .slice none 0 0, .slice ar rs.length cr, .slice ak ks.length ck, .slice aa als.length ca, .slice ai is.length ci, .slice am ms.length cm2,I 0,I 0,I 0,I 0]) (some w6.heap.size) := Ce.grown_row _ _ _
       have L9 : TaG w w1 ts pl rs ks als is ms us md al_ cl (w10.setRow w6.heap.size #[I us,I md, .slice at_ ts.length ct, .slice none 0 0, .slice ar rs.length cr, .slice ak ks.length ck, .slice aa als.length ca, .slice ai is.length ci, .slice am ms.length cm2,I 0,I 0,I 0,I 0]) w6.heap.size at_ ct ar cr ak ck aa ca ai ci am cm2 := TaG.mk9 B10 HW.out hTs hT ⟨rT,rR,rK,rA,rI,rM⟩ g9 (setRow_heap _ _ _ _ _ _ hT)
       refine wpAnyH_ready (rs := [25]) (by kernel_rfl) (by simp) ?_
       refine AllReadyH.cons rfl (fun K hK => ?_) AllReadyH.nil
       rw [if_pos (by kernel_rfl)]
       refine wp_store_row 30 _ _ rfl w6.heap.size _ rfl rfl 30 _ hT hi13 rfl (by simp [Value.oneCell']) ?_
       refine hK.out _ _ (HSG.out _ _ _ (HS.out _ B10) B10 g9 hTs) (fun hHeld => ?_)
       clear hK K
       refine wpAnyH_done (by kernel_rfl) ?_ _
       go_wp2_with fail
       go_meet
       exact ⟨_,_,_,_,_,_,_,_,_,_,_,_,_,rfl,L9⟩
     ·go_simp
      have b6 := qa0 w5 (.cells #[I 0,I 0, .slice none 0 0, .slice none 0 0, .slice none 0 0, .slice none 0 0, .slice none 0 0, .slice none 0 0, .slice none 0 0,I 0,I 0,I 0,I 0] 30)
      have hT := heap_alloc_new w5 (.cells #[I 0,I 0, .slice none 0 0, .slice none 0 0, .slice none 0 0, .slice none 0 0, .slice none 0 0, .slice none 0 0, .slice none 0 0,I 0,I 0,I 0,I 0] 30)
      have hTs : w1.heap.size ≤ w5.heap.size := B5.size
      have B6 : Below w1.heap.size w1 (w5.alloc (.cells #[I 0,I 0, .slice none 0 0, .slice none 0 0, .slice none 0 0, .slice none 0 0, .slice none 0 0, .slice none 0 0, .slice none 0 0,I 0,I 0,I 0,I 0] 30)) := B5.trans (b6.mono B5.size)
      have rT := RT.below rT b6
      have rR := RR.below rR b6
      refine hK.out _ _ (HS.out _ B6) (fun hHeld => ?_)
      clear hK K
      try simp only [Act.put,q7a,q7b,q7c,q7d,q7e,q7f]
      generalize (w5.alloc (.cells #[I 0,I 0, .slice none 0 0, .slice none 0 0, .slice none 0 0, .slice none 0 0, .slice none 0 0, .slice none 0 0, .slice none 0 0,I 0,I 0,I 0,I 0] 30)) = w6 at *
      refine wpAnyH_ready (rs := [15]) (by kernel_rfl) (by simp) ?_
      refine AllReadyH.cons rfl (fun K hK => ?_) AllReadyH.nil
      go_simp
      go_wp2_with (go_at_call 87; refine (k4 _ (HB.out _ B6)).mono ?_; rintro e w7 ⟨⟨ak,ck,rfl,rK⟩,b7⟩)
      have B7 : Below w1.heap.size w1 w7 := B6.trans (b7.mono B6.size)
      have rT := RT.below rT b7
      have rR := RR.below rR b7
      have hT := (b7.block _ (qa1 hT)).trans hT
      refine hK.out _ _ (HS.out _ B7) (fun hHeld => ?_)
      clear hK K
      try simp only [Act.put,q7a,q7b,q7c,q7d,q7e,q7f]
      refine wpAnyH_ready (rs := [17]) (by kernel_rfl) (by simp) ?_
      refine AllReadyH.cons rfl (fun K hK => ?_) AllReadyH.nil
      go_simp
      go_wp2_with (go_at_call 89; refine (k5 _ (HB.out _ B7)).mono ?_; rintro e w8 ⟨⟨aa,ca,rfl,rA⟩,b8⟩)
      have B8 : Below w1.heap.size w1 w8 := B7.trans (b8.mono B7.size)
      have rT := RT.below rT b8
      have rR := RR.below rR b8
      have rK := RK.below rK b8
      have hT := (b8.block _ (qa1 hT)).trans hT
      refine hK.out _ _ (HS.out _ B8) (fun hHeld => ?_)
      clear hK K
      try simp only [Act.put,q7a,q7b,q7c,q7d,q7e,q7f]
      refine wpAnyH_ready (rs := [20]) (by kernel_rfl) (by simp) ?_
      refine AllReadyH.cons rfl (fun K hK => ?_) AllReadyH.nil
      go_simp
      go_wp2_with (go_at_call 90; refine (k6 _ (HB.out _ B8)).mono ?_; rintro e w9 ⟨⟨ai,ci,rfl,rI⟩,b9⟩)
      have B9 : Below w1.heap.size w1 w9 := B8.trans (b9.mono B8.size)
      have rT := RT.below rT b9
      have rR := RR.below rR b9
      have rK := RK.below rK b9
      have rA := RA.below rA b9
      have hT := (b9.block _ (qa1 hT)).trans hT
      refine hK.out _ _ (HS.out _ B9) (fun hHeld => ?_)
      clear hK K
      try simp only [Act.put,q7a,q7b,q7c,q7d,q7e,q7f]
      refine wpAnyH_ready (rs := [22]) (by kernel_rfl) (by simp) ?_
      refine AllReadyH.cons rfl (fun K hK => ?_) AllReadyH.nil
      go_simp
      go_wp2_with (go_at_call 92; refine (k7 _ (HB.out _ B9)).mono ?_; rintro e w10 ⟨⟨am,cm2,rfl,rM⟩,b10⟩)
      have B10 : Below w1.heap.size w1 w10 := B9.trans (b10.mono B9.size)
      have rT := RT.below rT b10
      have rR := RR.below rR b10
      have rK := RK.below rK b10
      have rA := RA.below rA b10
      have rI := RI.below rI b10
      have hT := (b10.block _ (qa1 hT)).trans hT
      refine hK.out _ _ (HS.out _ B10) (fun hHeld => ?_)
      clear hK K
      try simp only [Act.put,q7a,q7b,q7c,q7d,q7e,q7f]
      refine wpAnyH_take (i := 23) (v := ?_) rfl (by kernel_rfl) (by kernel_rfl) (by kernel_rfl) (fun _ _ _ h => h) (Or.inl ⟨by rfl, ?_⟩) hHeld ?_
      rotate_left
      ·intro w' hSw
       obtain ⟨y1,y2,y3,y4,y5,y6,y7,y8,y9,y10,y14,y16,_,_⟩ := hSw
       go_simp
       try with_reducible rfl
      try simp only [Act.put,q7a,q7b,q7c,q7d,q7e,q7f]
      have hi13 : (Tryz.prog.info? 30).map (·.size) = some (#[I us,I md, .slice at_ ts.length ct, .slice none 0 0, .slice ar rs.length cr, .slice ak ks.length ck, .slice aa als.length ca, .slice ai is.length ci, .slice am ms.length cm2,I 0,I 0,I 0,I 0] : Array Value).size := by kernel_rfl
      have g9 : w10.grownBy (w10.setRow w5.heap.size #[I us,I md, .slice at_ ts.length ct, .slice none 0 0, .slice ar rs.length cr, .slice ak ks.length ck, .slice aa als.length ca, .slice ai is.length ci, .slice am ms.length cm2,I 0,I 0,I 0,I 0]) (some w5.heap.size) := Ce.grown_row _ _ _
      have L9 : TaG w w1 ts pl rs ks als is ms us md al_ cl (w10.setRow w5.heap.size #[I us,I md, .slice at_ ts.length ct, .slice none 0 0, .slice ar rs.length cr, .slice ak ks.length ck, .slice aa als.length ca, .slice ai is.length ci, .slice am ms.length cm2,I 0,I 0,I 0,I 0]) w5.heap.size at_ ct ar cr ak ck aa ca ai ci am cm2 := TaG.mk9 B10 HW.out hTs hT ⟨rT,rR,rK,rA,rI,rM⟩ g9 (setRow_heap _ _ _ _ _ _ hT)
      refine wpAnyH_ready (rs := [25]) (by kernel_rfl) (by simp) ?_
      refine AllReadyH.cons rfl (fun K hK => ?_) AllReadyH.nil
      rw [if_pos (by kernel_rfl)]
      refine wp_store_row 30 _ _ rfl w5.heap.size _ rfl rfl 30 _ hT hi13 rfl (by simp [Value.oneCell']) ?_
      refine hK.out _ _ (HSG.out _ _ _ (HS.out _ B10) B10 g9 hTs) (fun hHeld => ?_)
      clear hK K
      refine wpAnyH_done (by kernel_rfl) ?_ _
      go_wp2_with fail
      go_meet
      exact ⟨_,_,_,_,_,_,_,_,_,_,_,_,_,rfl,L9⟩
    ·go_simp
     have b5 := qa0 w4 (.cells #[I 0,I 0, .slice none 0 0, .slice none 0 0, .slice none 0 0, .slice none 0 0, .slice none 0 0, .slice none 0 0, .slice none 0 0,I 0,I 0,I 0,I 0] 30)
     have hT := heap_alloc_new w4 (.cells #[I 0,I 0, .slice none 0 0, .slice none 0 0, .slice none 0 0, .slice none 0 0, .slice none 0 0, .slice none 0 0, .slice none 0 0,I 0,I 0,I 0,I 0] 30)
     have hTs : w1.heap.size ≤ w4.heap.size := B4.size
     have B5 : Below w1.heap.size w1 (w4.alloc (.cells #[I 0,I 0, .slice none 0 0, .slice none 0 0, .slice none 0 0, .slice none 0 0, .slice none 0 0, .slice none 0 0, .slice none 0 0,I 0,I 0,I 0,I 0] 30)) := B4.trans (b5.mono B4.size)
     have rT := RT.below rT b5
     refine hK.out _ _ (HS.out _ B5) (fun hHeld => ?_)
     clear hK K
     try simp only [Act.put,q7a,q7b,q7c,q7d,q7e,q7f]
     generalize (w4.alloc (.cells #[I 0,I 0, .slice none 0 0, .slice none 0 0, .slice none 0 0, .slice none 0 0, .slice none 0 0, .slice none 0 0, .slice none 0 0,I 0,I 0,I 0,I 0] 30)) = w5 at *
     refine wpAnyH_ready (rs := [12]) (by kernel_rfl) (by simp) ?_
     refine AllReadyH.cons rfl (fun K hK => ?_) AllReadyH.nil
     go_simp
     go_wp2_with (go_at_call 86; refine (k3 _ (HB.out _ B5)).mono ?_; rintro e w6 ⟨⟨ar,cr,rfl,rR⟩,b6⟩)
     have B6 : Below w1.heap.size w1 w6 := B5.trans (b6.mono B5.size)
     have rT := RT.below rT b6
     have hT := (b6.block _ (qa1 hT)).trans hT
     refine hK.out _ _ (HS.out _ B6) (fun hHeld => ?_)
     clear hK K
     try simp only [Act.put,q7a,q7b,q7c,q7d,q7e,q7f]
     refine wpAnyH_ready (rs := [15]) (by kernel_rfl) (by simp) ?_
     refine AllReadyH.cons rfl (fun K hK => ?_) AllReadyH.nil
     go_simp
     go_wp2_with (go_at_call 87; refine (k4 _ (HB.out _ B6)).mono ?_; rintro e w7 ⟨⟨ak,ck,rfl,rK⟩,b7⟩)
     have B7 : Below w1.heap.size w1 w7 := B6.trans (b7.mono B6.size)
     have rT := RT.below rT b7
     have rR := RR.below rR b7
     have hT := (b7.block _ (qa1 hT)).trans hT
     refine hK.out _ _ (HS.out _ B7) (fun hHeld => ?_)
     clear hK K
     try simp only [Act.put,q7a,q7b,q7c,q7d,q7e,q7f]
     refine wpAnyH_ready (rs := [17]) (by kernel_rfl) (by simp) ?_
     refine AllReadyH.cons rfl (fun K hK => ?_) AllReadyH.nil
     go_simp
     go_wp2_with (go_at_call 89; refine (k5 _ (HB.out _ B7)).mono ?_; rintro e w8 ⟨⟨aa,ca,rfl,rA⟩,b8⟩)
     have B8 : Below w1.heap.size w1 w8 := B7.trans (b8.mono B7.size)
     have rT := RT.below rT b8
     have rR := RR.below rR b8
     have rK := RK.below rK b8
     have hT := (b8.block _ (qa1 hT)).trans hT
     refine hK.out _ _ (HS.out _ B8) (fun hHeld => ?_)
     clear hK K
     try simp only [Act.put,q7a,q7b,q7c,q7d,q7e,q7f]
     refine wpAnyH_ready (rs := [20]) (by kernel_rfl) (by simp) ?_
     refine AllReadyH.cons rfl (fun K hK => ?_) AllReadyH.nil
     go_simp
     go_wp2_with (go_at_call 90; refine (k6 _ (HB.out _ B8)).mono ?_; rintro e w9 ⟨⟨ai,ci,rfl,rI⟩,b9⟩)
     have B9 : Below w1.heap.size w1 w9 := B8.trans (b9.mono B8.size)
     have rT := RT.below rT b9
     have rR := RR.below rR b9
     have rK := RK.below rK b9
     have rA := RA.below rA b9
     have hT := (b9.block _ (qa1 hT)).trans hT
     refine hK.out _ _ (HS.out _ B9) (fun hHeld => ?_)
     clear hK K
     try simp only [Act.put,q7a,q7b,q7c,q7d,q7e,q7f]
     refine wpAnyH_ready (rs := [22]) (by kernel_rfl) (by simp) ?_
     refine AllReadyH.cons rfl (fun K hK => ?_) AllReadyH.nil
     go_simp
     go_wp2_with (go_at_call 92; refine (k7 _ (HB.out _ B9)).mono ?_; rintro e w10 ⟨⟨am,cm2,rfl,rM⟩,b10⟩)
     have B10 : Below w1.heap.size w1 w10 := B9.trans (b10.mono B9.size)
     have rT := RT.below rT b10
     have rR := RR.below rR b10
     have rK := RK.below rK b10
     have rA := RA.below rA b10
     have rI := RI.below rI b10
     have hT := (b10.block _ (qa1 hT)).trans hT
     refine hK.out _ _ (HS.out _ B10) (fun hHeld => ?_)
     clear hK K
     try simp only [Act.put,q7a,q7b,q7c,q7d,q7e,q7f]
     refine wpAnyH_take (i := 23) (v := ?_) rfl (by kernel_rfl) (by kernel_rfl) (by kernel_rfl) (fun _ _ _ h => h) (Or.inl ⟨by rfl, ?_⟩) hHeld ?_
     rotate_left
     ·intro w' hSw
      obtain ⟨y1,y2,y3,y4,y5,y6,y7,y8,y9,y10,y14,y16,_,_⟩ := hSw
      go_simp
      try with_reducible rfl
     try simp only [Act.put,q7a,q7b,q7c,q7d,q7e,q7f]
     have hi13 : (Tryz.prog.info? 30).map (·.size) = some (#[I us,I md, .slice at_ ts.length ct, .slice none 0 0, .slice ar rs.length cr, .slice ak ks.length ck, .slice aa als.length ca, .slice ai is.length ci, .slice am ms.length cm2,I 0,I 0,I 0,I 0] : Array Value).size := by kernel_rfl
     have g9 : w10.grownBy (w10.setRow w4.heap.size #[I us,I md, .slice at_ ts.length ct, .slice none 0 0, .slice ar rs.length cr, .slice ak ks.length ck, .slice aa als.length ca, .slice ai is.length ci, .slice am ms.length cm2,I 0,I 0,I 0,I 0]) (some w4.heap.size) := Ce.grown_row _ _ _
     have L9 : TaG w w1 ts pl rs ks als is ms us md al_ cl (w10.setRow w4.heap.size #[I us,I md, .slice at_ ts.length ct, .slice none 0 0, .slice ar rs.length cr, .slice ak ks.length ck, .slice aa als.length ca, .slice ai is.length ci, .slice am ms.length cm2,I 0,I 0,I 0,I 0]) w4.heap.size at_ ct ar cr ak ck aa ca ai ci am cm2 := TaG.mk9 B10 HW.out hTs hT ⟨rT,rR,rK,rA,rI,rM⟩ g9 (setRow_heap _ _ _ _ _ _ hT)
     refine wpAnyH_ready (rs := [25]) (by kernel_rfl) (by simp) ?_
     refine AllReadyH.cons rfl (fun K hK => ?_) AllReadyH.nil
     rw [if_pos (by kernel_rfl)]
     refine wp_store_row 30 _ _ rfl w4.heap.size _ rfl rfl 30 _ hT hi13 rfl (by simp [Value.oneCell']) ?_
     refine hK.out _ _ (HSG.out _ _ _ (HS.out _ B10) B10 g9 hTs) (fun hHeld => ?_)
     clear hK K
     refine wpAnyH_done (by kernel_rfl) ?_ _
     go_wp2_with fail
     go_meet
     exact ⟨_,_,_,_,_,_,_,_,_,_,_,_,_,rfl,L9⟩
   ·go_simp
    have b4 := qa0 w3 (.cells #[I 0,I 0, .slice none 0 0, .slice none 0 0, .slice none 0 0, .slice none 0 0, .slice none 0 0, .slice none 0 0, .slice none 0 0,I 0,I 0,I 0,I 0] 30)
    have hT := heap_alloc_new w3 (.cells #[I 0,I 0, .slice none 0 0, .slice none 0 0, .slice none 0 0, .slice none 0 0, .slice none 0 0, .slice none 0 0, .slice none 0 0,I 0,I 0,I 0,I 0] 30)
    have hTs : w1.heap.size ≤ w3.heap.size := B3.size
    have B4 : Below w1.heap.size w1 (w3.alloc (.cells #[I 0,I 0, .slice none 0 0, .slice none 0 0, .slice none 0 0, .slice none 0 0, .slice none 0 0, .slice none 0 0, .slice none 0 0,I 0,I 0,I 0,I 0] 30)) := B3.trans (b4.mono B3.size)
    refine hK.out _ _ (HS.out _ B4) (fun hHeld => ?_)
    clear hK K
    try simp only [Act.put,q7a,q7b,q7c,q7d,q7e,q7f]
    generalize (w3.alloc (.cells #[I 0,I 0, .slice none 0 0, .slice none 0 0, .slice none 0 0, .slice none 0 0, .slice none 0 0, .slice none 0 0, .slice none 0 0,I 0,I 0,I 0,I 0] 30)) = w4 at *
    refine wpAnyH_ready (rs := [9]) (by kernel_rfl) (by simp) ?_
    refine AllReadyH.cons rfl (fun K hK => ?_) AllReadyH.nil
    go_simp
    go_wp2_with (go_at_call 85; refine (k2 _ (HK2.out _ B4)).mono ?_; rintro e w5 ⟨⟨at_,ct,rfl,rT⟩,b5⟩)
    have B5 : Below w1.heap.size w1 w5 := B4.trans (b5.mono B4.size)
    have hT := (b5.block _ (qa1 hT)).trans hT
    refine hK.out _ _ (HS.out _ B5) (fun hHeld => ?_)
    clear hK K
    try simp only [Act.put,q7a,q7b,q7c,q7d,q7e,q7f]
    refine wpAnyH_ready (rs := [12]) (by kernel_rfl) (by simp) ?_
    refine AllReadyH.cons rfl (fun K hK => ?_) AllReadyH.nil
    go_simp
    go_wp2_with (go_at_call 86; refine (k3 _ (HB.out _ B5)).mono ?_; rintro e w6 ⟨⟨ar,cr,rfl,rR⟩,b6⟩)
    have B6 : Below w1.heap.size w1 w6 := B5.trans (b6.mono B5.size)
    have rT := RT.below rT b6
    have hT := (b6.block _ (qa1 hT)).trans hT
    refine hK.out _ _ (HS.out _ B6) (fun hHeld => ?_)
    clear hK K
    try simp only [Act.put,q7a,q7b,q7c,q7d,q7e,q7f]
    refine wpAnyH_ready (rs := [15]) (by kernel_rfl) (by simp) ?_
    refine AllReadyH.cons rfl (fun K hK => ?_) AllReadyH.nil
    go_simp
    go_wp2_with (go_at_call 87; refine (k4 _ (HB.out _ B6)).mono ?_; rintro e w7 ⟨⟨ak,ck,rfl,rK⟩,b7⟩)
    have B7 : Below w1.heap.size w1 w7 := B6.trans (b7.mono B6.size)
    have rT := RT.below rT b7
    have rR := RR.below rR b7
    have hT := (b7.block _ (qa1 hT)).trans hT
    refine hK.out _ _ (HS.out _ B7) (fun hHeld => ?_)
    clear hK K
    try simp only [Act.put,q7a,q7b,q7c,q7d,q7e,q7f]
    refine wpAnyH_ready (rs := [17]) (by kernel_rfl) (by simp) ?_
    refine AllReadyH.cons rfl (fun K hK => ?_) AllReadyH.nil
    go_simp
    go_wp2_with (go_at_call 89; refine (k5 _ (HB.out _ B7)).mono ?_; rintro e w8 ⟨⟨aa,ca,rfl,rA⟩,b8⟩)
    have B8 : Below w1.heap.size w1 w8 := B7.trans (b8.mono B7.size)
    have rT := RT.below rT b8
    have rR := RR.below rR b8
    have rK := RK.below rK b8
    have hT := (b8.block _ (qa1 hT)).trans hT
    refine hK.out _ _ (HS.out _ B8) (fun hHeld => ?_)
    clear hK K
    try simp only [Act.put,q7a,q7b,q7c,q7d,q7e,q7f]
    refine wpAnyH_ready (rs := [20]) (by kernel_rfl) (by simp) ?_
    refine AllReadyH.cons rfl (fun K hK => ?_) AllReadyH.nil
    go_simp
    go_wp2_with (go_at_call 90; refine (k6 _ (HB.out _ B8)).mono ?_; rintro e w9 ⟨⟨ai,ci,rfl,rI⟩,b9⟩)
    have B9 : Below w1.heap.size w1 w9 := B8.trans (b9.mono B8.size)
    have rT := RT.below rT b9
    have rR := RR.below rR b9
    have rK := RK.below rK b9
    have rA := RA.below rA b9
    have hT := (b9.block _ (qa1 hT)).trans hT
    refine hK.out _ _ (HS.out _ B9) (fun hHeld => ?_)
    clear hK K
    try simp only [Act.put,q7a,q7b,q7c,q7d,q7e,q7f]
    refine wpAnyH_ready (rs := [22]) (by kernel_rfl) (by simp) ?_
    refine AllReadyH.cons rfl (fun K hK => ?_) AllReadyH.nil
    go_simp
    go_wp2_with (go_at_call 92; refine (k7 _ (HB.out _ B9)).mono ?_; rintro e w10 ⟨⟨am,cm2,rfl,rM⟩,b10⟩)
    have B10 : Below w1.heap.size w1 w10 := B9.trans (b10.mono B9.size)
    have rT := RT.below rT b10
    have rR := RR.below rR b10
    have rK := RK.below rK b10
    have rA := RA.below rA b10
    have rI := RI.below rI b10
    have hT := (b10.block _ (qa1 hT)).trans hT
    refine hK.out _ _ (HS.out _ B10) (fun hHeld => ?_)
    clear hK K
    try simp only [Act.put,q7a,q7b,q7c,q7d,q7e,q7f]
    refine wpAnyH_take (i := 23) (v := ?_) rfl (by kernel_rfl) (by kernel_rfl) (by kernel_rfl) (fun _ _ _ h => h) (Or.inl ⟨by rfl, ?_⟩) hHeld ?_
    rotate_left
    ·intro w' hSw
     obtain ⟨y1,y2,y3,y4,y5,y6,y7,y8,y9,y10,y14,y16,_,_⟩ := hSw
     go_simp
     try with_reducible rfl
    try simp only [Act.put,q7a,q7b,q7c,q7d,q7e,q7f]
    have hi13 : (Tryz.prog.info? 30).map (·.size) = some (#[I us,I md, .slice at_ ts.length ct, .slice none 0 0, .slice ar rs.length cr, .slice ak ks.length ck, .slice aa als.length ca, .slice ai is.length ci, .slice am ms.length cm2,I 0,I 0,I 0,I 0] : Array Value).size := by kernel_rfl
    have g9 : w10.grownBy (w10.setRow w3.heap.size #[I us,I md, .slice at_ ts.length ct, .slice none 0 0, .slice ar rs.length cr, .slice ak ks.length ck, .slice aa als.length ca, .slice ai is.length ci, .slice am ms.length cm2,I 0,I 0,I 0,I 0]) (some w3.heap.size) := Ce.grown_row _ _ _
    have L9 : TaG w w1 ts pl rs ks als is ms us md al_ cl (w10.setRow w3.heap.size #[I us,I md, .slice at_ ts.length ct, .slice none 0 0, .slice ar rs.length cr, .slice ak ks.length ck, .slice aa als.length ca, .slice ai is.length ci, .slice am ms.length cm2,I 0,I 0,I 0,I 0]) w3.heap.size at_ ct ar cr ak ck aa ca ai ci am cm2 := TaG.mk9 B10 HW.out hTs hT ⟨rT,rR,rK,rA,rI,rM⟩ g9 (setRow_heap _ _ _ _ _ _ hT)
    refine wpAnyH_ready (rs := [25]) (by kernel_rfl) (by simp) ?_
    refine AllReadyH.cons rfl (fun K hK => ?_) AllReadyH.nil
    rw [if_pos (by kernel_rfl)]
    refine wp_store_row 30 _ _ rfl w3.heap.size _ rfl rfl 30 _ hT hi13 rfl (by simp [Value.oneCell']) ?_
    refine hK.out _ _ (HSG.out _ _ _ (HS.out _ B10) B10 g9 hTs) (fun hHeld => ?_)
    clear hK K
    refine wpAnyH_done (by kernel_rfl) ?_ _
    go_wp2_with fail
    go_meet
    exact ⟨_,_,_,_,_,_,_,_,_,_,_,_,_,rfl,L9⟩
  ·go_simp
   have b3 := qa0 w2 (.cells #[I 0,I 0, .slice none 0 0, .slice none 0 0, .slice none 0 0, .slice none 0 0, .slice none 0 0, .slice none 0 0, .slice none 0 0,I 0,I 0,I 0,I 0] 30)
   have hT := heap_alloc_new w2 (.cells #[I 0,I 0, .slice none 0 0, .slice none 0 0, .slice none 0 0, .slice none 0 0, .slice none 0 0, .slice none 0 0, .slice none 0 0,I 0,I 0,I 0,I 0] 30)
   have hTs : w1.heap.size ≤ w2.heap.size := B2.size
   have B3 : Below w1.heap.size w1 (w2.alloc (.cells #[I 0,I 0, .slice none 0 0, .slice none 0 0, .slice none 0 0, .slice none 0 0, .slice none 0 0, .slice none 0 0, .slice none 0 0,I 0,I 0,I 0,I 0] 30)) := B2.trans (b3.mono B2.size)
   refine hK.out _ _ (HS.out _ B3) (fun hHeld => ?_)
   clear hK K
   try simp only [Act.put,q7a,q7b,q7c,q7d,q7e,q7f]
   generalize (w2.alloc (.cells #[I 0,I 0, .slice none 0 0, .slice none 0 0, .slice none 0 0, .slice none 0 0, .slice none 0 0, .slice none 0 0, .slice none 0 0,I 0,I 0,I 0,I 0] 30)) = w3 at *
   refine wpAnyH_ready (rs := [2]) (by kernel_rfl) (by simp) ?_
   refine AllReadyH.cons rfl (fun K hK => ?_) AllReadyH.nil
   go_simp
   go_wp2_with (go_at_call 84; refine (k1 _).mono ?_; rintro e w4 ⟨rfl,b4⟩)
   have B4 : Below w1.heap.size w1 w4 := B3.trans (b4.mono B3.size)
   have hT := (b4.block _ (qa1 hT)).trans hT
   refine hK.out _ _ (HS.out _ B4) (fun hHeld => ?_)
   clear hK K
   try simp only [Act.put,q7a,q7b,q7c,q7d,q7e,q7f]
   refine wpAnyH_ready (rs := [9]) (by kernel_rfl) (by simp) ?_
   refine AllReadyH.cons rfl (fun K hK => ?_) AllReadyH.nil
   go_simp
   go_wp2_with (go_at_call 85; refine (k2 _ (HK2.out _ B4)).mono ?_; rintro e w5 ⟨⟨at_,ct,rfl,rT⟩,b5⟩)
   have B5 : Below w1.heap.size w1 w5 := B4.trans (b5.mono B4.size)
   have hT := (b5.block _ (qa1 hT)).trans hT
   refine hK.out _ _ (HS.out _ B5) (fun hHeld => ?_)
   clear hK K
   try simp only [Act.put,q7a,q7b,q7c,q7d,q7e,q7f]
   refine wpAnyH_ready (rs := [12]) (by kernel_rfl) (by simp) ?_
   refine AllReadyH.cons rfl (fun K hK => ?_) AllReadyH.nil
   go_simp
   go_wp2_with (go_at_call 86; refine (k3 _ (HB.out _ B5)).mono ?_; rintro e w6 ⟨⟨ar,cr,rfl,rR⟩,b6⟩)
   have B6 : Below w1.heap.size w1 w6 := B5.trans (b6.mono B5.size)
   have rT := RT.below rT b6
   have hT := (b6.block _ (qa1 hT)).trans hT
   refine hK.out _ _ (HS.out _ B6) (fun hHeld => ?_)
   clear hK K
   try simp only [Act.put,q7a,q7b,q7c,q7d,q7e,q7f]
   refine wpAnyH_ready (rs := [15]) (by kernel_rfl) (by simp) ?_
   refine AllReadyH.cons rfl (fun K hK => ?_) AllReadyH.nil
   go_simp
   go_wp2_with (go_at_call 87; refine (k4 _ (HB.out _ B6)).mono ?_; rintro e w7 ⟨⟨ak,ck,rfl,rK⟩,b7⟩)
   have B7 : Below w1.heap.size w1 w7 := B6.trans (b7.mono B6.size)
   have rT := RT.below rT b7
   have rR := RR.below rR b7
   have hT := (b7.block _ (qa1 hT)).trans hT
   refine hK.out _ _ (HS.out _ B7) (fun hHeld => ?_)
   clear hK K
   try simp only [Act.put,q7a,q7b,q7c,q7d,q7e,q7f]
   refine wpAnyH_ready (rs := [17]) (by kernel_rfl) (by simp) ?_
   refine AllReadyH.cons rfl (fun K hK => ?_) AllReadyH.nil
   go_simp
   go_wp2_with (go_at_call 89; refine (k5 _ (HB.out _ B7)).mono ?_; rintro e w8 ⟨⟨aa,ca,rfl,rA⟩,b8⟩)
   have B8 : Below w1.heap.size w1 w8 := B7.trans (b8.mono B7.size)
   have rT := RT.below rT b8
   have rR := RR.below rR b8
   have rK := RK.below rK b8
   have hT := (b8.block _ (qa1 hT)).trans hT
   refine hK.out _ _ (HS.out _ B8) (fun hHeld => ?_)
   clear hK K
   try simp only [Act.put,q7a,q7b,q7c,q7d,q7e,q7f]
   refine wpAnyH_ready (rs := [20]) (by kernel_rfl) (by simp) ?_
   refine AllReadyH.cons rfl (fun K hK => ?_) AllReadyH.nil
   go_simp
   go_wp2_with (go_at_call 90; refine (k6 _ (HB.out _ B8)).mono ?_; rintro e w9 ⟨⟨ai,ci,rfl,rI⟩,b9⟩)
   have B9 : Below w1.heap.size w1 w9 := B8.trans (b9.mono B8.size)
   have rT := RT.below rT b9
   have rR := RR.below rR b9
   have rK := RK.below rK b9
   have rA := RA.below rA b9
   have hT := (b9.block _ (qa1 hT)).trans hT
   refine hK.out _ _ (HS.out _ B9) (fun hHeld => ?_)
   clear hK K
   try simp only [Act.put,q7a,q7b,q7c,q7d,q7e,q7f]
   refine wpAnyH_ready (rs := [22]) (by kernel_rfl) (by simp) ?_
   refine AllReadyH.cons rfl (fun K hK => ?_) AllReadyH.nil
   go_simp
   go_wp2_with (go_at_call 92; refine (k7 _ (HB.out _ B9)).mono ?_; rintro e w10 ⟨⟨am,cm2,rfl,rM⟩,b10⟩)
   have B10 : Below w1.heap.size w1 w10 := B9.trans (b10.mono B9.size)
   have rT := RT.below rT b10
   have rR := RR.below rR b10
   have rK := RK.below rK b10
   have rA := RA.below rA b10
   have rI := RI.below rI b10
   have hT := (b10.block _ (qa1 hT)).trans hT
   refine hK.out _ _ (HS.out _ B10) (fun hHeld => ?_)
   clear hK K
   try simp only [Act.put,q7a,q7b,q7c,q7d,q7e,q7f]
   refine wpAnyH_take (i := 23) (v := ?_) rfl (by kernel_rfl) (by kernel_rfl) (by kernel_rfl) (fun _ _ _ h => h) (Or.inl ⟨by rfl, ?_⟩) hHeld ?_
   rotate_left
   ·intro w' hSw
    obtain ⟨y1,y2,y3,y4,y5,y6,y7,y8,y9,y10,y14,y16,_,_⟩ := hSw
    go_simp
    try with_reducible rfl
   try simp only [Act.put,q7a,q7b,q7c,q7d,q7e,q7f]
   have hi13 : (Tryz.prog.info? 30).map (·.size) = some (#[I us,I md, .slice at_ ts.length ct, .slice none 0 0, .slice ar rs.length cr, .slice ak ks.length ck, .slice aa als.length ca, .slice ai is.length ci, .slice am ms.length cm2,I 0,I 0,I 0,I 0] : Array Value).size := by kernel_rfl
   have g9 : w10.grownBy (w10.setRow w2.heap.size #[I us,I md, .slice at_ ts.length ct, .slice none 0 0, .slice ar rs.length cr, .slice ak ks.length ck, .slice aa als.length ca, .slice ai is.length ci, .slice am ms.length cm2,I 0,I 0,I 0,I 0]) (some w2.heap.size) := Ce.grown_row _ _ _
   have L9 : TaG w w1 ts pl rs ks als is ms us md al_ cl (w10.setRow w2.heap.size #[I us,I md, .slice at_ ts.length ct, .slice none 0 0, .slice ar rs.length cr, .slice ak ks.length ck, .slice aa als.length ca, .slice ai is.length ci, .slice am ms.length cm2,I 0,I 0,I 0,I 0]) w2.heap.size at_ ct ar cr ak ck aa ca ai ci am cm2 := TaG.mk9 B10 HW.out hTs hT ⟨rT,rR,rK,rA,rI,rM⟩ g9 (setRow_heap _ _ _ _ _ _ hT)
   refine wpAnyH_ready (rs := [25]) (by kernel_rfl) (by simp) ?_
   refine AllReadyH.cons rfl (fun K hK => ?_) AllReadyH.nil
   rw [if_pos (by kernel_rfl)]
   refine wp_store_row 30 _ _ rfl w2.heap.size _ rfl rfl 30 _ hT hi13 rfl (by simp [Value.oneCell']) ?_
   refine hK.out _ _ (HSG.out _ _ _ (HS.out _ B10) B10 g9 hTs) (fun hHeld => ?_)
   clear hK K
   refine wpAnyH_done (by kernel_rfl) ?_ _
   go_wp2_with fail
   go_meet
   exact ⟨_,_,_,_,_,_,_,_,_,_,_,_,_,rfl,L9⟩
 case rest =>
  obtain ⟨T,at_,ct,ar,cr,ak,ck,aa,ca,ai,ci,am,cm2,rfl,HA⟩ := hcut
  have hA := HA.out
  have hTt : wc.cell? ⟨T,2,none⟩ = some (.slice at_ ts.length ct) := by rw [cell_of_row wc T 2 _ _ (0,0) hA.h]; rfl
  have HTL : Hid (T < wc.heap.size) := qa1 hA.h
  have kG := qgr wc ⟨al_,pl.length,cl⟩ pl (qdg (n := pl.length) (base := w.heap.size) (s := ⟨al_,pl.length,cl⟩) (l := pl) rfl hA.l) HPL.out 94 #[.pointer (some ⟨T,0,none⟩)] (enters_of Tryz.func94 (by kernel_rfl) rfl) (rgF ts) (fun W hW p _ => qmn W T ⟨at_,ts.length,ct⟩ ts (by rw [qa7 hW _ _ (qa1 hA.h)]; exact hTt) (fun W' hW' => RO.rows (l := ts) (RT.below (RT.below hA.six.t hW) hW') (fun _ _ _ h => qlb h)) p)
  clear hA hTt
  clear k1 k2 k2' k3 k4 k5 k6 k7 HCC HSZ HV HB0 HS HSG HK2 HB B2
  go_wp2_with (first | fail)
  refine kG.mono ?_
  clear kG
  rintro e w2 ⟨⟨ag,cg,xs,rfl,og,xg⟩,b2⟩
  have hg3 : RG wc.heap.size w2 (pl.map (rgF ts)) (.slice ag pl.length cg) := ⟨xs,by rw [List.length_map]; exact og,xg⟩
  have hT2 := (b2.block _ (qa1 HA.out.h)).trans HA.out.h
  have z3 := cell_of_row w2 T 3 _ _ (0,0) hT2
  have f3 := frozen_of_row w2 T 3 _ _ hT2
  simp at z3
  have g3 := qac w2 T 3 (.slice ag pl.length cg)
  have H3 : Hid (Below w.heap.size w (w2.setCell ⟨T,3,none⟩ (.slice ag pl.length cg)) ∧ (w2.setCell ⟨T,3,none⟩ (.slice ag pl.length cg)).heap[T]? = some (.cells #[I us,I md, .slice at_ ts.length ct, .slice ag pl.length cg, .slice ar rs.length cr, .slice ak ks.length ck, .slice aa als.length ca, .slice ai is.length ci, .slice am ms.length cm2,I 0,I 0,I 0,I 0] 30 (0,0)) ∧ Six w.heap.size (w2.setCell ⟨T,3,none⟩ (.slice ag pl.length cg)) ts rs ks als is ms (.slice at_ ts.length ct) (.slice ar rs.length cr) (.slice ak ks.length ck) (.slice aa als.length ca) (.slice ai is.length ci) (.slice am ms.length cm2) ∧ RG w.heap.size (w2.setCell ⟨T,3,none⟩ (.slice ag pl.length cg)) (pl.map (rgF ts)) (.slice ag pl.length cg) ∧ (w2.setCell ⟨T,3,none⟩ (.slice ag pl.length cg)).heap[w.heap.size + 1 + 1]? = some (.cells #[I 0,I 0, .slice none 0 0, .slice none 0 0, .slice none 0 0, .slice none 0 0, .slice none 0 0, .slice none 0 0, .slice none 0 0,I 0,I 0,I 0,I 0] 30 (0,0))) := by
   have hb := HA.out.b.trans (b2.mono HA.out.b.size)
   have hs := HA.out.s
   have hr2 := (b2.block _ (qa1 HA.out.r)).trans HA.out.r
   refine ⟨hb.grown g3 hb.size (fun k e => by cases e; omega),heap_setCell_same w2 T 3 _ _ _ hT2,(HA.out.six.below b2).store hT2 g3, ?_, ?_⟩
   ·obtain ⟨xs',h1,h2⟩ := RG.store hg3 hT2 g3
    exact ⟨xs',qb2 h1 HA.out.b.size,h2⟩
   ·rw [qay g3 (qa1 hr2) (fun e => by have := Option.some.inj e; omega)]
    exact hr2
  have HTs : Hid (w.heap.size + 3 ≤ T) := HA.out.s
  clear HA hg3 og xg b2 hT2 g3
  go_upto_region 4 with fail
  generalize w2.setCell ⟨T,3,none⟩ (.slice ag pl.length cg) = w3 at *
  clear z3 f3
  have hT3 := H3.out.2.1
  have hi13 : (Tryz.prog.info? 30).map (·.size) = some (#[I us,I md, .slice at_ ts.length ct, .slice ag pl.length cg, .slice ar rs.length cr, .slice ak ks.length ck, .slice aa als.length ca, .slice ai is.length ci, .slice am ms.length cm2,I 0,I 0,I 0,I 0] : Array Value).size := by kernel_rfl
  have kR := qga (tbG us md ts pl rs ks als is ms 0 0 0 0) ⟨⟨at_,ts.length,ct⟩,⟨ag,pl.length,cg⟩,⟨ar,rs.length,cr⟩,⟨ak,ks.length,ck⟩,⟨aa,als.length,ca⟩,⟨ai,is.length,ci⟩,⟨am,ms.length,cm2⟩⟩ w3 (qqv H3.out.2.2.1 H3.out.2.2.2.1) HOK.out
  rw [HRM.out] at kR
  have kR2 : Calls Tryz.prog 73 #[.agg #[I us,I md, .slice at_ ts.length ct, .slice ag pl.length cg, .slice ar rs.length cr, .slice ak ks.length ck, .slice aa als.length ca, .slice ai is.length ci, .slice am ms.length cm2,I 0,I 0,I 0,I 0]] w3 fun e w' => e = .returned (.agg #[I zd,I zf,I ze,I zc]) ∧ Below w3.heap.size w3 w' := kR
  clear kR
  go_upto_region 5 with (first | (with_reducible refine qa8 ?_; refine wpList_load_row rfl 30 _ rfl T rfl 30 _ (0,0) _ hT3 Tryz.underlying30 rfl hi13 ?_) | (go_at_call 73; refine kR2.mono ?_; clear kR2; rintro e w4 ⟨rfl,b4⟩))
  have b5 := qa0 w4 (.cells #[I zd,I zf,I ze,I zc] 144)
  have hR5 := heap_alloc_new w4 (.cells #[I zd,I zf,I ze,I zc] 144)
  have b35 := b4.trans (b5.mono b4.size)
  have H5 : Hid (Below w.heap.size w (w4.alloc (.cells #[I zd,I zf,I ze,I zc] 144)) ∧ Six w.heap.size (w4.alloc (.cells #[I zd,I zf,I ze,I zc] 144)) ts rs ks als is ms (.slice at_ ts.length ct) (.slice ar rs.length cr) (.slice ak ks.length ck) (.slice aa als.length ca) (.slice ai is.length ci) (.slice am ms.length cm2) ∧ RG w.heap.size (w4.alloc (.cells #[I zd,I zf,I ze,I zc] 144)) (pl.map (rgF ts)) (.slice ag pl.length cg) ∧ (w4.alloc (.cells #[I zd,I zf,I ze,I zc] 144)).heap[w.heap.size + 1 + 1]? = some (.cells #[I 0,I 0, .slice none 0 0, .slice none 0 0, .slice none 0 0, .slice none 0 0, .slice none 0 0, .slice none 0 0, .slice none 0 0,I 0,I 0,I 0,I 0] 30 (0,0))) := ⟨H3.out.1.trans (b35.mono H3.out.1.size),H3.out.2.2.1.below b35,RG.below H3.out.2.2.2.1 b35,(b35.block _ (qa1 H3.out.2.2.2.2)).trans H3.out.2.2.2.2⟩
  have H0 := (b35.block _ (qa1 hT3)).trans hT3
  have hRT : w4.heap.size ≠ T := fun e => by have := qa1 ((b4.block _ (qa1 hT3)).trans hT3); omega
  clear hT3 b4 b5 b35 H3
  generalize (w4.alloc (.cells #[I zd,I zf,I ze,I zc] 144)) = w5 at *
  generalize w4.heap.size = R7 at *
  have b6 : Below w5.heap.size w5 w5.drew := (Below.refl _ _).drew
  have R0 : w5.drew.cell? ⟨R7,0,none⟩ = some (I zd) ∧ w5.drew.cell? ⟨R7,1,none⟩ = some (I zf) ∧ w5.drew.cell? ⟨R7,2,none⟩ = some (I ze) ∧ w5.drew.cell? ⟨R7,3,none⟩ = some (I zc) := ⟨by rw [cell_of_row _ R7 0 _ _ (0,0) ((b6.block _ (qa1 hR5)).trans hR5)]; rfl,by rw [cell_of_row _ R7 1 _ _ (0,0) ((b6.block _ (qa1 hR5)).trans hR5)]; rfl,by rw [cell_of_row _ R7 2 _ _ (0,0) ((b6.block _ (qa1 hR5)).trans hR5)]; rfl,by rw [cell_of_row _ R7 3 _ _ (0,0) ((b6.block _ (qa1 hR5)).trans hR5)]; rfl⟩
  have H0 := (b6.block _ (qa1 H0)).trans H0
  have H6 : Hid (Below w.heap.size w w5.drew ∧ Six w.heap.size w5.drew ts rs ks als is ms (.slice at_ ts.length ct) (.slice ar rs.length cr) (.slice ak ks.length ck) (.slice aa als.length ca) (.slice ai is.length ci) (.slice am ms.length cm2) ∧ RG w.heap.size w5.drew (pl.map (rgF ts)) (.slice ag pl.length cg) ∧ w5.drew.heap[w.heap.size + 1 + 1]? = some (.cells #[I 0,I 0, .slice none 0 0, .slice none 0 0, .slice none 0 0, .slice none 0 0, .slice none 0 0, .slice none 0 0, .slice none 0 0,I 0,I 0,I 0,I 0] 30 (0,0))) := ⟨H5.out.1.trans (b6.mono H5.out.1.size),H5.out.2.1.below b6,RG.below H5.out.2.2.1 b6,(b6.block _ (qa1 H5.out.2.2.2)).trans H5.out.2.2.2⟩
  clear hR5 b6
  have HH5 : w5.heap[T]? = some (.cells #[I us,I md, .slice at_ ts.length ct, .slice ag pl.length cg, .slice ar rs.length cr, .slice ak ks.length ck, .slice aa als.length ca, .slice ai is.length ci, .slice am ms.length cm2,I 0,I 0,I 0,I 0] 30 (0,0)) := H0
  have J1 := heap_setCell_same w5 T 9 _ _ (I zd) HH5
  have J2 := heap_setCell_same _ T 10 _ _ (I zf) J1
  have J3 := heap_setCell_same _ T 11 _ _ (I ze) J2
  have J4 := heap_setCell_same _ T 12 _ _ (I zc) J3
  have z9 : w5.drew.cell? ⟨T,9,none⟩ = some (I 0) := by rw [cell_of_row w5.drew T 9 _ _ (0,0) H0]; rfl
  have f9 := frozen_of_row w5.drew T 9 _ _ H0
  have z10 : ((w5.setCell ⟨T,9,none⟩ (I zd)).drew).cell? ⟨T,10,none⟩ = some (I 0) := by rw [cell_of_row ((w5.setCell ⟨T,9,none⟩ (I zd)).drew) T 10 _ _ (0,0) J1]; rfl
  have f10 := frozen_of_row ((w5.setCell ⟨T,9,none⟩ (I zd)).drew) T 10 _ _ J1
  have z11 : (((w5.setCell ⟨T,9,none⟩ (I zd)).setCell ⟨T,10,none⟩ (I zf)).drew).cell? ⟨T,11,none⟩ = some (I 0) := by rw [cell_of_row (((w5.setCell ⟨T,9,none⟩ (I zd)).setCell ⟨T,10,none⟩ (I zf)).drew) T 11 _ _ (0,0) J2]; rfl
  have f11 := frozen_of_row (((w5.setCell ⟨T,9,none⟩ (I zd)).setCell ⟨T,10,none⟩ (I zf)).drew) T 11 _ _ J2
  have z12 : ((((w5.setCell ⟨T,9,none⟩ (I zd)).setCell ⟨T,10,none⟩ (I zf)).setCell ⟨T,11,none⟩ (I ze)).drew).cell? ⟨T,12,none⟩ = some (I 0) := by rw [cell_of_row ((((w5.setCell ⟨T,9,none⟩ (I zd)).setCell ⟨T,10,none⟩ (I zf)).setCell ⟨T,11,none⟩ (I ze)).drew) T 12 _ _ (0,0) J3]; rfl
  have f12 := frozen_of_row ((((w5.setCell ⟨T,9,none⟩ (I zd)).setCell ⟨T,10,none⟩ (I zf)).setCell ⟨T,11,none⟩ (I ze)).drew) T 12 _ _ J3
  have HJ4 : Hid _ := J4
  have HH0 : Hid (w5.heap[T]? = some (.cells #[I us,I md, .slice at_ ts.length ct, .slice ag pl.length cg, .slice ar rs.length cr, .slice ak ks.length ck, .slice aa als.length ca, .slice ai is.length ci, .slice am ms.length cm2,I 0,I 0,I 0,I 0] 30 (0,0))) := HH5
  clear J1 J2 J3 J4 HH5 H6
  have K0 : w5.cell? ⟨R7,0,none⟩ = some (I zd) ∧ w5.cell? ⟨R7,1,none⟩ = some (I zf) ∧ w5.cell? ⟨R7,2,none⟩ = some (I ze) ∧ w5.cell? ⟨R7,3,none⟩ = some (I zc) := R0
  have K1 : ((w5.setCell ⟨T,9,none⟩ (I zd)).drew).cell? ⟨R7,0,none⟩ = some (I zd) ∧ ((w5.setCell ⟨T,9,none⟩ (I zd)).drew).cell? ⟨R7,1,none⟩ = some (I zf) ∧ ((w5.setCell ⟨T,9,none⟩ (I zd)).drew).cell? ⟨R7,2,none⟩ = some (I ze) ∧ ((w5.setCell ⟨T,9,none⟩ (I zd)).drew).cell? ⟨R7,3,none⟩ = some (I zc) := qcl hRT (I zd) 9 K0
  have K2 : (((w5.setCell ⟨T,9,none⟩ (I zd)).setCell ⟨T,10,none⟩ (I zf)).drew).cell? ⟨R7,0,none⟩ = some (I zd) ∧ (((w5.setCell ⟨T,9,none⟩ (I zd)).setCell ⟨T,10,none⟩ (I zf)).drew).cell? ⟨R7,1,none⟩ = some (I zf) ∧ (((w5.setCell ⟨T,9,none⟩ (I zd)).setCell ⟨T,10,none⟩ (I zf)).drew).cell? ⟨R7,2,none⟩ = some (I ze) ∧ (((w5.setCell ⟨T,9,none⟩ (I zd)).setCell ⟨T,10,none⟩ (I zf)).drew).cell? ⟨R7,3,none⟩ = some (I zc) := qcl hRT (I zf) 10 (w := w5.setCell ⟨T,9,none⟩ (I zd)) (qcl hRT (I zd) 9 K0)
  have K3 : ((((w5.setCell ⟨T,9,none⟩ (I zd)).setCell ⟨T,10,none⟩ (I zf)).setCell ⟨T,11,none⟩ (I ze)).drew).cell? ⟨R7,0,none⟩ = some (I zd) ∧ ((((w5.setCell ⟨T,9,none⟩ (I zd)).setCell ⟨T,10,none⟩ (I zf)).setCell ⟨T,11,none⟩ (I ze)).drew).cell? ⟨R7,1,none⟩ = some (I zf) ∧ ((((w5.setCell ⟨T,9,none⟩ (I zd)).setCell ⟨T,10,none⟩ (I zf)).setCell ⟨T,11,none⟩ (I ze)).drew).cell? ⟨R7,2,none⟩ = some (I ze) ∧ ((((w5.setCell ⟨T,9,none⟩ (I zd)).setCell ⟨T,10,none⟩ (I zf)).setCell ⟨T,11,none⟩ (I ze)).drew).cell? ⟨R7,3,none⟩ = some (I zc) := qcl hRT (I ze) 11 (w := (w5.setCell ⟨T,9,none⟩ (I zd)).setCell ⟨T,10,none⟩ (I zf)) (qcl hRT (I zf) 10 (w := w5.setCell ⟨T,9,none⟩ (I zd)) (qcl hRT (I zd) 9 K0))
  have K4 : (((((w5.setCell ⟨T,9,none⟩ (I zd)).setCell ⟨T,10,none⟩ (I zf)).setCell ⟨T,11,none⟩ (I ze)).setCell ⟨T,12,none⟩ (I zc)).drew).cell? ⟨R7,0,none⟩ = some (I zd) ∧ (((((w5.setCell ⟨T,9,none⟩ (I zd)).setCell ⟨T,10,none⟩ (I zf)).setCell ⟨T,11,none⟩ (I ze)).setCell ⟨T,12,none⟩ (I zc)).drew).cell? ⟨R7,1,none⟩ = some (I zf) ∧ (((((w5.setCell ⟨T,9,none⟩ (I zd)).setCell ⟨T,10,none⟩ (I zf)).setCell ⟨T,11,none⟩ (I ze)).setCell ⟨T,12,none⟩ (I zc)).drew).cell? ⟨R7,2,none⟩ = some (I ze) ∧ (((((w5.setCell ⟨T,9,none⟩ (I zd)).setCell ⟨T,10,none⟩ (I zf)).setCell ⟨T,11,none⟩ (I ze)).setCell ⟨T,12,none⟩ (I zc)).drew).cell? ⟨R7,3,none⟩ = some (I zc) := qcl hRT (I zc) 12 (w := ((w5.setCell ⟨T,9,none⟩ (I zd)).setCell ⟨T,10,none⟩ (I zf)).setCell ⟨T,11,none⟩ (I ze)) (qcl hRT (I ze) 11 (w := (w5.setCell ⟨T,9,none⟩ (I zd)).setCell ⟨T,10,none⟩ (I zf)) (qcl hRT (I zf) 10 (w := w5.setCell ⟨T,9,none⟩ (I zd)) (qcl hRT (I zd) 9 K0)))
  go_region_held_law (fun W' => W'.cell? ⟨R7,0,none⟩ = some (I zd) ∧ W'.cell? ⟨R7,1,none⟩ = some (I zf) ∧ W'.cell? ⟨R7,2,none⟩ = some (I ze) ∧ W'.cell? ⟨R7,3,none⟩ = some (I zc)) (first | with_reducible exact R0 | with_reducible exact K1 | with_reducible exact K2 | with_reducible exact K3 | with_reducible exact K4) (fail)
  have g9 : w5.grownBy ((((w5.setCell ⟨T,9,none⟩ (I zd)).setCell ⟨T,10,none⟩ (I zf)).setCell ⟨T,11,none⟩ (I ze)).setCell ⟨T,12,none⟩ (I zc)) (some T) := Ce.grown_same (Ce.grown_same (Ce.grown_same (qac w5 T 9 (I zd)) (qac _ T 10 (I zf))) (qac _ T 11 (I ze))) (qac _ T 12 (I zc))
  have H9 : Hid (Below w.heap.size w (((((w5.setCell ⟨T,9,none⟩ (I zd)).setCell ⟨T,10,none⟩ (I zf)).setCell ⟨T,11,none⟩ (I ze)).setCell ⟨T,12,none⟩ (I zc)).drew) ∧ (((((w5.setCell ⟨T,9,none⟩ (I zd)).setCell ⟨T,10,none⟩ (I zf)).setCell ⟨T,11,none⟩ (I ze)).setCell ⟨T,12,none⟩ (I zc)).drew).heap[T]? = some (.cells #[I us,I md, .slice at_ ts.length ct, .slice ag pl.length cg, .slice ar rs.length cr, .slice ak ks.length ck, .slice aa als.length ca, .slice ai is.length ci, .slice am ms.length cm2,I zd,I zf,I ze,I zc] 30 (0,0)) ∧ Six w.heap.size (((((w5.setCell ⟨T,9,none⟩ (I zd)).setCell ⟨T,10,none⟩ (I zf)).setCell ⟨T,11,none⟩ (I ze)).setCell ⟨T,12,none⟩ (I zc)).drew) ts rs ks als is ms (.slice at_ ts.length ct) (.slice ar rs.length cr) (.slice ak ks.length ck) (.slice aa als.length ca) (.slice ai is.length ci) (.slice am ms.length cm2) ∧ RG w.heap.size (((((w5.setCell ⟨T,9,none⟩ (I zd)).setCell ⟨T,10,none⟩ (I zf)).setCell ⟨T,11,none⟩ (I ze)).setCell ⟨T,12,none⟩ (I zc)).drew) (pl.map (rgF ts)) (.slice ag pl.length cg) ∧ (((((w5.setCell ⟨T,9,none⟩ (I zd)).setCell ⟨T,10,none⟩ (I zf)).setCell ⟨T,11,none⟩ (I ze)).setCell ⟨T,12,none⟩ (I zc)).drew).heap[w.heap.size + 1 + 1]? = some (.cells #[I 0,I 0, .slice none 0 0, .slice none 0 0, .slice none 0 0, .slice none 0 0, .slice none 0 0, .slice none 0 0, .slice none 0 0,I 0,I 0,I 0,I 0] 30 (0,0))) := by
   have hs := HTs.out
   have bd : Below ((((w5.setCell ⟨T,9,none⟩ (I zd)).setCell ⟨T,10,none⟩ (I zf)).setCell ⟨T,11,none⟩ (I ze)).setCell ⟨T,12,none⟩ (I zc)).heap.size ((((w5.setCell ⟨T,9,none⟩ (I zd)).setCell ⟨T,10,none⟩ (I zf)).setCell ⟨T,11,none⟩ (I ze)).setCell ⟨T,12,none⟩ (I zc)) (((((w5.setCell ⟨T,9,none⟩ (I zd)).setCell ⟨T,10,none⟩ (I zf)).setCell ⟨T,11,none⟩ (I ze)).setCell ⟨T,12,none⟩ (I zc)).drew) := (Below.refl _ _).drew
   have B9 := H5.out.1.grown g9 H5.out.1.size (fun k e => by cases e; omega)
   refine ⟨B9.trans (bd.mono B9.size),HJ4.out,(H5.out.2.1.store HH0.out g9).below bd,RG.below (RG.store H5.out.2.2.1 HH0.out g9) bd, ?_⟩
   show ((((w5.setCell ⟨T,9,none⟩ (I zd)).setCell ⟨T,10,none⟩ (I zf)).setCell ⟨T,11,none⟩ (I ze)).setCell ⟨T,12,none⟩ (I zc)).heap[w.heap.size + 1 + 1]? = _
   rw [qay g9 (qa1 H5.out.2.2.2) (fun e => by have := Option.some.inj e; omega)]
   exact H5.out.2.2.2
  clear R0 K0 K1 K2 K3 K4 z9 z10 z11 z12 f9 f10 f11 f12 H0 HJ4 HH0 H5 g9
  go_upto_region 6 with fail
  generalize (((((w5.setCell ⟨T,9,none⟩ (I zd)).setCell ⟨T,10,none⟩ (I zf)).setCell ⟨T,11,none⟩ (I ze)).setCell ⟨T,12,none⟩ (I zc)).drew) = w7 at *
  obtain ⟨B7,hT7,S7,G7,r7⟩ := H9.out
  have hiF : (Tryz.prog.info? 30).map (·.size) = some (#[I us,I md, .slice at_ ts.length ct, .slice ag pl.length cg, .slice ar rs.length cr, .slice ak ks.length ck, .slice aa als.length ca, .slice ai is.length ci, .slice am ms.length cm2,I zd,I zf,I ze,I zc] : Array Value).size := by kernel_rfl
  have g8 : w7.grownBy (w7.setRow (w.heap.size + 1 + 1) #[I us,I md, .slice at_ ts.length ct, .slice ag pl.length cg, .slice ar rs.length cr, .slice ak ks.length ck, .slice aa als.length ca, .slice ai is.length ci, .slice am ms.length cm2,I zd,I zf,I ze,I zc]) (some (w.heap.size + 1 + 1)) := Ce.grown_row _ _ _
  have Y8 := setRow_heap w7 (w.heap.size + 1 + 1) _ #[I us,I md, .slice at_ ts.length ct, .slice ag pl.length cg, .slice ar rs.length cr, .slice ak ks.length ck, .slice aa als.length ca, .slice ai is.length ci, .slice am ms.length cm2,I zd,I zf,I ze,I zc] _ _ r7
  have E8 : Hid (Below w.heap.size w (w7.setRow (w.heap.size + 1 + 1) #[I us,I md, .slice at_ ts.length ct, .slice ag pl.length cg, .slice ar rs.length cr, .slice ak ks.length ck, .slice aa als.length ca, .slice ai is.length ci, .slice am ms.length cm2,I zd,I zf,I ze,I zc]) ∧ SG w.heap.size (w7.setRow (w.heap.size + 1 + 1) #[I us,I md, .slice at_ ts.length ct, .slice ag pl.length cg, .slice ar rs.length cr, .slice ak ks.length ck, .slice aa als.length ca, .slice ai is.length ci, .slice am ms.length cm2,I zd,I zf,I ze,I zc]) ts pl rs ks als is ms ⟨⟨at_,ts.length,ct⟩,⟨ag,pl.length,cg⟩,⟨ar,rs.length,cr⟩,⟨ak,ks.length,ck⟩,⟨aa,als.length,ca⟩,⟨ai,is.length,ci⟩,⟨am,ms.length,cm2⟩⟩) := ⟨B7.grown g8 B7.size (fun k e => by cases e; omega),at_,ct,ag,cg,ar,cr,ak,ck,aa,ca,ai,ci,am,cm2,rfl,S7.store r7 g8,RG.store G7 r7 g8⟩
  clear B7 S7 G7 g8 H9
  go_wp2_with (first | (with_reducible refine qa8 ?_; refine wpList_load_row rfl 30 _ rfl T rfl 30 _ (0,0) _ hT7 Tryz.underlying30 rfl hiF ?_) | (with_reducible refine qa8 ?_; refine wpList_store_row rfl 30 _ _ rfl (w.heap.size + 1 + 1) _ rfl rfl 30 _ r7 hiF rfl (by simp [Value.oneCell']) ?_))
  refine bodyPost_ret (v := .agg #[I us,I md, .slice at_ ts.length ct, .slice ag pl.length cg, .slice ar rs.length cr, .slice ak ks.length ck, .slice aa als.length ca, .slice ai is.length ci, .slice am ms.length cm2,I zd,I zf,I ze,I zc]) (quj Tryz.results34 _ (w.heap.size + 1 + 1) _ _ hiF rfl Y8) rfl ?_
  exact ⟨⟨⟨⟨at_,ts.length,ct⟩,⟨ag,pl.length,cg⟩,⟨ar,rs.length,cr⟩,⟨ak,ks.length,ck⟩,⟨aa,als.length,ca⟩,⟨ai,is.length,ci⟩,⟨am,ms.length,cm2⟩⟩,rfl,E8.out.2⟩,E8.out.1⟩
end Go.Proofs.YtmidaeljeoifdaaGreatDoor
