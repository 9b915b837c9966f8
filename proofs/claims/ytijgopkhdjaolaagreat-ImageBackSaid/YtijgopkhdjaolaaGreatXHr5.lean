import Derived.Test.YtijgopkhdjaolaaGreatXHrrTk
import Derived.Test.YtijgopkhdjaolaaGreatXHk2
import Derived.Test.YtijgopkhdjaolaaGreatXHrrMs
import Derived.Deep.RegionHeldLaw
namespace Go.Proofs.YtijgopkhdjaolaaGreat
open Go.RowKit Go.Shelf Go.Sort
open Go.Proofs.YtijgopkhdjaolaaGreat.Ob (leB leV qa9 qai crc Rd RdAll qaa Rdr)
set_option linter.unusedSimpArgs false
set_option linter.unusedVariables false
set_option maxHeartbeats 16000000
set_option maxRecDepth 100000
theorem qdg {P : Program} {md : Region.Mode} {ops : Array Oper} {Q : Exit → Act → World → Prop} {S : World → Prop} {fuel : Nat} {listed : Array Bool} {a : Act} {w : World}
  (h : ∀ (A : Array Value),Hid (A = a.tmps) → ∀ G : Nat → Array Bool → Array Value → World → Prop,Hid (∀ f l t W,G f l t W = wpAnyH P md ops Q S f l ⟨t,a.defers⟩ W) → G fuel listed A w) : wpAnyH P md ops Q S fuel listed a w :=
 h a.tmps rfl (fun f l t W => wpAnyH P md ops Q S f l ⟨t,a.defers⟩ W) (fun _ _ _ _ => rfl)
theorem qf0 {W : World} {lo Z i q T : Nat} {x : TkR} {u y : Value} {cs : Array Value} (h : tkO9 W lo x q u) (hZ : W.heap[Z]? = some (.cells cs T)) (hT : T ≠ 3) : tkO9 (W.setCell ⟨Z,i,none⟩ y) lo x q u := by
 unfold tkO9 at h ⊢
 split at h <;> first | exact h | exact qah h hZ hT
theorem qf1 {W : World} {lo Z i q T : Nat} {x : IsR} {u y : Value} {cs : Array Value} (h : isO9 W lo x q u) (hZ : W.heap[Z]? = some (.cells cs T)) (hT : T ≠ 3) : isO9 (W.setCell ⟨Z,i,none⟩ y) lo x q u := by
 unfold isO9 at h ⊢
 split at h <;> first | exact h | exact qah h hZ hT
theorem qd4 {w w' : World} {lo r : Nat} {xs : List TkR} {u : Value} (h : VRTk lo w xs u) (hr : r < lo) (hg : w.grownBy w' (some r)) : VRTk lo w' xs u := by
 obtain ⟨sa,sc,cs,rfl,o,x⟩ := h
 exact ⟨sa,sc,cs,rfl,qbg o hr hg,RwX.mono x (fun _ _ _ h => ql0 h hr hg)⟩
theorem qav {W : World} {lo Z i : Nat} {xs : List TkR} {u y : Value} {c9 : Array Value} (h : VRTk lo W xs u) (hZ : W.heap[Z]? = some (.cells c9 30)) : VRTk lo (W.setCell ⟨Z,i,none⟩ y) xs u := by
 obtain ⟨sa,sc,cs,rfl,o,x⟩ := h
 exact ⟨sa,sc,cs,rfl,qah o hZ (by decide),RwX.mono x (fun _ _ _ h => qf0 h hZ (by decide))⟩
theorem qjr {w w' : World} {lo : Nat} {xs : List TkR} {u : Value} (h : VRTk lo w xs u) (hb : Below w.heap.size w w') : VRTk lo w' xs u := by
 obtain ⟨sa,sc,cs,rfl,o,x⟩ := h
 exact ⟨sa,sc,cs,rfl,qa2 o hb,RwX.mono x (fun _ _ _ h => qfb h hb)⟩
theorem qdr {w w' : World} {lo r : Nat} {xs : List RgR} {u : Value} (h : VRRg lo w xs u) (hr : r < lo) (hg : w.grownBy w' (some r)) : VRRg lo w' xs u := by
 obtain ⟨sa,sc,cs,rfl,o,x⟩ := h
 exact ⟨sa,sc,cs,rfl,qbg o hr hg,x⟩
theorem qaw {W : World} {lo Z i : Nat} {xs : List RgR} {u y : Value} {c9 : Array Value} (h : VRRg lo W xs u) (hZ : W.heap[Z]? = some (.cells c9 30)) : VRRg lo (W.setCell ⟨Z,i,none⟩ y) xs u := by
 obtain ⟨sa,sc,cs,rfl,o,x⟩ := h
 exact ⟨sa,sc,cs,rfl,qah o hZ (by decide),x⟩
theorem qjs {w w' : World} {lo : Nat} {xs : List RgR} {u : Value} (h : VRRg lo w xs u) (hb : Below w.heap.size w w') : VRRg lo w' xs u := by
 obtain ⟨sa,sc,cs,rfl,o,x⟩ := h
 exact ⟨sa,sc,cs,rfl,qa2 o hb,x⟩
theorem qej {w w' : World} {lo r : Nat} {xs : List RsR} {u : Value} (h : VRRs lo w xs u) (hr : r < lo) (hg : w.grownBy w' (some r)) : VRRs lo w' xs u := by
 obtain ⟨sa,sc,cs,rfl,o,x⟩ := h
 exact ⟨sa,sc,cs,rfl,qbg o hr hg,x⟩
theorem qax {W : World} {lo Z i : Nat} {xs : List RsR} {u y : Value} {c9 : Array Value} (h : VRRs lo W xs u) (hZ : W.heap[Z]? = some (.cells c9 30)) : VRRs lo (W.setCell ⟨Z,i,none⟩ y) xs u := by
 obtain ⟨sa,sc,cs,rfl,o,x⟩ := h
 exact ⟨sa,sc,cs,rfl,qah o hZ (by decide),x⟩
theorem qjt {w w' : World} {lo : Nat} {xs : List RsR} {u : Value} (h : VRRs lo w xs u) (hb : Below w.heap.size w w') : VRRs lo w' xs u := by
 obtain ⟨sa,sc,cs,rfl,o,x⟩ := h
 exact ⟨sa,sc,cs,rfl,qa2 o hb,x⟩
theorem qfy {w w' : World} {lo r : Nat} {xs : List CtR} {u : Value} (h : VRCt lo w xs u) (hr : r < lo) (hg : w.grownBy w' (some r)) : VRCt lo w' xs u := by
 obtain ⟨sa,sc,cs,rfl,o,x⟩ := h
 exact ⟨sa,sc,cs,rfl,qbg o hr hg,x⟩
theorem qay {W : World} {lo Z i : Nat} {xs : List CtR} {u y : Value} {c9 : Array Value} (h : VRCt lo W xs u) (hZ : W.heap[Z]? = some (.cells c9 30)) : VRCt lo (W.setCell ⟨Z,i,none⟩ y) xs u := by
 obtain ⟨sa,sc,cs,rfl,o,x⟩ := h
 exact ⟨sa,sc,cs,rfl,qah o hZ (by decide),x⟩
theorem qju {w w' : World} {lo : Nat} {xs : List CtR} {u : Value} (h : VRCt lo w xs u) (hb : Below w.heap.size w w') : VRCt lo w' xs u := by
 obtain ⟨sa,sc,cs,rfl,o,x⟩ := h
 exact ⟨sa,sc,cs,rfl,qa2 o hb,x⟩
theorem qiy {w w' : World} {lo r : Nat} {xs : List AlR} {u : Value} (h : VRAl lo w xs u) (hr : r < lo) (hg : w.grownBy w' (some r)) : VRAl lo w' xs u := by
 obtain ⟨sa,sc,cs,rfl,o,x⟩ := h
 exact ⟨sa,sc,cs,rfl,qbg o hr hg,x⟩
theorem qb2 {W : World} {lo Z i : Nat} {xs : List AlR} {u y : Value} {c9 : Array Value} (h : VRAl lo W xs u) (hZ : W.heap[Z]? = some (.cells c9 30)) : VRAl lo (W.setCell ⟨Z,i,none⟩ y) xs u := by
 obtain ⟨sa,sc,cs,rfl,o,x⟩ := h
 exact ⟨sa,sc,cs,rfl,qah o hZ (by decide),x⟩
theorem qjv {w w' : World} {lo : Nat} {xs : List AlR} {u : Value} (h : VRAl lo w xs u) (hb : Below w.heap.size w w') : VRAl lo w' xs u := by
 obtain ⟨sa,sc,cs,rfl,o,x⟩ := h
 exact ⟨sa,sc,cs,rfl,qa2 o hb,x⟩
theorem qnn {w w' : World} {lo r : Nat} {xs : List IsR} {u : Value} (h : VRIs lo w xs u) (hr : r < lo) (hg : w.grownBy w' (some r)) : VRIs lo w' xs u := by
 obtain ⟨sa,sc,cs,rfl,o,x⟩ := h
 exact ⟨sa,sc,cs,rfl,qbg o hr hg,RwX.mono x (fun _ _ _ h => ql1 h hr hg)⟩
theorem qb4 {W : World} {lo Z i : Nat} {xs : List IsR} {u y : Value} {c9 : Array Value} (h : VRIs lo W xs u) (hZ : W.heap[Z]? = some (.cells c9 30)) : VRIs lo (W.setCell ⟨Z,i,none⟩ y) xs u := by
 obtain ⟨sa,sc,cs,rfl,o,x⟩ := h
 exact ⟨sa,sc,cs,rfl,qah o hZ (by decide),RwX.mono x (fun _ _ _ h => qf1 h hZ (by decide))⟩
theorem qjw {w w' : World} {lo : Nat} {xs : List IsR} {u : Value} (h : VRIs lo w xs u) (hb : Below w.heap.size w w') : VRIs lo w' xs u := by
 obtain ⟨sa,sc,cs,rfl,o,x⟩ := h
 exact ⟨sa,sc,cs,rfl,qa2 o hb,RwX.mono x (fun _ _ _ h => qfc h hb)⟩
theorem qb6 {W : World} {lo Z i : Nat} {xs : List MsR} {u y : Value} {c9 : Array Value} (h : VRMs lo W xs u) (hZ : W.heap[Z]? = some (.cells c9 30)) : VRMs lo (W.setCell ⟨Z,i,none⟩ y) xs u := by
 obtain ⟨sa,sc,cs,rfl,o,x⟩ := h
 exact ⟨sa,sc,cs,rfl,qah o hZ (by decide),x⟩
theorem qjx {w w' : World} {lo : Nat} {xs : List MsR} {u : Value} (h : VRMs lo w xs u) (hb : Below w.heap.size w w') : VRMs lo w' xs u := by
 obtain ⟨sa,sc,cs,rfl,o,x⟩ := h
 exact ⟨sa,sc,cs,rfl,qa2 o hb,x⟩
structure TbO (W : World) (lo : Nat) (tb : Tb) (v : Ts) : Prop where
 t : VRTk lo W tb.tasks (slT v.t)
 g : VRRg lo W tb.rings (slT v.g)
 r : VRRs lo W tb.ress (slT v.r)
 k : VRCt lo W tb.ctrs (slT v.k)
 a : VRAl lo W tb.als (slT v.a)
 i : VRIs lo W tb.isrs (slT v.i)
 s : VRMs lo W tb.msgs (slT v.s)
theorem qcv {α : Type} {W : World} {lo T k : Nat} {P Q : α → Nat → Value → Prop} {xs : List α} {s : Sl} (h : ∃ (sa : Option Addr) (sc : Nat) (cs : List Value),slT s = .slice sa xs.length sc ∧ W.ownsRow lo T k (.slice sa xs.length sc) xs.length cs ∧ RwX k P xs cs) (hPQ : ∀ x i u,P x i u → Q x i u) : RowsAt W k Q s xs := by
 obtain ⟨sa,sc,cs,e,o,x⟩ := h
 obtain ⟨a1,n1,c1⟩ := s
 obtain ⟨rfl,rfl,rfl⟩ := Value.slice.inj e
 exact RwX.rows o (RwX.mono x hPQ)
theorem TbO.at {W : World} {lo : Nat} {tb : Tb} {v : Ts} (h : TbO W lo tb v) : TbAt W tb v :=
 ⟨qcv h.t (fun x i u q => qo3 q),qcv h.g (fun x i u q => q),qcv h.r (fun x i u q => q),qcv h.k (fun x i u q => q),qcv h.a (fun x i u q => q),qcv h.i (fun x i u q => qo4 q),qcv h.s (fun x i u q => q)⟩
theorem TbO.below {W W' : World} {lo : Nat} {tb : Tb} {v : Ts} (h : TbO W lo tb v) (hb : Below W.heap.size W W') : TbO W' lo tb v :=
 ⟨qjr h.t hb,qjs h.g hb,qjt h.r hb,qju h.k hb,qjv h.a hb,qjw h.i hb,qjx h.s hb⟩
theorem qos {fn : Func} {m : Nat} (hf : fn.results = #[.cell m 63]) (tmps : Array Value) (b : Nat) (w : World) (z0 z1 : Value) (h2 : tmps[m]? = some (.pointer (some ⟨b,0,none⟩))) (hk : w.heap[b]? = some (.cells #[z0,z1] 63 (0,0))) (h1 : z0.oneCell' = true ∧ z1.oneCell' = true) : (results fn tmps).run Tryz.prog w = .ok (.agg #[z0,z1]) w := by
 have a1 := fun i => cell_of_row w b i _ _ (0,0) hk
 have y0 := a1 0
 have y1 := a1 1
 simp at y0 y1
 simp [results,hf,go_sem,h2,y0,y1]
theorem qpy {w : World} {lo r : Nat} {l0 : List UInt8} (t0 : Rst w lo r l0) (j : Nat) : Calls Tryz.prog 108 #[rdP r,I j] w fun e w' => RP w lo r VRg (pRg l0) e w' := by
 have hlo := t0.le
 have hrl := t0.lt
 have hc0 := qbp w r
 have hb1 := qa0 (w.alloc (rdO r)) (.cells #[I 0,I 0] 63)
 have hY0 := heap_alloc_new (w.alloc (rdO r)) (.cells #[I 0,I 0] 63)
 have HX : Hid (∀ W,((w.alloc (rdO r)).alloc (.cells #[I 0,I 0] 63)).grownBy W (some r) → W.cell? ⟨w.heap.size,0,none⟩ = some (.pointer (some ⟨r,0,none⟩))) := fun W hW => hW.cell (by rw [qa5 hb1 _ _ (by simp)]; exact hc0) (by show some w.heap.size ≠ some r; intro e; cases e; omega)
 have HY : Hid (∀ W,((w.alloc (rdO r)).alloc (.cells #[I 0,I 0] 63)).grownBy W (some r) → W.heap[w.heap.size + 1]? = some (.cells #[I 0,I 0] 63)) := fun W hW => qat hW (by have := hY0; rwa [show (w.alloc (rdO r)).heap.size = w.heap.size + 1 by simp] at this) (by omega)
 have s0 := (t0.al (rdO r)).al (.cells #[I 0,I 0] 63)
 have HB : Hid (w.grownBy ((w.alloc (rdO r)).alloc (.cells #[I 0,I 0] 63)) (some r)) := qab ((qa0 w _).trans (hb1.mono (qa0 w _).size))
 have E0 : Hid (pRg l0 = pRg l0) := rfl
 clear hc0 hb1 hY0 t0
 go_enter Tryz.func108,Tryz.ntmps108
 go_upto_region 1 with fail
 generalize (w.alloc (rdO r)).alloc (.cells #[I 0,I 0] 63) = w1 at *
 have G0 := qab (r := some r) (Below.refl w1.heap.size w1).drew
 have HC := HX.out w1.drew G0
 refine wp_region_held_drew (S := fun W => W.cell? ⟨w.heap.size,0,none⟩ = some (.pointer (some ⟨r,0,none⟩))) (by kernel_rfl) HC (fun hHeld => ?_)
 clear HC
 change wpAnyH _ _ _ _ _ _ #[false,false,false,false,false,false] _ _
 try simp only [Act.put,q7a,q7b,q7c,q7d,q7e,q7f]
 refine wpAnyH_take (i := 0) (v := rdP r) rfl (by kernel_rfl) (by kernel_rfl) (by kernel_rfl) (fun _ _ _ h => h) (Or.inl ⟨by rfl, ?_⟩) hHeld ?_
 ·intro w' hSw
  try dsimp only at hSw
  clear hHeld
  go_simp
 try simp only [Act.put,q7a,q7b,q7c,q7d,q7e,q7f]
 refine wpAnyH_take (i := 2) (v := rdP r) rfl (by kernel_rfl) (by kernel_rfl) (by kernel_rfl) (fun _ _ _ h => h) (Or.inl ⟨by rfl, ?_⟩) hHeld ?_
 ·intro w' hSw
  try dsimp only at hSw
  clear hHeld
  go_simp
 try simp only [Act.put,q7a,q7b,q7c,q7d,q7e,q7f]
 clear hHeld
 have t0 := s0.below (Below.refl w1.heap.size w1).drew
 clear s0
 generalize w1.drew = W0 at *
 refine wpAnyH_ready (rs := [1]) (by kernel_rfl) (by simp) ?_
 refine AllReadyH.cons rfl (fun K hK => ?_) AllReadyH.nil
 go_simp
 refine (qau t0).mono ?_
 intro e W1 hR
 rcases hp : p1 l0 with c | ⟨p,l1⟩
 ·rw [hp] at hR
  obtain ⟨rfl,hg⟩ := qam hR
  have e9 : RP w lo r VRg (pRg l0) (gup c) W1 := by
   rw [E0.out]
   unfold pRg
   rw [qad hp]
   exact ⟨rfl,qa1 HB.out (qa1 G0 hg)⟩
  exact ⟨rfl,e9⟩
 rw [hp] at hR
 obtain ⟨u1,rfl,hv,t1,g1⟩ := qal hR
 have q : u1 = I p := hv
 subst q
 have GG := qa1 G0 g1
 have EE : Hid (pRg l0 = (andP p2 fun c => retP ⟨p,c⟩) l1) := by
  show _ = _
  rw [E0.out]
  unfold pRg
  rw [qa7 hp]
 skip
 refine hK.out _ _ (HX.out W1 GG) (fun hSS => ?_)
 clear hSS hK K hR hp E0 G0 t0
 have G0 := GG
 have E0 := EE
 clear GG EE g1
 try simp only [Act.put,q7a,q7b,q7c,q7d,q7e,q7f]
 refine wpAnyH_ready (rs := [3]) (by kernel_rfl) (by simp) ?_
 refine AllReadyH.cons rfl (fun K hK => ?_) AllReadyH.nil
 go_simp
 refine (qd0 t1).mono ?_
 intro e W2 hR
 rcases hp : p2 l1 with c | ⟨c,l2⟩
 ·rw [hp] at hR
  obtain ⟨rfl,hg⟩ := qam hR
  have e9 : RP w lo r VRg (pRg l0) (gup c) W2 := by
   rw [E0.out]
   skip
   rw [qad hp]
   exact ⟨rfl,qa1 HB.out (qa1 G0 hg)⟩
  exact ⟨rfl,e9⟩
 rw [hp] at hR
 obtain ⟨u2,rfl,hv,t2,g2⟩ := qal hR
 have q : u2 = I c := hv
 subst q
 have GG := qa1 G0 g2
 have EE : Hid (pRg l0 = (retP ⟨p,c⟩) l2) := by
  show _ = _
  rw [E0.out]
  skip
  rw [qa7 hp]
 skip
 refine hK.out _ _ (HX.out W2 GG) (fun hSS => ?_)
 clear hSS hK K hR hp E0 G0 t1
 have G0 := GG
 have E0 := EE
 clear GG EE g2
 try simp only [Act.put,q7a,q7b,q7c,q7d,q7e,q7f]
 refine wpAnyH_take (i := 4) (v := .agg #[I p,I c]) rfl (by kernel_rfl) (by kernel_rfl) (by kernel_rfl) (fun _ _ _ h => h) (Or.inl ⟨by rfl, ?_⟩) (HX.out W2 G0) ?_
 ·intro w' hSw
  try dsimp only at hSw
  go_simp
 try simp only [Act.put,q7a,q7b,q7c,q7d,q7e,q7f]
 have hY := HY.out W2 G0
 have cY0 : (W2).cell? ⟨w.heap.size + 1,0,none⟩ = some (I 0) := by rw [cell_of_row _ _ _ _ _ (0,0) hY]; rfl
 have fY0 : (W2).frozen? ⟨w.heap.size + 1,0,none⟩ = false := frozen_of_row _ _ _ _ _ hY
 have hY0 := heap_setCell_same (W2) (w.heap.size + 1) 0 _ _ (I p) hY
 have cY1 : ((W2).setCell ⟨w.heap.size + 1,0,none⟩ (I p)).cell? ⟨w.heap.size + 1,1,none⟩ = some (I 0) := by rw [cell_of_row _ _ _ _ _ (0,0) hY0]; rfl
 have fY1 : ((W2).setCell ⟨w.heap.size + 1,0,none⟩ (I p)).frozen? ⟨w.heap.size + 1,1,none⟩ = false := frozen_of_row _ _ _ _ _ hY0
 have hY1 := heap_setCell_same ((W2).setCell ⟨w.heap.size + 1,0,none⟩ (I p)) (w.heap.size + 1) 1 _ _ (I c) hY0
 refine wpAnyH_ready (rs := [5]) (by kernel_rfl) (by simp) ?_
 refine AllReadyH.cons rfl (fun K hK => ?_) AllReadyH.nil
 go_simp
 have hSf : (((W2).setCell ⟨w.heap.size + 1,0,none⟩ (I p)).setCell ⟨w.heap.size + 1,1,none⟩ (I c)).cell? ⟨w.heap.size,0,none⟩ = some (.pointer (some ⟨r,0,none⟩)) := by
  have hz := HX.out W2 G0
  repeat rw [World.cell?_setCell_far _ _ _ _ (by show w.heap.size + 1 ≠ w.heap.size; omega)]
  exact hz
 refine hK.out _ _ hSf (fun hSS => ?_)
 clear hSS hK K
 try simp only [Act.put,q7a,q7b,q7c,q7d,q7e,q7f]
 refine wpAnyH_done (by kernel_rfl) ?_ _
 have hYL : (((W2).setCell ⟨w.heap.size + 1,0,none⟩ (I p)).setCell ⟨w.heap.size + 1,1,none⟩ (I c)).heap[w.heap.size + 1]? = some (.cells #[I p,I c] 63) := hY1
 have hEnd : RP w lo r VRg (pRg l0) (.returned (.agg #[I p,I c])) (((W2).setCell ⟨w.heap.size + 1,0,none⟩ (I p)).setCell ⟨w.heap.size + 1,1,none⟩ (I c)) := by
  rw [E0.out]
  skip
  refine ⟨_,rfl,rfl,((t2.setY (by omega)).setY (by omega)),(qa8 (qa8 (qa1 HB.out G0) (by omega)) (by omega))⟩
 clear E0
 go_wp2
 refine bodyPost_ret (qos Tryz.results108 _ (w.heap.size + 1) _ _ _ rfl hYL ⟨rfl,rfl⟩) rfl ?_
 exact hEnd
theorem qot {fn : Func} {m : Nat} (hf : fn.results = #[.cell m 80]) (tmps : Array Value) (b : Nat) (w : World) (z0 z1 z2 : Value) (h2 : tmps[m]? = some (.pointer (some ⟨b,0,none⟩))) (hk : w.heap[b]? = some (.cells #[z0,z1,z2] 80 (0,0))) (h1 : z0.oneCell' = true ∧ z1.oneCell' = true ∧ z2.oneCell' = true) : (results fn tmps).run Tryz.prog w = .ok (.agg #[z0,z1,z2]) w := by
 have a1 := fun i => cell_of_row w b i _ _ (0,0) hk
 have y0 := a1 0
 have y1 := a1 1
 have y2 := a1 2
 simp at y0 y1 y2
 simp [results,hf,go_sem,h2,y0,y1,y2]
theorem qpz {w : World} {lo r : Nat} {l0 : List UInt8} (t0 : Rst w lo r l0) (j : Nat) : Calls Tryz.prog 112 #[rdP r,I j] w fun e w' => RP w lo r VCt (pCt l0) e w' := by
 have hlo := t0.le
 have hrl := t0.lt
 have hc0 := qbp w r
 have hb1 := qa0 (w.alloc (rdO r)) (.cells #[.int .u32 0, .int .u32 0, .int .u32 0] 80)
 have hY0 := heap_alloc_new (w.alloc (rdO r)) (.cells #[.int .u32 0, .int .u32 0, .int .u32 0] 80)
 have HX : Hid (∀ W,((w.alloc (rdO r)).alloc (.cells #[.int .u32 0, .int .u32 0, .int .u32 0] 80)).grownBy W (some r) → W.cell? ⟨w.heap.size,0,none⟩ = some (.pointer (some ⟨r,0,none⟩))) := fun W hW => hW.cell (by rw [qa5 hb1 _ _ (by simp)]; exact hc0) (by show some w.heap.size ≠ some r; intro e; cases e; omega)
 have HY : Hid (∀ W,((w.alloc (rdO r)).alloc (.cells #[.int .u32 0, .int .u32 0, .int .u32 0] 80)).grownBy W (some r) → W.heap[w.heap.size + 1]? = some (.cells #[.int .u32 0, .int .u32 0, .int .u32 0] 80)) := fun W hW => qat hW (by have := hY0; rwa [show (w.alloc (rdO r)).heap.size = w.heap.size + 1 by simp] at this) (by omega)
 have s0 := (t0.al (rdO r)).al (.cells #[.int .u32 0, .int .u32 0, .int .u32 0] 80)
 have HB : Hid (w.grownBy ((w.alloc (rdO r)).alloc (.cells #[.int .u32 0, .int .u32 0, .int .u32 0] 80)) (some r)) := qab ((qa0 w _).trans (hb1.mono (qa0 w _).size))
 have E0 : Hid (pCt l0 = pCt l0) := rfl
 clear hc0 hb1 hY0 t0
 go_enter Tryz.func112,Tryz.ntmps112
 go_upto_region 1 with fail
 generalize (w.alloc (rdO r)).alloc (.cells #[.int .u32 0, .int .u32 0, .int .u32 0] 80) = w1 at *
 have G0 := qab (r := some r) (Below.refl w1.heap.size w1).drew
 have HC := HX.out w1.drew G0
 refine wp_region_held_drew (S := fun W => W.cell? ⟨w.heap.size,0,none⟩ = some (.pointer (some ⟨r,0,none⟩))) (by kernel_rfl) HC (fun hHeld => ?_)
 clear HC
 change wpAnyH _ _ _ _ _ _ #[false,false,false,false,false,false,false,false] _ _
 try simp only [Act.put,q7a,q7b,q7c,q7d,q7e,q7f]
 refine wpAnyH_take (i := 0) (v := rdP r) rfl (by kernel_rfl) (by kernel_rfl) (by kernel_rfl) (fun _ _ _ h => h) (Or.inl ⟨by rfl, ?_⟩) hHeld ?_
 ·intro w' hSw
  try dsimp only at hSw
  clear hHeld
  go_simp
 try simp only [Act.put,q7a,q7b,q7c,q7d,q7e,q7f]
 refine wpAnyH_take (i := 2) (v := rdP r) rfl (by kernel_rfl) (by kernel_rfl) (by kernel_rfl) (fun _ _ _ h => h) (Or.inl ⟨by rfl, ?_⟩) hHeld ?_
 ·intro w' hSw
  try dsimp only at hSw
  clear hHeld
  go_simp
 try simp only [Act.put,q7a,q7b,q7c,q7d,q7e,q7f]
 refine wpAnyH_take (i := 4) (v := rdP r) rfl (by kernel_rfl) (by kernel_rfl) (by kernel_rfl) (fun _ _ _ h => h) (Or.inl ⟨by rfl, ?_⟩) hHeld ?_
 ·intro w' hSw
  try dsimp only at hSw
  clear hHeld
  go_simp
 try simp only [Act.put,q7a,q7b,q7c,q7d,q7e,q7f]
 clear hHeld
 have t0 := s0.below (Below.refl w1.heap.size w1).drew
 clear s0
 generalize w1.drew = W0 at *
 refine wpAnyH_ready (rs := [1]) (by kernel_rfl) (by simp) ?_
 refine AllReadyH.cons rfl (fun K hK => ?_) AllReadyH.nil
 go_simp
 refine (qcu t0).mono ?_
 intro e W1 hR
 rcases hp : pn 4 l0 with c | ⟨a,l1⟩
 ·rw [hp] at hR
  obtain ⟨rfl,hg⟩ := qam hR
  have e9 : RP w lo r VCt (pCt l0) (gup c) W1 := by
   rw [E0.out]
   unfold pCt
   rw [qad hp]
   exact ⟨rfl,qa1 HB.out (qa1 G0 hg)⟩
  exact ⟨rfl,e9⟩
 rw [hp] at hR
 obtain ⟨u1,rfl,hv,t1,g1⟩ := qal hR
 have q : u1 = .int .u32 (a : Int) := hv
 subst q
 have GG := qa1 G0 g1
 have EE : Hid (pCt l0 = (andP (pn 4) fun b => andP (pn 4) fun c => retP ⟨a,b,c⟩) l1) := by
  show _ = _
  rw [E0.out]
  unfold pCt
  rw [qa7 hp]
 skip
 refine hK.out _ _ (HX.out W1 GG) (fun hSS => ?_)
 clear hSS hK K hR hp E0 G0 t0
 have G0 := GG
 have E0 := EE
 clear GG EE g1
 try simp only [Act.put,q7a,q7b,q7c,q7d,q7e,q7f]
 refine wpAnyH_ready (rs := [3]) (by kernel_rfl) (by simp) ?_
 refine AllReadyH.cons rfl (fun K hK => ?_) AllReadyH.nil
 go_simp
 refine (qcu t1).mono ?_
 intro e W2 hR
 rcases hp : pn 4 l1 with c | ⟨b,l2⟩
 ·rw [hp] at hR
  obtain ⟨rfl,hg⟩ := qam hR
  have e9 : RP w lo r VCt (pCt l0) (gup c) W2 := by
   rw [E0.out]
   skip
   rw [qad hp]
   exact ⟨rfl,qa1 HB.out (qa1 G0 hg)⟩
  exact ⟨rfl,e9⟩
 rw [hp] at hR
 obtain ⟨u2,rfl,hv,t2,g2⟩ := qal hR
 have q : u2 = .int .u32 (b : Int) := hv
 subst q
 have GG := qa1 G0 g2
 have EE : Hid (pCt l0 = (andP (pn 4) fun c => retP ⟨a,b,c⟩) l2) := by
  show _ = _
  rw [E0.out]
  skip
  rw [qa7 hp]
 skip
 refine hK.out _ _ (HX.out W2 GG) (fun hSS => ?_)
 clear hSS hK K hR hp E0 G0 t1
 have G0 := GG
 have E0 := EE
 clear GG EE g2
 try simp only [Act.put,q7a,q7b,q7c,q7d,q7e,q7f]
 refine wpAnyH_ready (rs := [5]) (by kernel_rfl) (by simp) ?_
 refine AllReadyH.cons rfl (fun K hK => ?_) AllReadyH.nil
 go_simp
 refine (qcu t2).mono ?_
 intro e W3 hR
 rcases hp : pn 4 l2 with c | ⟨c,l3⟩
 ·rw [hp] at hR
  obtain ⟨rfl,hg⟩ := qam hR
  have e9 : RP w lo r VCt (pCt l0) (gup c) W3 := by
   rw [E0.out]
   skip
   rw [qad hp]
   exact ⟨rfl,qa1 HB.out (qa1 G0 hg)⟩
  exact ⟨rfl,e9⟩
 rw [hp] at hR
 obtain ⟨u3,rfl,hv,t3,g3⟩ := qal hR
 have q : u3 = .int .u32 (c : Int) := hv
 subst q
 have GG := qa1 G0 g3
 have EE : Hid (pCt l0 = (retP ⟨a,b,c⟩) l3) := by
  show _ = _
  rw [E0.out]
  skip
  rw [qa7 hp]
 skip
 refine hK.out _ _ (HX.out W3 GG) (fun hSS => ?_)
 clear hSS hK K hR hp E0 G0 t2
 have G0 := GG
 have E0 := EE
 clear GG EE g3
 try simp only [Act.put,q7a,q7b,q7c,q7d,q7e,q7f]
 refine wpAnyH_take (i := 6) (v := .agg #[.int .u32 (a : Int), .int .u32 (b : Int), .int .u32 (c : Int)]) rfl (by kernel_rfl) (by kernel_rfl) (by kernel_rfl) (fun _ _ _ h => h) (Or.inl ⟨by rfl, ?_⟩) (HX.out W3 G0) ?_
 ·intro w' hSw
  try dsimp only at hSw
  go_simp
 try simp only [Act.put,q7a,q7b,q7c,q7d,q7e,q7f]
 have hY := HY.out W3 G0
 have cY0 : (W3).cell? ⟨w.heap.size + 1,0,none⟩ = some (.int .u32 0) := by rw [cell_of_row _ _ _ _ _ (0,0) hY]; rfl
 have fY0 : (W3).frozen? ⟨w.heap.size + 1,0,none⟩ = false := frozen_of_row _ _ _ _ _ hY
 have hY0 := heap_setCell_same (W3) (w.heap.size + 1) 0 _ _ (.int .u32 (a : Int)) hY
 have cY1 : ((W3).setCell ⟨w.heap.size + 1,0,none⟩ (.int .u32 (a : Int))).cell? ⟨w.heap.size + 1,1,none⟩ = some (.int .u32 0) := by rw [cell_of_row _ _ _ _ _ (0,0) hY0]; rfl
 have fY1 : ((W3).setCell ⟨w.heap.size + 1,0,none⟩ (.int .u32 (a : Int))).frozen? ⟨w.heap.size + 1,1,none⟩ = false := frozen_of_row _ _ _ _ _ hY0
 have hY1 := heap_setCell_same ((W3).setCell ⟨w.heap.size + 1,0,none⟩ (.int .u32 (a : Int))) (w.heap.size + 1) 1 _ _ (.int .u32 (b : Int)) hY0
 have cY2 : (((W3).setCell ⟨w.heap.size + 1,0,none⟩ (.int .u32 (a : Int))).setCell ⟨w.heap.size + 1,1,none⟩ (.int .u32 (b : Int))).cell? ⟨w.heap.size + 1,2,none⟩ = some (.int .u32 0) := by rw [cell_of_row _ _ _ _ _ (0,0) hY1]; rfl
 have fY2 : (((W3).setCell ⟨w.heap.size + 1,0,none⟩ (.int .u32 (a : Int))).setCell ⟨w.heap.size + 1,1,none⟩ (.int .u32 (b : Int))).frozen? ⟨w.heap.size + 1,2,none⟩ = false := frozen_of_row _ _ _ _ _ hY1
 have hY2 := heap_setCell_same (((W3).setCell ⟨w.heap.size + 1,0,none⟩ (.int .u32 (a : Int))).setCell ⟨w.heap.size + 1,1,none⟩ (.int .u32 (b : Int))) (w.heap.size + 1) 2 _ _ (.int .u32 (c : Int)) hY1
 refine wpAnyH_ready (rs := [7]) (by kernel_rfl) (by simp) ?_
 refine AllReadyH.cons rfl (fun K hK => ?_) AllReadyH.nil
 go_simp
 have hSf : ((((W3).setCell ⟨w.heap.size + 1,0,none⟩ (.int .u32 (a : Int))).setCell ⟨w.heap.size + 1,1,none⟩ (.int .u32 (b : Int))).setCell ⟨w.heap.size + 1,2,none⟩ (.int .u32 (c : Int))).cell? ⟨w.heap.size,0,none⟩ = some (.pointer (some ⟨r,0,none⟩)) := by
  have hz := HX.out W3 G0
  repeat rw [World.cell?_setCell_far _ _ _ _ (by show w.heap.size + 1 ≠ w.heap.size; omega)]
  exact hz
 refine hK.out _ _ hSf (fun hSS => ?_)
 clear hSS hK K
 try simp only [Act.put,q7a,q7b,q7c,q7d,q7e,q7f]
 refine wpAnyH_done (by kernel_rfl) ?_ _
 have hYL : ((((W3).setCell ⟨w.heap.size + 1,0,none⟩ (.int .u32 (a : Int))).setCell ⟨w.heap.size + 1,1,none⟩ (.int .u32 (b : Int))).setCell ⟨w.heap.size + 1,2,none⟩ (.int .u32 (c : Int))).heap[w.heap.size + 1]? = some (.cells #[.int .u32 (a : Int), .int .u32 (b : Int), .int .u32 (c : Int)] 80) := hY2
 have hEnd : RP w lo r VCt (pCt l0) (.returned (.agg #[.int .u32 (a : Int), .int .u32 (b : Int), .int .u32 (c : Int)])) ((((W3).setCell ⟨w.heap.size + 1,0,none⟩ (.int .u32 (a : Int))).setCell ⟨w.heap.size + 1,1,none⟩ (.int .u32 (b : Int))).setCell ⟨w.heap.size + 1,2,none⟩ (.int .u32 (c : Int))) := by
  rw [E0.out]
  skip
  refine ⟨_,rfl,rfl,(((t3.setY (by omega)).setY (by omega)).setY (by omega)),(qa8 (qa8 (qa8 (qa1 HB.out G0) (by omega)) (by omega)) (by omega))⟩
 clear E0
 go_wp2
 refine bodyPost_ret (qot Tryz.results112 _ (w.heap.size + 1) _ _ _ _ rfl hYL ⟨rfl,rfl,rfl⟩) rfl ?_
 exact hEnd
theorem qou {fn : Func} {m : Nat} (hf : fn.results = #[.cell m 85]) (tmps : Array Value) (b : Nat) (w : World) (z0 z1 z2 z3 z4 z5 z6 : Value) (h2 : tmps[m]? = some (.pointer (some ⟨b,0,none⟩))) (hk : w.heap[b]? = some (.cells #[z0,z1,z2,z3,z4,z5,z6] 85 (0,0))) (h1 : z0.oneCell' = true ∧ z1.oneCell' = true ∧ z2.oneCell' = true ∧ z3.oneCell' = true ∧ z4.oneCell' = true ∧ z5.oneCell' = true ∧ z6.oneCell' = true) : (results fn tmps).run Tryz.prog w = .ok (.agg #[z0,z1,z2,z3,z4,z5,z6]) w := by
 have a1 := fun i => cell_of_row w b i _ _ (0,0) hk
 have y0 := a1 0
 have y1 := a1 1
 have y2 := a1 2
 have y3 := a1 3
 have y4 := a1 4
 have y5 := a1 5
 have y6 := a1 6
 simp at y0 y1 y2 y3 y4 y5 y6
 simp [results,hf,go_sem,h2,y0,y1,y2,y3,y4,y5,y6]
theorem qq0 {w : World} {lo r : Nat} {l0 : List UInt8} (t0 : Rst w lo r l0) (j : Nat) : Calls Tryz.prog 114 #[rdP r,I j] w fun e w' => RP w lo r VAl (pAl l0) e w' := by
 have hlo := t0.le
 have hrl := t0.lt
 have hc0 := qbp w r
 have hb1 := qa0 (w.alloc (rdO r)) (.cells #[I 0,I 0,I 0, .int .u32 0, .int .u32 0, .int .u32 0, .int .u32 0] 85)
 have hY0 := heap_alloc_new (w.alloc (rdO r)) (.cells #[I 0,I 0,I 0, .int .u32 0, .int .u32 0, .int .u32 0, .int .u32 0] 85)
 have HX : Hid (∀ W,((w.alloc (rdO r)).alloc (.cells #[I 0,I 0,I 0, .int .u32 0, .int .u32 0, .int .u32 0, .int .u32 0] 85)).grownBy W (some r) → W.cell? ⟨w.heap.size,0,none⟩ = some (.pointer (some ⟨r,0,none⟩))) := fun W hW => hW.cell (by rw [qa5 hb1 _ _ (by simp)]; exact hc0) (by show some w.heap.size ≠ some r; intro e; cases e; omega)
 have HY : Hid (∀ W,((w.alloc (rdO r)).alloc (.cells #[I 0,I 0,I 0, .int .u32 0, .int .u32 0, .int .u32 0, .int .u32 0] 85)).grownBy W (some r) → W.heap[w.heap.size + 1]? = some (.cells #[I 0,I 0,I 0, .int .u32 0, .int .u32 0, .int .u32 0, .int .u32 0] 85)) := fun W hW => qat hW (by have := hY0; rwa [show (w.alloc (rdO r)).heap.size = w.heap.size + 1 by simp] at this) (by omega)
 have s0 := (t0.al (rdO r)).al (.cells #[I 0,I 0,I 0, .int .u32 0, .int .u32 0, .int .u32 0, .int .u32 0] 85)
 have HB : Hid (w.grownBy ((w.alloc (rdO r)).alloc (.cells #[I 0,I 0,I 0, .int .u32 0, .int .u32 0, .int .u32 0, .int .u32 0] 85)) (some r)) := qab ((qa0 w _).trans (hb1.mono (qa0 w _).size))
 have E0 : Hid (pAl l0 = pAl l0) := rfl
 clear hc0 hb1 hY0 t0
 go_enter Tryz.func114,Tryz.ntmps114
 go_upto_region 1 with fail
 generalize (w.alloc (rdO r)).alloc (.cells #[I 0,I 0,I 0, .int .u32 0, .int .u32 0, .int .u32 0, .int .u32 0] 85) = w1 at *
 have G0 := qab (r := some r) (Below.refl w1.heap.size w1).drew
 have HC := HX.out w1.drew G0
 refine wp_region_held_drew (S := fun W => W.cell? ⟨w.heap.size,0,none⟩ = some (.pointer (some ⟨r,0,none⟩))) (by kernel_rfl) HC (fun hHeld => ?_)
 clear HC
 change wpAnyH _ _ _ _ _ _ #[false,false,false,false,false,false,false,false,false,false,false,false,false] _ _
 try simp only [Act.put,q7a,q7b,q7c,q7d,q7e,q7f]
 refine wpAnyH_take (i := 0) (v := rdP r) rfl (by kernel_rfl) (by kernel_rfl) (by kernel_rfl) (fun _ _ _ h => h) (Or.inl ⟨by rfl, ?_⟩) hHeld ?_
 ·intro w' hSw
  try dsimp only at hSw
  clear hHeld
  go_simp
 try simp only [Act.put,q7a,q7b,q7c,q7d,q7e,q7f]
 refine wpAnyH_take (i := 2) (v := rdP r) rfl (by kernel_rfl) (by kernel_rfl) (by kernel_rfl) (fun _ _ _ h => h) (Or.inl ⟨by rfl, ?_⟩) hHeld ?_
 ·intro w' hSw
  try dsimp only at hSw
  clear hHeld
  go_simp
 try simp only [Act.put,q7a,q7b,q7c,q7d,q7e,q7f]
 refine wpAnyH_take (i := 4) (v := rdP r) rfl (by kernel_rfl) (by kernel_rfl) (by kernel_rfl) (fun _ _ _ h => h) (Or.inl ⟨by rfl, ?_⟩) hHeld ?_
 ·intro w' hSw
  try dsimp only at hSw
  clear hHeld
  go_simp
 try simp only [Act.put,q7a,q7b,q7c,q7d,q7e,q7f]
 refine wpAnyH_take (i := 7) (v := rdP r) rfl (by kernel_rfl) (by kernel_rfl) (by kernel_rfl) (fun _ _ _ h => h) (Or.inl ⟨by rfl, ?_⟩) hHeld ?_
 ·intro w' hSw
  try dsimp only at hSw
  clear hHeld
  go_simp
 try simp only [Act.put,q7a,q7b,q7c,q7d,q7e,q7f]
 refine wpAnyH_take (i := 9) (v := rdP r) rfl (by kernel_rfl) (by kernel_rfl) (by kernel_rfl) (fun _ _ _ h => h) (Or.inl ⟨by rfl, ?_⟩) hHeld ?_
 ·intro w' hSw
  try dsimp only at hSw
  clear hHeld
  go_simp
 try simp only [Act.put,q7a,q7b,q7c,q7d,q7e,q7f]
 clear hHeld
 have t0 := s0.below (Below.refl w1.heap.size w1).drew
 clear s0
 generalize w1.drew = W0 at *
 refine wpAnyH_ready (rs := [1]) (by kernel_rfl) (by simp) ?_
 refine AllReadyH.cons rfl (fun K hK => ?_) AllReadyH.nil
 go_simp
 refine (qau t0).mono ?_
 intro e W1 hR
 rcases hp : p1 l0 with c | ⟨c,l1⟩
 ·rw [hp] at hR
  obtain ⟨rfl,hg⟩ := qam hR
  have e9 : RP w lo r VAl (pAl l0) (gup c) W1 := by
   rw [E0.out]
   unfold pAl
   rw [qad hp]
   exact ⟨rfl,qa1 HB.out (qa1 G0 hg)⟩
  exact ⟨rfl,e9⟩
 rw [hp] at hR
 obtain ⟨u1,rfl,hv,t1,g1⟩ := qal hR
 have q : u1 = I c := hv
 subst q
 have GG := qa1 G0 g1
 have EE : Hid (pAl l0 = (andP pAc fun a => andP (pn 1) fun u => andP (pn 4) fun t => andP (pn 4) fun y => retP ⟨c,a,u,t,y⟩) l1) := by
  show _ = _
  rw [E0.out]
  unfold pAl
  rw [qa7 hp]
 skip
 refine hK.out _ _ (HX.out W1 GG) (fun hSS => ?_)
 clear hSS hK K hR hp E0 G0 t0
 have G0 := GG
 have E0 := EE
 clear GG EE g1
 try simp only [Act.put,q7a,q7b,q7c,q7d,q7e,q7f]
 refine wpAnyH_ready (rs := [3]) (by kernel_rfl) (by simp) ?_
 refine AllReadyH.cons rfl (fun K hK => ?_) AllReadyH.nil
 go_simp
 refine (qmo t1).mono ?_
 intro e W2 hR
 rcases hp : pAc l1 with c | ⟨a,l2⟩
 ·rw [hp] at hR
  obtain ⟨rfl,hg⟩ := qam hR
  have e9 : RP w lo r VAl (pAl l0) (gup c) W2 := by
   rw [E0.out]
   skip
   rw [qad hp]
   exact ⟨rfl,qa1 HB.out (qa1 G0 hg)⟩
  exact ⟨rfl,e9⟩
 rw [hp] at hR
 obtain ⟨u2,rfl,hv,t2,g2⟩ := qal hR
 have q : u2 = .agg #[I a.kind,I a.task, .int .u32 (a.mask : Int)] := hv
 subst q
 have GG := qa1 G0 g2
 have EE : Hid (pAl l0 = (andP (pn 1) fun u => andP (pn 4) fun t => andP (pn 4) fun y => retP ⟨c,a,u,t,y⟩) l2) := by
  show _ = _
  rw [E0.out]
  skip
  rw [qa7 hp]
 skip
 refine hK.out _ _ (HX.out W2 GG) (fun hSS => ?_)
 clear hSS hK K hR hp E0 G0 t1
 have G0 := GG
 have E0 := EE
 clear GG EE g2
 try simp only [Act.put,q7a,q7b,q7c,q7d,q7e,q7f]
 refine wpAnyH_ready (rs := [5]) (by kernel_rfl) (by simp) ?_
 refine AllReadyH.cons rfl (fun K hK => ?_) AllReadyH.nil
 go_simp
 refine (qau t2).mono ?_
 intro e W3 hR
 rcases hp : pn 1 l2 with c | ⟨u,l3⟩
 ·rw [show p1 l2 = .error c from qad hp] at hR
  obtain ⟨rfl,hg⟩ := qam hR
  have e9 : RP w lo r VAl (pAl l0) (gup c) W3 := by
   rw [E0.out]
   skip
   rw [qad hp]
   exact ⟨rfl,qa1 HB.out (qa1 G0 hg)⟩
  exact ⟨rfl,e9⟩
 rw [show p1 l2 = .ok ((u : Int),l3) from qa7 hp] at hR
 obtain ⟨u3,rfl,hv,t3,g3⟩ := qal hR
 have q : u3 = I u := hv
 subst q
 have GG := qa1 G0 g3
 have EE : Hid (pAl l0 = (andP (pn 4) fun t => andP (pn 4) fun y => retP ⟨c,a,u,t,y⟩) l3) := by
  show _ = _
  rw [E0.out]
  skip
  rw [qa7 hp]
 have hw3 : IntKind.u32.wrap (u : Int) = u := by have := qbu hp; rw [IntKind.wrap_u32]; omega
 refine hK.out _ _ (HX.out W3 GG) (fun hSS => ?_)
 clear hSS hK K hR hp E0 G0 t2
 have G0 := GG
 have E0 := EE
 clear GG EE g3
 try simp only [Act.put,q7a,q7b,q7c,q7d,q7e,q7f]
 refine wpAnyH_take (i := 6) (v := .int .u32 (u : Int)) rfl (by kernel_rfl) (by kernel_rfl) (by kernel_rfl) (fun _ _ _ h => h) (Or.inl ⟨by rfl, ?_⟩) (HX.out W3 G0) ?_
 ·intro w' hSw
  try dsimp only at hSw
  go_simp
 try simp only [Act.put,q7a,q7b,q7c,q7d,q7e,q7f]
 refine wpAnyH_ready (rs := [8]) (by kernel_rfl) (by simp) ?_
 refine AllReadyH.cons rfl (fun K hK => ?_) AllReadyH.nil
 go_simp
 refine (qcu t3).mono ?_
 intro e W4 hR
 rcases hp : pn 4 l3 with c | ⟨t,l4⟩
 ·rw [hp] at hR
  obtain ⟨rfl,hg⟩ := qam hR
  have e9 : RP w lo r VAl (pAl l0) (gup c) W4 := by
   rw [E0.out]
   skip
   rw [qad hp]
   exact ⟨rfl,qa1 HB.out (qa1 G0 hg)⟩
  exact ⟨rfl,e9⟩
 rw [hp] at hR
 obtain ⟨u4,rfl,hv,t4,g4⟩ := qal hR
 have q : u4 = .int .u32 (t : Int) := hv
 subst q
 have GG := qa1 G0 g4
 have EE : Hid (pAl l0 = (andP (pn 4) fun y => retP ⟨c,a,u,t,y⟩) l4) := by
  show _ = _
  rw [E0.out]
  skip
  rw [qa7 hp]
 skip
 refine hK.out _ _ (HX.out W4 GG) (fun hSS => ?_)
 clear hSS hK K hR hp E0 G0 t3
 have G0 := GG
 have E0 := EE
 clear GG EE g4
 try simp only [Act.put,q7a,q7b,q7c,q7d,q7e,q7f]
 refine wpAnyH_ready (rs := [10]) (by kernel_rfl) (by simp) ?_
 refine AllReadyH.cons rfl (fun K hK => ?_) AllReadyH.nil
 go_simp
 refine (qcu t4).mono ?_
 intro e W5 hR
 rcases hp : pn 4 l4 with c | ⟨y,l5⟩
 ·rw [hp] at hR
  obtain ⟨rfl,hg⟩ := qam hR
  have e9 : RP w lo r VAl (pAl l0) (gup c) W5 := by
   rw [E0.out]
   skip
   rw [qad hp]
   exact ⟨rfl,qa1 HB.out (qa1 G0 hg)⟩
  exact ⟨rfl,e9⟩
 rw [hp] at hR
 obtain ⟨u5,rfl,hv,t5,g5⟩ := qal hR
 have q : u5 = .int .u32 (y : Int) := hv
 subst q
 have GG := qa1 G0 g5
 have EE : Hid (pAl l0 = (retP ⟨c,a,u,t,y⟩) l5) := by
  show _ = _
  rw [E0.out]
  skip
  rw [qa7 hp]
 skip
 refine hK.out _ _ (HX.out W5 GG) (fun hSS => ?_)
 clear hSS hK K hR hp E0 G0 t4
 have G0 := GG
 have E0 := EE
 clear GG EE g5
 try simp only [Act.put,q7a,q7b,q7c,q7d,q7e,q7f]
 refine wpAnyH_take (i := 11) (v := .agg #[I c,I a.kind,I a.task, .int .u32 (a.mask : Int), .int .u32 (u : Int), .int .u32 (t : Int), .int .u32 (y : Int)]) rfl (by kernel_rfl) (by kernel_rfl) (by kernel_rfl) (fun _ _ _ h => h) (Or.inl ⟨by rfl, ?_⟩) (HX.out W5 G0) ?_
 ·intro w' hSw
  try dsimp only at hSw
  go_simp
 try simp only [Act.put,q7a,q7b,q7c,q7d,q7e,q7f]
 have hY := HY.out W5 G0
 have cY0 : (W5).cell? ⟨w.heap.size + 1,0,none⟩ = some (I 0) := by rw [cell_of_row _ _ _ _ _ (0,0) hY]; rfl
 have fY0 : (W5).frozen? ⟨w.heap.size + 1,0,none⟩ = false := frozen_of_row _ _ _ _ _ hY
 have hY0 := heap_setCell_same (W5) (w.heap.size + 1) 0 _ _ (I c) hY
 have cY1 : ((W5).setCell ⟨w.heap.size + 1,0,none⟩ (I c)).cell? ⟨w.heap.size + 1,1,none⟩ = some (I 0) := by rw [cell_of_row _ _ _ _ _ (0,0) hY0]; rfl
 have fY1 : ((W5).setCell ⟨w.heap.size + 1,0,none⟩ (I c)).frozen? ⟨w.heap.size + 1,1,none⟩ = false := frozen_of_row _ _ _ _ _ hY0
 have hY1 := heap_setCell_same ((W5).setCell ⟨w.heap.size + 1,0,none⟩ (I c)) (w.heap.size + 1) 1 _ _ (I a.kind) hY0
 have cY2 : (((W5).setCell ⟨w.heap.size + 1,0,none⟩ (I c)).setCell ⟨w.heap.size + 1,1,none⟩ (I a.kind)).cell? ⟨w.heap.size + 1,2,none⟩ = some (I 0) := by rw [cell_of_row _ _ _ _ _ (0,0) hY1]; rfl
 have fY2 : (((W5).setCell ⟨w.heap.size + 1,0,none⟩ (I c)).setCell ⟨w.heap.size + 1,1,none⟩ (I a.kind)).frozen? ⟨w.heap.size + 1,2,none⟩ = false := frozen_of_row _ _ _ _ _ hY1
 have hY2 := heap_setCell_same (((W5).setCell ⟨w.heap.size + 1,0,none⟩ (I c)).setCell ⟨w.heap.size + 1,1,none⟩ (I a.kind)) (w.heap.size + 1) 2 _ _ (I a.task) hY1
 have cY3 : ((((W5).setCell ⟨w.heap.size + 1,0,none⟩ (I c)).setCell ⟨w.heap.size + 1,1,none⟩ (I a.kind)).setCell ⟨w.heap.size + 1,2,none⟩ (I a.task)).cell? ⟨w.heap.size + 1,3,none⟩ = some (.int .u32 0) := by rw [cell_of_row _ _ _ _ _ (0,0) hY2]; rfl
 have fY3 : ((((W5).setCell ⟨w.heap.size + 1,0,none⟩ (I c)).setCell ⟨w.heap.size + 1,1,none⟩ (I a.kind)).setCell ⟨w.heap.size + 1,2,none⟩ (I a.task)).frozen? ⟨w.heap.size + 1,3,none⟩ = false := frozen_of_row _ _ _ _ _ hY2
 have hY3 := heap_setCell_same ((((W5).setCell ⟨w.heap.size + 1,0,none⟩ (I c)).setCell ⟨w.heap.size + 1,1,none⟩ (I a.kind)).setCell ⟨w.heap.size + 1,2,none⟩ (I a.task)) (w.heap.size + 1) 3 _ _ (.int .u32 (a.mask : Int)) hY2
 have cY4 : (((((W5).setCell ⟨w.heap.size + 1,0,none⟩ (I c)).setCell ⟨w.heap.size + 1,1,none⟩ (I a.kind)).setCell ⟨w.heap.size + 1,2,none⟩ (I a.task)).setCell ⟨w.heap.size + 1,3,none⟩ (.int .u32 (a.mask : Int))).cell? ⟨w.heap.size + 1,4,none⟩ = some (.int .u32 0) := by rw [cell_of_row _ _ _ _ _ (0,0) hY3]; rfl
 have fY4 : (((((W5).setCell ⟨w.heap.size + 1,0,none⟩ (I c)).setCell ⟨w.heap.size + 1,1,none⟩ (I a.kind)).setCell ⟨w.heap.size + 1,2,none⟩ (I a.task)).setCell ⟨w.heap.size + 1,3,none⟩ (.int .u32 (a.mask : Int))).frozen? ⟨w.heap.size + 1,4,none⟩ = false := frozen_of_row _ _ _ _ _ hY3
 have hY4 := heap_setCell_same (((((W5).setCell ⟨w.heap.size + 1,0,none⟩ (I c)).setCell ⟨w.heap.size + 1,1,none⟩ (I a.kind)).setCell ⟨w.heap.size + 1,2,none⟩ (I a.task)).setCell ⟨w.heap.size + 1,3,none⟩ (.int .u32 (a.mask : Int))) (w.heap.size + 1) 4 _ _ (.int .u32 (u : Int)) hY3
 have cY5 : ((((((W5).setCell ⟨w.heap.size + 1,0,none⟩ (I c)).setCell ⟨w.heap.size + 1,1,none⟩ (I a.kind)).setCell ⟨w.heap.size + 1,2,none⟩ (I a.task)).setCell ⟨w.heap.size + 1,3,none⟩ (.int .u32 (a.mask : Int))).setCell ⟨w.heap.size + 1,4,none⟩ (.int .u32 (u : Int))).cell? ⟨w.heap.size + 1,5,none⟩ = some (.int .u32 0) := by rw [cell_of_row _ _ _ _ _ (0,0) hY4]; rfl
 have fY5 : ((((((W5).setCell ⟨w.heap.size + 1,0,none⟩ (I c)).setCell ⟨w.heap.size + 1,1,none⟩ (I a.kind)).setCell ⟨w.heap.size + 1,2,none⟩ (I a.task)).setCell ⟨w.heap.size + 1,3,none⟩ (.int .u32 (a.mask : Int))).setCell ⟨w.heap.size + 1,4,none⟩ (.int .u32 (u : Int))).frozen? ⟨w.heap.size + 1,5,none⟩ = false := frozen_of_row _ _ _ _ _ hY4
 have hY5 := heap_setCell_same ((((((W5).setCell ⟨w.heap.size + 1,0,none⟩ (I c)).setCell ⟨w.heap.size + 1,1,none⟩ (I a.kind)).setCell ⟨w.heap.size + 1,2,none⟩ (I a.task)).setCell ⟨w.heap.size + 1,3,none⟩ (.int .u32 (a.mask : Int))).setCell ⟨w.heap.size + 1,4,none⟩ (.int .u32 (u : Int))) (w.heap.size + 1) 5 _ _ (.int .u32 (t : Int)) hY4
 have cY6 : (((((((W5).setCell ⟨w.heap.size + 1,0,none⟩ (I c)).setCell ⟨w.heap.size + 1,1,none⟩ (I a.kind)).setCell ⟨w.heap.size + 1,2,none⟩ (I a.task)).setCell ⟨w.heap.size + 1,3,none⟩ (.int .u32 (a.mask : Int))).setCell ⟨w.heap.size + 1,4,none⟩ (.int .u32 (u : Int))).setCell ⟨w.heap.size + 1,5,none⟩ (.int .u32 (t : Int))).cell? ⟨w.heap.size + 1,6,none⟩ = some (.int .u32 0) := by rw [cell_of_row _ _ _ _ _ (0,0) hY5]; rfl
 have fY6 : (((((((W5).setCell ⟨w.heap.size + 1,0,none⟩ (I c)).setCell ⟨w.heap.size + 1,1,none⟩ (I a.kind)).setCell ⟨w.heap.size + 1,2,none⟩ (I a.task)).setCell ⟨w.heap.size + 1,3,none⟩ (.int .u32 (a.mask : Int))).setCell ⟨w.heap.size + 1,4,none⟩ (.int .u32 (u : Int))).setCell ⟨w.heap.size + 1,5,none⟩ (.int .u32 (t : Int))).frozen? ⟨w.heap.size + 1,6,none⟩ = false := frozen_of_row _ _ _ _ _ hY5
 have hY6 := heap_setCell_same (((((((W5).setCell ⟨w.heap.size + 1,0,none⟩ (I c)).setCell ⟨w.heap.size + 1,1,none⟩ (I a.kind)).setCell ⟨w.heap.size + 1,2,none⟩ (I a.task)).setCell ⟨w.heap.size + 1,3,none⟩ (.int .u32 (a.mask : Int))).setCell ⟨w.heap.size + 1,4,none⟩ (.int .u32 (u : Int))).setCell ⟨w.heap.size + 1,5,none⟩ (.int .u32 (t : Int))) (w.heap.size + 1) 6 _ _ (.int .u32 (y : Int)) hY5
 refine wpAnyH_ready (rs := [12]) (by kernel_rfl) (by simp) ?_
 refine AllReadyH.cons rfl (fun K hK => ?_) AllReadyH.nil
 go_simp
 have hSf : ((((((((W5).setCell ⟨w.heap.size + 1,0,none⟩ (I c)).setCell ⟨w.heap.size + 1,1,none⟩ (I a.kind)).setCell ⟨w.heap.size + 1,2,none⟩ (I a.task)).setCell ⟨w.heap.size + 1,3,none⟩ (.int .u32 (a.mask : Int))).setCell ⟨w.heap.size + 1,4,none⟩ (.int .u32 (u : Int))).setCell ⟨w.heap.size + 1,5,none⟩ (.int .u32 (t : Int))).setCell ⟨w.heap.size + 1,6,none⟩ (.int .u32 (y : Int))).cell? ⟨w.heap.size,0,none⟩ = some (.pointer (some ⟨r,0,none⟩)) := by
  have hz := HX.out W5 G0
  repeat rw [World.cell?_setCell_far _ _ _ _ (by show w.heap.size + 1 ≠ w.heap.size; omega)]
  exact hz
 refine hK.out _ _ hSf (fun hSS => ?_)
 clear hSS hK K
 try simp only [Act.put,q7a,q7b,q7c,q7d,q7e,q7f]
 refine wpAnyH_done (by kernel_rfl) ?_ _
 have hYL : ((((((((W5).setCell ⟨w.heap.size + 1,0,none⟩ (I c)).setCell ⟨w.heap.size + 1,1,none⟩ (I a.kind)).setCell ⟨w.heap.size + 1,2,none⟩ (I a.task)).setCell ⟨w.heap.size + 1,3,none⟩ (.int .u32 (a.mask : Int))).setCell ⟨w.heap.size + 1,4,none⟩ (.int .u32 (u : Int))).setCell ⟨w.heap.size + 1,5,none⟩ (.int .u32 (t : Int))).setCell ⟨w.heap.size + 1,6,none⟩ (.int .u32 (y : Int))).heap[w.heap.size + 1]? = some (.cells #[I c,I a.kind,I a.task, .int .u32 (a.mask : Int), .int .u32 (u : Int), .int .u32 (t : Int), .int .u32 (y : Int)] 85) := hY6
 have hEnd : RP w lo r VAl (pAl l0) (.returned (.agg #[I c,I a.kind,I a.task, .int .u32 (a.mask : Int), .int .u32 (u : Int), .int .u32 (t : Int), .int .u32 (y : Int)])) ((((((((W5).setCell ⟨w.heap.size + 1,0,none⟩ (I c)).setCell ⟨w.heap.size + 1,1,none⟩ (I a.kind)).setCell ⟨w.heap.size + 1,2,none⟩ (I a.task)).setCell ⟨w.heap.size + 1,3,none⟩ (.int .u32 (a.mask : Int))).setCell ⟨w.heap.size + 1,4,none⟩ (.int .u32 (u : Int))).setCell ⟨w.heap.size + 1,5,none⟩ (.int .u32 (t : Int))).setCell ⟨w.heap.size + 1,6,none⟩ (.int .u32 (y : Int))) := by
  rw [E0.out]
  skip
  refine ⟨_,rfl,rfl,(((((((t5.setY (by omega)).setY (by omega)).setY (by omega)).setY (by omega)).setY (by omega)).setY (by omega)).setY (by omega)),(qa8 (qa8 (qa8 (qa8 (qa8 (qa8 (qa8 (qa1 HB.out G0) (by omega)) (by omega)) (by omega)) (by omega)) (by omega)) (by omega)) (by omega))⟩
 clear E0
 go_wp2
 refine bodyPost_ret (qou Tryz.results114 _ (w.heap.size + 1) _ _ _ _ _ _ _ _ rfl hYL ⟨rfl,rfl,rfl,rfl,rfl,rfl,rfl⟩) rfl ?_
 exact hEnd
end Go.Proofs.YtijgopkhdjaolaaGreat
