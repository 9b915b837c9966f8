import Derived.Test.YtmidaeljeoifdaaGreatDoorXTis
import Derived.Test.YtmidaeljeoifdaaGreatDoorXTcq
import Derived.Test.YtmidaeljeoifdaaGreatDoorXTid
namespace Go.Proofs.YtmidaeljeoifdaaGreatDoor
open Go.Maps Go.RowKit Go.Shelf Go.Sort
set_option linter.unusedSimpArgs false
set_option linter.unusedVariables false
set_option maxHeartbeats 16000000
set_option maxRecDepth 100000
theorem qus {c : Cf} (hm : May c) (cl pl : List Int) : ∀ x ∈ c.tasks.map (mkT c cl pl),0 ≤ x.limit ∧ x.limit ≤ 255 := by
 intro x hx
 obtain ⟨y,hy,rfl⟩ := List.mem_map.1 hx
 obtain ⟨j,hj⟩ := List.getElem?_of_mem hy
 have q : (inR y.prio 0 63 && inR y.act 1 255) = true := (hm.t.2 j y hj).2.2 0 (by omega)
 have := in9 (Bool.and_eq_true_iff.1 q).2
 show 0 ≤ y.act ∧ y.act ≤ 255
 omega
theorem qn3 {c : Cf} (hm : May c) (cl pl : List Int) (p : Int) : 0 ≤ capN (c.tasks.map (mkT c cl pl)) p ∧ capN (c.tasks.map (mkT c cl pl)) p ≤ 65280 := by
 have h1 := qn2 p _ (qus hm cl pl)
 have nt := in9 hm.t.1
 rw [List.length_map] at h1
 omega
abbrev tsX (c : Cf) : List TkR := c.tasks.map (mkT c (Ce.ceilL c) (prL9 c.tasks))
abbrev rsX (c : Cf) : List RsR := resL c (Ce.ceilL c) (Ce.schE c)
def capS (c : Cf) (j : Nat) : Int := sumI (((prL9 c.tasks).take j).map fun p => capN (tsX c) p)
theorem qix {c : Cf} {j : Nat} {p : Int} (h : (prL9 c.tasks)[j]? = some p) : capS c (j + 1) = capS c j + capN (tsX c) p := by
 unfold capS
 rw [List.take_add_one,h,Option.toList_some,List.map_append,List.map_singleton,qfk]
theorem qn4 {c : Cf} (hm : May c) : ∀ j,0 ≤ capS c j ∧ capS c j ≤ 65280 * j
 | 0 => by simp [capS,sumI]
 | j + 1 => by
  have h1 := qn4 hm j
  cases e : (prL9 c.tasks)[j]? with
  | none =>
   have e2 : capS c (j + 1) = capS c j := by
    unfold capS
    rw [List.take_add_one,e]
    simp
   rw [e2]
   omega
  | some p =>
   have h2 := qn3 hm (Ce.ceilL c) (prL9 c.tasks) p
   rw [qix e]
   show _ ∧ capS c j + capN (tsX c) p ≤ _
   have h3 : capN (tsX c) p ≤ 65280 := h2.2
   have h4 : 0 ≤ capN (tsX c) p := h2.1
   omega
theorem qt0 {c : Cf} (hm : May c) {W : World} {u : Ts} (h : TbAt W (tbX c) u) {j : Nat} (hj : j < (prL9 c.tasks).length) : ∃ (gg oo : Nat) (p k : Int),u.g.a = some ⟨gg,oo,none⟩ ∧ gg < W.heap.size ∧ W.cell? ⟨gg,oo + j * 2,none⟩ = some (I p) ∧ W.cell? ⟨gg,oo + j * 2 + 1,none⟩ = some (I k) ∧ (prL9 c.tasks)[j]? = some p ∧ capS c (j + 1) = capS c j + k ∧ 0 ≤ k ∧ k ≤ 65280 := by
 obtain ⟨p,hp⟩ : ∃ p,(prL9 c.tasks)[j]? = some p := ⟨_,List.getElem?_eq_getElem hj⟩
 have hr : (tbX c).rings[j]? = some (rgF (tsX c) p) := by
  show ((prL9 c.tasks).map (rgF (tsX c)))[j]? = _
  rw [List.getElem?_map,hp]
  rfl
 obtain ⟨g,o,e,hg,h1,h2⟩ := ql2 h hr
 have hb := qn3 hm (Ce.ceilL c) (prL9 c.tasks) p
 have ew : (rgF (tsX c) p).cap = capN (tsX c) p := qe9 hb.1 hb.2
 rw [ew] at h2
 exact ⟨g,o,p,_,e,hg,h1,h2,hp,qix hp,hb.1,hb.2⟩
def actS (c : Cf) (j : Nat) : Int := sumI ((c.tasks.take j).map fun x => x.act)
theorem qqz {c : Cf} {j : Nat} {x : Tk} (h : c.tasks[j]? = some x) : actS c (j + 1) = actS c j + x.act := by
 unfold actS
 rw [List.take_add_one,h,Option.toList_some,List.map_append,List.map_singleton,qfk]
theorem qt1 (c : Cf) : capS c (prL9 c.tasks).length = actS c c.tasks.length := by
 unfold capS actS
 rw [List.take_of_length_le (Nat.le_refl _),List.take_of_length_le (Nat.le_refl _),qlt _ (qgt c.tasks) (tsX c) (fun x hx => ?_),List.map_map]
 ·rfl
 ·obtain ⟨y,hy,rfl⟩ := List.mem_map.1 hx
  exact (qmy _ _).2 ⟨y,hy,rfl⟩
theorem qt2 {c : Cf} (hm : May c) (hl : Ce.lookE c = 0) {W : World} {u : Ts} {v : Vs} (h : TbAt W (tbX c) u) (hc : CfAt W c v) {j : Nat} (hj : j < c.tasks.length) :
  ∃ (x : Tk) (g o : Nat) (s6 : Sl) (gq oq rk : Nat) (inn : Int) (mk au : Nat),(u.t.a = some ⟨g,o,none⟩ ∧ g < W.heap.size ∧ W.cell? ⟨g,o + j * 8,none⟩ = some (I x.prio) ∧ W.cell? ⟨g,o + j * 8 + 1,none⟩ = some (I (rk : Int)) ∧ W.cell? ⟨g,o + j * 8 + 2,none⟩ = some (.bool x.full) ∧ W.cell? ⟨g,o + j * 8 + 3,none⟩ = some (I x.act) ∧ W.cell? ⟨g,o + j * 8 + 4,none⟩ = some (.int .u32 (mk : Int)) ∧ W.cell? ⟨g,o + j * 8 + 5,none⟩ = some (I inn) ∧ W.cell? ⟨g,o + j * 8 + 6,none⟩ = some (.slice s6.a s6.n s6.c) ∧ W.cell? ⟨g,o + j * 8 + 7,none⟩ = some (.int .u32 (au : Int)) ∧ RowsAt W 1 intP s6 (ownL c x.res)) ∧ (v.t.a = some ⟨gq,oq,none⟩ ∧ gq < W.heap.size ∧ W.cell? ⟨gq,oq + j * 8 + 1,none⟩ = some (I x.prio) ∧ W.cell? ⟨gq,oq + j * 8 + 3,none⟩ = some (I x.act)) ∧ x ∈ c.tasks ∧ rk < (prL9 c.tasks).length ∧ (prL9 c.tasks)[rk]? = some x.prio ∧ (inn < 0 ∨ x.prio ≤ inn) ∧ actS c (j + 1) = actS c j + x.act ∧ 1 ≤ x.act ∧ x.act ≤ 255 ∧ (ownL c x.res).length ≤ 1048576 := by
 obtain ⟨x,hx⟩ : ∃ x,c.tasks[j]? = some x := ⟨_,List.getElem?_eq_getElem hj⟩
 have hxm := List.mem_of_getElem? hx
 have ht : (tbX c).tasks[j]? = some (mkT c (Ce.ceilL c) (prL9 c.tasks) x) := by
  show (c.tasks.map _)[j]? = _
  rw [List.getElem?_map,hx]
  rfl
 obtain ⟨g,o,s6,h0,h1,h2⟩ := qq3 h ht
 obtain ⟨gq,oq,t4,t5,t6,t7,e0,e1,e2,e3,e4,e5,_⟩ := qbj hc hx
 obtain ⟨r1,r2,r3⟩ := qsz hxm
 have q : (inR x.prio 0 63 && inR x.act 1 255) = true := (hm.t.2 j x hx).2.2 0 (by omega)
 have ba := in9 (Bool.and_eq_true_iff.1 q).2
 have q1 : (risF (-1) x.auto c.modes.length && risF (-1) x.res c.ress.length && risF (-1) x.evs c.evs.length && risF (-1) x.msgs c.msgs.length) = true := (hm.t.2 j x hx).2.2 1 (by omega)
 simp only [Bool.and_eq_true] at q1
 have rr := ris9 q1.1.1.2
 have nr := in9 hm.r.1
 obtain ⟨rk,hrk⟩ := Int.eq_ofNat_of_zero_le r1
 have h2' := h2
 have er : (mkT c (Ce.ceilL c) (prL9 c.tasks) x).ring = (rk : Int) := hrk
 rw [er] at h2
 refine ⟨x,g,o,s6,gq,oq,rk,inlI c (Ce.ceilL c) x.res,qc1 c x.evs,bitN x.auto,⟨h0,h1,h2⟩,⟨e0,e1,e3,e5⟩,hxm,by rw [hrk] at r2; omega,by rw [hrk,Int.toNat_natCast] at r3; exact r3, ?_,qqz hx,ba.1,ba.2, ?_⟩
 ·by_cases hi : inlI c (Ce.ceilL c) x.res < 0
  ·exact Or.inl hi
  ·exact Or.inr (qvs hl hxm rr.1 (by omega))
 ·unfold ownL
  rw [List.length_append]
  have := List.length_filter_le (fun x => !innB c x) x.res
  split <;> simp <;> omega
theorem qut {c : Cf} (hm : May c) (hl : Ce.lookE c = 0) {W : World} {u : Ts} (h : TbAt W (tbX c) u) {x : Tk} (hx : x ∈ c.tasks) {z : Int} (hz : z ∈ ownL c x.res) : ∃ (k gr og : Nat) (ce : Int),z = (k : Int) ∧ k < (rsX c).length ∧ u.r.a = some ⟨gr,og,none⟩ ∧ gr < W.heap.size ∧ W.cell? ⟨gr,og + k * 2,none⟩ = some (.bool false) ∧ W.cell? ⟨gr,og + k * 2 + 1,none⟩ = some (I ce) ∧ x.prio ≤ ce := by
 obtain ⟨j,hj⟩ := List.getElem?_of_mem hx
 have q1 : (risF (-1) x.auto c.modes.length && risF (-1) x.res c.ress.length && risF (-1) x.evs c.evs.length && risF (-1) x.msgs c.msgs.length) = true := (hm.t.2 j x hj).2.2 1 (by omega)
 simp only [Bool.and_eq_true] at q1
 obtain ⟨h1,h2,ce,h3,h4⟩ := quq hm hl hx (ris9 q1.1.1.2).1 hz
 obtain ⟨k,rfl⟩ := Int.eq_ofNat_of_zero_le h1
 rw [Int.toNat_natCast] at h3
 obtain ⟨gr,og,e1,e2,e3,e4⟩ := qq4 h (show (tbX c).ress[k]? = some ⟨false,ce⟩ from h3)
 exact ⟨k,gr,og,ce,rfl,by show k < (resL c (Ce.ceilL c) (Ce.schE c)).length; omega,e1,e2,e3,e4,h4⟩
theorem qt3 (w : World) (c : Cf) (v : Vs) (h : CfAt w c v) (ha : allF c = none)
  (kM : ∀ W,Below w.heap.size w W → Calls Tryz.prog 11 #[.agg (cfC c v)] W fun e w' => (∃ u : Ts,e = .returned (.tuple #[.agg (tbC (tbX c) u),I 0]) ∧ SX W.heap.size w' c u) ∧ Below W.heap.size W w')
  (kY : ∀ W,Below w.heap.size w W → Calls Tryz.prog 12 #[.agg (cfC c v)] W fun e w' => e = .returned (.bool true) ∧ Below W.heap.size W w')
  (kH : ∀ W,Below w.heap.size w W → Calls Tryz.prog 10 #[] W fun e w' => e = .returned (.bool true) ∧ Below W.heap.size W w') : Calls Tryz.prog 4 #[.agg (cfC c v)] w fun e w' => e = .returned (.bool true) ∧ Below w.heap.size w w' := by
 have hb := qa0 w (.cells (cfC c v) 47)
 have hV := heap_alloc_new w (.cells (cfC c v) 47)
 have hi18 : (Tryz.prog.info? 47).map (·.size) = some (cfC c v).size := by rw [show (cfC c v).size = 18 from rfl]; kernel_rfl
 have HV : Hid (∀ W,Below (w.alloc (.cells (cfC c v) 47)).heap.size (w.alloc (.cells (cfC c v) 47)) W → W.heap[w.heap.size]? = some (.cells (cfC c v) 47 (0,0)) ∧ W.cell? ⟨w.heap.size,11,none⟩ = some (.slice v.t.a c.tasks.length v.t.c) ∧ Below w.heap.size w W ∧ CfAt W c v) := fun W hW => by
  have h1 := (hW.block _ (qa1 hV)).trans hV
  have hbW := hb.trans (hW.mono hb.size)
  refine ⟨h1, ?_,hbW,h.below hbW⟩
  rw [cell_of_row W _ 11 _ _ (0,0) h1, ← h.t.n]
  rfl
 have HKM : Hid _ := kM
 have HKY : Hid _ := kY
 have HKH : Hid _ := kH
 clear kM kY kH
 have kM1 := HKM.out _ hb
 clear h
 generalize hCC : cfC c v = C at *
 clear hCC
 go_enter Tryz.func4,Tryz.ntmps4
 go_upto_region 1 with fail
 have hv0 := hV
 generalize (w.alloc (.cells C 47)) = W1 at *
 go_upto_region 2 with (first
  | (with_reducible refine qa8 ?_; refine wpList_load_row rfl 47 _ rfl w.heap.size rfl 47 _ (0,0) _ hv0 Tryz.underlying47 rfl hi18 ?_)
  | (go_at_call 11; refine kM1.mono ?_; clear kM1; rintro e w1 ⟨⟨u,rfl,sx⟩,b1⟩; have hz := heap_alloc_new w1 (.cells zTb 30); have hiT : (Tryz.prog.info? 30).map (·.size) = some (tbC (tbX c) u).size := (by rw [show (tbC (tbX c) u).size = 13 from rfl]; kernel_rfl); have h1c : (tbC (tbX c) u).all (·.oneCell') = true := (by simp [tbC,Value.oneCell']); have hsz : zTb.size = (tbC (tbX c) u).size := rfl; have HTB : Hid (tbC (tbX c) u = tbC (tbX c) u) := rfl; unfold zTb at hz hsz; generalize hTB : tbC (tbX c) u = TB at hiT h1c hsz ⊢)
  | (with_reducible refine qa8 ?_; refine wpList_store_row rfl 30 _ _ rfl w1.heap.size _ rfl rfl 30 _ hz hiT hsz h1c ?_))
 have HX2 : Hid (((w1.alloc (.cells #[I 0,I 0, .slice none 0 0, .slice none 0 0, .slice none 0 0, .slice none 0 0, .slice none 0 0, .slice none 0 0, .slice none 0 0,I 0,I 0,I 0,I 0] 30)).setRow w1.heap.size TB).heap[w1.heap.size]? = some (.cells TB 30 (0,0)) ∧ Below W1.heap.size W1 ((w1.alloc (.cells #[I 0,I 0, .slice none 0 0, .slice none 0 0, .slice none 0 0, .slice none 0 0, .slice none 0 0, .slice none 0 0, .slice none 0 0,I 0,I 0,I 0,I 0] 30)).setRow w1.heap.size TB) ∧ SX W1.heap.size ((w1.alloc (.cells #[I 0,I 0, .slice none 0 0, .slice none 0 0, .slice none 0 0, .slice none 0 0, .slice none 0 0, .slice none 0 0, .slice none 0 0,I 0,I 0,I 0,I 0] 30)).setRow w1.heap.size TB) c u) := by
  have g2 : (w1.alloc (.cells #[I 0,I 0, .slice none 0 0, .slice none 0 0, .slice none 0 0, .slice none 0 0, .slice none 0 0, .slice none 0 0, .slice none 0 0,I 0,I 0,I 0,I 0] 30)).grownBy ((w1.alloc (.cells #[I 0,I 0, .slice none 0 0, .slice none 0 0, .slice none 0 0, .slice none 0 0, .slice none 0 0, .slice none 0 0, .slice none 0 0,I 0,I 0,I 0,I 0] 30)).setRow w1.heap.size TB) (some w1.heap.size) := Ce.grown_row _ _ _
  have b2 := qa0 w1 (.cells #[I 0,I 0, .slice none 0 0, .slice none 0 0, .slice none 0 0, .slice none 0 0, .slice none 0 0, .slice none 0 0, .slice none 0 0,I 0,I 0,I 0,I 0] 30)
  have b3 := b1.trans (b2.mono b1.size)
  exact ⟨setRow_heap _ _ _ _ _ _ hz,b3.grown g2 b3.size (fun k e => by cases e; exact b1.size),SG.store (SG.below sx b2) hz g2⟩
 clear hz hiT h1c hsz HTB sx
 generalize (w1.alloc (.cells #[I 0,I 0, .slice none 0 0, .slice none 0 0, .slice none 0 0, .slice none 0 0, .slice none 0 0, .slice none 0 0, .slice none 0 0,I 0,I 0,I 0,I 0] 30)).setRow w1.heap.size TB = W2 at *
 generalize w1.heap.size = T at *
 obtain ⟨hT2,B2,sx2⟩ := HX2.out
 clear HX2 b1
 obtain ⟨at_,ct,ag,cg,ar,cr,ak,ck,aa,ca,ai,ci,am,cm2,rfl,h6,hG⟩ := sx2
 have sx2 : SX W1.heap.size W2 c _ := ⟨at_,ct,ag,cg,ar,cr,ak,ck,aa,ca,ai,ci,am,cm2,rfl,h6,hG⟩
 have HT : Hid (∀ W,Below W2.heap.size W2 W → W.cell? ⟨T,2,none⟩ = some (.slice at_ c.tasks.length ct) ∧ W.cell? ⟨T,3,none⟩ = some (.slice ag (prL9 c.tasks).length cg) ∧ W.cell? ⟨T,4,none⟩ = some (.slice ar (resL c (Ce.ceilL c) (Ce.schE c)).length cr) ∧ W.heap[w.heap.size]? = some (.cells C 47 (0,0)) ∧ W.cell? ⟨w.heap.size,11,none⟩ = some (.slice v.t.a c.tasks.length v.t.c) ∧ Below w.heap.size w W ∧ TbAt W (tbX c) _ ∧ CfAt W c v) := fun W hW => by
  have h1 := (hW.block _ (qa1 hT2)).trans hT2
  obtain ⟨h2,h3,h4,h5⟩ := HV.out W (B2.trans (hW.mono B2.size))
  refine ⟨?_, ?_, ?_,h2,h3,h4,SG.at9 (SG.below sx2 hW) _ _ _ _ _ _,h5⟩
  ·rw [cell_of_row W _ 2 _ _ (0,0) h1, ← hTB,show c.tasks.length = (c.tasks.map (mkT c (Ce.ceilL c) (prL9 c.tasks))).length from (List.length_map _).symm]; rfl
  ·rw [cell_of_row W _ 3 _ _ (0,0) h1, ← hTB]; rfl
  ·rw [cell_of_row W _ 4 _ _ (0,0) h1, ← hTB]; rfl
 clear hT2 sx2 h6 hG hTB HKM hv0 hV hb HV B2
 obtain ⟨_,_,_,hv2,_,bw2,_,_⟩ := HT.out W2 (Below.refl _ _)
 have kY2 := HKY.out W2 bw2
 go_upto_region 6 with (first
  | (with_reducible refine qa8 ?_; refine wpList_load_row rfl 47 _ rfl w.heap.size rfl 47 _ (0,0) _ hv2 Tryz.underlying47 rfl hi18 ?_)
  | (go_at_call 12; refine kY2.mono ?_; clear kY2; rintro e w3 ⟨rfl,b3⟩; obtain ⟨q2,q3,_,_,q11,_⟩ := HT.out w3 b3))
 have hmy := qki ha
 have HM : Hid (May c) := hmy
 have hml : (prL9 c.tasks).length ≤ 256 := by have h1 := qmz c.tasks; have h2 := in9 hmy.t.1; omega
 have hnl : c.tasks.length ≤ 256 := by have h2 := in9 hmy.t.1; omega
 have HR : Hid (∀ W,Below W2.heap.size W2 W → ∀ j,j < (prL9 c.tasks).length → ∃ (gg oo : Nat) (p k : Int),ag = some ⟨gg,oo,none⟩ ∧ gg < W.heap.size ∧ W.cell? ⟨gg,oo + j * 2,none⟩ = some (I p) ∧ W.cell? ⟨gg,oo + j * 2 + 1,none⟩ = some (I k) ∧ (prL9 c.tasks)[j]? = some p ∧ capS c (j + 1) = capS c j + k ∧ 0 ≤ k ∧ k ≤ 65280) := fun W hW j hj => qt0 hmy (HT.out W hW).2.2.2.2.2.2.1 hj
 have HPF : Hid (∀ i p q,(prL9 c.tasks)[i]? = some p → (prL9 c.tasks)[i + 1]? = some q → q < p) := fun i p q hp hq => by
  have h1 := List.getElem?_eq_some_iff.1 hp
  have h2 := List.getElem?_eq_some_iff.1 hq
  have := List.pairwise_iff_getElem.1 (qgt c.tasks) i (i + 1) h1.1 h2.1 (by omega)
  rw [h1.2,h2.2] at this
  exact this
 have HCB : Hid (∀ j,0 ≤ capS c j ∧ capS c j ≤ 65280 * j) := qn4 hmy
 have HB3 : Hid (Below W2.heap.size W2 w3) := b3
 have HS0 : Hid (capS c 0 = 0) := by show _ = _; simp [capS,sumI]
 clear hmy q2 q3 q11 hv2 bw2 b3 HKY
 generalize hm_ : (prL9 c.tasks).length = m at *
 go_wp2
 go_loopw [5,6] (fun sv iv wr => ∃ (j : Nat) (s : Int),j ≤ m ∧ iv = .int .i64 j ∧ sv = .int .i64 s ∧ -(65280 * j) ≤ s ∧ s ≤ 0 ∧ Hid (s = -(capS c j) ∧ Below W2.heap.size W2 wr)) (fun _ iv _ => m - (intOf iv).toNat)
 case atStart => exact ⟨0,0,by omega,rfl,rfl,by omega,by omega,by rw [HS0.out]; rfl,HB3.out⟩
 case round =>
  obtain ⟨j,s,hj,rfl,rfl,hs1,hs2,HJ⟩ := hrel
  obtain ⟨_,q3,_⟩ := HT.out wr HJ.out.2
  by_cases hlt : j < m
  ·have hlt' : (j : Int) < m := by omega
   obtain ⟨gg,oo,p,k,eg,hgl,r0,r1,hp,hcs,hk0,hk1⟩ := HR.out wr HJ.out.2 j hlt
   have HC : Hid (capS c (j + 1) = capS c j + k) := hcs
   rw [eg] at q3
   clear hcs hgl
   have y3 := cell_regrown q3
   have y0 := cell_regrown r0
   by_cases gj : j = 0
   ·subst gj
    clear hp
    go_wp2
    refine wp_region_quiet_below (by kernel_rfl) (by kernel_rfl) ?_
    repeat (first | (go_big_quiet_step (first | fail)))
    refine wpQuiet_nil ?_
    rintro _ ⟨⟨dq,osq⟩,rfl⟩
    dsimp only
    have HB9 : Hid (Below wr.heap.size wr (grow (redrawn wr dq) osq)) := below_regrown wr dq osq
    generalize grow (redrawn wr dq) osq = w9 at *
    clear y3 y0 q3 r0 r1
    go_wp2
    go_roundw
    case rel => exact ⟨1,s - k,by omega,rfl,rfl,by omega,by omega,by have h1 := HJ.out.1; have h2 := HC.out; simp only [Nat.zero_add] at h2; omega,HJ.out.2.trans (HB9.out.mono HJ.out.2.size)⟩
    case measure => simp [intOf]; omega
   ·obtain ⟨i,rfl⟩ : ∃ i,j = i + 1 := ⟨j - 1,by omega⟩
    obtain ⟨gg',oo',p',k',eg',_,r0',_,hp',_⟩ := HR.out wr HJ.out.2 i (by omega)
    rw [eg] at eg'
    cases eg'
    have hfall := HPF.out i p' p hp' hp
    have dj : decide ((0 : Int) < ((i + 1 : Nat) : Int)) = true := by simp
    have d2 : decide (p' ≤ p) = false := by simp; omega
    have y6 := cell_regrown r0'
    clear hp hp' r0' gj
    go_wp2
    refine wp_region_quiet_below (by kernel_rfl) (by kernel_rfl) ?_
    repeat (first | (go_big_quiet_step (first | fail)))
    refine wpQuiet_nil ?_
    rintro _ ⟨⟨dq,osq⟩,rfl⟩
    dsimp only
    have HB9 : Hid (Below wr.heap.size wr (grow (redrawn wr dq) osq)) := below_regrown wr dq osq
    generalize grow (redrawn wr dq) osq = w9 at *
    clear y3 y0 y6 q3 r0 r1
    go_wp2
    go_roundw
    case rel => exact ⟨i + 1 + 1,s - k,by omega,by go_num,by go_num,by omega,by omega,by have h1 := HJ.out.1; have h2 := HC.out; omega,HJ.out.2.trans (HB9.out.mono HJ.out.2.size)⟩
    case measure => simp [intOf]; omega
  ·obtain rfl : j = m := by omega
   have hlt' : ¬ ((j : Nat) : Int) < (j : Nat) := by omega
   have hlook := qln ha
   have HTK : Hid (∀ W,Below W2.heap.size W2 W → ∀ i,i < c.tasks.length → ∃ (x : Tk) (g o : Nat) (s6 : Sl) (gq oq rk : Nat) (inn : Int) (mk au : Nat),(at_ = some ⟨g,o,none⟩ ∧ g < W.heap.size ∧ W.cell? ⟨g,o + i * 8,none⟩ = some (I x.prio) ∧ W.cell? ⟨g,o + i * 8 + 1,none⟩ = some (I (rk : Int)) ∧ W.cell? ⟨g,o + i * 8 + 2,none⟩ = some (.bool x.full) ∧ W.cell? ⟨g,o + i * 8 + 3,none⟩ = some (I x.act) ∧ W.cell? ⟨g,o + i * 8 + 4,none⟩ = some (.int .u32 (mk : Int)) ∧ W.cell? ⟨g,o + i * 8 + 5,none⟩ = some (I inn) ∧ W.cell? ⟨g,o + i * 8 + 6,none⟩ = some (.slice s6.a s6.n s6.c) ∧ W.cell? ⟨g,o + i * 8 + 7,none⟩ = some (.int .u32 (au : Int)) ∧ RowsAt W 1 intP s6 (ownL c x.res)) ∧ (v.t.a = some ⟨gq,oq,none⟩ ∧ gq < W.heap.size ∧ W.cell? ⟨gq,oq + i * 8 + 1,none⟩ = some (I x.prio) ∧ W.cell? ⟨gq,oq + i * 8 + 3,none⟩ = some (I x.act)) ∧ x ∈ c.tasks ∧ rk < (prL9 c.tasks).length ∧ (prL9 c.tasks)[rk]? = some x.prio ∧ (inn < 0 ∨ x.prio ≤ inn) ∧ actS c (i + 1) = actS c i + x.act ∧ 1 ≤ x.act ∧ x.act ≤ 255 ∧ (ownL c x.res).length ≤ 1048576) := fun W hW i hi => qt2 HM.out hlook (HT.out W hW).2.2.2.2.2.2.1 (HT.out W hW).2.2.2.2.2.2.2 hi
   have HRS : Hid (∀ W,Below W2.heap.size W2 W → ∀ x ∈ c.tasks, ∀ z ∈ ownL c x.res, ∃ (k gr og : Nat) (ce : Int),z = (k : Int) ∧ k < (rsX c).length ∧ ar = some ⟨gr,og,none⟩ ∧ gr < W.heap.size ∧ W.cell? ⟨gr,og + k * 2,none⟩ = some (.bool false) ∧ W.cell? ⟨gr,og + k * 2 + 1,none⟩ = some (I ce) ∧ x.prio ≤ ce) := fun W hW x hx z hz => qut HM.out hlook (HT.out W hW).2.2.2.2.2.2.1 hx hz
   have HEND : Hid (capS c j = actS c c.tasks.length) := by show _ = _; rw [← hm_]; exact qt1 c
   have HSJ : Hid (s = -(capS c j) ∧ Below W2.heap.size W2 wr) := HJ.out
   have HA0 : Hid (actS c 0 = 0) := by show _ = _; simp [actS,sumI]
   rw [hm_] at HTK
   clear hlook ha HJ
   generalize hn_ : c.tasks.length = n at *
   go_wp2
   clear q3
   go_loopw [5,7,8,9] (fun sv iv _ _ wq => ∃ (i : Nat) (s2 : Int),i ≤ n ∧ iv = .int .i64 i ∧ sv = .int .i64 s2 ∧ s ≤ s2 ∧ s2 ≤ 255 * i ∧ Hid (s2 = s + actS c i ∧ Below W2.heap.size W2 wq)) (fun _ iv _ _ _ => n - (intOf iv).toNat)
   case atStart => exact ⟨0,s,by omega,rfl,rfl,by omega,by omega,by rw [HA0.out]; omega,HSJ.out.2⟩
   case round =>
    obtain ⟨i,s2,hi,rfl,rfl,hb1,hb2,HJ2⟩ := hrel
    obtain ⟨q2,q3,q4,_,q11,_,_,_⟩ := HT.out wr HJ2.out.2
    by_cases hlt2 : i < n
    ·have hlt2' : (i : Int) < n := by omega
     obtain ⟨x,g,o,s6,gq,oq,rk,inn,mk,au,⟨t0,t1,c0,c1,c2,c3,c4,c5,c6,c7,rown⟩,⟨e0,e1,p1,p3⟩,hxm,hrk,hpr,hin,hac,ha1,ha2,hol⟩ := HTK.out wr HJ2.out.2 i hlt2
     obtain ⟨gg,oo,pp,kk,eg,hgl,r0,_,hp,_⟩ := HR.out wr HJ2.out.2 rk hrk
     rw [hpr] at hp
     cases hp
     have HAC : Hid (actS c (i + 1) = actS c i + x.act) := hac
     have HXM : Hid (x ∈ c.tasks) := hxm
     have HOW : Hid (RowsAt wr 1 intP s6 (ownL c x.res) ∧ (ownL c x.res).length ≤ 1048576) := ⟨rown,hol⟩
     rw [t0] at q2
     rw [e0] at q11
     rw [eg] at q3
     have hs6 : s6.n ≤ 1048576 := by have h1 := HOW.out.1.n; have h2 := HOW.out.2; omega
     have hz8 := heap_alloc_new wr (.cells #[I 0,I 0, .bool false,I 0, .int .u32 0,I 0, .slice none 0 0, .int .u32 0] 56)
     have hi8 : (Tryz.prog.info? 56).map (·.size) = some (#[I x.prio,I (rk : Int), .bool x.full,I x.act, .int .u32 (mk : Int),I inn, .slice s6.a s6.n s6.c, .int .u32 (au : Int)] : Array Value).size := by kernel_rfl
     clear hac hxm rown hol
     go_upto_region 17 with (first
      | (with_reducible refine qa8 ?_; refine wpList_store_row rfl 56 _ _ rfl wr.heap.size _ rfl rfl 56 _ hz8 hi8 rfl (by simp [Value.oneCell']) ?_))
     have HX5 : Hid (∀ W,Below ((wr.alloc (.cells #[I 0,I 0, .bool false,I 0, .int .u32 0,I 0, .slice none 0 0, .int .u32 0] 56)).setRow wr.heap.size #[I x.prio,I (rk : Int), .bool x.full,I x.act, .int .u32 (mk : Int),I inn, .slice s6.a s6.n s6.c, .int .u32 (au : Int)]).heap.size ((wr.alloc (.cells #[I 0,I 0, .bool false,I 0, .int .u32 0,I 0, .slice none 0 0, .int .u32 0] 56)).setRow wr.heap.size #[I x.prio,I (rk : Int), .bool x.full,I x.act, .int .u32 (mk : Int),I inn, .slice s6.a s6.n s6.c, .int .u32 (au : Int)]) W → W.cell? ⟨wr.heap.size,0,none⟩ = some (I x.prio) ∧ W.cell? ⟨wr.heap.size,6,none⟩ = some (.slice s6.a s6.n s6.c) ∧ RowsAt W 1 intP s6 (ownL c x.res) ∧ Below W2.heap.size W2 W) ∧ Below wr.heap.size wr ((wr.alloc (.cells #[I 0,I 0, .bool false,I 0, .int .u32 0,I 0, .slice none 0 0, .int .u32 0] 56)).setRow wr.heap.size #[I x.prio,I (rk : Int), .bool x.full,I x.act, .int .u32 (mk : Int),I inn, .slice s6.a s6.n s6.c, .int .u32 (au : Int)]) ∧ ((wr.alloc (.cells #[I 0,I 0, .bool false,I 0, .int .u32 0,I 0, .slice none 0 0, .int .u32 0] 56)).setRow wr.heap.size #[I x.prio,I (rk : Int), .bool x.full,I x.act, .int .u32 (mk : Int),I inn, .slice s6.a s6.n s6.c, .int .u32 (au : Int)]).heap[wr.heap.size]? = some (.cells #[I x.prio,I (rk : Int), .bool x.full,I x.act, .int .u32 (mk : Int),I inn, .slice s6.a s6.n s6.c, .int .u32 (au : Int)] 56 (0,0)) := by
      have g5 : (wr.alloc (.cells #[I 0,I 0, .bool false,I 0, .int .u32 0,I 0, .slice none 0 0, .int .u32 0] 56)).grownBy ((wr.alloc (.cells #[I 0,I 0, .bool false,I 0, .int .u32 0,I 0, .slice none 0 0, .int .u32 0] 56)).setRow wr.heap.size #[I x.prio,I (rk : Int), .bool x.full,I x.act, .int .u32 (mk : Int),I inn, .slice s6.a s6.n s6.c, .int .u32 (au : Int)]) (some wr.heap.size) := Ce.grown_row _ _ _
      have b5 := qa0 wr (.cells #[I 0,I 0, .bool false,I 0, .int .u32 0,I 0, .slice none 0 0, .int .u32 0] 56)
      have B5 := b5.grown g5 b5.size (fun k e => by cases e; exact Nat.le_refl _)
      have h8 := setRow_heap (wr.alloc (.cells #[I 0,I 0, .bool false,I 0, .int .u32 0,I 0, .slice none 0 0, .int .u32 0] 56)) wr.heap.size _ #[I x.prio,I (rk : Int), .bool x.full,I x.act, .int .u32 (mk : Int),I inn, .slice s6.a s6.n s6.c, .int .u32 (au : Int)] _ _ hz8
      refine ⟨fun W hW => ?_,B5,h8⟩
      have h1 := (hW.block _ (qa1 h8)).trans h8
      have hbW := B5.trans (hW.mono B5.size)
      exact ⟨by rw [cell_of_row W _ 0 _ _ (0,0) h1]; rfl,by rw [cell_of_row W _ 6 _ _ (0,0) h1]; rfl,HOW.out.1.below hbW (fun _ _ _ _ h => h),HJ2.out.2.trans (hbW.mono HJ2.out.2.size)⟩
     obtain ⟨HX5,B5,h8⟩ := HX5
     clear hz8 hi8 c0 c1 c2 c3 c4 c5 c6 c7 q2 q4
     have p1 := (qa7 B5 _ _ e1).trans p1
     have p3 := (qa7 B5 _ _ e1).trans p3
     have r0 := (qa7 B5 _ _ hgl).trans r0
     have B25 := HJ2.out.2.trans (B5.mono HJ2.out.2.size)
     clear q3 q11
     obtain ⟨_,q3,_,_,q11,_,_,_⟩ := HT.out _ B25
     rw [e0] at q11
     rw [eg] at q3
     generalize ((wr.alloc (.cells #[I 0,I 0, .bool false,I 0, .int .u32 0,I 0, .slice none 0 0, .int .u32 0] 56)).setRow wr.heap.size #[I x.prio,I (rk : Int), .bool x.full,I x.act, .int .u32 (mk : Int),I inn, .slice s6.a s6.n s6.c, .int .u32 (au : Int)]) = W5 at *
     generalize wr.heap.size = X at *
     have z0 : W5.cell? ⟨X,0,none⟩ = some (I x.prio) := by rw [cell_of_row W5 X 0 _ _ (0,0) h8]; rfl
     have z1 : W5.cell? ⟨X,1,none⟩ = some (I (rk : Int)) := by rw [cell_of_row W5 X 1 _ _ (0,0) h8]; rfl
     have z5 : W5.cell? ⟨X,5,none⟩ = some (I inn) := by rw [cell_of_row W5 X 5 _ _ (0,0) h8]; rfl
     generalize hxp : x.prio = xp at *
     generalize hxa : x.act = xa at *
     clear h8 t0 t1 e0 e1 hgl eg hpr B5
     go_upto_region 18 with fail
     have y0 := cell_regrown z0
     have y1 := cell_regrown z1
     have y5 := cell_regrown z5
     have y3 := cell_regrown q3
     have y9 := cell_regrown r0
     have y11 := cell_regrown q11
     have yp := cell_regrown p1
     have d1 : decide ((rk : Int) < 0) = false := by simp
     have hrk' : (rk : Int) < (j : Int) := by omega
     have d2 : decide ((j : Int) ≤ (rk : Int)) = false := by simp; omega
     have d2n : decide (j ≤ rk) = false := by simp; omega
     by_cases h0 : 0 ≤ inn
     ·have d4 : decide (0 ≤ inn) = true := by simpa using h0
      have d5 : decide (inn < xp) = false := by simp; omega
      go_wp2
      refine wp_region_quiet_below (by kernel_rfl) (by kernel_rfl) ?_
      repeat (first | (go_big_quiet_step (first | fail)))
      refine wpQuiet_nil ?_
      rintro _ ⟨⟨dq,osq⟩,rfl⟩
      dsimp only
      have HB9 : Hid (Below W5.heap.size W5 (grow (redrawn W5 dq) osq)) := below_regrown W5 dq osq
      generalize grow (redrawn W5 dq) osq = w9 at *
      have HX9 : Hid (∀ W,Below w9.heap.size w9 W → W.cell? ⟨X,6,none⟩ = some (.slice s6.a s6.n s6.c) ∧ W.cell? ⟨X,0,none⟩ = some (I xp) ∧ W.cell? ⟨T,4,none⟩ = some (.slice ar (resL c (Ce.ceilL c) (Ce.schE c)).length cr) ∧ RowsAt W 1 intP s6 (ownL c x.res) ∧ Below W2.heap.size W2 W) := fun W hW => by
       have hW5 := HB9.out.trans (hW.mono HB9.out.size)
       obtain ⟨a0,a6,a7,a8⟩ := HX5.out W hW5
       exact ⟨a6,a0,(HT.out W a8).2.2.1,a7,a8⟩
      clear y0 y1 y5 y3 y9 y11 yp z0 z1 z5 q3 r0 q11 p1
      go_wp2
      go_loopw [9] (fun kv wq => ∃ (k : Nat),k ≤ s6.n ∧ kv = .int .i64 k ∧ Hid (Below w9.heap.size w9 wq)) (fun kv _ => s6.n - (intOf kv).toNat)
      case atStart => exact ⟨0,by omega,rfl,Below.refl _ _⟩
      case round =>
       obtain ⟨k,hk,rfl,HJ3⟩ := hrel
       obtain ⟨b6,b0,b4,brow,_⟩ := HX9.out wr HJ3.out
       by_cases hk3 : k < s6.n
       ·have hk3' : (k : Int) < s6.n := by omega
        obtain ⟨z,hz⟩ : ∃ z,(ownL c x.res)[k]? = some z := ⟨_,List.getElem?_eq_getElem (by rw [← brow.n]; exact hk3)⟩
        obtain ⟨g5,o5,e5,hg5,bz⟩ := qb9 brow hz
        obtain ⟨kz,gr,og,ce,rfl,hkz,er,hgr,f0,f1,hce⟩ := HRS.out wr (HX9.out wr HJ3.out).2.2.2.2 x HXM.out z (List.mem_of_getElem? hz)
        rw [e5] at b6
        rw [er] at b4
        have hkz' : (kz : Int) < (resL c (Ce.ceilL c) (Ce.schE c)).length := by have h9 : kz < (resL c (Ce.ceilL c) (Ce.schE c)).length := hkz; omega
        have d1 : decide ((kz : Int) < 0) = false := by simp
        have d2 : decide (((resL c (Ce.ceilL c) (Ce.schE c)).length : Int) ≤ (kz : Int)) = false := by simp; omega
        have d2n : decide ((resL c (Ce.ceilL c) (Ce.schE c)).length ≤ kz) = false := by simp; omega
        have hce' : xp ≤ ce := by rw [← hxp]; exact hce
        have d3 : decide (ce < xp) = false := by simp; omega
        have yb6 := cell_regrown b6
        have yb0 := cell_regrown b0
        have yb4 := cell_regrown b4
        have ybz := cell_regrown bz
        have yf0 := cell_regrown f0
        have yf1 := cell_regrown f1
        clear hz brow hg5 hgr hce hkz er e5
        generalize (resL c (Ce.ceilL c) (Ce.schE c)).length = nr at *
        go_wp2
        refine wp_region_quiet_below (by kernel_rfl) (by kernel_rfl) ?_
        repeat (first | (go_big_quiet_step (first | fail)))
        refine wpQuiet_nil ?_
        rintro _ ⟨⟨dq,osq⟩,rfl⟩
        dsimp only
        have HB8 : Hid (Below wr.heap.size wr (grow (redrawn wr dq) osq)) := below_regrown wr dq osq
        generalize grow (redrawn wr dq) osq = w8 at *
        clear yb6 yb0 yb4 ybz yf0 yf1 b6 b0 b4 bz f0 f1
        go_wp2
        go_roundw
        case rel => exact ⟨k + 1,by omega,by go_num,HJ3.out.trans (HB8.out.mono HJ3.out.size)⟩
        case measure => simp [intOf]; omega
       ·obtain rfl : k = s6.n := by omega
        have hk3' : ¬ ((s6.n : Nat) : Int) < (s6.n : Nat) := by omega
        clear b0 b4 brow
        go_wp2
        go_roundw
        case rel => exact ⟨i + 1,s2 + xa,by omega,by go_num,by go_num,by omega,by omega,by have h1 := HJ2.out.1; have h2 := HAC.out; omega,(HX9.out wr HJ3.out).2.2.2.2⟩
        case measure => simp [intOf]; omega
     ·have d4 : decide (0 ≤ inn) = false := by simpa using h0
      go_wp2
      refine wp_region_quiet_below (by kernel_rfl) (by kernel_rfl) ?_
      repeat (first | (go_big_quiet_step (first | fail)))
      refine wpQuiet_nil ?_
      rintro _ ⟨⟨dq,osq⟩,rfl⟩
      dsimp only
      have HB9 : Hid (Below W5.heap.size W5 (grow (redrawn W5 dq) osq)) := below_regrown W5 dq osq
      generalize grow (redrawn W5 dq) osq = w9 at *
      have HX9 : Hid (∀ W,Below w9.heap.size w9 W → W.cell? ⟨X,6,none⟩ = some (.slice s6.a s6.n s6.c) ∧ W.cell? ⟨X,0,none⟩ = some (I xp) ∧ W.cell? ⟨T,4,none⟩ = some (.slice ar (resL c (Ce.ceilL c) (Ce.schE c)).length cr) ∧ RowsAt W 1 intP s6 (ownL c x.res) ∧ Below W2.heap.size W2 W) := fun W hW => by
       have hW5 := HB9.out.trans (hW.mono HB9.out.size)
       obtain ⟨a0,a6,a7,a8⟩ := HX5.out W hW5
       exact ⟨a6,a0,(HT.out W a8).2.2.1,a7,a8⟩
      clear y0 y1 y5 y3 y9 y11 yp z0 z1 z5 q3 r0 q11 p1
      go_wp2
      go_loopw [9] (fun kv wq => ∃ (k : Nat),k ≤ s6.n ∧ kv = .int .i64 k ∧ Hid (Below w9.heap.size w9 wq)) (fun kv _ => s6.n - (intOf kv).toNat)
      case atStart => exact ⟨0,by omega,rfl,Below.refl _ _⟩
      case round =>
       obtain ⟨k,hk,rfl,HJ3⟩ := hrel
       obtain ⟨b6,b0,b4,brow,_⟩ := HX9.out wr HJ3.out
       by_cases hk3 : k < s6.n
       ·have hk3' : (k : Int) < s6.n := by omega
        obtain ⟨z,hz⟩ : ∃ z,(ownL c x.res)[k]? = some z := ⟨_,List.getElem?_eq_getElem (by rw [← brow.n]; exact hk3)⟩
        obtain ⟨g5,o5,e5,hg5,bz⟩ := qb9 brow hz
        obtain ⟨kz,gr,og,ce,rfl,hkz,er,hgr,f0,f1,hce⟩ := HRS.out wr (HX9.out wr HJ3.out).2.2.2.2 x HXM.out z (List.mem_of_getElem? hz)
        rw [e5] at b6
        rw [er] at b4
        have hkz' : (kz : Int) < (resL c (Ce.ceilL c) (Ce.schE c)).length := by have h9 : kz < (resL c (Ce.ceilL c) (Ce.schE c)).length := hkz; omega
        have d1 : decide ((kz : Int) < 0) = false := by simp
        have d2 : decide (((resL c (Ce.ceilL c) (Ce.schE c)).length : Int) ≤ (kz : Int)) = false := by simp; omega
        have d2n : decide ((resL c (Ce.ceilL c) (Ce.schE c)).length ≤ kz) = false := by simp; omega
        have hce' : xp ≤ ce := by rw [← hxp]; exact hce
        have d3 : decide (ce < xp) = false := by simp; omega
        have yb6 := cell_regrown b6
        have yb0 := cell_regrown b0
        have yb4 := cell_regrown b4
        have ybz := cell_regrown bz
        have yf0 := cell_regrown f0
        have yf1 := cell_regrown f1
        clear hz brow hg5 hgr hce hkz er e5
        generalize (resL c (Ce.ceilL c) (Ce.schE c)).length = nr at *
        go_wp2
        refine wp_region_quiet_below (by kernel_rfl) (by kernel_rfl) ?_
        repeat (first | (go_big_quiet_step (first | fail)))
        refine wpQuiet_nil ?_
        rintro _ ⟨⟨dq,osq⟩,rfl⟩
        dsimp only
        have HB8 : Hid (Below wr.heap.size wr (grow (redrawn wr dq) osq)) := below_regrown wr dq osq
        generalize grow (redrawn wr dq) osq = w8 at *
        clear yb6 yb0 yb4 ybz yf0 yf1 b6 b0 b4 bz f0 f1
        go_wp2
        go_roundw
        case rel => exact ⟨k + 1,by omega,by go_num,HJ3.out.trans (HB8.out.mono HJ3.out.size)⟩
        case measure => simp [intOf]; omega
       ·obtain rfl : k = s6.n := by omega
        have hk3' : ¬ ((s6.n : Nat) : Int) < (s6.n : Nat) := by omega
        clear b0 b4 brow
        go_wp2
        go_roundw
        case rel => exact ⟨i + 1,s2 + xa,by omega,by go_num,by go_num,by omega,by omega,by have h1 := HJ2.out.1; have h2 := HAC.out; omega,(HX9.out wr HJ3.out).2.2.2.2⟩
        case measure => simp [intOf]; omega
    ·obtain rfl : i = n := by omega
     have hlt2' : ¬ ((i : Nat) : Int) < (i : Nat) := by omega
     obtain rfl : s2 = 0 := by have h1 := HJ2.out.1; have h2 := HEND.out; have h3 := HSJ.out.1; omega
     have HB7 : Hid (Below w.heap.size w wr) := (HT.out wr HJ2.out.2).2.2.2.2.2.1
     have kH7 := HKH.out wr HB7.out
     clear q3 q4 q11
     go_wp2_with (first | (go_at_call 10; refine kH7.mono ?_; clear kH7; rintro e w7 ⟨rfl,b7⟩))
     go_ret
     exact ⟨rfl,HB7.out.trans (b7.mono HB7.out.size)⟩
def tbS (x : Tk) (us : Int) (md : Nat) (d f e c : Int) : Tb := ⟨us,md, [trow x], [⟨x.prio,IntKind.i64.wrap (capN [trow x] x.prio)⟩], [], [], [], [], [],d,f,e,c⟩
theorem qvt {B : Nat} {W : World} {x : Tk} {us : Int} {md : Nat} {d f e c : Int} {at_ : Option Addr} {ct : Nat} {ag : Option Addr} {cg : Nat} {ar : Option Addr} {cr : Nat} {ak : Option Addr} {ck : Nat} {aa : Option Addr} {ca : Nat} {ai : Option Addr} {ci : Nat} {am : Option Addr} {cm2 : Nat}
  (h : Six B W [trow x] [] [] [] [] [] (.slice at_ 1 ct) (.slice ar 0 cr) (.slice ak 0 ck) (.slice aa 0 ca) (.slice ai 0 ci) (.slice am 0 cm2)) (hg : RG B W [⟨x.prio,IntKind.i64.wrap (capN [trow x] x.prio)⟩] (.slice ag 1 cg)) : TbAt W (tbS x us md d f e c) ⟨⟨at_,1,ct⟩,⟨ag,1,cg⟩,⟨ar,0,cr⟩,⟨ak,0,ck⟩,⟨aa,0,ca⟩,⟨ai,0,ci⟩,⟨am,0,cm2⟩⟩ :=
 ⟨RO.rows (l := [trow x]) h.t (fun _ _ _ h => qlb h),RO.rows (l := [_]) hg (fun _ _ _ h => h),RO.rows (l := []) h.r (fun _ _ _ h => h),RO.rows (l := []) h.k (fun _ _ _ h => h),RO.rows (l := []) h.a (fun _ _ _ h => h),RO.rows (l := []) h.i (fun _ _ _ h => qqg h),RO.rows (l := []) h.m (fun _ _ _ h => h)⟩
def SO (B : Nat) (W : World) (x : Tk) (v : Ts) : Prop := ∃ (at_ : Option Addr) (ct : Nat) (ag : Option Addr) (cg : Nat) (ar : Option Addr) (cr : Nat) (ak : Option Addr) (ck : Nat) (aa : Option Addr) (ca : Nat) (ai : Option Addr) (ci : Nat) (am : Option Addr) (cm2 : Nat),v = ⟨⟨at_,1,ct⟩,⟨ag,1,cg⟩,⟨ar,0,cr⟩,⟨ak,0,ck⟩,⟨aa,0,ca⟩,⟨ai,0,ci⟩,⟨am,0,cm2⟩⟩ ∧ Six B W [trow x] [] [] [] [] [] (.slice at_ 1 ct) (.slice ar 0 cr) (.slice ak 0 ck) (.slice aa 0 ca) (.slice ai 0 ci) (.slice am 0 cm2) ∧ RG B W [⟨x.prio,IntKind.i64.wrap (capN [trow x] x.prio)⟩] (.slice ag 1 cg)
theorem SO.at9 {B : Nat} {W : World} {x : Tk} {v : Ts} (h : SO B W x v) (us : Int) (md : Nat) (d f e c : Int) : TbAt W (tbS x us md d f e c) v := by
 obtain ⟨at_,ct,ag,cg,ar,cr,ak,ck,aa,ca,ai,ci,am,cm2,rfl,h1,h2⟩ := h
 exact qvt h1 h2
theorem SO.below {B : Nat} {W W' : World} {x : Tk} {v : Ts} (h : SO B W x v) (hb : Below W.heap.size W W') : SO B W' x v := by
 obtain ⟨at_,ct,ag,cg,ar,cr,ak,ck,aa,ca,ai,ci,am,cm2,rfl,h1,h2⟩ := h
 exact ⟨at_,ct,ag,cg,ar,cr,ak,ck,aa,ca,ai,ci,am,cm2,rfl,h1.below hb,RG.below h2 hb⟩
theorem SO.store {B : Nat} {W W' : World} {x : Tk} {v : Ts} {g : Nat} {cs : Array Value} {fr : Nat × Nat} (h : SO B W x v) (hg : W.heap[g]? = some (.cells cs 30 fr)) (hb : W.grownBy W' (some g)) : SO B W' x v := by
 obtain ⟨at_,ct,ag,cg,ar,cr,ak,ck,aa,ca,ai,ci,am,cm2,rfl,h1,h2⟩ := h
 exact ⟨at_,ct,ag,cg,ar,cr,ak,ck,aa,ca,ai,ci,am,cm2,rfl,h1.store hg hb,RG.store h2 hg hb⟩
theorem RT.mono {B B' : Nat} {W : World} {l : List TkR} {u : Value} (h : RT B' W l u) (hB : B ≤ B') : RT B W l u := by
 obtain ⟨xs,h1,h2⟩ := h
 exact ⟨xs,qb2 h1 hB,h2.mono (fun _ _ _ h => qfi hB h)⟩
theorem RI.mono {B B' : Nat} {W : World} {l : List IsR} {u : Value} (h : RI B' W l u) (hB : B ≤ B') : RI B W l u := by
 obtain ⟨xs,h1,h2⟩ := h
 exact ⟨xs,qb2 h1 hB,h2.mono (fun _ _ _ h => qip hB h)⟩
abbrev cS0 : Cf := cfS [tkS 116]
abbrev vS0 (bm g : Nat) : Vs := vsS bm ⟨some ⟨g,0,none⟩,1,1⟩
abbrev tbK : Tb := tbS (tkS 116) 0 1 1 4 2 0
def zT13 : Array Value := #[I 0,I 0, .slice none 0 0, .slice none 0 0, .slice none 0 0, .slice none 0 0, .slice none 0 0, .slice none 0 0, .slice none 0 0,I 0,I 0,I 0,I 0]
theorem prS9 : prL9 cS0.tasks = [1] := by
 show Lib.compact (([tkS 116].map fun x => x.prio).mergeSort fun x y => decide (y ≤ x)) = [1]
 rw [List.map_singleton,List.mergeSort_singleton]
 rfl
theorem qr0 : tbX cS0 = tbK := by
 unfold tbX tbM zd9 zf9 ze9 zc9 tbM
 rw [prS9]
 rfl
theorem qt4 {B : Nat} {W : World} {u : Ts} (h : SX B W cS0 u) : SO B W (tkS 116) u := by
 unfold SX SM at h
 rw [prS9] at h
 exact h
theorem qmo (w : World) (bm g : Nat) (h : CfAt w cS0 (vS0 bm g)) (hE : EnvE w) : Calls Tryz.prog 11 #[.agg (cfC cS0 (vS0 bm g))] w fun e w' => (∃ v : Ts,e = .returned (.tuple #[.agg (tbC tbK v),I 0]) ∧ SO w.heap.size w' (tkS 116) v) ∧ Below w.heap.size w w' :=
 (qlp w cS0 (vS0 bm g) h (lens _ (by simp)) hE (fun x hx => by cases hx) all1).mono (fun e w' hq => by
  obtain ⟨⟨u,h1,h2⟩,h3⟩ := hq
  rw [qr0] at h1
  exact ⟨⟨u,h1,qt4 h2⟩,h3⟩)
end Go.Proofs.YtmidaeljeoifdaaGreatDoor
namespace Go.Proofs.YtmidaeljeoifdaaGreatDoor
open Go.RowKit Go.Shelf Go.Sort
set_option linter.unusedSimpArgs false
set_option linter.unusedVariables false
set_option maxHeartbeats 16000000
set_option maxRecDepth 100000
def rmB (tb : Tb) : Bool := qta tb (max (qae (tb.als.map fun x => x.ctr)) (qae (rcvL tb)))
theorem qlu (tb : Tb) (v : Ts) (w : World) (h : TbAt w tb v) (hr : RoomOK tb) : Calls Tryz.prog 25 #[.agg (tbC tb v)] w fun e w' => e = .returned (.bool (rmB tb)) ∧ Below w.heap.size w w' := by
 have hb := qa0 w (.cells (tbC tb v) 30)
 have hV0 := heap_alloc_new w (.cells (tbC tb v) 30)
 have hT0 := h.below hb
 have HB0 : Hid (Below w.heap.size w (w.alloc (.cells (tbC tb v) 30))) := hb
 have hi30 : (Tryz.prog.info? 30).map (·.size) = some (tbC tb v).size := by kernel_rfl
 obtain ⟨p0,p1,p2,p3,hp,hB⟩ : ∃ p0 p1 p2 p3 : Int,rmC tb = #[I p0,I p1,I p2,I p3] ∧ rmB tb = ((tb.depth == p0) && (tb.frames == p1) && (tb.errors == p2) && (tb.calls == p3)) := ⟨_,_,_,_,rfl,rfl⟩
 obtain ⟨R,hR⟩ : ∃ R,R = rmB tb := ⟨_,rfl⟩
 have HX : Hid (R = ((tb.depth == p0) && (tb.frames == p1) && (tb.errors == p2) && (tb.calls == p3))) := hR.trans hB
 rw [← hR]
 have kR := fun W hW => qga tb v W (hT0.below hW) hr
 rw [hp] at kR
 clear h hb hB hR hp
 go_enter Tryz.func25,Tryz.ntmps25
 unfold tbC at *
 go_upto_region 1 with fail
 generalize (w.alloc (.cells #[I tb.uses,I tb.modes, .slice v.t.a v.t.n v.t.c, .slice v.g.a v.g.n v.g.c, .slice v.r.a v.r.n v.r.c, .slice v.k.a v.k.n v.k.c, .slice v.a.a v.a.n v.a.c, .slice v.i.a v.i.n v.i.c, .slice v.s.a v.s.n v.s.c,I tb.depth,I tb.frames,I tb.errors,I tb.calls] 30)) = W0 at *
 have cR : ∀ d os,Calls Tryz.prog 73 #[.agg #[I tb.uses,I tb.modes, .slice v.t.a v.t.n v.t.c, .slice v.g.a v.g.n v.g.c, .slice v.r.a v.r.n v.r.c, .slice v.k.a v.k.n v.k.c, .slice v.a.a v.a.n v.a.c, .slice v.i.a v.i.n v.i.c, .slice v.s.a v.s.n v.s.c,I tb.depth,I tb.frames,I tb.errors,I tb.calls]] (grow (redrawn W0 d) os) fun e w'' => e = .returned (.agg #[I p0,I p1,I p2,I p3]) ∧ ∃ p : Regrown,w'' = grow (redrawn W0 p.d) p.os := qap kR
 have hRV := qbl hV0
 have x9 := cell_of_row _ w.heap.size 9 _ _ (0,0) hV0
 have x10 := cell_of_row _ w.heap.size 10 _ _ (0,0) hV0
 have x11 := cell_of_row _ w.heap.size 11 _ _ (0,0) hV0
 have x12 := cell_of_row _ w.heap.size 12 _ _ (0,0) hV0
 simp at x9 x10 x11 x12
 have y9 := cell_regrown x9
 have y10 := cell_regrown x10
 have y11 := cell_regrown x11
 have y12 := cell_regrown x12
 clear kR hT0 hr hV0 x9 x10 x11 x12
 by_cases b0 : p0 = tb.depth
 rotate_left
 ·refine wp_region_quiet_below (by kernel_rfl) (by kernel_rfl) ?_
  repeat (first | (go_big_quiet_step (first | exact cR _ _)) | (refine qa5 (by kernel_rfl) 30 _ rfl w.heap.size rfl 30 _ (0,0) _ hRV Tryz.underlying30 rfl hi30 ?_; simp only [Act.put,q7a,q7b,q7c,q7d,q7e,q7f]))
  refine wpQuiet_nil ?_
  rintro _ ⟨⟨dq,osq⟩,rfl⟩
  dsimp only
  have HB9 : Hid (Below w.heap.size w (grow (redrawn W0 dq) osq)) := HB0.out.trans ((below_regrown W0 dq osq).mono HB0.out.size)
  clear cR y9 y10 y11 y12 hRV
  generalize grow (redrawn W0 dq) osq = w9 at *
  go_wp2
  go_ret
  exact ⟨qa2 (by rw [HX.out,Bool.eq_iff_iff]; simp; try omega),HB9.out⟩
 subst b0
 by_cases b1 : p1 = tb.frames
 rotate_left
 ·refine wp_region_quiet_below (by kernel_rfl) (by kernel_rfl) ?_
  repeat (first | (go_big_quiet_step (first | exact cR _ _)) | (refine qa5 (by kernel_rfl) 30 _ rfl w.heap.size rfl 30 _ (0,0) _ hRV Tryz.underlying30 rfl hi30 ?_; simp only [Act.put,q7a,q7b,q7c,q7d,q7e,q7f]))
  refine wpQuiet_nil ?_
  rintro _ ⟨⟨dq,osq⟩,rfl⟩
  dsimp only
  have HB9 : Hid (Below w.heap.size w (grow (redrawn W0 dq) osq)) := HB0.out.trans ((below_regrown W0 dq osq).mono HB0.out.size)
  clear cR y9 y10 y11 y12 hRV
  generalize grow (redrawn W0 dq) osq = w9 at *
  go_wp2
  go_ret
  exact ⟨qa2 (by rw [HX.out,Bool.eq_iff_iff]; simp; try omega),HB9.out⟩
 subst b1
 by_cases b2 : p2 = tb.errors
 rotate_left
 ·refine wp_region_quiet_below (by kernel_rfl) (by kernel_rfl) ?_
  repeat (first | (go_big_quiet_step (first | exact cR _ _)) | (refine qa5 (by kernel_rfl) 30 _ rfl w.heap.size rfl 30 _ (0,0) _ hRV Tryz.underlying30 rfl hi30 ?_; simp only [Act.put,q7a,q7b,q7c,q7d,q7e,q7f]))
  refine wpQuiet_nil ?_
  rintro _ ⟨⟨dq,osq⟩,rfl⟩
  dsimp only
  have HB9 : Hid (Below w.heap.size w (grow (redrawn W0 dq) osq)) := HB0.out.trans ((below_regrown W0 dq osq).mono HB0.out.size)
  clear cR y9 y10 y11 y12 hRV
  generalize grow (redrawn W0 dq) osq = w9 at *
  go_wp2
  go_ret
  exact ⟨qa2 (by rw [HX.out,Bool.eq_iff_iff]; simp; try omega),HB9.out⟩
 subst b2
 by_cases b3 : p3 = tb.calls
 rotate_left
 ·refine wp_region_quiet_below (by kernel_rfl) (by kernel_rfl) ?_
  repeat (first | (go_big_quiet_step (first | exact cR _ _)) | (refine qa5 (by kernel_rfl) 30 _ rfl w.heap.size rfl 30 _ (0,0) _ hRV Tryz.underlying30 rfl hi30 ?_; simp only [Act.put,q7a,q7b,q7c,q7d,q7e,q7f]))
  refine wpQuiet_nil ?_
  rintro _ ⟨⟨dq,osq⟩,rfl⟩
  dsimp only
  have HB9 : Hid (Below w.heap.size w (grow (redrawn W0 dq) osq)) := HB0.out.trans ((below_regrown W0 dq osq).mono HB0.out.size)
  clear cR y9 y10 y11 y12 hRV
  generalize grow (redrawn W0 dq) osq = w9 at *
  go_wp2
  go_ret
  exact ⟨qa2 (by rw [HX.out,Bool.eq_iff_iff]; simp; try omega),HB9.out⟩
 subst b3
 refine wp_region_quiet_below (by kernel_rfl) (by kernel_rfl) ?_
 repeat (first | (go_big_quiet_step (first | exact cR _ _)) | (refine qa5 (by kernel_rfl) 30 _ rfl w.heap.size rfl 30 _ (0,0) _ hRV Tryz.underlying30 rfl hi30 ?_; simp only [Act.put,q7a,q7b,q7c,q7d,q7e,q7f]))
 refine wpQuiet_nil ?_
 rintro _ ⟨⟨dq,osq⟩,rfl⟩
 dsimp only
 have HB9 : Hid (Below w.heap.size w (grow (redrawn W0 dq) osq)) := HB0.out.trans ((below_regrown W0 dq osq).mono HB0.out.size)
 clear cR y9 y10 y11 y12 hRV
 generalize grow (redrawn W0 dq) osq = w9 at *
 go_wp2
 go_ret
 exact ⟨qa2 (by rw [HX.out,Bool.eq_iff_iff]; simp; try omega),HB9.out⟩
end Go.Proofs.YtmidaeljeoifdaaGreatDoor
