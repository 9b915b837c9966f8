import Derived.Test.YtijgopkhdjaolaaGreatHt0
import Derived.Test.YtijgopkhdjaolaaGreatGg
import Derived.Test.YtijgopkhdjaolaaGreatXGf
namespace Go.Proofs.YtijgopkhdjaolaaGreat
open Go.RowKit Go.Shelf Go.Sort
open Go.Proofs.YtijgopkhdjaolaaGreat.Ob (leB leV qa9 qai crc Rd RdAll qaa)
set_option linter.unusedSimpArgs false
set_option linter.unusedVariables false
set_option maxHeartbeats 16000000
set_option maxRecDepth 100000
theorem qdd (w : World) (x : Int) : Calls Tryz.prog 11 #[I x] w fun e w' => e = .returned (I x) ∧ w = w' := (qg0 w x).mono fun _ _ q => ⟨q.1,q.2.symm⟩
theorem qp6 (W : World) : Rd W none 0 0 [] := ⟨rfl,Nat.le_refl _,by omega,fun _ => ⟨rfl,rfl⟩,fun h => by omega⟩
theorem qlb (W : World) : Calls Tryz.prog 10 #[.slice none 0 0] W fun e w' => e = .returned (.tuple #[.slice none 0 0,I 100]) ∧ Below W.heap.size W w' := qm8 (qp6 W) (q := 100) rfl (by decide)
theorem qef (W : World) (tb : Tb) (v : Ts) (h : TbAt W tb v) (hw : WfT tb) (hc : chkP tb = true) (n : Nat) (hn : n = (img tb).length) : Calls Tryz.prog 9 #[.agg (tbC tb v)] W fun e w' => ∃ g cap,e = .returned (.tuple #[.slice (some ⟨g,0,none⟩) n cap,I 0]) ∧ W.heap.size ≤ g ∧ w'.ownsRow W.heap.size 5 1 (.slice (some ⟨g,0,none⟩) n cap) n (Bs8 (img tb)) ∧ n ≤ cap ∧ Below W.heap.size W w' := by
 have h30 := qbr hc hw
 refine (qfk W tb v h hw hc).mono ?_
 rintro e w2 ⟨u,rfl,hO,b2⟩
 rw [← hn] at hO
 obtain ⟨g,cap,rfl,hg0,hg,hle,hm, -,hO⟩ := ow8 hO (by omega)
 exact ⟨g,cap,rfl,hg0,hO,hle,b2⟩
def PaA (W : World) (gp : Nat) (ps : List Pce) : Prop := gp < W.heap.size ∧ ∀ k x,ps[k]? = some x → W.cell? ⟨gp,k * 4,none⟩ = some (I x.1) ∧ W.cell? ⟨gp,k * 4 + 1,none⟩ = some (I ((flP (ps.take k)).length : Nat)) ∧ W.cell? ⟨gp,k * 4 + 2,none⟩ = some (I (x.2.2.length : Nat)) ∧ W.cell? ⟨gp,k * 4 + 3,none⟩ = some (I (x.2.1 : Nat))
theorem PaA.below {W W' : World} {gp : Nat} {ps : List Pce} (h : PaA W gp ps) (hb : Below W.heap.size W W') : PaA W' gp ps := by
 refine ⟨Nat.lt_of_lt_of_le h.1 hb.size,fun k x hx => ?_⟩
 obtain ⟨a,b,c,d⟩ := h.2 k x hx
 exact ⟨(qa5 hb _ _ h.1).trans a,(qa5 hb _ _ h.1).trans b,(qa5 hb _ _ h.1).trans c,(qa5 hb _ _ h.1).trans d⟩
theorem qlc {W : World} {a : Option Addr} {n c : Nat} {tb : Tb} (h : Rd W a n c (img tb)) (hw : WfT tb) (hc : chkP tb = true) : Calls Tryz.prog 10 #[.slice a n c] W fun e w' => ∃ gp cp,e = .returned (.tuple #[.slice (some ⟨gp,0,none⟩) 9 cp,I 0]) ∧ 9 ≤ cp ∧ PaA w' gp (psOf tb) ∧ Below W.heap.size W w' := by
 refine (qge h (qdq hc hw (Ob.crc_lt _ _ (by decide)))).mono ?_
 rintro e w2 ⟨u,rfl,r,b⟩
 obtain ⟨gp,cp,rfl,hgp,hgp9,hcp,curp,hgpc,r⟩ := qms r (by decide)
 refine ⟨gp,cp,rfl,hcp,⟨hgp9,fun k x hx => ?_⟩,b⟩
 have hk : k < 9 := (List.getElem?_eq_some_iff.mp hx).1
 have q := ql9 (l := psOf tb) (k := k) 0 hx
 have c0 := r.cellAt (k * 4) (by omega)
 have c1 := r.cellAt (k * 4 + 1) (by omega)
 have c2 := r.cellAt (k * 4 + 2) (by omega)
 have c3 := r.cellAt (k * 4 + 3) (by omega)
 have q0 := q 0 (by omega)
 have q1 := q 1 (by omega)
 have q2 := q 2 (by omega)
 have q3 := q 3 (by omega)
 rw [Nat.zero_add] at q0 q1 q2 q3
 exact ⟨c0.trans q0,c1.trans q1,c2.trans q2,c3.trans q3⟩
theorem qgq (w : World) (tb : Tb) (v : Ts) (h : TbAt w tb v) (hw : WfT tb) (hc : chkP tb = false) : Calls Tryz.prog 3 #[.agg (tbC tb v)] w fun e w' => e = .returned (.bool true) ∧ Below w.heap.size w w' := by
 have hb1 := qa0 w (tO tb v)
 have hv1 := heap_alloc_new w (tO tb v)
 have hE := qeb (w.alloc (tO tb v)) tb v (h.below hb1) hw hc
 obtain ⟨c0,c1,c2,c3,c4,c5,c6,c7,c8,c9,c10,c11,c12⟩ := qbv hv1
 have HB1 : Hid (Below w.heap.size w (w.alloc (tO tb v))) := hb1
 have hA := fun W => qd1 W
 have hnn := fun W (x : Int) => qdd W x
 have hP := fun W => qlb W
 unfold tbC at *
 clear hb1 hv1 h hw hc
 go_enter Tryz.func3,Tryz.ntmps3
 go_upto_region 1 with fail
 generalize w.alloc (.cells #[I tb.uses,I tb.modes, .slice v.t.a v.t.n v.t.c, .slice v.g.a v.g.n v.g.c, .slice v.r.a v.r.n v.r.c, .slice v.k.a v.k.n v.k.c, .slice v.a.a v.a.n v.a.c, .slice v.i.a v.i.n v.i.c, .slice v.s.a v.s.n v.s.c,I tb.depth,I tb.frames,I tb.errors,I tb.calls] 30) = w1 at *
 go_wp2_with (first
  | (go_at_call 9; refine hE.mono ?_; clear hE c0 c1 c2 c3 c4 c5 c6 c7 c8 c9 c10 c11 c12; rintro e w2 ⟨rfl,b2⟩; have HB2 : Hid (Below w.heap.size w w2) := belT HB1.out b2; clear b2)
  | (go_at_call 10; refine (hP _).mono ?_; clear hP; rintro e w3 ⟨rfl,b3⟩; have HB3 : Hid (Below w.heap.size w w3) := belT HB2.out b3; clear b3)
  | (go_at_call 11; refine (hnn _ _).mono ?_; rintro e w' ⟨rfl,rfl⟩)
  | (go_at_call 12; refine (hA _).mono ?_; clear hA; rintro e w4 ⟨rfl,b4⟩; have HB4 : Hid (Below w.heap.size w w4) := belT HB3.out b4; clear b4))
 go_ret
 exact ⟨rfl,HB4.out⟩
theorem qg1 (w : World) (tb : Tb) (v : Ts) (h : TbAt w tb v) (hw : WfT tb) (hc : chkP tb = true) : Calls Tryz.prog 3 #[.agg (tbC tb v)] w fun e w' => e = .returned (.bool true) ∧ Below w.heap.size w w' := by
 obtain ⟨n,hn⟩ : ∃ n,n = (img tb).length := ⟨_,rfl⟩
 have h30 := qbr hc hw
 rw [← hn] at h30
 have hb1 := qa0 w (tO tb v)
 have hv1 := heap_alloc_new w (tO tb v)
 have hE := qef (w.alloc (tO tb v)) tb v (h.below hb1) hw hc n hn
 obtain ⟨c0,c1,c2,c3,c4,c5,c6,c7,c8,c9,c10,c11,c12⟩ := qbv hv1
 have HB1 : Hid (Below w.heap.size w (w.alloc (tO tb v)) ∧ (w.alloc (tO tb v)).heap[w.heap.size]? = some (tO tb v)) := ⟨hb1,hv1⟩
 have HP : Hid (∀ W a c,Rd W a n c (img tb) → Calls Tryz.prog 10 #[.slice a n c] W fun e w' => ∃ gp cp,e = .returned (.tuple #[.slice (some ⟨gp,0,none⟩) 9 cp,I 0]) ∧ 9 ≤ cp ∧ PaA w' gp (psOf tb) ∧ Below W.heap.size W w') := fun W a c hR => qlc hR hw hc
 have hA := fun W => qd1 W
 have hnn := fun W (x : Int) => qdd W x
 have HL : Hid (nL tb = ([1,v.t.n,v.g.n,v.r.n,v.k.n,v.a.n,v.i.n,v.s.n,1] : List Int)) := by
  show _ = _
  rw [h.t.n,h.g.n,h.r.n,h.k.n,h.a.n,h.i.n,h.s.n]; rfl
 have HN : Hid (n = (img tb).length ∧ 30 ≤ n ∧ n ≤ 100030) := ⟨hn,h30.2⟩
 unfold tbC at *
 clear hb1 hv1 h hw hc hn h30
 go_enter Tryz.func3,Tryz.ntmps3
 go_upto_region 1 with fail
 generalize w.alloc (.cells #[I tb.uses,I tb.modes, .slice v.t.a v.t.n v.t.c, .slice v.g.a v.g.n v.g.c, .slice v.r.a v.r.n v.r.c, .slice v.k.a v.k.n v.k.c, .slice v.a.a v.a.n v.a.c, .slice v.i.a v.i.n v.i.c, .slice v.s.a v.s.n v.s.c,I tb.depth,I tb.frames,I tb.errors,I tb.calls] 30) = w1 at *
 go_upto_region 3 with (first
  | (go_at_call 9; refine hE.mono ?_; clear hE c0 c1 c2 c3 c4 c5 c6 c7 c8 c9 c10 c11 c12; rintro e w2 ⟨g,cap,rfl,hg0,hO,hcap,b2⟩; have hRd : Rd w2 (some ⟨g,0,none⟩) n cap (img tb) := qaa hO (by have := HN.out; omega); have hP := HP.out _ _ _ hRd; have HB2 : Hid (Rd w2 (some ⟨g,0,none⟩) n cap (img tb) ∧ Below w1.heap.size w1 w2) := ⟨hRd,b2⟩; clear b2 hRd hO hg0)
  | (go_at_call 10; refine hP.mono ?_; clear hP HP; rintro e w3 ⟨gp,cp,rfl,hcp,hpa,b3⟩; have HB3 : Hid (Rd w3 (some ⟨g,0,none⟩) n cap (img tb) ∧ PaA w3 gp (psOf tb) ∧ Below w1.heap.size w1 w3) := ⟨HB2.out.1.below b3,hpa,belT HB2.out.2 b3⟩; clear b3 hpa HB2))
 go_upto_region 7 with (first | (go_at_call 11; refine (hnn _ _).mono ?_; rintro e w' ⟨rfl,rfl⟩))
 obtain ⟨c0,c1,c2,c3,c4,c5,c6,c7,c8,c9,c10,c11,c12⟩ := qbv (((HB3.out.2.2).block w.heap.size (qa4 HB1.out.2)).trans HB1.out.2)
 go_upto_region 8 with fail
 clear c0 c1 c2 c3 c4 c5 c6 c7 c8 c9 c10 c11 c12
 have hbn := qa0 w3 (.cells #[I 1,I v.t.n,I v.g.n,I v.r.n,I v.k.n,I v.a.n,I v.i.n,I v.s.n,I 1] 3)
 have hvn := heap_alloc_new w3 (.cells #[I 1,I v.t.n,I v.g.n,I v.r.n,I v.k.n,I v.a.n,I v.i.n,I v.s.n,I 1] 3)
 have hcn : ∀ (k : Nat) (z : Int),(nL tb)[k]? = some z → (#[I 1,I v.t.n,I v.g.n,I v.r.n,I v.k.n,I v.a.n,I v.i.n,I v.s.n,I 1] : Array Value)[k]? = some (I z) := by
  intro k z hz
  have e : (#[I 1,I v.t.n,I v.g.n,I v.r.n,I v.k.n,I v.a.n,I v.i.n,I v.s.n,I 1] : Array Value) = ((nL tb).map (fun z => I z)).toArray := by rw [HL.out]; rfl
  rw [e]; simp [hz]
 have HR : Hid (∀ W,Below (w3.alloc (.cells #[I 1,I v.t.n,I v.g.n,I v.r.n,I v.k.n,I v.a.n,I v.i.n,I v.s.n,I 1] 3)).heap.size (w3.alloc (.cells #[I 1,I v.t.n,I v.g.n,I v.r.n,I v.k.n,I v.a.n,I v.i.n,I v.s.n,I 1] 3)) W → Rd W (some ⟨g,0,none⟩) n cap (img tb)) := fun W hW => (HB3.out.1.below hbn).below hW
 have HF : Hid (Below w.heap.size w (w3.alloc (.cells #[I 1,I v.t.n,I v.g.n,I v.r.n,I v.k.n,I v.a.n,I v.i.n,I v.s.n,I 1] 3))) := belT HB1.out.1 (belT HB3.out.2.2 hbn)
 have HQ : Hid (∀ W,Below (w3.alloc (.cells #[I 1,I v.t.n,I v.g.n,I v.r.n,I v.k.n,I v.a.n,I v.i.n,I v.s.n,I 1] 3)).heap.size (w3.alloc (.cells #[I 1,I v.t.n,I v.g.n,I v.r.n,I v.k.n,I v.a.n,I v.i.n,I v.s.n,I 1] 3)) W → ∀ k : Nat,k < 9 → ∃ x,(psOf tb)[k]? = some x ∧ x.1 = (k : Int) + 1 ∧ (x.2.2.length = 0 ↔ x.2.1 = 0) ∧ W.cell? ⟨gp,k * 4,none⟩ = some (I x.1) ∧ W.cell? ⟨gp,k * 4 + 1,none⟩ = some (I ((flP ((psOf tb).take k)).length : Nat)) ∧ W.cell? ⟨gp,k * 4 + 2,none⟩ = some (I (x.2.2.length : Nat)) ∧ W.cell? ⟨gp,k * 4 + 3,none⟩ = some (I (x.2.1 : Nat)) ∧ W.cell? ⟨w3.heap.size,k,none⟩ = some (I (x.2.1 : Nat)) ∧ (flP ((psOf tb).take (k + 1))).length = (flP ((psOf tb).take k)).length + x.2.2.length ∧ (flP ((psOf tb).take k)).length + x.2.2.length ≤ 1000000) := fun W hW k hk => by
  obtain ⟨x,hx,h1,h2,h3⟩ := qq7 (tb := tb) hk
  obtain ⟨a,b,c,d⟩ := ((HB3.out.2.1.below hbn).below hW).2 k x hx
  have hc := (hW.block _ (qa4 hvn)).trans hvn
  have hf := qey hx
  have hle := qhs (psOf tb) (k + 1)
  have htot : (flP (psOf tb)).length ≤ 1000000 := by rw [qda, ← HN.out.1]; have := HN.out.2.2; omega
  have hf2 : (flP ((psOf tb).take (k + 1))).length = (flP ((psOf tb).take k)).length + x.2.2.length := by rw [hf,List.length_append]
  exact ⟨x,hx,h1,h3,a,b,c,d,(by rw [cell_of_row _ _ _ _ _ (0,0) hc]; exact hcn _ _ h2),hf2,by omega⟩
 have HZ : Hid ((flP ((psOf tb).take 9)).length = n) := by show _ = _; rw [qns,HN.out.1]
 have HC : Hid (∀ W,Below (w3.alloc (.cells #[I 1,I v.t.n,I v.g.n,I v.r.n,I v.k.n,I v.a.n,I v.i.n,I v.s.n,I 1] 3)).heap.size (w3.alloc (.cells #[I 1,I v.t.n,I v.g.n,I v.r.n,I v.k.n,I v.a.n,I v.i.n,I v.s.n,I 1] 3)) W → W.cell? ⟨gp,2,none⟩ = some (I 28) ∧ W.cell? ⟨gp,34,none⟩ = some (I 2)) := fun W hW => by
  have q := ((HB3.out.2.1.below hbn).below hW).2
  have q0 := (q 0 _ rfl).2.2.1
  have q8 := (q 8 _ rfl).2.2.1
  dsimp only at q0 q8
  rw [qe7] at q0
  rw [qa9] at q8
  exact ⟨q0,q8⟩
 clear hbn hvn hcn HB3 HB1 HL
 generalize w3.alloc (.cells #[I 1,I v.t.n,I v.g.n,I v.r.n,I v.k.n,I v.a.n,I v.i.n,I v.s.n,I 1] 3) = wn at *
 generalize w3.heap.size = gn at *
 generalize psOf tb = ps at *
 have HI : Hid (Below wn.heap.size wn wn) := Below.refl _ _
 go_wp2
 go_loopw [8,9] (fun v8 v9 wr => ∃ k : Nat,k ≤ 9 ∧ v9 = I k ∧ Hid (v8 = I ((flP (ps.take k)).length : Nat)) ∧ Hid (Below wn.heap.size wn wr)) (fun _ v9 _ => 9 - (intOf v9).toNat)
 case atStart => exact ⟨0,by omega,rfl,rfl,HI.out⟩
 case round =>
  clear HI
  obtain ⟨k,hk,rfl,HV,HJ⟩ := hrel
  have hv8 := HV.out
  subst hv8
  by_cases hlt : k < 9
  ·have hltI : (k : Int) < 9 := by omega
   obtain ⟨x,hx,h1,h2,p0,p1,p2,p3,p4,hf,hq⟩ := HQ.out wr HJ.out k hlt
   have hfh : Hid ((flP (ps.take (k + 1))).length = (flP (ps.take k)).length + x.2.2.length) := hf
   obtain ⟨xk,xn,xb⟩ := x
   dsimp only at *
   subst h1
   generalize (flP (ps.take k)).length = ofs at *
   have hlen0 : ((xb.length : Int) == 0) = ((xn : Int) == 0) := by
    rw [Bool.eq_iff_iff,beq_iff_eq,beq_iff_eq]; omega
   obtain ⟨zb,hzb⟩ : ∃ zb,((xn : Int) == 0) = zb := ⟨_,rfl⟩
   rw [hzb] at hlen0
   clear h2 hf hx
   have HSS : Hid (∀ W,Below wr.heap.size wr W → W.cell? ⟨gp,k * 4,none⟩ = some (I ((k : Int) + 1)) ∧ W.cell? ⟨gp,k * 4 + 1,none⟩ = some (I ofs) ∧ W.cell? ⟨gp,k * 4 + 2,none⟩ = some (I xb.length) ∧ W.cell? ⟨gp,k * 4 + 3,none⟩ = some (I xn) ∧ W.cell? ⟨gn,k,none⟩ = some (I xn)) := fun W hW => by
    refine ⟨?_, ?_, ?_, ?_, ?_⟩
    ·rw [qa5 hW _ _ (World.block_lt_of_cell? _ _ p0)]; exact p0
    ·rw [qa5 hW _ _ (World.block_lt_of_cell? _ _ p1)]; exact p1
    ·rw [qa5 hW _ _ (World.block_lt_of_cell? _ _ p2)]; exact p2
    ·rw [qa5 hW _ _ (World.block_lt_of_cell? _ _ p3)]; exact p3
    ·rw [qa5 hW _ _ (World.block_lt_of_cell? _ _ p4)]; exact p4
   clear p0 p1 p2 p3 p4
   have hneg : decide ((xb.length : Int) < 0) = false := by rw [decide_eq_false_iff_not]; omega
   have hwk : IntKind.i64.wrap ((k : Int) + 1) = (k : Int) + 1 := by rw [IntKind.wrap_i64]; omega
   have hb1 : (((k : Int) + 1) != ((k : Int) + 1)) = false := by simp
   have hb2 : ((ofs : Int) != (ofs : Int)) = false := by simp
   have hb3 : ((xn : Int) != (xn : Int)) = false := by simp
   go_upto_region 12 with fail
   have HY := HSS.out wr.drew (Below.refl wr.heap.size wr).drew
   go_region_held_law (fun W => W.cell? ⟨gp,k * 4,none⟩ = some (I ((k : Int) + 1)) ∧ W.cell? ⟨gp,k * 4 + 1,none⟩ = some (I ofs) ∧ W.cell? ⟨gp,k * 4 + 2,none⟩ = some (I xb.length) ∧ W.cell? ⟨gp,k * 4 + 3,none⟩ = some (I xn) ∧ W.cell? ⟨gn,k,none⟩ = some (I xn)) (first | exact HY | (go_keep; done)) (fail)
   have HJ2 : Hid (Below wn.heap.size wn wr.drew) := HJ.out.drew
   clear HJ
   obtain ⟨p0,p1,p2,p3,p4⟩ := HY
   go_wp2
   go_roundw
   case rel => exact ⟨k + 1,by omega,by go_num,(by show _ = _; rw [hfh.out]; simp),HJ2.out⟩
   case measure => simp [intOf]; omega
  ·obtain rfl : k = 9 := by omega
   rw [HZ.out]
   have c2 := (HC.out wr HJ.out).1
   have c34 := (HC.out wr HJ.out).2
   have hR := HR.out wr HJ.out
   have HF2 : Hid (Below w.heap.size w wr) := belT HF.out HJ.out
   clear HJ HV HC HR HF HQ
   obtain ⟨e,he⟩ : ∃ e,n = e + 2 := ⟨n - 2,by have := HN.out; omega⟩
   obtain ⟨f,hf⟩ : ∃ f,f = e + 1 := ⟨_,rfl⟩
   have hlen : (img tb).length = e + 2 := by rw [← HN.out.1]; exact he
   have hRe : Rd wr (some ⟨g,0,none⟩) e cap (eAll tb) := by
    have := qed hR 0 e cap (by omega) (by have := HN.out; omega) (by omega)
    have hfr := qla tb
    rw [hlen,show e + 2 - 2 = e from rfl] at hfr
    rw [← hfr]
    simpa using this
   have hit := qm9 (tb := tb)
   rw [hlen,show e + 2 - 2 = e from rfl,show e + 2 - 1 = e + 1 from rfl] at hit
   have hsl : crc 65535 (eAll tb) < 65536 := Ob.crc_lt _ _ (by decide)
   have HT : Hid (∀ W,Below wr.heap.size wr W → W.cell? ⟨g,e,none⟩ = some (.int .u8 ((crc 65535 (eAll tb) : Int) % 256)) ∧ W.cell? ⟨g,f,none⟩ = some (.int .u8 ((crc 65535 (eAll tb) : Int) / 256 % 256))) := fun W hW => by
    obtain ⟨b,off,e1, -,hc⟩ := (hR.below hW).hcell (by have := HN.out; omega)
    cases e1
    have q0 := hc _ _ hit.1
    have q1 := hc _ _ hit.2
    rw [Nat.zero_add] at q0 q1
    rw [hf]
    refine ⟨q0.trans (by simp),q1.trans (by simp)⟩
   have hbv := qa0 wr (.cells #[.slice (some ⟨g,0,none⟩) e cap] 31)
   have hvv := heap_alloc_new wr (.cells #[.slice (some ⟨g,0,none⟩) e cap] 31)
   have hCrc := Ob.crc_any (some ⟨wr.heap.size,0,none⟩) 1 1 [eAll tb] (wr.alloc (.cells #[.slice (some ⟨g,0,none⟩) e cap] 31)) (ql5 hvv (hRe.below hbv))
   rw [show Ob.crcs 65535 [eAll tb] = crc 65535 (eAll tb) from rfl] at hCrc
   generalize crc 65535 (eAll tb) = s at *
   have hc2 : (n : Int) - 2 = (e : Int) := by omega
   have hc1 : (n : Int) - 1 = (f : Int) := by omega
   have hw2 : IntKind.i64.wrap ((n : Int) - 2) = (n : Int) - 2 := by have := HN.out; rw [IntKind.wrap_i64]; omega
   have hw1 : IntKind.i64.wrap ((n : Int) - 1) = (n : Int) - 1 := by have := HN.out; rw [IntKind.wrap_i64]; omega
   have hwe : wrap64 (e : Int) = (e : Int) := by have := HN.out; unfold wrap64; omega
   have hwf : wrap64 (f : Int) = (f : Int) := by have := HN.out; unfold wrap64; omega
   clear hw1 hw2
   have he1 : (e : Int) ≤ n := by omega
   have he2 : (n : Int) ≤ cap := by omega
   have he3 : (e : Int) ≤ cap := by omega
   have he4 : ¬ (cap = e) := by omega
   have he5 : (e : Int) < n := by omega
   have he6 : (f : Int) < n := by omega
   have HB5 : Hid (Below wr.heap.size wr (wr.alloc (.cells #[.slice (some ⟨g,0,none⟩) e cap] 31))) := hbv
   clear hbv hvv hit hR hRe hlen
   have HE : Hid (n = e + 2 ∧ f = e + 1) := ⟨he,hf⟩
   clear he hf
   go_upto_region 18 with (first | (go_at_call 13; refine hCrc.mono ?_; clear hCrc; rintro ev wv ⟨rfl,rfl⟩))
   clear c2 c34
   obtain ⟨cA,cB⟩ := HT.out _ HB5.out
   have HF3 : Hid (Below w.heap.size w (wr.alloc (.cells #[.slice (some ⟨g,0,none⟩) e cap] 31))) := belT HF2.out HB5.out
   clear HB5 HF2 HT
   generalize wr.alloc (.cells #[.slice (some ⟨g,0,none⟩) e cap] 31) = wv at *
   go_wp2_with (first | (go_at_call 12; refine (hA _).mono ?_; clear hA; rintro ew w4 ⟨rfl,b4⟩; have HB4 : Hid (Below w.heap.size w w4) := belT HF3.out b4; clear b4))
   go_ret
   exact ⟨rfl,HB4.out⟩
theorem qg2 (w : World) (tb : Tb) (v : Ts) (h : TbAt w tb v) (hw : WfT tb) : Calls Tryz.prog 3 #[.agg (tbC tb v)] w fun e w' => e = .returned (.bool true) ∧ Below w.heap.size w w' := by
 cases hc : chkP tb with
 | false => exact qgq w tb v h hw hc
 | true => exact qg1 w tb v h hw hc
end Go.Proofs.YtijgopkhdjaolaaGreat
