import Derived.Test.YtijgopkhdjaolaaGreatXHs10
import Derived.Test.YtijgopkhdjaolaaGreatXHs8g
import Derived.Test.YtijgopkhdjaolaaGreatHq
import Derived.Deep.RegionHeldLaw
import Derived.Laws.AppendOwnNone
namespace Go.Proofs.YtijgopkhdjaolaaGreat
open Go.RowKit Go.Shelf Go.Sort
open Go.Proofs.YtijgopkhdjaolaaGreat.Ob (leB leV qac qam crc Rd RdAll qad)
set_option linter.unusedSimpArgs false
set_option linter.unusedVariables false
set_option maxHeartbeats 16000000
set_option maxRecDepth 100000
abbrev tO (tb : Tb) (v : Ts) : Obj := .cells #[I tb.uses,I tb.modes, .slice v.t.a v.t.n v.t.c, .slice v.g.a v.g.n v.g.c, .slice v.r.a v.r.n v.r.c, .slice v.k.a v.k.n v.k.c, .slice v.a.a v.a.n v.a.c, .slice v.i.a v.i.n v.i.c, .slice v.s.a v.s.n v.s.c,I tb.depth,I tb.frames,I tb.errors,I tb.calls] 30
theorem qht (w : World) (x : Int) : Calls Tryz.prog 11 #[I x] w fun e w' => e = .returned (I x) ∧ w' = w := by
 go_enter Tryz.func11,Tryz.ntmps11
 go_wp2
 go_ret
 exact ⟨rfl,rfl⟩
theorem qns : dec (img qao) = .ok qao := qm0 qk2 qlh (Ob.crc_lt _ _ (by decide))
theorem qnt : ((prC 0 (psOf qao))[4]?,(prC 0 (psOf qao))[5]?,(prC 0 (psOf qao))[6]?,(prC 0 (psOf qao))[7]?) = (some (I 2),some (I 28),some (I 11),some (I 1)) := by kernel_rfl
theorem ql0 {W : World} {X : Nat} {tb : Tb} {v : Ts} (h : W.heap[X]? = some (tO tb v)) : W.cell? ⟨X,0,none⟩ = some (I tb.uses) ∧ W.cell? ⟨X,1,none⟩ = some (I tb.modes) ∧ W.cell? ⟨X,2,none⟩ = some (.slice v.t.a v.t.n v.t.c) ∧ W.cell? ⟨X,3,none⟩ = some (.slice v.g.a v.g.n v.g.c) ∧ W.cell? ⟨X,4,none⟩ = some (.slice v.r.a v.r.n v.r.c) ∧ W.cell? ⟨X,5,none⟩ = some (.slice v.k.a v.k.n v.k.c) ∧ W.cell? ⟨X,6,none⟩ = some (.slice v.a.a v.a.n v.a.c) ∧ W.cell? ⟨X,7,none⟩ = some (.slice v.i.a v.i.n v.i.c) ∧ W.cell? ⟨X,8,none⟩ = some (.slice v.s.a v.s.n v.s.c) ∧ W.cell? ⟨X,9,none⟩ = some (I tb.depth) ∧ W.cell? ⟨X,10,none⟩ = some (I tb.frames) ∧ W.cell? ⟨X,11,none⟩ = some (I tb.errors) ∧ W.cell? ⟨X,12,none⟩ = some (I tb.calls) := by
 refine ⟨?_, ?_, ?_, ?_, ?_, ?_, ?_, ?_, ?_, ?_, ?_, ?_, ?_⟩ <;> (rw [cell_of_row _ _ _ _ _ (0,0) h]; rfl)
theorem ow8 {W : World} {base n : Nat} {u : Value} {l : List UInt8} (h : W.ownsRow base 5 1 u n (Bs8 l)) (hn : 0 < n) : ∃ g cap,u = .slice (some ⟨g,0,none⟩) n cap ∧ base ≤ g ∧ g < W.heap.size ∧ n ≤ cap ∧ cap ≤ maxLen ∧ (∃ cur,W.heap[g]? = some (.cells cur 5)) ∧ W.ownsRow base 5 1 (.slice (some ⟨g,0,none⟩) n cap) n (Bs8 l) := by
 have h' := h
 rcases h.2 with ⟨-,e⟩ | ⟨g,cap,cur,e1,e2,e3,e4,e5,e6,e7⟩
 ·omega
 ·subst e1
  exact ⟨g,cap,rfl,e2,qa4 e3,e4,e5,⟨cur,e3⟩,h'⟩
theorem qe0 {W : World} {base g cap n : Nat} {l : List UInt8} (h : W.ownsRow base 5 1 (.slice (some ⟨g,0,none⟩) n cap) n (Bs8 l)) {i : Nat} {x : UInt8} (hx : l[i]? = some x) : W.cell? ⟨g,i,none⟩ = some (.int .u8 (x.toNat : Int)) := by
 have hl : l.length = n := by have := h.1; simpa using this
 have hi : i < l.length := (List.getElem?_eq_some_iff.mp hx).1
 rw [h.cellAt i (by omega)]
 simp [hx,Ob.B]
theorem qmj {W : World} {base g cap n : Nat} {l : List UInt8} (h : W.ownsRow base 5 1 (.slice (some ⟨g,0,none⟩) n cap) n (Bs8 l)) (i : Nat) (x : UInt8) : (W.setCell ⟨g,i,none⟩ (.int .u8 (x.toNat : Int))).ownsRow base 5 1 (.slice (some ⟨g,0,none⟩) n cap) n (Bs8 (l.set i x)) := by
 have := (h.stored i (.int .u8 (x.toNat : Int))).1
 simpa [Bs8,Ob.B,List.map_set] using this
theorem TbO.setU {W : World} {lo Y i : Nat} {tb : Tb} {v : Ts} {y : Value} {cs : Array Value} (h : TbO W lo tb v) (hY : W.heap[Y]? = some (.cells cs 5)) : TbO (W.setCell ⟨Y,i,none⟩ y) lo tb v := by
 obtain ⟨⟨a1,a2,a3,a4,a5,a6⟩,⟨b1,b2,b3,b4,b5,b6⟩,⟨c1,c2,c3,c4,c5,c6⟩,⟨d1,d2,d3,d4,d5,d6⟩,⟨e1,e2,e3,e4,e5,e6⟩,⟨f1,f2,f3,f4,f5,f6⟩,⟨g1,g2,g3,g4,g5,g6⟩⟩ := h
 exact ⟨⟨a1,a2,a3,a4,qah a5 hY (by decide),RwX.mono a6 (fun _ _ _ q => qei q hY (by decide))⟩,⟨b1,b2,b3,b4,qah b5 hY (by decide),b6⟩,⟨c1,c2,c3,c4,qah c5 hY (by decide),c6⟩,⟨d1,d2,d3,d4,qah d5 hY (by decide),d6⟩,⟨e1,e2,e3,e4,qah e5 hY (by decide),e6⟩,⟨f1,f2,f3,f4,qah f5 hY (by decide),RwX.mono f6 (fun _ _ _ q => qej q hY (by decide))⟩,⟨g1,g2,g3,g4,qah g5 hY (by decide),g6⟩⟩
theorem eqPt (w : World) : (binOp .eql 43 (.agg #[I 2,I 28,I 11,I 1]) (.agg #[I 2,I 28,I 11,I 1])).run Tryz.prog w = .ok (.bool true) w := by kernel_rfl
theorem qp2 {W : World} {base T k n : Nat} {u : Value} {xs : List Value} (h : W.ownsRow base T k u n xs) (hn : 0 < n) : ∃ g cap,u = .slice (some ⟨g,0,none⟩) n cap ∧ base ≤ g ∧ g < W.heap.size ∧ n ≤ cap ∧ ∃ cur,W.heap[g]? = some (.cells cur T) ∧ W.ownsRow base T k (.slice (some ⟨g,0,none⟩) n cap) n xs := by
 have h' := h
 rcases h.2 with ⟨-,e⟩ | ⟨g,cap,cur,e1,e2,e3,e4,e5,e6,e7⟩
 ·omega
 ·subst e1
  exact ⟨g,cap,rfl,e2,qa4 e3,e4,cur,e3,h'⟩
theorem qk5 {W : World} {base T k n g i : Nat} {u y : Value} {xs : List Value} (h : W.ownsRow base T k u n xs) (hg : g < base) : (W.setCell ⟨g,i,none⟩ y).ownsRow base T k u n xs := by
 obtain ⟨hl,h0 | ⟨g',cap,cur,hv,hb1,hh,rr⟩⟩ := h
 ·exact ⟨hl, .inl h0⟩
 ·exact ⟨hl, .inr ⟨g',cap,cur,hv,hb1,(heap_setCell_other _ _ _ _ (by show g' ≠ g; omega)).trans hh,rr⟩⟩
theorem qp3 (w : World) : Calls Tryz.prog 12 #[] w fun e w' => e = .returned (.bool true) ∧ Below w.heap.size w w' := by
 have hsm := fun W => qk3 W
 have HD : Hid (dec (img qao) = .ok qao) := qns
 have HB : Hid (dec ((img qao).set 30 0) = .error 102) := qnr
 have HP : Hid (((prC 0 (psOf qao))[4]?,(prC 0 (psOf qao))[5]?,(prC 0 (psOf qao))[6]?,(prC 0 (psOf qao))[7]?) = (some (I 2),some (I 28),some (I 11),some (I 1))) := qnt
 have HA : Hid (((img qao)[0]?,(img qao)[4]?,(img qao)[28]?,(img qao)[30]?) = (some 84,some 44,some 1,some 1)) := qou
 have HL : Hid ((img qao).length = 44) := qnp
 have HAx := HA
 have HE : Hid (∀ W v,TbAt W qao v → Calls Tryz.prog 9 #[.agg (tbC qao v)] W fun e w' => ∃ u,e = .returned (.tuple #[u,I 0]) ∧ OwB W w' u (img qao)) := fun W v h => qid W qao v h qlh qk2
 generalize qao = sb at *
 go_enter Tryz.func12,Tryz.ntmps12
 go_upto_region 2 with (first
  | (go_at_call 23; refine (hsm _).mono ?_; rintro e w1 ⟨v1,rfl,hT1,b1⟩; have hE := HE.out _ _ hT1)
  | (go_at_call 9; refine hE.mono ?_; clear hE; rintro e w2 ⟨u,rfl,hO,b2⟩; have hO := qb7 hO b1.size; rw [HL.out] at hO; obtain ⟨g,cap,rfl,hg0,hg,hn,hm,⟨cur,hcur⟩,hO⟩ := ow8 hO (by decide)))
 have HA' := HA.out
 obtain ⟨i0,i4,i28,i30⟩ : (img sb)[0]? = some 84 ∧ (img sb)[4]? = some 44 ∧ (img sb)[28]? = some 1 ∧ (img sb)[30]? = some 1 := by simpa using HA'
 have c0 : w2.cell? ⟨g,0,none⟩ = some (.int .u8 84) := qe0 hO i0
 have c4 : w2.cell? ⟨g,4,none⟩ = some (.int .u8 44) := qe0 hO i4
 have c28 : w2.cell? ⟨g,28,none⟩ = some (.int .u8 1) := qe0 hO i28
 have c30 : w2.cell? ⟨g,30,none⟩ = some (.int .u8 1) := qe0 hO i30
 have B2 : Hid (Below w.heap.size w w2) := belT b1 b2
 have hRd : Rd w2 (some ⟨g,0,none⟩) 44 cap (img sb) := qad hO (by decide)
 have HO : Hid (w2.ownsRow w.heap.size 5 1 (.slice (some ⟨g,0,none⟩) 44 cap) 44 (Bs8 (img sb)) ∧ w2.heap[g]? = some (.cells cur 5) ∧ w.heap.size ≤ g ∧ g < w2.heap.size) := ⟨hO,hcur,hg0,hg⟩
 have hD := qdq hRd
 rw [HD.out] at hD
 clear HA HA' HE hT1 b1 b2 hO hcur hg0 hg i0 i4 i28 i30
 have hn0 := fun W => qht W 0
 go_upto_region 4 with (first | (go_at_call 11; refine (hn0 _).mono ?_; rintro e w' ⟨rfl,rfl⟩))
 clear c0 c4 c28 c30
 go_upto_region 5 with (first | (go_at_call 15; refine hD.mono ?_; clear hD; rintro e w3 ⟨v3,lo,hlo,rfl,hO3,b3⟩; unfold tbC))
 have hb4 := qa0 w3 (tO sb v3)
 have hV4 := heap_alloc_new w3 (tO sb v3)
 have hlt : g < w3.heap.size := Nat.lt_of_lt_of_le HO.out.2.2.2 b3.size
 have H4 : Hid ((w3.alloc (tO sb v3)).ownsRow w.heap.size 5 1 (.slice (some ⟨g,0,none⟩) 44 cap) 44 (Bs8 (img sb)) ∧ (w3.alloc (tO sb v3)).heap[g]? = some (.cells cur 5) ∧ w.heap.size ≤ g ∧ g < w3.heap.size ∧ TbO (w3.alloc (tO sb v3)) lo sb v3 ∧ (w3.alloc (tO sb v3)).heap[w3.heap.size]? = some (tO sb v3) ∧ Below w.heap.size w (w3.alloc (tO sb v3))) := ⟨qa2 (qa2 HO.out.1 b3) hb4,(hb4.block g hlt).trans ((b3.block g HO.out.2.2.2).trans HO.out.2.1),HO.out.2.2.1,hlt,hO3.below hb4,hV4,belT B2.out (belT b3 hb4)⟩
 clear hb4 hV4 hlt hO3 b3 hlo HO B2 hRd
 generalize w3.alloc (.cells #[I sb.uses,I sb.modes, .slice v3.t.a v3.t.n v3.t.c, .slice v3.g.a v3.g.n v3.g.c, .slice v3.r.a v3.r.n v3.r.c, .slice v3.k.a v3.k.n v3.k.c, .slice v3.a.a v3.a.n v3.a.c, .slice v3.i.a v3.i.n v3.i.c, .slice v3.s.a v3.s.n v3.s.c,I sb.depth,I sb.frames,I sb.errors,I sb.calls] 30) = w4 at *
 generalize w3.heap.size = X3 at *
 have hRd : Rd w4 (some ⟨g,0,none⟩) 44 cap (img sb) := qad H4.out.1 (by decide)
 have hP := qk1 hRd HD.out
 go_upto_region 6 with (first | (go_at_call 10; refine hP.mono ?_; clear hP; rintro e w5 ⟨u,rfl,r5,b5⟩; obtain ⟨gp,cp,rfl,hgp,hgp9,hcp,curp,hgpc,r5⟩ := qp2 r5 (by decide)))
 have hgX : g < X3 := H4.out.2.2.2.1
 have hX4 : X3 < w4.heap.size := qa4 H4.out.2.2.2.2.2.1
 have hg4 : g < w4.heap.size := by omega
 have hO5 := qa2 H4.out.1 b5
 have hc5 := (b5.block g hg4).trans H4.out.2.1
 have f30 := hO5.frozenAt 30
 have c30 : w5.cell? ⟨g,30,none⟩ = some (.int .u8 1) := by
  refine qe0 hO5 (x := 1) ?_
  have HA' := HAx.out
  simp only [Prod.mk.injEq] at HA'
  exact HA'.2.2.2
 have H6 : Hid ((w5.setCell ⟨g,30,none⟩ (.int .u8 0)).ownsRow w.heap.size 5 1 (.slice (some ⟨g,0,none⟩) 44 cap) 44 (Bs8 ((img sb).set 30 0)) ∧ TbO (w5.setCell ⟨g,30,none⟩ (.int .u8 0)) lo sb v3 ∧ (w5.setCell ⟨g,30,none⟩ (.int .u8 0)).heap[X3]? = some (tO sb v3) ∧ (w5.setCell ⟨g,30,none⟩ (.int .u8 0)).ownsRow w4.heap.size 43 4 (.slice (some ⟨gp,0,none⟩) 9 cp) 9 (prC 0 (psOf sb)) ∧ gp < w5.heap.size ∧ Below w.heap.size w (w5.setCell ⟨g,30,none⟩ (.int .u8 0)) ∧ X3 < w5.heap.size) := by
  refine ⟨qmj hO5 30 0,(H4.out.2.2.2.2.1.below b5).setU hc5, ?_, ?_,hgp9,qae (belT H4.out.2.2.2.2.2.2 b5) H4.out.2.2.1,Nat.lt_of_lt_of_le hX4 b5.size⟩
  ·rw [heap_setCell_other _ _ _ _ (by show X3 ≠ g; omega)]
   exact (b5.block X3 hX4).trans H4.out.2.2.2.2.2.1
  ·exact qk5 r5 (by omega)
 clear hO5 hc5 r5 b5 H4 hRd hgpc hgp hgp9
 go_upto_region 7 with fail
 clear c30 f30
 have hs6 : (w5.setCell ⟨g,30,none⟩ (.int .u8 0)).heap.size = w5.heap.size := by simp
 have hg6 : gp < (w5.setCell ⟨g,30,none⟩ (.int .u8 0)).heap.size := by rw [hs6]; exact H6.out.2.2.2.2.1
 have hX6 : X3 < (w5.setCell ⟨g,30,none⟩ (.int .u8 0)).heap.size := by rw [hs6]; exact H6.out.2.2.2.2.2.2
 generalize w5.setCell ⟨g,30,none⟩ (.int .u8 0) = w6 at *
 have hRd6 : Rd w6 (some ⟨g,0,none⟩) 44 cap ((img sb).set 30 0) := qad H6.out.1 (by decide)
 have hD := qdq hRd6
 rw [HB.out] at hD
 unfold DP zT at hD
 clear hs6 hRd6
 go_upto_region 8 with (first | (go_at_call 15; refine hD.mono ?_; clear hD; rintro e w7 ⟨rfl,b7⟩))
 have b8 := belT b7 (qa0 w7 (.cells #[I 0,I 0, .slice none 0 0, .slice none 0 0, .slice none 0 0, .slice none 0 0, .slice none 0 0, .slice none 0 0, .slice none 0 0,I 0,I 0,I 0,I 0] 30))
 have HBF : Hid (Below w.heap.size w (w7.alloc (.cells #[I 0,I 0, .slice none 0 0, .slice none 0 0, .slice none 0 0, .slice none 0 0, .slice none 0 0, .slice none 0 0, .slice none 0 0,I 0,I 0,I 0,I 0] 30))) := belT H6.out.2.2.2.2.2.1 b8
 have hX8 := (b8.block X3 hX6).trans H6.out.2.2.1
 have hp8 := qa2 H6.out.2.2.2.1 b8
 have hT8 := (H6.out.2.1.below b8).at
 have hsz := b8.size
 clear b7 b8 H6 HB
 generalize w7.alloc (.cells #[I 0,I 0, .slice none 0 0, .slice none 0 0, .slice none 0 0, .slice none 0 0, .slice none 0 0, .slice none 0 0, .slice none 0 0,I 0,I 0,I 0,I 0] 30) = w8 at *
 have hPT := HP.out
 have HS : Hid (∀ W,Below w8.heap.size w8 W → W.cell? ⟨X3,0,none⟩ = some (I sb.uses) ∧ W.cell? ⟨X3,1,none⟩ = some (I sb.modes) ∧ W.cell? ⟨X3,2,none⟩ = some (.slice v3.t.a v3.t.n v3.t.c) ∧ W.cell? ⟨X3,3,none⟩ = some (.slice v3.g.a v3.g.n v3.g.c) ∧ W.cell? ⟨X3,4,none⟩ = some (.slice v3.r.a v3.r.n v3.r.c) ∧ W.cell? ⟨X3,5,none⟩ = some (.slice v3.k.a v3.k.n v3.k.c) ∧ W.cell? ⟨X3,6,none⟩ = some (.slice v3.a.a v3.a.n v3.a.c) ∧ W.cell? ⟨X3,7,none⟩ = some (.slice v3.i.a v3.i.n v3.i.c) ∧ W.cell? ⟨X3,8,none⟩ = some (.slice v3.s.a v3.s.n v3.s.c) ∧ W.cell? ⟨X3,9,none⟩ = some (I sb.depth) ∧ W.cell? ⟨X3,10,none⟩ = some (I sb.frames) ∧ W.cell? ⟨X3,11,none⟩ = some (I sb.errors) ∧ W.cell? ⟨X3,12,none⟩ = some (I sb.calls) ∧ W.cell? ⟨gp,4,none⟩ = some (I 2) ∧ W.cell? ⟨gp,5,none⟩ = some (I 28) ∧ W.cell? ⟨gp,6,none⟩ = some (I 11) ∧ W.cell? ⟨gp,7,none⟩ = some (I 1)) := fun W hW => by
  obtain ⟨x0,x1,x2,x3,x4,x5,x6,x7,x8,x9,x10,x11,x12⟩ := ql0 ((hW.block X3 (Nat.lt_of_lt_of_le hX6 hsz)).trans hX8)
  have hp9 := qa2 hp8 hW
  refine ⟨x0,x1,x2,x3,x4,x5,x6,x7,x8,x9,x10,x11,x12, ?_, ?_, ?_, ?_⟩ <;> (rw [hp9.cellAt _ (by decide)]; simp only [Prod.mk.injEq] at hPT; first | exact hPT.1 | exact hPT.2.1 | exact hPT.2.2.1 | exact hPT.2.2.2)
 have HT : Hid (∀ W,Below w8.heap.size w8 W → TbAt W sb v3) := fun W hW => hT8.below hW
 clear hX8 hp8 hT8 hPT hX6 hg6 hsz HP
 have HSM : Hid (∀ W va vb,TbAt W sb va → TbAt W sb vb → Calls Tryz.prog 16 #[.agg (tbC sb va), .agg (tbC sb vb)] W fun e w' => e = .returned (.bool true) ∧ Below W.heap.size W w') := fun W va vb h1 h2 => (qk4 W sb sb va vb h1 h2).mono fun e w' q => ⟨qag q.1 rfl,q.2⟩
 have HSP : Hid (∀ W va vb,TbAt W sb va → TbAt W sb vb → Calls Tryz.prog 17 #[.agg (tbC sb va), .agg (tbC sb vb)] W fun e w' => e = .returned (.bool true) ∧ Below W.heap.size W w') := fun W va vb h1 h2 => (qkt W sb sb va vb h1 h2).mono fun e w' q => ⟨qag q.1 rfl,q.2⟩
 have hnn := fun W (x : Int) => qht W x
 have hep := fun W => eqPt W
 have HY := HS.out w8.drew (Below.refl w8.heap.size w8).drew
 have hbz : Below w8.heap.size w8 w8.drew := (Below.refl w8.heap.size w8).drew
 unfold tbC at hsm HSM HSP
 go_region_held_law (fun W => W.cell? ⟨X3,0,none⟩ = some (I sb.uses) ∧ W.cell? ⟨X3,1,none⟩ = some (I sb.modes) ∧ W.cell? ⟨X3,2,none⟩ = some (.slice v3.t.a v3.t.n v3.t.c) ∧ W.cell? ⟨X3,3,none⟩ = some (.slice v3.g.a v3.g.n v3.g.c) ∧ W.cell? ⟨X3,4,none⟩ = some (.slice v3.r.a v3.r.n v3.r.c) ∧ W.cell? ⟨X3,5,none⟩ = some (.slice v3.k.a v3.k.n v3.k.c) ∧ W.cell? ⟨X3,6,none⟩ = some (.slice v3.a.a v3.a.n v3.a.c) ∧ W.cell? ⟨X3,7,none⟩ = some (.slice v3.i.a v3.i.n v3.i.c) ∧ W.cell? ⟨X3,8,none⟩ = some (.slice v3.s.a v3.s.n v3.s.c) ∧ W.cell? ⟨X3,9,none⟩ = some (I sb.depth) ∧ W.cell? ⟨X3,10,none⟩ = some (I sb.frames) ∧ W.cell? ⟨X3,11,none⟩ = some (I sb.errors) ∧ W.cell? ⟨X3,12,none⟩ = some (I sb.calls) ∧ W.cell? ⟨gp,4,none⟩ = some (I 2) ∧ W.cell? ⟨gp,5,none⟩ = some (I 28) ∧ W.cell? ⟨gp,6,none⟩ = some (I 11) ∧ W.cell? ⟨gp,7,none⟩ = some (I 1)) (first | exact HY | exact HS.out _ (by repeat' (first | exact hbz | apply Below.drew | apply belA)) | (go_keep; done)) (first
  | (go_at_call 11; refine (hnn _ _).mono ?_; rintro e w' ⟨rfl,rfl⟩)
  | (go_at_call 23; refine (hsm _).mono ?_; rintro e wq ⟨vq,rfl,hTq,bq⟩; have hbz := belT hbz bq; have HY := HS.out _ hbz; have hTr := HT.out _ hbz; clear bq)
  | (go_at_call 16; refine (HSM.out _ _ _ hTr hTq).mono ?_; rintro e wr ⟨rfl,br⟩; have hbz := belT hbz br; have HY := HS.out _ hbz; clear br hTq hTr)
  | (go_at_call 17; refine (HSP.out _ _ _ hTr hTq).mono ?_; rintro e ws ⟨rfl,bs⟩; have hbz := belT hbz bs; have HY := HS.out _ hbz; clear bs hTq hTr))
 go_wp2
 go_ret
 exact ⟨rfl,belT HBF.out hbz⟩
end Go.Proofs.YtijgopkhdjaolaaGreat
namespace Go.Proofs.YtijgopkhdjaolaaGreat
open Go.RowKit Go.Shelf Go.Sort
set_option linter.unusedSimpArgs false
set_option linter.unusedVariables false
set_option maxHeartbeats 16000000
set_option maxRecDepth 100000
theorem qdt {P : Program} {w : World} (t ty e : TypeId) (i : TypeInfo) (c : Nat) (ht : P.underlying t = some (.slice e)) (hi : P.info? e = some i) :
  (Builtin.append_ #[t,t] ty #[.slice none 0 0, .slice none 0 c]).run P w = .ok (.slice none 0 0) w := by
 simp [Builtin.append_,run_underlying ht,sizeOf,typeInfo,hi,Builtin.lenOf,Builtin.firstCells]
theorem qk8 {α : Type} {P : Program} {ops : Array Oper} {rest : List Oper} {o : Oper} {a : Act} {w : World} {Q : Exit → Act → World → Prop} (hgd : o.guard = none) (s x : Operand) (t : TypeId)
  (ho : o.op = .call { callee := .builtin .append,args := #[s,x],argTypes := #[t,t] }) (e : TypeId) (i : TypeInfo) (z : Value) (size bytes : Nat) (ht : P.underlying t = some (.slice e)) (hi : P.info? e = some i) (hz : i.zero = some z)
  (hsize : i.size = size) (hby : i.bytes = bytes) (hzs : z.cells.size = size) (hsz : 0 < size) (hs : a.eval s = .slice none 0 0) (sl : Sl) (l : List α) (R : α → Nat → Value → Prop) (hx : a.eval x = .slice sl.a sl.n sl.c)
  (hR : RowsAt w size R sl l) (hR1 : ∀ x i u,R x i u → u.oneCell' = true) (hb : l.length * bytes ≤ 140737488355328)
  (h : ∀ sa sc cs w',w'.ownsRow w.heap.size e size (.slice sa l.length sc) l.length cs → RwX size R l cs → Below w.heap.size w w' → wpList P ops Q rest (a.put o.dst (.slice sa l.length sc)) w') : wpList P ops Q (o :: rest) a w := by
 obtain ⟨sa,sn,sc⟩ := sl
 obtain ⟨hn,hc,hm,hr⟩ := hR
 dsimp only at *
 subst hn
 cases sa with
 | none =>
  have hl : l = [] := by
   cases l with
   | nil => rfl
   | cons y l => obtain ⟨g,off,e1, -⟩ := hr 0 y rfl; cases e1
  subst hl
  refine wpList_plain hgd fun K hK => ?_
  have hrun := qdt (P := P) (w := w) t o.type e i sc ht hi
  unfold Oper.wp
  simp only [List.length_nil] at hx
  simp [execOp,ho,resolve,invoke,builtin,hs,hx,hrun,Result.andThen]
  exact hK _ _ (h none 0 [] w (World.ownsRow_nil _ _ _ _) (RwX.nil _ _) (Below.refl _ _))
 | some ad =>
  have hcell : ∀ j y,l[j]? = some y → ∀ k,k < size → ∃ u,w.cell? (ad.add (j * size + k)) = some u ∧ R y k u := fun j y hj k hk => by
   obtain ⟨g,off,e1,hg,hq⟩ := hr j y hj
   cases e1
   obtain ⟨u,h1,h2⟩ := hq k hk
   exact ⟨u,by rw [Addr.add_mid9, ← Nat.add_assoc]; exact h1,h2⟩
  have hall : ∀ q,q < l.length * size → ∃ u,w.cell? (ad.add q) = some u ∧ u.oneCell' = true := fun q hq => by
   have hj : q / size < l.length := Nat.div_lt_of_lt_mul (by rwa [Nat.mul_comm])
   obtain ⟨u,h1,h2⟩ := hcell (q / size) _ (List.getElem?_eq_getElem hj) (q % size) (Nat.mod_lt _ hsz)
   rw [Nat.mul_comm,Nat.div_add_mod] at h1
   exact ⟨u,h1,hR1 _ _ _ h2⟩
  have hget : ∀ q u,((List.range (l.length * size)).map fun q => (w.cell? (ad.add q)).getD (.bool false))[q]? = some u → q < l.length * size ∧ w.cell? (ad.add q) = some u := fun q u hu => by
   rw [List.getElem?_map] at hu
   by_cases hq : q < l.length * size
   ·obtain ⟨u',h1, -⟩ := hall q hq
    rw [List.getElem?_range hq,Option.map_some,h1] at hu
    simp at hu
    exact ⟨hq,by rw [h1,hu]⟩
   ·rw [List.getElem?_eq_none (by simpa using hq)] at hu
    cases hu
  refine wpList_append_own w hgd s x t ho w.heap.size e i z size bytes ht hi hz hsize hby hzs hsz (.slice none 0 0) 0 [] hs (World.ownsRow_nil _ _ _ _) ad l.length sc ((List.range (l.length * size)).map fun q => (w.cell? (ad.add q)).getD (.bool false)) hx (by simp) (fun q u hu => (hget q u hu).2) (fun u hu => ?_) (by have := Nat.le_trans hc hm; omega) (by simpa using hb) (Nat.le_refl _) ?_
  ·obtain ⟨q,hq⟩ := List.mem_iff_getElem?.1 hu
   obtain ⟨h1,h2⟩ := hget q u hq
   obtain ⟨u',h3,h4⟩ := hall q h1
   rw [h2] at h3
   cases h3
   exact h4
  ·intro v' w' h1 h2 _
   rw [Nat.zero_add,List.nil_append] at h1
   obtain ⟨va,vc,rfl⟩ := qan h1
   refine h va vc _ w' h1 ⟨by simp,fun j y hj k hk => ?_⟩ (qhw h2)
   obtain ⟨u,h3,h4⟩ := hcell j y hj k hk
   refine ⟨u, ?_,h4⟩
   have hlt : j * size + k < l.length * size := by
    have hj' : j < l.length := (List.getElem?_eq_some_iff.mp hj).1
    have := Nat.mul_le_mul_right size (show j + 1 ≤ l.length from hj')
    rw [Nat.add_mul] at this
    omega
   rw [List.getElem?_map,List.getElem?_range hlt,Option.map_some,h3]
   rfl
theorem qp5 {l : List Int} {cs : List Value} (h : RwX 1 intP l cs) : cs = l.map fun x => I x := by
 refine List.ext_getElem? fun j => ?_
 by_cases hj : j < l.length
 ·obtain ⟨u,h1,h2⟩ := h.at' j _ (List.getElem?_eq_getElem hj) 0 (by omega)
  rw [Nat.mul_one,Nat.add_zero] at h1
  have h3 : u = I l[j] := h2
  rw [h1,h3,List.getElem?_map,List.getElem?_eq_getElem hj]
  rfl
 ·have := h.n
  rw [List.getElem?_eq_none (by omega),List.getElem?_eq_none (by simpa using hj)]
theorem qp6 (x : Int) (i : Nat) (u : Value) (h : intP x i u) : u.oneCell' = true := by
 have : u = I x := h
 rw [this]; rfl
theorem qpg (x : RgR) (i : Nat) (u : Value) (h : rgrP x i u) : u.oneCell' = true := by
 unfold rgrP at h; split at h <;> (subst h; rfl)
end Go.Proofs.YtijgopkhdjaolaaGreat
