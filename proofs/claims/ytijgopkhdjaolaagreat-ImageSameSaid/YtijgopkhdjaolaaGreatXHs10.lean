import Derived.Test.YtijgopkhdjaolaaGreatXHr3
import Derived.Test.YtijgopkhdjaolaaGreatHs4
import Derived.Test.YtijgopkhdjaolaaGreatHq
import Derived.Deep.RegionHeldLaw
namespace Go.Proofs.YtijgopkhdjaolaaGreat
open Go.RowKit Go.Shelf Go.Sort
open Go.Proofs.YtijgopkhdjaolaaGreat.Ob (leB leV qac qam crc Rd RdAll qad)
set_option linter.unusedSimpArgs false
set_option linter.unusedVariables false
set_option maxHeartbeats 16000000
set_option maxRecDepth 100000
def prX (x : Pce) (o : Nat) : List Value := [I x.1,I o,I x.2.2.length,I x.2.1]
def prC : Nat → List Pce → List Value
 | _, [] => []
 | o,x :: l => prX x o ++ prC (o + x.2.2.length) l
theorem qgx (x : Pce) : ∀ (l : List Pce) (o : Nat),prC o (l ++ [x]) = prC o l ++ prX x (o + (flP l).length)
 | [],o => by simp [prC,flP]
 | y :: l,o => by
  rw [List.cons_append,prC,qgx x l,prC,List.append_assoc]
  simp [flP,Nat.add_assoc]
theorem qno : (Tryz.prog.info? 43).map (fun i => (i.zero,i.size,i.bytes)) = some (some (.agg #[I 0,I 0,I 0,I 0] : Value),4,32) := by kernel_rfl
theorem qbg {α : Type} {l : List α} {k : Nat} {x : α} (h : l[k]? = some x) : l.take (k + 1) = l.take k ++ [x] := by rw [List.take_add_one,h]; rfl
theorem qk1 {w : World} {a : Option Addr} {n c : Nat} {bs : List UInt8} {tb : Tb} (h : Rd w a n c bs) (hd : dec bs = .ok tb) : Calls Tryz.prog 10 #[.slice a n c] w fun e w' => ∃ u,e = .returned (.tuple #[u,I 0]) ∧ w'.ownsRow w.heap.size 43 4 u 9 (prC 0 (psOf tb)) ∧ Below w.heap.size w w' := by
 obtain ⟨i0,hi0,hz0,hz1,hz2⟩ := info_parts qno
 obtain ⟨rfl,hok,hc⟩ := qms hd
 have hwf := qlg hok
 have hbl : (flP (psOf tb)).length ≤ 1000000 := by
  have := (qeu hc hwf).2
  rw [qeh,qf8]
  omega
 have HL : Hid ((flP (psOf tb)).length ≤ 1000000) := hbl
 have HP : Hid (∀ W v,TbAt W tb v → Calls Tryz.prog 22 #[.agg (tbC tb v)] W fun e w' => ∃ s,e = .returned (slT s) ∧ RowsAt w' 3 (pceP w') s (psOf tb) ∧ Below W.heap.size W w') := fun W v hT => qey W tb v hT hwf hc
 have hn9 : (psOf tb).length = 9 := rfl
 generalize psOf tb = ps at *
 have hD := qdq h
 rw [hd] at hD
 have HN9 : Hid (ps.length = 9) := hn9
 clear h hd hc hok hwf hbl hn9
 go_enter Tryz.func10,Tryz.ntmps10
 go_upto_region 2 with (first | (go_at_call 15; refine hD.mono ?_; clear hD; rintro e w2 ⟨v,lo,hlo,rfl,hO,b2⟩; unfold tbC))
 have hT := (hO.below (qa0 w2 (.cells #[I tb.uses,I tb.modes, .slice v.t.a v.t.n v.t.c, .slice v.g.a v.g.n v.g.c, .slice v.r.a v.r.n v.r.c, .slice v.k.a v.k.n v.k.c, .slice v.a.a v.a.n v.a.c, .slice v.i.a v.i.n v.i.c, .slice v.s.a v.s.n v.s.c,I tb.depth,I tb.frames,I tb.errors,I tb.calls] 30))).at
 have hB3 := belT b2 (qa0 w2 (.cells #[I tb.uses,I tb.modes, .slice v.t.a v.t.n v.t.c, .slice v.g.a v.g.n v.g.c, .slice v.r.a v.r.n v.r.c, .slice v.k.a v.k.n v.k.c, .slice v.a.a v.a.n v.a.c, .slice v.i.a v.i.n v.i.c, .slice v.s.a v.s.n v.s.c,I tb.depth,I tb.frames,I tb.errors,I tb.calls] 30))
 have hV3 := heap_alloc_new w2 (.cells #[I tb.uses,I tb.modes, .slice v.t.a v.t.n v.t.c, .slice v.g.a v.g.n v.g.c, .slice v.r.a v.r.n v.r.c, .slice v.k.a v.k.n v.k.c, .slice v.a.a v.a.n v.a.c, .slice v.i.a v.i.n v.i.c, .slice v.s.a v.s.n v.s.c,I tb.depth,I tb.frames,I tb.errors,I tb.calls] 30)
 have hcells : (fun X W => W.cell? ⟨X,0,none⟩ = some (I tb.uses) ∧ W.cell? ⟨X,1,none⟩ = some (I tb.modes) ∧ W.cell? ⟨X,2,none⟩ = some (.slice v.t.a v.t.n v.t.c) ∧ W.cell? ⟨X,3,none⟩ = some (.slice v.g.a v.g.n v.g.c) ∧ W.cell? ⟨X,4,none⟩ = some (.slice v.r.a v.r.n v.r.c) ∧ W.cell? ⟨X,5,none⟩ = some (.slice v.k.a v.k.n v.k.c) ∧ W.cell? ⟨X,6,none⟩ = some (.slice v.a.a v.a.n v.a.c) ∧ W.cell? ⟨X,7,none⟩ = some (.slice v.i.a v.i.n v.i.c) ∧ W.cell? ⟨X,8,none⟩ = some (.slice v.s.a v.s.n v.s.c) ∧ W.cell? ⟨X,9,none⟩ = some (I tb.depth) ∧ W.cell? ⟨X,10,none⟩ = some (I tb.frames) ∧ W.cell? ⟨X,11,none⟩ = some (I tb.errors) ∧ W.cell? ⟨X,12,none⟩ = some (I tb.calls)) w2.heap.size (w2.alloc (.cells #[I tb.uses,I tb.modes, .slice v.t.a v.t.n v.t.c, .slice v.g.a v.g.n v.g.c, .slice v.r.a v.r.n v.r.c, .slice v.k.a v.k.n v.k.c, .slice v.a.a v.a.n v.a.c, .slice v.i.a v.i.n v.i.c, .slice v.s.a v.s.n v.s.c,I tb.depth,I tb.frames,I tb.errors,I tb.calls] 30)) := by
  refine ⟨?_, ?_, ?_, ?_, ?_, ?_, ?_, ?_, ?_, ?_, ?_, ?_, ?_⟩ <;> (rw [cell_of_row _ _ _ _ _ (0,0) hV3]; rfl)
 have hQ := HP.out _ v hT
 unfold tbC at hQ
 clear hO hT hV3 b2 HP
 generalize w2.alloc (.cells #[I tb.uses,I tb.modes, .slice v.t.a v.t.n v.t.c, .slice v.g.a v.g.n v.g.c, .slice v.r.a v.r.n v.r.c, .slice v.k.a v.k.n v.k.c, .slice v.a.a v.a.n v.a.c, .slice v.i.a v.i.n v.i.c, .slice v.s.a v.s.n v.s.c,I tb.depth,I tb.frames,I tb.errors,I tb.calls] 30) = w3 at *
 obtain ⟨c0,c1,c2,c3,c4,c5,c6,c7,c8,c9,c10,c11,c12⟩ := hcells
 go_wp2_with (first | (go_at_call 22; refine hQ.mono ?_; clear hQ c0 c1 c2 c3 c4 c5 c6 c7 c8 c9 c10 c11 c12; rintro e w4 ⟨⟨sa,sn,sc⟩,rfl,r4,b4⟩; dsimp only [slT]; have hsn : Hid (sn = ps.length) := r4.n; have hsn1 : sn ≤ 9 := (by have := hsn.out; have := HN9.out; omega)))
 have H4 : Hid (RowsAt w4 3 (pceP w4) ⟨sa,sn,sc⟩ ps ∧ sn = ps.length ∧ Below w.heap.size w w4) := ⟨r4,hsn.out,belT hB3 b4⟩
 clear r4 b4 hsn hB3
 have HI : Hid (w4.ownsRow w4.heap.size 43 4 (.slice none 0 0) 0 (prC 0 (ps.take 0)) ∧ Below w4.heap.size w4 w4) := ⟨by simpa [prC] using World.ownsRow_nil w4 w4.heap.size 43 4,Below.refl _ _⟩
 go_loopw [6,7,9,21] (fun v6 v7 _ v21 wr => ∃ (k : Nat) (va : Option Addr) (vc : Nat),k ≤ sn ∧ v21 = I k ∧ v6 = .slice va k vc ∧ Hid (v7 = I ((flP (ps.take k)).length : Nat)) ∧ Hid (wr.ownsRow w4.heap.size 43 4 (.slice va k vc) k (prC 0 (ps.take k)) ∧ Below w4.heap.size w4 wr)) (fun _ _ _ v21 _ => sn - (intOf v21).toNat)
 case atStart => exact ⟨0,none,0,by omega,rfl,rfl,rfl,HI.out⟩
 case round =>
  clear HI
  obtain ⟨k,va,vc,hk,rfl,rfl,HV7,HJ⟩ := hrel
  have hv7 := HV7.out
  subst hv7
  by_cases hlt : k < sn
  ·have hltI : (k : Int) < sn := by omega
   obtain ⟨x,hx⟩ : ∃ x,ps[k]? = some x := ⟨_,List.getElem?_eq_getElem (by rw [← H4.out.2.1]; exact hlt)⟩
   obtain ⟨g,off,ea,hg,hr⟩ := (H4.out.1).row k _ hx
   obtain ⟨y0,z0,e0⟩ := hr 0 (by omega)
   obtain ⟨y1,z1,e1⟩ := hr 1 (by omega)
   obtain ⟨y2,z2,e2⟩ := hr 2 (by omega)
   have e0' : y0 = I x.1 := e0
   have e1' : y1 = I x.2.1 := e1
   have e2' : rdV w4 1 y2 x.2.2.length (Bs8 x.2.2) := e2
   obtain ⟨xa,xc,rfl⟩ := qev e2'
   subst e0' e1'
   have q0 : wr.cell? ⟨g,off + k * 3,none⟩ = some (I x.1) := by rw [qa6 HJ.out.2 _ _ hg]; exact z0
   have q1 : wr.cell? ⟨g,off + k * 3 + 1,none⟩ = some (I x.2.1) := by rw [qa6 HJ.out.2 _ _ hg]; exact z1
   have q2 : wr.cell? ⟨g,off + k * 3 + 2,none⟩ = some (.slice xa x.2.2.length xc) := by rw [qa6 HJ.out.2 _ _ hg]; exact z2
   have hf := qgu hx
   have hle := Nat.le_trans (qjt ps (k + 1)) HL.out
   have hq1 : (flP (ps.take k)).length + x.2.2.length ≤ 1000000 := by rw [hf,List.length_append] at hle; exact hle
   have HF : Hid ((flP (ps.take (k + 1))).length = (flP (ps.take k)).length + x.2.2.length) := by show _ = _; rw [hf,List.length_append]
   have HS : Hid (prC 0 (ps.take (k + 1)) = prC 0 (ps.take k) ++ prX x (flP (ps.take k)).length) := by show _ = _; rw [qbg hx,qgx,Nat.zero_add]
   have ha : sa = some ⟨g,off,none⟩ := ea
   obtain ⟨xk,xn,xb⟩ := x
   dsimp only at *
   have hb4 := qa0 wr (pcO xk xn (.slice xa xb.length xc))
   have hv4 := heap_alloc_new wr (pcO xk xn (.slice xa xb.length xc))
   have J1 : Hid ((wr.alloc (pcO xk xn (.slice xa xb.length xc))).ownsRow w4.heap.size 43 4 (.slice va k vc) k (prC 0 (ps.take k)) ∧ Below w4.heap.size w4 (wr.alloc (pcO xk xn (.slice xa xb.length xc)))) := ⟨qa2 HJ.out.1 hb4,belT HJ.out.2 hb4⟩
   have y0 : (wr.alloc (pcO xk xn (.slice xa xb.length xc))).cell? ⟨wr.heap.size,0,none⟩ = some (I xk) := by rw [cell_of_row _ _ _ _ _ (0,0) hv4]; rfl
   have y1 : (wr.alloc (pcO xk xn (.slice xa xb.length xc))).cell? ⟨wr.heap.size,1,none⟩ = some (I xn) := by rw [cell_of_row _ _ _ _ _ (0,0) hv4]; rfl
   have y2 : (wr.alloc (pcO xk xn (.slice xa xb.length xc))).cell? ⟨wr.heap.size,2,none⟩ = some (.slice xa xb.length xc) := by rw [cell_of_row _ _ _ _ _ (0,0) hv4]; rfl
   have hv5 := hv4
   have hwl : wr.heap.size < (wr.alloc (pcO xk xn (.slice xa xb.length xc))).heap.size := qa4 hv4
   clear hr z0 z1 z2 hx ea hg e0 e1 e2 e2' hf hle hb4 hv4 HJ HV7 HL
   subst ha
   generalize hO' : (flP (ps.take k)).length = ofs at *
   clear hO'
   go_upto_region 9 with fail
   clear q0 q1 q2
   generalize wr.alloc (pcO xk xn (.slice xa xb.length xc)) = w5 at *
   generalize wr.heap.size = X5 at *
   have hown := J1.out.1
   have hbs := J1.out.2.size
   have hO := hown.alloc (.cells #[I xk,I ofs,I xb.length,I xn] 43)
   have hnew := qbi w5 #[I xk,I ofs,I xb.length,I xn] 43
   have hone : ∀ u ∈ (#[I xk,I ofs,I xb.length,I xn] : Array Value).toList,u.oneCell' = true := by
    intro u hu
    simp only [List.mem_cons,List.not_mem_nil,or_false] at hu
    rcases hu with rfl | rfl | rfl | rfl <;> rfl
   have hsz : w4.heap.size ≤ (w5.alloc (.cells #[I xk,I ofs,I xb.length,I xn] 43)).heap.size := Nat.le_trans hbs (qa0 w5 _).size
   have Y2 : Hid (∀ w',(w5.alloc (.cells #[I xk,I ofs,I xb.length,I xn] 43)).grownBy w' (Value.slice va k vc).ownBlock → w'.cell? ⟨X5,2,none⟩ = some (.slice xa xb.length xc)) := fun w' hg' => by
    refine hg'.cell (by rw [qa6 (qa0 w5 _) _ _ hwl]; exact y2) ?_
    intro e
    rcases hown.2 with ⟨q,_⟩ | ⟨g1,cap1,cur1,q,_,hh,_⟩
    ·rw [q] at e; cases e
    ·rw [q] at e
     have e3 : X5 = g1 := Option.some.inj e
     rw [← e3,hv5] at hh
     cases hh
   clear hown hbs hwl
   go_wp2_with (at_builtin; refine wpList_append_own _ rfl (.tmp 25) (.tmp 35) 35 rfl w4.heap.size 43 i0 _ 4 32 Tryz.underlying35 hi0 hz0 hz1 hz2 rfl (by decide) _ _ _ rfl hO ⟨w5.heap.size,0,none⟩ 1 1 (#[I xk,I ofs,I xb.length,I xn] : Array Value).toList rfl rfl hnew hone (by unfold maxLen; omega) (by omega) hsz ?_; intro v6 w6 ho6 hg6 _; obtain ⟨a6,c6,rfl⟩ := qan ho6; have y6 := Y2.out w6 hg6; have H9 : Hid (w6.ownsRow w4.heap.size 43 4 (.slice a6 (k + 1) c6) (k + 1) (prC 0 (ps.take (k + 1))) ∧ Below w4.heap.size w4 w6) := ⟨(by rw [HS.out]; exact ho6),Below.grown hO (belT J1.out.2 (qa0 w5 _)) hg6⟩; clear ho6 hg6 hO hnew hone hsz y0 y1 y2)
   go_roundw
   case rel => exact ⟨k + 1,a6,c6,by omega,by go_num,rfl,(by show _ = _; rw [HF.out]; simp),H9.out⟩
   case measure => simp [intOf]; omega
  ·obtain rfl : k = sn := by omega
   have hge : ¬ ((k : Int) < k) := by omega
   have HE : Hid (wr.ownsRow w.heap.size 43 4 (.slice va k vc) 9 (prC 0 ps) ∧ Below w.heap.size w wr) := by
    obtain ⟨q1,q2⟩ := HJ.out
    rw [show ps.take k = ps by rw [H4.out.2.1]; exact List.take_length] at q1
    have hk9 : k = 9 := by rw [H4.out.2.1]; exact HN9.out
    refine ⟨?_,belT H4.out.2.2 q2⟩
    have := qb7 q1 H4.out.2.2.size
    rw [hk9] at this ⊢
    exact this
   clear HJ HV7 H4
   go_wp2
   refine bodyPost_ret (results_tmp2 Tryz.results10 _ _ _) rfl ?_
   exact ⟨_,rfl,HE.out⟩
end Go.Proofs.YtijgopkhdjaolaaGreat
namespace Go.Proofs.YtijgopkhdjaolaaGreat
open Go.RowKit Go.Shelf Go.Sort
set_option linter.unusedSimpArgs false
set_option linter.unusedVariables false
set_option maxHeartbeats 16000000
set_option maxRecDepth 100000
theorem qd6 (w : World) (s1 s2 : Sl) (l1 l2 : List Int) (h1 : RowsAt w 1 intP s1 l1) (h2 : RowsAt w 1 intP s2 l2) : Calls Tryz.prog 38 #[slT s1,slT s2] w fun e w' => e = .returned (.bool (decide (l1 = l2))) ∧ Below w.heap.size w w' := by
 obtain ⟨a1,n1,c1⟩ := s1
 obtain ⟨a2,n2,c2⟩ := s2
 have hn1 : Hid (n1 = l1.length) := h1.n
 have hn2 : Hid (n2 = l2.length) := h2.n
 have hm1 : n1 ≤ maxLen := Nat.le_trans h1.c h1.m
 unfold maxLen at hm1
 have H1 : Hid (RowsAt w 1 intP ⟨a1,n1,c1⟩ l1) := h1
 have H2 : Hid (RowsAt w 1 intP ⟨a2,n2,c2⟩ l2) := h2
 clear h1 h2
 show Calls _ _ #[.slice a1 n1 c1, .slice a2 n2 c2] _ _
 by_cases hl : n1 = n2
 ·subst hl
  go_enter Tryz.func38,Tryz.ntmps38
  go_wp2
  go_loopw [5] (fun v13 wr => ∃ k : Nat,k ≤ n1 ∧ v13 = I k ∧ Hid (l1.take k = l2.take k ∧ Below w.heap.size w wr)) (fun v13 _ => n1 - (intOf v13).toNat)
  case atStart => exact ⟨0,by omega,rfl,by simp,Below.refl _ _⟩
  case round =>
   obtain ⟨k,hk,rfl,HJ⟩ := hrel
   by_cases hlt : k < n1
   ·have hltI : (k : Int) < n1 := by omega
    have hk1 : k < l1.length := by rw [← hn1.out]; exact hlt
    have hk2 : k < l2.length := by rw [← hn2.out]; exact hlt
    obtain ⟨g1,o1,e1,q1⟩ := qdn H1.out hk1 HJ.out.2
    obtain ⟨g2,o2,e2,q2⟩ := qdn H2.out hk2 HJ.out.2
    have e1' : a1 = some ⟨g1,o1,none⟩ := e1
    have e2' : a2 = some ⟨g2,o2,none⟩ := e2
    clear e1 e2
    subst e1' e2'
    by_cases hx : l1[k] = l2[k]
    ·have HT : Hid (l1.take (k + 1) = l2.take (k + 1) ∧ Below w.heap.size w wr) := ⟨qhm hk1 hk2 HJ.out.1 hx,HJ.out.2⟩
     clear HJ
     rw [← hx] at q2
     generalize l1[k] = x at *
     clear hk1 hk2 hx
     go_upto_region 6 with fail
     go_region_held_law (fun W => W.cell? ⟨g1,o1 + k,none⟩ = some (I x) ∧ W.cell? ⟨g2,o2 + k,none⟩ = some (I x)) (first | exact ⟨q1,q2⟩ | (go_keep; done)) (fail)
     go_wp2
     go_roundw
     case rel => exact ⟨k + 1,by omega,by go_num,HT.out.1,HT.out.2.drew⟩
     case measure => simp [intOf]; omega
    ·have HN : Hid (¬ l1 = l2 ∧ Below w.heap.size w wr) := ⟨fun e => hx (by subst e; rfl),HJ.out.2⟩
     clear HJ
     obtain ⟨x,ex⟩ : ∃ x,x = l1[k] := ⟨_,rfl⟩
     obtain ⟨y,ey⟩ : ∃ y,y = l2[k] := ⟨_,rfl⟩
     rw [← ex] at q1 hx
     rw [← ey] at q2 hx
     clear ex ey hk1 hk2
     go_upto_region 6 with fail
     go_region_held_law (fun W => W.cell? ⟨g1,o1 + k,none⟩ = some (I x) ∧ W.cell? ⟨g2,o2 + k,none⟩ = some (I y)) (first | exact ⟨q1,q2⟩ | (go_keep; done)) (fail)
     go_wp2
     go_ret
     exact ⟨by rw [decide_eq_false HN.out.1]; rfl,HN.out.2.drew⟩
   ·obtain rfl : k = n1 := by omega
    have hge : ¬ ((k : Int) < k) := by omega
    have HE : Hid (l1 = l2 ∧ Below w.heap.size w wr) := ⟨by have := HJ.out.1; rwa [show l1.take k = l1 by rw [hn1.out]; exact List.take_length,show l2.take k = l2 by rw [hn2.out]; exact List.take_length] at this,HJ.out.2⟩
    clear HJ
    go_wp2
    go_ret
    exact ⟨by rw [decide_eq_true HE.out.1]; rfl,HE.out.2⟩
 ·have hlI : ¬ ((n1 : Int) = n2) := by omega
  have HN : Hid (¬ l1 = l2) := fun e => hl (by rw [hn1.out,hn2.out,e])
  go_enter Tryz.func38,Tryz.ntmps38
  go_wp2
  go_ret
  exact ⟨by rw [decide_eq_false HN.out]; rfl,Below.refl _ _⟩
def lenL (tb : Tb) : List Int := [(tb.tasks.length : Int),tb.rings.length,tb.ress.length,tb.ctrs.length,tb.als.length,tb.isrs.length,tb.msgs.length]
theorem qfm (w : World) (tb : Tb) (v : Ts) (h : TbAt w tb v) : Calls Tryz.prog 39 #[.agg (tbC tb v)] w fun e w' => ∃ s,e = .returned (slT s) ∧ RowsAt w' 1 intP s (lenL tb) ∧ Below w.heap.size w w' := by
 have hL : [(v.t.n : Int),v.g.n,v.r.n,v.k.n,v.a.n,v.i.n,v.s.n] = lenL tb := by
  have h0 : v.t.n = _ := h.t.n
  have h1 : v.g.n = _ := h.g.n
  have h2 : v.r.n = _ := h.r.n
  have h3 : v.k.n = _ := h.k.n
  have h4 : v.a.n = _ := h.a.n
  have h5 : v.i.n = _ := h.i.n
  have h6 : v.s.n = _ := h.s.n
  unfold lenL
  rw [← h0, ← h1, ← h2, ← h3, ← h4, ← h5, ← h6]
 have HL : Hid ([(v.t.n : Int),v.g.n,v.r.n,v.k.n,v.a.n,v.i.n,v.s.n] = lenL tb) := hL
 clear h hL
 unfold tbC
 go_enter Tryz.func39,Tryz.ntmps39
 go_wp2
 go_ret
 refine ⟨⟨some ⟨w.heap.size + 1,0,none⟩,7,7⟩,rfl, ?_,belT (qa0 w _) (qa0 _ _)⟩
 rw [← HL.out]
 have hv := heap_alloc_new (w.alloc (.cells #[I tb.uses,I tb.modes, .slice v.t.a v.t.n v.t.c, .slice v.g.a v.g.n v.g.c, .slice v.r.a v.r.n v.r.c, .slice v.k.a v.k.n v.k.c, .slice v.a.a v.a.n v.a.c, .slice v.i.a v.i.n v.i.c, .slice v.s.a v.s.n v.s.c,I tb.depth,I tb.frames,I tb.errors,I tb.calls] 30)) (.cells #[I v.t.n,I v.g.n,I v.r.n,I v.k.n,I v.a.n,I v.i.n,I v.s.n] 3)
 rw [show (w.alloc (.cells #[I tb.uses,I tb.modes, .slice v.t.a v.t.n v.t.c, .slice v.g.a v.g.n v.g.c, .slice v.r.a v.r.n v.r.c, .slice v.k.a v.k.n v.k.c, .slice v.a.a v.a.n v.a.c, .slice v.i.a v.i.n v.i.c, .slice v.s.a v.s.n v.s.c,I tb.depth,I tb.frames,I tb.errors,I tb.calls] 30)).heap.size = w.heap.size + 1 by simp] at hv
 refine ⟨rfl,Nat.le_refl _,by show 7 ≤ maxLen; unfold maxLen; omega,fun j x hj => ⟨w.heap.size + 1,0,rfl,qa4 hv,fun i hi => ?_⟩⟩
 obtain rfl : i = 0 := by omega
 refine ⟨I x, ?_,rfl⟩
 rw [cell_of_row _ _ _ _ _ (0,0) hv,Nat.mul_one,Nat.zero_add,Nat.add_zero]
 match j,hj with
 | 0,hj | 1,hj | 2,hj | 3,hj | 4,hj | 5,hj | 6,hj => simp at hj ⊢; exact hj
end Go.Proofs.YtijgopkhdjaolaaGreat
namespace Go.Proofs.YtijgopkhdjaolaaGreat
open Go.RowKit Go.Shelf Go.Sort
open Go.Proofs.YtijgopkhdjaolaaGreat.Ob (leB leV qac qam crc Rd RdAll qad)
set_option linter.unusedSimpArgs false
set_option linter.unusedVariables false
set_option maxHeartbeats 16000000
set_option maxRecDepth 100000
def smTk : TkR := ⟨1,0,true,1,0, -1, [],0⟩
def qao : Tb := ⟨0,1, [smTk], [⟨1,1⟩], [], [], [], [], [],1,4,2,0⟩
theorem qk2 : chkP qao = true := by kernel_rfl
theorem qnp : (img qao).length = 44 := by kernel_rfl
theorem qou : ((img qao)[0]?,(img qao)[4]?,(img qao)[28]?,(img qao)[30]?) = (some 84,some 44,some 1,some 1) := by kernel_rfl
def qnq {α : Type} : Except Nat α → Nat
 | .ok _ => 0
 | .error c => c
theorem qmh : qnq (dec ((img qao).set 30 0)) = 102 := by kernel_rfl
theorem qnr : dec ((img qao).set 30 0) = .error 102 := by
 have h := qmh
 cases hd : dec ((img qao).set 30 0) with
 | ok tb => rw [hd] at h; cases h
 | error c => rw [hd] at h; exact congrArg _ h
theorem qlh : WfT qao := by
 refine ⟨fun x hx => ?_,fun x hx => ?_,fun x hx => ?_,fun x hx => ?_⟩
 ·have hx' : x = smTk := by simpa [qao] using hx
  subst hx'
  exact ⟨by decide,by decide⟩
 ·cases hx
 ·cases hx
 ·cases hx
theorem qcq {α : Type} {W : World} {k : Nat} {P : α → Nat → Value → Prop} : RowsAt W k P ⟨none,0,0⟩ [] := ⟨rfl,Nat.le_refl _,Nat.zero_le _,fun j x hj => by simp at hj⟩
theorem qk3 (w : World) : Calls Tryz.prog 23 #[] w fun e w' => ∃ v,e = .returned (.agg (tbC qao v)) ∧ TbAt w' qao v ∧ Below w.heap.size w w' := by
 have hY := heap_alloc_new w (.cells #[I 0,I 1, .slice (some ⟨w.heap.size + 1,0,none⟩) 1 1, .slice (some ⟨w.heap.size + 1 + 1,0,none⟩) 1 1, .slice none 0 0, .slice none 0 0, .slice none 0 0, .slice none 0 0, .slice none 0 0,I 1,I 4,I 2,I 0] 30)
 have hT := heap_alloc_new (w.alloc (.cells #[I 0,I 1, .slice (some ⟨w.heap.size + 1,0,none⟩) 1 1, .slice (some ⟨w.heap.size + 1 + 1,0,none⟩) 1 1, .slice none 0 0, .slice none 0 0, .slice none 0 0, .slice none 0 0, .slice none 0 0,I 1,I 4,I 2,I 0] 30)) (.cells #[I 1,I 0, .bool true,I 1, .int .u32 0,I (-1), .slice none 0 0, .int .u32 0] 61)
 have hR := heap_alloc_new ((w.alloc (.cells #[I 0,I 1, .slice (some ⟨w.heap.size + 1,0,none⟩) 1 1, .slice (some ⟨w.heap.size + 1 + 1,0,none⟩) 1 1, .slice none 0 0, .slice none 0 0, .slice none 0 0, .slice none 0 0, .slice none 0 0,I 1,I 4,I 2,I 0] 30)).alloc (.cells #[I 1,I 0, .bool true,I 1, .int .u32 0,I (-1), .slice none 0 0, .int .u32 0] 61)) (.cells #[I 1,I 1] 63)
 have hY3 := ((qa0 ((w.alloc (.cells #[I 0,I 1, .slice (some ⟨w.heap.size + 1,0,none⟩) 1 1, .slice (some ⟨w.heap.size + 1 + 1,0,none⟩) 1 1, .slice none 0 0, .slice none 0 0, .slice none 0 0, .slice none 0 0, .slice none 0 0,I 1,I 4,I 2,I 0] 30)).alloc (.cells #[I 1,I 0, .bool true,I 1, .int .u32 0,I (-1), .slice none 0 0, .int .u32 0] 61)) (.cells #[I 1,I 1] 63)).block _ (qa4 (((qa0 (w.alloc (.cells #[I 0,I 1, .slice (some ⟨w.heap.size + 1,0,none⟩) 1 1, .slice (some ⟨w.heap.size + 1 + 1,0,none⟩) 1 1, .slice none 0 0, .slice none 0 0, .slice none 0 0, .slice none 0 0, .slice none 0 0,I 1,I 4,I 2,I 0] 30)) (.cells #[I 1,I 0, .bool true,I 1, .int .u32 0,I (-1), .slice none 0 0, .int .u32 0] 61)).block _ (qa4 hY)).trans hY))).trans (((qa0 (w.alloc (.cells #[I 0,I 1, .slice (some ⟨w.heap.size + 1,0,none⟩) 1 1, .slice (some ⟨w.heap.size + 1 + 1,0,none⟩) 1 1, .slice none 0 0, .slice none 0 0, .slice none 0 0, .slice none 0 0, .slice none 0 0,I 1,I 4,I 2,I 0] 30)) (.cells #[I 1,I 0, .bool true,I 1, .int .u32 0,I (-1), .slice none 0 0, .int .u32 0] 61)).block _ (qa4 hY)).trans hY)
 have hT3 := ((qa0 ((w.alloc (.cells #[I 0,I 1, .slice (some ⟨w.heap.size + 1,0,none⟩) 1 1, .slice (some ⟨w.heap.size + 1 + 1,0,none⟩) 1 1, .slice none 0 0, .slice none 0 0, .slice none 0 0, .slice none 0 0, .slice none 0 0,I 1,I 4,I 2,I 0] 30)).alloc (.cells #[I 1,I 0, .bool true,I 1, .int .u32 0,I (-1), .slice none 0 0, .int .u32 0] 61)) (.cells #[I 1,I 1] 63)).block _ (qa4 hT)).trans hT
 have e1 : (w.alloc (.cells #[I 0,I 1, .slice (some ⟨w.heap.size + 1,0,none⟩) 1 1, .slice (some ⟨w.heap.size + 1 + 1,0,none⟩) 1 1, .slice none 0 0, .slice none 0 0, .slice none 0 0, .slice none 0 0, .slice none 0 0,I 1,I 4,I 2,I 0] 30)).heap.size = w.heap.size + 1 := by simp
 have e2 : ((w.alloc (.cells #[I 0,I 1, .slice (some ⟨w.heap.size + 1,0,none⟩) 1 1, .slice (some ⟨w.heap.size + 1 + 1,0,none⟩) 1 1, .slice none 0 0, .slice none 0 0, .slice none 0 0, .slice none 0 0, .slice none 0 0,I 1,I 4,I 2,I 0] 30)).alloc (.cells #[I 1,I 0, .bool true,I 1, .int .u32 0,I (-1), .slice none 0 0, .int .u32 0] 61)).heap.size = w.heap.size + 2 := by simp
 rw [e1] at hT3
 rw [e2,show w.heap.size + 2 = w.heap.size + 1 + 1 from rfl] at hR
 have hB := belT (qa0 w (.cells #[I 0,I 1, .slice (some ⟨w.heap.size + 1,0,none⟩) 1 1, .slice (some ⟨w.heap.size + 1 + 1,0,none⟩) 1 1, .slice none 0 0, .slice none 0 0, .slice none 0 0, .slice none 0 0, .slice none 0 0,I 1,I 4,I 2,I 0] 30)) (belT (qa0 (w.alloc (.cells #[I 0,I 1, .slice (some ⟨w.heap.size + 1,0,none⟩) 1 1, .slice (some ⟨w.heap.size + 1 + 1,0,none⟩) 1 1, .slice none 0 0, .slice none 0 0, .slice none 0 0, .slice none 0 0, .slice none 0 0,I 1,I 4,I 2,I 0] 30)) (.cells #[I 1,I 0, .bool true,I 1, .int .u32 0,I (-1), .slice none 0 0, .int .u32 0] 61)) (qa0 ((w.alloc (.cells #[I 0,I 1, .slice (some ⟨w.heap.size + 1,0,none⟩) 1 1, .slice (some ⟨w.heap.size + 1 + 1,0,none⟩) 1 1, .slice none 0 0, .slice none 0 0, .slice none 0 0, .slice none 0 0, .slice none 0 0,I 1,I 4,I 2,I 0] 30)).alloc (.cells #[I 1,I 0, .bool true,I 1, .int .u32 0,I (-1), .slice none 0 0, .int .u32 0] 61)) (.cells #[I 1,I 1] 63)))
 clear hY hT e1 e2
 go_enter Tryz.func23,Tryz.ntmps23
 go_wp2
 have hbF := hB
 have hTF := hT3
 have hRF := hR
 have k13 := hY3
 generalize (((w.alloc (.cells #[I 0,I 1, .slice (some ⟨w.heap.size + 1,0,none⟩) 1 1, .slice (some ⟨w.heap.size + 1 + 1,0,none⟩) 1 1, .slice none 0 0, .slice none 0 0, .slice none 0 0, .slice none 0 0, .slice none 0 0,I 1,I 4,I 2,I 0] 30)).alloc (.cells #[I 1,I 0, .bool true,I 1, .int .u32 0,I (-1), .slice none 0 0, .int .u32 0] 61)).alloc (.cells #[I 1,I 1] 63)) = W at *
 refine bodyPost_ret (qjy Tryz.results23 _ w.heap.size _ _ _ _ _ _ _ _ _ _ _ _ _ _ rfl k13) rfl ?_
 refine ⟨⟨⟨some ⟨w.heap.size + 1,0,none⟩,1,1⟩,⟨some ⟨w.heap.size + 1 + 1,0,none⟩,1,1⟩,⟨none,0,0⟩,⟨none,0,0⟩,⟨none,0,0⟩,⟨none,0,0⟩,⟨none,0,0⟩⟩,rfl,⟨?_, ?_,qcq,qcq,qcq,qcq,qcq⟩,hbF⟩
 ·refine ⟨rfl,Nat.le_refl _,by show 1 ≤ maxLen; unfold maxLen; omega,fun j x hj => ⟨w.heap.size + 1,0,rfl,qa4 hTF,fun i hi => ?_⟩⟩
  match j,hj with
  | 0,hj =>
   have hx : x = smTk := by simpa [qao] using hj.symm
   subst hx
   have cc := fun i => cell_of_row W (w.heap.size + 1) i _ _ (0,0) hTF
   match i,hi with
   | 0,_ => exact ⟨I 1,by simpa using cc 0,rfl⟩
   | 1,_ => exact ⟨I 0,by simpa using cc 1,rfl⟩
   | 2,_ => exact ⟨.bool true,by simpa using cc 2,rfl⟩
   | 3,_ => exact ⟨I 1,by simpa using cc 3,rfl⟩
   | 4,_ => exact ⟨.int .u32 0,by simpa using cc 4,rfl⟩
   | 5,_ => exact ⟨I (-1),by simpa using cc 5,rfl⟩
   | 6,_ => exact ⟨.slice none 0 0,by simpa using cc 6,⟨⟨none,0,0⟩,rfl,qcq⟩⟩
   | 7,_ => exact ⟨.int .u32 0,by simpa using cc 7,rfl⟩
 ·refine ⟨rfl,Nat.le_refl _,by show 1 ≤ maxLen; unfold maxLen; omega,fun j x hj => ⟨w.heap.size + 1 + 1,0,rfl,qa4 hRF,fun i hi => ?_⟩⟩
  match j,hj with
  | 0,hj =>
   have hx : x = ⟨1,1⟩ := by simpa [qao] using hj.symm
   subst hx
   have cc := fun i => cell_of_row W (w.heap.size + 1 + 1) i _ _ (0,0) hRF
   match i,hi with
   | 0,_ => exact ⟨I 1,by simpa using cc 0,rfl⟩
   | 1,_ => exact ⟨I 1,by simpa using cc 1,rfl⟩
end Go.Proofs.YtijgopkhdjaolaaGreat
