import Derived.Test.YtijgopkhdjaolaaGreatXHf
import Derived.Deep.RegionHeldLaw
namespace Go.Proofs.YtijgopkhdjaolaaGreat
open Go.RowKit Go.Shelf Go.Sort
open Go.Proofs.YtijgopkhdjaolaaGreat.Ob (leB leV qac qam crc Rd RdAll qad)
set_option linter.unusedSimpArgs false
set_option linter.unusedVariables false
set_option maxHeartbeats 16000000
set_option maxRecDepth 100000
theorem qdm {W : World} {X n : Nat} (us : List Value) (ls : List (List UInt8)) (h : W.heap[X]? = some (.cells us.toArray 31)) (hn : n = ls.length) (hu : us.length = ls.length) (hl : ls.length ≤ 1000) (hs : ∀ (j : Nat) (l : List UInt8) (v : Value),ls[j]? = some l → us[j]? = some v → rdV W 1 v l.length (Bs8 l)) : RowsAt W 1 (segB W) ⟨some ⟨X,0,none⟩,n,n⟩ ls := by
 subst hn
 refine ⟨rfl,Nat.le_refl _,by show ls.length ≤ maxLen; unfold maxLen; omega,fun j x hj => ⟨X,0,rfl,(Array.getElem?_eq_some_iff.1 h).1,fun i hi => ?_⟩⟩
 obtain rfl : i = 0 := by omega
 have hlt : j < us.length := by rw [hu]; exact (List.getElem?_eq_some_iff.1 hj).1
 refine ⟨us[j], ?_, ?_⟩
 ·rw [cell_of_row _ _ _ _ _ (0,0) h]
  simp
 ·unfold segB
  rw [qc3]
  exact hs j x _ hj (List.getElem?_eq_getElem hlt)
theorem cat2 {w W : World} {X : Nat} {u1 u2 : Value} {l1 l2 : List UInt8} (hb : Below w.heap.size w W) (h : W.heap[X]? = some (.cells #[u1,u2] 31)) (h1 : W.ownsRow 0 5 1 u1 l1.length (Bs8 l1)) (h2 : W.ownsRow 0 5 1 u2 l2.length (Bs8 l2)) (hl : l1.length + l2.length ≤ 1000000) : Calls Tryz.prog 66 #[.slice (some ⟨X,0,none⟩) 2 2] W fun e w' => ∃ u,e = .returned u ∧ OwB w w' u (l1 ++ l2) := by
 refine (catB W ⟨some ⟨X,0,none⟩,2,2⟩ [l1,l2] (qdm [u1,u2] [l1,l2] h rfl rfl (by simp) (fun j l v e1 e2 => ?_)) (by simpa using hl)).mono ?_
 ·match j,e1,e2 with
  | 0,e1,e2 => simp at e1 e2; subst e1 e2; exact qbc h1
  | 1,e1,e2 => simp at e1 e2; subst e1 e2; exact qbc h2
 ·rintro e w' ⟨u,rfl,o,b⟩
  rw [qc3] at o
  have e2 : [l1,l2].flatten = l1 ++ l2 := by simp
  rw [e2] at o
  exact ⟨u,rfl,qbd hb ⟨o,b⟩⟩
theorem cat3 {w W : World} {X : Nat} {u1 u2 u3 : Value} {l1 l2 l3 : List UInt8} (hb : Below w.heap.size w W) (h : W.heap[X]? = some (.cells #[u1,u2,u3] 31)) (h1 : W.ownsRow 0 5 1 u1 l1.length (Bs8 l1)) (h2 : W.ownsRow 0 5 1 u2 l2.length (Bs8 l2)) (h3 : W.ownsRow 0 5 1 u3 l3.length (Bs8 l3)) (hl : l1.length + (l2.length + l3.length) ≤ 1000000) : Calls Tryz.prog 66 #[.slice (some ⟨X,0,none⟩) 3 3] W fun e w' => ∃ u,e = .returned u ∧ OwB w w' u (l1 ++ (l2 ++ l3)) := by
 refine (catB W ⟨some ⟨X,0,none⟩,3,3⟩ [l1,l2,l3] (qdm [u1,u2,u3] [l1,l2,l3] h rfl rfl (by simp) (fun j l v e1 e2 => ?_)) (by simpa using hl)).mono ?_
 ·match j,e1,e2 with
  | 0,e1,e2 => simp at e1 e2; subst e1 e2; exact qbc h1
  | 1,e1,e2 => simp at e1 e2; subst e1 e2; exact qbc h2
  | 2,e1,e2 => simp at e1 e2; subst e1 e2; exact qbc h3
 ·rintro e w' ⟨u,rfl,o,b⟩
  rw [qc3] at o
  have e2 : [l1,l2,l3].flatten = l1 ++ (l2 ++ l3) := by simp
  rw [e2] at o
  exact ⟨u,rfl,qbd hb ⟨o,b⟩⟩
theorem qkr {w W W' : World} {u : Value} {l : List UInt8} (h : OwB w W u l) (hb : Below W.heap.size W W') : W'.ownsRow 0 5 1 u l.length (Bs8 l) := qa2 (qai h.1) hb
theorem qm5 (l : List Int) : (List.range l.length).map (fun j => ((l.getD j 0 : Int),1)) = l.map (fun x => (x,1)) := by
 apply List.ext_getElem?
 intro i
 rw [List.getElem?_map,List.getElem?_map]
 by_cases hi : i < l.length
 ·rw [List.getElem?_range hi,List.getElem?_eq_getElem hi]
  simp [List.getD_eq_getElem?_getD,List.getElem?_eq_getElem hi]
 ·rw [List.getElem?_eq_none (by simpa using hi),List.getElem?_eq_none (by simpa using hi)]
  rfl
theorem qks (l : List Int) : putB (l.map (fun x => (x,1))) = l.flatMap e1 := by
 unfold putB
 rw [List.flatMap_map]
 rfl
theorem qgs (w : World) (s : Sl) (l : List Int) (h : RowsAt w 1 intP s l) (hl : l.length < 256) (hb : ∀ y ∈ l,b8 y) : Calls Tryz.prog 136 #[slT s] w fun e w' => ∃ u,e = .returned u ∧ OwB w w' u (eL l) := by
 have hb0 := qa0 w (.cells #[slT s] 40)
 have hV := heap_alloc_new w (.cells #[slT s] 40)
 have hsn : s.n = l.length := h.n
 have HSN : Hid (s.n = l.length) := hsn
 have hn : s.n ≤ 255 := by omega
 have HS0 : Hid (∀ W,Below (w.alloc (.cells #[slT s] 40)).heap.size (w.alloc (.cells #[slT s] 40)) W → W.cell? ⟨w.heap.size,0,none⟩ = some (.slice s.a s.n s.c)) := fun W hW => by
  have q := (hW.block _ (qa4 hV)).trans hV
  rw [cell_of_row _ _ _ _ _ (0,0) q]; rfl
 have hR := qo8 (w.alloc (.cells #[slT s] 40)) s.n (by omega) 178 #[] #[.pointer (some ⟨w.heap.size,0,none⟩)] (enters_of Tryz.func178 (by kernel_rfl) rfl) (fun j => ((l.getD j 0 : Int),1)) (fun W hW j hj => by
  have hx : l[j]? = some (l.getD j 0) := by rw [List.getD_eq_getElem?_getD,List.getElem?_eq_getElem (by omega)]; rfl
  rw [show (#[] ++ #[I j] ++ #[.pointer (some ⟨w.heap.size,0,none⟩)] : Array Value) = #[I j, .pointer (some ⟨w.heap.size,0,none⟩)] from rfl]
  exact qjr ((h.below hb0 (fun _ _ _ _ h => h)).below hW (fun _ _ _ _ h => h)) ((hW.block _ (qa4 hV)).trans hV) hb hx)
 rw [hsn,qm5, ← hsn] at hR
 have HO : Hid (∀ y ∈ l.map (fun x => (x,1)),okC y) := fun y hy => by
  obtain ⟨x,hx,rfl⟩ := List.mem_map.1 hy
  exact okC1 (hb x hx)
 have HLB : Hid (l.length < 256) := hl
 have HB0 : Hid (Below w.heap.size w (w.alloc (.cells #[slT s] 40))) := hb0
 clear h hb hV hsn hl hb0
 obtain ⟨sa,sn,sc⟩ := s
 dsimp only at *
 show Calls _ _ #[.slice sa sn sc] _ _
 go_enter Tryz.func136,Tryz.ntmps136
 go_upto_region 1 with fail
 generalize w.alloc (.cells #[.slice sa sn sc] 40) = w0 at *
 generalize hX : w.heap.size = X at *
 have HX : Hid (w.heap.size = X) := hX
 clear hX
 have c0 := HS0.out w0 (Below.refl _ _)
 have hO1 := fun W => qb2 W (sn : Int) (by omega) (by omega)
 have hP1 := fun (W : World) (X : Nat) h => qbj (W := W) (X := X) (n := 1) [((sn : Int),1)] h rfl (by intro y hy; simp at hy; subst hy; exact okC1 ⟨by omega,by omega⟩) (by simp)
 have hE1 : putB [((sn : Int),1)] = e1 (sn : Int) := by simp [putB,e1]
 simp only [hE1] at hP1
 clear hE1
 obtain ⟨F1,hF1⟩ : ∃ F,F = l.flatMap e1 := ⟨_,rfl⟩
 have HF1 : Hid (F1 = l.flatMap e1) := hF1
 clear hF1
 go_wp2_with (first
  | (go_at_call 177; refine hR.mono ?_; clear hR; rintro e w2 ⟨u2,rfl,o2,b2⟩; have K2 : Hid (w2.ownsRow w0.heap.size 114 2 u2 sn ((l.map (fun x => (x,1))).flatMap qby) ∧ Below w0.heap.size w0 w2) := ⟨o2,b2⟩; have c2 := HS0.out w2 b2; clear o2 b2)
  | (go_at_call 132; refine (hO1 _).mono ?_; clear hO1; rintro e w3 ⟨rfl,b3⟩; have K3 : Hid (Below w0.heap.size w0 w3 ∧ Below w2.heap.size w2 w3) := ⟨belT K2.out.2 b3,b3⟩; clear b3)
  | (go_at_call 69; refine (hP1 _ _ (heap_alloc_new _ _)).mono ?_; clear hP1; rintro e w4 ⟨u4,rfl,o4⟩; obtain ⟨a4,q4,rfl⟩ := qan o4.1; have K4 : Hid (OwB w0 w4 (.slice a4 (e1 (sn : Int)).length q4) (e1 (sn : Int)) ∧ Below w2.heap.size w2 w4) := ⟨qbd (belA K3.out.1) o4,belT K3.out.2 ((qa0 w3 _).trans (o4.2.mono (by simp)))⟩; obtain ⟨s2,hs2,r2⟩ := qkq (P := qib) (l := l.map (fun x => ((x,1) : Int × Nat))) (qa2 K2.out.1 K4.out.2) (by rw [List.length_map]; exact HSN.out) (fun j x hj i hi => by { obtain ⟨q0,q1⟩ := qgr _ hj; match i,hi with | 0,_ => exact ⟨_,q0,rfl⟩ | 1,_ => exact ⟨_,q1,rfl⟩ }); subst hs2; have hP := qhl r2 HO.out (by rw [List.length_map]; have := HLB.out; omega); rw [qks, ← HF1.out] at hP; clear o4 r2)
  | (go_at_call 69; refine hP.mono ?_; clear hP; rintro e w5 ⟨u5,rfl,o5⟩; obtain ⟨a5,q5,rfl⟩ := qan o5.1; have hcat := cat2 (w := w0) (W := w5.alloc (.cells #[.slice a4 (e1 (sn : Int)).length q4, .slice a5 F1.length q5] 31)) (X := w5.heap.size) (belA (belT K4.out.1.2 o5.2)) (heap_alloc_new _ _) ((qkr K4.out.1 o5.2).alloc _) ((qai o5.1).alloc _) (by rw [HF1.out,qgp,e1,qac]; have := HLB.out; omega); clear o5)
  | (go_at_call 66; refine hcat.mono ?_; clear hcat; rintro e w6 ⟨u6,rfl,o6⟩; have K6 : Hid (OwB w0 w6 u6 (e1 (sn : Int) ++ F1)) := o6; clear o6))
 go_ret
 have hq := qbd (by have := HB0.out; rw [← HX.out] at this; exact this) K6.out
 refine ⟨_,rfl, ?_⟩
 unfold eL
 rw [← HSN.out, ← HF1.out]
 exact hq
end Go.Proofs.YtijgopkhdjaolaaGreat
namespace Go.Proofs.YtijgopkhdjaolaaGreat
open Go.RowKit Go.Shelf Go.Sort
set_option linter.unusedSimpArgs false
set_option linter.unusedVariables false
set_option maxHeartbeats 16000000
set_option maxRecDepth 100000
theorem qdn {w : World} {s : Sl} {l : List Int} (h : RowsAt w 1 intP s l) {k : Nat} (hk : k < l.length) {W : World} (hb : Below w.heap.size w W) : ∃ g off,s.a = some ⟨g,off,none⟩ ∧ W.cell? ⟨g,off + k,none⟩ = some (I l[k]) := by
 obtain ⟨g,off,ea,hg,hr⟩ := h.row k _ (List.getElem?_eq_getElem hk)
 obtain ⟨u,hu,hp⟩ := hr 0 (by omega)
 have hp' : u = I l[k] := hp
 subst hp'
 exact ⟨g,off,ea,by rw [qa6 hb _ _ hg]; simpa using hu⟩
theorem qhm {α : Type} [DecidableEq α] {l1 l2 : List α} {k : Nat} (h1 : k < l1.length) (h2 : k < l2.length) (h : l1.take k = l2.take k) (hx : l1[k] = l2[k]) : l1.take (k + 1) = l2.take (k + 1) := by
 rw [List.take_add_one,List.take_add_one,h,List.getElem?_eq_getElem h1,List.getElem?_eq_getElem h2,hx]
theorem qjs (w : World) (s1 s2 : Sl) (l1 l2 : List Int) (h1 : RowsAt w 1 intP s1 l1) (h2 : RowsAt w 1 intP s2 l2) : Calls Tryz.prog 121 #[slT s1,slT s2] w fun e w' => e = .returned (.bool (decide (l1 = l2))) ∧ Below w.heap.size w w' := by
 obtain ⟨a1,n1,c1⟩ := s1
 obtain ⟨a2,n2,c2⟩ := s2
 have hn1 : Hid (n1 = l1.length) := h1.n
 have hn2 : Hid (n2 = l2.length) := h2.n
 have hm1 : n1 ≤ maxLen := Nat.le_trans h1.c h1.m
 unfold maxLen at hm1
 have H1 : Hid (RowsAt w 1 intP ⟨a1,n1,c1⟩ l1) := h1
 have H2 : Hid (RowsAt w 1 intP ⟨a2,n2,c2⟩ l2) := h2
 clear h1 h2
 show Calls _ _ #[.slice a1 n1 c1, .slice a2 n2 c2] _ _
 by_cases hl : n1 = n2
 ·subst hl
  go_enter Tryz.func121,Tryz.ntmps121
  go_wp2
  go_loopw [5,13] (fun _ v13 wr => ∃ k : Nat,k ≤ n1 ∧ v13 = I k ∧ Hid (l1.take k = l2.take k ∧ Below w.heap.size w wr)) (fun _ v13 _ => n1 - (intOf v13).toNat)
  case atStart => exact ⟨0,by omega,rfl,by simp,Below.refl _ _⟩
  case round =>
   obtain ⟨k,hk,rfl,HJ⟩ := hrel
   by_cases hlt : k < n1
   ·have hltI : (k : Int) < n1 := by omega
    have hk1 : k < l1.length := by rw [← hn1.out]; exact hlt
    have hk2 : k < l2.length := by rw [← hn2.out]; exact hlt
    obtain ⟨g1,o1,e1,q1⟩ := qdn H1.out hk1 HJ.out.2
    obtain ⟨g2,o2,e2,q2⟩ := qdn H2.out hk2 HJ.out.2
    have e1' : a1 = some ⟨g1,o1,none⟩ := e1
    have e2' : a2 = some ⟨g2,o2,none⟩ := e2
    clear e1 e2
    subst e1' e2'
    by_cases hx : l1[k] = l2[k]
    ·have HT : Hid (l1.take (k + 1) = l2.take (k + 1) ∧ Below w.heap.size w wr) := ⟨qhm hk1 hk2 HJ.out.1 hx,HJ.out.2⟩
     clear HJ
     rw [← hx] at q2
     generalize l1[k] = x at *
     clear hk1 hk2 hx
     go_upto_region 6 with fail
     go_region_held_law (fun W => W.cell? ⟨g1,o1 + k,none⟩ = some (I x) ∧ W.cell? ⟨g2,o2 + k,none⟩ = some (I x)) (first | exact ⟨q1,q2⟩ | (go_keep; done)) (fail)
     go_wp2
     go_roundw
     case rel => exact ⟨k + 1,by omega,by go_num,HT.out.1,HT.out.2.drew⟩
     case measure => simp [intOf]; omega
    ·have HN : Hid (¬ l1 = l2 ∧ Below w.heap.size w wr) := ⟨fun e => hx (by subst e; rfl),HJ.out.2⟩
     clear HJ
     obtain ⟨x,ex⟩ : ∃ x,x = l1[k] := ⟨_,rfl⟩
     obtain ⟨y,ey⟩ : ∃ y,y = l2[k] := ⟨_,rfl⟩
     rw [← ex] at q1 hx
     rw [← ey] at q2 hx
     clear ex ey hk1 hk2
     go_upto_region 6 with fail
     go_region_held_law (fun W => W.cell? ⟨g1,o1 + k,none⟩ = some (I x) ∧ W.cell? ⟨g2,o2 + k,none⟩ = some (I y)) (first | exact ⟨q1,q2⟩ | (go_keep; done)) (fail)
     go_wp2
     go_ret
     exact ⟨by rw [decide_eq_false HN.out.1]; rfl,HN.out.2.drew⟩
   ·obtain rfl : k = n1 := by omega
    have hge : ¬ ((k : Int) < k) := by omega
    have HE : Hid (l1 = l2 ∧ Below w.heap.size w wr) := ⟨by have := HJ.out.1; rwa [show l1.take k = l1 by rw [hn1.out]; exact List.take_length,show l2.take k = l2 by rw [hn2.out]; exact List.take_length] at this,HJ.out.2⟩
    clear HJ
    go_wp2
    go_ret
    exact ⟨by rw [decide_eq_true HE.out.1]; rfl,HE.out.2⟩
 ·have hlI : ¬ ((n1 : Int) = n2) := by omega
  have HN : Hid (¬ l1 = l2) := fun e => hl (by rw [hn1.out,hn2.out,e])
  go_enter Tryz.func121,Tryz.ntmps121
  go_wp2
  go_ret
  exact ⟨by rw [decide_eq_false HN.out]; rfl,Below.refl _ _⟩
theorem qh8 (w : World) (x y : IsR) (s1 s2 : Sl) (h1 : RowsAt w 1 intP s1 x.own) (h2 : RowsAt w 1 intP s2 y.own) : Calls Tryz.prog 47 #[.agg #[I x.cat,I x.prio,slT s1], .agg #[I y.cat,I y.prio,slT s2]] w fun e w' => e = .returned (.bool (decide (x.cat = y.cat ∧ x.prio = y.prio ∧ x.own = y.own))) ∧ Below w.heap.size w w' := by
 obtain ⟨a1,n1,c1⟩ := s1
 obtain ⟨a2,n2,c2⟩ := s2
 have hb1 := qa0 w (.cells #[I x.cat,I x.prio, .slice a1 n1 c1] 87)
 have hb2 := qa0 (w.alloc (.cells #[I x.cat,I x.prio, .slice a1 n1 c1] 87)) (.cells #[I y.cat,I y.prio, .slice a2 n2 c2] 87)
 have hb := belT hb1 hb2
 have hE := qjs _ _ _ _ _ (h1.below hb (fun _ _ _ _ h => h)) (h2.below hb (fun _ _ _ _ h => h))
 have HB : Hid (Below w.heap.size w ((w.alloc (.cells #[I x.cat,I x.prio, .slice a1 n1 c1] 87)).alloc (.cells #[I y.cat,I y.prio, .slice a2 n2 c2] 87))) := hb
 clear h1 h2 hb1 hb2 hb
 show Calls _ _ #[.agg #[I x.cat,I x.prio, .slice a1 n1 c1], .agg #[I y.cat,I y.prio, .slice a2 n2 c2]] _ _
 obtain ⟨c,p,l⟩ := x
 obtain ⟨d,q,m⟩ := y
 dsimp only at *
 by_cases e1 : c = d
 ·by_cases e2 : p = q
  ·have HD : Hid (decide (c = d ∧ p = q ∧ l = m) = decide (l = m)) := by show _ = _; simp [e1,e2]
   rw [HD.out]
   clear HD
   subst e1 e2
   generalize decide (l = m) = b at *
   go_enter Tryz.func47,Tryz.ntmps47
   go_wp2_with (first | (go_at_call 121; refine hE.mono ?_; clear hE; rintro e w2 ⟨rfl,b2⟩; have B2 : Hid (Below w.heap.size w w2) := belT HB.out b2; clear b2 HB))
   go_ret
   exact ⟨rfl,B2.out⟩
  ·have HD : Hid (decide (c = d ∧ p = q ∧ l = m) = false) := by show _ = _; simp [e2]
   rw [HD.out]
   clear HD hE
   subst e1
   go_enter Tryz.func47,Tryz.ntmps47
   go_wp2
   go_ret
   exact ⟨rfl,HB.out⟩
 ·have HD : Hid (decide (c = d ∧ p = q ∧ l = m) = false) := by show _ = _; simp [e1]
  rw [HD.out]
  clear HD hE
  go_enter Tryz.func47,Tryz.ntmps47
  go_wp2
  go_ret
  exact ⟨rfl,HB.out⟩
theorem qo9 (w : World) (o : Obj) : (w.alloc o).heap.size = w.heap.size + 1 := by first | simp | (unfold World.alloc; simp)
theorem qgt (w : World) (x y : TkR) (s1 s2 : Sl) (h1 : RowsAt w 1 intP s1 x.own) (h2 : RowsAt w 1 intP s2 y.own) : Calls Tryz.prog 41 #[.agg #[I x.prio,I x.ring, .bool x.full,I x.limit, .int .u32 (x.mask : Int),I x.inner,slT s1, .int .u32 (x.auto : Int)], .agg #[I y.prio,I y.ring, .bool y.full,I y.limit, .int .u32 (y.mask : Int),I y.inner,slT s2, .int .u32 (y.auto : Int)]] w fun e w' => e = .returned (.bool (decide (x.prio = y.prio ∧ x.ring = y.ring ∧ x.full = y.full ∧ x.limit = y.limit ∧ x.mask = y.mask ∧ x.inner = y.inner ∧ x.own = y.own ∧ x.auto = y.auto))) ∧ Below w.heap.size w w' := by
 obtain ⟨a1,n1,c1⟩ := s1
 obtain ⟨a2,n2,c2⟩ := s2
 have hb1 := qa0 w (.cells #[I x.prio,I x.ring, .bool x.full,I x.limit, .int .u32 (x.mask : Int),I x.inner, .slice a1 n1 c1, .int .u32 (x.auto : Int)] 61)
 have hb2 := qa0 (w.alloc (.cells #[I x.prio,I x.ring, .bool x.full,I x.limit, .int .u32 (x.mask : Int),I x.inner, .slice a1 n1 c1, .int .u32 (x.auto : Int)] 61)) (.cells #[I y.prio,I y.ring, .bool y.full,I y.limit, .int .u32 (y.mask : Int),I y.inner, .slice a2 n2 c2, .int .u32 (y.auto : Int)] 61)
 have hb := belT hb1 hb2
 have hE := qjs _ _ _ _ _ (h1.below hb (fun _ _ _ _ h => h)) (h2.below hb (fun _ _ _ _ h => h))
 have HB : Hid (Below w.heap.size w ((w.alloc (.cells #[I x.prio,I x.ring, .bool x.full,I x.limit, .int .u32 (x.mask : Int),I x.inner, .slice a1 n1 c1, .int .u32 (x.auto : Int)] 61)).alloc (.cells #[I y.prio,I y.ring, .bool y.full,I y.limit, .int .u32 (y.mask : Int),I y.inner, .slice a2 n2 c2, .int .u32 (y.auto : Int)] 61))) := hb
 have hv1 := heap_alloc_new w (.cells #[I x.prio,I x.ring, .bool x.full,I x.limit, .int .u32 (x.mask : Int),I x.inner, .slice a1 n1 c1, .int .u32 (x.auto : Int)] 61)
 have hv2 := heap_alloc_new (w.alloc (.cells #[I x.prio,I x.ring, .bool x.full,I x.limit, .int .u32 (x.mask : Int),I x.inner, .slice a1 n1 c1, .int .u32 (x.auto : Int)] 61)) (.cells #[I y.prio,I y.ring, .bool y.full,I y.limit, .int .u32 (y.mask : Int),I y.inner, .slice a2 n2 c2, .int .u32 (y.auto : Int)] 61)
 have HC : Hid (∀ W,Below ((w.alloc (.cells #[I x.prio,I x.ring, .bool x.full,I x.limit, .int .u32 (x.mask : Int),I x.inner, .slice a1 n1 c1, .int .u32 (x.auto : Int)] 61)).alloc (.cells #[I y.prio,I y.ring, .bool y.full,I y.limit, .int .u32 (y.mask : Int),I y.inner, .slice a2 n2 c2, .int .u32 (y.auto : Int)] 61)).heap.size ((w.alloc (.cells #[I x.prio,I x.ring, .bool x.full,I x.limit, .int .u32 (x.mask : Int),I x.inner, .slice a1 n1 c1, .int .u32 (x.auto : Int)] 61)).alloc (.cells #[I y.prio,I y.ring, .bool y.full,I y.limit, .int .u32 (y.mask : Int),I y.inner, .slice a2 n2 c2, .int .u32 (y.auto : Int)] 61)) W → W.cell? ⟨w.heap.size,7,none⟩ = some (.int .u32 (x.auto : Int)) ∧ W.cell? ⟨w.heap.size + 1,7,none⟩ = some (.int .u32 (y.auto : Int))) := fun W hW => by
  have q0 := (hb2.block _ (qa4 hv1)).trans hv1
  have q1 := (hW.block _ (qa4 q0)).trans q0
  have q2 := (hW.block _ (qa4 hv2)).trans hv2
  rw [qo9] at q2
  exact ⟨by rw [cell_of_row _ _ _ _ _ (0,0) q1]; rfl,by rw [cell_of_row _ _ _ _ _ (0,0) q2]; rfl⟩
 clear h1 h2 hb1 hb2 hb hv1 hv2
 show Calls _ _ #[.agg #[I x.prio,I x.ring, .bool x.full,I x.limit, .int .u32 (x.mask : Int),I x.inner, .slice a1 n1 c1, .int .u32 (x.auto : Int)], .agg #[I y.prio,I y.ring, .bool y.full,I y.limit, .int .u32 (y.mask : Int),I y.inner, .slice a2 n2 c2, .int .u32 (y.auto : Int)]] _ _
 obtain ⟨p,r,f,l,m,i,o,a⟩ := x
 obtain ⟨pp,rr,ff,ll,mm,ii,oo,aa⟩ := y
 dsimp only at *
 by_cases E0 : p = pp
 ·skip
  by_cases E1 : r = rr
  ·skip
   by_cases E2 : f = ff
   ·skip
    by_cases E3 : l = ll
    ·skip
     by_cases E4 : m = mm
     ·skip
      by_cases E5 : i = ii
      ·skip
       by_cases E6 : o = oo
       ·skip
        by_cases E7 : a = aa
        ·rw [show decide (p = pp ∧ r = rr ∧ f = ff ∧ l = ll ∧ m = mm ∧ i = ii ∧ o = oo ∧ a = aa) = true from decide_eq_true ⟨E0,E1,E2,E3,E4,E5,E6,E7⟩]
         rw [decide_eq_true E6] at hE
         subst E0 E1 E2 E3 E4 E5 E6 E7
         go_enter Tryz.func41,Tryz.ntmps41
         go_wp2_with (first | (go_at_call 121; refine hE.mono ?_; clear hE; rintro e w2 ⟨rfl,b2⟩; have B2 : Hid (Below w.heap.size w w2) := belT HB.out b2; obtain ⟨q1,q2⟩ := HC.out w2 b2; clear b2 HB HC))
         go_ret
         exact ⟨by first | rfl | simp [haa] | (simp; omega),B2.out⟩
        ·have HD : Hid (decide (p = pp ∧ r = rr ∧ f = ff ∧ l = ll ∧ m = mm ∧ i = ii ∧ o = oo ∧ a = aa) = false) := by show _ = _; simp [E7]
         rw [HD.out]
         have haa : ¬ ((a : Int) = (aa : Int)) := by omega
         rw [decide_eq_true E6] at hE
         clear HD
         subst E0 E1 E2 E3 E4 E5 E6
         go_enter Tryz.func41,Tryz.ntmps41
         go_wp2_with (first | (go_at_call 121; refine hE.mono ?_; clear hE; rintro e w2 ⟨rfl,b2⟩; have B2 : Hid (Below w.heap.size w w2) := belT HB.out b2; obtain ⟨q1,q2⟩ := HC.out w2 b2; clear b2 HB HC))
         go_ret
         exact ⟨by first | rfl | simp [haa] | (simp; omega),B2.out⟩
       ·have HD : Hid (decide (p = pp ∧ r = rr ∧ f = ff ∧ l = ll ∧ m = mm ∧ i = ii ∧ o = oo ∧ a = aa) = false) := by show _ = _; simp [E6]
        rw [HD.out]
        rw [decide_eq_false E6] at hE
        clear HD
        subst E0 E1 E2 E3 E4 E5
        go_enter Tryz.func41,Tryz.ntmps41
        go_wp2_with (first | (go_at_call 121; refine hE.mono ?_; clear hE; rintro e w2 ⟨rfl,b2⟩; have B2 : Hid (Below w.heap.size w w2) := belT HB.out b2; obtain ⟨q1,q2⟩ := HC.out w2 b2; clear b2 HB HC))
        go_ret
        exact ⟨by first | rfl | simp [haa] | (simp; omega),B2.out⟩
      ·have HD : Hid (decide (p = pp ∧ r = rr ∧ f = ff ∧ l = ll ∧ m = mm ∧ i = ii ∧ o = oo ∧ a = aa) = false) := by show _ = _; simp [E5]
       rw [HD.out]
       clear HD hE
       subst E0 E1 E2 E3 E4
       go_enter Tryz.func41,Tryz.ntmps41
       go_wp2
       go_ret
       exact ⟨rfl,HB.out⟩
     ·have HD : Hid (decide (p = pp ∧ r = rr ∧ f = ff ∧ l = ll ∧ m = mm ∧ i = ii ∧ o = oo ∧ a = aa) = false) := by show _ = _; simp [E4]
      rw [HD.out]
      have hmm : ¬ ((m : Int) = (mm : Int)) := by omega
      clear HD hE
      subst E0 E1 E2 E3
      go_enter Tryz.func41,Tryz.ntmps41
      go_wp2
      go_ret
      exact ⟨rfl,HB.out⟩
    ·have HD : Hid (decide (p = pp ∧ r = rr ∧ f = ff ∧ l = ll ∧ m = mm ∧ i = ii ∧ o = oo ∧ a = aa) = false) := by show _ = _; simp [E3]
     rw [HD.out]
     clear HD hE
     subst E0 E1 E2
     go_enter Tryz.func41,Tryz.ntmps41
     go_wp2
     go_ret
     exact ⟨rfl,HB.out⟩
   ·have HD : Hid (decide (p = pp ∧ r = rr ∧ f = ff ∧ l = ll ∧ m = mm ∧ i = ii ∧ o = oo ∧ a = aa) = false) := by show _ = _; simp [E2]
    rw [HD.out]
    have hff : (f == ff) = false := by simp [E2]
    clear HD hE
    subst E0 E1
    go_enter Tryz.func41,Tryz.ntmps41
    go_wp2
    go_ret
    exact ⟨rfl,HB.out⟩
  ·have HD : Hid (decide (p = pp ∧ r = rr ∧ f = ff ∧ l = ll ∧ m = mm ∧ i = ii ∧ o = oo ∧ a = aa) = false) := by show _ = _; simp [E1]
   rw [HD.out]
   clear HD hE
   subst E0
   go_enter Tryz.func41,Tryz.ntmps41
   go_wp2
   go_ret
   exact ⟨rfl,HB.out⟩
 ·have HD : Hid (decide (p = pp ∧ r = rr ∧ f = ff ∧ l = ll ∧ m = mm ∧ i = ii ∧ o = oo ∧ a = aa) = false) := by show _ = _; simp [E0]
  rw [HD.out]
  clear HD hE
  go_enter Tryz.func41,Tryz.ntmps41
  go_wp2
  go_ret
  exact ⟨rfl,HB.out⟩
end Go.Proofs.YtijgopkhdjaolaaGreat
