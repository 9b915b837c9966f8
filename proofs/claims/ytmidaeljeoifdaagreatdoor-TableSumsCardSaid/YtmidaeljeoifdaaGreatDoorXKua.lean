import Derived.Test.YtmidaeljeoifdaaGreatDoorXKrv
import Derived.Deep.WholeRow
import Derived.Laws.EntriesVeiled
import Derived.Shelf.Abstract
import Derived.Lib.AppendZeros
import Derived.Deep.DeepAppendWide
namespace Go.Proofs.YtmidaeljeoifdaaGreatDoor
open Go.RowKit
set_option linter.unusedSimpArgs false
set_option linter.unusedVariables false
set_option maxHeartbeats 16000000
set_option maxRecDepth 100000
def kdC (word : List UInt8) (lo hi : Int) (fN : Nat) (s : Sl) : Array Value := #[S word,I lo,I hi, .func (.func fN) #[] #[], .slice s.a s.n s.c]
def qab : List Ck → Nat → (Nat → Bool) → Option Int
 | [],_,_ => none
 | x :: r,k,B => if B k = true then qab r (k + 1) B else some x.code
def objF (names : List (List UInt8)) (cs : List Ck) (B : Nat → Nat → Bool) (j : Nat) : Option Int := match names[j]? with
 | none => none
 | some nm => if (!isNm nm || hasS (names.take j) nm) = true then some 72 else qab cs 0 (fun k => B k j)
def qaw (E : Nat → Option Int) : Nat → Nat → Option (Int × Int)
 | 0,_ => none
 | m + 1,j => match E j with | some c => some (c,(j : Int)) | none => qaw E m (j + 1)
def qai (names : List (List UInt8)) (lo hi : Int) (cs : List Ck) (B : Nat → Nat → Bool) : Option (Int × Int) := if inR names.length lo hi = true then qaw (objF names cs B) names.length 0 else some (71,0)
def qaz (w : World) (word : List UInt8) (o : Option (Int × Int)) (e : Ending) (w' : World) : Prop := match o with
 | none => e = .returned .nilIface ∧ Below w.heap.size w w'
 | some (c,id) => qe1 w c word id e w'
theorem qc4 {w W w' : World} {c id : Int} {word : List UInt8} {e : Ending} (h : qe1 W c word id e w') (hb : Below w.heap.size w W) : qe1 w c word id e w' := by
 obtain ⟨b,h1,h2,h3,h4⟩ := h
 exact ⟨b,h1,Nat.le_trans hb.size h2,h3,hb.trans (h4.mono hb.size)⟩
theorem qc5 (w : World) (c : Cf) (v : Vs) (h : CfAt w c v) (word : List UInt8) (lo hi : Int) (fN : Nat) (s : Sl) (cs : List Ck) (hcs : RowsAt w 2 ckP s cs) (names : List (List UInt8))
  (egN : ∀ args W,(callFunc fN args).run Tryz.prog W = .ok (.enter fN args) W) (cN : ∀ W,Below w.heap.size w W → Calls Tryz.prog fN #[.agg (cfC c v)] W fun e w' => qaa W names e w')
  (B : Nat → Nat → Bool) (egC : ∀ x ∈ cs, ∀ args W,(callFunc x.f args).run Tryz.prog W = .ok (.enter x.f args) W)
  (cC : ∀ (j k : Nat) (x : Ck),j < names.length → cs[k]? = some x → (∀ k',k' < k → B k' j = true) → ∀ W,Below w.heap.size w W → Calls Tryz.prog x.f (#[.agg (cfC c v),I j] ++ x.caps) W fun e w' => Ans W (B k j) e w') :
  Calls Tryz.prog 124 #[.agg (kdC word lo hi fN s), .agg (cfC c v)] w fun e w' => qaz w word (qai names lo hi cs B) e w' := by
 have hi18 : (Tryz.prog.info? 47).map (·.size) = some (cfC c v).size := by rw [show (cfC c v).size = 18 from rfl]; kernel_rfl
 have hV0 := qaj w (.cells (kdC word lo hi fN s) 199) (.cells (cfC c v) 47)
 have hK0 : ((w.alloc (.cells (kdC word lo hi fN s) 199)).alloc (.cells (cfC c v) 47)).heap[w.heap.size]? = some (.cells (kdC word lo hi fN s) 199 (0,0)) := by
  rw [heap_alloc_old (w.alloc _) _ (by simp)]; exact heap_alloc_new w _
 have hbw := (qa0 w (.cells (kdC word lo hi fN s) 199)).trans ((qa0 (w.alloc (.cells (kdC word lo hi fN s) 199)) (.cells (cfC c v) 47)).mono (qa0 w _).size)
 have hsz : ((w.alloc (.cells (kdC word lo hi fN s) 199)).alloc (.cells (cfC c v) 47)).heap.size = w.heap.size + 2 := by simp
 obtain ⟨R,hR⟩ : ∃ R,R = qai names lo hi cs B := ⟨_,rfl⟩
 rw [← hR]
 unfold qai at hR
 have HR : Hid (R = _) := hR
 clear hR
 generalize cfC c v = C at *
 unfold kdC at *
 go_enter Tryz.func124,Tryz.ntmps124
 go_wp2_with (refine wpList_load_row rfl 47 _ rfl (w.heap.size + 1) rfl 47 _ (0,0) _ hV0 Tryz.underlying47 rfl hi18 ?_)
 refine (cN _ hbw).mono ?_
 rintro e w1 ⟨ns,rfl,hns,hb1⟩
 have hV1 := (hb1.block _ (qa1 hV0)).trans hV0
 have hK1 := (hb1.block _ (qa1 hK0)).trans hK0
 have hbw1 := hbw.trans (hb1.mono hbw.size)
 have hs1 := hb1.size
 have hgr : w.heap.size + 1 < w1.heap.size := by omega
 have HNN : Hid (ns.n = names.length) := hns.n
 have hnm : ns.c ≤ maxLen := hns.m
 have hnc : ns.n ≤ ns.c := hns.c
 unfold maxLen at hnm
 have kk := fun W (hW : Below w1.heap.size w1 W) i => (cell_of_row W w.heap.size i _ _ (0,0) ((hW.block _ (qa1 hK1)).trans hK1))
 have k0 := fun W hW => kk W hW 0
 have k1 := fun W hW => kk W hW 1
 have k2 := fun W hW => kk W hW 2
 have k4 := fun W hW => kk W hW 4
 simp at k0 k1 k2 k4
 have l0 := k0 w1 (Below.refl _ _)
 have l1 := k1 w1 (Below.refl _ _)
 have l2 := k2 w1 (Below.refl _ _)
 have cw := qbs ns.n lo hi
 clear hV0 hK0 hb1 hbw cN egN hsz kk
 cases hin : inR ns.n lo hi with
 | false =>
  have HE : Hid (R = some (71,0)) := by show _ = _; rw [HR.out, ← HNN.out,hin]; rfl
  rw [hin] at cw
  have cr := qee 71 word 0 w1
  clear HR
  go_wp2_with (first | (go_at_call 193; refine (cw _).mono ?_; rintro e w' ⟨rfl,rfl⟩) | (go_at_call 194; refine cr.mono ?_; rintro e w2 ⟨b2,rfl,hr2,hr3,hr4⟩))
  go_ret
  show qaz w word R _ _
  rw [HE.out]
  exact qc4 ⟨b2,rfl,hr2,hr3,hr4⟩ hbw1
 | true =>
  have HE : Hid (R = qaw (objF names cs B) ns.n 0) := by show _ = _; rw [HR.out, ← HNN.out,hin]; rfl
  rw [hin] at cw
  clear HR
  go_wp2_with (first | (go_at_call 193; refine (cw _).mono ?_; rintro e w' ⟨rfl,hq⟩; replace hq := hq.symm; subst hq))
  clear l0 l1 l2 cw
  go_loopw [6,7,27] (fun _ _ iv wr => ∃ j : Nat,j ≤ ns.n ∧ iv = .int .i64 j ∧ Hid (Below w1.heap.size w1 wr ∧ R = qaw (objF names cs B) (ns.n - j) j)) (fun _ _ iv _ => ns.n - (intOf iv).toNat)
  case atStart => exact ⟨0,by omega,rfl,Below.refl _ _,HE.out⟩
  case round =>
   clear HE
   obtain ⟨j,hj,rfl,HJ⟩ := hrel
   obtain ⟨hB,hRj⟩ := HJ.out
   have HRj : Hid (R = qaw (objF names cs B) (ns.n - j) j) := hRj
   clear HJ hRj
   have hbwr := hbw1.trans (hB.mono hbw1.size)
   by_cases hlt : j < ns.n
   ·have hlt' : (j : Int) < ns.n := by omega
    have hjl : j < names.length := by rw [← HNN.out]; exact hlt
    obtain ⟨nm,hnmj⟩ : ∃ x,names[j]? = some x := ⟨_,List.getElem?_eq_getElem hjl⟩
    obtain ⟨g,off,e,hg,hcn⟩ := qfo (hns.below hB (fun _ _ _ _ h => h)) hnmj
    have hjc : j ≤ ns.c := by omega
    have hc0 : ¬ ns.c = 0 := by omega
    have hTk : RowsAt wr 1 strP ⟨some ⟨g,off,none⟩,j,ns.c⟩ (names.take j) := by
     have h9 := hns.below hB (fun _ _ _ _ h => h)
     refine ⟨by rw [List.length_take]; show j = _; omega,hjc,hns.m,fun k x hk => ?_⟩
     rw [List.getElem?_take] at hk
     split at hk
     ·obtain ⟨g',off',e',r⟩ := h9.row k x hk
      rw [e] at e'
      cases e'
      exact ⟨g,off,rfl,r⟩
     ·cases hk
    have ci := qjp nm
    have cc := qk7 wr ⟨some ⟨g,off,none⟩,j,ns.c⟩ (names.take j) hTk nm
    have cr := qee 72 word j wr
    have HO : Hid (objF names cs B j = if (!isNm nm || hasS (names.take j) nm) = true then some 72 else qab cs 0 (fun k => B k j)) := by show _ = _; unfold objF; rw [hnmj]
    have HS : Hid (R = match objF names cs B j with | some c => some (c,(j : Int)) | none => qaw (objF names cs B) (ns.n - (j + 1)) (j + 1)) := by
     show _ = _
     rw [HRj.out,show ns.n - j = (ns.n - (j + 1)) + 1 by omega,qaw]
    have m0 := k0 wr hB
    have m4 := k4 wr hB
    dsimp only at cc
    clear hnmj hTk HRj
    generalize isNm nm = b1 at *
    generalize hasS (names.take j) nm = b2 at *
    cases hb12 : (!b1 || b2) with
    | true =>
     have HE : Hid (R = some (72,(j : Int))) := by show _ = _; rw [HS.out,HO.out,hb12]; rfl
     clear HS HO
     cases b1 with
     | false =>
      rw [e]
      go_wp2_with (first | (go_at_call 195; refine (ci _).mono ?_; rintro e w' ⟨rfl,hq⟩; replace hq := hq.symm; subst hq) | (go_at_call 196; refine cc.mono ?_; rintro e w' ⟨rfl,hq⟩; replace hq := hq.symm; subst hq) | (go_at_call 194; refine cr.mono ?_; rintro e w2 ⟨b2,rfl,hr2,hr3,hr4⟩))
      go_ret
      show qaz w word R _ _
      rw [HE.out]
      exact qc4 ⟨_,rfl,hr2,hr3,hr4⟩ hbwr
     | true =>
      obtain rfl : b2 = true := by simpa using hb12
      rw [e]
      go_wp2_with (first | (go_at_call 195; refine (ci _).mono ?_; rintro e w' ⟨rfl,hq⟩; replace hq := hq.symm; subst hq) | (go_at_call 196; refine cc.mono ?_; rintro e w' ⟨rfl,hq⟩; replace hq := hq.symm; subst hq) | (go_at_call 194; refine cr.mono ?_; rintro e w2 ⟨b2,rfl,hr2,hr3,hr4⟩))
      go_ret
      show qaz w word R _ _
      rw [HE.out]
      exact qc4 ⟨_,rfl,hr2,hr3,hr4⟩ hbwr
    | false =>
     obtain ⟨rfl,rfl⟩ : b1 = true ∧ b2 = false := by simpa using hb12
     have HE : Hid (R = match qab cs 0 (fun k => B k j) with | some c => some (c,(j : Int)) | none => qaw (objF names cs B) (ns.n - (j + 1)) (j + 1)) := by show _ = _; rw [HS.out,HO.out,hb12]; rfl
     clear HS HO hb12 cr
     rw [e]
     go_wp2_with (first | (go_at_call 195; refine (ci _).mono ?_; rintro e w' ⟨rfl,hq⟩; replace hq := hq.symm; subst hq) | (go_at_call 196; refine cc.mono ?_; rintro e w' ⟨rfl,hq⟩; replace hq := hq.symm; subst hq))
     have hsc : s.n ≤ s.c := hcs.c
     have hsm : s.c ≤ maxLen := hcs.m
     have HSN : Hid (s.n = cs.length) := hcs.n
     unfold maxLen at hsm
     clear cc m0 m4 hcn hg
     go_loopw [9,49] (fun _ iv wq => ∃ k : Nat,k ≤ s.n ∧ iv = .int .i64 k ∧ Hid (Below w1.heap.size w1 wq ∧ qab cs 0 (fun k => B k j) = qab (cs.drop k) k (fun k => B k j) ∧ ∀ k',k' < k → B k' j = true)) (fun _ iv _ => s.n - (intOf iv).toNat)
     case atStart => exact ⟨0,by omega,rfl,hB,rfl,fun k' h => absurd h (Nat.not_lt_zero _)⟩
     case round =>
      clear hB hbwr
      obtain ⟨k,hk,rfl,HK⟩ := hrel
      obtain ⟨hB,hFk,hAk⟩ := HK.out
      have HFk : Hid (qab cs 0 (fun k => B k j) = qab (cs.drop k) k (fun k => B k j)) := hFk
      clear HK hFk
      have hbwr := hbw1.trans (hB.mono hbw1.size)
      by_cases hkl : k < s.n
      ·have hkl' : (k : Int) < s.n := by omega
       have hkc : k < cs.length := by rw [← HSN.out]; exact hkl
       obtain ⟨x,hx⟩ : ∃ x,cs[k]? = some x := ⟨_,List.getElem?_eq_getElem hkc⟩
       obtain ⟨g2,off2,e2,hg2,hrow⟩ := (hcs.below hbwr (fun _ _ _ _ h => h)).row k x hx
       obtain ⟨u0,y0,z0⟩ := hrow 0 (by omega)
       obtain ⟨u1,y1,z1⟩ := hrow 1 (by omega)
       obtain rfl : u0 = I x.code := z0
       obtain rfl : u1 = .func (.func x.f) #[] x.caps := z1
       rw [Nat.add_zero] at y0
       have hng2 : g2 ≠ wr.heap.size := by omega
       have hst : (storeCells ⟨wr.heap.size,0,none⟩ [I x.code, .func (.func x.f) #[] x.caps] 0).run Tryz.prog (wr.alloc (.cells #[.int .i64 0, .nilFunc] 254)) = .ok () (wr.alloc (.cells #[I x.code, .func (.func x.f) #[] x.caps] 254)) :=
        run_storeCells_new (P := Tryz.prog) wr 254 #[.int .i64 0, .nilFunc] #[I x.code, .func (.func x.f) #[] x.caps] (by kernel_rfl) rfl (by simp [Value.oneCell'])
       have hal := qa0 wr (.cells #[I x.code, .func (.func x.f) #[] x.caps] 254)
       have hVx := (hal.block _ (qa1 ((hB.block _ (qa1 hV1)).trans hV1))).trans ((hB.block _ (qa1 hV1)).trans hV1)
       have hXx := heap_alloc_new wr (.cells #[I x.code, .func (.func x.f) #[] x.caps] 254)
       have egx := egC x (List.mem_of_getElem? hx)
       have m4 := k4 wr hB
       have cx := cC j k x hjl hx hAk (wr.alloc (.cells #[I x.code, .func (.func x.f) #[] x.caps] 254)) (hbwr.trans (hal.mono hbwr.size))
       rw [e2] at *
       go_wp2_with (refine wpList_load_row rfl 47 _ rfl (w.heap.size + 1) rfl 47 _ (0,0) _ hVx Tryz.underlying47 rfl hi18 ?_)
       refine cx.mono ?_
       rintro e5 w5 ⟨rfl,hb5⟩
       have hB5 : Below w1.heap.size w1 w5 := (hB.trans (hal.mono hB.size)).trans (hb5.mono (Nat.le_trans hB.size hal.size))
       have hX5 := (hb5.block _ (qa1 hXx)).trans hXx
       have y5 : w5.cell? ⟨wr.heap.size,0,none⟩ = some (I x.code) := cell_of_row w5 wr.heap.size 0 _ _ (0,0) hX5
       have n0 := k0 w5 hB5
       have HD : Hid (qab cs 0 (fun k => B k j) = if B k j = true then qab (cs.drop (k + 1)) (k + 1) (fun k => B k j) else some x.code) := by
        show _ = _
        rw [HFk.out,List.drop_eq_getElem_cons hkc,qab]
        rw [List.getElem?_eq_getElem hkc] at hx
        rw [Option.some.inj hx]
       have hAk2 : Hid (B k j = true → ∀ k',k' < k + 1 → B k' j = true) := fun hb k' hk' => by
        by_cases ek : k' < k
        ·exact hAk k' ek
        ·obtain rfl : k' = k := by omega
         exact hb
       clear cx hst hVx hXx hX5 hal hb5 y0 y1 egx m4 HFk hx hkc hrow hAk
       cases hbk : B k j with
       | true =>
        have HD2 : Hid (qab cs 0 (fun k => B k j) = qab (cs.drop (k + 1)) (k + 1) (fun k => B k j)) := by show _ = _; rw [HD.out,hbk]; rfl
        have hAk3 := hAk2.out hbk
        have HA3 : Hid (∀ k',k' < k + 1 → B k' j = true) := hAk3
        clear HD hAk2 hAk3
        go_wp2
        go_roundw
        case rel => exact ⟨k + 1,by omega,by go_num,hB5,HD2.out,HA3.out⟩
        case measure => simp [intOf]; omega
       | false =>
        have HE2 : Hid (R = some (x.code,(j : Int))) := by show _ = _; rw [HE.out,HD.out,hbk]; rfl
        have cr := qee x.code word j w5
        clear HD hAk2 HE
        go_wp2_with (first | (go_at_call 194; refine cr.mono ?_; rintro e w6 ⟨b6,rfl,hr2,hr3,hr4⟩))
        go_ret
        show qaz w word R _ _
        rw [HE2.out]
        exact qc4 ⟨_,rfl,hr2,hr3,hr4⟩ (hbw1.trans (hB5.mono hbw1.size))
      ·obtain rfl : k = s.n := by omega
       have hkl' : ¬ ((s.n : Nat) : Int) < (s.n : Nat) := by omega
       have HE2 : Hid (R = qaw (objF names cs B) (ns.n - (j + 1)) (j + 1)) := by
        show _ = _
        rw [HE.out,HFk.out,List.drop_eq_nil_of_le (by rw [← HSN.out]; exact Nat.le_refl _),qab]
       clear hAk HFk HE
       go_wp2
       go_roundw
       case rel => exact ⟨j + 1,by omega,by go_num,hB,HE2.out⟩
       case measure => simp [intOf]; omega
   ·obtain rfl : j = ns.n := by omega
    have hlt' : ¬ ((ns.n : Nat) : Int) < (ns.n : Nat) := by omega
    have HE : Hid (R = none) := by show _ = _; rw [HRj.out,Nat.sub_self,qaw]
    go_wp2
    go_ret
    show qaz w word R _ _
    rw [HE.out]
    exact ⟨rfl,hbwr⟩
def byB {α : Type} (l : List α) (B : Nat → α → Nat → Bool) (k j : Nat) : Bool := match l[j]? with | some x => B j x k | none => true
theorem qbe {α : Type} {l : List α} {B : Nat → α → Nat → Bool} {k j : Nat} {x : α} (h : l[j]? = some x) : byB l B k j = B j x k := by unfold byB; rw [h]
theorem qdm {α : Type} {l : List α} {k n : Nat} {x : α} (h : l[k]? = some x) (hn : l.length = n) : k < n := by have := (List.getElem?_eq_some_iff.1 h).1; omega
theorem and4 {a b c d : Bool} (h : (a && b && c && d) = true) : a = true ∧ b = true ∧ c = true ∧ d = true := by simpa [and_assoc] using h
theorem and2 {a b : Bool} (h : (a && b) = true) : a = true ∧ b = true := by simpa using h
theorem qk8 {w : World} {c : Cf} {v : Vs} (h : CfAt w c v) {a : Ac} (ho : objB c a = true) : uE a.kind = true → isId a.task v.t.n = true := fun hu => by
 rw [h.t.n]
 have h1 := (and2 ho).1
 have h2 : uT a.kind = true := by unfold uE at hu; unfold uT; rw [hu]; simp
 rw [h2] at h1
 simpa using h1
theorem qtb {k : Bool} {a b : Bool} (h : (k || (a && b)) = true) : k = true ∨ a = true := by
 cases k with
 | true => exact .inl rfl
 | false => exact .inr (and2 (by simpa using h)).1
def resQ (c : Cf) (j : Nat) (x : Rs) : Nat → Bool
 | 0 => inR x.kind 1 3
 | 1 => x.kind == 2 || x.link == 0
 | 2 => isId x.link c.ress.length
 | _ => x.kind != 2 || (decide (0 ≤ rootF c c.ress.length j) && rkind c (rootF c c.ress.length j) == 1)
theorem qrh (w : World) (c : Cf) (v : Vs) (h0 : CfAt w c v) (hl : c.ress.length ≤ 8796093022208) (word : List UInt8) (lo hi : Int) (s : Sl) (hcs : RowsAt w 2 ckP s qaq) :
  Calls Tryz.prog 124 #[.agg (kdC word lo hi 179 s), .agg (cfC c v)] w fun e w' => qaz w word (qai (c.ress.map fun x => x.name) lo hi qaq (byB c.ress (resQ c))) e w' := by
 refine qc5 w c v h0 word lo hi _ s _ hcs _ (enters_of Tryz.func179 (by kernel_rfl) rfl) (fun W hW => qfy W c v (h0.below hW) hl) _ ?_ ?_
 ·intro x hx
  simp only [qaq,List.mem_cons,List.not_mem_nil,or_false] at hx
  rcases hx with rfl | rfl | rfl | rfl
  ·exact enters_of Tryz.func218 (by kernel_rfl) rfl
  ·exact enters_of Tryz.func219 (by kernel_rfl) rfl
  ·exact enters_of Tryz.func220 (by kernel_rfl) rfl
  ·exact enters_of Tryz.func221 (by kernel_rfl) rfl
 ·intro j k y hj hk hpre W hWb
  rw [List.length_map] at hj
  obtain ⟨x,hx⟩ : ∃ x,c.ress[j]? = some x := ⟨_,List.getElem?_eq_getElem hj⟩
  have hW := h0.below hWb
  have h := hW
  have hp : ∀ k',k' < k → resQ c j x k' = true := fun k' h' => by rw [← qbe (B := resQ c) hx]; exact hpre k' h'
  have hQ : byB c.ress (resQ c) k j = resQ c j x k := qbe hx
  rw [hQ]
  have hkn : k < 4 := qdm hk rfl
  have hk2 : k = 0 ∨ k = 1 ∨ k = 2 ∨ k = 3 := by omega
  rcases hk2 with rfl | rfl | rfl | rfl
  ·obtain rfl := Option.some.inj hk
   have t := qeu W c v hW j x hx
   exact t
  ·obtain rfl := Option.some.inj hk
   have t := qht W c v hW j x hx
   exact t
  ·obtain rfl := Option.some.inj hk
   have t := qjq W c v hW j x hx
   rw [h.r.n] at t
   exact t
  ·obtain rfl := Option.some.inj hk
   have t := qjr W c v hW j x hx
   exact t
def evQ (c : Cf) (j : Nat) (x : Ev) : Nat → Bool
 | _ => (x.mask : Int) != 0
theorem qtc (w : World) (c : Cf) (v : Vs) (h0 : CfAt w c v) (hl : c.evs.length ≤ 8796093022208) (word : List UInt8) (lo hi : Int) (s : Sl) (hcs : RowsAt w 2 ckP s qb0) :
  Calls Tryz.prog 124 #[.agg (kdC word lo hi 181 s), .agg (cfC c v)] w fun e w' => qaz w word (qai (c.evs.map fun x => x.name) lo hi qb0 (byB c.evs (evQ c))) e w' := by
 refine qc5 w c v h0 word lo hi _ s _ hcs _ (enters_of Tryz.func181 (by kernel_rfl) rfl) (fun W hW => qi0 W c v (h0.below hW) hl) _ ?_ ?_
 ·intro x hx
  simp only [qb0,List.mem_cons,List.not_mem_nil,or_false] at hx
  subst hx
  exact enters_of Tryz.func224 (by kernel_rfl) rfl
 ·intro j k y hj hk hpre W hWb
  rw [List.length_map] at hj
  obtain ⟨x,hx⟩ : ∃ x,c.evs[j]? = some x := ⟨_,List.getElem?_eq_getElem hj⟩
  have hW := h0.below hWb
  have h := hW
  have hp : ∀ k',k' < k → evQ c j x k' = true := fun k' h' => by rw [← qbe (B := evQ c) hx]; exact hpre k' h'
  have hQ : byB c.evs (evQ c) k j = evQ c j x k := qbe hx
  rw [hQ]
  have hkn : k < 1 := qdm hk rfl
  obtain rfl : k = 0 := by omega
  obtain rfl := Option.some.inj hk
  have t := qhu W c v hW j x hx
  exact t
def tkQ (c : Cf) (j : Nat) (x : Tk) : Nat → Bool
 | 0 => inR x.prio 0 63 && inR x.act 1 255
 | 1 => risF (-1) x.auto c.modes.length && risF (-1) x.res c.ress.length && risF (-1) x.evs c.evs.length && risF (-1) x.msgs c.msgs.length
 | 2 => decide ((x.evs.length : Int) ≤ 32)
 | 3 => !extL c j || x.act == 1
 | 4 => decide ((intN c x.res : Int) ≤ 1)
 | _ => qav c 0 x.evs
theorem qtd (w : World) (c : Cf) (v : Vs) (h0 : CfAt w c v) (hl : c.tasks.length ≤ 8796093022208) (word : List UInt8) (lo hi : Int) (s : Sl) (hcs : RowsAt w 2 ckP s qb3) :
  Calls Tryz.prog 124 #[.agg (kdC word lo hi 183 s), .agg (cfC c v)] w fun e w' => qaz w word (qai (c.tasks.map fun x => x.name) lo hi qb3 (byB c.tasks (tkQ c))) e w' := by
 refine qc5 w c v h0 word lo hi _ s _ hcs _ (enters_of Tryz.func183 (by kernel_rfl) rfl) (fun W hW => qiy W c v (h0.below hW) hl) _ ?_ ?_
 ·intro x hx
  simp only [qb3,List.mem_cons,List.not_mem_nil,or_false] at hx
  rcases hx with rfl | rfl | rfl | rfl | rfl | rfl
  ·exact enters_of Tryz.func227 (by kernel_rfl) rfl
  ·exact enters_of Tryz.func228 (by kernel_rfl) rfl
  ·exact enters_of Tryz.func229 (by kernel_rfl) rfl
  ·exact enters_of Tryz.func230 (by kernel_rfl) rfl
  ·exact enters_of Tryz.func231 (by kernel_rfl) rfl
  ·exact enters_of Tryz.func232 (by kernel_rfl) rfl
 ·intro j k y hj hk hpre W hWb
  rw [List.length_map] at hj
  obtain ⟨x,hx⟩ : ∃ x,c.tasks[j]? = some x := ⟨_,List.getElem?_eq_getElem hj⟩
  have hW := h0.below hWb
  have h := hW
  have hp : ∀ k',k' < k → tkQ c j x k' = true := fun k' h' => by rw [← qbe (B := tkQ c) hx]; exact hpre k' h'
  have hQ : byB c.tasks (tkQ c) k j = tkQ c j x k := qbe hx
  rw [hQ]
  have hkn : k < 6 := qdm hk rfl
  have hk2 : k = 0 ∨ k = 1 ∨ k = 2 ∨ k = 3 ∨ k = 4 ∨ k = 5 := by omega
  rcases hk2 with rfl | rfl | rfl | rfl | rfl | rfl
  ·obtain rfl := Option.some.inj hk
   have t := qf1 W c v hW j x hx
   exact t
  ·obtain rfl := Option.some.inj hk
   have t := qft W c v hW j x hx
   rw [h.m.n] at t
   rw [h.r.n] at t
   rw [h.e.n] at t
   rw [h.s.n] at t
   exact t
  ·obtain rfl := Option.some.inj hk
   have t := qfu W c v hW j x hx
   exact t
  ·obtain rfl := Option.some.inj hk
   have t := qeb W c v hW j x hx
   exact t
  ·obtain rfl := Option.some.inj hk
   have t := qh0 W c v hW j x hx (by rw [h.r.n]; exact qba (and4 (hp 1 (by omega))).2.1)
   exact t
  ·obtain rfl := Option.some.inj hk
   have t := qfv W c v hW j x hx (by rw [h.e.n]; exact qba (and4 (hp 1 (by omega))).2.2.1)
   exact t
def ctQ (c : Cf) (j : Nat) (x : Ct) : Nat → Bool
 | _ => inR x.max 1 2147483647 && inR x.base 1 2147483647 && inR x.min 1 x.max
theorem qte (w : World) (c : Cf) (v : Vs) (h0 : CfAt w c v) (hl : c.ctrs.length ≤ 8796093022208) (word : List UInt8) (lo hi : Int) (s : Sl) (hcs : RowsAt w 2 ckP s qat) :
  Calls Tryz.prog 124 #[.agg (kdC word lo hi 185 s), .agg (cfC c v)] w fun e w' => qaz w word (qai (c.ctrs.map fun x => x.name) lo hi qat (byB c.ctrs (ctQ c))) e w' := by
 refine qc5 w c v h0 word lo hi _ s _ hcs _ (enters_of Tryz.func185 (by kernel_rfl) rfl) (fun W hW => qgf W c v (h0.below hW) hl) _ ?_ ?_
 ·intro x hx
  simp only [qat,List.mem_cons,List.not_mem_nil,or_false] at hx
  subst hx
  exact enters_of Tryz.func235 (by kernel_rfl) rfl
 ·intro j k y hj hk hpre W hWb
  rw [List.length_map] at hj
  obtain ⟨x,hx⟩ : ∃ x,c.ctrs[j]? = some x := ⟨_,List.getElem?_eq_getElem hj⟩
  have hW := h0.below hWb
  have h := hW
  have hp : ∀ k',k' < k → ctQ c j x k' = true := fun k' h' => by rw [← qbe (B := ctQ c) hx]; exact hpre k' h'
  have hQ : byB c.ctrs (ctQ c) k j = ctQ c j x k := qbe hx
  rw [hQ]
  have hkn : k < 1 := qdm hk rfl
  obtain rfl : k = 0 := by omega
  obtain rfl := Option.some.inj hk
  have t := qgz W c v hW j x hx
  exact t
def qah (bo : Nat) : List Ck := [⟨73,239,#[]⟩,⟨74,279,#[.pointer (some ⟨bo,0,none⟩)]⟩,⟨74,281,#[.pointer (some ⟨bo,0,none⟩)]⟩,⟨73,283,#[.pointer (some ⟨bo,0,none⟩)]⟩,⟨70,285,#[.pointer (some ⟨bo,0,none⟩)]⟩,⟨72,287,#[.pointer (some ⟨bo,0,none⟩)]⟩,⟨73,242,#[]⟩,⟨74,243,#[]⟩]
def alQ (c : Cf) (j : Nat) (x : Al) : Nat → Bool
 | 0 => isId x.ctr c.ctrs.length
 | 1 => inR x.ac.kind 1 3
 | 2 => qaf x.ac
 | 3 => objB c x.ac
 | 4 => ownB c x.ac
 | 5 => calB x.ac
 | 6 => risF (-1) x.auto c.modes.length
 | _ => qcv c x
theorem qtf (w : World) (c : Cf) (v : Vs) (h0 : CfAt w c v) (hl : c.als.length ≤ 8796093022208) (word : List UInt8) (lo hi : Int) (s : Sl) (bo : Nat) (hbo : w.cell? ⟨bo,0,none⟩ = some (.func (.func 241) #[] #[])) (hcs : RowsAt w 2 ckP s (qah bo)) :
  Calls Tryz.prog 124 #[.agg (kdC word lo hi 187 s), .agg (cfC c v)] w fun e w' => qaz w word (qai (c.als.map fun x => x.name) lo hi (qah bo) (byB c.als (alQ c))) e w' := by
 refine qc5 w c v h0 word lo hi _ s _ hcs _ (enters_of Tryz.func187 (by kernel_rfl) rfl) (fun W hW => qi1 W c v (h0.below hW) hl) _ ?_ ?_
 ·intro x hx
  simp only [qah,List.mem_cons,List.not_mem_nil,or_false] at hx
  rcases hx with rfl | rfl | rfl | rfl | rfl | rfl | rfl | rfl
  ·exact enters_of Tryz.func239 (by kernel_rfl) rfl
  ·exact enters_of Tryz.func279 (by kernel_rfl) rfl
  ·exact enters_of Tryz.func281 (by kernel_rfl) rfl
  ·exact enters_of Tryz.func283 (by kernel_rfl) rfl
  ·exact enters_of Tryz.func285 (by kernel_rfl) rfl
  ·exact enters_of Tryz.func287 (by kernel_rfl) rfl
  ·exact enters_of Tryz.func242 (by kernel_rfl) rfl
  ·exact enters_of Tryz.func243 (by kernel_rfl) rfl
 ·intro j k y hj hk hpre W hWb
  rw [List.length_map] at hj
  obtain ⟨x,hx⟩ : ∃ x,c.als[j]? = some x := ⟨_,List.getElem?_eq_getElem hj⟩
  have hW := h0.below hWb
  have h := hW
  have hp : ∀ k',k' < k → alQ c j x k' = true := fun k' h' => by rw [← qbe (B := alQ c) hx]; exact hpre k' h'
  have hQ : byB c.als (alQ c) k j = alQ c j x k := qbe hx
  rw [hQ]
  have hkn : k < 8 := qdm hk rfl
  have ho : Of W c v j bo 241 x.ac 1 3 := ⟨by rw [qa7 hWb _ _ (World.block_lt_of_cell? w _ hbo)]; exact hbo,Nat.lt_of_lt_of_le (World.block_lt_of_cell? w _ hbo) hWb.size,enters_of Tryz.func241 (by kernel_rfl) rfl,fun W2 hW2 => qjz W2 c v (hW.below hW2) j x hx⟩
  have hk2 : k = 0 ∨ k = 1 ∨ k = 2 ∨ k = 3 ∨ k = 4 ∨ k = 5 ∨ k = 6 ∨ k = 7 := by omega
  rcases hk2 with rfl | rfl | rfl | rfl | rfl | rfl | rfl | rfl
  ·obtain rfl := Option.some.inj hk
   have t := qh1 W c v hW j x hx
   rw [h.k.n] at t
   exact t
  ·obtain rfl := Option.some.inj hk
   have t := qk0 W c v hW j bo _ x.ac 1 3 ho
   exact t
  ·obtain rfl := Option.some.inj hk
   have t := qk1 W c v hW j bo _ x.ac 1 3 ho
   exact t
  ·obtain rfl := Option.some.inj hk
   have t := qk3 W c v hW j bo _ x.ac 1 3 ho
   exact t
  ·obtain rfl := Option.some.inj hk
   have t := qk4 W c v hW j bo _ x.ac 1 3 ho (qk8 h (hp 3 (by omega)))
   exact t
  ·obtain rfl := Option.some.inj hk
   have t := qk2 W c v hW j bo _ x.ac 1 3 ho
   exact t
  ·obtain rfl := Option.some.inj hk
   have t := qf2 W c v hW j x hx
   rw [h.m.n] at t
   exact t
  ·obtain rfl := Option.some.inj hk
   have t := qfx W c v hW j x hx (by rw [h.k.n]; exact hp 0 (by omega))
   exact t
def isQ (c : Cf) (j : Nat) (x : Is) : Nat → Bool
 | 0 => inR x.cat 1 2 && inR x.prio 64 127
 | 1 => risF (-1) x.res c.ress.length && risF (-1) x.msgs c.msgs.length
 | 2 => (intN c x.res : Int) == 0
 | 3 => x.cat != 1 || ((x.res.length : Int) == 0 && (x.msgs.length : Int) == 0)
 | _ => (c.isrs.take j).all (fun a => !qan a x)
theorem qtg (w : World) (c : Cf) (v : Vs) (h0 : CfAt w c v) (hl : c.isrs.length ≤ 8796093022208) (word : List UInt8) (lo hi : Int) (s : Sl) (hcs : RowsAt w 2 ckP s qbb) :
  Calls Tryz.prog 124 #[.agg (kdC word lo hi 189 s), .agg (cfC c v)] w fun e w' => qaz w word (qai (c.isrs.map fun x => x.name) lo hi qbb (byB c.isrs (isQ c))) e w' := by
 refine qc5 w c v h0 word lo hi _ s _ hcs _ (enters_of Tryz.func189 (by kernel_rfl) rfl) (fun W hW => qk5 W c v (h0.below hW) hl) _ ?_ ?_
 ·intro x hx
  simp only [qbb,List.mem_cons,List.not_mem_nil,or_false] at hx
  rcases hx with rfl | rfl | rfl | rfl | rfl
  ·exact enters_of Tryz.func246 (by kernel_rfl) rfl
  ·exact enters_of Tryz.func247 (by kernel_rfl) rfl
  ·exact enters_of Tryz.func248 (by kernel_rfl) rfl
  ·exact enters_of Tryz.func249 (by kernel_rfl) rfl
  ·exact enters_of Tryz.func250 (by kernel_rfl) rfl
 ·intro j k y hj hk hpre W hWb
  rw [List.length_map] at hj
  obtain ⟨x,hx⟩ : ∃ x,c.isrs[j]? = some x := ⟨_,List.getElem?_eq_getElem hj⟩
  have hW := h0.below hWb
  have h := hW
  have hp : ∀ k',k' < k → isQ c j x k' = true := fun k' h' => by rw [← qbe (B := isQ c) hx]; exact hpre k' h'
  have hQ : byB c.isrs (isQ c) k j = isQ c j x k := qbe hx
  rw [hQ]
  have hkn : k < 5 := qdm hk rfl
  have hk2 : k = 0 ∨ k = 1 ∨ k = 2 ∨ k = 3 ∨ k = 4 := by omega
  rcases hk2 with rfl | rfl | rfl | rfl | rfl
  ·obtain rfl := Option.some.inj hk
   have t := qfw W c v hW j x hx
   exact t
  ·obtain rfl := Option.some.inj hk
   have t := qgd W c v hW j x hx
   rw [h.r.n] at t
   rw [h.s.n] at t
   exact t
  ·obtain rfl := Option.some.inj hk
   have t := qhv W c v hW j x hx (by rw [h.r.n]; exact qba (and2 (hp 1 (by omega))).1)
   exact t
  ·obtain rfl := Option.some.inj hk
   have t := qdp W c v hW j x hx
   exact t
  ·obtain rfl := Option.some.inj hk
   have t := qf5 W c v hW j x hx
   exact t
def qag (bo : Nat) : List Ck := [⟨74,253,#[]⟩,⟨73,254,#[]⟩,⟨74,255,#[]⟩,⟨74,279,#[.pointer (some ⟨bo,0,none⟩)]⟩,⟨74,281,#[.pointer (some ⟨bo,0,none⟩)]⟩,⟨73,283,#[.pointer (some ⟨bo,0,none⟩)]⟩,⟨70,285,#[.pointer (some ⟨bo,0,none⟩)]⟩,⟨72,287,#[.pointer (some ⟨bo,0,none⟩)]⟩]
def msQ (c : Cf) (j : Nat) (x : Ms) : Nat → Bool
 | 0 => msgF x
 | 1 => x.kind == 1 || (isId x.frm c.msgs.length && qcn c x.frm == 1)
 | 2 => x.kind == 1 || (decide ((x.init : Int) ≤ 4294967295) && fitI x.init (mlen c x.frm))
 | 3 => inR x.ac.kind 0 (if x.kind == 1 then 0 else 4)
 | 4 => qaf x.ac
 | 5 => objB c x.ac
 | 6 => ownB c x.ac
 | _ => calB x.ac
theorem qth (w : World) (c : Cf) (v : Vs) (h0 : CfAt w c v) (hl : c.msgs.length ≤ 8796093022208) (word : List UInt8) (lo hi : Int) (s : Sl) (bo : Nat) (hbo : w.cell? ⟨bo,0,none⟩ = some (.func (.func 256) #[] #[])) (hcs : RowsAt w 2 ckP s (qag bo)) :
  Calls Tryz.prog 124 #[.agg (kdC word lo hi 191 s), .agg (cfC c v)] w fun e w' => qaz w word (qai (c.msgs.map fun x => x.name) lo hi (qag bo) (byB c.msgs (msQ c))) e w' := by
 refine qc5 w c v h0 word lo hi _ s _ hcs _ (enters_of Tryz.func191 (by kernel_rfl) rfl) (fun W hW => qgg W c v (h0.below hW) hl) _ ?_ ?_
 ·intro x hx
  simp only [qag,List.mem_cons,List.not_mem_nil,or_false] at hx
  rcases hx with rfl | rfl | rfl | rfl | rfl | rfl | rfl | rfl
  ·exact enters_of Tryz.func253 (by kernel_rfl) rfl
  ·exact enters_of Tryz.func254 (by kernel_rfl) rfl
  ·exact enters_of Tryz.func255 (by kernel_rfl) rfl
  ·exact enters_of Tryz.func279 (by kernel_rfl) rfl
  ·exact enters_of Tryz.func281 (by kernel_rfl) rfl
  ·exact enters_of Tryz.func283 (by kernel_rfl) rfl
  ·exact enters_of Tryz.func285 (by kernel_rfl) rfl
  ·exact enters_of Tryz.func287 (by kernel_rfl) rfl
 ·intro j k y hj hk hpre W hWb
  rw [List.length_map] at hj
  obtain ⟨x,hx⟩ : ∃ x,c.msgs[j]? = some x := ⟨_,List.getElem?_eq_getElem hj⟩
  have hW := h0.below hWb
  have h := hW
  have hp : ∀ k',k' < k → msQ c j x k' = true := fun k' h' => by rw [← qbe (B := msQ c) hx]; exact hpre k' h'
  have hQ : byB c.msgs (msQ c) k j = msQ c j x k := qbe hx
  rw [hQ]
  have hkn : k < 8 := qdm hk rfl
  have ho : Of W c v j bo 256 x.ac 0 (if x.kind == 1 then 0 else 4) := ⟨by rw [qa7 hWb _ _ (World.block_lt_of_cell? w _ hbo)]; exact hbo,Nat.lt_of_lt_of_le (World.block_lt_of_cell? w _ hbo) hWb.size,enters_of Tryz.func256 (by kernel_rfl) rfl,fun W2 hW2 => qhz W2 c v (hW.below hW2) j x hx⟩
  have hk2 : k = 0 ∨ k = 1 ∨ k = 2 ∨ k = 3 ∨ k = 4 ∨ k = 5 ∨ k = 6 ∨ k = 7 := by omega
  rcases hk2 with rfl | rfl | rfl | rfl | rfl | rfl | rfl | rfl
  ·obtain rfl := Option.some.inj hk
   have t := qed W c v hW j x hx
   exact t
  ·obtain rfl := Option.some.inj hk
   have t := qhw W c v hW j x hx
   rw [h.s.n] at t
   exact t
  ·obtain rfl := Option.some.inj hk
   have t := qjv W c v hW j x hx (by rw [h.s.n]; exact qtb (hp 1 (by omega)))
   exact t
  ·obtain rfl := Option.some.inj hk
   have t := qk0 W c v hW j bo _ x.ac 0 _ ho
   exact t
  ·obtain rfl := Option.some.inj hk
   have t := qk1 W c v hW j bo _ x.ac 0 _ ho
   exact t
  ·obtain rfl := Option.some.inj hk
   have t := qk3 W c v hW j bo _ x.ac 0 _ ho
   exact t
  ·obtain rfl := Option.some.inj hk
   have t := qk4 W c v hW j bo _ x.ac 0 _ ho (qk8 h (hp 5 (by omega)))
   exact t
  ·obtain rfl := Option.some.inj hk
   have t := qk2 W c v hW j bo _ x.ac 0 _ ho
   exact t
theorem qti {P : Program} {t : TypeId} {z : Option Value} {s b : Nat} (h : (P.info? t).map (fun i => (i.zero,i.size,i.bytes)) = some (z,s,b)) : ∃ i,P.info? t = some i ∧ i.zero = z ∧ i.size = s ∧ i.bytes = b := by
 cases hi : P.info? t with
 | none => rw [hi] at h; cases h
 | some i =>
  rw [hi] at h
  simp at h
  exact ⟨i,rfl,h.1,h.2.1,h.2.2⟩
theorem qoz : ∃ i,Tryz.prog.info? 254 = some i ∧ i.zero = some (.agg #[.int .i64 0, .nilFunc]) ∧ i.size = 2 ∧ i.bytes = 16 :=
 qti (show (Tryz.prog.info? 254).map (fun i => (i.zero,i.size,i.bytes)) = some (some (.agg #[.int .i64 0, .nilFunc]),2,16) by kernel_rfl)
theorem qri (n : Nat) (h1 : 1 ≤ n) (h2 : n ≤ 1000) (w : World) : Calls Tryz.prog 278 #[.slice none 0 0,I n] w fun e w' => ∃ v,e = .returned v ∧ w'.ownsRow w.heap.size 254 2 v 0 [] ∧ Below w.heap.size w w' := by
 obtain ⟨i0,hi,hz,hs,hby⟩ := qoz
 have hr := fun ty => Lib.run_append_nil_zeros (P := Tryz.prog) w 197 3 ty 254 i0 _ .i64 .i64 Tryz.underlying197 Tryz.underlying3 hi hz n (by omega) (by omega) (by omega) (by rw [hby]; omega)
 have hG := grownCap_ge w n 0 254
 have hGm := grownCap_le_maxLen w n 0 254 (by unfold maxLen; omega)
 obtain ⟨G,hGe⟩ : ∃ G,G = grownCap w n 0 254 := ⟨_,rfl⟩
 rw [← hGe] at hr hG hGm
 have hsz : (Builtin.zeroCells (Value.agg #[.int .i64 0, .nilFunc]).cells n ++ Builtin.zeroCells (Value.agg #[.int .i64 0, .nilFunc]).cells (G - n)).size = G * 2 := by
  simp only [Array.size_append,size_zeroCells]
  show n * 2 + (G - n) * 2 = G * 2
  omega
 generalize Builtin.zeroCells (Value.agg #[.int .i64 0, .nilFunc]).cells n ++ Builtin.zeroCells (Value.agg #[.int .i64 0, .nilFunc]).cells (G - n) = Z at *
 have hfin : (w.drew.alloc (.cells Z 254)).ownsRow w.heap.size 254 2 (.slice (some ⟨w.heap.size,0,none⟩) 0 G) 0 [] :=
  ⟨rfl, .inr ⟨w.heap.size,G,Z,rfl,Nat.le_refl _,heap_alloc_new w.drew _,Nat.zero_le _,hGm,hsz,by simp⟩⟩
 have hbl : Below w.heap.size w (w.drew.alloc (.cells Z 254)) := ⟨rfl,rfl,rfl,by simp,fun k hk => heap_alloc_old w.drew _ hk⟩
 have hG63 : (G : Int) ≤ 9223372036854775807 := by unfold maxLen at hGm; omega
 have hn0 : ¬ ((n : Int) < 0) := by omega
 have hn1 : (n : Int) > 0 := by omega
 have hw1 : wrap64 ((n : Int) - 0) = n := by unfold wrap64; omega
 clear hGe hsz hGm
 go_enter Tryz.func278,Tryz.ntmps278
 go_wp2_with (at_builtin; refine Lib.wpList_append_run _ rfl _ _ _ _ rfl _ _ rfl rfl _ _ (hr _) ?_)
 all_goals (go_ret; exact ⟨_,rfl,hfin,hbl⟩)
theorem qtj (b o i : Nat) : (⟨b,o,none⟩ : Addr).add i = ⟨b,o + i,none⟩ := by unfold Addr.add; split <;> simp_all
def CksV (w : World) (l : List Ck) (u : Value) : Prop := ∃ g off c : Nat,u = .slice (some ⟨g,off,none⟩) l.length c ∧ RowsAt w 2 ckP ⟨some ⟨g,off,none⟩,l.length,c⟩ l
theorem qms {w : World} {s : Sl} {l : List Ck} (h : RowsAt w 2 ckP s l) (hne : l ≠ []) : CksV w l (.slice s.a s.n s.c) := by
 obtain ⟨x,t,rfl⟩ := List.exists_cons_of_ne_nil hne
 obtain ⟨g,off,e,_⟩ := h.row 0 x rfl
 obtain ⟨sa,sn,sc⟩ := s
 have hn : sn = _ := h.n
 obtain rfl : sa = _ := e
 subst hn
 exact ⟨g,off,sc,rfl,h⟩
theorem qp0 {w : World} {g off c : Nat} {l : List Ck} (h : RowsAt w 2 ckP ⟨some ⟨g,off,none⟩,l.length,c⟩ l) : ∀ j u,(l.flatMap ckC)[j]? = some u → w.cell? ((⟨g,off,none⟩ : Addr).add j) = some u := by
 intro j u hj
 have hl : (l.flatMap ckC).length = l.length * 2 := by
  clear h hj
  induction l with
  | nil => rfl
  | cons y r ih => rw [List.flatMap_cons,List.length_append,ih]; simp [ckC]; omega
 have hjl := (List.getElem?_eq_some_iff.1 hj).1
 rw [hl] at hjl
 have hq : j / 2 < l.length := by omega
 obtain ⟨x,hx⟩ : ∃ x,l[j / 2]? = some x := ⟨_,List.getElem?_eq_getElem hq⟩
 obtain ⟨g',off',e',_,hr⟩ := h.row _ x hx
 cases e'
 obtain ⟨y,hy,hp⟩ := hr (j % 2) (by omega)
 have hc := qna l (j / 2) x hx (j % 2) (by omega)
 rw [show j / 2 * 2 + j % 2 = j by omega,hj] at hc
 rw [qtj]
 rw [show off + j = off + j / 2 * 2 + j % 2 by omega,hy]
 have h01 : j % 2 = 0 ∨ j % 2 = 1 := by omega
 rcases h01 with e0 | e0
 ·rw [e0] at hp hc
  obtain rfl : y = I x.code := hp
  exact congrArg some (Option.some.inj hc).symm
 ·rw [e0] at hp hc
  obtain rfl : y = .func (.func x.f) #[] x.caps := hp
  exact congrArg some (Option.some.inj hc).symm
theorem qtk (l : List Ck) : (l.flatMap ckC).length = l.length * 2 := by
 induction l with
 | nil => rfl
 | cons y r ih => rw [List.flatMap_cons,List.length_append,ih]; simp [ckC]; omega
theorem qtl (l : List Ck) : ∀ u ∈ l.flatMap ckC,u.oneCell' = true := by
 intro u hu
 obtain ⟨x,_,hx⟩ := List.mem_flatMap.1 hu
 simp [ckC] at hx
 rcases hx with rfl | rfl <;> rfl
theorem qk9 {w : World} {base : Nat} {v : Value} {l : List Ck} (h : w.ownsRow base 254 2 v l.length (l.flatMap ckC)) (hne : l ≠ []) : ∃ s : Sl,v = .slice s.a s.n s.c ∧ RowsAt w 2 ckP s l := by
 obtain ⟨hl,⟨rfl,h0⟩ | ⟨g,cap,cur,rfl,hb1,hh,hnc,hcm,hcs,htk⟩⟩ := h
 ·exact absurd (List.eq_nil_of_length_eq_zero h0) hne
 ·refine ⟨⟨some ⟨g,0,none⟩,l.length,cap⟩,rfl,rfl,hnc,hcm,fun j x hj => ⟨g,0,rfl,qa1 hh,fun i hi => ?_⟩⟩
  have hc := qna l j x hj i hi
  have hjl := (List.getElem?_eq_some_iff.1 hj).1
  rw [← htk,List.getElem?_take,if_pos (by omega),Array.getElem?_toList] at hc
  have h1 : w.cell? ⟨g,0 + j * 2 + i,none⟩ = (ckC x)[i]? := by rw [Nat.zero_add,cell_of_row w g _ _ _ (0,0) hh]; exact hc
  have h01 : i = 0 ∨ i = 1 := by omega
  rcases h01 with rfl | rfl
  ·exact ⟨_,h1,rfl⟩
  ·exact ⟨_,h1,rfl⟩
theorem qie {l : List (List Ck)} {j : Nat} {x : List Ck} (h : l[j]? = some x) : (l.take (j + 1)).flatten = (l.take j).flatten ++ x := by
 rw [List.take_add_one,h,Option.toList_some,List.flatten_append]
 simp
theorem qtm (l : List (List Ck)) (j : Nat) : (l.take j).flatten.length ≤ l.flatten.length := by
 have h : l.flatten = (l.take j).flatten ++ (l.drop j).flatten := by rw [← List.flatten_append,List.take_append_drop]
 rw [h,List.length_append]
 omega
theorem qh3 (w : World) (s : Sl) (ls : List (List Ck)) (hS : RowsAt w 1 (fun x _ u => CksV w x u) s ls) (hne : ls.flatten ≠ []) (hlen : ls.flatten.length ≤ 1000) :
  Calls Tryz.prog 238 #[.slice s.a s.n s.c] w fun e w' => qb6 w ls.flatten e w' := by
 obtain ⟨sa,sn,sc⟩ := s
 have HN : Hid (sn = ls.length) := hS.n
 have hsc : sn ≤ sc := hS.c
 have hsm : sc ≤ maxLen := hS.m
 unfold maxLen at hsm
 have h1L : 1 ≤ ls.flatten.length := by
  rcases Nat.eq_zero_or_pos ls.flatten.length with h | h
  ·exact absurd (List.eq_nil_of_length_eq_zero h) hne
  ·exact h
 have hg := qri ls.flatten.length h1L hlen w
 have hrow : Hid (∀ (j : Nat) (x : List Ck),ls[j]? = some x → ∃ g off : Nat,sa = some ⟨g,off,none⟩ ∧ g < w.heap.size ∧ ∃ gx ox cx : Nat,w.cell? ⟨g,off + j,none⟩ = some (.slice (some ⟨gx,ox,none⟩) x.length cx) ∧ RowsAt w 2 ckP ⟨some ⟨gx,ox,none⟩,x.length,cx⟩ x) := fun j x hj => by
  obtain ⟨g,off,e,hg,hr⟩ := hS.row j x hj
  obtain ⟨u,hu,gx,ox,cx,rfl,hx⟩ := hr 0 (by omega)
  exact ⟨g,off,e,hg,gx,ox,cx,by simpa using hu,hx⟩
 have hfl : Hid (∀ j,(ls.take j).flatten.length ≤ ls.flatten.length) := qtm ls
 have HLL : Hid (ls.flatten.length ≤ 1000) := hlen
 have HNE : Hid (ls.flatten ≠ []) := hne
 clear hS
 go_enter Tryz.func238,Tryz.ntmps238
 go_wp2
 go_loopw [3,5,11] (fun n _ iv wr => ∃ j : Nat,j ≤ sn ∧ iv = .int .i64 j ∧ Hid (n = I ((ls.take j).flatten.length : Nat)) ∧ wr = w) (fun _ _ iv _ => sn - (intOf iv).toNat)
 case atStart => exact ⟨0,by omega,rfl,rfl,rfl⟩
 case round =>
  obtain ⟨j,hj,rfl,HJ,hww⟩ := hrel
  replace hww := hww.symm
  subst hww
  have hJ := HJ.out
  subst hJ
  by_cases hlt : j < sn
  ·have hlt' : (j : Int) < sn := by omega
   have hjl : j < ls.length := by rw [← HN.out]; exact hlt
   obtain ⟨x,hx⟩ : ∃ x,ls[j]? = some x := ⟨_,List.getElem?_eq_getElem hjl⟩
   obtain ⟨g,off,rfl,hgl,gx,ox,cx,hcell,hxr⟩ := hrow.out j x hx
   have hf := qie hx
   have hle := Nat.le_trans (hfl.out (j + 1)) HLL.out
   have hle0 : (ls.take j).flatten.length + x.length = (ls.take (j + 1)).flatten.length := by rw [hf,List.length_append]
   have hxm : cx ≤ maxLen := hxr.m
   have hxc : x.length ≤ cx := hxr.c
   have HQ : Hid (I ((((ls.take j).flatten.length : Nat) : Int) + ((x.length : Nat) : Int)) = I ((ls.take (j + 1)).flatten.length : Nat)) := by show _ = _; rw [← hle0]; simp
   have hq : (ls.take j).flatten.length + x.length ≤ 1000 := by omega
   have hnn : ¬ ((((ls.take j).flatten.length : Nat) : Int) + ((x.length : Nat) : Int) < 0) := by omega
   clear hf hle hle0 hxr hxm hx hrow hg hfl HJ hne hlen h1L hjl hlt hj HN HLL HNE
   generalize (ls.take j).flatten.length = q0 at *
   generalize x.length = q1 at *
   go_wp2
   go_roundw
   case rel => exact ⟨j + 1,by omega,by go_num,HQ.out,by trivial⟩
   case measure => simp [intOf]; omega
  ·obtain rfl : j = sn := by omega
   have hlt' : ¬ ((j : Nat) : Int) < (j : Nat) := by omega
   have htk : (ls.take j).flatten.length = ls.flatten.length := by rw [HN.out,List.take_length]
   rw [htk]
   clear htk HJ hlen hne h1L hj hlt
   generalize hLL : ls.flatten.length = L at hg ⊢
   have HLQ : Hid (ls.flatten.length = L) := hLL
   clear hLL
   go_wp2_with (first | (go_at_call 278; refine hg.mono ?_; rintro e w1 ⟨v0,rfl,hown,hb1⟩))
   clear hg
   go_loopw [6,8,27] (fun nv _ iv wr => ∃ i : Nat,i ≤ j ∧ iv = .int .i64 i ∧ Hid (wr.ownsRow w.heap.size 254 2 nv (ls.take i).flatten.length ((ls.take i).flatten.flatMap ckC) ∧ Below w.heap.size w wr)) (fun _ _ iv _ => j - (intOf iv).toNat)
   case atStart => exact ⟨0,by omega,rfl,hown,hb1⟩
   case round =>
    clear hown hb1
    obtain ⟨i,hi,rfl,HI⟩ := hrel
    obtain ⟨hown,hB⟩ := HI.out
    clear HI
    by_cases hlt2 : i < j
    ·have hlt3 : (i : Int) < j := by omega
     have hjl : i < ls.length := by rw [← HN.out]; exact hlt2
     obtain ⟨x,hx⟩ : ∃ x,ls[i]? = some x := ⟨_,List.getElem?_eq_getElem hjl⟩
     obtain ⟨g,off,rfl,hgl,gx,ox,cx,hcell,hxr⟩ := hrow.out i x hx
     have hf := qie hx
     have hle := Nat.le_trans (hfl.out (i + 1)) HLL.out
     have hle0 : (ls.take i).flatten.length + x.length = (ls.take (i + 1)).flatten.length := by rw [hf,List.length_append]
     have hcellr : wr.cell? ⟨g,off + i,none⟩ = some (.slice (some ⟨gx,ox,none⟩) x.length cx) := by rw [qa7 hB _ _ hgl]; exact hcell
     have hxw := qp0 (hxr.below hB (fun _ _ _ _ h => h))
     obtain ⟨i0,hi0,hz,hs,hby⟩ := qoz
     have HK : Hid (∀ v' w',w'.ownsRow w.heap.size 254 2 v' ((ls.take i).flatten.length + x.length) ((ls.take i).flatten.flatMap ckC ++ x.flatMap ckC) → wr.grownBy w' u6.ownBlock → w'.ownsRow w.heap.size 254 2 v' (ls.take (i + 1)).flatten.length ((ls.take (i + 1)).flatten.flatMap ckC) ∧ Below w.heap.size w w') := fun v' w' ho hg' => by
      refine ⟨?_,hB.grown hg' hB.size (fun k e => (hown.lt k e).1)⟩
      rw [hf,List.length_append,List.flatMap_append]
      exact ho
     have hq1 : (ls.take i).flatten.length + x.length ≤ 1000 := by omega
     have hxl := qtk x
     have hx1 := qtl x
     have hBs := hB.size
     have hxc : x.length ≤ cx := hxr.c
     clear hf hle hle0 hxr hrow hfl hcell
     go_wp2_with (at_builtin; refine wpList_append_own_wide _ rfl _ _ 197 rfl w.heap.size 254 i0 _ 2 16 Tryz.underlying197 hi0 hz hs hby rfl (by decide) u6 _ _ rfl hown ⟨gx,ox,none⟩ x.length cx _ rfl hxl hxw hx1 (by unfold maxLen; omega) (by omega) hBs ?_; intro v' w' ho hg' _)
     obtain ⟨ho2,hb2⟩ := HK.out v' w' ho hg'
     go_roundw
     case rel => exact ⟨i + 1,by omega,by go_num,ho2,hb2⟩
     case measure => simp [intOf]; omega
    ·obtain rfl : i = j := by omega
     have hlt3 : ¬ ((i : Nat) : Int) < (i : Nat) := by omega
     rw [HN.out,List.take_length] at hown
     obtain ⟨s',rfl,hs'⟩ := qk9 hown HNE.out
     have HF : Hid (RowsAt wr 2 ckP s' ls.flatten ∧ Below w.heap.size w wr) := ⟨hs',hB⟩
     clear hown hs' hB hrow hfl
     go_wp2
     go_ret
     exact ⟨s',rfl,HF.out.1,HF.out.2⟩
end Go.Proofs.YtmidaeljeoifdaaGreatDoor
