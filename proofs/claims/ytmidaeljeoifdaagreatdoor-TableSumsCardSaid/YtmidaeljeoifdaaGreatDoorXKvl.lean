import Derived.Test.YtmidaeljeoifdaaGreatDoorXKsc
import Derived.Test.YtmidaeljeoifdaaGreatDoorXKrb
import Derived.Test.YtmidaeljeoifdaaGreatDoorXKrv
import Derived.Test.YtmidaeljeoifdaaGreatDoorXKrr
import Derived.Test.YtmidaeljeoifdaaGreatDoorXKua
import Derived.Test.YtmidaeljeoifdaaGreatDoorXKvi
namespace Go.Proofs.YtmidaeljeoifdaaGreatDoor
open Go.RowKit
set_option linter.unusedSimpArgs false
set_option linter.unusedVariables false
set_option maxHeartbeats 16000000
set_option maxRecDepth 100000
def ctrE (x : Ct) : Int := if (inR x.max 1 2147483647 && inR x.base 1 2147483647 && inR x.min 1 x.max) = true then 0 else 74
theorem qkl (w : World) (c : Cf) (v : Vs) (h : CfAt w c v) (i : Nat) (x : Ct) (hi : c.ctrs[i]? = some x) :
  Calls Tryz.prog 163 #[.agg (cfC c v),I i] w fun e w' => e = .returned (I (ctrE x)) ∧ Below w.heap.size w w' := by
 have hn : v.k.n = c.ctrs.length := h.k.n
 have hlt : (i : Int) < v.k.n := by have := (List.getElem?_eq_some_iff.1 hi).1; omega
 obtain ⟨g,off,e,hg,a0,a1,a2,a3⟩ := qfm h hi
 have hne : g ≠ w.heap.size := by omega
 have hb := qa0 w
 have hb2 := fun o o' => (hb o).trans ((qa0 (w.alloc o) o').mono (hb o).size)
 have f14 : ∀ h : 14 < (cfC c v).size,(cfC c v)[14] = .slice v.k.a v.k.n v.k.c := fun _ => rfl
 have hs18 : (cfC c v).size = 18 := rfl
 generalize cfC c v = C at *
 replace f14 := f14 (by omega)
 rw [e] at f14
 clear hi hn
 obtain ⟨R,hR⟩ : ∃ R,R = ctrE x := ⟨_,rfl⟩
 rw [← hR]
 unfold ctrE inR at hR
 have HR : Hid (R = _) := hR
 clear hR
 by_cases h0 : (x.max : Int) < 1
 ·have HE : Hid (R = 74) := by show _ = _; rw [HR.out,if_neg (by simp; omega)]
  clear HR
  go_enter Tryz.func163,Tryz.ntmps163
  go_wp2
  go_ret
  exact ⟨qa3 HE.out.symm,hb2 _ _⟩
 ·skip
  by_cases h1 : 2147483647 < (x.max : Int)
  ·have HE : Hid (R = 74) := by show _ = _; rw [HR.out,if_neg (by simp; omega)]
   clear HR
   go_enter Tryz.func163,Tryz.ntmps163
   go_wp2
   go_ret
   exact ⟨qa3 HE.out.symm,hb2 _ _⟩
  ·skip
   by_cases h2 : (x.base : Int) < 1
   ·have HE : Hid (R = 74) := by show _ = _; rw [HR.out,if_neg (by simp; omega)]
    clear HR
    go_enter Tryz.func163,Tryz.ntmps163
    go_wp2
    go_ret
    exact ⟨qa3 HE.out.symm,hb2 _ _⟩
   ·skip
    by_cases h3 : 2147483647 < (x.base : Int)
    ·have HE : Hid (R = 74) := by show _ = _; rw [HR.out,if_neg (by simp; omega)]
     clear HR
     go_enter Tryz.func163,Tryz.ntmps163
     go_wp2
     go_ret
     exact ⟨qa3 HE.out.symm,hb2 _ _⟩
    ·skip
     by_cases h4 : (x.min : Int) < 1
     ·have HE : Hid (R = 74) := by show _ = _; rw [HR.out,if_neg (by simp; omega)]
      clear HR
      go_enter Tryz.func163,Tryz.ntmps163
      go_wp2
      go_ret
      exact ⟨qa3 HE.out.symm,hb2 _ _⟩
     ·skip
      by_cases h5 : (x.max : Int) < (x.min : Int)
      ·have HE : Hid (R = 74) := by show _ = _; rw [HR.out,if_neg (by simp; omega)]
       clear HR
       go_enter Tryz.func163,Tryz.ntmps163
       go_wp2
       go_ret
       exact ⟨qa3 HE.out.symm,hb2 _ _⟩
      ·skip
       have HE : Hid (R = 0) := by show _ = _; rw [HR.out,if_pos (by simp; omega)]
       clear HR
       go_enter Tryz.func163,Tryz.ntmps163
       go_wp2
       go_ret
       exact ⟨qa3 HE.out.symm,hb2 _ _⟩
theorem qro (w : World) (s : Sl) (l : List Int) (h : RowsAt w 1 intP s l) (x : Int) : Calls Tryz.prog 270 #[.slice s.a s.n s.c,I x] w fun e w' => e = .returned (.bool (hasL l x)) ∧ w' = w := by
 obtain ⟨sa,sn,sc⟩ := s
 have HN : Hid (sn = l.length) := h.n
 have hc : sn ≤ sc := h.c
 have hm : sc ≤ maxLen := h.m
 dsimp only
 unfold maxLen at hm
 go_enter Tryz.func270,Tryz.ntmps270
 go_wp2
 go_loop [5] (fun i => ∃ j : Nat,j ≤ sn ∧ i = .int .i64 j ∧ Hid (hasL l x = hasL (l.drop j) x)) (fun i => sn - (intOf i).toNat)
 case atStart => exact ⟨0,by omega,rfl,rfl⟩
 case round =>
  obtain ⟨j,hj,rfl,HR⟩ := hrel
  by_cases hlt : j < sn
  ·have hlt' : (j : Int) < sn := by omega
   have hjl : j < l.length := by rw [← HN.out]; exact hlt
   obtain ⟨y,hy⟩ : ∃ y,l[j]? = some y := ⟨l[j],List.getElem?_eq_getElem hjl⟩
   obtain ⟨g,off,e,hg,hcx⟩ := qau h hy
   dsimp only at e
   subst e
   have HE : Hid (hasL l x = ((x == y) || hasL (l.drop (j + 1)) x)) := by
    show _ = _
    rw [HR.out,List.drop_eq_getElem_cons hjl]
    rw [List.getElem?_eq_getElem hjl] at hy
    rw [Option.some.inj hy]
    rfl
   clear hy hjl HR
   cases hk : y == x with
   | true =>
    have HE2 : Hid (hasL l x = true) := by show _ = _; rw [HE.out,show (x == y) = true by rw [beq_iff_eq] at hk ⊢; exact hk.symm]; rfl
    clear HE
    go_wp2
    go_ret
    exact ⟨qa4 HE2.out.symm,rfl⟩
   | false =>
    have HE2 : Hid (hasL l x = hasL (l.drop (j + 1)) x) := by show _ = _; rw [HE.out,show (x == y) = false by rw [beq_eq_false_iff_ne] at hk ⊢; exact fun e => hk e.symm]; rfl
    clear HE
    go_wp2
    go_round
    case rel => exact ⟨j + 1,by omega,by go_num,HE2⟩
    case measure => simp [intOf]; omega
  ·obtain rfl : j = sn := by omega
   have hlt' : ¬ (j : Int) < j := by omega
   have HE2 : Hid (hasL l x = false) := by show _ = _; rw [HR.out,List.drop_eq_nil_of_le (by rw [← HN.out]; exact Nat.le_refl _)]; rfl
   go_wp2
   go_ret
   exact ⟨qa4 HE2.out.symm,rfl⟩
end Go.Proofs.YtmidaeljeoifdaaGreatDoor
namespace Go.Proofs.YtmidaeljeoifdaaGreatDoor
set_option linter.unusedSimpArgs false
set_option linter.unusedVariables false
set_option maxHeartbeats 16000000
set_option maxRecDepth 100000
theorem qe3 : ∀ (n : Nat) (f : Nat → Nat),(∀ k,k ≤ n → f k < n) → ∃ i j,i < j ∧ j ≤ n ∧ f i = f j
 | 0,f,h => absurd (h 0 (Nat.le_refl 0)) (Nat.not_lt_zero _)
 | n + 1,f,h => by
  by_cases hv : ∃ i,i ≤ n ∧ f i = f (n + 1)
  ·obtain ⟨i,hi,e⟩ := hv
   exact ⟨i,n + 1,by omega,Nat.le_refl _,e⟩
  ·have hne : ∀ i,i ≤ n → f i ≠ f (n + 1) := fun i hi e => hv ⟨i,hi,e⟩
   have hvl := h (n + 1) (Nat.le_refl _)
   obtain ⟨i,j,hij,hjn,e⟩ := qe3 n (fun k => if f k = n then f (n + 1) else f k) (fun k hk => by
    have h1 := h k (by omega)
    have h2 := hne k hk
    split <;> omega)
   have h1 := hne i (by omega)
   have h2 := hne j hjn
   refine ⟨i,j,hij,by omega, ?_⟩
   split at e <;> split at e <;> omega
def goes (c : Cf) (r : Int) : Bool := isId r c.ress.length && rkind c r == 2
def iter (c : Cf) : Nat → Int → Int
 | 0,r => r
 | k + 1,r => iter c k (rlink c r)
theorem qdn (c : Cf) (a b : Nat) (r : Int) : iter c (a + b) r = iter c b (iter c a r) := by
 induction a generalizing r with
 | zero => rw [Nat.zero_add]; rfl
 | succ a ih => rw [show a + 1 + b = (a + b) + 1 by omega,iter,iter,ih]
theorem qca (c : Cf) : ∀ (f : Nat) (r : Int),(∀ k,k < f → goes c (iter c k r) = true) → rootF c f r = -1
 | 0,r,_ => rfl
 | f + 1,r,h => by
  have h0 : goes c r = true := h 0 (by omega)
  simp [goes] at h0
  rw [rootF,if_pos h0.1,if_pos h0.2]
  exact qca c f _ (fun k hk => h (k + 1) (by omega))
theorem qd0 (c : Cf) : ∀ (f g : Nat) (r : Int) (k : Nat),k < f → k < g → goes c (iter c k r) = false → rootF c f r = rootF c g r
 | 0,_,_,_,h,_,_ => absurd h (Nat.not_lt_zero _)
 | _,0,_,_,_,h,_ => absurd h (Nat.not_lt_zero _)
 | f + 1,g + 1,r,k,hf,hg,hk => by
  rw [rootF,rootF]
  split
  ·split
   ·cases k with
    | zero =>
     rename_i h1 h2
     have : goes c r = false := hk
     simp [goes,h1,h2] at this
    | succ k => exact qd0 c f g _ k (by omega) (by omega) hk
   ·rfl
  ·rfl
theorem qeg (c : Cf) (r : Int) : rootF c (c.ress.length + 1) r = rootF c c.ress.length r := by
 by_cases h : ∃ k,k < c.ress.length ∧ goes c (iter c k r) = false
 ·obtain ⟨k,hk,hg⟩ := h
  exact qd0 c _ _ r k (by omega) hk hg
 ·have hall : ∀ k,k < c.ress.length → goes c (iter c k r) = true := fun k hk => by
   cases hg : goes c (iter c k r) with
   | true => rfl
   | false => exact absurd ⟨k,hk,hg⟩ h
  rw [qca c c.ress.length r hall]
  by_cases hn : isId (iter c c.ress.length r) c.ress.length = true
  ·have hid : ∀ k,k ≤ c.ress.length → isId (iter c k r) c.ress.length = true := fun k hk => by
    by_cases e : k < c.ress.length
    ·have := hall k e
     simp [goes] at this
     exact this.1
    ·obtain rfl : k = c.ress.length := by omega
     exact hn
   have hnn : ∀ k,k ≤ c.ress.length → 0 ≤ iter c k r ∧ iter c k r < c.ress.length := fun k hk => by
    have := hid k hk
    simpa [isId] using this
   obtain ⟨i,j,hij,hjn,e⟩ := qe3 c.ress.length (fun k => (iter c k r).toNat) (fun k hk => by have := hnn k hk; omega)
   have e2 : iter c i r = iter c j r := by
    have h1 := hnn i (by omega)
    have h2 := hnn j hjn
    omega
   have e3 : iter c (i + (c.ress.length - j)) r = iter c c.ress.length r := by
    rw [qdn,e2, ← qdn]
    congr 1
    omega
   have h4 := hall (i + (c.ress.length - j)) (by omega)
   refine qca c _ r (fun k hk => ?_)
   by_cases ek : k < c.ress.length
   ·exact hall k ek
   ·obtain rfl : k = c.ress.length := by omega
    rw [← e3]
    exact h4
  ·obtain ⟨m,hm⟩ : ∃ m,m = c.ress.length := ⟨_,rfl⟩
   have key : ∀ (f : Nat) (q : Int),(∀ k,k < f → goes c (iter c k q) = true) → isId (iter c f q) c.ress.length = false → rootF c (f + 1) q = -1 := by
    intro f
    induction f with
    | zero =>
     intro q _ hq
     have hq' : isId q c.ress.length = false := hq
     rw [rootF,if_neg (by rw [hq']; decide)]
    | succ f ih =>
     intro q hk hq
     have h0 : goes c q = true := hk 0 (by omega)
     simp [goes] at h0
     rw [rootF,if_pos h0.1,if_pos h0.2]
     exact ih _ (fun k hk2 => hk (k + 1) (by omega)) hq
   exact key _ r hall (by simpa using hn)
end Go.Proofs.YtmidaeljeoifdaaGreatDoor
namespace Go.Proofs.YtmidaeljeoifdaaGreatDoor
open Go.RowKit
set_option linter.unusedSimpArgs false
set_option linter.unusedVariables false
set_option maxHeartbeats 16000000
set_option maxRecDepth 100000
def resE (c : Cf) (i : Nat) (x : Rs) : Int :=
 if inR x.kind 1 3 = false then 74 else if (x.kind == 2 || x.link == 0) = false then 74
 else if (x.kind == 2) = false then 0 else if isId x.link c.ress.length = false then 73
 else if (decide (0 ≤ rootF c c.ress.length i) && rkind c (rootF c c.ress.length i) == 1) = true then 0 else 70
theorem qj5 (w : World) (c : Cf) (v : Vs) (h : CfAt w c v) (i : Nat) (x : Rs) (hi : c.ress[i]? = some x) (hl : c.ress.length ≤ 8796093022208) :
  Calls Tryz.prog 161 #[.agg (cfC c v),I i] w fun e w' => e = .returned (I (resE c i x)) ∧ Below w.heap.size w w' := by
 have hn : v.r.n = c.ress.length := h.r.n
 have hlt : (i : Int) < v.r.n := by have := (List.getElem?_eq_some_iff.1 hi).1; omega
 obtain ⟨g,off,e,hg,a0,a1,a2⟩ := qb5 h hi
 have hne : g ≠ w.heap.size := by omega
 have hb := qa0 w
 have hb2 := fun o o' => (hb o).trans ((qa0 (w.alloc o) o').mono (hb o).size)
 have HN : Hid (v.r.n = c.ress.length) := hn
 have hi18 : (Tryz.prog.info? 47).map (·.size) = some (cfC c v).size := by rw [show (cfC c v).size = 18 from rfl]; kernel_rfl
 have hV0 : ∀ o,((w.alloc (.cells (cfC c v) 47)).alloc o).heap[w.heap.size]? = some (.cells (cfC c v) 47 (0,0)) := fun o => by rw [heap_alloc_old (w.alloc _) _ (by simp)]; exact heap_alloc_new w _
 have c1 : ∀ o,Calls Tryz.prog 209 #[.agg (cfC c v),I i] ((w.alloc (.cells (cfC c v) 47)).alloc o) fun e w' => e = .returned (I (rootF c c.ress.length i)) ∧ Below ((w.alloc (.cells (cfC c v) 47)).alloc o).heap.size ((w.alloc (.cells (cfC c v) 47)).alloc o) w' := fun o => by rw [← qeg]; exact qpc _ c v (h.below (hb2 _ _)) hl i
 have hro : rootF c c.ress.length i < v.r.n := by rw [hn]; exact qbt c c.ress.length i
 have hV1 : ∀ o w1,Below ((w.alloc (.cells (cfC c v) 47)).alloc o).heap.size ((w.alloc (.cells (cfC c v) 47)).alloc o) w1 → CfAt w1 c v ∧ Below w.heap.size w w1 ∧ w1.cell? ⟨w.heap.size,12,none⟩ = some (.slice v.r.a v.r.n v.r.c) := fun o w1 hb1 =>
  ⟨(h.below (hb2 _ _)).below hb1,(hb2 _ _).trans (hb1.mono (hb2 _ _).size),cell_of_row w1 w.heap.size 12 _ _ (0,0) ((hb1.block _ (qa1 (hV0 o))).trans (hV0 o))⟩
 have f12 : ∀ h : 12 < (cfC c v).size,(cfC c v)[12] = .slice v.r.a v.r.n v.r.c := fun _ => rfl
 have hs18 : (cfC c v).size = 18 := rfl
 generalize cfC c v = C at *
 replace f12 := f12 (by omega)
 rw [e] at f12
 clear hi hn
 obtain ⟨R,hR⟩ : ∃ R,R = resE c i x := ⟨_,rfl⟩
 rw [← hR]
 unfold resE at hR
 have HR : Hid (R = _) := hR
 clear hR
 by_cases h1 : x.kind < 1
 ·clear hV0 c1 hV1
  have HE : Hid (R = 74) := by show _ = _; rw [HR.out,if_pos (by simp [inR]; omega)]
  clear HR
  go_enter Tryz.func161,Tryz.ntmps161
  go_wp2
  go_ret
  exact ⟨qa3 HE.out.symm,hb2 _ _⟩
 ·by_cases h3 : 3 < x.kind
  ·clear hV0 c1 hV1
   have HE : Hid (R = 74) := by show _ = _; rw [HR.out,if_pos (by simp [inR]; omega)]
   clear HR
   go_enter Tryz.func161,Tryz.ntmps161
   go_wp2
   go_ret
   exact ⟨qa3 HE.out.symm,hb2 _ _⟩
  ·have HI : Hid (inR x.kind 1 3 = true) := by show _ = _; simp [inR]; omega
   cases hk2 : x.kind == 2 with
   | false =>
    have hk2' : (x.kind != 2) = true := by simp [bne,hk2]
    clear hV0 c1 hV1
    cases hl0 : x.link == 0 with
    | false =>
     have hl0' : (x.link != 0) = true := by simp [bne,hl0]
     have HE : Hid (R = 74) := by show _ = _; rw [HR.out,if_neg (by rw [HI.out]; decide),if_pos (by rw [hk2,hl0]; rfl)]
     clear HR
     go_enter Tryz.func161,Tryz.ntmps161
     go_wp2
     go_ret
     exact ⟨qa3 HE.out.symm,hb2 _ _⟩
    | true =>
     have hl0' : (x.link != 0) = false := by simp [bne,hl0]
     have HE : Hid (R = 0) := by show _ = _; rw [HR.out,if_neg (by rw [HI.out]; decide),if_neg (by rw [hk2,hl0]; decide),if_pos hk2]
     clear HR
     go_enter Tryz.func161,Tryz.ntmps161
     go_wp2
     go_ret
     exact ⟨qa3 HE.out.symm,hb2 _ _⟩
   | true =>
    have hk2' : (x.kind != 2) = false := by simp [bne,hk2]
    have HR2 : Hid (R = if isId x.link c.ress.length = false then 73 else if (decide (0 ≤ rootF c c.ress.length i) && rkind c (rootF c c.ress.length i) == 1) = true then 0 else 70) := by show _ = _; rw [HR.out,if_neg (by rw [HI.out]; decide),if_neg (by rw [hk2]; simp),if_neg (by rw [hk2]; decide)]
    clear HR
    have HR := HR2
    clear HR2
    by_cases h4 : x.link < 0
    ·clear hV0 c1 hV1
     have HE : Hid (R = 73) := by show _ = _; rw [HR.out,if_pos (by simp [isId]; omega)]
     clear HR
     go_enter Tryz.func161,Tryz.ntmps161
     go_wp2
     go_ret
     exact ⟨qa3 HE.out.symm,hb2 _ _⟩
    ·by_cases h5 : (v.r.n : Int) ≤ x.link
     ·clear hV0 c1 hV1
      have HE : Hid (R = 73) := by show _ = _; rw [HR.out,if_pos (by rw [← HN.out]; simp [isId]; omega)]
      clear HR
      go_enter Tryz.func161,Tryz.ntmps161
      go_wp2
      go_ret
      exact ⟨qa3 HE.out.symm,hb2 _ _⟩
     ·have HR3 : Hid (R = if (decide (0 ≤ rootF c c.ress.length i) && rkind c (rootF c c.ress.length i) == 1) = true then 0 else 70) := by show _ = _; rw [HR.out,if_neg (by rw [← HN.out]; simp [isId]; omega)]
      clear HR
      generalize rootF c c.ress.length i = ρ at *
      go_enter Tryz.func161,Tryz.ntmps161
      go_wp2_with (refine wpList_load_row rfl 47 _ rfl w.heap.size rfl 47 _ (0,0) _ (hV0 _) Tryz.underlying47 rfl hi18 ?_)
      refine (c1 _).mono ?_
      rintro e1 w1 ⟨rfl,hb1⟩
      obtain ⟨h1',hbw1,k12⟩ := hV1 _ w1 hb1
      clear hb1 c1 hV1 hV0
      rw [e] at k12
      by_cases h6 : ρ < 0
      ·have HE : Hid (R = 70) := by show _ = _; rw [HR3.out,decide_eq_false (show ¬ 0 ≤ ρ by omega)]; rfl
       clear HR3
       go_wp2
       go_ret
       exact ⟨qa3 HE.out.symm,hbw1⟩
      ·obtain ⟨q,rfl⟩ := Int.eq_ofNat_of_zero_le (show 0 ≤ ρ by omega)
       have hql : q < c.ress.length := by rw [← HN.out]; omega
       obtain ⟨y,hy⟩ : ∃ y,c.ress[q]? = some y := ⟨_,List.getElem?_eq_getElem hql⟩
       obtain ⟨g',off',e',hg',b0,b1,b2⟩ := qb5 h1' hy
       rw [e] at e'
       obtain ⟨rfl,rfl⟩ : g = g' ∧ off = off' := by cases e'; exact ⟨rfl,rfl⟩
       have HE0 : Hid (R = if (y.kind == 1) = true then 0 else 70) := by show _ = _; rw [HR3.out,decide_eq_true (show (0 : Int) ≤ (q : Int) by omega)]; simp [rkind,hy]
       clear HR3 hy hql e' h1' h a0 a1 a2 b0 b2
       cases hy1 : y.kind == 1 with
       | true =>
        have hy1' : (y.kind != 1) = false := by simp [bne,hy1]
        have HE : Hid (R = 0) := by show _ = _; rw [HE0.out,hy1]; rfl
        clear HE0
        go_wp2
        go_ret
        exact ⟨qa3 HE.out.symm,hbw1⟩
       | false =>
        have hy1' : (y.kind != 1) = true := by simp [bne,hy1]
        have HE : Hid (R = 70) := by show _ = _; rw [HE0.out,hy1]; rfl
        clear HE0
        go_wp2
        go_ret
        exact ⟨qa3 HE.out.symm,hbw1⟩
theorem qdk (l : List UInt8) (hl : l.length < 9223372036854775808) (w : World) : Calls Tryz.prog 160 #[S l] w fun e w' => e = .returned (.bool (isNm l)) ∧ w' = w := by
 have := qpd ⟨l.toArray⟩ w (by rw [qux]; exact hl)
 simpa using this
theorem qpe (l : List (List UInt8)) (j : Nat) (x nm : List UInt8) (hx : l[j]? = some x) : hasS (l.take (j + 1)) nm = (hasS (l.take j) nm || nm == x) := by
 unfold hasS
 rw [List.take_add_one,hx,Option.toList_some,List.any_append]
 simp
theorem qpf (l : List (List UInt8)) (i j : Nat) (h : j ≤ i) (nm : List UInt8) (ht : hasS (l.take j) nm = true) : hasS (l.take i) nm = true := by
 unfold hasS at *
 rw [List.any_eq_true] at ht ⊢
 obtain ⟨x,hx,hp⟩ := ht
 refine ⟨x, ?_,hp⟩
 obtain ⟨k,hk⟩ := List.mem_iff_getElem?.1 hx
 rw [List.getElem?_take] at hk
 split at hk
 ·exact List.mem_iff_getElem?.2 ⟨k,by rw [List.getElem?_take,if_pos (by omega)]; exact hk⟩
 ·cases hk
theorem qnm (w : World) (s : Sl) (l : List (List UInt8)) (h : RowsAt w 1 strP s l) (i : Nat) (nm : List UInt8) (hi : l[i]? = some nm) (hsz : nm.length < 9223372036854775808) :
  Calls Tryz.prog 96 #[.slice s.a s.n s.c,I i] w fun e w' => e = .returned (I (if (!isNm nm || hasS (l.take i) nm) = true then 72 else 0)) ∧ Below w.heap.size w w' := by
 obtain ⟨sa,sn,sc⟩ := s
 have HN : Hid (sn = l.length) := h.n
 have hc : sn ≤ sc := h.c
 have hm : sc ≤ maxLen := h.m
 dsimp only
 unfold maxLen at hm
 have hin : i < sn := by have := (List.getElem?_eq_some_iff.1 hi).1; have := HN.out; omega
 have hin' : (i : Int) < sn := by omega
 obtain ⟨g,off,e,hg,hci⟩ := qfo h hi
 dsimp only at e
 subst e
 have c1 := qdk nm hsz
 obtain ⟨R,hR⟩ : ∃ R : Int,R = (if (!isNm nm || hasS (l.take i) nm) = true then 72 else 0) := ⟨_,rfl⟩
 rw [← hR]
 have HR : Hid (R = _) := hR
 clear hR
 cases hnm : isNm nm with
 | false =>
  have HE : Hid (R = 72) := by show _ = _; rw [HR.out,hnm]; rfl
  rw [hnm] at c1
  clear HR
  go_enter Tryz.func96,Tryz.ntmps96
  go_wp2_with (first | (go_at_call 160; refine (c1 _).mono ?_; rintro e w' ⟨rfl,hq⟩; replace hq := hq.symm; subst hq))
  go_ret
  exact ⟨qa3 HE.out.symm,Below.refl _ _⟩
 | true =>
  have HE : Hid (R = if hasS (l.take i) nm = true then 72 else 0) := by show _ = _; rw [HR.out,hnm]; rfl
  rw [hnm] at c1
  clear HR
  go_enter Tryz.func96,Tryz.ntmps96
  go_wp2_with (first | (go_at_call 160; refine (c1 _).mono ?_; rintro e w' ⟨rfl,hq⟩; replace hq := hq.symm; subst hq))
  go_loopw [5] (fun iv wr => ∃ j : Nat,j ≤ i ∧ iv = .int .i64 j ∧ Hid (Below w.heap.size w wr ∧ hasS (l.take j) nm = false)) (fun iv _ => i - (intOf iv).toNat)
  case atStart => exact ⟨0,by omega,rfl,Below.refl _ _,rfl⟩
  case round =>
   obtain ⟨j,hj,rfl,HJ⟩ := hrel
   obtain ⟨hB,hA⟩ := HJ.out
   have HA : Hid (hasS (l.take j) nm = false) := hA
   clear HJ hA
   by_cases hlt : j < i
   ·have hlt' : (j : Int) < i := by omega
    have hjn : (j : Int) < sn := by omega
    have hjl : j < l.length := by have := HN.out; omega
    obtain ⟨y,hy⟩ : ∃ y,l[j]? = some y := ⟨l[j],List.getElem?_eq_getElem hjl⟩
    obtain ⟨g',off',e',hg',hcj⟩ := qfo h hy
    dsimp only at e'
    obtain ⟨rfl,rfl⟩ : g = g' ∧ off = off' := by cases e'; exact ⟨rfl,rfl⟩
    have y1 : wr.cell? ⟨g,off + j,none⟩ = some (S y) := by rw [qa7 hB _ _ hg]; exact hcj
    have y2 : wr.cell? ⟨g,off + i,none⟩ = some (S nm) := by rw [qa7 hB _ _ hg]; exact hci
    have HT := qpe l j y nm hy
    have HT2 : Hid (hasS (l.take (j + 1)) nm = (nm == y)) := by show _ = _; rw [HT,HA.out,Bool.false_or]
    clear HT hy hjl e' hcj
    cases hk : y == nm with
    | true =>
     have e1 : (nm == y) = true := by rw [beq_iff_eq] at hk ⊢; exact hk.symm
     have HF : Hid (R = 72) := by show _ = _; rw [HE.out,if_pos (qpf l i (j + 1) (by omega) nm (by rw [HT2.out,e1]))]
     clear HE HT2 e1
     go_wp2
     go_quiet (fail)
     go_wp2
     go_ret
     exact ⟨qa3 HF.out.symm,below_drewN hB _⟩
    | false =>
     have e1 : (nm == y) = false := by rw [beq_eq_false_iff_ne] at hk ⊢; exact fun e => hk e.symm
     have HF : Hid (hasS (l.take (j + 1)) nm = false) := by show _ = _; rw [HT2.out,e1]
     clear HT2 e1
     go_wp2
     go_quiet (fail)
     go_wp2
     go_roundw
     case rel => exact ⟨j + 1,by omega,by go_num,below_drewN hB _,HF.out⟩
     case measure => simp [intOf]; omega
   ·obtain rfl : j = i := by omega
    have hlt' : ¬ (j : Int) < j := by omega
    have HF : Hid (R = 0) := by show _ = _; rw [HE.out,HA.out]; rfl
    clear HA HE
    go_wp2
    go_ret
    exact ⟨qa3 HF.out.symm,hB⟩
def actE (c : Cf) (a : Ac) (lo hi : Int) : Int :=
 if (inR a.kind lo hi && qaf a) = false then 74 else if objB c a = false then 73 else if ownB c a = false then 70 else if calB a = false then 72 else 0
theorem qrp (w : World) (c : Cf) (v : Vs) (h : CfAt w c v) (t ev : Int) (n : List UInt8) (lo hi : Int) (hsz : n.length < 9223372036854775808) (h1 : ¬ 1 < lo) (h2 : ¬ hi < 1) :
  Calls Tryz.prog 211 #[.agg (cfC c v), .agg (acC ⟨1,t,ev,n⟩),I lo,I hi] w fun e w' => e = .returned (I (actE c ⟨1,t,ev,n⟩ lo hi)) ∧ Below w.heap.size w w' := by
 have c1 := qdk n hsz
 have hb := qa0 w
 have hb2 := fun o o' => (hb o).trans ((qa0 (w.alloc o) o').mono (hb o).size)
 have HN : Hid (v.t.n = c.tasks.length) := h.t.n
 have HM : Hid (v.e.n = c.evs.length) := h.e.n
 obtain ⟨R,hR⟩ : ∃ R,R = actE c ⟨1,t,ev,n⟩ lo hi := ⟨_,rfl⟩
 rw [← hR]
 have HR2 : Hid (R = if qaf ⟨1,t,ev,n⟩ = false then 74 else if objB c ⟨1,t,ev,n⟩ = false then 73 else if ownB c ⟨1,t,ev,n⟩ = false then 70 else if calB ⟨1,t,ev,n⟩ = false then 72 else 0) := by
  have hI : inR 1 lo hi = true := by simp [inR]; omega
  show _ = _
  rw [hR,actE,hI,Bool.true_and]
 clear hR
 unfold acC
 dsimp only
 have f11 : ∀ h : 11 < (cfC c v).size,(cfC c v)[11] = .slice v.t.a v.t.n v.t.c := fun _ => rfl
 have f13 : ∀ h : 13 < (cfC c v).size,(cfC c v)[13] = .slice v.e.a v.e.n v.e.c := fun _ => rfl
 have hs18 : (cfC c v).size = 18 := rfl
 generalize cfC c v = C at *
 replace f11 := f11 (by omega)
 replace f13 := f13 (by omega)
 cases hev : ev == 0 with
 | false =>
  have hev' : (ev != 0) = true := by simp [bne,hev]
  have HE : Hid (R = 74) := by show _ = _; rw [HR2.out]; delta qaf objB ownB calB; delta uT uE uN isId; simp [hev]
  clear HR2
  go_enter Tryz.func211,Tryz.ntmps211
  go_wp2
  try go_quiet (fail)
  go_wp2
  go_ret
  exact ⟨qa3 HE.out.symm,by first | exact hb2 _ _ | exact below_drewN (hb2 _ _) _⟩
 | true =>
  have hev' : (ev != 0) = false := by simp [bne,hev]
  cases n with
  | cons d r =>
   have HE : Hid (R = 74) := by show _ = _; rw [HR2.out]; delta qaf objB ownB calB; delta uT uE uN isId; simp []
   clear HR2
   go_enter Tryz.func211,Tryz.ntmps211
   go_wp2
   try go_quiet (fail)
   go_wp2
   go_ret
   exact ⟨qa3 HE.out.symm,by first | exact hb2 _ _ | exact below_drewN (hb2 _ _) _⟩
  | nil =>
   by_cases ht : t < 0
   ·skip
    have HE : Hid (R = 73) := by show _ = _; rw [HR2.out]; delta qaf objB ownB calB; delta uT uE uN isId; simp [hev]; omega
    clear HR2
    go_enter Tryz.func211,Tryz.ntmps211
    go_wp2
    try go_quiet (fail)
    go_wp2
    go_ret
    exact ⟨qa3 HE.out.symm,by first | exact hb2 _ _ | exact below_drewN (hb2 _ _) _⟩
   ·by_cases ht2 : (v.t.n : Int) ≤ t
    ·skip
     have HE : Hid (R = 73) := by show _ = _; rw [HR2.out]; delta qaf objB ownB calB; delta uT uE uN isId; simp [hev, ← HN.out]; omega
     clear HR2
     go_enter Tryz.func211,Tryz.ntmps211
     go_wp2
     try go_quiet (fail)
     go_wp2
     go_ret
     exact ⟨qa3 HE.out.symm,by first | exact hb2 _ _ | exact below_drewN (hb2 _ _) _⟩
    ·skip
     have HE : Hid (R = 0) := by show _ = _; rw [HR2.out]; delta qaf objB ownB calB; delta uT uE uN isId; simp [hev, ← HN.out]; omega
     clear HR2
     go_enter Tryz.func211,Tryz.ntmps211
     go_wp2
     try go_quiet (fail)
     go_wp2
     go_ret
     exact ⟨qa3 HE.out.symm,by first | exact hb2 _ _ | exact below_drewN (hb2 _ _) _⟩
theorem qrq (w : World) (c : Cf) (v : Vs) (h : CfAt w c v) (t ev : Int) (n : List UInt8) (lo hi : Int) (hsz : n.length < 9223372036854775808) (h1 : ¬ 3 < lo) (h2 : ¬ hi < 3) :
  Calls Tryz.prog 211 #[.agg (cfC c v), .agg (acC ⟨3,t,ev,n⟩),I lo,I hi] w fun e w' => e = .returned (I (actE c ⟨3,t,ev,n⟩ lo hi)) ∧ Below w.heap.size w w' := by
 have c1 := qdk n hsz
 have hb := qa0 w
 have hb2 := fun o o' => (hb o).trans ((qa0 (w.alloc o) o').mono (hb o).size)
 have HN : Hid (v.t.n = c.tasks.length) := h.t.n
 have HM : Hid (v.e.n = c.evs.length) := h.e.n
 obtain ⟨R,hR⟩ : ∃ R,R = actE c ⟨3,t,ev,n⟩ lo hi := ⟨_,rfl⟩
 rw [← hR]
 have HR2 : Hid (R = if qaf ⟨3,t,ev,n⟩ = false then 74 else if objB c ⟨3,t,ev,n⟩ = false then 73 else if ownB c ⟨3,t,ev,n⟩ = false then 70 else if calB ⟨3,t,ev,n⟩ = false then 72 else 0) := by
  have hI : inR 3 lo hi = true := by simp [inR]; omega
  show _ = _
  rw [hR,actE,hI,Bool.true_and]
 clear hR
 unfold acC
 dsimp only
 have f11 : ∀ h : 11 < (cfC c v).size,(cfC c v)[11] = .slice v.t.a v.t.n v.t.c := fun _ => rfl
 have f13 : ∀ h : 13 < (cfC c v).size,(cfC c v)[13] = .slice v.e.a v.e.n v.e.c := fun _ => rfl
 have hs18 : (cfC c v).size = 18 := rfl
 generalize cfC c v = C at *
 replace f11 := f11 (by omega)
 replace f13 := f13 (by omega)
 cases ht : t == 0 with
 | false =>
  have ht' : (t != 0) = true := by simp [bne,ht]
  have HE : Hid (R = 74) := by show _ = _; rw [HR2.out]; delta qaf objB ownB calB; delta uT uE uN isId; simp [ht]
  clear HR2
  go_enter Tryz.func211,Tryz.ntmps211
  go_wp2
  try go_quiet (fail)
  go_wp2
  go_ret
  exact ⟨qa3 HE.out.symm,by first | exact hb2 _ _ | exact below_drewN (hb2 _ _) _⟩
 | true =>
  have ht' : (t != 0) = false := by simp [bne,ht]
  cases hev : ev == 0 with
  | false =>
   have hev' : (ev != 0) = true := by simp [bne,hev]
   have HE : Hid (R = 74) := by show _ = _; rw [HR2.out]; delta qaf objB ownB calB; delta uT uE uN isId; simp [hev]
   clear HR2
   go_enter Tryz.func211,Tryz.ntmps211
   go_wp2
   try go_quiet (fail)
   go_wp2
   go_ret
   exact ⟨qa3 HE.out.symm,by first | exact hb2 _ _ | exact below_drewN (hb2 _ _) _⟩
  | true =>
   have hev' : (ev != 0) = false := by simp [bne,hev]
   cases hnm : isNm n with
   | false =>
    rw [hnm] at c1
    have HE : Hid (R = 72) := by show _ = _; rw [HR2.out]; delta qaf objB ownB calB; delta uT uE uN isId; simp [ht,hev,hnm]
    clear HR2
    go_enter Tryz.func211,Tryz.ntmps211
    go_wp2_with (first | (go_at_call 160; refine (c1 _).mono ?_; rintro e w' ⟨rfl,hq⟩; replace hq := hq.symm; subst hq))
    try go_quiet (fail)
    go_wp2_with (first | (go_at_call 160; refine (c1 _).mono ?_; rintro e w' ⟨rfl,hq⟩; replace hq := hq.symm; subst hq))
    go_ret
    exact ⟨qa3 HE.out.symm,by first | exact hb2 _ _ | exact below_drewN (hb2 _ _) _⟩
   | true =>
    rw [hnm] at c1
    have HE : Hid (R = 0) := by show _ = _; rw [HR2.out]; delta qaf objB ownB calB; delta uT uE uN isId; simp [ht,hev,hnm]
    clear HR2
    go_enter Tryz.func211,Tryz.ntmps211
    go_wp2_with (first | (go_at_call 160; refine (c1 _).mono ?_; rintro e w' ⟨rfl,hq⟩; replace hq := hq.symm; subst hq))
    try go_quiet (fail)
    go_wp2_with (first | (go_at_call 160; refine (c1 _).mono ?_; rintro e w' ⟨rfl,hq⟩; replace hq := hq.symm; subst hq))
    go_ret
    exact ⟨qa3 HE.out.symm,by first | exact hb2 _ _ | exact below_drewN (hb2 _ _) _⟩
theorem qrr (w : World) (c : Cf) (v : Vs) (h : CfAt w c v) (t ev : Int) (n : List UInt8) (lo hi : Int) (hsz : n.length < 9223372036854775808) (h1 : ¬ 4 < lo) (h2 : ¬ hi < 4) :
  Calls Tryz.prog 211 #[.agg (cfC c v), .agg (acC ⟨4,t,ev,n⟩),I lo,I hi] w fun e w' => e = .returned (I (actE c ⟨4,t,ev,n⟩ lo hi)) ∧ Below w.heap.size w w' := by
 have c1 := qdk n hsz
 have hb := qa0 w
 have hb2 := fun o o' => (hb o).trans ((qa0 (w.alloc o) o').mono (hb o).size)
 have HN : Hid (v.t.n = c.tasks.length) := h.t.n
 have HM : Hid (v.e.n = c.evs.length) := h.e.n
 obtain ⟨R,hR⟩ : ∃ R,R = actE c ⟨4,t,ev,n⟩ lo hi := ⟨_,rfl⟩
 rw [← hR]
 have HR2 : Hid (R = if qaf ⟨4,t,ev,n⟩ = false then 74 else if objB c ⟨4,t,ev,n⟩ = false then 73 else if ownB c ⟨4,t,ev,n⟩ = false then 70 else if calB ⟨4,t,ev,n⟩ = false then 72 else 0) := by
  have hI : inR 4 lo hi = true := by simp [inR]; omega
  show _ = _
  rw [hR,actE,hI,Bool.true_and]
 clear hR
 unfold acC
 dsimp only
 have f11 : ∀ h : 11 < (cfC c v).size,(cfC c v)[11] = .slice v.t.a v.t.n v.t.c := fun _ => rfl
 have f13 : ∀ h : 13 < (cfC c v).size,(cfC c v)[13] = .slice v.e.a v.e.n v.e.c := fun _ => rfl
 have hs18 : (cfC c v).size = 18 := rfl
 generalize cfC c v = C at *
 replace f11 := f11 (by omega)
 replace f13 := f13 (by omega)
 cases ht : t == 0 with
 | false =>
  have ht' : (t != 0) = true := by simp [bne,ht]
  have HE : Hid (R = 74) := by show _ = _; rw [HR2.out]; delta qaf objB ownB calB; delta uT uE uN isId; simp [ht]
  clear HR2
  go_enter Tryz.func211,Tryz.ntmps211
  go_wp2
  try go_quiet (fail)
  go_wp2
  go_ret
  exact ⟨qa3 HE.out.symm,by first | exact hb2 _ _ | exact below_drewN (hb2 _ _) _⟩
 | true =>
  have ht' : (t != 0) = false := by simp [bne,ht]
  cases hev : ev == 0 with
  | false =>
   have hev' : (ev != 0) = true := by simp [bne,hev]
   have HE : Hid (R = 74) := by show _ = _; rw [HR2.out]; delta qaf objB ownB calB; delta uT uE uN isId; simp [hev]
   clear HR2
   go_enter Tryz.func211,Tryz.ntmps211
   go_wp2
   try go_quiet (fail)
   go_wp2
   go_ret
   exact ⟨qa3 HE.out.symm,by first | exact hb2 _ _ | exact below_drewN (hb2 _ _) _⟩
  | true =>
   have hev' : (ev != 0) = false := by simp [bne,hev]
   cases hnm : isNm n with
   | false =>
    rw [hnm] at c1
    have HE : Hid (R = 72) := by show _ = _; rw [HR2.out]; delta qaf objB ownB calB; delta uT uE uN isId; simp [ht,hev,hnm]
    clear HR2
    go_enter Tryz.func211,Tryz.ntmps211
    go_wp2_with (first | (go_at_call 160; refine (c1 _).mono ?_; rintro e w' ⟨rfl,hq⟩; replace hq := hq.symm; subst hq))
    try go_quiet (fail)
    go_wp2_with (first | (go_at_call 160; refine (c1 _).mono ?_; rintro e w' ⟨rfl,hq⟩; replace hq := hq.symm; subst hq))
    go_ret
    exact ⟨qa3 HE.out.symm,by first | exact hb2 _ _ | exact below_drewN (hb2 _ _) _⟩
   | true =>
    rw [hnm] at c1
    have HE : Hid (R = 0) := by show _ = _; rw [HR2.out]; delta qaf objB ownB calB; delta uT uE uN isId; simp [ht,hev,hnm]
    clear HR2
    go_enter Tryz.func211,Tryz.ntmps211
    go_wp2_with (first | (go_at_call 160; refine (c1 _).mono ?_; rintro e w' ⟨rfl,hq⟩; replace hq := hq.symm; subst hq))
    try go_quiet (fail)
    go_wp2_with (first | (go_at_call 160; refine (c1 _).mono ?_; rintro e w' ⟨rfl,hq⟩; replace hq := hq.symm; subst hq))
    go_ret
    exact ⟨qa3 HE.out.symm,by first | exact hb2 _ _ | exact below_drewN (hb2 _ _) _⟩
theorem qrs (w : World) (c : Cf) (v : Vs) (h : CfAt w c v) (t ev : Int) (n : List UInt8) (lo hi : Int) (hsz : n.length < 9223372036854775808) (k : Int) (k1 : (k == 1) = false) (k2 : (k == 2) = false) (k3 : (k == 3) = false) (k4 : (k == 4) = false) (h1 : ¬ k < lo) (h2 : ¬ hi < k) :
  Calls Tryz.prog 211 #[.agg (cfC c v), .agg (acC ⟨k,t,ev,n⟩),I lo,I hi] w fun e w' => e = .returned (I (actE c ⟨k,t,ev,n⟩ lo hi)) ∧ Below w.heap.size w w' := by
 have c1 := qdk n hsz
 have hb := qa0 w
 have hb2 := fun o o' => (hb o).trans ((qa0 (w.alloc o) o').mono (hb o).size)
 have HN : Hid (v.t.n = c.tasks.length) := h.t.n
 have HM : Hid (v.e.n = c.evs.length) := h.e.n
 obtain ⟨R,hR⟩ : ∃ R,R = actE c ⟨k,t,ev,n⟩ lo hi := ⟨_,rfl⟩
 rw [← hR]
 have HR2 : Hid (R = if qaf ⟨k,t,ev,n⟩ = false then 74 else if objB c ⟨k,t,ev,n⟩ = false then 73 else if ownB c ⟨k,t,ev,n⟩ = false then 70 else if calB ⟨k,t,ev,n⟩ = false then 72 else 0) := by
  have hI : inR k lo hi = true := by simp [inR]; omega
  show _ = _
  rw [hR,actE,hI,Bool.true_and]
 clear hR
 unfold acC
 dsimp only
 have f11 : ∀ h : 11 < (cfC c v).size,(cfC c v)[11] = .slice v.t.a v.t.n v.t.c := fun _ => rfl
 have f13 : ∀ h : 13 < (cfC c v).size,(cfC c v)[13] = .slice v.e.a v.e.n v.e.c := fun _ => rfl
 have hs18 : (cfC c v).size = 18 := rfl
 generalize cfC c v = C at *
 replace f11 := f11 (by omega)
 replace f13 := f13 (by omega)
 have k2' : (k != 2) = true := by simp [bne,k2]
 cases ht : t == 0 with
 | false =>
  have ht' : (t != 0) = true := by simp [bne,ht]
  have HE : Hid (R = 74) := by show _ = _; rw [HR2.out]; delta qaf objB ownB calB; delta uT uE uN isId; simp [k1,k2,ht]
  clear HR2
  go_enter Tryz.func211,Tryz.ntmps211
  go_wp2
  try go_quiet (fail)
  go_wp2
  go_ret
  exact ⟨qa3 HE.out.symm,by first | exact hb2 _ _ | exact below_drewN (hb2 _ _) _⟩
 | true =>
  have ht' : (t != 0) = false := by simp [bne,ht]
  cases hev : ev == 0 with
  | false =>
   have hev' : (ev != 0) = true := by simp [bne,hev]
   have HE : Hid (R = 74) := by show _ = _; rw [HR2.out]; delta qaf objB ownB calB; delta uT uE uN isId; simp [k2,hev]
   clear HR2
   go_enter Tryz.func211,Tryz.ntmps211
   go_wp2
   try go_quiet (fail)
   go_wp2
   go_ret
   exact ⟨qa3 HE.out.symm,by first | exact hb2 _ _ | exact below_drewN (hb2 _ _) _⟩
  | true =>
   have hev' : (ev != 0) = false := by simp [bne,hev]
   cases n with
   | cons d r =>
    have HE : Hid (R = 74) := by show _ = _; rw [HR2.out]; delta qaf objB ownB calB; delta uT uE uN isId; simp [k3,k4]
    clear HR2
    go_enter Tryz.func211,Tryz.ntmps211
    go_wp2
    try go_quiet (fail)
    go_wp2
    go_ret
    exact ⟨qa3 HE.out.symm,by first | exact hb2 _ _ | exact below_drewN (hb2 _ _) _⟩
   | nil =>
    have HE : Hid (R = 0) := by show _ = _; rw [HR2.out]; delta qaf objB ownB calB; delta uT uE uN isId; simp [k1,k2,k3,k4,ht,hev]
    clear HR2
    go_enter Tryz.func211,Tryz.ntmps211
    go_wp2
    try go_quiet (fail)
    go_wp2
    go_ret
    exact ⟨qa3 HE.out.symm,by first | exact hb2 _ _ | exact below_drewN (hb2 _ _) _⟩
theorem qrt (w : World) (c : Cf) (v : Vs) (h : CfAt w c v) (t ev : Int) (n : List UInt8) (lo hi : Int) (hsz : n.length < 9223372036854775808) (h1 : ¬ 2 < lo) (h2 : ¬ hi < 2) :
  Calls Tryz.prog 211 #[.agg (cfC c v), .agg (acC ⟨2,t,ev,n⟩),I lo,I hi] w fun e w' => e = .returned (I (actE c ⟨2,t,ev,n⟩ lo hi)) ∧ Below w.heap.size w w' := by
 have c1 := qdk n hsz
 have hb := qa0 w
 have hb2 := fun o o' => (hb o).trans ((qa0 (w.alloc o) o').mono (hb o).size)
 have HN : Hid (v.t.n = c.tasks.length) := h.t.n
 have HM : Hid (v.e.n = c.evs.length) := h.e.n
 obtain ⟨R,hR⟩ : ∃ R,R = actE c ⟨2,t,ev,n⟩ lo hi := ⟨_,rfl⟩
 rw [← hR]
 have HR2 : Hid (R = if qaf ⟨2,t,ev,n⟩ = false then 74 else if objB c ⟨2,t,ev,n⟩ = false then 73 else if ownB c ⟨2,t,ev,n⟩ = false then 70 else if calB ⟨2,t,ev,n⟩ = false then 72 else 0) := by
  have hI : inR 2 lo hi = true := by simp [inR]; omega
  show _ = _
  rw [hR,actE,hI,Bool.true_and]
 clear hR
 unfold acC
 dsimp only
 have f11 : ∀ h : 11 < (cfC c v).size,(cfC c v)[11] = .slice v.t.a v.t.n v.t.c := fun _ => rfl
 have f13 : ∀ h : 13 < (cfC c v).size,(cfC c v)[13] = .slice v.e.a v.e.n v.e.c := fun _ => rfl
 have hs18 : (cfC c v).size = 18 := rfl
 generalize cfC c v = C at *
 replace f11 := f11 (by omega)
 replace f13 := f13 (by omega)
 cases n with
 | cons d r =>
  have HE : Hid (R = 74) := by show _ = _; rw [HR2.out]; delta qaf objB ownB calB; delta uT uE uN isId; simp []
  clear HR2
  go_enter Tryz.func211,Tryz.ntmps211
  go_wp2
  try go_quiet (fail)
  go_wp2
  go_ret
  exact ⟨qa3 HE.out.symm,by first | exact hb2 _ _ | exact below_drewN (hb2 _ _) _⟩
 | nil =>
  by_cases ht : t < 0
  ·skip
   have HE : Hid (R = 73) := by show _ = _; rw [HR2.out]; delta qaf objB ownB calB; delta uT uE uN isId; simp []; omega
   clear HR2
   go_enter Tryz.func211,Tryz.ntmps211
   go_wp2
   try go_quiet (fail)
   go_wp2
   go_ret
   exact ⟨qa3 HE.out.symm,by first | exact hb2 _ _ | exact below_drewN (hb2 _ _) _⟩
  ·by_cases ht2 : (v.t.n : Int) ≤ t
   ·skip
    have HE : Hid (R = 73) := by show _ = _; rw [HR2.out]; delta qaf objB ownB calB; delta uT uE uN isId; simp [← HN.out]; omega
    clear HR2
    go_enter Tryz.func211,Tryz.ntmps211
    go_wp2
    try go_quiet (fail)
    go_wp2
    go_ret
    exact ⟨qa3 HE.out.symm,by first | exact hb2 _ _ | exact below_drewN (hb2 _ _) _⟩
   ·obtain ⟨q,rfl⟩ := Int.eq_ofNat_of_zero_le (show 0 ≤ t by omega)
    by_cases he : ev < 0
    ·skip
     have HE : Hid (R = 73) := by show _ = _; rw [HR2.out]; delta qaf objB ownB calB; delta uT uE uN isId; simp [← HN.out]; omega
     clear HR2
     go_enter Tryz.func211,Tryz.ntmps211
     go_wp2
     try go_quiet (fail)
     go_wp2
     go_ret
     exact ⟨qa3 HE.out.symm,by first | exact hb2 _ _ | exact below_drewN (hb2 _ _) _⟩
    ·by_cases he2 : (v.e.n : Int) ≤ ev
     ·skip
      have HE : Hid (R = 73) := by show _ = _; rw [HR2.out]; delta qaf objB ownB calB; delta uT uE uN isId; simp [← HN.out, ← HM.out]; omega
      clear HR2
      go_enter Tryz.func211,Tryz.ntmps211
      go_wp2
      try go_quiet (fail)
      go_wp2
      go_ret
      exact ⟨qa3 HE.out.symm,by first | exact hb2 _ _ | exact below_drewN (hb2 _ _) _⟩
     ·have hql : q < c.tasks.length := by rw [← HN.out]; omega
      obtain ⟨x,hx⟩ : ∃ y,c.tasks[q]? = some y := ⟨_,List.getElem?_eq_getElem hql⟩
      obtain ⟨g,off,s4,s5,s6,s7,e,hg,a0,a1,a2,a3,a4,a5,a6,a7,r4,r5,r6,r7⟩ := qbj h hx
      have hne : g ≠ w.heap.size := by omega
      have hgl : g < w.heap.size + 1 := by omega
      have hne1 : g ≠ w.heap.size + 1 := by omega
      rw [e] at f11
      have c2 := fun W (hW : Below w.heap.size w W) => qro W s6 x.evs (r6.below hW (fun _ _ _ _ h => h)) ev
      have hq' : (q : Int) < v.t.n := by omega
      have hobj : objB c ⟨2,(q : Int),ev, []⟩ = true := by
       simp [objB,uT,uE,isId, ← HN.out, ← HM.out]
       omega
      have hown : ownB c ⟨2,(q : Int),ev, []⟩ = hasL x.evs ev := by simp [ownB,uE,qn9,hx]
      have hbare : qaf ⟨2,(q : Int),ev, []⟩ = true := rfl
      have HR3 : Hid (R = if hasL x.evs ev = true then 0 else 70) := by
       show _ = _
       rw [HR2.out,hbare,hobj,hown,if_neg (by decide),if_neg (by decide)]
       cases hasL x.evs ev <;> rfl
      clear HR2 hbare hobj hown hx hql a0 a1 a2 a3 a4 a5 a7 r4 r5 r7
      cases hh : hasL x.evs ev with
      | true =>
       have HE : Hid (R = 0) := by show _ = _; rw [HR3.out,hh]; rfl
       rw [hh] at c2
       clear HR3
       go_enter Tryz.func211,Tryz.ntmps211
       go_wp2
       try go_quiet (first | (go_at_call 270; refine Calls.quiet_of_same (c2 _ (below_drewN (hb2 _ _) _))))
       go_wp2
       go_ret
       exact ⟨qa3 HE.out.symm,by first | exact hb2 _ _ | exact below_drewN (hb2 _ _) _⟩
      | false =>
       have HE : Hid (R = 70) := by show _ = _; rw [HR3.out,hh]; rfl
       rw [hh] at c2
       clear HR3
       go_enter Tryz.func211,Tryz.ntmps211
       go_wp2
       try go_quiet (first | (go_at_call 270; refine Calls.quiet_of_same (c2 _ (below_drewN (hb2 _ _) _))))
       go_wp2
       go_ret
       exact ⟨qa3 HE.out.symm,by first | exact hb2 _ _ | exact below_drewN (hb2 _ _) _⟩
theorem qmc (w : World) (c : Cf) (v : Vs) (h : CfAt w c v) (a : Ac) (lo hi : Int) (hsz : a.name.length < 9223372036854775808) (h1 : ¬ a.kind < lo) (h2 : ¬ hi < a.kind) :
  Calls Tryz.prog 211 #[.agg (cfC c v), .agg (acC a),I lo,I hi] w fun e w' => e = .returned (I (actE c a lo hi)) ∧ Below w.heap.size w w' := by
 obtain ⟨k,t,ev,n⟩ := a
 dsimp only at h1 h2 hsz
 by_cases k1 : k = 1
 ·subst k1; exact qrp w c v h t ev n lo hi hsz h1 h2
 by_cases k2 : k = 2
 ·subst k2; exact qrt w c v h t ev n lo hi hsz h1 h2
 by_cases k3 : k = 3
 ·subst k3; exact qrq w c v h t ev n lo hi hsz h1 h2
 by_cases k4 : k = 4
 ·subst k4; exact qrr w c v h t ev n lo hi hsz h1 h2
 exact qrs w c v h t ev n lo hi hsz k (by simpa using k1) (by simpa using k2) (by simpa using k3) (by simpa using k4) h1 h2
theorem qnn (w : World) (c : Cf) (v : Vs) (a : Ac) (lo hi : Int) (h0 : ¬ False) (h1 : a.kind < lo) :
  Calls Tryz.prog 211 #[.agg (cfC c v), .agg (acC a),I lo,I hi] w fun e w' => e = .returned (I (actE c a lo hi)) ∧ Below w.heap.size w w' := by
 have hb := qa0 w
 have hb2 := fun o o' => (hb o).trans ((qa0 (w.alloc o) o').mono (hb o).size)
 have HE : Hid (actE c a lo hi = 74) := by
  have hI : inR a.kind lo hi = false := by simp [inR]; intro; omega
  show _ = _
  rw [actE,hI,Bool.false_and,if_pos rfl]
 generalize actE c a lo hi = R at *
 unfold acC
 have f11 : ∀ h : 11 < (cfC c v).size,(cfC c v)[11] = .slice v.t.a v.t.n v.t.c := fun _ => rfl
 have f13 : ∀ h : 13 < (cfC c v).size,(cfC c v)[13] = .slice v.e.a v.e.n v.e.c := fun _ => rfl
 have hs18 : (cfC c v).size = 18 := rfl
 generalize cfC c v = C at *
 replace f11 := f11 (by omega)
 replace f13 := f13 (by omega)
 cases hk1 : a.kind == 1 <;> cases hk3 : a.kind == 3 <;> (go_enter Tryz.func211,Tryz.ntmps211; go_wp2; go_ret; exact ⟨qa3 HE.out.symm,hb2 _ _⟩)
theorem qno (w : World) (c : Cf) (v : Vs) (a : Ac) (lo hi : Int) (h0 : ¬ a.kind < lo) (h1 : hi < a.kind) :
  Calls Tryz.prog 211 #[.agg (cfC c v), .agg (acC a),I lo,I hi] w fun e w' => e = .returned (I (actE c a lo hi)) ∧ Below w.heap.size w w' := by
 have hb := qa0 w
 have hb2 := fun o o' => (hb o).trans ((qa0 (w.alloc o) o').mono (hb o).size)
 have HE : Hid (actE c a lo hi = 74) := by
  have hI : inR a.kind lo hi = false := by simp [inR]; intro; omega
  show _ = _
  rw [actE,hI,Bool.false_and,if_pos rfl]
 generalize actE c a lo hi = R at *
 unfold acC
 have f11 : ∀ h : 11 < (cfC c v).size,(cfC c v)[11] = .slice v.t.a v.t.n v.t.c := fun _ => rfl
 have f13 : ∀ h : 13 < (cfC c v).size,(cfC c v)[13] = .slice v.e.a v.e.n v.e.c := fun _ => rfl
 have hs18 : (cfC c v).size = 18 := rfl
 generalize cfC c v = C at *
 replace f11 := f11 (by omega)
 replace f13 := f13 (by omega)
 cases hk1 : a.kind == 1 <;> cases hk3 : a.kind == 3 <;> (go_enter Tryz.func211,Tryz.ntmps211; go_wp2; go_ret; exact ⟨qa3 HE.out.symm,hb2 _ _⟩)
theorem qdy (w : World) (c : Cf) (v : Vs) (h : CfAt w c v) (a : Ac) (lo hi : Int) (hsz : a.name.length < 9223372036854775808) :
  Calls Tryz.prog 211 #[.agg (cfC c v), .agg (acC a),I lo,I hi] w fun e w' => e = .returned (I (actE c a lo hi)) ∧ Below w.heap.size w w' := by
 by_cases h1 : a.kind < lo
 ·exact qnn w c v a lo hi (fun h => h) h1
 ·by_cases h2 : hi < a.kind
  ·exact qno w c v a lo hi h1 h2
  ·exact qmc w c v h a lo hi hsz h1 h2
end Go.Proofs.YtmidaeljeoifdaaGreatDoor
namespace Go.Proofs.YtmidaeljeoifdaaGreatDoor
set_option linter.unusedSimpArgs false
set_option linter.unusedVariables false
set_option maxHeartbeats 16000000
set_option maxRecDepth 100000
def qbr (e : Int) : Option Int := if e = 0 then none else some e
def resB (c : Cf) (i : Nat) (x : Rs) : Nat → Bool
 | 0 => inR x.kind 1 3
 | 1 => x.kind == 2 || x.link == 0
 | 2 => isId x.link c.ress.length
 | _ => x.kind != 2 || (decide (0 ≤ rootF c c.ress.length i) && rkind c (rootF c c.ress.length i) == 1)
theorem qpg (c : Cf) (i : Nat) (x : Rs) (hi : i < c.ress.length) : qab qaq 0 (resB c i x) = qbr (resE c i x) := by
 unfold qaq
 simp only [qab,resB]
 unfold resE qbr
 cases h1 : inR x.kind 1 3 with
 | false => simp
 | true =>
  cases h2 : (x.kind == 2 || x.link == 0) with
  | false => simp
  | true =>
   cases h3 : x.kind == 2 with
   | false =>
    have hl : x.link = 0 := by rw [h3,Bool.false_or] at h2; simpa using h2
    have hid : isId x.link c.ress.length = true := by rw [hl]; simp [isId]; omega
    have hne : (x.kind != 2) = true := by simp [bne,h3]
    simp [hid,hne]
   | true =>
    have hne : (x.kind != 2) = false := by simp [bne,h3]
    cases h4 : isId x.link c.ress.length with
    | false => simp
    | true =>
     generalize (decide (0 ≤ rootF c c.ress.length i) && rkind c (rootF c c.ress.length i) == 1) = b
     cases b <;> simp [hne]
def ctrB (x : Ct) : Nat → Bool := fun _ => inR x.max 1 2147483647 && inR x.base 1 2147483647 && inR x.min 1 x.max
theorem qph (x : Ct) : qab qat 0 (ctrB x) = qbr (ctrE x) := by
 have e1 : qab qat 0 (ctrB x) = if ctrB x 0 = true then none else some 74 := rfl
 have e2 : ctrE x = if ctrB x 0 = true then 0 else 74 := rfl
 rw [e1,e2]
 cases ctrB x 0 <;> rfl
end Go.Proofs.YtmidaeljeoifdaaGreatDoor
namespace Go.Proofs.YtmidaeljeoifdaaGreatDoor
open Go.RowKit
set_option linter.unusedSimpArgs false
set_option linter.unusedVariables false
set_option maxHeartbeats 16000000
set_option maxRecDepth 100000
structure HS (w W : World) (bc bm g : Nat) (C cur : Array Value) : Prop where
 below : Below w.heap.size w W
 hc : W.heap[bc]? = some (.cells C 47 (0,0))
 hm : W.heap[bm]? = some (.cells #[S [109]] 9 (0,0))
 ht : W.heap[g]? = some (.cells cur 58 (0,0))
 bge : w.heap.size ≤ bc
 gge : w.heap.size ≤ g
end Go.Proofs.YtmidaeljeoifdaaGreatDoor
namespace Go.Proofs.YtmidaeljeoifdaaGreatDoor
set_option linter.unusedSimpArgs false
set_option linter.unusedVariables false
set_option maxHeartbeats 16000000
set_option maxRecDepth 100000
theorem qcb {c : Cf} {j : Nat} {x : Rs} (h : c.ress[j]? = some x) : rkind c (j : Int) = x.kind := by simp [rkind,h]
theorem qkm {c : Cf} {j : Nat} {x : Rs} (h : c.ress[j]? = some x) : rlink c (j : Int) = x.link := by simp [rlink,h]
theorem qeh {j n : Nat} (h : j < n) : isId (j : Int) n = true := by simp [isId]; omega
theorem qnp {cs : List Ck} {k : Nat} {B : Nat → Bool} {e : Int} (h : qab cs k B = some e) (hc : ∀ x ∈ cs,x.code ≠ 0) : e ≠ 0 := by
 induction cs generalizing k with
 | nil => cases h
 | cons x r ih =>
  rw [qab] at h
  split at h
  ·exact ih h (fun y hy => hc y (List.mem_cons_of_mem _ hy))
  ·cases h; exact hc x (List.mem_cons_self ..)
theorem qnq {E : Nat → Option Int} {m j : Nat} {e i : Int} (h : qaw E m j = some (e,i)) (hE : ∀ j e,E j = some e → e ≠ 0) : e ≠ 0 := by
 induction m generalizing j with
 | zero => cases h
 | succ m ih =>
  rw [qaw] at h
  split at h
  ·rename_i c hc
   cases h
   exact hE j _ hc
  ·exact ih h
theorem qnr {names : List (List UInt8)} {lo hi : Int} {cs : List Ck} {B : Nat → Nat → Bool} {e i : Int} (hc : ∀ x ∈ cs,x.code ≠ 0) (h : qai names lo hi cs B = some (e,i)) : e ≠ 0 := by
 unfold qai at h
 split at h
 ·refine qnq h (fun j e he => ?_)
  unfold objF at he
  split at he
  ·cases he
  ·split at he
   ·cases he; omega
   ·exact qnp he hc
 ·cases h; omega
theorem qru {l : List (List UInt8 × Option (Int × Int))} {e i : Int} {wd : List UInt8} (h : qbg l = some (e,wd,i)) (hc : ∀ x ∈ l, ∀ c j,x.2 = some (c,j) → c ≠ 0) : e ≠ 0 := by
 induction l with
 | nil => cases h
 | cons y r ih =>
  obtain ⟨w',o⟩ := y
  rw [qbg] at h
  cases o with
  | some p =>
   obtain ⟨a,b⟩ := p
   cases h
   exact hc _ (List.mem_cons_self ..) _ _ rfl
  | none => exact ih h (fun x hx => hc x (List.mem_cons_of_mem _ hx))
theorem qif {c : Cf} {e i : Int} {wd : List UInt8} (h : allF c = some (e,wd,i)) : e ≠ 0 := by
 refine qru h ?_
 unfold tenR
 simp only [List.forall_mem_cons]
 refine ⟨?_, ?_, ?_, ?_, ?_, ?_, ?_, ?_, ?_, ?_,fun x hx => by cases hx⟩ <;>
  (intro c j hc
   refine qnr ?_ hc
   simp [qaq,qb0,qb3,qat,qah,qbb,qag])
end Go.Proofs.YtmidaeljeoifdaaGreatDoor
