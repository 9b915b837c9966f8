import Derived.Test.YtmidaeljeoifdaaGreatDoorXTid
import Derived.Test.YtmidaeljeoifdaaGreatDoorXTcq
import Derived.Test.YtmidaeljeoifdaaGreatDoorXKrb
import Derived.Deep.WholeRow
namespace Go.Proofs.YtmidaeljeoifdaaGreatDoor
open Go.Maps Go.RowKit Go.Shelf Go.Sort
set_option linter.unusedSimpArgs false
set_option linter.unusedVariables false
set_option maxHeartbeats 16000000
set_option maxRecDepth 100000
def bitN (l : List Int) : Nat := l.foldl (fun m p => m ||| 2 ^ p.toNat) 0
theorem qqq (l : List Int) (x : Int) : bitN (l ++ [x]) = bitN l ||| 2 ^ x.toNat := by simp [bitN]
theorem quk {l : List Int} (h : ∀ x ∈ l,0 ≤ x ∧ x < 32) : bitN l < 4294967296 := by
 unfold bitN
 suffices H : ∀ (l : List Int) (a : Nat),(∀ x ∈ l,0 ≤ x ∧ x < 32) → a < 4294967296 → l.foldl (fun m p => m ||| 2 ^ p.toNat) a < 4294967296 from H l 0 h (by decide)
 intro l
 induction l with
 | nil => intro a _ ha; exact ha
 | cons x r ih =>
  intro a hx ha
  refine ih _ (fun y hy => hx y (List.mem_cons_of_mem _ hy)) (Nat.or_lt_two_pow (n := 32) ha ?_)
  have := hx x (List.mem_cons_self ..)
  exact Nat.pow_lt_pow_right (by decide) (by omega)
theorem qul {p : Nat} (hp : p < 32) : IntKind.u32.wrap ((2 : Int) ^ p) = ((2 ^ p : Nat) : Int) := by
 have h2 : (2 ^ p : Nat) < 2 ^ 32 := Nat.pow_lt_pow_right (by decide) hp
 have : (2 : Int) ^ p = ((2 ^ p : Nat) : Int) := by norm_cast
 rw [this]
 generalize 2 ^ p = y at *
 rw [IntKind.wrap_u32]
 omega
theorem qlf (w : World) (s : Sl) (l : List Int) (hl : RowsAt w 1 intP s l) (hll : l.length ≤ 1048576) (hid : ∀ x ∈ l,0 ≤ x ∧ x < 32) : Calls Tryz.prog 152 #[.slice s.a s.n s.c] w fun e w' => e = .returned (.int .u32 ((bitN l : Nat) : Int)) ∧ w = w' := by
 have H1 : Hid (RowsAt w 1 intP s l) := hl
 have HS : Hid (s.n = l.length) := hl.n
 have hsn : s.n ≤ 1048576 := by have := hl.n; omega
 have hsc : s.n ≤ s.c := hl.c
 have hsm : s.c ≤ maxLen := hl.m
 unfold maxLen at hsm
 have HID : Hid (∀ x ∈ l,0 ≤ x ∧ x < 32) := hid
 clear hl hll hid
 go_enter Tryz.func152,Tryz.ntmps152
 go_wp2
 go_loopw [3,5,8] (fun ov _ iv wr => ∃ j : Nat,j ≤ s.n ∧ iv = .int .i64 j ∧ ov = .int .u32 ((bitN (l.take j) : Nat) : Int) ∧ w = wr) (fun _ _ iv _ => s.n - (intOf iv).toNat)
 case atStart => exact ⟨0,by omega,rfl,rfl,rfl⟩
 case round =>
  obtain ⟨j,hj,rfl,rfl,rfl⟩ := hrel
  by_cases hlt : j < s.n
  ·have hlt' : (j : Int) < s.n := by omega
   obtain ⟨x,hx⟩ : ∃ x,l[j]? = some x := ⟨_,List.getElem?_eq_getElem (by rw [← HS.out]; exact hlt)⟩
   obtain ⟨g5,o5,e5,hg5,b5⟩ := qb9 H1.out hx
   have hi := HID.out x (List.mem_of_getElem? hx)
   obtain ⟨k,rfl⟩ := Int.eq_ofNat_of_zero_le hi.1
   have hk : k < 32 := by omega
   have hk0 : ¬ ((k : Int) < 0) := by omega
   have HT : Hid (bitN (l.take (j + 1)) = bitN (l.take j) ||| 2 ^ k) := by
    show _ = _
    rw [List.take_add_one,hx]
    show bitN (l.take j ++ [(k : Int)]) = _
    rw [qqq,Int.toNat_natCast]
   have h2 : (2 ^ k : Nat) < 4294967296 := Nat.lt_of_lt_of_eq (show (2 ^ k : Nat) < 2 ^ 32 from Nat.pow_lt_pow_right (by decide) hk) (by decide)
   have hor := qqp (bitN (l.take j)) (2 ^ k) (quk (fun y hy => HID.out y (List.mem_of_mem_take hy))) h2
   have hsh := qul hk
   rw [e5]
   have HOR : Hid _ := hor
   have HSH : Hid _ := hsh
   clear hx hi e5 hg5 hor hsh h2
   generalize bitN (l.take j) = m0 at *
   go_wp2
   go_roundw
   case rel => exact ⟨j + 1,by omega,by go_num,by rw [HT.out, ← HOR.out, ← HSH.out]; first | rfl | simp,by first | exact trivial | exact rfl⟩
   case measure => simp [intOf]; omega
  ·obtain rfl : j = s.n := by omega
   have hlt' : ¬ ((s.n : Nat) : Int) < (s.n : Nat) := by omega
   have HE9 : Hid (l.take s.n = l) := by show _ = _; rw [HS.out]; exact List.take_length
   go_wp2
   go_ret
   rw [HE9.out]
   exact ⟨rfl,rfl⟩
def fidF (p : Int → Bool) : Nat → List Int → Int
 | _, [] => -1
 | i,x :: r => if p x = true then (i : Int) else fidF p (i + 1) r
theorem qfr (p : Int → Bool) : ∀ (l : List Int) (i k : Nat) (x : Int),l[k]? = some x → p x = true → (∀ j y,j < k → l[j]? = some y → p y = false) → fidF p i l = ((i + k : Nat) : Int)
 | [],_,_,_,h,_,_ => by simp at h
 | y :: r,i,0,x,h,h0,_ => by simp at h; subst h; simp [fidF,h0]
 | y :: r,i,k + 1,x,h,h0,hn => by
  have hy := hn 0 y (by omega) (by simp)
  rw [fidF,if_neg (by rw [hy]; decide),qfr p r (i + 1) k x (by simpa using h) h0 (fun j z hj hz => hn (j + 1) z (by omega) (by simpa using hz))]
  congr 1
  omega
theorem qi9 (p : Int → Bool) : ∀ (l : List Int) (i : Nat),(∀ (j : Nat) (y : Int),l[j]? = some y → p y = false) → fidF p i l = -1
 | [],_,_ => rfl
 | y :: r,i,hn => by
  rw [fidF,if_neg (by rw [hn 0 y (by simp)]; decide)]
  exact qi9 p r (i + 1) (fun j z hz => hn (j + 1) z (by simpa using hz))
theorem qoj (p : Int → Bool) (l : List Int) : (fidF p 0 l = -1 ∧ ∀ x ∈ l,p x = false) ∨ ∃ (k : Nat) (x : Int),fidF p 0 l = (k : Int) ∧ l[k]? = some x ∧ p x = true := by
 suffices H : ∀ (l : List Int) (i : Nat),(fidF p i l = -1 ∧ ∀ x ∈ l,p x = false) ∨ ∃ (k : Nat) (x : Int),fidF p i l = ((i + k : Nat) : Int) ∧ l[k]? = some x ∧ p x = true by
  rcases H l 0 with h | ⟨k,x,h1,h2,h3⟩
  ·exact .inl h
  ·exact .inr ⟨k,x,by rw [h1]; simp,h2,h3⟩
 intro l
 induction l with
 | nil => intro i; exact .inl ⟨rfl,fun x hx => by simp at hx⟩
 | cons y r ih =>
  intro i
  by_cases hy : p y = true
  ·exact .inr ⟨0,y,by simp [fidF,hy],by simp,hy⟩
  ·rcases ih (i + 1) with ⟨h1,h2⟩ | ⟨k,x,h1,h2,h3⟩
   ·exact .inl ⟨by rw [fidF,if_neg hy]; exact h1,fun x hx => by
     rcases List.mem_cons.1 hx with rfl | hx
     ·simpa using hy
     ·exact h2 x hx⟩
   ·exact .inr ⟨k + 1,x,by rw [fidF,if_neg hy,h1]; congr 1; omega,by simpa using h2,h3⟩
theorem qok (w : World) (s : Sl) (l : List Int) (hl : RowsAt w 1 intP s l) (hll : l.length ≤ 1048576) (f : Nat) (caps : Array Value) (eg : ∀ args W,(callFunc f args).run Tryz.prog W = .ok (.enter f args) W) (p : Int → Bool)
  (hf : ∀ W,Below w.heap.size w W → ∀ x ∈ l,Calls Tryz.prog f (#[I x] ++ caps) W fun e w' => e = .returned (.bool (p x)) ∧ Below W.heap.size W w') :
  Calls Tryz.prog 205 #[.slice s.a s.n s.c, .func (.func f) #[] caps] w fun e w' => e = .returned (I (fidF p 0 l)) ∧ Below w.heap.size w w' := by
 have HS : Hid (s.n = l.length) := hl.n
 have hsn : s.n ≤ 1048576 := by have := hl.n; omega
 have hsc : s.n ≤ s.c := hl.c
 have hsm : s.c ≤ maxLen := hl.m
 unfold maxLen at hsm
 have HH : Hid (∀ W,Below w.heap.size w W → RowsAt W 1 intP s l) := fun W hW => hl.below hW (fun _ _ _ _ h => h)
 have HFF : Hid (∀ W,Below w.heap.size w W → ∀ x ∈ l,Calls Tryz.prog f (#[I x] ++ caps) W fun e w' => e = .returned (.bool (p x)) ∧ Below W.heap.size W w') := hf
 clear hl hf hll
 go_enter Tryz.func205,Tryz.ntmps205
 go_wp2
 go_loopw [5,8] (fun _ iv wr => ∃ j : Nat,j ≤ s.n ∧ iv = .int .i64 j ∧ Hid (Below w.heap.size w wr ∧ ∀ i y,i < j → l[i]? = some y → p y = false)) (fun _ iv _ => s.n - (intOf iv).toNat)
 case atStart => exact ⟨0,by omega,rfl,Below.refl _ _,fun i y hi => absurd hi (by omega)⟩
 case round =>
  obtain ⟨j,hj,rfl,HJ⟩ := hrel
  by_cases hlt : j < s.n
  ·have hlt' : (j : Int) < s.n := by omega
   obtain ⟨x,hx⟩ : ∃ x,l[j]? = some x := ⟨_,List.getElem?_eq_getElem (by rw [← HS.out]; exact hlt)⟩
   obtain ⟨g5,o5,e5,hg5,b5⟩ := qb9 (HH.out _ HJ.out.1) hx
   have cx := HFF.out _ HJ.out.1 x (List.mem_of_getElem? hx)
   rw [e5]
   clear e5 hg5
   cases hpx : p x with
   | false =>
    rw [hpx] at cx
    have HN : Hid (∀ i y,i < j + 1 → l[i]? = some y → p y = false) := fun i y hi hy => by
     by_cases e : i = j
     ·subst e; rw [hx] at hy; cases hy; exact hpx
     ·exact HJ.out.2 i y (by omega) hy
    have HB : Hid (Below w.heap.size w wr) := HJ.out.1
    clear HJ hx hpx
    go_wp2_with (first | fail)
    refine cx.mono ?_
    clear cx
    rintro e7 w7 ⟨rfl,hb7⟩
    have H9 : Hid (Below w.heap.size w w7) := HB.out.trans (hb7.mono HB.out.size)
    clear hb7
    go_wp2
    go_roundw
    case rel => exact ⟨j + 1,by omega,by go_num,H9.out,HN.out⟩
    case measure => simp [intOf]; omega
   | true =>
    rw [hpx] at cx
    have HR : Hid (fidF p 0 l = (j : Int)) := by
     have := qfr p l 0 j x hx hpx HJ.out.2
     show _ = _
     rw [this]
     simp
    have HB : Hid (Below w.heap.size w wr) := HJ.out.1
    clear HJ hx hpx
    go_wp2_with (first | fail)
    refine cx.mono ?_
    clear cx
    rintro e7 w7 ⟨rfl,hb7⟩
    have H9 : Hid (Below w.heap.size w w7) := HB.out.trans (hb7.mono HB.out.size)
    clear hb7
    go_wp2
    go_ret
    rw [HR.out]
    exact ⟨rfl,H9.out⟩
  ·obtain rfl : j = s.n := by omega
   have hlt' : ¬ ((s.n : Nat) : Int) < (s.n : Nat) := by omega
   have HR : Hid (fidF p 0 l = -1) := qi9 p l 0 (fun i y hy => HJ.out.2 i y (by rw [HS.out]; exact (List.getElem?_eq_some_iff.1 hy).1) hy)
   go_wp2
   go_ret
   rw [HR.out]
   exact ⟨rfl,HJ.out.1⟩
theorem qqr (w : World) (s : Sl) (l : List Int) (hl : RowsAt w 1 intP s l) (hll : l.length ≤ 1048576) (f : Nat) (caps : Array Value) (eg : ∀ args W,(callFunc f args).run Tryz.prog W = .ok (.enter f args) W) (p : Int → Bool)
  (hf : ∀ W,Below w.heap.size w W → ∀ x ∈ l,Calls Tryz.prog f (#[I x] ++ caps) W fun e w' => e = .returned (.bool (p x)) ∧ Below W.heap.size W w') :
  Calls Tryz.prog 207 #[.slice s.a s.n s.c, .func (.func f) #[] caps] w fun e w' => (∃ a c,e = .returned (.slice a (l.filter p).length c) ∧ qa9 w' w.heap.size (l.filter p) (.slice a (l.filter p).length c)) ∧ Below w.heap.size w w' := by
 obtain ⟨im,him,hm0,hm1,hm2⟩ := info_parts qhl
 have HS : Hid (s.n = l.length) := hl.n
 have hsn : s.n ≤ 1048576 := by have := hl.n; omega
 have hsc : s.n ≤ s.c := hl.c
 have hsm : s.c ≤ maxLen := hl.m
 unfold maxLen at hsm
 have HH : Hid (∀ W,Below w.heap.size w W → RowsAt W 1 intP s l) := fun W hW => hl.below hW (fun _ _ _ _ h => h)
 have HFF : Hid (∀ W,Below w.heap.size w W → ∀ x ∈ l,Calls Tryz.prog f (#[I x] ++ caps) W fun e w' => e = .returned (.bool (p x)) ∧ Below W.heap.size W w') := hf
 clear hl hf hll
 go_enter Tryz.func207,Tryz.ntmps207
 go_wp2
 go_loopw [5,7,10] (fun ov _ iv wr => ∃ (j q : Nat) (a : Option Addr) (c : Nat),j ≤ s.n ∧ q ≤ j ∧ iv = .int .i64 j ∧ ov = .slice a q c ∧ Hid (q = ((l.take j).filter p).length ∧ qa9 wr w.heap.size ((l.take j).filter p) (.slice a q c) ∧ Below w.heap.size w wr)) (fun _ _ iv _ => s.n - (intOf iv).toNat)
 case atStart => exact ⟨0,0,none,0,by omega,by omega,rfl,rfl,by simp,World.ownsRow_nil _ _ _ _,Below.refl _ _⟩
 case round =>
  obtain ⟨j,q,a,c,hj,hq,rfl,rfl,HJ⟩ := hrel
  by_cases hlt : j < s.n
  ·have hlt' : (j : Int) < s.n := by omega
   obtain ⟨x,hx⟩ : ∃ x,l[j]? = some x := ⟨_,List.getElem?_eq_getElem (by rw [← HS.out]; exact hlt)⟩
   obtain ⟨g5,o5,e5,hg5,b5⟩ := qb9 (HH.out _ HJ.out.2.2) hx
   have cx := HFF.out _ HJ.out.2.2 x (List.mem_of_getElem? hx)
   have HTk : Hid (l.take (j + 1) = l.take j ++ [x]) := by show _ = _; rw [List.take_add_one,hx]; rfl
   rw [e5]
   clear hx e5 hg5
   cases hpx : p x with
   | false =>
    rw [hpx] at cx
    have HJ2 : Hid (q = ((l.take (j + 1)).filter p).length ∧ qa9 wr w.heap.size ((l.take (j + 1)).filter p) (.slice a q c) ∧ Below w.heap.size w wr) := by
     have e9 : (l.take (j + 1)).filter p = (l.take j).filter p := by rw [HTk.out,List.filter_append]; simp [hpx]
     rw [e9]; exact HJ.out
    clear HJ
    go_wp2_with (first | fail)
    refine cx.mono ?_
    clear cx
    rintro e7 w7 ⟨rfl,hb7⟩
    have H9 : Hid (q = ((l.take (j + 1)).filter p).length ∧ qa9 w7 w.heap.size ((l.take (j + 1)).filter p) (.slice a q c) ∧ Below w.heap.size w w7) := ⟨HJ2.out.1,qbi HJ2.out.2.1 hb7,HJ2.out.2.2.trans (hb7.mono HJ2.out.2.2.size)⟩
    clear hb7 HJ2
    go_wp2
    go_roundw
    case rel => exact ⟨j + 1,q,a,c,by omega,by omega,by go_num,rfl,H9.out⟩
    case measure => simp [intOf]; omega
   | true =>
    rw [hpx] at cx
    go_wp2_with (first | fail)
    refine cx.mono ?_
    clear cx
    rintro e7 w7 ⟨rfl,hb7⟩
    have o7 : w7.ownsRow w.heap.size 3 1 (.slice a q c) q (((l.take j).filter p).map fun x => I x) := by
     have := qbi HJ.out.2.1 hb7
     unfold qa9 at this
     rw [← HJ.out.1] at this
     exact this
    have B7 : Below w.heap.size w w7 := HJ.out.2.2.trans (hb7.mono HJ.out.2.2.size)
    have HQ : Hid (q = ((l.take j).filter p).length) := HJ.out.1
    have s7 := B7.size
    clear hb7 HJ
    have hnew := qb8 w7 #[I x] 3
    generalize hXS : (((l.take j).filter p).map fun x => I x) = XS at *
    go_wp2_with (first
     | (at_builtin; refine wpList_append_own _ rfl (.tmp 17) (.tmp 19) 54 rfl w.heap.size 3 im _ 1 8 Tryz.underlying54 him hm0 hm1 hm2 rfl (by decide) _ _ _ rfl (o7.alloc _) ⟨w7.heap.size,0,none⟩ 1 1 (#[I x] : Array Value).toList rfl rfl hnew (by intro u hu; simp at hu; subst hu; rfl) (by unfold maxLen; omega) (by omega) (by simp; omega) ?_))
    intro v8 w8 o8 g8 _
    obtain ⟨a8,k8,rfl⟩ := qbc o8
    have H9 : Hid (q + 1 = ((l.take (j + 1)).filter p).length ∧ qa9 w8 w.heap.size ((l.take (j + 1)).filter p) (.slice a8 (q + 1) k8) ∧ Below w.heap.size w w8) := by
     have e9 : (l.take (j + 1)).filter p = (l.take j).filter p ++ [x] := by rw [HTk.out,List.filter_append]; simp [hpx]
     rw [e9]
     refine ⟨by rw [List.length_append, ← HQ.out]; rfl, ?_,(B7.alloc B7.size _).grown g8 (by simp; omega) (fun k e => (o7.lt k e).1)⟩
     unfold qa9
     rw [List.length_append, ← HQ.out,List.map_append,hXS]
     exact o8
    clear o8 g8 o7 B7 hnew hXS
    go_wp2
    go_roundw
    case rel => exact ⟨j + 1,q + 1,a8,k8,by omega,by omega,by go_num,rfl,H9.out⟩
    case measure => simp [intOf]; omega
  ·obtain rfl : j = s.n := by omega
   have hlt' : ¬ ((s.n : Nat) : Int) < (s.n : Nat) := by omega
   have HE : Hid (q = (l.filter p).length ∧ qa9 wr w.heap.size (l.filter p) (.slice a q c) ∧ Below w.heap.size w wr) := by
    have := HJ.out
    rwa [List.take_of_length_le (by rw [HS.out]; exact Nat.le_refl _)] at this
   clear HJ
   go_wp2
   go_ret
   obtain ⟨h1,h2,h3⟩ := HE.out
   subst h1
   exact ⟨⟨a,c,rfl,h2⟩,h3⟩
def innB (c : Cf) (id : Int) : Bool := rkind c id == 3
theorem qd9 (w : World) (c : Cf) (v : Vs) (h : CfAt w c v) (id : Int) (hid : 0 ≤ id ∧ id < c.ress.length) : Calls Tryz.prog 153 #[.agg (cfC c v),I id] w fun e w' => e = .returned (.bool (innB c id)) ∧ Below w.heap.size w w' := by
 have hb := qa0 w (.cells (cfC c v) 47)
 have hV := heap_alloc_new w (.cells (cfC c v) 47)
 obtain ⟨_,_,_,h12,_⟩ := qao hV
 obtain ⟨hi0,hi1⟩ := hid
 have hlt : id.toNat < c.ress.length := by omega
 obtain ⟨x,hx⟩ : ∃ x,c.ress[id.toNat]? = some x := ⟨_,List.getElem?_eq_getElem hlt⟩
 obtain ⟨g,off,e,hg,a0,a1,a2⟩ := qb5 (h.below hb) hx
 have hn : v.r.n = c.ress.length := h.r.n
 have hc : v.r.n ≤ v.r.c := h.r.c
 have hm : v.r.c ≤ maxLen := h.r.m
 unfold maxLen at hm
 have hi2 : id < (v.r.n : Int) := by rw [hn]; exact hi1
 have HI : Hid (innB c id = (x.kind == 3)) := by show _ = _; unfold innB rkind; rw [hx]
 obtain ⟨R,hR⟩ : ∃ R,R = innB c id := ⟨_,rfl⟩
 rw [← hR]
 have HR : Hid (R = (x.kind == 3)) := by rw [hR]; exact HI.out
 rw [e] at h12
 have HB : Hid _ := hb
 clear hx h hR HI hn hi1 e hlt hV a0 a2 hb
 generalize x.kind = xk at *
 generalize hCC : cfC c v = C at *
 clear hCC
 go_enter Tryz.func153,Tryz.ntmps153
 go_wp2
 go_ret
 exact ⟨qa2 (by rw [HR.out]),HB.out⟩
theorem qsq (w : World) (c : Cf) (v : Vs) (h : CfAt w c v) (BC : Nat) (hBC : w.heap[BC]? = some (.cells (cfC c v) 47)) (id : Int) (hid : 0 ≤ id ∧ id < c.ress.length) : Calls Tryz.prog 208 (#[I id] ++ #[.pointer (some ⟨BC,0,none⟩)]) w fun e w' => e = .returned (.bool (!innB c id)) ∧ Below w.heap.size w w' := by
 have hi18 : (Tryz.prog.info? 47).map (·.size) = some (cfC c v).size := by rw [show (cfC c v).size = 18 from rfl]; kernel_rfl
 have k1 := qd9 w c v h id hid
 generalize innB c id = R at *
 clear h
 generalize cfC c v = C at *
 go_enter Tryz.func208,Tryz.ntmps208
 go_wp2_with (first | (with_reducible refine qa8 ?_; refine wpList_load_row rfl 47 _ rfl BC rfl 47 _ (0,0) _ hBC Tryz.underlying47 rfl hi18 ?_) | (go_at_call 153; refine k1.mono ?_; clear k1; rintro e w1 ⟨rfl,b1⟩))
 go_ret
 exact ⟨rfl,b1⟩
theorem qji (w : World) (c : Cf) (v : Vs) (h : CfAt w c v) (BC : Nat) (hBC : w.heap[BC]? = some (.cells (cfC c v) 47)) (id : Int) (hid : 0 ≤ id ∧ id < c.ress.length) : Calls Tryz.prog 206 (#[I id] ++ #[.pointer (some ⟨BC,0,none⟩)]) w fun e w' => e = .returned (.bool (innB c id)) ∧ Below w.heap.size w w' := by
 have hi18 : (Tryz.prog.info? 47).map (·.size) = some (cfC c v).size := by rw [show (cfC c v).size = 18 from rfl]; kernel_rfl
 have k1 := qd9 w c v h id hid
 generalize innB c id = R at *
 clear h
 generalize cfC c v = C at *
 go_enter Tryz.func206,Tryz.ntmps206
 go_wp2_with (first | (with_reducible refine qa8 ?_; refine wpList_load_row rfl 47 _ rfl BC rfl 47 _ (0,0) _ hBC Tryz.underlying47 rfl hi18 ?_) | (go_at_call 153; refine k1.mono ?_; clear k1; rintro e w1 ⟨rfl,b1⟩))
 go_ret
 exact ⟨rfl,b1⟩
def inlI (c : Cf) (cl l : List Int) : Int := if fidF (innB c) 0 l < 0 then -1 else cl.getD (l.getD (fidF (innB c) 0 l).toNat 0).toNat 0
theorem qlg (w : World) (c : Cf) (v : Vs) (h : CfAt w c v) (E : Array Value) (lr : Sl) (cl : List Int) (hE0 : E[0]? = some (.slice lr.a lr.n lr.c)) (hcl : RowsAt w 1 intP lr cl) (hcn : cl.length = c.ress.length) (s : Sl) (l : List Int) (hl : RowsAt w 1 intP s l) (hll : l.length ≤ 1048576) (hid : ∀ x ∈ l,0 ≤ x ∧ x < c.ress.length) : Calls Tryz.prog 150 #[.agg (cfC c v), .agg E, .slice s.a s.n s.c] w fun e w' => e = .returned (I (inlI c cl l)) ∧ Below w.heap.size w w' := by
 have hb : Below w.heap.size w ((w.alloc (.cells (cfC c v) 47)).alloc (.cells E 82)) := (qa0 w _).trans ((qa0 _ _).mono (by simp))
 have hV1 : ((w.alloc (.cells (cfC c v) 47)).alloc (.cells E 82)).heap[w.heap.size]? = some (.cells (cfC c v) 47) := by
  rw [heap_alloc_old _ _ (by simp)]; exact heap_alloc_new w _
 have hV2 : ((w.alloc (.cells (cfC c v) 47)).alloc (.cells E 82)).heap[w.heap.size + 1]? = some (.cells E 82) := by
  have := heap_alloc_new (w.alloc (.cells (cfC c v) 47)) (.cells E 82)
  rw [World.size_alloc] at this
  exact this
 have k1 := qok ((w.alloc (.cells (cfC c v) 47)).alloc (.cells E 82)) s l (hl.below hb (fun _ _ _ _ h => h)) hll 206 #[.pointer (some ⟨w.heap.size,0,none⟩)] (enters_of Tryz.func206 (by kernel_rfl) rfl) (innB c) (fun W hW x hx => qji W c v ((h.below hb).below hW) w.heap.size ((hW.block _ (qa1 hV1)).trans hV1) x (hid x hx))
 have HV : Hid (∀ W,Below ((w.alloc (.cells (cfC c v) 47)).alloc (.cells E 82)).heap.size ((w.alloc (.cells (cfC c v) 47)).alloc (.cells E 82)) W → W.cell? ⟨w.heap.size + 1,0,none⟩ = some (.slice lr.a lr.n lr.c)) := fun W hW => by
  rw [cell_of_row W _ 0 _ _ (0,0) ((hW.block _ (qa1 hV2)).trans hV2)]; exact hE0
 have HB : Hid (Below w.heap.size w ((w.alloc (.cells (cfC c v) 47)).alloc (.cells E 82))) := hb
 have HH : Hid (∀ W,Below w.heap.size w W → RowsAt W 1 intP s l ∧ RowsAt W 1 intP lr cl) := fun W hW => ⟨hl.below hW (fun _ _ _ _ h => h),hcl.below hW (fun _ _ _ _ h => h)⟩
 have HS : Hid (s.n = l.length ∧ lr.n = cl.length ∧ cl.length = c.ress.length) := ⟨hl.n,hcl.n,hcn⟩
 have hsn : s.n ≤ 1048576 := by have := hl.n; omega
 have hsc : s.n ≤ s.c := hl.c
 have hsm : s.c ≤ maxLen := hl.m
 have hlc : lr.n ≤ lr.c := hcl.c
 have hlm : lr.c ≤ maxLen := hcl.m
 unfold maxLen at hsm hlm
 have HID : Hid (∀ x ∈ l,0 ≤ x ∧ x < c.ress.length) := hid
 clear hV1 hV2 hb h hl hcl hll hid hE0 hcn
 generalize hCC : cfC c v = C at *
 clear hCC
 rcases qoj (innB c) l with ⟨e0,_⟩ | ⟨k,x,e0,hx,_⟩
 ·have HR : Hid (inlI c cl l = -1) := by show _ = _; unfold inlI; rw [e0]; rfl
  rw [e0] at k1
  rw [HR.out]
  clear e0
  go_enter Tryz.func150,Tryz.ntmps150
  go_upto_region 1 with fail
  generalize hW : (w.alloc (.cells C 47)).alloc (.cells E 82) = W1 at *
  clear hW
  go_wp2_with (first | (go_at_call 205; refine k1.mono ?_; clear k1; rintro e w1 ⟨rfl,b1⟩; have H1 : Hid (Below w.heap.size w w1) := HB.out.trans (b1.mono HB.out.size); clear b1))
  go_ret
  exact ⟨rfl,H1.out⟩
 ·have hi := HID.out x (List.mem_of_getElem? hx)
  obtain ⟨m,rfl⟩ := Int.eq_ofNat_of_zero_le hi.1
  have hm : m < cl.length := by have := HS.out.2.2; omega
  obtain ⟨y,hy⟩ : ∃ y,cl[m]? = some y := ⟨_,List.getElem?_eq_getElem hm⟩
  have hk : k < l.length := (List.getElem?_eq_some_iff.1 hx).1
  have HR : Hid (inlI c cl l = y) := by
   show _ = _
   unfold inlI
   rw [e0,if_neg (by omega),Int.toNat_natCast,List.getD_eq_getElem?_getD,List.getD_eq_getElem?_getD,hx,Option.getD_some,Int.toNat_natCast,hy]
   rfl
  rw [e0] at k1
  rw [HR.out]
  have hkI : (k : Int) < s.n := by have := HS.out.1; omega
  have hk0 : ¬ ((k : Int) < 0) := by omega
  have hmI : (m : Int) < lr.n := by have := HS.out.2.1; omega
  have HX : Hid (l[k]? = some (m : Int) ∧ cl[m]? = some y) := ⟨hx,hy⟩
  clear e0 hx hy hi hm hk
  go_enter Tryz.func150,Tryz.ntmps150
  go_upto_region 1 with fail
  generalize hW : (w.alloc (.cells C 47)).alloc (.cells E 82) = W1 at *
  clear hW
  go_upto_region 4 with (first | (go_at_call 205; refine k1.mono ?_; clear k1; rintro e w1 ⟨rfl,b1⟩; have q0 := HV.out w1 b1; have H1 : Hid (Below w.heap.size w w1) := HB.out.trans (b1.mono HB.out.size); clear b1))
  obtain ⟨g5,o5,e5,hg5,b5⟩ := qb9 (HH.out w1 H1.out).1 HX.out.1
  obtain ⟨g6,o6,e6,hg6,b6⟩ := qb9 (HH.out w1 H1.out).2 HX.out.2
  rw [e6] at q0
  rw [e5]
  have z0 := cell_regrown q0
  have z5 := cell_regrown b5
  have z6 := cell_regrown b6
  clear q0 b5 b6 e5 e6 hg5 hg6 HX
  refine wp_region_quiet_below (by kernel_rfl) (by kernel_rfl) ?_
  repeat (go_big_quiet_step (first | fail))
  refine wpQuiet_nil ?_
  rintro _ ⟨⟨dq,osq⟩,rfl⟩
  dsimp only
  have H2 : Hid (Below w.heap.size w (grow (redrawn w1 dq) osq)) := H1.out.trans ((below_regrown w1 dq osq).mono H1.out.size)
  clear z0 z5 z6
  generalize grow (redrawn w1 dq) osq = w7 at *
  go_wp2
  go_ret
  exact ⟨rfl,H2.out⟩
theorem qda (w : World) (o o2 : Obj) : ((w.alloc o).alloc o2).heap[w.heap.size + 1]? = some o2 := by
 have := heap_alloc_new (w.alloc o) o2
 rw [World.size_alloc] at this
 exact this
theorem qia (w : World) (x : Ct) : Calls Tryz.prog 88 (#[.agg #[S x.name, .int .u32 (x.max : Int), .int .u32 (x.base : Int), .int .u32 (x.min : Int)]] ++ #[]) w fun e w' => e = .returned (.agg #[.int .u32 (x.max : Int), .int .u32 (x.base : Int), .int .u32 (x.min : Int)]) ∧ Below w.heap.size w w' := by
 have hb : ∀ o o2,Below w.heap.size w ((w.alloc o).alloc o2) := fun o o2 => (qa0 w o).trans ((qa0 _ o2).mono (by simp))
 have hi3 : (Tryz.prog.info? 91).map (·.size) = some 3 := by kernel_rfl
 go_enter Tryz.func88,Tryz.ntmps88
 go_wp2
 refine bodyPost_ret (results_cell_row rfl _ _ (w.heap.size + 1) 91 _ (0,0) _ rfl (qda _ _ _) Tryz.underlying91 rfl hi3) rfl ?_
 exact ⟨rfl,hb _ _⟩
def actM (c : Cf) (a : Ac) : Nat := if a.kind = 2 then evM c a.event else 0
theorem qdj (w : World) (o : Obj) {g : Nat} {x : Obj} (h : w.heap[g]? = some x) : (w.alloc o).heap[g]? = some x := by
 have hg : g < w.heap.size := by
  rcases Nat.lt_or_ge g w.heap.size with h' | h'
  ·exact h'
  ·rw [Array.getElem?_eq_none h'] at h; cases h
 rw [heap_alloc_old w o hg]; exact h
theorem qmx (w : World) (o1 o2 o3 o4 : Obj) : ((((w.alloc o1).alloc o2).alloc o3).alloc o4).heap[w.heap.size + 1 + 1]? = some o3 := by
 have h := heap_alloc_new ((w.alloc o1).alloc o2) o3
 rw [World.size_alloc,World.size_alloc] at h
 exact qdj _ o4 h
theorem qsr (w : World) (o1 o2 o3 o4 : Obj) : Below w.heap.size w ((((w.alloc o1).alloc o2).alloc o3).alloc o4) :=
 (((qa0 w o1).trans ((qa0 _ o2).mono (by simp))).trans ((qa0 _ o3).mono (by simp; omega))).trans ((qa0 _ o4).mono (by simp; omega))
theorem qgb (w : World) (c : Cf) (v : Vs) (h : CfAt w c v) (a : Ac) (hid : a.kind = 2 → 0 ≤ a.event ∧ a.event < c.evs.length) : Calls Tryz.prog 156 #[.agg (cfC c v), .agg #[I a.kind,I a.task,I a.event,S a.name]] w fun e w' => e = .returned (.agg #[I a.kind,I a.task, .int .u32 ((actM c a : Nat) : Int)]) ∧ Below w.heap.size w w' := by
 have hi3 : (Tryz.prog.info? 93).map (·.size) = some 3 := by kernel_rfl
 have hb := qsr w
 by_cases h2 : a.kind = 2
 ·obtain ⟨k0,k1⟩ := hid h2
  obtain ⟨k,hk⟩ := Int.eq_ofNat_of_zero_le k0
  have hkl : k < c.evs.length := by omega
  obtain ⟨y,hy⟩ : ∃ y,c.evs[k]? = some y := ⟨_,List.getElem?_eq_getElem hkl⟩
  have HR : Hid (actM c a = y.mask) := by show _ = _; unfold actM evM; rw [if_pos h2,hk,Int.toNat_natCast,hy]
  rw [HR.out]
  have HQ : Hid (∀ o2 o3 o4,((((w.alloc (.cells (cfC c v) 47)).alloc o2).alloc o3).alloc o4).cell? ⟨w.heap.size,13,none⟩ = some (.slice v.e.a v.e.n v.e.c)) := fun o2 o3 o4 => by
   rw [cell_of_row _ _ 13 _ _ (0,0) (qdj _ _ (qdj _ _ (qdj _ _ (heap_alloc_new w _))))]; rfl
  obtain ⟨g6,o6,e6,hg6, -,b6, -⟩ := qds h hy
  have q13 := HQ.out
  rw [e6] at q13
  have b6' : ∀ o1 o2 o3 o4,((((w.alloc o1).alloc o2).alloc o3).alloc o4).cell? ⟨g6,o6 + k * 3 + 1,none⟩ = some (.int .u32 (y.mask : Int)) := fun o1 o2 o3 o4 => by
   rw [World.cell?_of_block ((hb o1 o2 o3 o4).block g6 hg6)]
   exact b6
  have hkI : (k : Int) < v.e.n := by have := h.e.n; omega
  have hec : v.e.n ≤ v.e.c := h.e.c
  have hem : v.e.c ≤ maxLen := h.e.m
  unfold maxLen at hem
  have hkd : a.kind = 2 := h2
  obtain ⟨ak,at',ae,an⟩ := a
  dsimp only at hk hkd k0 k1
  subst hk hkd
  clear h hid HQ hy hkl e6 hg6 b6 h2 HR k0 k1
  generalize cfC c v = C at *
  generalize y.mask = my at *
  go_enter Tryz.func156,Tryz.ntmps156
  go_wp2
  refine bodyPost_ret (results_cell_row rfl _ _ (w.heap.size + 1 + 1) 93 _ (0,0) _ rfl (qmx _ _ _ _ _) Tryz.underlying93 rfl hi3) rfl ?_
  exact ⟨rfl,hb _ _ _ _⟩
 ·have HR : Hid (actM c a = 0) := by show _ = _; unfold actM; rw [if_neg h2]
  rw [HR.out]
  have h2b : (a.kind == 2) = false := beq_eq_false_iff_ne.2 h2
  clear hid h
  generalize cfC c v = C at *
  go_enter Tryz.func156,Tryz.ntmps156
  go_wp2
  refine bodyPost_ret (results_cell_row rfl _ _ (w.heap.size + 1 + 1) 93 _ (0,0) _ rfl (qmx _ _ _ _ _) Tryz.underlying93 rfl hi3) rfl ?_
  exact ⟨rfl,hb _ _ _ _⟩
def ownL (c : Cf) (l : List Int) : List Int := l.filter (fun x => !innB c x) ++ (if c.o8 then [(c.ress.length : Int)] else [])
theorem qss (w : World) (c : Cf) (v : Vs) (h : CfAt w c v) (s : Sl) (l : List Int) (hl : RowsAt w 1 intP s l) (hll : l.length ≤ 1048576) (hid : ∀ x ∈ l,0 ≤ x ∧ x < c.ress.length) : Calls Tryz.prog 151 #[.agg (cfC c v), .slice s.a s.n s.c] w fun e w' => ∃ so : Sl,e = .returned (.slice so.a so.n so.c) ∧ qa9 w' w.heap.size (ownL c l) (.slice so.a so.n so.c) ∧ Below w.heap.size w w' := by
 obtain ⟨im,him,hm0,hm1,hm2⟩ := info_parts qhl
 have hb := qa0 w (.cells (cfC c v) 47)
 have hV := heap_alloc_new w (.cells (cfC c v) 47)
 have k1 := qqr (w.alloc (.cells (cfC c v) 47)) s l (hl.below hb (fun _ _ _ _ h => h)) hll 208 #[.pointer (some ⟨w.heap.size,0,none⟩)] (enters_of Tryz.func208 (by kernel_rfl) rfl) (fun x => !innB c x) (fun W hW x hx => qsq W c v ((h.below hb).below hW) w.heap.size ((hW.block _ (qa1 hV)).trans hV) x (hid x hx))
 have HV : Hid (∀ W,Below (w.alloc (.cells (cfC c v) 47)).heap.size (w.alloc (.cells (cfC c v) 47)) W → W.cell? ⟨w.heap.size,9,none⟩ = some (.bool c.o8) ∧ W.cell? ⟨w.heap.size,12,none⟩ = some (.slice v.r.a v.r.n v.r.c)) := fun W hW => by
  have hv := (hW.block _ (qa1 hV)).trans hV
  exact ⟨by rw [cell_of_row W _ 9 _ _ (0,0) hv]; rfl,by rw [cell_of_row W _ 12 _ _ (0,0) hv]; rfl⟩
 have HN : Hid (v.r.n = c.ress.length) := h.r.n
 have HB : Hid _ := hb
 have HL : Hid ((l.filter (fun x => !innB c x)).length ≤ 1048576) := Nat.le_trans (List.length_filter_le _ _) hll
 have HSZ : Hid (w.heap.size ≤ (w.alloc (.cells (cfC c v) 47)).heap.size) := hb.size
 obtain ⟨L,hLL⟩ : ∃ L,L = l.filter (fun x => !innB c x) := ⟨_,rfl⟩
 have HO : Hid (ownL c l = L ++ (if c.o8 then [(v.r.n : Int)] else [])) := by show _ = _; unfold ownL; rw [hLL,HN.out]
 rw [HO.out]
 rw [← hLL] at k1 HL
 clear hLL hl hll hid h hV hb HO
 generalize hCC : cfC c v = C at *
 clear hCC
 generalize c.o8 = o8 at *
 go_enter Tryz.func151,Tryz.ntmps151
 go_upto_region 1 with fail
 generalize hW : w.alloc (.cells C 47) = W1 at *
 clear hW
 go_upto_region 2 with (first | (go_at_call 207; refine k1.mono ?_; clear k1; rintro e w1 ⟨⟨a1,c1,rfl,i1⟩,b1⟩))
 obtain ⟨q9,q12⟩ := HV.out w1 b1
 have B1 : Below w.heap.size w w1 := HB.out.trans (b1.mono HB.out.size)
 have hL := HL.out
 generalize hn : L.length = n at *
 cases o8 with
 | false =>
  have HI : Hid (qa9 w1 w.heap.size L (.slice a1 n c1)) := qby i1 HSZ.out
  have HB1 : Hid _ := B1
  clear i1 b1 B1
  go_wp2
  go_ret
  refine ⟨⟨a1,n,c1⟩,rfl, ?_,HB1.out⟩
  simp only [Bool.false_eq_true,if_false,List.append_nil]
  exact HI.out
 | true =>
  have o7 : w1.ownsRow W1.heap.size 3 1 (.slice a1 n c1) n (L.map fun x => I x) := by
   unfold qa9 at i1
   rw [hn] at i1
   exact i1
  have s7 := b1.size
  have hnew := qb8 w1 #[I (v.r.n : Int)] 3
  have HB1 : Hid _ := B1
  have Hb1 : Hid _ := b1
  have HNN : Hid (L.length = n) := hn
  generalize hXS : (L.map fun x => I x) = XS at *
  clear i1 B1 b1 hn
  go_wp2_with (first
   | (at_builtin; refine wpList_append_own _ rfl (.tmp 12) (.tmp 16) 54 rfl W1.heap.size 3 im _ 1 8 Tryz.underlying54 him hm0 hm1 hm2 rfl (by decide) _ _ _ rfl (o7.alloc _) ⟨w1.heap.size,0,none⟩ 1 1 (#[I (v.r.n : Int)] : Array Value).toList rfl rfl hnew (by intro u hu; simp at hu; subst hu; rfl) (by unfold maxLen; omega) (by omega) (by simp; omega) ?_))
  intro v8 w8 o8 g8 _
  obtain ⟨a8,k8,rfl⟩ := qbc o8
  have H9 : Hid (qa9 w8 w.heap.size (L ++ [(v.r.n : Int)]) (.slice a8 (n + 1) k8) ∧ Below w.heap.size w w8) := by
   refine ⟨?_,(HB1.out.trans ((qa0 w1 _).mono HB1.out.size)).grown g8 (by have := HB1.out.size; simp; omega) (fun k e => Nat.le_trans HSZ.out (o7.lt k e).1)⟩
   refine qby (B' := W1.heap.size) ?_ HSZ.out
   unfold qa9
   rw [List.length_append,HNN.out,List.map_append,hXS]
   exact o8
  clear o8 g8 o7 hnew hXS
  go_wp2
  go_ret
  refine ⟨⟨a8,n + 1,k8⟩,rfl, ?_,H9.out.2⟩
  simp only [if_true]
  exact H9.out.1
theorem qum (w : World) (s : Sl) (l : List Int) (hl : RowsAt w 1 intP s l) (hll : l.length ≤ 1048576) (p : Int) : Calls Tryz.prog 148 #[.slice s.a s.n s.c,I p] w fun e w' => e = .returned (I (fidF (fun x => x == p) 0 l)) ∧ w = w' := by
 have HS : Hid (s.n = l.length) := hl.n
 have hsn : s.n ≤ 1048576 := by have := hl.n; omega
 have hsc : s.n ≤ s.c := hl.c
 have hsm : s.c ≤ maxLen := hl.m
 unfold maxLen at hsm
 have HH : Hid (RowsAt w 1 intP s l) := hl
 clear hl hll
 go_enter Tryz.func148,Tryz.ntmps148
 go_wp2
 go_loopw [5,8] (fun _ iv wr => ∃ j : Nat,j ≤ s.n ∧ iv = .int .i64 j ∧ w = wr ∧ Hid (∀ i y,i < j → l[i]? = some y → (y == p) = false)) (fun _ iv _ => s.n - (intOf iv).toNat)
 case atStart => exact ⟨0,by omega,rfl,rfl,fun i y hi => absurd hi (by omega)⟩
 case round =>
  obtain ⟨j,hj,rfl,rfl,HJ⟩ := hrel
  by_cases hlt : j < s.n
  ·have hlt' : (j : Int) < s.n := by omega
   obtain ⟨x,hx⟩ : ∃ x,l[j]? = some x := ⟨_,List.getElem?_eq_getElem (by rw [← HS.out]; exact hlt)⟩
   obtain ⟨g5,o5,e5,hg5,b5⟩ := qb9 HH.out hx
   have b5' := cell_regrown b5
   rw [e5]
   clear e5 hg5
   by_cases hpx : x = p
   ·have HR : Hid (fidF (fun x => x == p) 0 l = (j : Int)) := by
     have := qfr (fun x => x == p) l 0 j x hx (by simpa using hpx) HJ.out
     show _ = _
     rw [this]
     simp
    rw [hpx] at b5 b5'
    clear HJ hx hpx
    go_wp2
    go_ret
    rw [HR.out]
    exact ⟨rfl,rfl⟩
   ·have hpb : (x == p) = false := beq_eq_false_iff_ne.2 hpx
    have hpb2 : (p == x) = false := beq_eq_false_iff_ne.2 (fun e => hpx e.symm)
    have HN : Hid (∀ i y,i < j + 1 → l[i]? = some y → (y == p) = false) := fun i y hi hy => by
     by_cases e : i = j
     ·subst e; rw [hx] at hy; cases hy; exact hpb
     ·exact HJ.out i y (by omega) hy
    clear HJ hx
    go_wp2
    go_roundw
    case rel => exact ⟨j + 1,by omega,by go_num,by first | exact trivial | exact rfl,HN.out⟩
    case measure => simp [intOf]; omega
  ·obtain rfl : j = s.n := by omega
   have hlt' : ¬ ((s.n : Nat) : Int) < (s.n : Nat) := by omega
   have HR : Hid (fidF (fun x => x == p) 0 l = -1) := qi9 (fun x => x == p) l 0 (fun i y hy => HJ.out i y (by rw [HS.out]; exact (List.getElem?_eq_some_iff.1 hy).1) hy)
   go_wp2
   go_ret
   rw [HR.out]
   exact ⟨rfl,rfl⟩
def mkT (c : Cf) (cl lv : List Int) (x : Tk) : TkR := ⟨x.prio,fidF (fun y => y == x.prio) 0 lv,x.full,x.act,qc1 c x.evs,inlI c cl x.res,ownL c x.res,bitN x.auto⟩
structure MkOK (c : Cf) : Prop where
 m : ∀ x ∈ c.evs,x.mask < 4294967296
 n : c.tasks.length ≤ 1048576 ∧ c.ress.length ≤ 1048576 ∧ c.ctrs.length ≤ 1048576 ∧ c.als.length ≤ 1048576 ∧ c.isrs.length ≤ 1048576 ∧ c.msgs.length ≤ 1048576
 t : ∀ x ∈ c.tasks,(x.auto.length ≤ 1048576 ∧ x.res.length ≤ 1048576 ∧ x.evs.length ≤ 1048576) ∧ (∀ i ∈ x.auto,0 ≤ i ∧ i < 32) ∧ (∀ i ∈ x.res,0 ≤ i ∧ i < c.ress.length) ∧ (∀ i ∈ x.evs,0 ≤ i ∧ i < c.evs.length)
 a : ∀ x ∈ c.als,x.auto.length ≤ 1048576 ∧ (∀ i ∈ x.auto,0 ≤ i ∧ i < 32) ∧ (x.ac.kind = 2 → 0 ≤ x.ac.event ∧ x.ac.event < c.evs.length)
 i : ∀ x ∈ c.isrs,x.res.length ≤ 1048576
 s : ∀ x ∈ c.msgs,x.ac.kind = 2 → 0 ≤ x.ac.event ∧ x.ac.event < c.evs.length
theorem qqs (w : World) (c : Cf) (v : Vs) (h : CfAt w c v) (ok : MkOK c) (E : Array Value) (hE : E.size = 5) (lr : Sl) (cl : List Int) (hE0 : E[0]? = some (.slice lr.a lr.n lr.c)) (hcl : RowsAt w 1 intP lr cl) (hcn : cl.length = c.ress.length) (lv : Sl) (lvl : List Int) (hlv : RowsAt w 1 intP lv lvl) (hlvn : lvl.length ≤ 1048576) :
  Calls Tryz.prog 85 #[.agg (cfC c v), .agg E, .slice lv.a lv.n lv.c] w fun e w' => (∃ a k,e = .returned (.slice a c.tasks.length k) ∧ RT w.heap.size w' (c.tasks.map (mkT c cl lvl)) (.slice a c.tasks.length k)) ∧ Below w.heap.size w w' := by
 have hC : (cfC c v).size = 18 := rfl
 have hb : Below w.heap.size w (((w.alloc (.cells (cfC c v) 47)).alloc (.cells E 82)).alloc (.cells #[.slice lv.a lv.n lv.c] 54)) := ((qa0 w _).trans ((qa0 _ _).mono (by simp))).trans ((qa0 _ _).mono (by simp; omega))
 have hV1 : (((w.alloc (.cells (cfC c v) 47)).alloc (.cells E 82)).alloc (.cells #[.slice lv.a lv.n lv.c] 54)).heap[w.heap.size]? = some (.cells (cfC c v) 47) := h3_0 _ _ _ _
 have hV2 : (((w.alloc (.cells (cfC c v) 47)).alloc (.cells E 82)).alloc (.cells #[.slice lv.a lv.n lv.c] 54)).heap[w.heap.size + 1]? = some (.cells E 82) := qcx _ _ _ _
 have hV3 : (((w.alloc (.cells (cfC c v) 47)).alloc (.cells E 82)).alloc (.cells #[.slice lv.a lv.n lv.c] 54)).heap[w.heap.size + 1 + 1]? = some (.cells #[.slice lv.a lv.n lv.c] 54) := h3_2 _ _ _ _
 have q11 : (((w.alloc (.cells (cfC c v) 47)).alloc (.cells E 82)).alloc (.cells #[.slice lv.a lv.n lv.c] 54)).cell? ⟨w.heap.size,11,none⟩ = some (.slice v.t.a v.t.n v.t.c) := by rw [cell_of_row _ _ 11 _ _ (0,0) hV1]; rfl
 have k1 := qg3 _ v.t c.tasks (h.below hb).t ok.n.1 147 #[.pointer (some ⟨w.heap.size + 1 + 1,0,none⟩), .pointer (some ⟨w.heap.size,0,none⟩), .pointer (some ⟨w.heap.size + 1,0,none⟩)] (enters_of Tryz.func147 (by kernel_rfl) rfl) (mkT c cl lvl) (fun W hW y hy s4 r4 s5 r5 s6 r6 s7 r7 => by
  have hbW := hb.trans (hW.mono hb.size)
  obtain ⟨⟨l4,l5,l6⟩,d4,d5,d6⟩ := ok.t y hy
  have hsz := hbW.size
  exact qql W y s4 s5 s6 s7 (w.heap.size + 1 + 1) w.heap.size (w.heap.size + 1) lv (cfC c v) E hC hE ((hW.block _ (qa1 hV3)).trans hV3) ((hW.block _ (qa1 hV1)).trans hV1) ((hW.block _ (qa1 hV2)).trans hV2) _ _ _ _ _ _
   (fun W' hW' => (qum W' lv lvl ((hlv.below hbW (fun _ _ _ _ h => h)).below hW' (fun _ _ _ _ h => h)) hlvn y.prio).mono (fun e w' h => ⟨h.1,by rw [h.2]; exact Below.refl _ _⟩))
   (fun W' hW' => qsp W' c v ((h.below hbW).below hW') ok.m s6 y.evs (r6.below hW' (fun _ _ _ _ h => h)) l6 d6)
   (fun W' hW' => qlg W' c v ((h.below hbW).below hW') E lr cl hE0 ((hcl.below hbW (fun _ _ _ _ h => h)).below hW' (fun _ _ _ _ h => h)) hcn s5 y.res (r5.below hW' (fun _ _ _ _ h => h)) l5 d5)
   (fun W' hW' => (qss W' c v ((h.below hbW).below hW') s5 y.res (r5.below hW' (fun _ _ _ _ h => h)) l5 d5).mono (fun e w' h => by
    obtain ⟨so,h1,h2,h3⟩ := h
    exact ⟨so,h1,qby h2 (Nat.le_trans hW.size hW'.size),h3⟩))
   (fun W' hW' => (qlf W' s4 y.auto (r4.below hW' (fun _ _ _ _ h => h)) l4 d4).mono (fun e w' h => ⟨h.1,by rw [h.2]; exact Below.refl _ _⟩)))
 have HB : Hid _ := hb
 have HN : Hid (v.t.n = c.tasks.length) := h.t.n
 clear hV1 hV2 hV3 hb hlv hcl h hE0
 generalize hCC : cfC c v = C at *
 clear hCC
 go_enter Tryz.func85,Tryz.ntmps85
 go_wp2_with (first | (go_at_call 146; refine k1.mono ?_; clear k1; rintro e w1 ⟨⟨a1,c1,xs,rfl,o1,x1⟩,b1⟩))
 go_ret
 have hsz : w.heap.size ≤ (((w.alloc (.cells C 47)).alloc (.cells E 82)).alloc (.cells #[.slice lv.a lv.n lv.c] 54)).heap.size := HB.out.size
 refine ⟨⟨a1,c1,rfl,xs, ?_,x1.mono (fun _ _ _ h => qfi hsz h)⟩,HB.out.trans (b1.mono HB.out.size)⟩
 rw [List.length_map]
 exact qb2 o1 hsz
end Go.Proofs.YtmidaeljeoifdaaGreatDoor
