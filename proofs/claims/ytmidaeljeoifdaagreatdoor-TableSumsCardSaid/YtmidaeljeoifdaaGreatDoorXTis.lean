import Derived.Test.YtmidaeljeoifdaaGreatDoorProg
import Derived.Shelf.SlSortCmp.NoneTotal
import Derived.Shelf.SlicesG.Cmp
import Derived.Shelf.Slices.CompactI
import Derived.Test.YtmidaeljeoifdaaGreatDoorXTim
import Derived.Test.YtmidaeljeoifdaaGreatDoorXKvi
import Derived.Test.YtmidaeljeoifdaaGreatDoorXEcv
import Derived.Test.YtmidaeljeoifdaaGreatDoorTio
import Derived.Test.YtmidaeljeoifdaaGreatDoorXKve
import Derived.Test.YtmidaeljeoifdaaGreatDoorEeq
namespace Go.Proofs
open Go.Shelf
set_option linter.unusedSimpArgs false
set_option linter.unusedVariables false
set_option maxHeartbeats 16000000
set_option maxRecDepth 100000
def Tryz.sortL_ren : Go.Shelf.Ren := ⟨fun | 6 => 138 | 15 => 203 | 14 => 202 | 28 => 268 | 29 => 269 | 20 => 260 | 21 => 261 | 22 => 262 | 23 => 263 | 24 => 264 | 25 => 265 | 26 => 266 | 27 => 267 | 46 => 292 | 47 => 293 | 48 => 294 | 49 => 295 | 50 => 296 | 57 => 302 | n => n,fun | 22 => 54 | 24 => 3 | 25 => 217 | 3 => 3 | 39 => 146 | 0 => 0 | 53 => 53 | 55 => 97 | 4 => 4 | 46 => 300 | 45 => 299 | 50 => 297 | 5 => 5 | 9 => 9 | 66 => 317 | 70 => 321 | 76 => 327 | 77 => 328 | n => n,fun | n => n⟩
theorem Tryz.sortL : Go.Proofs.SlLaysF.n6 Tryz.prog Tryz.sortL_ren := {
 mixed := by kernel_rfl
 f6 := ⟨Tryz.f138.name,by decide,Tryz.func138.trans (congrArg some (by kernel_rfl))⟩
 f14 := ⟨Tryz.f202.name,by decide,Tryz.func202.trans (congrArg some (by kernel_rfl))⟩
 f15 := Tryz.func203.trans (congrArg some (by kernel_rfl))
 f20 := ⟨Tryz.f260.name,by decide,Tryz.func260.trans (congrArg some (by kernel_rfl))⟩
 f21 := ⟨Tryz.f261.name,by decide,Tryz.func261.trans (congrArg some (by kernel_rfl))⟩
 f22 := ⟨Tryz.f262.name,by decide,Tryz.func262.trans (congrArg some (by kernel_rfl))⟩
 f23 := ⟨Tryz.f263.name,by decide,Tryz.func263.trans (congrArg some (by kernel_rfl))⟩
 f24 := ⟨Tryz.f264.name,by decide,Tryz.func264.trans (congrArg some (by kernel_rfl))⟩
 f25 := ⟨Tryz.f265.name,by decide,Tryz.func265.trans (congrArg some (by kernel_rfl))⟩
 f26 := ⟨Tryz.f266.name,by decide,Tryz.func266.trans (congrArg some (by kernel_rfl))⟩
 f27 := ⟨Tryz.f267.name,by decide,Tryz.func267.trans (congrArg some (by kernel_rfl))⟩
 f28 := Tryz.func268.trans (congrArg some (by kernel_rfl))
 f29 := Tryz.func269.trans (congrArg some (by kernel_rfl))
 f46 := ⟨Tryz.f292.name,by decide,Tryz.func292.trans (congrArg some (by kernel_rfl))⟩
 f47 := Tryz.func293.trans (congrArg some (by kernel_rfl))
 f48 := Tryz.func294.trans (congrArg some (by kernel_rfl))
 f49 := ⟨Tryz.f295.name,by decide,Tryz.func295.trans (congrArg some (by kernel_rfl))⟩
 f50 := ⟨Tryz.f296.name,by decide,Tryz.func296.trans (congrArg some (by kernel_rfl))⟩
 f57 := ⟨Tryz.f302.name,by decide,Tryz.func302.trans (congrArg some (by kernel_rfl))⟩
 t0 := Tryz.underlying0
 a0 := Tryz.isAgg0
 z0 := Tryz.sizeOf0
 v0 := Tryz.zeroValue0
 t3 := Tryz.underlying3
 a3 := Tryz.isAgg3
 z3 := Tryz.sizeOf3
 v3 := Tryz.zeroValue3
 t4 := Tryz.underlying4
 a4 := Tryz.isAgg4
 z4 := Tryz.sizeOf4
 v4 := Tryz.zeroValue4
 t5 := Tryz.underlying5
 a5 := Tryz.isAgg5
 z5 := Tryz.sizeOf5
 v5 := Tryz.zeroValue5
 t9 := Tryz.underlying9
 a9 := Tryz.isAgg9
 z9 := Tryz.sizeOf9
 v9 := Tryz.zeroValue9
 t22 := Tryz.underlying54
 a22 := Tryz.isAgg54
 z22 := Tryz.sizeOf54
 v22 := Tryz.zeroValue54
 a24 := Tryz.isAgg3
 z24 := Tryz.sizeOf3
 t25 := Tryz.underlying217
 a25 := Tryz.isAgg217
 z25 := Tryz.sizeOf217
 v25 := Tryz.zeroValue217
 t39 := Tryz.underlying146
 a39 := Tryz.isAgg146
 z39 := Tryz.sizeOf146
 v39 := Tryz.zeroValue146
 t45 := Tryz.underlying299
 a45 := Tryz.isAgg299
 z45 := Tryz.sizeOf299
 v45 := Tryz.zeroValue299
 t46 := Tryz.underlying300
 a46 := Tryz.isAgg300
 z46 := Tryz.sizeOf300
 v46 := Tryz.zeroValue300
 t50 := Tryz.underlying297
 a50 := Tryz.isAgg297
 z50 := Tryz.sizeOf297
 v50 := Tryz.zeroValue297
 t53 := Tryz.underlying53
 a53 := Tryz.isAgg53
 z53 := Tryz.sizeOf53
 v53 := Tryz.zeroValue53
 t55 := Tryz.underlying97
 a55 := Tryz.isAgg97
 z55 := Tryz.sizeOf97
 v55 := Tryz.zeroValue97
 t66 := Tryz.underlying317
 a66 := Tryz.isAgg317
 z66 := Tryz.sizeOf317
 v66 := Tryz.zeroValue317
 t70 := Tryz.underlying321
 a70 := Tryz.isAgg321
 z70 := Tryz.sizeOf321
 v70 := Tryz.zeroValue321
 t76 := Tryz.underlying327
 a76 := Tryz.isAgg327
 z76 := Tryz.sizeOf327
 v76 := Tryz.zeroValue327
 t77 := Tryz.underlying328
 a77 := Tryz.isAgg328
 z77 := Tryz.sizeOf328
 v77 := Tryz.zeroValue328 }
def Tryz.cmpL_ren : Go.Shelf.Ren := ⟨fun | 5 => 140 | 7 => 204 | n => n,fun | 22 => 3 | 3 => 3 | 4 => 4 | n => n,fun | n => n⟩
theorem Tryz.cmpL : Go.Proofs.SlLaysC2.n5 Tryz.prog Tryz.cmpL_ren := {
 mixed := by kernel_rfl
 f5 := ⟨Tryz.f140.name,by decide,Tryz.func140.trans (congrArg some (by kernel_rfl))⟩
 f7 := ⟨Tryz.f204.name,by decide,Tryz.func204.trans (congrArg some (by kernel_rfl))⟩
 t3 := Tryz.underlying3
 a3 := Tryz.isAgg3
 z3 := Tryz.sizeOf3
 v3 := Tryz.zeroValue3
 t4 := Tryz.underlying4
 a4 := Tryz.isAgg4
 z4 := Tryz.sizeOf4
 v4 := Tryz.zeroValue4
 t22 := Tryz.underlying3
 a22 := Tryz.isAgg3
 z22 := Tryz.sizeOf3
 v22 := Tryz.zeroValue3 }
def Tryz.lays2_20_ren : Go.Shelf.Ren := ⟨fun | 20 => 141 | n => n,fun | 22 => 54 | 3 => 3 | 4 => 4 | 0 => 0 | n => n,fun | n => n⟩
theorem Tryz.lays2_20 : Go.Proofs.Lays2.n20 Tryz.prog Tryz.lays2_20_ren := {
 mixed := by kernel_rfl
 f20 := Tryz.func141.trans (congrArg some (by kernel_rfl))
 t0 := Tryz.underlying0
 a0 := Tryz.isAgg0
 z0 := Tryz.sizeOf0
 v0 := Tryz.zeroValue0
 t3 := Tryz.underlying3
 a3 := Tryz.isAgg3
 z3 := Tryz.sizeOf3
 v3 := Tryz.zeroValue3
 t4 := Tryz.underlying4
 a4 := Tryz.isAgg4
 z4 := Tryz.sizeOf4
 v4 := Tryz.zeroValue4
 t22 := Tryz.underlying54
 a22 := Tryz.isAgg54
 z22 := Tryz.sizeOf54
 v22 := Tryz.zeroValue54
 i3 := by kernel_rfl }
end Go.Proofs
namespace Go.Proofs.YtmidaeljeoifdaaGreatDoor
open Go.Maps Go.RowKit Go.Shelf Go.Sort
set_option linter.unusedSimpArgs false
set_option linter.unusedVariables false
set_option maxHeartbeats 16000000
set_option maxRecDepth 100000
def cfD9 (x y : Int) : Int := Lib.compareInt y x
theorem qfj (x y : Int) : ltOf cfD9 x y = decide (y < x) := by
 unfold ltOf cfD9 Lib.compareInt
 by_cases h1 : y < x
 ·simp [h1]
 ·by_cases h2 : x < y <;> simp [h1,h2]
theorem quo : SWO (ltOf cfD9) where
 irrefl x := by rw [qfj]; simp
 trans x y z h1 h2 := by rw [qfj] at *; simp at *; omega
 ntrans x y z h1 h2 := by rw [qfj] at *; simp at *; omega
theorem qup (x y : Int) (h1 : ltOf cfD9 x y = false) (h2 : ltOf cfD9 y x = false) : x = y := by rw [qfj] at *; simp at *; omega
theorem qvq : (fun x y : Int => !ltOf cfD9 y x) = fun x y => decide (y ≤ x) := by
 funext x y
 rw [qfj]
 by_cases h : y ≤ x
 ·have h' : ¬ x < y := by omega
  simp [h,h']
 ·have h' : x < y := by omega
  simp [h,h']
theorem qqw (x y : Int) (W : World) : Calls Tryz.prog 139 #[.int .i64 x, .int .i64 y] W fun e w' => e = .returned (.int .i64 (cfD9 x y)) ∧ ∃ q,w' = W.drewN q := by
 have hcon := AnyG.cmp_Compare_int Tryz.cmpL y x W
 change Calls Tryz.prog 140 _ _ _ at hcon
 unfold cfD9
 generalize Lib.compareInt y x = r at hcon ⊢
 go_enter Tryz.func139,Tryz.ntmps139
 go_wp2_with (go_at_call 140; refine hcon.mono ?_; rintro e w' ⟨rfl,rfl⟩)
 go_ret
 exact ⟨rfl,0,rfl⟩
theorem qqx (w : World) (base : Nat) (l : List Int) (a : Option Addr) (c : Nat) (h : qa9 w base l (.slice a l.length c)) (hl : l.length ≤ 1048576) (hbw : base ≤ w.heap.size) :
  Calls Tryz.prog 138 #[.slice a l.length c, .func (.func 139) #[] #[]] w fun e w' => e = .returned (.tuple #[]) ∧ qa9 w' base (l.mergeSort fun x y => decide (y ≤ x)) (.slice a l.length c) ∧ Below base w w' := by
 cases a with
 | none =>
  have h0 : l.length = 0 ∧ c = 0 := by
   obtain ⟨_,⟨h2,h3⟩ | ⟨g',cap',cur,hv,_⟩⟩ := h
   ·injection h2 with _ h5 h6; exact ⟨h3,h6⟩
   ·cases hv
  obtain rfl : l = [] := List.length_eq_zero_iff.1 h0.1
  have hS := AnyF.slices_SortFunc_none (P := Tryz.prog) (ρ := Tryz.sortL_ren) { Tryz.sortL with } none c (.func (.func 139) #[] #[]) w
  change Calls Tryz.prog 138 _ _ _ at hS
  refine hS.mono ?_
  rintro e w' ⟨rfl,rfl⟩
  exact ⟨rfl,by simpa using h,Below.refl _ _⟩
 | some ad =>
  obtain ⟨g,off,ot⟩ := ad
  have h0 : off = 0 ∧ ot = none := by
   obtain ⟨_,⟨h2,h3⟩ | ⟨g',cap',cur,hv,_⟩⟩ := h
   ·cases h2
   ·cases hv; exact ⟨rfl,rfl⟩
  obtain ⟨rfl,rfl⟩ := h0
  obtain ⟨hH,hg,hbg,hlc,hcm,cur,hcur,hcs⟩ := qhp h
  have hS := Any.slices_SortFunc_total Tryz.sortL (Value.int .i64) (fun _ => rfl) cfD9 quo 139 #[] g 0 c l.toArray w (enters_of Tryz.func139 (by kernel_rfl) rfl) (CmpReads.lays (fun _ _ _ _ x y => qqw x y _)) hH hg (by simp; omega) qup
  rw [qvq] at hS
  change Calls Tryz.prog 138 _ _ _ at hS
  refine Calls.mono (by simpa using hS) ?_
  rintro e w' ⟨rfl,n,os,rfl⟩
  have hp := qli w g cur c n os (l.mergeSort fun x y => decide (y ≤ x)) hcur hcs (by simpa using hlc)
  obtain ⟨⟨cur',hc1,hc2,hc3⟩,hgr⟩ := hp
  refine ⟨rfl, ?_,qam hgr hbg hbw⟩
  refine ⟨by simp,Or.inr ⟨g,c,cur',by rw [List.length_mergeSort],hbg, ?_, ?_,hcm,by rw [hc2,Nat.mul_one],by rw [Nat.mul_one]; exact hc3⟩⟩
  ·exact hc1
  ·simpa using hlc
theorem qlj (w : World) (base : Nat) (l : List Int) (a : Option Addr) (c : Nat) (h : qa9 w base l (.slice a l.length c)) (hl : l.length ≤ 1048576) (hbw : base ≤ w.heap.size) :
  Calls Tryz.prog 141 #[.slice a l.length c] w fun e w' => e = .returned (.slice a (Lib.compact l).length c) ∧ qa9 w' base (Lib.compact l) (.slice a (Lib.compact l).length c) ∧ Below base w w' := by
 cases a with
 | none =>
  have h0 : l.length = 0 ∧ c = 0 := by
   obtain ⟨_,⟨h2,h3⟩ | ⟨g',cap',cur,hv,_⟩⟩ := h
   ·injection h2 with _ h5 h6; exact ⟨h3,h6⟩
   ·cases hv
  obtain rfl : l = [] := List.length_eq_zero_iff.1 h0.1
  have hS := Any.slices_Compact_int_empty Tryz.lays2_20 none c w
  change Calls Tryz.prog 141 _ _ _ at hS
  refine hS.mono ?_
  rintro e w' ⟨rfl,rfl⟩
  exact ⟨rfl,h,Below.refl _ _⟩
 | some ad =>
  obtain ⟨g,off,ot⟩ := ad
  have h0 : off = 0 ∧ ot = none := by
   obtain ⟨_,⟨h2,h3⟩ | ⟨g',cap',cur,hv,_⟩⟩ := h
   ·cases h2
   ·cases hv; exact ⟨rfl,rfl⟩
  obtain ⟨rfl,rfl⟩ := h0
  obtain ⟨hH,hg,hbg,hlc,hcm,cur,hcur,hcs⟩ := qhp h
  have hS := Any.slices_Compact_int Tryz.lays2_20 g 0 c l w hH (by omega) hlc
  change Calls Tryz.prog 141 _ _ _ at hS
  refine hS.mono ?_
  rintro e w' ⟨rfl,q,rfl⟩
  have hcl := qir l
  have hp := qli w g cur c q #[] (Lib.compact l ++ List.replicate (l.length - (Lib.compact l).length) 0) hcur hcs (by simp; omega)
  rw [grow_empty] at hp
  obtain ⟨⟨cur',hc1,hc2,hc3⟩,hgr⟩ := hp
  refine ⟨rfl, ?_,qam hgr hbg hbw⟩
  refine ⟨by simp,Or.inr ⟨g,c,cur',rfl,hbg,hc1,by omega,hcm,by rw [hc2,Nat.mul_one], ?_⟩⟩
  rw [Nat.mul_one]
  have e1 := congrArg (List.take (Lib.compact l).length) hc3
  rw [List.take_take,Nat.min_eq_left (by simp),List.map_append,List.take_left' (by simp)] at e1
  exact e1
theorem qlk {l : List Int} {xs : List Value} (h : RwX 1 intP l xs) : xs = l.map fun x => I x := by
 have h1 := h.n
 rw [Nat.mul_one] at h1
 apply List.ext_getElem?
 intro j
 rw [List.getElem?_map]
 cases e : l[j]? with
 | none =>
  rw [List.getElem?_eq_none_iff] at e
  rw [List.getElem?_eq_none (by omega)]
  rfl
 | some x =>
  obtain ⟨u,h2,h3⟩ := h.at' j x e 0 (by omega)
  rw [Nat.mul_one,Nat.add_zero] at h2
  rw [h2]
  exact congrArg some h3
theorem qqy (w : World) (s : Sl) (l : List Tk) (h : RowsAt w 8 (tkP w) s l) (hl : l.length ≤ 1048576) : Calls Tryz.prog 83 #[.slice s.a s.n s.c] w fun e w' => (∃ a c,e = .returned (.slice a (prL9 l).length c) ∧ qa9 w' w.heap.size (prL9 l) (.slice a (prL9 l).length c)) ∧ Below w.heap.size w w' := by
 have k1 := qjf w s l h hl 137 #[] (enters_of Tryz.func137 (by kernel_rfl) rfl) (fun x => x.prio) (fun W hW y hy s4 h4 s5 h5 s6 h6 s7 h7 => qqh W y s4 s5 s6 s7)
 have HP : Hid (prL9 l = Lib.compact ((l.map fun x => x.prio).mergeSort fun x y => decide (y ≤ x))) := rfl
 have HL : Hid ((l.map fun x => x.prio).length = l.length) := by show _ = _; simp
 have HM : Hid (((l.map fun x => x.prio).mergeSort fun x y => decide (y ≤ x)).length = l.length) := by show _ = _; simp
 have k2 : ∀ (W : World) (a : Option Addr) (c : Nat),qa9 W w.heap.size (l.map fun x => x.prio) (.slice a l.length c) → w.heap.size ≤ W.heap.size → Calls Tryz.prog 138 #[.slice a l.length c, .func (.func 139) #[] #[]] W fun e w' => e = .returned (.tuple #[]) ∧ qa9 w' w.heap.size ((l.map fun x => x.prio).mergeSort fun x y => decide (y ≤ x)) (.slice a l.length c) ∧ Below w.heap.size W w' := fun W a c hi hs => by
  have := qqx W w.heap.size (l.map fun x => x.prio) a c (by rw [HL.out]; exact hi) (by rw [HL.out]; exact hl) hs
  rw [HL.out] at this
  exact this
 have k3 : ∀ (W : World) (a : Option Addr) (c : Nat),qa9 W w.heap.size ((l.map fun x => x.prio).mergeSort fun x y => decide (y ≤ x)) (.slice a l.length c) → w.heap.size ≤ W.heap.size → Calls Tryz.prog 141 #[.slice a l.length c] W fun e w' => e = .returned (.slice a (prL9 l).length c) ∧ qa9 w' w.heap.size (prL9 l) (.slice a (prL9 l).length c) ∧ Below w.heap.size W w' := fun W a c hi hs => by
  have := qlj W w.heap.size ((l.map fun x => x.prio).mergeSort fun x y => decide (y ≤ x)) a c (by rw [HM.out]; exact hi) (by rw [HM.out]; exact hl) hs
  rw [HM.out] at this
  exact this
 generalize hms : ((l.map fun x => x.prio).mergeSort fun x y => decide (y ≤ x)) = ms at *
 clear hms
 go_enter Tryz.func83,Tryz.ntmps83
 go_wp2_with (first
  | (go_at_call 136; refine k1.mono ?_; clear k1; rintro e w1 ⟨⟨a1,c1,xs,rfl,o1,x1⟩,b1⟩; have i1 : qa9 w1 w.heap.size (l.map fun x => x.prio) (.slice a1 l.length c1) := (by rw [qlk x1] at o1; unfold qa9; rw [HL.out]; exact o1); have B1 : Hid (Below w.heap.size w w1) := b1; have k2' := k2 w1 a1 c1 i1 b1.size; clear k2 x1 o1 i1 b1)
  | (go_at_call 138; refine k2'.mono ?_; clear k2'; rintro e w2 ⟨rfl,i2,b2⟩; have B2 : Hid (Below w.heap.size w w2) := B1.out.trans b2; have k3' := k3 w2 a1 c1 i2 B2.out.size; clear k3 i2 b2)
  | (go_at_call 141; refine k3'.mono ?_; clear k3'; rintro e w3 ⟨rfl,i3,b3⟩; have H3 : Hid (qa9 w3 w.heap.size (prL9 l) (.slice a1 (prL9 l).length c1) ∧ Below w.heap.size w w3) := ⟨i3,B2.out.trans b3⟩; clear i3 b3))
 go_ret
 exact ⟨⟨a1,c1,rfl,H3.out.1⟩,H3.out.2⟩
theorem id9 {z : Int} {n : Nat} (h : isId z n = true) : 0 ≤ z ∧ z < n := by
 unfold isId at h
 simpa using h
theorem in9 {v a b : Int} (h : inR v a b = true) : a ≤ v ∧ v ≤ b := by
 unfold inR at h
 simpa using h
theorem qll {n : Nat} : ∀ {l : List Int} {a : Int},a < n → risF a l n = true → (l.length : Int) ≤ n - a - 1
 | [],a,ha,_ => by simp; omega
 | x :: r,a,ha,h => by
  rw [risF] at h
  simp only [Bool.and_eq_true,decide_eq_true_eq] at h
  have hx := id9 h.1.1
  have := qll hx.2 h.2
  rw [List.length_cons]
  omega
theorem ris9 {l : List Int} {n : Nat} (h : risF (-1) l n = true) : (∀ z ∈ l,0 ≤ z ∧ z < n) ∧ l.length ≤ n := by
 refine ⟨fun z hz => id9 (qba h z hz), ?_⟩
 have := qll (by omega) h
 omega
theorem qw8 {c : Cf} (h : May c) (hm : ∀ x ∈ c.evs,x.mask < 4294967296) : MkOK c := by
 have nm := in9 h.m.1
 have nr := in9 h.r.1
 have ne := in9 h.e.1
 have nt := in9 h.t.1
 have nk := in9 h.k.1
 have na := in9 h.a.1
 have ni := in9 h.i.1
 have ns := in9 h.s.1
 have act : ∀ a : Ac,objB c a = true → a.kind = 2 → 0 ≤ a.event ∧ a.event < c.evs.length := fun a ho hk => by
  unfold objB at ho
  rw [hk] at ho
  exact id9 (by simpa [uE,uT] using (Bool.and_eq_true_iff.1 ho).2)
 refine ⟨hm,⟨by omega,by omega,by omega,by omega,by omega,by omega⟩,fun x hx => ?_,fun x hx => ?_,fun x hx => ?_,fun x hx => ?_⟩
 ·obtain ⟨j,hj⟩ := List.getElem?_of_mem hx
  have q : (risF (-1) x.auto c.modes.length && risF (-1) x.res c.ress.length && risF (-1) x.evs c.evs.length && risF (-1) x.msgs c.msgs.length) = true := (h.t.2 j x hj).2.2 1 (by omega)
  simp only [Bool.and_eq_true] at q
  obtain ⟨⟨⟨q1,q2⟩,q3⟩,_⟩ := q
  have r1 := ris9 q1
  have r2 := ris9 q2
  have r3 := ris9 q3
  exact ⟨⟨by omega,by omega,by omega⟩,fun i hi => ⟨(r1.1 i hi).1,by have := (r1.1 i hi).2; omega⟩,r2.1,r3.1⟩
 ·obtain ⟨j,hj⟩ := List.getElem?_of_mem hx
  have q3 : objB c x.ac = true := (h.a.2 j x hj).2.2 3 (by omega)
  have q6 : risF (-1) x.auto c.modes.length = true := (h.a.2 j x hj).2.2 6 (by omega)
  have r6 := ris9 q6
  exact ⟨by omega,fun i hi => ⟨(r6.1 i hi).1,by have := (r6.1 i hi).2; omega⟩,act x.ac q3⟩
 ·obtain ⟨j,hj⟩ := List.getElem?_of_mem hx
  have q : (risF (-1) x.res c.ress.length && risF (-1) x.msgs c.msgs.length) = true := (h.i.2 j x hj).2.2 1 (by omega)
  have r1 := ris9 (Bool.and_eq_true_iff.1 q).1
  omega
 ·obtain ⟨j,hj⟩ := List.getElem?_of_mem hx
  exact act x.ac ((h.s.2 j x hj).2.2 5 (by omega))
end Go.Proofs.YtmidaeljeoifdaaGreatDoor
namespace Go.Proofs.YtmidaeljeoifdaaGreatDoor
open Go.RowKit
set_option linter.unusedSimpArgs false
set_option linter.unusedVariables false
set_option maxHeartbeats 16000000
set_option maxRecDepth 100000
theorem qfs (v n : Int) : Ce.isId v n = isId v n := rfl
theorem qen (c : Cf) (r : Int) : Ce.rkind c r = rkind c r := rfl
theorem qsv (c : Cf) (r : Int) : Ce.rlink c r = rlink c r := rfl
theorem qlm (n : Int) : ∀ (l : List Int) (a : Int),Ce.risF a l n = risF a l n
 | [],a => by rw [Ce.risF,risF]
 | x :: l,a => by rw [Ce.risF,risF,qlm n l x,qfs]
theorem qgu (c : Cf) : ∀ (f : Nat) (r : Int),Ce.rootF c f r = rootF c f r
 | 0,r => by rw [Ce.rootF,rootF]
 | f + 1,r => by rw [Ce.rootF,rootF,qgu c f,qfs,qen,qsv]
theorem qhq (p : Int → Bool) : ∀ l : List Int,(l.filter p).length + (l.filter fun x => !p x).length = l.length
 | [] => rfl
 | x :: l => by
  have := qhq p l
  cases h : p x <;> simp [h] <;> omega
theorem qis (c : Cf) (l : List Int) : ((Ce.takenL c l).length : Int) + (intN c l : Int) = l.length := by
 have h := qhq (fun x => rkind c x == 3) l
 have e : Ce.takenL c l = l.filter fun x => !(rkind c x == 3) := rfl
 rw [e]
 unfold intN
 omega
theorem qln {c : Cf} (h : allF c = none) : Ce.lookE c = 0 := by
 have M := qki h
 have hr : ∀ (j : Nat) (x : Rs),c.ress[j]? = some x → ∀ k,k < 4 → resQ c j x k = true := fun j x hj => (M.r.2 j x hj).2.2
 have hm : Ce.meetB c = true := by
  unfold Ce.meetB
  rw [Bool.and_eq_true]
  constructor
  ·apply List.all_eq_true.2
   intro x hx
   obtain ⟨j,hj⟩ := List.getElem?_of_mem hx
   have hq := (M.t.2 j x hj).2.2 1 (by omega)
   have hq2 : (risF (-1) x.auto c.modes.length && risF (-1) x.res c.ress.length && risF (-1) x.evs c.evs.length && risF (-1) x.msgs c.msgs.length) = true := hq
   simp only [Bool.and_eq_true] at hq2
   unfold Ce.risT
   rw [qlm]
   exact hq2.1.1.2
  ·apply List.all_eq_true.2
   intro x hx
   obtain ⟨j,hj⟩ := List.getElem?_of_mem hx
   have hq := (M.i.2 j x hj).2.2 1 (by omega)
   have hq2 : (risF (-1) x.res c.ress.length && risF (-1) x.msgs c.msgs.length) = true := hq
   simp only [Bool.and_eq_true] at hq2
   unfold Ce.risI
   rw [qlm]
   exact hq2.1
 have hl : Ce.lkB c = true := by
  unfold Ce.lkB
  apply List.all_eq_true.2
  intro x hx
  obtain ⟨j,hj⟩ := List.getElem?_of_mem hx
  have q0 : inR x.kind 1 3 = true := hr j x hj 0 (by omega)
  have q2 : isId x.link c.ress.length = true := hr j x hj 2 (by omega)
  unfold inR at q0
  simp at q0
  unfold Ce.lmB
  rw [qfs,q2]
  have : x.kind = 1 ∨ x.kind = 2 ∨ x.kind = 3 := by omega
  rcases this with e | e | e <;> simp [e]
 have kd : ∀ (i : Nat) (x : Rs),c.ress[i]? = some x → rkind c (i : Int) = x.kind := fun i x hi => by
  unfold rkind
  rw [Int.toNat_natCast,hi]
 have he : Ce.endsB c = true := by
  apply Ce.endsB_of
  intro i hi
  obtain ⟨x,hx⟩ : ∃ x,c.ress[i]? = some x := ⟨_,List.getElem?_eq_getElem hi⟩
  by_cases hk : x.kind = 2
  ·have q3 : (x.kind != 2 || (decide (0 ≤ rootF c c.ress.length i) && rkind c (rootF c c.ress.length i) == 1)) = true := hr i x hx 3 (by omega)
   rw [hk] at q3
   simp at q3
   unfold Ce.rootN
   rw [qgu]
   exact q3.1
  ·rw [Ce.root_end (by rw [qfs]; unfold isId; simp; omega) (by rw [qen,kd i x hx]; exact hk)]
   omega
 have hn : Ce.linksB c = true := by
  unfold Ce.linksB
  apply List.all_eq_true.2
  intro i hi
  have hi' := List.mem_range.1 hi
  obtain ⟨x,hx⟩ : ∃ x,c.ress[i]? = some x := ⟨_,List.getElem?_eq_getElem hi'⟩
  unfold Ce.lfB Ce.rootN
  rw [qgu,qen,qen,kd i x hx]
  by_cases hk : x.kind = 2
  ·have q3 : (x.kind != 2 || (decide (0 ≤ rootF c c.ress.length i) && rkind c (rootF c c.ress.length i) == 1)) = true := hr i x hx 3 (by omega)
   rw [hk] at q3
   simp at q3
   rw [q3.2,hk]
   rfl
  ·simp [hk]
 have hf : Ce.fitB c = true := by
  unfold Ce.fitB
  rw [Bool.and_eq_true]
  constructor
  ·apply List.all_eq_true.2
   intro x hx
   obtain ⟨j,hj⟩ := List.getElem?_of_mem hx
   have hq : decide ((intN c x.res : Int) ≤ 1) = true := (M.t.2 j x hj).2.2 4 (by omega)
   have := qis c x.res
   unfold Ce.fitU
   simp at hq ⊢
   omega
  ·apply List.all_eq_true.2
   intro x hx
   obtain ⟨j,hj⟩ := List.getElem?_of_mem hx
   have hq : ((intN c x.res : Int) == 0) = true := (M.i.2 j x hj).2.2 2 (by omega)
   have := qis c x.res
   unfold Ce.fitU
   simp at hq ⊢
   omega
 unfold Ce.lookE
 rw [hm,hl,he,hn,hf]
 rfl
end Go.Proofs.YtmidaeljeoifdaaGreatDoor
namespace Go.Proofs.YtmidaeljeoifdaaGreatDoor
open Go.Maps Go.RowKit Go.Shelf Go.Sort
set_option linter.unusedSimpArgs false
set_option linter.unusedVariables false
set_option maxHeartbeats 16000000
set_option maxRecDepth 100000
theorem qit {B B' : Nat} {W : World} {l : List TkR} {u : Value} (h : RT B' W l u) (hB : B ≤ B') : RT B W l u := by
 obtain ⟨xs,h1,h2⟩ := h
 exact ⟨xs,qb2 h1 hB,h2.mono (fun _ _ _ h => qfi hB h)⟩
theorem qiu {B B' : Nat} {W : World} {l : List IsR} {u : Value} (h : RI B' W l u) (hB : B ≤ B') : RI B W l u := by
 obtain ⟨xs,h1,h2⟩ := h
 exact ⟨xs,qb2 h1 hB,h2.mono (fun _ _ _ h => qip hB h)⟩
theorem qbo {β : Type} {B B' E k : Nat} {P : β → Nat → Value → Prop} {W : World} {l : List β} {u : Value} (h : RO B' E k (fun _ => P) W l u) (hB : B ≤ B') : RO B E k (fun _ => P) W l u := by
 obtain ⟨xs,h1,h2⟩ := h
 exact ⟨xs,qb2 h1 hB,h2⟩
section
variable {ts : List TkR} {pl : List Int} {rs : List RsR} {ks : List CtR} {als : List AlR} {is : List IsR} {ms : List MsR}
theorem SG.mono9 {B B' : Nat} {W : World} {v : Ts} (h : SG B' W ts pl rs ks als is ms v) (hB : B ≤ B') : SG B W ts pl rs ks als is ms v := by
 obtain ⟨at_,ct,ag,cg,ar,cr,ak,ck,aa,ca,ai,ci,am,cm2,rfl,h1,h2⟩ := h
 exact ⟨at_,ct,ag,cg,ar,cr,ak,ck,aa,ca,ai,ci,am,cm2,rfl,⟨qit h1.t hB,qbo h1.r hB,qbo h1.k hB,qbo h1.a hB,qiu h1.i hB,qbo h1.m hB⟩,qbo h2 hB⟩
end
def tbM (c : Cf) (cl : List Int) (sch d f e k : Int) : Tb := tbG (usN c.o1 c.o2 c.o3 c.o4 c.o5 c.o6 c.o7 c.o8) c.modes.length (c.tasks.map (mkT c cl (prL9 c.tasks))) (prL9 c.tasks) (resL c cl sch) (c.ctrs.map mkK) (c.als.map (mkA c)) (c.isrs.map mkI) (c.msgs.map (mkS c)) d f e k
def zd9 (c : Cf) : Int := (prL9 c.tasks).length
def zf9 (c : Cf) : Int := (c.isrs.length : Int) + 4
def ze9 (c : Cf) (cl : List Int) (sch : Int) : Int := ((max 2 (max (qae ((tbM c cl sch 0 0 0 0).als.map fun x => x.ctr)) (qae (rcvL (tbM c cl sch 0 0 0 0)))) : Nat) : Int)
def zc9 (c : Cf) (cl : List Int) (sch : Int) : Int := qhi (tbM c cl sch 0 0 0 0)
theorem qvr (c : Cf) (cl : List Int) (sch : Int) : rmC (tbM c cl sch 0 0 0 0) = #[I (zd9 c),I (zf9 c),I (ze9 c cl sch),I (zc9 c cl sch)] := by
 have e1 : (tbM c cl sch 0 0 0 0).rings.length = (prL9 c.tasks).length := by show ((prL9 c.tasks).map _).length = _; simp
 have e2 : (tbM c cl sch 0 0 0 0).isrs.length = c.isrs.length := by show (c.isrs.map _).length = _; simp
 unfold rmC zd9 zf9 ze9 zc9
 rw [e1,e2]
theorem qsw {c : Cf} (h : May c) (cl : List Int) (sch d f e k : Int) : RoomOK (tbM c cl sch d f e k) := by
 have nk := in9 h.k.1
 have na := in9 h.a.1
 have ni := in9 h.i.1
 have ns := in9 h.s.1
 refine ⟨fun x hx => ?_,fun x hx hk => ?_, ?_⟩
 ·obtain ⟨y,hy,rfl⟩ := List.mem_map.1 (show x ∈ c.als.map (mkA c) from hx)
  obtain ⟨j,hj⟩ := List.getElem?_of_mem hy
  have q : isId y.ctr c.ctrs.length = true := (h.a.2 j y hj).2.2 0 (by omega)
  have := id9 q
  show 0 ≤ y.ctr ∧ y.ctr < ((c.ctrs.map mkK).length : Int)
  rw [List.length_map]
  exact this
 ·obtain ⟨y,hy,rfl⟩ := List.mem_map.1 (show x ∈ c.msgs.map (mkS c) from hx)
  obtain ⟨j,hj⟩ := List.getElem?_of_mem hy
  have q : (y.kind == 1 || (isId y.frm c.msgs.length && qcn c y.frm == 1)) = true := (h.s.2 j y hj).2.2 1 (by omega)
  have hk' : ¬ y.kind = 1 := hk
  have q2 : isId y.frm c.msgs.length = true := by
   simp [hk'] at q
   exact q.1
  have := id9 q2
  show 0 ≤ y.frm ∧ y.frm < ((c.msgs.map (mkS c)).length : Int)
  rw [List.length_map]
  exact this
 ·show (c.ctrs.map mkK).length ≤ 16 ∧ (c.als.map (mkA c)).length ≤ 64 ∧ (c.msgs.map (mkS c)).length ≤ 64 ∧ (c.isrs.map mkI).length ≤ 32
  simp only [List.length_map]
  omega
def SM (B : Nat) (W : World) (c : Cf) (cl : List Int) (sch : Int) (v : Ts) : Prop := SG B W (c.tasks.map (mkT c cl (prL9 c.tasks))) (prL9 c.tasks) (resL c cl sch) (c.ctrs.map mkK) (c.als.map (mkA c)) (c.isrs.map mkI) (c.msgs.map (mkS c)) v
theorem qsx (w : World) (c : Cf) (v : Vs) (h : CfAt w c v) (hmy : May c) (ok : MkOK c) (sch : Int) (s0 s2 s3 s4 : Sl) (cl : List Int) (hcl : RowsAt w 1 intP s0 cl) (hcn : cl.length = c.ress.length) :
  Calls Tryz.prog 34 #[.agg (cfC c v), .agg (Ce.ceC sch s0 s2 s3 s4)] w fun e w' => (∃ u : Ts,e = .returned (.agg (tbC (tbM c cl sch (zd9 c) (zf9 c) (ze9 c cl sch) (zc9 c cl sch)) u)) ∧ SM w.heap.size w' c cl sch u) ∧ Below w.heap.size w w' := by
 have nt := ok.n.1
 have hpn : (prL9 c.tasks).length ≤ 1048576 := Nat.le_trans (qmz _) nt
 refine qop w (cfC c v) (Ce.ceC sch s0 s2 s3 s4) rfl rfl (c.tasks.map (mkT c cl (prL9 c.tasks))) (prL9 c.tasks) (resL c cl sch) (c.ctrs.map mkK) (c.als.map (mkA c)) (c.isrs.map mkI) (c.msgs.map (mkS c)) (usN c.o1 c.o2 c.o3 c.o4 c.o5 c.o6 c.o7 c.o8) c.osn c.o1 c.o2 c.o3 c.o4 c.o5 c.o6 c.o7 c.o8 v.m.a c.modes.length v.m.c v.t v.k.a v.k.n v.k.c v.i.a v.i.n v.i.c rfl rfl rfl rfl rfl rfl rfl rfl rfl (by rw [← h.m.n]; rfl) rfl rfl rfl
  (fun W hW => (qqy W v.t c.tasks (h.t.below hW (fun _ _ _ _ h => qem h hW)) nt).mono (fun e w' hq => ?_))
  (fun W => qsl W c.osn c.o1 c.o2 c.o3 c.o4 c.o5 c.o6 c.o7 c.o8)
  (fun W hW lv hlv => (qqs W c v (h.below hW) ok _ rfl s0 cl rfl (hcl.below hW (fun _ _ _ _ h => h)) hcn lv (prL9 c.tasks) hlv hpn).mono (fun e w' hq => ?_))
  (fun W hW => (qun W c v (h.below hW) ok _ s0 cl sch rfl rfl (hcl.below hW (fun _ _ _ _ h => h)) hcn).mono (fun e w' hq => ?_))
  (fun W hW => (qvo W c v (h.below hW) ok).mono (fun e w' hq => ?_))
  (fun W hW => (qvm W c v (h.below hW) ok).mono (fun e w' hq => ?_))
  (fun W hW => (qvp W c v (h.below hW) ok.n.2.2.2.2.1 ok.i).mono (fun e w' hq => ?_))
  (fun W hW => (qvn W c v (h.below hW) ok).mono (fun e w' hq => ?_))
  hpn (zd9 c) (zf9 c) (ze9 c cl sch) (zc9 c cl sch) (qvr c cl sch) (qsw hmy cl sch 0 0 0 0)
 ·obtain ⟨⟨a,k,h1,h2⟩,h3⟩ := hq
  exact ⟨⟨a,k,h1,qb2 h2 hW.size⟩,h3⟩
 ·obtain ⟨⟨a,k,h1,h2⟩,h3⟩ := hq
  refine ⟨⟨a,k, ?_, ?_⟩,h3⟩
  ·rw [List.length_map]; exact h1
  ·rw [List.length_map]; exact qit h2 hW.size
 ·obtain ⟨⟨a,k,h1,h2⟩,h3⟩ := hq
  exact ⟨⟨a,k,h1,qbo h2 hW.size⟩,h3⟩
 ·obtain ⟨⟨a,k,h1,h2⟩,h3⟩ := hq
  refine ⟨⟨a,k, ?_, ?_⟩,h3⟩
  ·rw [List.length_map]; exact h1
  ·rw [List.length_map]; exact qbo h2 hW.size
 ·obtain ⟨⟨a,k,h1,h2⟩,h3⟩ := hq
  refine ⟨⟨a,k, ?_, ?_⟩,h3⟩
  ·rw [List.length_map]; exact h1
  ·rw [List.length_map]; exact qbo h2 hW.size
 ·obtain ⟨⟨a,k,h1,h2⟩,h3⟩ := hq
  refine ⟨⟨a,k, ?_, ?_⟩,h3⟩
  ·rw [List.length_map]; exact h1
  ·rw [List.length_map]; exact qiu h2 hW.size
 ·obtain ⟨⟨a,k,h1,h2⟩,h3⟩ := hq
  refine ⟨⟨a,k, ?_, ?_⟩,h3⟩
  ·rw [List.length_map]; exact h1
  ·rw [List.length_map]; exact qbo h2 hW.size
theorem qlo {fn : Func} {n m : Nat} (hf : fn.results = #[.cell n 30, .tmp m]) (tmps : Array Value) (b : Nat) (w : World) (C : Array Value) (u : Value) (hi : (Tryz.prog.info? 30).map (·.size) = some C.size)
  (h2 : tmps[n]? = some (.pointer (some ⟨b,0,none⟩))) (h3 : tmps[m]? = some u) (hk : w.heap[b]? = some (.cells C 30 (0,0))) : (results fn tmps).run Tryz.prog w = .ok (.tuple #[.agg C,u]) w := by
 have hr := run_loadVar_row w b 30 30 C (0,0) _ hk Tryz.underlying30 rfl hi
 simp [results,hf,h2,h3,asAddr,hr]
theorem qiv (W : World) (k : Int) (s : List UInt8) (i : Int) : (Instr.field 79 (.agg #[I k,S s,I i]) 0).run Tryz.prog W = .ok (I k) W := by kernel_rfl
def zTb : Array Value := #[I 0,I 0, .slice none 0 0, .slice none 0 0, .slice none 0 0, .slice none 0 0, .slice none 0 0, .slice none 0 0, .slice none 0 0,I 0,I 0,I 0,I 0]
def tbX (c : Cf) : Tb := tbM c (Ce.ceilL c) (Ce.schE c) (zd9 c) (zf9 c) (ze9 c (Ce.ceilL c) (Ce.schE c)) (zc9 c (Ce.ceilL c) (Ce.schE c))
def SX (B : Nat) (W : World) (c : Cf) (u : Ts) : Prop := SM B W c (Ce.ceilL c) (Ce.schE c) u
theorem qlp (w : World) (c : Cf) (v : Vs) (h : CfAt w c v) (hl : LensOK c) (hE : EnvE w) (hm : ∀ x ∈ c.evs,x.mask < 4294967296) (ha : allF c = none) : Calls Tryz.prog 11 #[.agg (cfC c v)] w fun e w' => (∃ u : Ts,e = .returned (.tuple #[.agg (tbC (tbX c) u),I 0]) ∧ SX w.heap.size w' c u) ∧ Below w.heap.size w w' := by
 have hmy := qki ha
 have ok := qw8 hmy hm
 have hlk := qln ha
 have hb : Below w.heap.size w ((w.alloc (.cells (cfC c v) 47)).alloc (.cells zTb 30)) := (qa0 w _).trans ((qa0 _ _).mono (by simp))
 have hV1 : ((w.alloc (.cells (cfC c v) 47)).alloc (.cells zTb 30)).heap[w.heap.size]? = some (.cells (cfC c v) 47) := by
  rw [heap_alloc_old _ _ (by simp)]; exact heap_alloc_new w _
 have hV2 : ((w.alloc (.cells (cfC c v) 47)).alloc (.cells zTb 30)).heap[w.heap.size + 1]? = some (.cells zTb 30) := qda _ _ _
 have hi18 : (Tryz.prog.info? 47).map (·.size) = some (cfC c v).size := by rw [show (cfC c v).size = 18 from rfl]; kernel_rfl
 have HF : Hid (∀ W,Below w.heap.size w W → Calls Tryz.prog 32 #[.agg (cfC c v)] W fun e w' => e = .returned (.agg #[I 0,S [],I 0]) ∧ Below W.heap.size W w') := fun W hW => by
  have := qh9 W c v (h.below hW) hl (hE.below hW)
  rw [ha] at this
  exact this
 have HR : Hid (∀ W,Below w.heap.size w W → Calls Tryz.prog 33 #[.agg (cfC c v)] W fun e w' => ∃ s0 s2 s3 s4 : Sl,RowsAt w' 1 intP s0 (Ce.ceilL c) ∧ e = .returned (.tuple #[.agg #[.slice s0.a s0.n s0.c,I (Ce.schE c), .slice s2.a s2.n s2.c, .slice s3.a s3.n s3.c, .slice s4.a s4.n s4.c],I 0]) ∧ Below W.heap.size W w') := fun W hW => (Ce.reckon_any W c v (h.below hW) hl.r hl.t hl.i).mono (fun e w' hq => by
  obtain ⟨s0,s2,s3,s4,h1,h2,h3⟩ := hq
  have e0 : (Ce.rckX c).res = Ce.ceilL c := by unfold Ce.rckX; rw [if_pos hlk]
  have e1 : (Ce.rckX c).sch = Ce.schE c := by unfold Ce.rckX; rw [if_pos hlk]
  rw [hlk,e1] at h1
  refine ⟨s0,s2,s3,s4, ?_,h1,h3⟩
  have h4 := h2.a
  rw [e0] at h4
  exact qdg rfl h4)
 have HK : Hid (∀ W,Below w.heap.size w W → ∀ s0 s2 s3 s4 : Sl,RowsAt W 1 intP s0 (Ce.ceilL c) → Calls Tryz.prog 34 #[.agg (cfC c v), .agg #[.slice s0.a s0.n s0.c,I (Ce.schE c), .slice s2.a s2.n s2.c, .slice s3.a s3.n s3.c, .slice s4.a s4.n s4.c]] W fun e w' => (∃ u : Ts,e = .returned (.agg (tbC (tbX c) u)) ∧ SX W.heap.size w' c u) ∧ Below W.heap.size W w') := fun W hW s0 s2 s3 s4 h0 => qsx W c v (h.below hW) hmy ok (Ce.schE c) s0 s2 s3 s4 (Ce.ceilL c) h0 (by unfold Ce.ceilL; simp)
 have HV : Hid (∀ W,Below ((w.alloc (.cells (cfC c v) 47)).alloc (.cells zTb 30)).heap.size ((w.alloc (.cells (cfC c v) 47)).alloc (.cells zTb 30)) W → W.heap[w.heap.size]? = some (.cells (cfC c v) 47 (0,0)) ∧ W.heap[w.heap.size + 1]? = some (.cells zTb 30 (0,0)) ∧ Below w.heap.size w W) := fun W hW => ⟨(hW.block _ (qa1 hV1)).trans hV1,(hW.block _ (qa1 hV2)).trans hV2,hb.trans (hW.mono hb.size)⟩
 generalize hsch : Ce.schE c = sch at HR HK
 generalize hcl : Ce.ceilL c = cl at HR HK
 clear hV1 hV2 hb h hE hsch hcl hmy ok hlk ha hm hl
 generalize hCC : cfC c v = C at *
 clear hCC
 generalize hTX : tbX c = TX at *
 clear hTX
 have fc := fun W => qiv W 0 [] 0
 go_enter Tryz.func11,Tryz.ntmps11
 go_upto_region 1 with fail
 unfold zTb at HV
 generalize ((w.alloc (.cells C 47)).alloc (.cells #[I 0,I 0, .slice none 0 0, .slice none 0 0, .slice none 0 0, .slice none 0 0, .slice none 0 0, .slice none 0 0, .slice none 0 0,I 0,I 0,I 0,I 0] 30)) = W1 at *
 obtain ⟨hv1,_,bw1⟩ := HV.out W1 (Below.refl _ _)
 have kF := HF.out W1 bw1
 go_upto_region 3 with (first | (with_reducible refine qa8 ?_; refine wpList_load_row rfl 47 _ rfl w.heap.size rfl 47 _ (0,0) _ hv1 Tryz.underlying47 rfl hi18 ?_) | (go_at_call 32; refine kF.mono ?_; clear kF; rintro e w2 ⟨rfl,b2⟩))
 clear hv1 bw1
 obtain ⟨hv2,_,bw2⟩ := HV.out w2 b2
 have kR := HR.out w2 bw2
 go_upto_region 4 with (first | (with_reducible refine qa8 ?_; refine wpList_load_row rfl 47 _ rfl w.heap.size rfl 47 _ (0,0) _ hv2 Tryz.underlying47 rfl hi18 ?_) | (go_at_call 33; refine kR.mono ?_; clear kR; rintro e w3 ⟨s0,s2,s3,s4,hn0,rfl,b3⟩; have HN0 : Hid (RowsAt w3 1 intP s0 cl) := hn0; clear hn0))
 have B3 := b2.trans (b3.mono b2.size)
 have b4 := qa0 w3 (.cells #[.slice s0.a s0.n s0.c,I sch, .slice s2.a s2.n s2.c, .slice s3.a s3.n s3.c, .slice s4.a s4.n s4.c] 82)
 have hE4 := heap_alloc_new w3 (.cells #[.slice s0.a s0.n s0.c,I sch, .slice s2.a s2.n s2.c, .slice s3.a s3.n s3.c, .slice s4.a s4.n s4.c] 82)
 have B4 := B3.trans (b4.mono B3.size)
 have HN4 : Hid (RowsAt (w3.alloc (.cells #[.slice s0.a s0.n s0.c,I sch, .slice s2.a s2.n s2.c, .slice s3.a s3.n s3.c, .slice s4.a s4.n s4.c] 82)) 1 intP s0 cl) := HN0.out.below b4 (fun _ _ _ _ h => h)
 clear hv2 bw2 b2 b3 b4 B3 HN0
 generalize (w3.alloc (.cells #[.slice s0.a s0.n s0.c,I sch, .slice s2.a s2.n s2.c, .slice s3.a s3.n s3.c, .slice s4.a s4.n s4.c] 82)) = w4 at *
 obtain ⟨hv4,_,bw4⟩ := HV.out w4 B4
 have kT := HK.out w4 bw4 s0 s2 s3 s4 HN4.out
 have hi5 : (Tryz.prog.info? 82).map (·.size) = some (#[.slice s0.a s0.n s0.c,I sch, .slice s2.a s2.n s2.c, .slice s3.a s3.n s3.c, .slice s4.a s4.n s4.c] : Array Value).size := by kernel_rfl
 generalize w3.heap.size = X3 at *
 go_upto_region 6 with fail
 go_wp2_with (first | (with_reducible refine qa8 ?_; refine wpList_load_row rfl 47 _ rfl w.heap.size rfl 47 _ (0,0) _ hv4 Tryz.underlying47 rfl hi18 ?_) | (with_reducible refine qa8 ?_; refine wpList_load_row rfl 82 _ rfl X3 rfl 82 _ (0,0) _ hE4 Tryz.underlying82 rfl hi5 ?_))
 refine kT.mono ?_
 clear kT
 rintro e w5 ⟨⟨u,rfl,hT5⟩,b5⟩
 obtain ⟨_,hr5,bw5⟩ := HV.out w5 (B4.trans (b5.mono B4.size))
 have hiT : (Tryz.prog.info? 30).map (·.size) = some (tbC TX u).size := by rw [show (tbC TX u).size = 13 from rfl]; kernel_rfl
 have g6 : w5.grownBy (w5.setRow (w.heap.size + 1) (tbC TX u)) (some (w.heap.size + 1)) := Ce.grown_row _ _ _
 have Y6 := setRow_heap w5 (w.heap.size + 1) _ (tbC TX u) _ _ hr5
 have HT5 : Hid (SX w4.heap.size w5 c u) := hT5
 have h1c : (tbC TX u).all (·.oneCell') = true := by simp [tbC,Value.oneCell']
 have hsz : (#[I 0,I 0, .slice none 0 0, .slice none 0 0, .slice none 0 0, .slice none 0 0, .slice none 0 0, .slice none 0 0, .slice none 0 0,I 0,I 0,I 0,I 0] : Array Value).size = (tbC TX u).size := rfl
 clear hT5 hv4 hE4
 generalize hTB : tbC TX u = TB at *
 go_wp2_with (first | (with_reducible refine qa8 ?_; refine wpList_store_row rfl 30 _ _ rfl (w.heap.size + 1) _ rfl rfl 30 _ hr5 hiT hsz h1c ?_))
 refine bodyPost_ret (v := .tuple #[.agg TB,I 0]) (qlo Tryz.results11 _ (w.heap.size + 1) _ _ _ hiT rfl rfl Y6) rfl ?_
 subst hTB
 refine ⟨⟨u,rfl,SG.mono9 (SG.store HT5.out hr5 g6) bw4.size⟩,bw5.grown g6 bw5.size (fun k e => by cases e; omega)⟩
theorem qsy (w : World) (c : Cf) (v : Vs) (h : CfAt w c v) (hl : LensOK c) (hE : EnvE w) (k : Int) (wd : List UInt8) (i : Int) (ha : allF c = some (k,wd,i)) (hk : k ≠ 0) : Calls Tryz.prog 11 #[.agg (cfC c v)] w fun e w' => e = .returned (.tuple #[.agg zTb,I 90]) ∧ Below w.heap.size w w' := by
 have hb : Below w.heap.size w ((w.alloc (.cells (cfC c v) 47)).alloc (.cells zTb 30)) := (qa0 w _).trans ((qa0 _ _).mono (by simp))
 have hV1 : ((w.alloc (.cells (cfC c v) 47)).alloc (.cells zTb 30)).heap[w.heap.size]? = some (.cells (cfC c v) 47) := by
  rw [heap_alloc_old _ _ (by simp)]; exact heap_alloc_new w _
 have hV2 : ((w.alloc (.cells (cfC c v) 47)).alloc (.cells zTb 30)).heap[w.heap.size + 1]? = some (.cells zTb 30) := qda _ _ _
 have hi18 : (Tryz.prog.info? 47).map (·.size) = some (cfC c v).size := by rw [show (cfC c v).size = 18 from rfl]; kernel_rfl
 have HF : Hid (∀ W,Below w.heap.size w W → Calls Tryz.prog 32 #[.agg (cfC c v)] W fun e w' => e = .returned (.agg #[I k,S wd,I i]) ∧ Below W.heap.size W w') := fun W hW => by
  have := qh9 W c v (h.below hW) hl (hE.below hW)
  rw [ha] at this
  exact this
 have HV : Hid (∀ W,Below ((w.alloc (.cells (cfC c v) 47)).alloc (.cells zTb 30)).heap.size ((w.alloc (.cells (cfC c v) 47)).alloc (.cells zTb 30)) W → W.heap[w.heap.size]? = some (.cells (cfC c v) 47 (0,0)) ∧ W.heap[w.heap.size + 1]? = some (.cells zTb 30 (0,0)) ∧ Below w.heap.size w W) := fun W hW => ⟨(hW.block _ (qa1 hV1)).trans hV1,(hW.block _ (qa1 hV2)).trans hV2,hb.trans (hW.mono hb.size)⟩
 have hk' : ¬ k = 0 := hk
 clear hV1 hV2 hb h hE ha hl hk
 generalize hCC : cfC c v = C at *
 clear hCC
 have fc := fun W => qiv W k wd i
 go_enter Tryz.func11,Tryz.ntmps11
 go_upto_region 1 with fail
 unfold zTb at HV
 generalize ((w.alloc (.cells C 47)).alloc (.cells #[I 0,I 0, .slice none 0 0, .slice none 0 0, .slice none 0 0, .slice none 0 0, .slice none 0 0, .slice none 0 0, .slice none 0 0,I 0,I 0,I 0,I 0] 30)) = W1 at *
 obtain ⟨hv1,_,bw1⟩ := HV.out W1 (Below.refl _ _)
 have kF := HF.out W1 bw1
 go_upto_region 2 with (first | (with_reducible refine qa8 ?_; refine wpList_load_row rfl 47 _ rfl w.heap.size rfl 47 _ (0,0) _ hv1 Tryz.underlying47 rfl hi18 ?_) | (go_at_call 32; refine kF.mono ?_; clear kF; rintro e w2 ⟨rfl,b2⟩))
 clear hv1 bw1
 obtain ⟨hv2,hr5,bw2⟩ := HV.out w2 b2
 have hiT : (Tryz.prog.info? 30).map (·.size) = some (#[I 0,I 0, .slice none 0 0, .slice none 0 0, .slice none 0 0, .slice none 0 0, .slice none 0 0, .slice none 0 0, .slice none 0 0,I 0,I 0,I 0,I 0] : Array Value).size := by kernel_rfl
 have g6 : w2.grownBy (w2.setRow (w.heap.size + 1) #[I 0,I 0, .slice none 0 0, .slice none 0 0, .slice none 0 0, .slice none 0 0, .slice none 0 0, .slice none 0 0, .slice none 0 0,I 0,I 0,I 0,I 0]) (some (w.heap.size + 1)) := Ce.grown_row _ _ _
 have Y6 := setRow_heap w2 (w.heap.size + 1) _ #[I 0,I 0, .slice none 0 0, .slice none 0 0, .slice none 0 0, .slice none 0 0, .slice none 0 0, .slice none 0 0, .slice none 0 0,I 0,I 0,I 0,I 0] _ _ hr5
 go_wp2_with (first | (with_reducible refine qa8 ?_; refine wpList_store_row rfl 30 _ _ rfl (w.heap.size + 1) _ rfl rfl 30 _ hr5 hiT rfl (by simp [Value.oneCell']) ?_))
 refine bodyPost_ret (v := .tuple #[.agg #[I 0,I 0, .slice none 0 0, .slice none 0 0, .slice none 0 0, .slice none 0 0, .slice none 0 0, .slice none 0 0, .slice none 0 0,I 0,I 0,I 0,I 0],I 90]) (qlo Tryz.results11 _ (w.heap.size + 1) _ _ _ hiT rfl rfl Y6) rfl ?_
 exact ⟨rfl,bw2.grown g6 bw2.size (fun k e => by cases e; omega)⟩
theorem qeo {α : Type} (f : α → Bool) (g : α → Int) (p : Int) : ∀ (l : List α) (t : Option Int),(∃ q,t = some q ∧ p ≤ q) → ∃ q,l.foldl (fun t x => if f x = true then Ce.topAdd t (g x) else t) t = some q ∧ p ≤ q
 | [],t,h => h
 | y :: r,t,h => by
  rw [List.foldl_cons]
  refine qeo f g p r _ ?_
  obtain ⟨q,rfl,hq⟩ := h
  split
  ·exact ⟨max (g y) q,rfl,by omega⟩
  ·exact ⟨q,rfl,hq⟩
theorem qiw {α : Type} (f : α → Bool) (g : α → Int) : ∀ (l : List α) (t : Option Int) (x : α),x ∈ l → f x = true → ∃ q,l.foldl (fun t x => if f x = true then Ce.topAdd t (g x) else t) t = some q ∧ g x ≤ q
 | [],t,x,h,_ => by cases h
 | y :: r,t,x,h,hf => by
  rw [List.foldl_cons]
  rcases List.mem_cons.1 h with rfl | h
  ·refine qeo f g (g x) r _ ?_
   rw [if_pos hf]
   cases t with
   | none => exact ⟨_,rfl,Int.le_refl _⟩
   | some a => exact ⟨max (g x) a,rfl,by omega⟩
  ·exact qiw f g r _ x h hf
theorem qlq {c : Cf} (hl : Ce.lookE c = 0) {x : Tk} (hx : x ∈ c.tasks) {r : Nat} (hr : r < c.ress.length) (hxr : (r : Int) ∈ x.res) : x.prio ≤ Ce.ceilE c r := by
 obtain ⟨hm,_,he⟩ := Ce.look_lk hl
 rw [Ce.ceilE_use c r (Ce.endsB_at he hr)]
 unfold Ce.useI
 have h1 : ∃ q,Ce.useT c (r : Int) c.tasks.length = some q ∧ x.prio ≤ q := by
  unfold Ce.useT
  rw [List.take_of_length_le (Nat.le_refl _)]
  exact qiw (fun y : Tk => Ce.usesB c y.res (r : Int)) (fun y : Tk => y.prio) c.tasks none x hx (List.any_eq_true.2 ⟨_,hxr,by simp⟩)
 obtain ⟨q,h2,h3⟩ := qeo (fun y : Is => Ce.usesB c y.res (r : Int)) (fun y : Is => y.prio) x.prio (c.isrs.take c.isrs.length) _ h1
 rw [h2]
 exact h3
theorem qn0 (c : Cf) : ∀ (l : List Int) (i k : Nat) (x : Int),l[k]? = some x → (resF c i l)[k]? = some ⟨innB c ((i + k : Nat) : Int),x⟩
 | [],i,k,x,h => by simp at h
 | y :: r,i,0,x,h => by simp at h; subst h; rfl
 | y :: r,i,k + 1,x,h => by
  have := qn0 c r (i + 1) k x (by simpa using h)
  rw [show i + (k + 1) = i + 1 + k by omega]
  exact this
theorem quq {c : Cf} (hm : May c) (hl : Ce.lookE c = 0) {x : Tk} (hx : x ∈ c.tasks) (hid : ∀ z ∈ x.res,0 ≤ z ∧ z < (c.ress.length : Int)) {z : Int} (hz : z ∈ ownL c x.res) : 0 ≤ z ∧ z < ((resL c (Ce.ceilL c) (Ce.schE c)).length : Int) ∧ ∃ ce,(resL c (Ce.ceilL c) (Ce.schE c))[z.toNat]? = some ⟨false,ce⟩ ∧ x.prio ≤ ce := by
 have hln : (resF c 0 (Ce.ceilL c)).length = c.ress.length := by rw [qgs]; unfold Ce.ceilL; simp
 unfold ownL at hz
 rw [List.mem_append] at hz
 rcases hz with hz | hz
 ·rw [List.mem_filter] at hz
  obtain ⟨h1,h2⟩ := hz
  obtain ⟨h3,h4⟩ := hid z h1
  obtain ⟨n,rfl⟩ := Int.eq_ofNat_of_zero_le h3
  have hn : n < c.ress.length := by omega
  have hc : (Ce.ceilL c)[n]? = some (Ce.ceilE c n) := by unfold Ce.ceilL; simp [hn]
  have hr := qn0 c (Ce.ceilL c) 0 n _ hc
  refine ⟨h3, ?_,Ce.ceilE c n, ?_,qlq hl hx hn h1⟩
  ·unfold resL
   rw [List.length_append,hln]
   omega
  ·unfold resL
   rw [Int.toNat_natCast,List.getElem?_append_left (by rw [hln]; exact hn),hr,Nat.zero_add]
   simp at h2
   rw [h2]
 ·cases ho : c.o8 with
  | false => rw [ho] at hz; simp at hz
  | true =>
   rw [ho] at hz
   simp at hz
   subst hz
   refine ⟨by omega, ?_,Ce.schE c, ?_,Ce.prio_le hx⟩
   ·unfold resL
    rw [List.length_append,hln,ho]
    simp
    omega
   ·unfold resL
    rw [Int.toNat_natCast,List.getElem?_append_right (by rw [hln]; exact Nat.le_refl _),hln,ho]
    simp
theorem qn1 (p : Int → Bool) : ∀ (l : List Int) (i : Nat),fidF p i l < 0 ∨ ((i : Int) ≤ fidF p i l ∧ fidF p i l < ((i + l.length : Nat) : Int))
 | [],i => Or.inl (by simp [fidF])
 | y :: r,i => by
  simp only [fidF,List.length_cons]
  split
  ·exact Or.inr ⟨Int.le_refl _,by omega⟩
  ·rcases qn1 p r (i + 1) with h | h
   ·exact Or.inl h
   ·exact Or.inr (by omega)
theorem qur (p : Int → Bool) (l : List Int) (h : ¬ fidF p 0 l < 0) : (fidF p 0 l).toNat < l.length := by
 rcases qn1 p l 0 with h1 | h1
 ·exact absurd h1 h
 ·omega
theorem qvs {c : Cf} (hl : Ce.lookE c = 0) {x : Tk} (hx : x ∈ c.tasks) (hid : ∀ z ∈ x.res,0 ≤ z ∧ z < (c.ress.length : Int)) (h : 0 ≤ inlI c (Ce.ceilL c) x.res) : x.prio ≤ inlI c (Ce.ceilL c) x.res := by
 unfold inlI at h ⊢
 split at h
 ·omega
 ·rename_i hf
  rw [if_neg hf]
  have hlt : (fidF (innB c) 0 x.res).toNat < x.res.length := qur (innB c) x.res hf
  have hmem : x.res.getD (fidF (innB c) 0 x.res).toNat 0 ∈ x.res := by
   rw [List.getD_eq_getElem?_getD,List.getElem?_eq_getElem hlt]
   exact List.getElem_mem _
  generalize x.res.getD (fidF (innB c) 0 x.res).toNat 0 = z at *
  obtain ⟨h3,h4⟩ := hid z hmem
  obtain ⟨n,rfl⟩ := Int.eq_ofNat_of_zero_le h3
  have hn : n < c.ress.length := by omega
  have hc : (Ce.ceilL c)[n]? = some (Ce.ceilE c n) := by unfold Ce.ceilL; simp [hn]
  rw [Int.toNat_natCast,List.getD_eq_getElem?_getD,hc]
  exact qlq hl hx hn hmem
theorem qsz {l : List Tk} {x : Tk} (hx : x ∈ l) : 0 ≤ fidF (fun y => y == x.prio) 0 (prL9 l) ∧ fidF (fun y => y == x.prio) 0 (prL9 l) < ((prL9 l).length : Int) ∧ (prL9 l)[(fidF (fun y => y == x.prio) 0 (prL9 l)).toNat]? = some x.prio := by
 have hm : x.prio ∈ prL9 l := (qmy l x.prio).2 ⟨x,hx,rfl⟩
 obtain ⟨k,hk⟩ := List.mem_iff_getElem?.1 hm
 have hf := qgt l
 have hkl := (List.getElem?_eq_some_iff.1 hk)
 have e := qfr (fun y => y == x.prio) (prL9 l) 0 k x.prio hk (by simp) (fun j y hj hy => by
  have hjl := List.getElem?_eq_some_iff.1 hy
  have := List.pairwise_iff_getElem.1 hf j k hjl.1 hkl.1 hj
  rw [hkl.2,hjl.2] at this
  simp
  omega)
 rw [Nat.zero_add] at e
 rw [e]
 exact ⟨by omega,by have := hkl.1; omega,by rw [Int.toNat_natCast]; exact hk⟩
def sumI : List Int → Int
 | [] => 0
 | x :: r => x + sumI r
theorem qfk (x : Int) : ∀ l : List Int,sumI (l ++ [x]) = sumI l + x
 | [] => by simp [sumI]
 | y :: r => by simp only [List.cons_append,sumI,qfk x r]; omega
theorem qlr (f g : Int → Int) : ∀ l : List Int,sumI (l.map fun p => f p + g p) = sumI (l.map f) + sumI (l.map g)
 | [] => rfl
 | y :: r => by simp only [List.map_cons,sumI,qlr f g r]; omega
theorem qfl : ∀ l : List Int,sumI (l.map fun _ => (0 : Int)) = 0
 | [] => rfl
 | y :: r => by simp only [List.map_cons,sumI,qfl r]; omega
theorem qls (q v : Int) : ∀ l : List Int,q ∈ l → l.Pairwise (fun x y => y < x) → sumI (l.map fun p => if q = p then v else 0) = v
 | [],h,_ => by cases h
 | y :: r,h,hp => by
  rw [List.pairwise_cons] at hp
  simp only [List.map_cons,sumI]
  by_cases e : q = y
  ·subst e
   rw [if_pos rfl]
   have : (r.map fun p => if q = p then v else 0) = r.map fun _ => (0 : Int) := List.map_congr_left (fun p hp2 => if_neg (fun e => by have := hp.1 p hp2; omega))
   rw [this,qfl]
   omega
  ·rw [if_neg e]
   have := qls q v r ((List.mem_cons.1 h).resolve_left e) hp.2
   omega
theorem qlt (pl : List Int) (hp : pl.Pairwise fun x y => y < x) : ∀ ts : List TkR,(∀ x ∈ ts,x.prio ∈ pl) → sumI (pl.map fun p => capN ts p) = sumI (ts.map fun x => x.limit)
 | [],_ => qfl pl
 | x :: r,h => by
  have e : (pl.map fun p => capN (x :: r) p) = pl.map fun p => (if x.prio = p then x.limit else 0) + capN r p := rfl
  rw [e,qlr (fun p => if x.prio = p then x.limit else 0) (fun p => capN r p),qls _ _ _ (h x (List.mem_cons_self ..)) hp,qlt pl hp r (fun y hy => h y (List.mem_cons_of_mem _ hy))]
  rfl
theorem qn2 (p : Int) : ∀ ts : List TkR,(∀ x ∈ ts,0 ≤ x.limit ∧ x.limit ≤ 255) → 0 ≤ capN ts p ∧ capN ts p ≤ 255 * ts.length
 | [],_ => ⟨Int.le_refl _,by simp [capN]⟩
 | x :: r,h => by
  have h1 := qn2 p r (fun y hy => h y (List.mem_cons_of_mem _ hy))
  have h2 := h x (List.mem_cons_self ..)
  simp only [capN,List.length_cons]
  split <;> omega
end Go.Proofs.YtmidaeljeoifdaaGreatDoor
