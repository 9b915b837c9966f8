import Derived.Test.YtmidaeljeoifdaaGreatDoorProg
import Derived.WalkKit
import Derived.WalkSpells
import Derived.WalkLawsBesides
import Derived.BigQuiet
import Derived.OwnWalk
import Derived.Deep.LoopGhost
import Derived.Deep.QuietTactic
namespace Go.Proofs.YtmidaeljeoifdaaGreatDoor
open Go.RowKit
set_option linter.unusedSimpArgs false
set_option linter.unusedVariables false
set_option maxHeartbeats 16000000
set_option maxRecDepth 100000
theorem q7a : type_of% @List.getElem_toArray := @List.getElem_toArray
theorem q7b : type_of% @List.getElem_cons_succ := @List.getElem_cons_succ
theorem q7c : type_of% @List.getElem_cons_zero := @List.getElem_cons_zero
theorem q7d : type_of% @List.setIfInBounds_toArray := @List.setIfInBounds_toArray
theorem q7e : type_of% @List.set_cons_zero := @List.set_cons_zero
theorem q7f : type_of% @List.set_cons_succ := @List.set_cons_succ
theorem qa1 {w : World} {b : Nat} {o : Obj} (h : w.heap[b]? = some o) : b < w.heap.size := by
 rcases Nat.lt_or_ge b w.heap.size with h' | h'
 ·exact h'
 ·rw [Array.getElem?_eq_none h'] at h; cases h
theorem qa7 {B : Nat} {w w' : World} (hb : Below B w w') (g i : Nat) (h : g < B) : w'.cell? ⟨g,i,none⟩ = w.cell? ⟨g,i,none⟩ :=
 World.cell?_of_block (hb.block g h)
theorem qgx (w : World) (r : Option Nat) : w.grownBy w r := ⟨rfl,rfl,rfl,Nat.le_refl _,fun _ _ _ => rfl⟩
theorem qbf {a b : World} {r : Option Nat} (h : Below a.heap.size a b) : a.grownBy b r := ⟨h.os,h.tape,h.output,h.size,fun i hi _ => h.block i hi⟩
theorem qam {a b : World} {r B : Nat} (h : a.grownBy b (some r)) (hB : B ≤ r) (hs : B ≤ a.heap.size) : Below B a b := (Below.refl _ _).grown h hs (fun k e => by cases e; exact hB)
theorem qal {a b : World} (h : a.grownBy b none) : Below a.heap.size a b := (Below.refl _ _).grown h (Nat.le_refl _) (fun k e => by cases e)
theorem qac (w : World) (r k : Nat) (v : Value) : w.grownBy (w.setCell ⟨r,k,none⟩ v) (some r) :=
 ⟨rfl,rfl,rfl,by simp,fun j _ hj => heap_setCell_other w ⟨r,k,none⟩ j _ (fun e => hj (by simp [e]))⟩
theorem qa0 (w : World) (o : Obj) : Below w.heap.size w (w.alloc o) := (Below.refl _ _).alloc (Nat.le_refl _) _
theorem qa6 {w w' : World} {base e size n : Nat} {v : Value} {xs : List Value} (h : w.ownsRow base e size v n xs) (hb : Below w.heap.size w w') : w'.ownsRow base e size v n xs := by
 obtain ⟨hl,h0 | ⟨g,cap,cur,hv,hb1,hh,rr⟩⟩ := h
 ·exact ⟨hl, .inl h0⟩
 ·exact ⟨hl, .inr ⟨g,cap,cur,hv,hb1,(hb.block g (qa1 hh)).trans hh,rr⟩⟩
structure Tk where
 name : List UInt8
 prio : Int
 full : Bool
 act : Int
 auto : List Int
 res : List Int
 evs : List Int
 msgs : List Int
structure Rs where
 name : List UInt8
 kind : Int
 link : Int
structure Ev where
 name : List UInt8
 mask : Nat
 auto : Bool
structure Ct where
 name : List UInt8
 max : Nat
 base : Nat
 min : Nat
structure Ac where
 kind : Int
 task : Int
 event : Int
 name : List UInt8
structure Al where
 name : List UInt8
 ctr : Int
 ac : Ac
 auto : List Int
 time : Nat
 cycle : Nat
structure Is where
 name : List UInt8
 cat : Int
 prio : Int
 res : List Int
 msgs : List Int
structure Ms where
 name : List UInt8
 kind : Int
 len : Int
 frm : Int
 init : Nat
 queue : Int
 ac : Ac
structure Cf where
 cpu : List UInt8
 osn : List UInt8
 o1 : Bool
 o2 : Bool
 o3 : Bool
 o4 : Bool
 o5 : Bool
 o6 : Bool
 o7 : Bool
 o8 : Bool
 modes : List (List UInt8)
 tasks : List Tk
 ress : List Rs
 evs : List Ev
 ctrs : List Ct
 als : List Al
 isrs : List Is
 msgs : List Ms
structure Sl where
 a : Option Addr
 n : Nat
 c : Nat
structure Vs where
 m : Sl
 t : Sl
 r : Sl
 e : Sl
 k : Sl
 a : Sl
 i : Sl
 s : Sl
abbrev S (l : List UInt8) : Value := .string ⟨l.toArray⟩
abbrev I (i : Int) : Value := .int .i64 i
def cfC (c : Cf) (v : Vs) : Array Value := #[S c.cpu,S c.osn, .bool c.o1, .bool c.o2, .bool c.o3, .bool c.o4, .bool c.o5, .bool c.o6, .bool c.o7, .bool c.o8,
 .slice v.m.a v.m.n v.m.c, .slice v.t.a v.t.n v.t.c, .slice v.r.a v.r.n v.r.c, .slice v.e.a v.e.n v.e.c, .slice v.k.a v.k.n v.k.c, .slice v.a.a v.a.n v.a.c, .slice v.i.a v.i.n v.i.c, .slice v.s.a v.s.n v.s.c]
structure RowsAt {α : Type} (w : World) (k : Nat) (P : α → Nat → Value → Prop) (s : Sl) (l : List α) : Prop where
 n : s.n = l.length
 c : s.n ≤ s.c
 m : s.c ≤ maxLen
 row : ∀ (j : Nat) (x : α),l[j]? = some x → ∃ g off,s.a = some ⟨g,off,none⟩ ∧ g < w.heap.size ∧ ∀ i,i < k → ∃ u,w.cell? ⟨g,off + j * k + i,none⟩ = some u ∧ P x i u
theorem RowsAt.below {α : Type} {w w' : World} {k : Nat} {P Q : α → Nat → Value → Prop} {s : Sl} {l : List α} (h : RowsAt w k P s l) (hb : Below w.heap.size w w') (hPQ : ∀ x i u,x ∈ l → P x i u → Q x i u) : RowsAt w' k Q s l := by
 refine ⟨h.n,h.c,h.m,fun j x hj => ?_⟩
 obtain ⟨g,off,e,hg,hr⟩ := h.row j x hj
 refine ⟨g,off,e,Nat.lt_of_lt_of_le hg hb.size,fun i hi => ?_⟩
 obtain ⟨u,h1,h2⟩ := hr i hi
 exact ⟨u,by rw [qa7 hb _ _ hg]; exact h1,hPQ x i u (List.mem_of_getElem? hj) h2⟩
def intP (x : Int) (_ : Nat) (u : Value) : Prop := u = I x
def strP (x : List UInt8) (_ : Nat) (u : Value) : Prop := u = S x
def IntsV (w : World) (l : List Int) (u : Value) : Prop := ∃ s : Sl,u = .slice s.a s.n s.c ∧ RowsAt w 1 intP s l
theorem IntsV.below {w w' : World} {l : List Int} {u : Value} (h : IntsV w l u) (hb : Below w.heap.size w w') : IntsV w' l u := by
 obtain ⟨s,e,h⟩ := h
 exact ⟨s,e,h.below hb (fun _ _ _ _ h => h)⟩
def rsP (x : Rs) (i : Nat) (u : Value) : Prop := match i with | 0 => u = S x.name | 1 => u = I x.kind | _ => u = I x.link
def evP (x : Ev) (i : Nat) (u : Value) : Prop := match i with | 0 => u = S x.name | 1 => u = .int .u32 (x.mask : Int) | _ => u = .bool x.auto
def ctP (x : Ct) (i : Nat) (u : Value) : Prop := match i with | 0 => u = S x.name | 1 => u = .int .u32 (x.max : Int) | 2 => u = .int .u32 (x.base : Int) | _ => u = .int .u32 (x.min : Int)
def tkP (w : World) (x : Tk) (i : Nat) (u : Value) : Prop := match i with | 0 => u = S x.name | 1 => u = I x.prio | 2 => u = .bool x.full | 3 => u = I x.act | 4 => IntsV w x.auto u | 5 => IntsV w x.res u | 6 => IntsV w x.evs u | _ => IntsV w x.msgs u
def alP (w : World) (x : Al) (i : Nat) (u : Value) : Prop := match i with | 0 => u = S x.name | 1 => u = I x.ctr | 2 => u = I x.ac.kind | 3 => u = I x.ac.task | 4 => u = I x.ac.event | 5 => u = S x.ac.name | 6 => IntsV w x.auto u | 7 => u = .int .u32 (x.time : Int) | _ => u = .int .u32 (x.cycle : Int)
def isP (w : World) (x : Is) (i : Nat) (u : Value) : Prop := match i with | 0 => u = S x.name | 1 => u = I x.cat | 2 => u = I x.prio | 3 => IntsV w x.res u | _ => IntsV w x.msgs u
def msP (x : Ms) (i : Nat) (u : Value) : Prop := match i with | 0 => u = S x.name | 1 => u = I x.kind | 2 => u = I x.len | 3 => u = I x.frm | 4 => u = .int .u64 (x.init : Int) | 5 => u = I x.queue | 6 => u = I x.ac.kind | 7 => u = I x.ac.task | 8 => u = I x.ac.event | _ => u = S x.ac.name
structure CfAt (w : World) (c : Cf) (v : Vs) : Prop where
 m : RowsAt w 1 strP v.m c.modes
 t : RowsAt w 8 (tkP w) v.t c.tasks
 r : RowsAt w 3 rsP v.r c.ress
 e : RowsAt w 3 evP v.e c.evs
 k : RowsAt w 4 ctP v.k c.ctrs
 a : RowsAt w 9 (alP w) v.a c.als
 i : RowsAt w 5 (isP w) v.i c.isrs
 s : RowsAt w 10 msP v.s c.msgs
theorem CfAt.below {w w' : World} {c : Cf} {v : Vs} (h : CfAt w c v) (hb : Below w.heap.size w w') : CfAt w' c v := by
 refine ⟨h.m.below hb (fun _ _ _ _ h => h),h.t.below hb (fun x i u _ h => ?_),h.r.below hb (fun _ _ _ _ h => h),h.e.below hb (fun _ _ _ _ h => h),h.k.below hb (fun _ _ _ _ h => h),h.a.below hb (fun x i u _ h => ?_),h.i.below hb (fun x i u _ h => ?_),h.s.below hb (fun _ _ _ _ h => h)⟩
 ·unfold tkP at h ⊢
  split at h <;> first | exact h | exact IntsV.below h hb
 ·unfold alP at h ⊢
  split at h <;> first | exact h | exact IntsV.below h hb
 ·unfold isP at h ⊢
  split at h <;> first | exact h | exact IntsV.below h hb
theorem qao {w : World} {b : Nat} {c : Cf} {v : Vs} (h : w.heap[b]? = some (.cells (cfC c v) 47 (0,0))) :
  (w.cell? ⟨b,0,none⟩ = some (S c.cpu) ∧ w.cell? ⟨b,1,none⟩ = some (S c.osn) ∧ w.cell? ⟨b,2,none⟩ = some (.bool c.o1) ∧ w.cell? ⟨b,3,none⟩ = some (.bool c.o2) ∧ w.cell? ⟨b,4,none⟩ = some (.bool c.o3) ∧ w.cell? ⟨b,5,none⟩ = some (.bool c.o4) ∧ w.cell? ⟨b,6,none⟩ = some (.bool c.o5) ∧ w.cell? ⟨b,7,none⟩ = some (.bool c.o6) ∧ w.cell? ⟨b,8,none⟩ = some (.bool c.o7) ∧ w.cell? ⟨b,9,none⟩ = some (.bool c.o8)) ∧
  (w.cell? ⟨b,10,none⟩ = some (.slice v.m.a v.m.n v.m.c) ∧ w.cell? ⟨b,11,none⟩ = some (.slice v.t.a v.t.n v.t.c) ∧ w.cell? ⟨b,12,none⟩ = some (.slice v.r.a v.r.n v.r.c) ∧ w.cell? ⟨b,13,none⟩ = some (.slice v.e.a v.e.n v.e.c) ∧ w.cell? ⟨b,14,none⟩ = some (.slice v.k.a v.k.n v.k.c) ∧ w.cell? ⟨b,15,none⟩ = some (.slice v.a.a v.a.n v.a.c) ∧ w.cell? ⟨b,16,none⟩ = some (.slice v.i.a v.i.n v.i.c) ∧ w.cell? ⟨b,17,none⟩ = some (.slice v.s.a v.s.n v.s.c)) := by
 have a1 := fun i => cell_of_row w b i _ _ (0,0) h
 exact ⟨⟨a1 0,a1 1,a1 2,a1 3,a1 4,a1 5,a1 6,a1 7,a1 8,a1 9⟩,a1 10,a1 11,a1 12,a1 13,a1 14,a1 15,a1 16,a1 17⟩
theorem qa3 {k : IntKind} {a b : Int} (h : a = b) : Ending.returned (.int k a) = .returned (.int k b) := by rw [h]
theorem qa4 {a b : Bool} (h : a = b) : Ending.returned (.bool a) = .returned (.bool b) := by rw [h]
def inR (v a b : Int) : Bool := decide (a ≤ v) && decide (v ≤ b)
theorem qbs (v a b : Int) (w : World) : Calls Tryz.prog 193 #[I v,I a,I b] w fun e w' => e = .returned (.bool (inR v a b)) ∧ w' = w := by
 unfold inR
 by_cases h1 : a ≤ v <;> by_cases h2 : v ≤ b <;> (go_enter Tryz.func193,Tryz.ntmps193; go_wp2; go_ret; exact ⟨qa4 (by simp [h1,h2]),rfl⟩)
theorem qos (v a b : Int) (w : World) : Calls Tryz.prog 271 #[I v,I a,I b] w fun e w' => e = .returned (.bool (inR v a b)) ∧ w' = w := by
 unfold inR
 by_cases h1 : a ≤ v <;> by_cases h2 : v ≤ b <;> (go_enter Tryz.func271,Tryz.ntmps271; go_wp2; go_ret; exact ⟨qa4 (by simp [h1,h2]),rfl⟩)
theorem qot (v a b : Int) (w : World) : Calls Tryz.prog 297 #[I v,I a,I b] w fun e w' => e = .returned (.bool (inR v a b)) ∧ w' = w := by
 unfold inR
 by_cases h1 : a ≤ v <;> by_cases h2 : v ≤ b <;> (go_enter Tryz.func297,Tryz.ntmps297; go_wp2; go_ret; exact ⟨qa4 (by simp [h1,h2]),rfl⟩)
theorem qcu (v a b : Int) (w : World) : Calls Tryz.prog 277 #[.int .u32 v, .int .u32 a, .int .u32 b] w fun e w' => e = .returned (.bool (inR v a b)) ∧ w' = w := by
 unfold inR
 by_cases h1 : a ≤ v <;> by_cases h2 : v ≤ b <;> (go_enter Tryz.func277,Tryz.ntmps277; go_wp2; go_ret; exact ⟨qa4 (by simp [h1,h2]),rfl⟩)
theorem qez (v a b : Int) (w : World) : Calls Tryz.prog 291 #[.int .u8 v, .int .u8 a, .int .u8 b] w fun e w' => e = .returned (.bool (inR v a b)) ∧ w' = w := by
 unfold inR
 by_cases h1 : a ≤ v <;> by_cases h2 : v ≤ b <;> (go_enter Tryz.func291,Tryz.ntmps291; go_wp2; go_ret; exact ⟨qa4 (by simp [h1,h2]),rfl⟩)
def isId (v n : Int) : Bool := decide (0 ≤ v) && decide (v < n)
theorem qc2 (v n : Int) (w : World) : Calls Tryz.prog 272 #[I v,I n] w fun e w' => e = .returned (.bool (isId v n)) ∧ w' = w := by
 unfold isId
 by_cases h1 : 0 ≤ v <;> by_cases h2 : v < n <;> (go_enter Tryz.func272,Tryz.ntmps272; go_wp2; go_ret; exact ⟨qa4 (by simp [h1,h2]),rfl⟩)
def isLt (c : UInt8) : Bool := inR c.toNat 65 90 || inR c.toNat 97 122 || ((c.toNat : Int) == 95)
def isDg (c : UInt8) : Bool := inR c.toNat 48 57
theorem qgy (c : UInt8) (w : World) : Calls Tryz.prog 257 #[.int .u8 c.toNat] w fun e w' => e = .returned (.bool (isLt c)) ∧ w' = w := by
 have c1 := qez c.toNat 65 90
 have c2 := qez c.toNat 97 122
 unfold isLt
 generalize inR c.toNat 65 90 = a at *
 generalize inR c.toNat 97 122 = b at *
 cases a <;> cases b <;> (go_enter Tryz.func257,Tryz.ntmps257; go_wp2_with (first | (go_at_call 291; refine (c1 _).mono ?_; clear c1; rintro e w' ⟨rfl,rfl⟩) | (go_at_call 291; refine (c2 _).mono ?_; rintro e w' ⟨rfl,rfl⟩)); go_ret; exact ⟨qa4 (by simp),rfl⟩)
theorem qou (c : UInt8) (w : World) : Calls Tryz.prog 258 #[.int .u8 c.toNat] w fun e w' => e = .returned (.bool (isDg c)) ∧ w' = w := by
 have c1 := qez c.toNat 48 57
 unfold isDg
 generalize inR c.toNat 48 57 = a at *
 go_enter Tryz.func258,Tryz.ntmps258
 go_wp2_with (first | (go_at_call 291; refine (c1 _).mono ?_; rintro e w' ⟨rfl,rfl⟩))
 go_ret
 exact ⟨rfl,rfl⟩
theorem qgc (s : ByteArray) (k : Nat) (z : Int) (w : World) (h : k < s.size) (hz : z = k) : (Instr.index 9 (.string s) (.int .i64 z)).run Tryz.prog w = .ok (.int .u8 (s[k].toNat : Int)) w := by
 subst hz
 have h1 : (0 : Int) ≤ k ∧ (k : Int) < s.size := by omega
 simp [go_sem,h1]
def isNm (l : List UInt8) : Bool := match l with
 | [] => false
 | c :: r => decide (r.length ≤ 62) && isLt c && r.all (fun d => isLt d || isDg d)
theorem qux (l : List UInt8) : (⟨l.toArray⟩ : ByteArray).size = l.length := by simp [ByteArray.size]
theorem qov (l : List UInt8) (hn : l.length ≤ 63) (h0 : ∀ c : UInt8,l[0]? = some c → isLt c = true) (hne : l ≠ []) (ha : ∀ (k : Nat) (c : UInt8),l[k]? = some c → (isLt c || isDg c) = true) : isNm l = true := by
 cases l with
 | nil => exact absurd rfl hne
 | cons c r =>
  unfold isNm
  have h1 := h0 c rfl
  have h2 : r.length ≤ 62 := by simp at hn; omega
  simp only [h1,h2,decide_true,Bool.true_and]
  rw [List.all_eq_true]
  intro d hd
  obtain ⟨k,hk⟩ := List.mem_iff_getElem?.1 hd
  exact ha (k + 1) d (by simpa using hk)
theorem qf0 (l : List UInt8) (k : Nat) (c : UInt8) (h : l[k]? = some c) (hb : (isLt c || isDg c) = false) : isNm l = false := by
 cases l with
 | nil => simp at h
 | cons d r =>
  unfold isNm
  cases k with
  | zero =>
   simp at h
   subst h
   simp at hb
   simp [hb.1]
  | succ k =>
   have hm : c ∈ r := List.mem_of_getElem? (by simpa using h)
   have : r.all (fun d => isLt d || isDg d) = false := by
    rw [List.all_eq_false]
    exact ⟨c,hm,by simp [hb]⟩
   show (decide (r.length ≤ 62) && isLt d && r.all (fun d => isLt d || isDg d)) = false
   rw [this,Bool.and_false]
theorem qjo (c : UInt8) (r : List UInt8) (h : isLt c = false) : isNm (c :: r) = false := by simp [isNm,h]
theorem qmr (l : List UInt8) (h : 63 < l.length) : isNm l = false := by
 cases l with
 | nil => simp at h
 | cons c r => simp at h; simp [isNm,show ¬ r.length ≤ 62 by omega]
theorem qn6 (s : ByteArray) (w : World) : Calls Tryz.prog 195 #[.string s] w fun e w' => e = .returned (.bool (isNm s.data.toList)) ∧ w' = w := by
 have HL : Hid (s.data.toList.length = s.size) := by show _ = _; simp
 by_cases hs0 : s.size = 0
 ·obtain rfl : s = ⟨#[]⟩ := by
   cases s with
   | mk d => congr 1; exact Array.eq_empty_of_size_eq_zero hs0
  go_enter Tryz.func195,Tryz.ntmps195
  go_wp2
  go_ret
  exact ⟨rfl,rfl⟩
 have hq : s.toList.isEmpty = false := by
  rw [ByteArray.toList_eq]
  cases hd : s.data.toList with
  | nil => have := HL.out; rw [hd] at this; simp at this; omega
  | cons _ _ => rfl
 by_cases hl : 63 < s.size
 ·have hl' : (63 : Int) < s.size := by omega
  have e1 := qmr s.data.toList (by rw [HL.out]; exact hl)
  go_enter Tryz.func195,Tryz.ntmps195
  go_wp2
  go_ret
  exact ⟨qa4 e1.symm,rfl⟩
 have hl' : ¬ (63 : Int) < s.size := by omega
 obtain ⟨x,hx⟩ : ∃ c,s[0]'(by omega) = c := ⟨_,rfl⟩
 have hix : ∀ w,(Instr.index 9 (.string s) (.int .i64 0)).run Tryz.prog w = .ok (.int .u8 (x.toNat : Int)) w := fun w => by
  rw [← hx]; exact qgc s 0 _ w (by omega) rfl
 have hx0 : s.data.toList[0]? = some x := by rw [← hx,List.getElem?_eq_getElem (by rw [HL.out]; omega)]; rfl
 have c1 := qgy x
 have HX : Hid (∃ r,s.data.toList = x :: r) := by
  show ∃ r,_
  cases hd : s.data.toList with
  | nil => rw [hd] at hx0; simp at hx0
  | cons a b => rw [hd] at hx0; simp at hx0; exact ⟨b,by rw [hx0]⟩
 have HX0 : Hid (s.data.toList[0]? = some x) := hx0
 clear hx hx0
 cases ha : isLt x with
 | false =>
  have e1 : Hid (isNm s.data.toList = false) := by obtain ⟨r,hr⟩ := HX.out; show _ = _; rw [hr]; exact qjo x r ha
  rw [ha] at c1
  go_enter Tryz.func195,Tryz.ntmps195
  go_wp2_with (first | (go_at_call 257; refine (c1 _).mono ?_; rintro e w' ⟨rfl,rfl⟩))
  go_ret
  exact ⟨qa4 e1.out.symm,rfl⟩
 | true =>
  have HA : Hid (isLt x = true) := ha
  rw [ha] at c1
  clear ha
  go_enter Tryz.func195,Tryz.ntmps195
  go_wp2_with (first | (go_at_call 257; refine (c1 _).mono ?_; rintro e w' ⟨rfl,rfl⟩))
  go_loop [3,19] (fun _ i => ∃ j : Nat,j ≤ s.size ∧ i = .int .i64 j ∧ Hid (∀ (k : Nat) (c : UInt8),k < j → s.data.toList[k]? = some c → (isLt c || isDg c) = true)) (fun _ i => s.size - (intOf i).toNat)
  case atStart => exact ⟨0,by omega,rfl,fun k c h => absurd h (Nat.not_lt_zero _)⟩
  case round =>
   obtain ⟨j,hj,rfl,HJ⟩ := hrel
   by_cases hlt : j < s.size
   ·have hlt' : (j : Int) < s.size := by omega
    obtain ⟨y,hy⟩ : ∃ c,s[j]'hlt = c := ⟨_,rfl⟩
    have hiy : ∀ w,(Instr.index 9 (.string s) (.int .i64 (j : Int))).run Tryz.prog w = .ok (.int .u8 (y.toNat : Int)) w := fun w => by
     rw [← hy]; exact qgc s j _ w hlt rfl
    have HY : Hid (s.data.toList[j]? = some y) := by show _ = _; rw [← hy,List.getElem?_eq_getElem (by rw [HL.out]; exact hlt)]; rfl
    have d1 := qgy y
    have d2 := qou y
    have HB : Hid ((isLt y || isDg y) = false → isNm s.data.toList = false) := fun h => qf0 _ j y HY.out h
    have HK : Hid ((isLt y || isDg y) = true → ∀ (k : Nat) (c : UInt8),k < j + 1 → s.data.toList[k]? = some c → (isLt c || isDg c) = true) := fun h k c hk hc => by
     by_cases e : k < j
     ·exact HJ.out k c e hc
     ·obtain rfl : k = j := by omega
      rw [HY.out] at hc
      cases hc
      exact h
    clear hy c1 hix
    generalize isLt y = a at *
    generalize isDg y = b at *
    cases a with
    | true =>
     go_wp2_with (first | (go_at_call 257; refine (d1 _).mono ?_; rintro e w' ⟨rfl,rfl⟩) | (go_at_call 258; refine (d2 _).mono ?_; rintro e w' ⟨rfl,rfl⟩))
     go_round
     case rel => exact ⟨j + 1,by omega,by go_num,HK.out rfl⟩
     case measure => simp [intOf]; omega
    | false =>
     cases b with
     | true =>
      go_wp2_with (first | (go_at_call 257; refine (d1 _).mono ?_; rintro e w' ⟨rfl,rfl⟩) | (go_at_call 258; refine (d2 _).mono ?_; rintro e w' ⟨rfl,rfl⟩))
      go_round
      case rel => exact ⟨j + 1,by omega,by go_num,HK.out rfl⟩
      case measure => simp [intOf]; omega
     | false =>
      have e1 := HB.out rfl
      go_wp2_with (first | (go_at_call 257; refine (d1 _).mono ?_; rintro e w' ⟨rfl,rfl⟩) | (go_at_call 258; refine (d2 _).mono ?_; rintro e w' ⟨rfl,rfl⟩))
      go_ret
      exact ⟨qa4 e1.symm,rfl⟩
   ·obtain rfl : j = s.size := by omega
    have hlt' : ¬ ((s.size : Nat) : Int) < (s.size : Nat) := by omega
    have e1 : Hid (isNm s.data.toList = true) := qov _ (by rw [HL.out]; omega) (fun c hc => by rw [HX0.out] at hc; cases hc; exact HA.out) (fun e => by have := HL.out; rw [e] at this; simp at this; omega) (fun k c hk => HJ.out k c (by have := (List.getElem?_eq_some_iff.1 hk).1; rw [HL.out] at this; exact this) hk)
    go_wp2
    go_ret
    exact ⟨qa4 e1.out.symm,rfl⟩
theorem qjp (l : List UInt8) (w : World) : Calls Tryz.prog 195 #[S l] w fun e w' => e = .returned (.bool (isNm l)) ∧ w' = w := by
 have := qn6 ⟨l.toArray⟩ w
 simpa using this
theorem qau {w : World} {s : Sl} {l : List Int} (h : RowsAt w 1 intP s l) {j : Nat} {x : Int} (hj : l[j]? = some x) : ∃ g off,s.a = some ⟨g,off,none⟩ ∧ g < w.heap.size ∧ w.cell? ⟨g,off + j,none⟩ = some (I x) := by
 obtain ⟨g,off,e,hg,hr⟩ := h.row j x hj
 obtain ⟨u,h1,h2⟩ := hr 0 (by omega)
 refine ⟨g,off,e,hg, ?_⟩
 rw [show off + j * 1 + 0 = off + j by omega] at h1
 rw [h1,h2]
def risF (a : Int) (l : List Int) (n : Int) : Bool := match l with
 | [] => true
 | x :: r => isId x n && decide (a < x) && risF x r n
theorem qc3 (w : World) (s : Sl) (l : List Int) (h : RowsAt w 1 intP s l) (n : Int) : Calls Tryz.prog 274 #[.slice s.a s.n s.c,I n] w fun e w' => e = .returned (.bool (risF (-1) l n)) ∧ w' = w := by
 obtain ⟨sa,sn,sc⟩ := s
 have hn : sn = l.length := h.n
 have hc : sn ≤ sc := h.c
 have hm : sc ≤ maxLen := h.m
 dsimp only
 unfold maxLen at hm
 have HN : Hid (sn = l.length) := hn
 clear hn
 go_enter Tryz.func274,Tryz.ntmps274
 go_wp2
 go_loop [5,7,10] (fun a5 _ i => ∃ (j : Nat) (a : Int),j ≤ sn ∧ i = .int .i64 j ∧ a5 = .int .i64 a ∧ Hid (risF (-1) l n = risF a (l.drop j) n)) (fun _ _ i => sn - (intOf i).toNat)
 case atStart => exact ⟨0, -1,by omega,rfl,rfl,rfl⟩
 case round =>
  obtain ⟨j,a,hj,rfl,rfl,HR⟩ := hrel
  by_cases hlt : j < sn
  ·have hlt' : (j : Int) < sn := by omega
   have hjl : j < l.length := by rw [← HN.out]; exact hlt
   obtain ⟨x,hx⟩ : ∃ x,l[j]? = some x := ⟨l[j],List.getElem?_eq_getElem hjl⟩
   obtain ⟨g,off,e,hg,hcx⟩ := qau h hx
   dsimp only at e
   subst e
   have HD : Hid (l.drop j = x :: l.drop (j + 1)) := by
    show _ = _
    rw [List.drop_eq_getElem_cons hjl]
    rw [List.getElem?_eq_getElem hjl] at hx
    cases hx
    rfl
   have c1 := qc2 x n
   have HE : Hid (risF (-1) l n = (isId x n && decide (a < x) && risF x (l.drop (j + 1)) n)) := by show _ = _; rw [HR.out,HD.out,risF]
   clear hx hjl
   generalize isId x n = b at *
   cases b with
   | false =>
    have HE2 : Hid (risF (-1) l n = false) := by show _ = _; rw [HE.out]; rfl
    go_wp2_with (first | (go_at_call 272; refine (c1 _).mono ?_; rintro e w' ⟨rfl,rfl⟩))
    go_ret
    exact ⟨qa4 HE2.out.symm,rfl⟩
   | true =>
    by_cases hax : x ≤ a
    ·have HE2 : Hid (risF (-1) l n = false) := by show _ = _; rw [HE.out,decide_eq_false (by omega)]; rfl
     go_wp2_with (first | (go_at_call 272; refine (c1 _).mono ?_; rintro e w' ⟨rfl,rfl⟩))
     go_ret
     exact ⟨qa4 HE2.out.symm,rfl⟩
    ·have HE2 : Hid (risF (-1) l n = risF x (l.drop (j + 1)) n) := by show _ = _; rw [HE.out,decide_eq_true (by omega)]; rfl
     go_wp2_with (first | (go_at_call 272; refine (c1 _).mono ?_; rintro e w' ⟨rfl,rfl⟩))
     go_round
     case rel => exact ⟨j + 1,x,by omega,by go_num,rfl,HE2⟩
     case measure => simp [intOf]; omega
  ·obtain rfl : j = sn := by omega
   have hlt' : ¬ (j : Int) < j := by omega
   have HE2 : Hid (risF (-1) l n = true) := by show _ = _; rw [HR.out,List.drop_eq_nil_of_le (by rw [← HN.out]; exact Nat.le_refl _),risF]
   go_wp2
   go_ret
   exact ⟨qa4 HE2.out.symm,rfl⟩
theorem qb5 {w : World} {c : Cf} {v : Vs} (h : CfAt w c v) {j : Nat} {x : Rs} (hj : c.ress[j]? = some x) : ∃ (g off : Nat),v.r.a = some ⟨g,off,none⟩ ∧ g < w.heap.size ∧ w.cell? ⟨g,off + j * 3,none⟩ = some (S x.name) ∧ w.cell? ⟨g,off + j * 3 + 1,none⟩ = some (I x.kind) ∧ w.cell? ⟨g,off + j * 3 + 2,none⟩ = some (I x.link) := by
 obtain ⟨g,off,e,hg,hr⟩ := h.r.row j x hj
 obtain ⟨u0,a0,b0⟩ := hr 0 (by omega)
 have e0 : u0 = S x.name := b0
 rw [e0] at a0
 obtain ⟨u1,a1,b1⟩ := hr 1 (by omega)
 have e1 : u1 = I x.kind := b1
 rw [e1] at a1
 obtain ⟨u2,a2,b2⟩ := hr 2 (by omega)
 have e2 : u2 = I x.link := b2
 rw [e2] at a2
 rw [Nat.add_zero] at a0
 exact ⟨g,off,e,hg,a0,a1,a2⟩
theorem qds {w : World} {c : Cf} {v : Vs} (h : CfAt w c v) {j : Nat} {x : Ev} (hj : c.evs[j]? = some x) : ∃ (g off : Nat),v.e.a = some ⟨g,off,none⟩ ∧ g < w.heap.size ∧ w.cell? ⟨g,off + j * 3,none⟩ = some (S x.name) ∧ w.cell? ⟨g,off + j * 3 + 1,none⟩ = some (.int .u32 (x.mask : Int)) ∧ w.cell? ⟨g,off + j * 3 + 2,none⟩ = some (.bool x.auto) := by
 obtain ⟨g,off,e,hg,hr⟩ := h.e.row j x hj
 obtain ⟨u0,a0,b0⟩ := hr 0 (by omega)
 have e0 : u0 = S x.name := b0
 rw [e0] at a0
 obtain ⟨u1,a1,b1⟩ := hr 1 (by omega)
 have e1 : u1 = .int .u32 (x.mask : Int) := b1
 rw [e1] at a1
 obtain ⟨u2,a2,b2⟩ := hr 2 (by omega)
 have e2 : u2 = .bool x.auto := b2
 rw [e2] at a2
 rw [Nat.add_zero] at a0
 exact ⟨g,off,e,hg,a0,a1,a2⟩
theorem qfm {w : World} {c : Cf} {v : Vs} (h : CfAt w c v) {j : Nat} {x : Ct} (hj : c.ctrs[j]? = some x) : ∃ (g off : Nat),v.k.a = some ⟨g,off,none⟩ ∧ g < w.heap.size ∧ w.cell? ⟨g,off + j * 4,none⟩ = some (S x.name) ∧ w.cell? ⟨g,off + j * 4 + 1,none⟩ = some (.int .u32 (x.max : Int)) ∧ w.cell? ⟨g,off + j * 4 + 2,none⟩ = some (.int .u32 (x.base : Int)) ∧ w.cell? ⟨g,off + j * 4 + 3,none⟩ = some (.int .u32 (x.min : Int)) := by
 obtain ⟨g,off,e,hg,hr⟩ := h.k.row j x hj
 obtain ⟨u0,a0,b0⟩ := hr 0 (by omega)
 have e0 : u0 = S x.name := b0
 rw [e0] at a0
 obtain ⟨u1,a1,b1⟩ := hr 1 (by omega)
 have e1 : u1 = .int .u32 (x.max : Int) := b1
 rw [e1] at a1
 obtain ⟨u2,a2,b2⟩ := hr 2 (by omega)
 have e2 : u2 = .int .u32 (x.base : Int) := b2
 rw [e2] at a2
 obtain ⟨u3,a3,b3⟩ := hr 3 (by omega)
 have e3 : u3 = .int .u32 (x.min : Int) := b3
 rw [e3] at a3
 rw [Nat.add_zero] at a0
 exact ⟨g,off,e,hg,a0,a1,a2,a3⟩
theorem qbj {w : World} {c : Cf} {v : Vs} (h : CfAt w c v) {j : Nat} {x : Tk} (hj : c.tasks[j]? = some x) : ∃ (g off : Nat) (s4 s5 s6 s7 : Sl),v.t.a = some ⟨g,off,none⟩ ∧ g < w.heap.size ∧ w.cell? ⟨g,off + j * 8,none⟩ = some (S x.name) ∧ w.cell? ⟨g,off + j * 8 + 1,none⟩ = some (I x.prio) ∧ w.cell? ⟨g,off + j * 8 + 2,none⟩ = some (.bool x.full) ∧ w.cell? ⟨g,off + j * 8 + 3,none⟩ = some (I x.act) ∧ w.cell? ⟨g,off + j * 8 + 4,none⟩ = some (.slice s4.a s4.n s4.c) ∧ w.cell? ⟨g,off + j * 8 + 5,none⟩ = some (.slice s5.a s5.n s5.c) ∧ w.cell? ⟨g,off + j * 8 + 6,none⟩ = some (.slice s6.a s6.n s6.c) ∧ w.cell? ⟨g,off + j * 8 + 7,none⟩ = some (.slice s7.a s7.n s7.c) ∧ RowsAt w 1 intP s4 x.auto ∧ RowsAt w 1 intP s5 x.res ∧ RowsAt w 1 intP s6 x.evs ∧ RowsAt w 1 intP s7 x.msgs := by
 obtain ⟨g,off,e,hg,hr⟩ := h.t.row j x hj
 obtain ⟨u0,a0,b0⟩ := hr 0 (by omega)
 have e0 : u0 = S x.name := b0
 rw [e0] at a0
 obtain ⟨u1,a1,b1⟩ := hr 1 (by omega)
 have e1 : u1 = I x.prio := b1
 rw [e1] at a1
 obtain ⟨u2,a2,b2⟩ := hr 2 (by omega)
 have e2 : u2 = .bool x.full := b2
 rw [e2] at a2
 obtain ⟨u3,a3,b3⟩ := hr 3 (by omega)
 have e3 : u3 = I x.act := b3
 rw [e3] at a3
 obtain ⟨u4,a4,b4⟩ := hr 4 (by omega)
 obtain ⟨s4,e4,r4⟩ := (show IntsV w x.auto u4 from b4)
 rw [e4] at a4
 obtain ⟨u5,a5,b5⟩ := hr 5 (by omega)
 obtain ⟨s5,e5,r5⟩ := (show IntsV w x.res u5 from b5)
 rw [e5] at a5
 obtain ⟨u6,a6,b6⟩ := hr 6 (by omega)
 obtain ⟨s6,e6,r6⟩ := (show IntsV w x.evs u6 from b6)
 rw [e6] at a6
 obtain ⟨u7,a7,b7⟩ := hr 7 (by omega)
 obtain ⟨s7,e7,r7⟩ := (show IntsV w x.msgs u7 from b7)
 rw [e7] at a7
 rw [Nat.add_zero] at a0
 exact ⟨g,off,s4,s5,s6,s7,e,hg,a0,a1,a2,a3,a4,a5,a6,a7,r4,r5,r6,r7⟩
theorem qea {w : World} {c : Cf} {v : Vs} (h : CfAt w c v) {j : Nat} {x : Al} (hj : c.als[j]? = some x) : ∃ (g off : Nat) (s6 : Sl),v.a.a = some ⟨g,off,none⟩ ∧ g < w.heap.size ∧ w.cell? ⟨g,off + j * 9,none⟩ = some (S x.name) ∧ w.cell? ⟨g,off + j * 9 + 1,none⟩ = some (I x.ctr) ∧ w.cell? ⟨g,off + j * 9 + 2,none⟩ = some (I x.ac.kind) ∧ w.cell? ⟨g,off + j * 9 + 3,none⟩ = some (I x.ac.task) ∧ w.cell? ⟨g,off + j * 9 + 4,none⟩ = some (I x.ac.event) ∧ w.cell? ⟨g,off + j * 9 + 5,none⟩ = some (S x.ac.name) ∧ w.cell? ⟨g,off + j * 9 + 6,none⟩ = some (.slice s6.a s6.n s6.c) ∧ w.cell? ⟨g,off + j * 9 + 7,none⟩ = some (.int .u32 (x.time : Int)) ∧ w.cell? ⟨g,off + j * 9 + 8,none⟩ = some (.int .u32 (x.cycle : Int)) ∧ RowsAt w 1 intP s6 x.auto := by
 obtain ⟨g,off,e,hg,hr⟩ := h.a.row j x hj
 obtain ⟨u0,a0,b0⟩ := hr 0 (by omega)
 have e0 : u0 = S x.name := b0
 rw [e0] at a0
 obtain ⟨u1,a1,b1⟩ := hr 1 (by omega)
 have e1 : u1 = I x.ctr := b1
 rw [e1] at a1
 obtain ⟨u2,a2,b2⟩ := hr 2 (by omega)
 have e2 : u2 = I x.ac.kind := b2
 rw [e2] at a2
 obtain ⟨u3,a3,b3⟩ := hr 3 (by omega)
 have e3 : u3 = I x.ac.task := b3
 rw [e3] at a3
 obtain ⟨u4,a4,b4⟩ := hr 4 (by omega)
 have e4 : u4 = I x.ac.event := b4
 rw [e4] at a4
 obtain ⟨u5,a5,b5⟩ := hr 5 (by omega)
 have e5 : u5 = S x.ac.name := b5
 rw [e5] at a5
 obtain ⟨u6,a6,b6⟩ := hr 6 (by omega)
 obtain ⟨s6,e6,r6⟩ := (show IntsV w x.auto u6 from b6)
 rw [e6] at a6
 obtain ⟨u7,a7,b7⟩ := hr 7 (by omega)
 have e7 : u7 = .int .u32 (x.time : Int) := b7
 rw [e7] at a7
 obtain ⟨u8,a8,b8⟩ := hr 8 (by omega)
 have e8 : u8 = .int .u32 (x.cycle : Int) := b8
 rw [e8] at a8
 rw [Nat.add_zero] at a0
 exact ⟨g,off,s6,e,hg,a0,a1,a2,a3,a4,a5,a6,a7,a8,r6⟩
theorem qcm {w : World} {c : Cf} {v : Vs} (h : CfAt w c v) {j : Nat} {x : Is} (hj : c.isrs[j]? = some x) : ∃ (g off : Nat) (s3 s4 : Sl),v.i.a = some ⟨g,off,none⟩ ∧ g < w.heap.size ∧ w.cell? ⟨g,off + j * 5,none⟩ = some (S x.name) ∧ w.cell? ⟨g,off + j * 5 + 1,none⟩ = some (I x.cat) ∧ w.cell? ⟨g,off + j * 5 + 2,none⟩ = some (I x.prio) ∧ w.cell? ⟨g,off + j * 5 + 3,none⟩ = some (.slice s3.a s3.n s3.c) ∧ w.cell? ⟨g,off + j * 5 + 4,none⟩ = some (.slice s4.a s4.n s4.c) ∧ RowsAt w 1 intP s3 x.res ∧ RowsAt w 1 intP s4 x.msgs := by
 obtain ⟨g,off,e,hg,hr⟩ := h.i.row j x hj
 obtain ⟨u0,a0,b0⟩ := hr 0 (by omega)
 have e0 : u0 = S x.name := b0
 rw [e0] at a0
 obtain ⟨u1,a1,b1⟩ := hr 1 (by omega)
 have e1 : u1 = I x.cat := b1
 rw [e1] at a1
 obtain ⟨u2,a2,b2⟩ := hr 2 (by omega)
 have e2 : u2 = I x.prio := b2
 rw [e2] at a2
 obtain ⟨u3,a3,b3⟩ := hr 3 (by omega)
 obtain ⟨s3,e3,r3⟩ := (show IntsV w x.res u3 from b3)
 rw [e3] at a3
 obtain ⟨u4,a4,b4⟩ := hr 4 (by omega)
 obtain ⟨s4,e4,r4⟩ := (show IntsV w x.msgs u4 from b4)
 rw [e4] at a4
 rw [Nat.add_zero] at a0
 exact ⟨g,off,s3,s4,e,hg,a0,a1,a2,a3,a4,r3,r4⟩
theorem qbz {w : World} {c : Cf} {v : Vs} (h : CfAt w c v) {j : Nat} {x : Ms} (hj : c.msgs[j]? = some x) : ∃ (g off : Nat),v.s.a = some ⟨g,off,none⟩ ∧ g < w.heap.size ∧ w.cell? ⟨g,off + j * 10,none⟩ = some (S x.name) ∧ w.cell? ⟨g,off + j * 10 + 1,none⟩ = some (I x.kind) ∧ w.cell? ⟨g,off + j * 10 + 2,none⟩ = some (I x.len) ∧ w.cell? ⟨g,off + j * 10 + 3,none⟩ = some (I x.frm) ∧ w.cell? ⟨g,off + j * 10 + 4,none⟩ = some (.int .u64 (x.init : Int)) ∧ w.cell? ⟨g,off + j * 10 + 5,none⟩ = some (I x.queue) ∧ w.cell? ⟨g,off + j * 10 + 6,none⟩ = some (I x.ac.kind) ∧ w.cell? ⟨g,off + j * 10 + 7,none⟩ = some (I x.ac.task) ∧ w.cell? ⟨g,off + j * 10 + 8,none⟩ = some (I x.ac.event) ∧ w.cell? ⟨g,off + j * 10 + 9,none⟩ = some (S x.ac.name) := by
 obtain ⟨g,off,e,hg,hr⟩ := h.s.row j x hj
 obtain ⟨u0,a0,b0⟩ := hr 0 (by omega)
 have e0 : u0 = S x.name := b0
 rw [e0] at a0
 obtain ⟨u1,a1,b1⟩ := hr 1 (by omega)
 have e1 : u1 = I x.kind := b1
 rw [e1] at a1
 obtain ⟨u2,a2,b2⟩ := hr 2 (by omega)
 have e2 : u2 = I x.len := b2
 rw [e2] at a2
 obtain ⟨u3,a3,b3⟩ := hr 3 (by omega)
 have e3 : u3 = I x.frm := b3
 rw [e3] at a3
 obtain ⟨u4,a4,b4⟩ := hr 4 (by omega)
 have e4 : u4 = .int .u64 (x.init : Int) := b4
 rw [e4] at a4
 obtain ⟨u5,a5,b5⟩ := hr 5 (by omega)
 have e5 : u5 = I x.queue := b5
 rw [e5] at a5
 obtain ⟨u6,a6,b6⟩ := hr 6 (by omega)
 have e6 : u6 = I x.ac.kind := b6
 rw [e6] at a6
 obtain ⟨u7,a7,b7⟩ := hr 7 (by omega)
 have e7 : u7 = I x.ac.task := b7
 rw [e7] at a7
 obtain ⟨u8,a8,b8⟩ := hr 8 (by omega)
 have e8 : u8 = I x.ac.event := b8
 rw [e8] at a8
 obtain ⟨u9,a9,b9⟩ := hr 9 (by omega)
 have e9 : u9 = S x.ac.name := b9
 rw [e9] at a9
 rw [Nat.add_zero] at a0
 exact ⟨g,off,e,hg,a0,a1,a2,a3,a4,a5,a6,a7,a8,a9⟩
def Ans (w : World) (b : Bool) (e : Ending) (w' : World) : Prop := e = .returned (.bool b) ∧ Below w.heap.size w w'
theorem qeu (w : World) (c : Cf) (v : Vs) (h : CfAt w c v) (i : Nat) (x : Rs) (hi : c.ress[i]? = some x) :
  Calls Tryz.prog 218 #[.agg (cfC c v),I i] w fun e w' => Ans w (inR x.kind 1 3) e w' := by
 have hn : v.r.n = c.ress.length := h.r.n
 have hlt : (i : Int) < v.r.n := by have := (List.getElem?_eq_some_iff.1 hi).1; omega
 obtain ⟨g,off,e,hg,a0,a1,a2⟩ := qb5 h hi
 have hne : g ≠ w.heap.size := by omega
 have c1 := qos x.kind 1 3
 have hb := qa0 w (.cells (cfC c v) 47)
 unfold cfC at *
 rw [e] at *
 clear hi hn
 go_enter Tryz.func218,Tryz.ntmps218
 go_wp2_with (first | (go_at_call 271; refine (c1 _).mono ?_; rintro e w' ⟨rfl,rfl⟩))
 go_ret
 exact ⟨rfl,hb⟩
theorem qht (w : World) (c : Cf) (v : Vs) (h : CfAt w c v) (i : Nat) (x : Rs) (hi : c.ress[i]? = some x) :
  Calls Tryz.prog 219 #[.agg (cfC c v),I i] w fun e w' => Ans w (x.kind == 2 || x.link == 0) e w' := by
 have hn : v.r.n = c.ress.length := h.r.n
 have hlt : (i : Int) < v.r.n := by have := (List.getElem?_eq_some_iff.1 hi).1; omega
 obtain ⟨g,off,e,hg,a0,a1,a2⟩ := qb5 h hi
 have hne : g ≠ w.heap.size := by omega
 have hb := qa0 w (.cells (cfC c v) 47)
 unfold cfC at *
 rw [e] at *
 clear hi hn
 generalize hk1 : (x.kind == 2) = b1 at *
 cases b1 <;> (go_enter Tryz.func219,Tryz.ntmps219; go_wp2; go_ret; exact ⟨by simp,hb.trans (qa0 _ _ |>.mono hb.size)⟩)
def rkind (c : Cf) (r : Int) : Int := match c.ress[r.toNat]? with | some x => x.kind | none => 0
def rlink (c : Cf) (r : Int) : Int := match c.ress[r.toNat]? with | some x => x.link | none => 0
def rootF (c : Cf) : Nat → Int → Int
 | 0,_ => -1
 | f + 1,r => if isId r c.ress.length = true then (if rkind c r = 2 then rootF c f (rlink c r) else r) else -1
theorem qbt (c : Cf) : ∀ (f : Nat) (r : Int),rootF c f r < c.ress.length
 | 0,r => by rw [rootF]; omega
 | f + 1,r => by
  rw [rootF]
  split
  ·rename_i h
   split
   ·exact qbt c f _
   ·simp [isId] at h; exact h.2
  ·omega
theorem qr6 (w : World) (c : Cf) (v : Vs) (h : CfAt w c v) (r : Int) :
  Calls Tryz.prog 273 #[.agg (cfC c v),I r] w fun e w' => e = .returned (I (rootF c c.ress.length r)) ∧ Below w.heap.size w w' := by
 have hn : v.r.n = c.ress.length := h.r.n
 have hc : v.r.n ≤ v.r.c := h.r.c
 have hm : v.r.c ≤ maxLen := h.r.m
 unfold maxLen at hm
 have HN : Hid (v.r.n = c.ress.length) := hn
 clear hn
 have hb := qa0 w
 unfold cfC at *
 go_enter Tryz.func273,Tryz.ntmps273
 go_wp2
 go_loop [1,8] (fun r1 i => ∃ (j : Nat) (ρ : Int),j ≤ v.r.n ∧ i = .int .i64 j ∧ r1 = .int .i64 ρ ∧ Hid (rootF c c.ress.length r = rootF c (v.r.n - j) ρ)) (fun _ i => v.r.n - (intOf i).toNat)
 case atStart => exact ⟨0,r,by omega,rfl,rfl,by show _ = _; rw [Nat.sub_zero,HN.out]⟩
 case round =>
  obtain ⟨j, ρ,hj,rfl,rfl,HR⟩ := hrel
  by_cases hlt : j < v.r.n
  ·have hlt' : (j : Int) < v.r.n := by omega
   have c1 := qc2 ρ v.r.n
   have HE : Hid (rootF c c.ress.length r = if isId ρ v.r.n = true then (if rkind c ρ = 2 then rootF c (v.r.n - (j + 1)) (rlink c ρ) else ρ) else -1) := by
    show _ = _
    rw [HR.out,show v.r.n - j = (v.r.n - (j + 1)) + 1 by omega,rootF,HN.out]
   clear HR
   cases hb1 : isId ρ v.r.n with
   | false =>
    rw [hb1] at c1
    have HE2 : Hid (rootF c c.ress.length r = -1) := by show _ = _; rw [HE.out,hb1]; rfl
    clear HE
    go_wp2_with (first | (go_at_call 272; refine (c1 _).mono ?_; rintro e w' ⟨rfl,rfl⟩))
    go_ret
    exact ⟨qa3 HE2.out.symm,hb _⟩
   | true =>
    have hr : 0 ≤ ρ ∧ ρ < v.r.n := by simpa [isId] using hb1
    obtain ⟨q,rfl⟩ := Int.eq_ofNat_of_zero_le hr.1
    have hql : q < c.ress.length := by rw [← HN.out]; omega
    obtain ⟨x,hx⟩ : ∃ x,c.ress[q]? = some x := ⟨_,List.getElem?_eq_getElem hql⟩
    obtain ⟨g,off,e,hg,a0,a1,a2⟩ := qb5 h hx
    have hne : g ≠ w.heap.size := by omega
    have hq' : (q : Int) < v.r.n := hr.2
    have k1 : rkind c (q : Int) = x.kind := by simp [rkind,hx]
    have k2 : rlink c (q : Int) = x.link := by simp [rlink,hx]
    rw [hb1,k1,k2] at HE
    rw [hb1] at c1
    rw [e] at *
    clear hx hql hr k1 k2 hb1
    cases hk : x.kind == 2 with
    | true =>
     have HE2 : Hid (rootF c c.ress.length r = rootF c (v.r.n - (j + 1)) x.link) := by show _ = _; rw [HE.out,if_pos rfl,if_pos (by simpa using hk)]
     clear HE
     go_wp2_with (first | (go_at_call 272; refine (c1 _).mono ?_; rintro e w' ⟨rfl,rfl⟩))
     go_round
     case rel => exact ⟨j + 1,x.link,by omega,by go_num,rfl,HE2⟩
     case measure => simp [intOf]; omega
    | false =>
     have HE2 : Hid (rootF c c.ress.length r = q) := by show _ = _; rw [HE.out,if_pos rfl,if_neg (by simpa using hk)]
     clear HE
     go_wp2_with (first | (go_at_call 272; refine (c1 _).mono ?_; rintro e w' ⟨rfl,rfl⟩))
     go_ret
     exact ⟨qa3 HE2.out.symm,hb _⟩
  ·obtain rfl : j = v.r.n := by omega
   have hlt' : ¬ ((v.r.n : Nat) : Int) < (v.r.n : Nat) := by omega
   have HE2 : Hid (rootF c c.ress.length r = -1) := by show _ = _; rw [HR.out,Nat.sub_self,rootF]
   go_wp2
   go_ret
   exact ⟨qa3 HE2.out.symm,hb _⟩
theorem qjq (w : World) (c : Cf) (v : Vs) (h : CfAt w c v) (i : Nat) (x : Rs) (hi : c.ress[i]? = some x) :
  Calls Tryz.prog 220 #[.agg (cfC c v),I i] w fun e w' => Ans w (isId x.link v.r.n) e w' := by
 have hn : v.r.n = c.ress.length := h.r.n
 have hlt : (i : Int) < v.r.n := by have := (List.getElem?_eq_some_iff.1 hi).1; omega
 obtain ⟨g,off,e,hg,a0,a1,a2⟩ := qb5 h hi
 have hne : g ≠ w.heap.size := by omega
 have hb := qa0 w
 have hb2 := fun o o' => (hb o).trans ((qa0 (w.alloc o) o').mono (hb o).size)
 have c1 := qc2 x.link v.r.n
 have f12 : ∀ h : 12 < (cfC c v).size,(cfC c v)[12] = .slice v.r.a v.r.n v.r.c := fun _ => rfl
 have hs18 : (cfC c v).size = 18 := rfl
 generalize cfC c v = C at *
 replace f12 := f12 (by omega)
 rw [e] at f12
 clear hi hn
 go_enter Tryz.func220,Tryz.ntmps220
 go_wp2
 go_quiet (first | (go_at_call 272; refine Calls.quiet_of_same (c1 _)))
 go_wp2
 go_ret
 exact ⟨rfl,below_drewN (hb _) _⟩
theorem qhu (w : World) (c : Cf) (v : Vs) (h : CfAt w c v) (i : Nat) (x : Ev) (hi : c.evs[i]? = some x) :
  Calls Tryz.prog 224 #[.agg (cfC c v),I i] w fun e w' => Ans w ((x.mask : Int) != 0) e w' := by
 have hn : v.e.n = c.evs.length := h.e.n
 have hlt : (i : Int) < v.e.n := by have := (List.getElem?_eq_some_iff.1 hi).1; omega
 obtain ⟨g,off,e,hg,a0,a1,a2⟩ := qds h hi
 have hne : g ≠ w.heap.size := by omega
 have hb := qa0 w
 have hb2 := fun o o' => (hb o).trans ((qa0 (w.alloc o) o').mono (hb o).size)
 have f13 : ∀ h : 13 < (cfC c v).size,(cfC c v)[13] = .slice v.e.a v.e.n v.e.c := fun _ => rfl
 have hs18 : (cfC c v).size = 18 := rfl
 generalize cfC c v = C at *
 replace f13 := f13 (by omega)
 rw [e] at f13
 clear hi hn
 go_enter Tryz.func224,Tryz.ntmps224
 go_wp2
 go_ret
 first | exact ⟨rfl,hb _⟩ | exact ⟨rfl,hb2 _ _⟩
theorem qgz (w : World) (c : Cf) (v : Vs) (h : CfAt w c v) (i : Nat) (x : Ct) (hi : c.ctrs[i]? = some x) :
  Calls Tryz.prog 235 #[.agg (cfC c v),I i] w fun e w' => Ans w (inR x.max 1 2147483647 && inR x.base 1 2147483647 && inR x.min 1 x.max) e w' := by
 have hn : v.k.n = c.ctrs.length := h.k.n
 have hlt : (i : Int) < v.k.n := by have := (List.getElem?_eq_some_iff.1 hi).1; omega
 obtain ⟨g,off,e,hg,a0,a1,a2,a3⟩ := qfm h hi
 have hne : g ≠ w.heap.size := by omega
 have hb := qa0 w
 have hb2 := fun o o' => (hb o).trans ((qa0 (w.alloc o) o').mono (hb o).size)
 have c1 := qcu x.max 1 2147483647
 have c2 := qcu x.base 1 2147483647
 have c3 := qcu x.min 1 x.max
 have f14 : ∀ h : 14 < (cfC c v).size,(cfC c v)[14] = .slice v.k.a v.k.n v.k.c := fun _ => rfl
 have hs18 : (cfC c v).size = 18 := rfl
 generalize cfC c v = C at *
 replace f14 := f14 (by omega)
 rw [e] at f14
 clear hi hn
 generalize hgb1 : (inR x.max 1 2147483647) = b1 at *
 generalize hgb2 : (inR x.base 1 2147483647) = b2 at *
 generalize hgb3 : (inR x.min 1 x.max) = b3 at *
 cases b1 with
 | false =>
  go_enter Tryz.func235,Tryz.ntmps235
  go_wp2_with (first | (go_at_call 277; refine (c1 _).mono ?_; clear c1; rintro e w' ⟨rfl,rfl⟩) | (go_at_call 277; refine (c2 _).mono ?_; clear c2; rintro e w' ⟨rfl,rfl⟩) | (go_at_call 277; refine (c3 _).mono ?_; clear c3; rintro e w' ⟨rfl,rfl⟩))
  go_ret
  first | exact ⟨by simp,hb _⟩ | exact ⟨by simp,hb2 _ _⟩
 | true =>
  cases b2 with
  | false =>
   go_enter Tryz.func235,Tryz.ntmps235
   go_wp2_with (first | (go_at_call 277; refine (c1 _).mono ?_; clear c1; rintro e w' ⟨rfl,rfl⟩) | (go_at_call 277; refine (c2 _).mono ?_; clear c2; rintro e w' ⟨rfl,rfl⟩) | (go_at_call 277; refine (c3 _).mono ?_; clear c3; rintro e w' ⟨rfl,rfl⟩))
   go_ret
   first | exact ⟨by simp,hb _⟩ | exact ⟨by simp,hb2 _ _⟩
  | true =>
   cases b3 with
   | false =>
    go_enter Tryz.func235,Tryz.ntmps235
    go_wp2_with (first | (go_at_call 277; refine (c1 _).mono ?_; clear c1; rintro e w' ⟨rfl,rfl⟩) | (go_at_call 277; refine (c2 _).mono ?_; clear c2; rintro e w' ⟨rfl,rfl⟩) | (go_at_call 277; refine (c3 _).mono ?_; clear c3; rintro e w' ⟨rfl,rfl⟩))
    go_ret
    first | exact ⟨by simp,hb _⟩ | exact ⟨by simp,hb2 _ _⟩
   | true =>
    go_enter Tryz.func235,Tryz.ntmps235
    go_wp2_with (first | (go_at_call 277; refine (c1 _).mono ?_; clear c1; rintro e w' ⟨rfl,rfl⟩) | (go_at_call 277; refine (c2 _).mono ?_; clear c2; rintro e w' ⟨rfl,rfl⟩) | (go_at_call 277; refine (c3 _).mono ?_; clear c3; rintro e w' ⟨rfl,rfl⟩))
    go_ret
    first | exact ⟨by simp,hb _⟩ | exact ⟨by simp,hb2 _ _⟩
theorem qf1 (w : World) (c : Cf) (v : Vs) (h : CfAt w c v) (i : Nat) (x : Tk) (hi : c.tasks[i]? = some x) :
  Calls Tryz.prog 227 #[.agg (cfC c v),I i] w fun e w' => Ans w (inR x.prio 0 63 && inR x.act 1 255) e w' := by
 have hn : v.t.n = c.tasks.length := h.t.n
 have hlt : (i : Int) < v.t.n := by have := (List.getElem?_eq_some_iff.1 hi).1; omega
 obtain ⟨g,off,s4,s5,s6,s7,e,hg,a0,a1,a2,a3,a4,a5,a6,a7,r4,r5,r6,r7⟩ := qbj h hi
 have hne : g ≠ w.heap.size := by omega
 have hb := qa0 w
 have hb2 := fun o o' => (hb o).trans ((qa0 (w.alloc o) o').mono (hb o).size)
 have c1 := qbs x.prio 0 63
 have c2 := qbs x.act 1 255
 have f11 : ∀ h : 11 < (cfC c v).size,(cfC c v)[11] = .slice v.t.a v.t.n v.t.c := fun _ => rfl
 have hs18 : (cfC c v).size = 18 := rfl
 generalize cfC c v = C at *
 replace f11 := f11 (by omega)
 rw [e] at f11
 clear hi hn
 generalize hgb1 : (inR x.prio 0 63) = b1 at *
 generalize hgb2 : (inR x.act 1 255) = b2 at *
 cases b1 with
 | false =>
  go_enter Tryz.func227,Tryz.ntmps227
  go_wp2_with (first | (go_at_call 193; refine (c1 _).mono ?_; clear c1; rintro e w' ⟨rfl,rfl⟩) | (go_at_call 193; refine (c2 _).mono ?_; clear c2; rintro e w' ⟨rfl,rfl⟩))
  go_ret
  first | exact ⟨by simp,hb _⟩ | exact ⟨by simp,hb2 _ _⟩
 | true =>
  cases b2 with
  | false =>
   go_enter Tryz.func227,Tryz.ntmps227
   go_wp2_with (first | (go_at_call 193; refine (c1 _).mono ?_; clear c1; rintro e w' ⟨rfl,rfl⟩) | (go_at_call 193; refine (c2 _).mono ?_; clear c2; rintro e w' ⟨rfl,rfl⟩))
   go_ret
   first | exact ⟨by simp,hb _⟩ | exact ⟨by simp,hb2 _ _⟩
  | true =>
   go_enter Tryz.func227,Tryz.ntmps227
   go_wp2_with (first | (go_at_call 193; refine (c1 _).mono ?_; clear c1; rintro e w' ⟨rfl,rfl⟩) | (go_at_call 193; refine (c2 _).mono ?_; clear c2; rintro e w' ⟨rfl,rfl⟩))
   go_ret
   first | exact ⟨by simp,hb _⟩ | exact ⟨by simp,hb2 _ _⟩
theorem qft (w : World) (c : Cf) (v : Vs) (h : CfAt w c v) (i : Nat) (x : Tk) (hi : c.tasks[i]? = some x) :
  Calls Tryz.prog 228 #[.agg (cfC c v),I i] w fun e w' => Ans w (risF (-1) x.auto v.m.n && risF (-1) x.res v.r.n && risF (-1) x.evs v.e.n && risF (-1) x.msgs v.s.n) e w' := by
 have hn : v.t.n = c.tasks.length := h.t.n
 have hlt : (i : Int) < v.t.n := by have := (List.getElem?_eq_some_iff.1 hi).1; omega
 obtain ⟨g,off,s4,s5,s6,s7,e,hg,a0,a1,a2,a3,a4,a5,a6,a7,r4,r5,r6,r7⟩ := qbj h hi
 have hne : g ≠ w.heap.size := by omega
 have hb := qa0 w
 have hb2 := fun o o' => (hb o).trans ((qa0 (w.alloc o) o').mono (hb o).size)
 have c1 := fun W (hW : Below w.heap.size w W) => qc3 W s4 x.auto (r4.below hW (fun _ _ _ _ h => h)) v.m.n
 have c2 := fun W (hW : Below w.heap.size w W) => qc3 W s5 x.res (r5.below hW (fun _ _ _ _ h => h)) v.r.n
 have c3 := fun W (hW : Below w.heap.size w W) => qc3 W s6 x.evs (r6.below hW (fun _ _ _ _ h => h)) v.e.n
 have c4 := fun W (hW : Below w.heap.size w W) => qc3 W s7 x.msgs (r7.below hW (fun _ _ _ _ h => h)) v.s.n
 have f10 : ∀ h : 10 < (cfC c v).size,(cfC c v)[10] = .slice v.m.a v.m.n v.m.c := fun _ => rfl
 have f11 : ∀ h : 11 < (cfC c v).size,(cfC c v)[11] = .slice v.t.a v.t.n v.t.c := fun _ => rfl
 have f12 : ∀ h : 12 < (cfC c v).size,(cfC c v)[12] = .slice v.r.a v.r.n v.r.c := fun _ => rfl
 have f13 : ∀ h : 13 < (cfC c v).size,(cfC c v)[13] = .slice v.e.a v.e.n v.e.c := fun _ => rfl
 have f17 : ∀ h : 17 < (cfC c v).size,(cfC c v)[17] = .slice v.s.a v.s.n v.s.c := fun _ => rfl
 have hs18 : (cfC c v).size = 18 := rfl
 generalize cfC c v = C at *
 replace f10 := f10 (by omega)
 replace f11 := f11 (by omega)
 replace f12 := f12 (by omega)
 replace f13 := f13 (by omega)
 replace f17 := f17 (by omega)
 rw [e] at f11
 clear hi hn
 generalize hgb1 : (risF (-1) x.auto v.m.n) = b1 at *
 generalize hgb2 : (risF (-1) x.res v.r.n) = b2 at *
 generalize hgb3 : (risF (-1) x.evs v.e.n) = b3 at *
 generalize hgb4 : (risF (-1) x.msgs v.s.n) = b4 at *
 cases b1 with
 | false =>
  go_enter Tryz.func228,Tryz.ntmps228
  go_wp2_with (first | (go_at_call 274; refine (c1 _ (hb2 _ _)).mono ?_; clear c1; rintro e w' ⟨rfl,rfl⟩) | (go_at_call 274; refine (c2 _ (hb2 _ _)).mono ?_; clear c2; rintro e w' ⟨rfl,rfl⟩) | (go_at_call 274; refine (c3 _ (hb2 _ _)).mono ?_; clear c3; rintro e w' ⟨rfl,rfl⟩) | (go_at_call 274; refine (c4 _ (hb2 _ _)).mono ?_; clear c4; rintro e w' ⟨rfl,rfl⟩))
  go_ret
  first | exact ⟨by simp,hb _⟩ | exact ⟨by simp,hb2 _ _⟩
 | true =>
  cases b2 with
  | false =>
   go_enter Tryz.func228,Tryz.ntmps228
   go_wp2_with (first | (go_at_call 274; refine (c1 _ (hb2 _ _)).mono ?_; clear c1; rintro e w' ⟨rfl,rfl⟩) | (go_at_call 274; refine (c2 _ (hb2 _ _)).mono ?_; clear c2; rintro e w' ⟨rfl,rfl⟩) | (go_at_call 274; refine (c3 _ (hb2 _ _)).mono ?_; clear c3; rintro e w' ⟨rfl,rfl⟩) | (go_at_call 274; refine (c4 _ (hb2 _ _)).mono ?_; clear c4; rintro e w' ⟨rfl,rfl⟩))
   go_ret
   first | exact ⟨by simp,hb _⟩ | exact ⟨by simp,hb2 _ _⟩
  | true =>
   cases b3 with
   | false =>
    go_enter Tryz.func228,Tryz.ntmps228
    go_wp2_with (first | (go_at_call 274; refine (c1 _ (hb2 _ _)).mono ?_; clear c1; rintro e w' ⟨rfl,rfl⟩) | (go_at_call 274; refine (c2 _ (hb2 _ _)).mono ?_; clear c2; rintro e w' ⟨rfl,rfl⟩) | (go_at_call 274; refine (c3 _ (hb2 _ _)).mono ?_; clear c3; rintro e w' ⟨rfl,rfl⟩) | (go_at_call 274; refine (c4 _ (hb2 _ _)).mono ?_; clear c4; rintro e w' ⟨rfl,rfl⟩))
    go_ret
    first | exact ⟨by simp,hb _⟩ | exact ⟨by simp,hb2 _ _⟩
   | true =>
    cases b4 with
    | false =>
     go_enter Tryz.func228,Tryz.ntmps228
     go_wp2_with (first | (go_at_call 274; refine (c1 _ (hb2 _ _)).mono ?_; clear c1; rintro e w' ⟨rfl,rfl⟩) | (go_at_call 274; refine (c2 _ (hb2 _ _)).mono ?_; clear c2; rintro e w' ⟨rfl,rfl⟩) | (go_at_call 274; refine (c3 _ (hb2 _ _)).mono ?_; clear c3; rintro e w' ⟨rfl,rfl⟩) | (go_at_call 274; refine (c4 _ (hb2 _ _)).mono ?_; clear c4; rintro e w' ⟨rfl,rfl⟩))
     go_ret
     first | exact ⟨by simp,hb _⟩ | exact ⟨by simp,hb2 _ _⟩
    | true =>
     go_enter Tryz.func228,Tryz.ntmps228
     go_wp2_with (first | (go_at_call 274; refine (c1 _ (hb2 _ _)).mono ?_; clear c1; rintro e w' ⟨rfl,rfl⟩) | (go_at_call 274; refine (c2 _ (hb2 _ _)).mono ?_; clear c2; rintro e w' ⟨rfl,rfl⟩) | (go_at_call 274; refine (c3 _ (hb2 _ _)).mono ?_; clear c3; rintro e w' ⟨rfl,rfl⟩) | (go_at_call 274; refine (c4 _ (hb2 _ _)).mono ?_; clear c4; rintro e w' ⟨rfl,rfl⟩))
     go_ret
     first | exact ⟨by simp,hb _⟩ | exact ⟨by simp,hb2 _ _⟩
end Go.Proofs.YtmidaeljeoifdaaGreatDoor
