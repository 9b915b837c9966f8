import Derived.Test.YtpbnpmeigdjfdaaGreatDoorProg
import Derived.WalkKit
import Derived.WalkSpells
import Derived.WalkLawsBesides
import Derived.BigQuiet
import Derived.OwnWalk
import Derived.Deep.LoopGhost
import Derived.Deep.QuietTactic
namespace Go.Proofs.YtpbnpmeigdjfdaaGreatDoor
open Go.RowKit
set_option linter.unusedSimpArgs false
set_option linter.unusedVariables false
set_option maxHeartbeats 16000000
set_option maxRecDepth 100000
theorem q7a : type_of% @List.getElem_toArray := @List.getElem_toArray
theorem q7b : type_of% @List.getElem_cons_succ := @List.getElem_cons_succ
theorem q7c : type_of% @List.getElem_cons_zero := @List.getElem_cons_zero
theorem q7d : type_of% @List.setIfInBounds_toArray := @List.setIfInBounds_toArray
theorem q7e : type_of% @List.set_cons_zero := @List.set_cons_zero
theorem q7f : type_of% @List.set_cons_succ := @List.set_cons_succ
theorem heap_lt {w : World} {b : Nat} {o : Obj} (h : w.heap[b]? = some o) : b < w.heap.size := by
 rcases Nat.lt_or_ge b w.heap.size with h' | h'
 ·exact h'
 ·rw [Array.getElem?_eq_none h'] at h; cases h
theorem cell_below {B : Nat} {w w' : World} (hb : Below B w w') (g i : Nat) (h : g < B) : w'.cell? ⟨g, i, none⟩ = w.cell? ⟨g, i, none⟩ :=
 World.cell?_of_block (hb.block g h)
theorem grown_refl (w : World) (r : Option Nat) : w.grownBy w r := ⟨rfl, rfl, rfl, Nat.le_refl _, fun _ _ _ => rfl⟩
theorem grown_of_below {a b : World} {r : Option Nat} (h : Below a.heap.size a b) : a.grownBy b r := ⟨h.os, h.tape, h.output, h.size, fun i hi _ => h.block i hi⟩
theorem below_of_grown {a b : World} {r B : Nat} (h : a.grownBy b (some r)) (hB : B ≤ r) (hs : B ≤ a.heap.size) : Below B a b := (Below.refl _ _).grown h hs (fun k e => by cases e; exact hB)
theorem below_none {a b : World} (h : a.grownBy b none) : Below a.heap.size a b := (Below.refl _ _).grown h (Nat.le_refl _) (fun k e => by cases e)
theorem grown_set (w : World) (r k : Nat) (v : Value) : w.grownBy (w.setCell ⟨r, k, none⟩ v) (some r) :=
 ⟨rfl, rfl, rfl, by simp, fun j _ hj => heap_setCell_other w ⟨r, k, none⟩ j _ (fun e => hj (by simp [e]))⟩
theorem below_alloc (w : World) (o : Obj) : Below w.heap.size w (w.alloc o) := (Below.refl _ _).alloc (Nat.le_refl _) _
theorem own_below {w w' : World} {base e size n : Nat} {v : Value} {xs : List Value} (h : w.ownsRow base e size v n xs) (hb : Below w.heap.size w w') : w'.ownsRow base e size v n xs := by
 obtain ⟨hl, h0 | ⟨g, cap, cur, hv, hb1, hh, rr⟩⟩ := h
 ·exact ⟨hl, .inl h0⟩
 ·exact ⟨hl, .inr ⟨g, cap, cur, hv, hb1, (hb.block g (heap_lt hh)).trans hh, rr⟩⟩
structure Tk where
 name : List UInt8
 prio : Int
 full : Bool
 act : Int
 auto : List Int
 res : List Int
 evs : List Int
 msgs : List Int
structure Rs where
 name : List UInt8
 kind : Int
 link : Int
structure Ev where
 name : List UInt8
 mask : Nat
 auto : Bool
structure Ct where
 name : List UInt8
 max : Nat
 base : Nat
 min : Nat
structure Ac where
 kind : Int
 task : Int
 event : Int
 name : List UInt8
structure Al where
 name : List UInt8
 ctr : Int
 ac : Ac
 auto : List Int
 time : Nat
 cycle : Nat
structure Is where
 name : List UInt8
 cat : Int
 prio : Int
 res : List Int
 msgs : List Int
structure Ms where
 name : List UInt8
 kind : Int
 len : Int
 frm : Int
 init : Nat
 queue : Int
 ac : Ac
structure Cf where
 cpu : List UInt8
 osn : List UInt8
 o1 : Bool
 o2 : Bool
 o3 : Bool
 o4 : Bool
 o5 : Bool
 o6 : Bool
 o7 : Bool
 o8 : Bool
 modes : List (List UInt8)
 tasks : List Tk
 ress : List Rs
 evs : List Ev
 ctrs : List Ct
 als : List Al
 isrs : List Is
 msgs : List Ms
structure Sl where
 a : Option Addr
 n : Nat
 c : Nat
structure Vs where
 m : Sl
 t : Sl
 r : Sl
 e : Sl
 k : Sl
 a : Sl
 i : Sl
 s : Sl
abbrev S (l : List UInt8) : Value := .string ⟨l.toArray⟩
abbrev I (i : Int) : Value := .int .i64 i
def cfC (c : Cf) (v : Vs) : Array Value := #[S c.cpu, S c.osn, .bool c.o1, .bool c.o2, .bool c.o3, .bool c.o4, .bool c.o5, .bool c.o6, .bool c.o7, .bool c.o8,
 .slice v.m.a v.m.n v.m.c, .slice v.t.a v.t.n v.t.c, .slice v.r.a v.r.n v.r.c, .slice v.e.a v.e.n v.e.c, .slice v.k.a v.k.n v.k.c, .slice v.a.a v.a.n v.a.c, .slice v.i.a v.i.n v.i.c, .slice v.s.a v.s.n v.s.c]
structure RowsAt {α : Type} (w : World) (k : Nat) (P : α → Nat → Value → Prop) (s : Sl) (l : List α) : Prop where
 n : s.n = l.length
 c : s.n ≤ s.c
 m : s.c ≤ maxLen
 row : ∀ (j : Nat) (x : α), l[j]? = some x → ∃ g off, s.a = some ⟨g, off, none⟩ ∧ g < w.heap.size ∧ ∀ i, i < k → ∃ u, w.cell? ⟨g, off + j * k + i, none⟩ = some u ∧ P x i u
theorem RowsAt.below {α : Type} {w w' : World} {k : Nat} {P Q : α → Nat → Value → Prop} {s : Sl} {l : List α} (h : RowsAt w k P s l) (hb : Below w.heap.size w w') (hPQ : ∀ x i u, x ∈ l → P x i u → Q x i u) : RowsAt w' k Q s l := by
 refine ⟨h.n, h.c, h.m, fun j x hj => ?_⟩
 obtain ⟨g, off, e, hg, hr⟩ := h.row j x hj
 refine ⟨g, off, e, Nat.lt_of_lt_of_le hg hb.size, fun i hi => ?_⟩
 obtain ⟨u, h1, h2⟩ := hr i hi
 exact ⟨u, by rw [cell_below hb _ _ hg]; exact h1, hPQ x i u (List.mem_of_getElem? hj) h2⟩
def intP (x : Int) (_ : Nat) (u : Value) : Prop := u = I x
def strP (x : List UInt8) (_ : Nat) (u : Value) : Prop := u = S x
def IntsV (w : World) (l : List Int) (u : Value) : Prop := ∃ s : Sl, u = .slice s.a s.n s.c ∧ RowsAt w 1 intP s l
theorem IntsV.below {w w' : World} {l : List Int} {u : Value} (h : IntsV w l u) (hb : Below w.heap.size w w') : IntsV w' l u := by
 obtain ⟨s, e, h⟩ := h
 exact ⟨s, e, h.below hb (fun _ _ _ _ h => h)⟩
def rsP (x : Rs) (i : Nat) (u : Value) : Prop := match i with | 0 => u = S x.name | 1 => u = I x.kind | _ => u = I x.link
def evP (x : Ev) (i : Nat) (u : Value) : Prop := match i with | 0 => u = S x.name | 1 => u = .int .u32 (x.mask : Int) | _ => u = .bool x.auto
def ctP (x : Ct) (i : Nat) (u : Value) : Prop := match i with | 0 => u = S x.name | 1 => u = .int .u32 (x.max : Int) | 2 => u = .int .u32 (x.base : Int) | _ => u = .int .u32 (x.min : Int)
def tkP (w : World) (x : Tk) (i : Nat) (u : Value) : Prop := match i with | 0 => u = S x.name | 1 => u = I x.prio | 2 => u = .bool x.full | 3 => u = I x.act | 4 => IntsV w x.auto u | 5 => IntsV w x.res u | 6 => IntsV w x.evs u | _ => IntsV w x.msgs u
def alP (w : World) (x : Al) (i : Nat) (u : Value) : Prop := match i with | 0 => u = S x.name | 1 => u = I x.ctr | 2 => u = I x.ac.kind | 3 => u = I x.ac.task | 4 => u = I x.ac.event | 5 => u = S x.ac.name | 6 => IntsV w x.auto u | 7 => u = .int .u32 (x.time : Int) | _ => u = .int .u32 (x.cycle : Int)
def isP (w : World) (x : Is) (i : Nat) (u : Value) : Prop := match i with | 0 => u = S x.name | 1 => u = I x.cat | 2 => u = I x.prio | 3 => IntsV w x.res u | _ => IntsV w x.msgs u
def msP (x : Ms) (i : Nat) (u : Value) : Prop := match i with | 0 => u = S x.name | 1 => u = I x.kind | 2 => u = I x.len | 3 => u = I x.frm | 4 => u = .int .u64 (x.init : Int) | 5 => u = I x.queue | 6 => u = I x.ac.kind | 7 => u = I x.ac.task | 8 => u = I x.ac.event | _ => u = S x.ac.name
structure CfAt (w : World) (c : Cf) (v : Vs) : Prop where
 m : RowsAt w 1 strP v.m c.modes
 t : RowsAt w 8 (tkP w) v.t c.tasks
 r : RowsAt w 3 rsP v.r c.ress
 e : RowsAt w 3 evP v.e c.evs
 k : RowsAt w 4 ctP v.k c.ctrs
 a : RowsAt w 9 (alP w) v.a c.als
 i : RowsAt w 5 (isP w) v.i c.isrs
 s : RowsAt w 10 msP v.s c.msgs
theorem CfAt.below {w w' : World} {c : Cf} {v : Vs} (h : CfAt w c v) (hb : Below w.heap.size w w') : CfAt w' c v := by
 refine ⟨h.m.below hb (fun _ _ _ _ h => h), h.t.below hb (fun x i u _ h => ?_), h.r.below hb (fun _ _ _ _ h => h), h.e.below hb (fun _ _ _ _ h => h), h.k.below hb (fun _ _ _ _ h => h), h.a.below hb (fun x i u _ h => ?_), h.i.below hb (fun x i u _ h => ?_), h.s.below hb (fun _ _ _ _ h => h)⟩
 ·unfold tkP at h ⊢
  split at h <;> first | exact h | exact IntsV.below h hb
 ·unfold alP at h ⊢
  split at h <;> first | exact h | exact IntsV.below h hb
 ·unfold isP at h ⊢
  split at h <;> first | exact h | exact IntsV.below h hb
theorem var18_all {w : World} {b : Nat} {c : Cf} {v : Vs} (h : w.heap[b]? = some (.cells (cfC c v) 33 (0, 0))) :
  (w.cell? ⟨b, 0, none⟩ = some (S c.cpu) ∧ w.cell? ⟨b, 1, none⟩ = some (S c.osn) ∧ w.cell? ⟨b, 2, none⟩ = some (.bool c.o1) ∧ w.cell? ⟨b, 3, none⟩ = some (.bool c.o2) ∧ w.cell? ⟨b, 4, none⟩ = some (.bool c.o3) ∧ w.cell? ⟨b, 5, none⟩ = some (.bool c.o4) ∧ w.cell? ⟨b, 6, none⟩ = some (.bool c.o5) ∧ w.cell? ⟨b, 7, none⟩ = some (.bool c.o6) ∧ w.cell? ⟨b, 8, none⟩ = some (.bool c.o7) ∧ w.cell? ⟨b, 9, none⟩ = some (.bool c.o8)) ∧
  (w.cell? ⟨b, 10, none⟩ = some (.slice v.m.a v.m.n v.m.c) ∧ w.cell? ⟨b, 11, none⟩ = some (.slice v.t.a v.t.n v.t.c) ∧ w.cell? ⟨b, 12, none⟩ = some (.slice v.r.a v.r.n v.r.c) ∧ w.cell? ⟨b, 13, none⟩ = some (.slice v.e.a v.e.n v.e.c) ∧ w.cell? ⟨b, 14, none⟩ = some (.slice v.k.a v.k.n v.k.c) ∧ w.cell? ⟨b, 15, none⟩ = some (.slice v.a.a v.a.n v.a.c) ∧ w.cell? ⟨b, 16, none⟩ = some (.slice v.i.a v.i.n v.i.c) ∧ w.cell? ⟨b, 17, none⟩ = some (.slice v.s.a v.s.n v.s.c)) := by
 have a1 := fun i => cell_of_row w b i _ _ (0, 0) h
 exact ⟨⟨a1 0, a1 1, a1 2, a1 3, a1 4, a1 5, a1 6, a1 7, a1 8, a1 9⟩, a1 10, a1 11, a1 12, a1 13, a1 14, a1 15, a1 16, a1 17⟩
theorem ret_int {k : IntKind} {a b : Int} (h : a = b) : Ending.returned (.int k a) = .returned (.int k b) := by rw [h]
theorem ret_bool {a b : Bool} (h : a = b) : Ending.returned (.bool a) = .returned (.bool b) := by rw [h]
def inR (v a b : Int) : Bool := decide (a ≤ v) && decide (v ≤ b)
theorem within_int (v a b : Int) (w : World) : Calls Tryz.prog 86 #[I v, I a, I b] w fun e w' => e = .returned (.bool (inR v a b)) ∧ w' = w := by
 unfold inR
 by_cases h1 : a ≤ v <;> by_cases h2 : v ≤ b <;> (go_enter Tryz.func86, Tryz.ntmps86; go_wp2; go_ret; exact ⟨ret_bool (by simp [h1, h2]), rfl⟩)
theorem within_rk (v a b : Int) (w : World) : Calls Tryz.prog 164 #[I v, I a, I b] w fun e w' => e = .returned (.bool (inR v a b)) ∧ w' = w := by
 unfold inR
 by_cases h1 : a ≤ v <;> by_cases h2 : v ≤ b <;> (go_enter Tryz.func164, Tryz.ntmps164; go_wp2; go_ret; exact ⟨ret_bool (by simp [h1, h2]), rfl⟩)
theorem within_ak (v a b : Int) (w : World) : Calls Tryz.prog 186 #[I v, I a, I b] w fun e w' => e = .returned (.bool (inR v a b)) ∧ w' = w := by
 unfold inR
 by_cases h1 : a ≤ v <;> by_cases h2 : v ≤ b <;> (go_enter Tryz.func186, Tryz.ntmps186; go_wp2; go_ret; exact ⟨ret_bool (by simp [h1, h2]), rfl⟩)
theorem within_u32 (v a b : Int) (w : World) : Calls Tryz.prog 170 #[.int .u32 v, .int .u32 a, .int .u32 b] w fun e w' => e = .returned (.bool (inR v a b)) ∧ w' = w := by
 unfold inR
 by_cases h1 : a ≤ v <;> by_cases h2 : v ≤ b <;> (go_enter Tryz.func170, Tryz.ntmps170; go_wp2; go_ret; exact ⟨ret_bool (by simp [h1, h2]), rfl⟩)
theorem within_u8 (v a b : Int) (w : World) : Calls Tryz.prog 184 #[.int .u8 v, .int .u8 a, .int .u8 b] w fun e w' => e = .returned (.bool (inR v a b)) ∧ w' = w := by
 unfold inR
 by_cases h1 : a ≤ v <;> by_cases h2 : v ≤ b <;> (go_enter Tryz.func184, Tryz.ntmps184; go_wp2; go_ret; exact ⟨ret_bool (by simp [h1, h2]), rfl⟩)
def isId (v n : Int) : Bool := decide (0 ≤ v) && decide (v < n)
theorem isID_any (v n : Int) (w : World) : Calls Tryz.prog 165 #[I v, I n] w fun e w' => e = .returned (.bool (isId v n)) ∧ w' = w := by
 unfold isId
 by_cases h1 : 0 ≤ v <;> by_cases h2 : v < n <;> (go_enter Tryz.func165, Tryz.ntmps165; go_wp2; go_ret; exact ⟨ret_bool (by simp [h1, h2]), rfl⟩)
def isLt (c : UInt8) : Bool := inR c.toNat 65 90 || inR c.toNat 97 122 || ((c.toNat : Int) == 95)
def isDg (c : UInt8) : Bool := inR c.toNat 48 57
theorem letter_any (c : UInt8) (w : World) : Calls Tryz.prog 153 #[.int .u8 c.toNat] w fun e w' => e = .returned (.bool (isLt c)) ∧ w' = w := by
 have c1 := within_u8 c.toNat 65 90
 have c2 := within_u8 c.toNat 97 122
 unfold isLt
 generalize inR c.toNat 65 90 = a at *
 generalize inR c.toNat 97 122 = b at *
 cases a <;> cases b <;> (go_enter Tryz.func153, Tryz.ntmps153; go_wp2_with (first | (go_at_call 184; refine (c1 _).mono ?_; clear c1; rintro e w' ⟨rfl, rfl⟩) | (go_at_call 184; refine (c2 _).mono ?_; rintro e w' ⟨rfl, rfl⟩)); go_ret; exact ⟨ret_bool (by simp), rfl⟩)
theorem digit_any (c : UInt8) (w : World) : Calls Tryz.prog 154 #[.int .u8 c.toNat] w fun e w' => e = .returned (.bool (isDg c)) ∧ w' = w := by
 have c1 := within_u8 c.toNat 48 57
 unfold isDg
 generalize inR c.toNat 48 57 = a at *
 go_enter Tryz.func154, Tryz.ntmps154
 go_wp2_with (first | (go_at_call 184; refine (c1 _).mono ?_; rintro e w' ⟨rfl, rfl⟩))
 go_ret
 exact ⟨rfl, rfl⟩
theorem index_at (s : ByteArray) (k : Nat) (z : Int) (w : World) (h : k < s.size) (hz : z = k) : (Instr.index 9 (.string s) (.int .i64 z)).run Tryz.prog w = .ok (.int .u8 (s[k].toNat : Int)) w := by
 subst hz
 have h1 : (0 : Int) ≤ k ∧ (k : Int) < s.size := by omega
 simp [go_sem, h1]
def isNm (l : List UInt8) : Bool := match l with
 | [] => false
 | c :: r => decide (r.length ≤ 62) && isLt c && r.all (fun d => isLt d || isDg d)
theorem nm_all (l : List UInt8) (hn : l.length ≤ 63) (h0 : ∀ c : UInt8, l[0]? = some c → isLt c = true) (hne : l ≠ []) (ha : ∀ (k : Nat) (c : UInt8), l[k]? = some c → (isLt c || isDg c) = true) : isNm l = true := by
 cases l with
 | nil => exact absurd rfl hne
 | cons c r =>
  unfold isNm
  have h1 := h0 c rfl
  have h2 : r.length ≤ 62 := by simp at hn; omega
  simp only [h1, h2, decide_true, Bool.true_and]
  rw [List.all_eq_true]
  intro d hd
  obtain ⟨k, hk⟩ := List.mem_iff_getElem?.1 hd
  exact ha (k + 1) d (by simpa using hk)
theorem nm_bad (l : List UInt8) (k : Nat) (c : UInt8) (h : l[k]? = some c) (hb : (isLt c || isDg c) = false) : isNm l = false := by
 cases l with
 | nil => simp at h
 | cons d r =>
  unfold isNm
  cases k with
  | zero =>
   simp at h
   subst h
   simp at hb
   simp [hb.1]
  | succ k =>
   have hm : c ∈ r := List.mem_of_getElem? (by simpa using h)
   have : r.all (fun d => isLt d || isDg d) = false := by
    rw [List.all_eq_false]
    exact ⟨c, hm, by simp [hb]⟩
   show (decide (r.length ≤ 62) && isLt d && r.all (fun d => isLt d || isDg d)) = false
   rw [this, Bool.and_false]
theorem nm_first (c : UInt8) (r : List UInt8) (h : isLt c = false) : isNm (c :: r) = false := by simp [isNm, h]
theorem nm_long (l : List UInt8) (h : 63 < l.length) : isNm l = false := by
 cases l with
 | nil => simp at h
 | cons c r => simp at h; simp [isNm, show ¬ r.length ≤ 62 by omega]
theorem isName_any (s : ByteArray) (w : World) : Calls Tryz.prog 88 #[.string s] w fun e w' => e = .returned (.bool (isNm s.data.toList)) ∧ w' = w := by
 have HL : Hid (s.data.toList.length = s.size) := by show _ = _; simp
 by_cases hs0 : s.size = 0
 ·obtain rfl : s = ⟨#[]⟩ := by
   cases s with
   | mk d => congr 1; exact Array.eq_empty_of_size_eq_zero hs0
  go_enter Tryz.func88, Tryz.ntmps88
  go_wp2
  go_ret
  exact ⟨rfl, rfl⟩
 have hq : s.toList.isEmpty = false := by
  rw [ByteArray.toList_eq]
  cases hd : s.data.toList with
  | nil => have := HL.out; rw [hd] at this; simp at this; omega
  | cons _ _ => rfl
 by_cases hl : 63 < s.size
 ·have hl' : (63 : Int) < s.size := by omega
  have e1 := nm_long s.data.toList (by rw [HL.out]; exact hl)
  go_enter Tryz.func88, Tryz.ntmps88
  go_wp2
  go_ret
  exact ⟨ret_bool e1.symm, rfl⟩
 have hl' : ¬ (63 : Int) < s.size := by omega
 obtain ⟨x, hx⟩ : ∃ c, s[0]'(by omega) = c := ⟨_, rfl⟩
 have hix : ∀ w, (Instr.index 9 (.string s) (.int .i64 0)).run Tryz.prog w = .ok (.int .u8 (x.toNat : Int)) w := fun w => by
  rw [← hx]; exact index_at s 0 _ w (by omega) rfl
 have hx0 : s.data.toList[0]? = some x := by rw [← hx, List.getElem?_eq_getElem (by rw [HL.out]; omega)]; rfl
 have c1 := letter_any x
 have HX : Hid (∃ r, s.data.toList = x :: r) := by
  show ∃ r, _
  cases hd : s.data.toList with
  | nil => rw [hd] at hx0; simp at hx0
  | cons a b => rw [hd] at hx0; simp at hx0; exact ⟨b, by rw [hx0]⟩
 have HX0 : Hid (s.data.toList[0]? = some x) := hx0
 clear hx hx0
 cases ha : isLt x with
 | false =>
  have e1 : Hid (isNm s.data.toList = false) := by obtain ⟨r, hr⟩ := HX.out; show _ = _; rw [hr]; exact nm_first x r ha
  rw [ha] at c1
  go_enter Tryz.func88, Tryz.ntmps88
  go_wp2_with (first | (go_at_call 153; refine (c1 _).mono ?_; rintro e w' ⟨rfl, rfl⟩))
  go_ret
  exact ⟨ret_bool e1.out.symm, rfl⟩
 | true =>
  have HA : Hid (isLt x = true) := ha
  rw [ha] at c1
  clear ha
  go_enter Tryz.func88, Tryz.ntmps88
  go_wp2_with (first | (go_at_call 153; refine (c1 _).mono ?_; rintro e w' ⟨rfl, rfl⟩))
  go_loop [3, 19] (fun _ i => ∃ j : Nat, j ≤ s.size ∧ i = .int .i64 j ∧ Hid (∀ (k : Nat) (c : UInt8), k < j → s.data.toList[k]? = some c → (isLt c || isDg c) = true)) (fun _ i => s.size - (intOf i).toNat)
  case atStart => exact ⟨0, by omega, rfl, fun k c h => absurd h (Nat.not_lt_zero _)⟩
  case round =>
   obtain ⟨j, hj, rfl, HJ⟩ := hrel
   by_cases hlt : j < s.size
   ·have hlt' : (j : Int) < s.size := by omega
    obtain ⟨y, hy⟩ : ∃ c, s[j]'hlt = c := ⟨_, rfl⟩
    have hiy : ∀ w, (Instr.index 9 (.string s) (.int .i64 (j : Int))).run Tryz.prog w = .ok (.int .u8 (y.toNat : Int)) w := fun w => by
     rw [← hy]; exact index_at s j _ w hlt rfl
    have HY : Hid (s.data.toList[j]? = some y) := by show _ = _; rw [← hy, List.getElem?_eq_getElem (by rw [HL.out]; exact hlt)]; rfl
    have d1 := letter_any y
    have d2 := digit_any y
    have HB : Hid ((isLt y || isDg y) = false → isNm s.data.toList = false) := fun h => nm_bad _ j y HY.out h
    have HK : Hid ((isLt y || isDg y) = true → ∀ (k : Nat) (c : UInt8), k < j + 1 → s.data.toList[k]? = some c → (isLt c || isDg c) = true) := fun h k c hk hc => by
     by_cases e : k < j
     ·exact HJ.out k c e hc
     ·obtain rfl : k = j := by omega
      rw [HY.out] at hc
      cases hc
      exact h
    clear hy c1 hix
    generalize isLt y = a at *
    generalize isDg y = b at *
    cases a with
    | true =>
     go_wp2_with (first | (go_at_call 153; refine (d1 _).mono ?_; rintro e w' ⟨rfl, rfl⟩) | (go_at_call 154; refine (d2 _).mono ?_; rintro e w' ⟨rfl, rfl⟩))
     go_round
     case rel => exact ⟨j + 1, by omega, by go_num, HK.out rfl⟩
     case measure => simp [intOf]; omega
    | false =>
     cases b with
     | true =>
      go_wp2_with (first | (go_at_call 153; refine (d1 _).mono ?_; rintro e w' ⟨rfl, rfl⟩) | (go_at_call 154; refine (d2 _).mono ?_; rintro e w' ⟨rfl, rfl⟩))
      go_round
      case rel => exact ⟨j + 1, by omega, by go_num, HK.out rfl⟩
      case measure => simp [intOf]; omega
     | false =>
      have e1 := HB.out rfl
      go_wp2_with (first | (go_at_call 153; refine (d1 _).mono ?_; rintro e w' ⟨rfl, rfl⟩) | (go_at_call 154; refine (d2 _).mono ?_; rintro e w' ⟨rfl, rfl⟩))
      go_ret
      exact ⟨ret_bool e1.symm, rfl⟩
   ·obtain rfl : j = s.size := by omega
    have hlt' : ¬ ((s.size : Nat) : Int) < (s.size : Nat) := by omega
    have e1 : Hid (isNm s.data.toList = true) := nm_all _ (by rw [HL.out]; omega) (fun c hc => by rw [HX0.out] at hc; cases hc; exact HA.out) (fun e => by have := HL.out; rw [e] at this; simp at this; omega) (fun k c hk => HJ.out k c (by have := (List.getElem?_eq_some_iff.1 hk).1; rw [HL.out] at this; exact this) hk)
    go_wp2
    go_ret
    exact ⟨ret_bool e1.out.symm, rfl⟩
theorem isName_l (l : List UInt8) (w : World) : Calls Tryz.prog 88 #[S l] w fun e w' => e = .returned (.bool (isNm l)) ∧ w' = w := by
 have := isName_any ⟨l.toArray⟩ w
 simpa using this
theorem ints_at {w : World} {s : Sl} {l : List Int} (h : RowsAt w 1 intP s l) {j : Nat} {x : Int} (hj : l[j]? = some x) : ∃ g off, s.a = some ⟨g, off, none⟩ ∧ g < w.heap.size ∧ w.cell? ⟨g, off + j, none⟩ = some (I x) := by
 obtain ⟨g, off, e, hg, hr⟩ := h.row j x hj
 obtain ⟨u, h1, h2⟩ := hr 0 (by omega)
 refine ⟨g, off, e, hg, ?_⟩
 rw [show off + j * 1 + 0 = off + j by omega] at h1
 rw [h1, h2]
def risF (a : Int) (l : List Int) (n : Int) : Bool := match l with
 | [] => true
 | x :: r => isId x n && decide (a < x) && risF x r n
theorem rises_any (w : World) (s : Sl) (l : List Int) (h : RowsAt w 1 intP s l) (n : Int) : Calls Tryz.prog 167 #[.slice s.a s.n s.c, I n] w fun e w' => e = .returned (.bool (risF (-1) l n)) ∧ w' = w := by
 obtain ⟨sa, sn, sc⟩ := s
 have hn : sn = l.length := h.n
 have hc : sn ≤ sc := h.c
 have hm : sc ≤ maxLen := h.m
 dsimp only
 unfold maxLen at hm
 have HN : Hid (sn = l.length) := hn
 clear hn
 go_enter Tryz.func167, Tryz.ntmps167
 go_wp2
 go_loop [5, 7, 10] (fun a5 _ i => ∃ (j : Nat) (a : Int), j ≤ sn ∧ i = .int .i64 j ∧ a5 = .int .i64 a ∧ Hid (risF (-1) l n = risF a (l.drop j) n)) (fun _ _ i => sn - (intOf i).toNat)
 case atStart => exact ⟨0, -1, by omega, rfl, rfl, rfl⟩
 case round =>
  obtain ⟨j, a, hj, rfl, rfl, HR⟩ := hrel
  by_cases hlt : j < sn
  ·have hlt' : (j : Int) < sn := by omega
   have hjl : j < l.length := by rw [← HN.out]; exact hlt
   obtain ⟨x, hx⟩ : ∃ x, l[j]? = some x := ⟨l[j], List.getElem?_eq_getElem hjl⟩
   obtain ⟨g, off, e, hg, hcx⟩ := ints_at h hx
   dsimp only at e
   subst e
   have HD : Hid (l.drop j = x :: l.drop (j + 1)) := by
    show _ = _
    rw [List.drop_eq_getElem_cons hjl]
    rw [List.getElem?_eq_getElem hjl] at hx
    cases hx
    rfl
   have c1 := isID_any x n
   have HE : Hid (risF (-1) l n = (isId x n && decide (a < x) && risF x (l.drop (j + 1)) n)) := by show _ = _; rw [HR.out, HD.out, risF]
   clear hx hjl
   generalize isId x n = b at *
   cases b with
   | false =>
    have HE2 : Hid (risF (-1) l n = false) := by show _ = _; rw [HE.out]; rfl
    go_wp2_with (first | (go_at_call 165; refine (c1 _).mono ?_; rintro e w' ⟨rfl, rfl⟩))
    go_ret
    exact ⟨ret_bool HE2.out.symm, rfl⟩
   | true =>
    by_cases hax : x ≤ a
    ·have HE2 : Hid (risF (-1) l n = false) := by show _ = _; rw [HE.out, decide_eq_false (by omega)]; rfl
     go_wp2_with (first | (go_at_call 165; refine (c1 _).mono ?_; rintro e w' ⟨rfl, rfl⟩))
     go_ret
     exact ⟨ret_bool HE2.out.symm, rfl⟩
    ·have HE2 : Hid (risF (-1) l n = risF x (l.drop (j + 1)) n) := by show _ = _; rw [HE.out, decide_eq_true (by omega)]; rfl
     go_wp2_with (first | (go_at_call 165; refine (c1 _).mono ?_; rintro e w' ⟨rfl, rfl⟩))
     go_round
     case rel => exact ⟨j + 1, x, by omega, by go_num, rfl, HE2⟩
     case measure => simp [intOf]; omega
  ·obtain rfl : j = sn := by omega
   have hlt' : ¬ (j : Int) < j := by omega
   have HE2 : Hid (risF (-1) l n = true) := by show _ = _; rw [HR.out, List.drop_eq_nil_of_le (by rw [← HN.out]; exact Nat.le_refl _), risF]
   go_wp2
   go_ret
   exact ⟨ret_bool HE2.out.symm, rfl⟩
end Go.Proofs.YtpbnpmeigdjfdaaGreatDoor
