import Derived.Test.YtmidaeljeoifdaaGreatDoorXKrb
import Derived.OpenShut
import Derived.Deep.Strs
import Derived.SizedLaws
import Derived.ChangeOld
import Derived.Test.YtmidaeljeoifdaaGreatDoorXKve
import Derived.Test.YtmidaeljeoifdaaGreatDoorXKri
import Derived.Laws.Tables
import Derived.Deep.DeepAppendWide
namespace Go.Proofs.YtmidaeljeoifdaaGreatDoor
open Go.ChangeShapes Go.RowKit Go.WideShapes
set_option linter.unusedSimpArgs false
set_option linter.unusedVariables false
set_option maxHeartbeats 16000000
set_option maxRecDepth 100000
def qef (l : List Nat) : Prop := ∀ n,n ∈ l → n ≤ reachBytes
theorem qkd {l : List Nat} (h : l.all (· ≤ reachBytes) = true) : qef l := fun n hn => by simpa using List.all_eq_true.1 h n hn
theorem qnf {H : Type} {P : Program} {t e : TypeId} {es sp : List (DataW H)} (hu : P.underlying t = some (.slice e)) (h : qef (DataW.weights P t (.slice es sp))) : es.length * P.bytesOf e ≤ reachBytes := by
 unfold DataW.weights at h
 simp only [hu] at h
 exact Nat.le_trans (Nat.mul_le_mul_right _ (Nat.le_add_right _ _)) (h _ (List.mem_cons_self ..))
theorem qbp {H : Type} {P : Program} {t : TypeId} {fs : Array Field} {parts : List (DataW H)} (hu : P.underlying t = some (.struct fs)) (h : qef (DataW.weights P t (.agg parts))) {j : Nat} {u : TypeId} {d : DataW H} (hj : (fs.toList.map (·.type))[j]? = some u) (hd : parts[j]? = some d) : qef (d.weights P u) := by
 unfold DataW.weights at h
 simp only [hu] at h
 exact fun n hn => h n (DataW.weights_mem_each hj hd n hn)
theorem S_eq (s : ByteArray) : Value.string s = S s.data.toList := by cases s; simp [S]
theorem qbm {α : Type} (inh : Inhabited α) {H : Type} {enc : TypeId × Value → H} {w : World} {spare : Nat → Bool} {held : Bool} {fuel : Nat} {T E : TypeId} {k : Nat} (hk : 0 < k) (hu : Tryz.prog.underlying T = some (.slice E)) (hc : Tryz.prog.cellsOf E = k) {P : α → Nat → Value → Prop} {v : Value} {y : DataW H × List MemPlace}
  (h : DataW.trod enc Tryz.prog w 0 spare held fuel T [v] = some y)
  (one : ∀ n cs z,cs.length = k → DataW.trod enc Tryz.prog w 0 spare held n E cs = some z → ∃ x : α, ∀ i,i < k → ∃ u,cs[i]? = some u ∧ P x i u) :
  ∃ (s : Sl) (l : List α),v = .slice s.a s.n s.c ∧ RowsAt w k P s l ∧ (qef (y.1.weights Tryz.prog T) → l.length * Tryz.prog.bytesOf E ≤ reachBytes) := by
 rcases DataW.trod_slice hu h with ⟨hcs,_⟩ | ⟨a,len,cap,elems,rest,n,hfu,hcs,hx,_,hlc,hcm,hel,hV,_,_⟩
 ·simp at hcs
  subst hcs
  exact ⟨⟨none,0,0⟩, [],rfl,⟨rfl,Nat.le_refl _,Nat.zero_le _,fun j x hj => by simp at hj⟩,fun _ => by simp⟩
 ·simp at hcs
  subst hcs
  rw [hc] at hV
  obtain ⟨L,hL⟩ := Go.Deep.choose_lt (α := α) (n := len) (p := fun i x => ∃ cs,w.cells? 0 (a.add (i * k)) k = some cs ∧ ∀ t,t < k → ∃ u,cs[t]? = some u ∧ P x t u) (fun i hi => by
   have hVi := hV i hi
   rw [List.getElem?_eq_getElem (by omega : i < elems.length)] at hVi
   obtain ⟨cs',h1,h2⟩ := Option.bind_eq_some_iff.1 hVi
   obtain ⟨_,hcl,_⟩ := World.cells?_some h1
   obtain ⟨x,hx⟩ := one n cs' _ hcl h2
   exact ⟨x,cs',h1,hx⟩)
  obtain ⟨b,off,spot⟩ := a
  refine ⟨⟨some ⟨b,off,spot⟩,len,cap⟩,(List.range len).map L,rfl,⟨by simp,hlc,hcm,fun j x hj => ?_⟩,fun hz => ?_⟩
  ·rw [List.getElem?_map] at hj
   obtain ⟨i,hi,rfl⟩ := Option.map_eq_some_iff.1 hj
   have hjl : j < len := by have := (List.getElem?_eq_some_iff.1 hi).1; simpa using this
   obtain rfl : j = i := by rw [List.getElem?_range hjl] at hi; exact Option.some.inj hi
   obtain ⟨cs,h1,h2⟩ := hL j hjl
   obtain ⟨_,hcl,hcc⟩ := World.cells?_some h1
   have hspot : spot = none := by
    obtain ⟨cs0,g1,g2⟩ := hL 0 (by omega)
    obtain ⟨_,gl,gc⟩ := World.cells?_some g1
    obtain ⟨u,gu,_⟩ := g2 0 hk
    have := World.cell?_spot ((gc 0 hk).trans gu)
    simpa [Addr.add] using this
   subst hspot
   refine ⟨b,off,rfl, ?_,fun t ht => ?_⟩
   ·have := World.cells?_block h1 hk
    rw [WideShapes.add_plain] at this
    exact this
   ·obtain ⟨u,hu1,hu2⟩ := h2 t ht
    have := (hcc t ht).trans hu1
    rw [WideShapes.add_plain,WideShapes.add_plain] at this
    exact ⟨u,this,hu2⟩
  ·rw [hx] at hz
   have := qnf hu hz
   rw [List.length_map,hel] at this
   simpa using this
theorem qdu : Tryz.prog.cellsOf 3 = 1 := by kernel_rfl
theorem qbd : Tryz.prog.cellsOf 9 = 1 := by kernel_rfl
theorem qke : Tryz.prog.cellsOf 4 = 1 := by kernel_rfl
theorem qgi : Tryz.prog.cellsOf 53 = 1 := by kernel_rfl
theorem qrm : Tryz.prog.cellsOf 97 = 1 := by kernel_rfl
theorem qkf : Tryz.prog.cellsOf 54 = 1 := by kernel_rfl
theorem qg1 : Tryz.prog.cellsOf 104 = 1 := by kernel_rfl
theorem qdv : Tryz.prog.cellsOf 62 = 1 := by kernel_rfl
theorem qgj : Tryz.prog.cellsOf 96 = 1 := by kernel_rfl
theorem qg7 : Tryz.prog.cellsOf 64 = 4 := by kernel_rfl
theorem qtq : Tryz.prog.cellsOf 37 = 9 := by kernel_rfl
theorem qp7 : Tryz.prog.cellsOf 38 = 1 := by kernel_rfl
theorem qng : Tryz.prog.cellsOf 39 = 1 := by kernel_rfl
theorem qi4 : Tryz.prog.cellsOf 40 = 1 := by kernel_rfl
theorem qm6 : Tryz.prog.cellsOf 41 = 1 := by kernel_rfl
theorem qj3 : Tryz.prog.cellsOf 42 = 1 := by kernel_rfl
theorem qm7 : Tryz.prog.cellsOf 43 = 1 := by kernel_rfl
theorem qp8 : Tryz.prog.cellsOf 44 = 1 := by kernel_rfl
theorem qj4 : Tryz.prog.cellsOf 45 = 1 := by kernel_rfl
theorem qtr {H : Type} {enc : TypeId × Value → H} {w : World} {spare : Nat → Bool} {held : Bool} (n : Nat) (cs : List Value) (z : DataW H × List MemPlace) (hl : cs.length = 1) (h : DataW.trod enc Tryz.prog w 0 spare held n 3 cs = some z) : ∃ x : Int, ∀ i,i < 1 → ∃ u,cs[i]? = some u ∧ intP x i u := by
 obtain ⟨x,rfl,_,_⟩ := DataW.trod_int Tryz.underlying3 h
 exact ⟨x,fun i hi => by obtain rfl : i = 0 := (by omega); exact ⟨_,rfl,rfl⟩⟩
theorem qc6 {H : Type} {enc : TypeId × Value → H} {w : World} {spare : Nat → Bool} {held : Bool} {fuel : Nat} {v : Value} {y : DataW H × List MemPlace} (h : DataW.trod enc Tryz.prog w 0 spare held fuel 54 [v] = some y) : ∃ l,IntsV w l v := by
 obtain ⟨s,l,e,hr,_⟩ := qbm ⟨0⟩ (by omega) Tryz.underlying54 qdu h qtr
 exact ⟨l,s,e,hr⟩
theorem qt9 {α : Type} {l : List α} (h : l.length = 3) : ∃ c0 c1 c2,l = [c0,c1,c2] := by
 match l,h with
 | [c0,c1,c2],_ => exact ⟨c0,c1,c2,rfl⟩
theorem qvz {α : Type} {l : List α} (h : l.length = 4) : ∃ c0 c1 c2 c3,l = [c0,c1,c2,c3] := by
 match l,h with
 | [c0,c1,c2,c3],_ => exact ⟨c0,c1,c2,c3,rfl⟩
theorem qw0 {α : Type} {l : List α} (h : l.length = 5) : ∃ c0 c1 c2 c3 c4,l = [c0,c1,c2,c3,c4] := by
 match l,h with
 | [c0,c1,c2,c3,c4],_ => exact ⟨c0,c1,c2,c3,c4,rfl⟩
theorem qw1 {α : Type} {l : List α} (h : l.length = 8) : ∃ c0 c1 c2 c3 c4 c5 c6 c7,l = [c0,c1,c2,c3,c4,c5,c6,c7] := by
 match l,h with
 | [c0,c1,c2,c3,c4,c5,c6,c7],_ => exact ⟨c0,c1,c2,c3,c4,c5,c6,c7,rfl⟩
theorem qw2 {α : Type} {l : List α} (h : l.length = 9) : ∃ c0 c1 c2 c3 c4 c5 c6 c7 c8,l = [c0,c1,c2,c3,c4,c5,c6,c7,c8] := by
 match l,h with
 | [c0,c1,c2,c3,c4,c5,c6,c7,c8],_ => exact ⟨c0,c1,c2,c3,c4,c5,c6,c7,c8,rfl⟩
theorem qv4 {α : Type} {l : List α} (h : l.length = 10) : ∃ c0 c1 c2 c3 c4 c5 c6 c7 c8 c9,l = [c0,c1,c2,c3,c4,c5,c6,c7,c8,c9] := by
 match l,h with
 | [c0,c1,c2,c3,c4,c5,c6,c7,c8,c9],_ => exact ⟨c0,c1,c2,c3,c4,c5,c6,c7,c8,c9,rfl⟩
theorem qv5 {α : Type} {l : List α} (h : l.length = 18) : ∃ c0 c1 c2 c3 c4 c5 c6 c7 c8 c9 c10 c11 c12 c13 c14 c15 c16 c17,l = [c0,c1,c2,c3,c4,c5,c6,c7,c8,c9,c10,c11,c12,c13,c14,c15,c16,c17] := by
 match l,h with
 | [c0,c1,c2,c3,c4,c5,c6,c7,c8,c9,c10,c11,c12,c13,c14,c15,c16,c17],_ => exact ⟨c0,c1,c2,c3,c4,c5,c6,c7,c8,c9,c10,c11,c12,c13,c14,c15,c16,c17,rfl⟩
theorem qts {α : Type} {l : Array α} (h : l.size = 18) : ∃ c0 c1 c2 c3 c4 c5 c6 c7 c8 c9 c10 c11 c12 c13 c14 c15 c16 c17,l = #[c0,c1,c2,c3,c4,c5,c6,c7,c8,c9,c10,c11,c12,c13,c14,c15,c16,c17] := by
 obtain ⟨l⟩ := l
 obtain ⟨c0,c1,c2,c3,c4,c5,c6,c7,c8,c9,c10,c11,c12,c13,c14,c15,c16,c17,e⟩ := qv5 (l := l) (by simpa using h)
 exact ⟨c0,c1,c2,c3,c4,c5,c6,c7,c8,c9,c10,c11,c12,c13,c14,c15,c16,c17,by rw [e]⟩
theorem p_Cf : Tryz.prog.cellsOf 47 = 18 := by kernel_rfl
theorem b_t : Tryz.prog.bytesOf 58 = 136 := by kernel_rfl
theorem q_t : Tryz.prog.cellsOf 58 = 8 := by kernel_rfl
theorem b_r : Tryz.prog.bytesOf 106 = 32 := by kernel_rfl
theorem q_r : Tryz.prog.cellsOf 106 = 3 := by kernel_rfl
theorem b_e : Tryz.prog.bytesOf 109 = 24 := by kernel_rfl
theorem q_e : Tryz.prog.cellsOf 109 = 3 := by kernel_rfl
theorem b_k : Tryz.prog.bytesOf 111 = 32 := by kernel_rfl
theorem q_k : Tryz.prog.cellsOf 111 = 4 := by kernel_rfl
theorem b_a : Tryz.prog.bytesOf 66 = 96 := by kernel_rfl
theorem q_a : Tryz.prog.cellsOf 66 = 9 := by kernel_rfl
theorem b_i : Tryz.prog.bytesOf 88 = 80 := by kernel_rfl
theorem q_i : Tryz.prog.cellsOf 88 = 5 := by kernel_rfl
theorem b_s : Tryz.prog.bytesOf 114 = 96 := by kernel_rfl
theorem q_s : Tryz.prog.cellsOf 114 = 10 := by kernel_rfl
end Go.Proofs.YtmidaeljeoifdaaGreatDoor
namespace Go.Proofs.YtmidaeljeoifdaaGreatDoor
set_option linter.unusedSimpArgs false
set_option linter.unusedVariables false
set_option maxHeartbeats 16000000
set_option maxRecDepth 100000
structure NamesOK (c : Cf) : Prop where
 p : c.cpu.length < 9223372036854775808
 o : c.osn.length < 9223372036854775808
 m : ∀ x ∈ c.modes,x.length < 9223372036854775808
 t : ∀ x ∈ c.tasks,x.name.length < 9223372036854775808
 r : ∀ x ∈ c.ress,x.name.length < 9223372036854775808
 e : ∀ x ∈ c.evs,x.name.length < 9223372036854775808
 k : ∀ x ∈ c.ctrs,x.name.length < 9223372036854775808
 a : ∀ x ∈ c.als,x.name.length < 9223372036854775808 ∧ x.ac.name.length < 9223372036854775808
 i : ∀ x ∈ c.isrs,x.name.length < 9223372036854775808
 s : ∀ x ∈ c.msgs,x.name.length < 9223372036854775808 ∧ x.ac.name.length < 9223372036854775808
end Go.Proofs.YtmidaeljeoifdaaGreatDoor
namespace Go.Proofs.YtmidaeljeoifdaaGreatDoor
open Go.ChangeShapes Go.RowKit Go.WideShapes
set_option linter.unusedSimpArgs false
set_option linter.unusedVariables false
set_option maxHeartbeats 16000000
set_option maxRecDepth 100000
def andP {α : Type} (P : α → Nat → Value → Prop) (N : α → Prop) (x : α) (i : Nat) (u : Value) : Prop := P x i u ∧ N x
theorem qbx (s : ByteArray) (h : s.size ≤ maxLen) : s.data.toList.length < 9223372036854775808 := by
 unfold maxLen at h
 have e : s.data.toList.length = s.size := by simp
 omega
theorem qcz {α : Type} {w : World} {k : Nat} (hk : 0 < k) {P : α → Nat → Value → Prop} {N : α → Prop} {s : Sl} {l : List α} (h : RowsAt w k (andP P N) s l) : ∀ x ∈ l,N x := fun x hx => by
 obtain ⟨j,hj⟩ := List.getElem?_of_mem hx
 obtain ⟨_,_,_,_,hr⟩ := h.row j x hj
 obtain ⟨_,_,hb⟩ := hr 0 hk
 exact hb.2
theorem qc7 {α : Type} {w : World} {k : Nat} {P : α → Nat → Value → Prop} {N : α → Prop} {s : Sl} {l : List α} (h : RowsAt w k (andP P N) s l) : RowsAt w k P s l := h.below (Below.refl _ _) (fun _ _ _ _ h => h.1)
theorem qtt {H : Type} {enc : TypeId × Value → H} {w : World} {spare : Nat → Bool} {held : Bool} (n : Nat) (cs : List Value) (z : DataW H × List MemPlace) (hl : cs.length = 1) (h : DataW.trod enc Tryz.prog w 0 spare held n 9 cs = some z) : ∃ x : List UInt8, ∀ i,i < 1 → ∃ u,cs[i]? = some u ∧ andP strP (fun x => x.length < 9223372036854775808) x i u := by
 obtain ⟨x,rfl,_,l0⟩ := DataW.trod_string Tryz.underlying9 h
 exact ⟨x.data.toList,fun i hi => by obtain rfl : i = 0 := (by omega); exact ⟨_,rfl,S_eq x,qbx x l0⟩⟩
def nRs (x : Rs) : Prop := x.name.length < 9223372036854775808
def nEv (x : Ev) : Prop := x.name.length < 9223372036854775808 ∧ x.mask < 4294967296
def nCt (x : Ct) : Prop := x.name.length < 9223372036854775808
def nTk (x : Tk) : Prop := x.name.length < 9223372036854775808
def nIs (x : Is) : Prop := x.name.length < 9223372036854775808
def nAl (x : Al) : Prop := x.name.length < 9223372036854775808 ∧ x.ac.name.length < 9223372036854775808
def nMs (x : Ms) : Prop := x.name.length < 9223372036854775808 ∧ x.ac.name.length < 9223372036854775808
theorem qv6 {H : Type} {enc : TypeId × Value → H} {w : World} {spare : Nat → Bool} {held : Bool} (fuel : Nat) (cs : List Value) (y : DataW H × List MemPlace) (hcs : cs.length = 3) (h : DataW.trod enc Tryz.prog w 0 spare held fuel 106 cs = some y) : ∃ x : Rs, ∀ i,i < 3 → ∃ u,cs[i]? = some u ∧ andP (rsP) nRs x i u := by
 obtain ⟨c0,c1,c2,rfl⟩ := qt9 hcs
 obtain ⟨xs,n,hn,hx,hl,hlen,hfs⟩ := DataW.trod_struct Tryz.underlying106 h
 match xs,hlen with
 | [y0,y1,y2],_ =>
  have h0 := hfs 0 _ rfl
  have h1 := hfs 1 _ rfl
  have h2 := hfs 2 _ rfl
  simp [qg1,qdu,qbd] at h0 h1 h2
  obtain ⟨v0,e0,_,l0⟩ := DataW.trod_string Tryz.underlying9 h0
  obtain ⟨v1,e1,_,_⟩ := DataW.trod_int Tryz.underlying104 h1
  obtain ⟨v2,e2,_,_⟩ := DataW.trod_int Tryz.underlying3 h2
  simp at e0 e1 e2
  subst e0 e1 e2
  have hN : nRs ⟨v0.data.toList,v1,v2⟩ := qbx v0 l0
  refine ⟨⟨v0.data.toList,v1,v2⟩,fun i hi => ?_⟩
  have hi2 : i = 0 ∨ i = 1 ∨ i = 2 := by omega
  rcases hi2 with rfl | rfl | rfl
  ·exact ⟨_,rfl,S_eq v0,hN⟩
  ·exact ⟨_,rfl,rfl,hN⟩
  ·exact ⟨_,rfl,rfl,hN⟩
theorem qv7 {H : Type} {enc : TypeId × Value → H} {w : World} {spare : Nat → Bool} {held : Bool} (fuel : Nat) (cs : List Value) (y : DataW H × List MemPlace) (hcs : cs.length = 3) (h : DataW.trod enc Tryz.prog w 0 spare held fuel 109 cs = some y) : ∃ x : Ev, ∀ i,i < 3 → ∃ u,cs[i]? = some u ∧ andP (evP) nEv x i u := by
 obtain ⟨c0,c1,c2,rfl⟩ := qt9 hcs
 obtain ⟨xs,n,hn,hx,hl,hlen,hfs⟩ := DataW.trod_struct Tryz.underlying109 h
 match xs,hlen with
 | [y0,y1,y2],_ =>
  have h0 := hfs 0 _ rfl
  have h1 := hfs 1 _ rfl
  have h2 := hfs 2 _ rfl
  simp [qke,qbd,qgi] at h0 h1 h2
  obtain ⟨v0,e0,_,l0⟩ := DataW.trod_string Tryz.underlying9 h0
  obtain ⟨v1z,e1,_,b1⟩ := DataW.trod_int Tryz.underlying53 h1
  obtain ⟨v1,rfl⟩ := Int.eq_ofNat_of_zero_le (bounds_u32 b1).1
  obtain ⟨v2,e2,_⟩ := DataW.trod_bool Tryz.underlying4 h2
  simp at e0 e1 e2
  subst e0 e1 e2
  have hbd : v1 < 4294967296 := by have := (bounds_u32 b1).2; omega
  have hN : nEv ⟨v0.data.toList,v1,v2⟩ := ⟨qbx v0 l0,hbd⟩
  refine ⟨⟨v0.data.toList,v1,v2⟩,fun i hi => ?_⟩
  have hi2 : i = 0 ∨ i = 1 ∨ i = 2 := by omega
  rcases hi2 with rfl | rfl | rfl
  ·exact ⟨_,rfl,S_eq v0,hN⟩
  ·exact ⟨_,rfl,rfl,hN⟩
  ·exact ⟨_,rfl,rfl,hN⟩
theorem qv8 {H : Type} {enc : TypeId × Value → H} {w : World} {spare : Nat → Bool} {held : Bool} (fuel : Nat) (cs : List Value) (y : DataW H × List MemPlace) (hcs : cs.length = 4) (h : DataW.trod enc Tryz.prog w 0 spare held fuel 111 cs = some y) : ∃ x : Ct, ∀ i,i < 4 → ∃ u,cs[i]? = some u ∧ andP (ctP) nCt x i u := by
 obtain ⟨c0,c1,c2,c3,rfl⟩ := qvz hcs
 obtain ⟨xs,n,hn,hx,hl,hlen,hfs⟩ := DataW.trod_struct Tryz.underlying111 h
 match xs,hlen with
 | [y0,y1,y2,y3],_ =>
  have h0 := hfs 0 _ rfl
  have h1 := hfs 1 _ rfl
  have h2 := hfs 2 _ rfl
  have h3 := hfs 3 _ rfl
  simp [qbd,qgi] at h0 h1 h2 h3
  obtain ⟨v0,e0,_,l0⟩ := DataW.trod_string Tryz.underlying9 h0
  obtain ⟨v1z,e1,_,b1⟩ := DataW.trod_int Tryz.underlying53 h1
  obtain ⟨v1,rfl⟩ := Int.eq_ofNat_of_zero_le (bounds_u32 b1).1
  obtain ⟨v2z,e2,_,b2⟩ := DataW.trod_int Tryz.underlying53 h2
  obtain ⟨v2,rfl⟩ := Int.eq_ofNat_of_zero_le (bounds_u32 b2).1
  obtain ⟨v3z,e3,_,b3⟩ := DataW.trod_int Tryz.underlying53 h3
  obtain ⟨v3,rfl⟩ := Int.eq_ofNat_of_zero_le (bounds_u32 b3).1
  simp at e0 e1 e2 e3
  subst e0 e1 e2 e3
  have hN : nCt ⟨v0.data.toList,v1,v2,v3⟩ := qbx v0 l0
  refine ⟨⟨v0.data.toList,v1,v2,v3⟩,fun i hi => ?_⟩
  have hi2 : i = 0 ∨ i = 1 ∨ i = 2 ∨ i = 3 := by omega
  rcases hi2 with rfl | rfl | rfl | rfl
  ·exact ⟨_,rfl,S_eq v0,hN⟩
  ·exact ⟨_,rfl,rfl,hN⟩
  ·exact ⟨_,rfl,rfl,hN⟩
  ·exact ⟨_,rfl,rfl,hN⟩
theorem qv9 {H : Type} {enc : TypeId × Value → H} {w : World} {spare : Nat → Bool} {held : Bool} (fuel : Nat) (cs : List Value) (y : DataW H × List MemPlace) (hcs : cs.length = 8) (h : DataW.trod enc Tryz.prog w 0 spare held fuel 58 cs = some y) : ∃ x : Tk, ∀ i,i < 8 → ∃ u,cs[i]? = some u ∧ andP (tkP w) nTk x i u := by
 obtain ⟨c0,c1,c2,c3,c4,c5,c6,c7,rfl⟩ := qw1 hcs
 obtain ⟨xs,n,hn,hx,hl,hlen,hfs⟩ := DataW.trod_struct Tryz.underlying58 h
 match xs,hlen with
 | [y0,y1,y2,y3,y4,y5,y6,y7],_ =>
  have h0 := hfs 0 _ rfl
  have h1 := hfs 1 _ rfl
  have h2 := hfs 2 _ rfl
  have h3 := hfs 3 _ rfl
  have h4 := hfs 4 _ rfl
  have h5 := hfs 5 _ rfl
  have h6 := hfs 6 _ rfl
  have h7 := hfs 7 _ rfl
  simp [qkf,qke,qdu,qbd] at h0 h1 h2 h3 h4 h5 h6 h7
  obtain ⟨v0,e0,_,l0⟩ := DataW.trod_string Tryz.underlying9 h0
  obtain ⟨v1,e1,_,_⟩ := DataW.trod_int Tryz.underlying3 h1
  obtain ⟨v2,e2,_⟩ := DataW.trod_bool Tryz.underlying4 h2
  obtain ⟨v3,e3,_,_⟩ := DataW.trod_int Tryz.underlying3 h3
  obtain ⟨v4,w4⟩ := qc6 h4
  obtain ⟨v5,w5⟩ := qc6 h5
  obtain ⟨v6,w6⟩ := qc6 h6
  obtain ⟨v7,w7⟩ := qc6 h7
  simp at e0 e1 e2 e3
  subst e0 e1 e2 e3
  have hN : nTk ⟨v0.data.toList,v1,v2,v3,v4,v5,v6,v7⟩ := qbx v0 l0
  refine ⟨⟨v0.data.toList,v1,v2,v3,v4,v5,v6,v7⟩,fun i hi => ?_⟩
  have hi2 : i = 0 ∨ i = 1 ∨ i = 2 ∨ i = 3 ∨ i = 4 ∨ i = 5 ∨ i = 6 ∨ i = 7 := by omega
  rcases hi2 with rfl | rfl | rfl | rfl | rfl | rfl | rfl | rfl
  ·exact ⟨_,rfl,S_eq v0,hN⟩
  ·exact ⟨_,rfl,rfl,hN⟩
  ·exact ⟨_,rfl,rfl,hN⟩
  ·exact ⟨_,rfl,rfl,hN⟩
  ·exact ⟨_,rfl,w4,hN⟩
  ·exact ⟨_,rfl,w5,hN⟩
  ·exact ⟨_,rfl,w6,hN⟩
  ·exact ⟨_,rfl,w7,hN⟩
theorem qva {H : Type} {enc : TypeId × Value → H} {w : World} {spare : Nat → Bool} {held : Bool} (fuel : Nat) (cs : List Value) (y : DataW H × List MemPlace) (hcs : cs.length = 5) (h : DataW.trod enc Tryz.prog w 0 spare held fuel 88 cs = some y) : ∃ x : Is, ∀ i,i < 5 → ∃ u,cs[i]? = some u ∧ andP (isP w) nIs x i u := by
 obtain ⟨c0,c1,c2,c3,c4,rfl⟩ := qw0 hcs
 obtain ⟨xs,n,hn,hx,hl,hlen,hfs⟩ := DataW.trod_struct Tryz.underlying88 h
 match xs,hlen with
 | [y0,y1,y2,y3,y4],_ =>
  have h0 := hfs 0 _ rfl
  have h1 := hfs 1 _ rfl
  have h2 := hfs 2 _ rfl
  have h3 := hfs 3 _ rfl
  have h4 := hfs 4 _ rfl
  simp [qkf,qdu,qbd] at h0 h1 h2 h3 h4
  obtain ⟨v0,e0,_,l0⟩ := DataW.trod_string Tryz.underlying9 h0
  obtain ⟨v1,e1,_,_⟩ := DataW.trod_int Tryz.underlying3 h1
  obtain ⟨v2,e2,_,_⟩ := DataW.trod_int Tryz.underlying3 h2
  obtain ⟨v3,w3⟩ := qc6 h3
  obtain ⟨v4,w4⟩ := qc6 h4
  simp at e0 e1 e2
  subst e0 e1 e2
  have hN : nIs ⟨v0.data.toList,v1,v2,v3,v4⟩ := qbx v0 l0
  refine ⟨⟨v0.data.toList,v1,v2,v3,v4⟩,fun i hi => ?_⟩
  have hi2 : i = 0 ∨ i = 1 ∨ i = 2 ∨ i = 3 ∨ i = 4 := by omega
  rcases hi2 with rfl | rfl | rfl | rfl | rfl
  ·exact ⟨_,rfl,S_eq v0,hN⟩
  ·exact ⟨_,rfl,rfl,hN⟩
  ·exact ⟨_,rfl,rfl,hN⟩
  ·exact ⟨_,rfl,w3,hN⟩
  ·exact ⟨_,rfl,w4,hN⟩
theorem qvb {H : Type} {enc : TypeId × Value → H} {w : World} {spare : Nat → Bool} {held : Bool} (fuel : Nat) (cs : List Value) (y : DataW H × List MemPlace) (hcs : cs.length = 9) (h : DataW.trod enc Tryz.prog w 0 spare held fuel 66 cs = some y) : ∃ x : Al, ∀ i,i < 9 → ∃ u,cs[i]? = some u ∧ andP (alP w) nAl x i u := by
 obtain ⟨c0,c1,c2,c3,c4,c5,c6,c7,c8,rfl⟩ := qw2 hcs
 obtain ⟨xs,n,hn,hx,hl,hlen,hfs⟩ := DataW.trod_struct Tryz.underlying66 h
 match xs,hlen with
 | [y0,y1,y2,y3,y4,y5],_ =>
  have h0 := hfs 0 _ rfl
  have h1 := hfs 1 _ rfl
  have h2 := hfs 2 _ rfl
  have h3 := hfs 3 _ rfl
  have h4 := hfs 4 _ rfl
  have h5 := hfs 5 _ rfl
  simp [qkf,qg7,qdu,qbd,qgi] at h0 h1 h2 h3 h4 h5
  obtain ⟨v0,e0,_,l0⟩ := DataW.trod_string Tryz.underlying9 h0
  obtain ⟨v1,e1,_,_⟩ := DataW.trod_int Tryz.underlying3 h1
  obtain ⟨ys,m,_,_,_,ylen,yfs⟩ := DataW.trod_struct Tryz.underlying64 h2
  match ys,ylen with
  | [z0,z1,z2,z3],_ =>
   have g0 := yfs 0 _ rfl
   have g1 := yfs 1 _ rfl
   have g2 := yfs 2 _ rfl
   have g3 := yfs 3 _ rfl
   simp [qdv,qdu,qbd] at g0 g1 g2 g3
   obtain ⟨akind,eg0,_,_⟩ := DataW.trod_int Tryz.underlying62 g0
   obtain ⟨atask,eg1,_,_⟩ := DataW.trod_int Tryz.underlying3 g1
   obtain ⟨aevent,eg2,_,_⟩ := DataW.trod_int Tryz.underlying3 g2
   obtain ⟨aname,eg3,_,lg3⟩ := DataW.trod_string Tryz.underlying9 g3
   obtain ⟨v3,w3⟩ := qc6 h3
   obtain ⟨v4z,e4,_,b4⟩ := DataW.trod_int Tryz.underlying53 h4
   obtain ⟨v4,rfl⟩ := Int.eq_ofNat_of_zero_le (bounds_u32 b4).1
   obtain ⟨v5z,e5,_,b5⟩ := DataW.trod_int Tryz.underlying53 h5
   obtain ⟨v5,rfl⟩ := Int.eq_ofNat_of_zero_le (bounds_u32 b5).1
   simp at e0 e1 eg0 eg1 eg2 eg3 e4 e5
   subst e0 e1 eg0 eg1 eg2 eg3 e4 e5
   have hN : nAl ⟨v0.data.toList,v1,⟨akind,atask,aevent,aname.data.toList⟩,v3,v4,v5⟩ := ⟨qbx v0 l0,qbx aname lg3⟩
   refine ⟨⟨v0.data.toList,v1,⟨akind,atask,aevent,aname.data.toList⟩,v3,v4,v5⟩,fun i hi => ?_⟩
   have hi2 : i = 0 ∨ i = 1 ∨ i = 2 ∨ i = 3 ∨ i = 4 ∨ i = 5 ∨ i = 6 ∨ i = 7 ∨ i = 8 := by omega
   rcases hi2 with rfl | rfl | rfl | rfl | rfl | rfl | rfl | rfl | rfl
   ·exact ⟨_,rfl,S_eq v0,hN⟩
   ·exact ⟨_,rfl,rfl,hN⟩
   ·exact ⟨_,rfl,rfl,hN⟩
   ·exact ⟨_,rfl,rfl,hN⟩
   ·exact ⟨_,rfl,rfl,hN⟩
   ·exact ⟨_,rfl,S_eq aname,hN⟩
   ·exact ⟨_,rfl,w3,hN⟩
   ·exact ⟨_,rfl,rfl,hN⟩
   ·exact ⟨_,rfl,rfl,hN⟩
theorem qvc {H : Type} {enc : TypeId × Value → H} {w : World} {spare : Nat → Bool} {held : Bool} (fuel : Nat) (cs : List Value) (y : DataW H × List MemPlace) (hcs : cs.length = 10) (h : DataW.trod enc Tryz.prog w 0 spare held fuel 114 cs = some y) : ∃ x : Ms, ∀ i,i < 10 → ∃ u,cs[i]? = some u ∧ andP (msP) nMs x i u := by
 obtain ⟨c0,c1,c2,c3,c4,c5,c6,c7,c8,c9,rfl⟩ := qv4 hcs
 obtain ⟨xs,n,hn,hx,hl,hlen,hfs⟩ := DataW.trod_struct Tryz.underlying114 h
 match xs,hlen with
 | [y0,y1,y2,y3,y4,y5,y6],_ =>
  have h0 := hfs 0 _ rfl
  have h1 := hfs 1 _ rfl
  have h2 := hfs 2 _ rfl
  have h3 := hfs 3 _ rfl
  have h4 := hfs 4 _ rfl
  have h5 := hfs 5 _ rfl
  have h6 := hfs 6 _ rfl
  simp [qg7,qgj,qdu,qbd,qrm] at h0 h1 h2 h3 h4 h5 h6
  obtain ⟨v0,e0,_,l0⟩ := DataW.trod_string Tryz.underlying9 h0
  obtain ⟨v1,e1,_,_⟩ := DataW.trod_int Tryz.underlying96 h1
  obtain ⟨v2,e2,_,_⟩ := DataW.trod_int Tryz.underlying3 h2
  obtain ⟨v3,e3,_,_⟩ := DataW.trod_int Tryz.underlying3 h3
  obtain ⟨v4z,e4,_,b4⟩ := DataW.trod_int Tryz.underlying97 h4
  obtain ⟨v4,rfl⟩ := Int.eq_ofNat_of_zero_le (bounds_u64 b4).1
  obtain ⟨v5,e5,_,_⟩ := DataW.trod_int Tryz.underlying3 h5
  obtain ⟨ys,m,_,_,_,ylen,yfs⟩ := DataW.trod_struct Tryz.underlying64 h6
  match ys,ylen with
  | [z0,z1,z2,z3],_ =>
   have g0 := yfs 0 _ rfl
   have g1 := yfs 1 _ rfl
   have g2 := yfs 2 _ rfl
   have g3 := yfs 3 _ rfl
   simp [qdv,qdu,qbd] at g0 g1 g2 g3
   obtain ⟨akind,eg0,_,_⟩ := DataW.trod_int Tryz.underlying62 g0
   obtain ⟨atask,eg1,_,_⟩ := DataW.trod_int Tryz.underlying3 g1
   obtain ⟨aevent,eg2,_,_⟩ := DataW.trod_int Tryz.underlying3 g2
   obtain ⟨aname,eg3,_,lg3⟩ := DataW.trod_string Tryz.underlying9 g3
   simp at e0 e1 e2 e3 e4 e5 eg0 eg1 eg2 eg3
   subst e0 e1 e2 e3 e4 e5 eg0 eg1 eg2 eg3
   have hN : nMs ⟨v0.data.toList,v1,v2,v3,v4,v5,⟨akind,atask,aevent,aname.data.toList⟩⟩ := ⟨qbx v0 l0,qbx aname lg3⟩
   refine ⟨⟨v0.data.toList,v1,v2,v3,v4,v5,⟨akind,atask,aevent,aname.data.toList⟩⟩,fun i hi => ?_⟩
   have hi2 : i = 0 ∨ i = 1 ∨ i = 2 ∨ i = 3 ∨ i = 4 ∨ i = 5 ∨ i = 6 ∨ i = 7 ∨ i = 8 ∨ i = 9 := by omega
   rcases hi2 with rfl | rfl | rfl | rfl | rfl | rfl | rfl | rfl | rfl | rfl
   ·exact ⟨_,rfl,S_eq v0,hN⟩
   ·exact ⟨_,rfl,rfl,hN⟩
   ·exact ⟨_,rfl,rfl,hN⟩
   ·exact ⟨_,rfl,rfl,hN⟩
   ·exact ⟨_,rfl,rfl,hN⟩
   ·exact ⟨_,rfl,rfl,hN⟩
   ·exact ⟨_,rfl,rfl,hN⟩
   ·exact ⟨_,rfl,rfl,hN⟩
   ·exact ⟨_,rfl,rfl,hN⟩
   ·exact ⟨_,rfl,S_eq aname,hN⟩
theorem qkg {H : Type} {enc : TypeId × Value → H} {w : World} {spare : Nat → Bool} {held : Bool} {r : Reach} {b0 : Nat} {v : Value} {d : DataW H} {p : List MemPlace}
  (hv : Value.okWide Tryz.prog w r b0 47 v) (h : DataW.Trod enc Tryz.prog w 0 spare held 47 v d p) (hd : qef (d.weights Tryz.prog 47)) :
  ∃ (c : Cf) (vv : Vs),v = .agg (cfC c vv) ∧ CfAt w c vv ∧ LensOK c ∧ (∀ x ∈ c.evs,x.mask < 4294967296) ∧ NamesOK c := by
 obtain ⟨cs,rfl,hsz⟩ := okWide_struct Tryz.underlying47 hv
 rw [p_Cf] at hsz
 obtain ⟨c0,c1,c2,c3,c4,c5,c6,c7,c8,c9,c10,c11,c12,c13,c14,c15,c16,c17,rfl⟩ := qts hsz
 obtain ⟨fuel,hf⟩ := h
 obtain ⟨xs,n,hn,hx,hl,hlen,hfs⟩ := DataW.trod_struct Tryz.underlying47 hf
 match xs,hlen with
 | [y0,y1,y2,y3,y4,y5,y6,y7,y8,y9],_ =>
  have h0 := hfs 0 _ rfl
  have h1 := hfs 1 _ rfl
  have h2 := hfs 2 _ rfl
  have h3 := hfs 3 _ rfl
  have h4 := hfs 4 _ rfl
  have h5 := hfs 5 _ rfl
  have h6 := hfs 6 _ rfl
  have h7 := hfs 7 _ rfl
  have h8 := hfs 8 _ rfl
  have h9 := hfs 9 _ rfl
  simp [qbd,qtq,qp7,qng,qi4,qm6,qj3,qm7,qp8,qj4,Value.cells] at h0 h1 h2 h3 h4 h5 h6 h7 h8 h9
  have hd2 : d = .agg [y0.1,y1.1,y2.1,y3.1,y4.1,y5.1,y6.1,y7.1,y8.1,y9.1] := congrArg Prod.fst hx
  rw [hd2] at hd
  obtain ⟨cpu,e0,_,lcpu⟩ := DataW.trod_string Tryz.underlying9 h0
  obtain ⟨ys,m,_,_,_,ylen,yfs⟩ := DataW.trod_struct Tryz.underlying37 h1
  match ys,ylen with
  | [z0,z1,z2,z3,z4,z5,z6,z7,z8],_ =>
   have g0 := yfs 0 _ rfl
   have g1 := yfs 1 _ rfl
   have g2 := yfs 2 _ rfl
   have g3 := yfs 3 _ rfl
   have g4 := yfs 4 _ rfl
   have g5 := yfs 5 _ rfl
   have g6 := yfs 6 _ rfl
   have g7 := yfs 7 _ rfl
   have g8 := yfs 8 _ rfl
   simp [qbd,qke] at g0 g1 g2 g3 g4 g5 g6 g7 g8
   obtain ⟨osn,k0,_,losn⟩ := DataW.trod_string Tryz.underlying9 g0
   obtain ⟨o1,k1,_⟩ := DataW.trod_bool Tryz.underlying4 g1
   obtain ⟨o2,k2,_⟩ := DataW.trod_bool Tryz.underlying4 g2
   obtain ⟨o3,k3,_⟩ := DataW.trod_bool Tryz.underlying4 g3
   obtain ⟨o4,k4,_⟩ := DataW.trod_bool Tryz.underlying4 g4
   obtain ⟨o5,k5,_⟩ := DataW.trod_bool Tryz.underlying4 g5
   obtain ⟨o6,k6,_⟩ := DataW.trod_bool Tryz.underlying4 g6
   obtain ⟨o7,k7,_⟩ := DataW.trod_bool Tryz.underlying4 g7
   obtain ⟨o8,k8,_⟩ := DataW.trod_bool Tryz.underlying4 g8
   simp at e0 k0 k1 k2 k3 k4 k5 k6 k7 k8
   subst e0 k0 k1 k2 k3 k4 k5 k6 k7 k8
   obtain ⟨sm,lm,rfl,rm,_⟩ := qbm ⟨[]⟩ (by omega) Tryz.underlying38 qbd h2 qtt
   obtain ⟨st,lt,rfl,rt,wt⟩ := qbm ⟨(⟨[],0,false,0, [], [], [], []⟩ : Tk)⟩ (by omega) Tryz.underlying39 q_t h3 qv9
   have ut := wt (qbp Tryz.underlying47 hd (j := 3) rfl rfl)
   rw [b_t] at ut
   unfold reachBytes at ut
   obtain ⟨sr,lr,rfl,rr,wr⟩ := qbm ⟨(⟨[],0,0⟩ : Rs)⟩ (by omega) Tryz.underlying40 q_r h4 qv6
   have ur := wr (qbp Tryz.underlying47 hd (j := 4) rfl rfl)
   rw [b_r] at ur
   unfold reachBytes at ur
   obtain ⟨se,le,rfl,re,we⟩ := qbm ⟨(⟨[],0,false⟩ : Ev)⟩ (by omega) Tryz.underlying41 q_e h5 qv7
   have ue := we (qbp Tryz.underlying47 hd (j := 5) rfl rfl)
   rw [b_e] at ue
   unfold reachBytes at ue
   obtain ⟨sk,lk,rfl,rk,wk⟩ := qbm ⟨(⟨[],0,0,0⟩ : Ct)⟩ (by omega) Tryz.underlying42 q_k h6 qv8
   have uk := wk (qbp Tryz.underlying47 hd (j := 6) rfl rfl)
   rw [b_k] at uk
   unfold reachBytes at uk
   obtain ⟨sa,la,rfl,ra,wa⟩ := qbm ⟨(⟨[],0,⟨0,0,0, []⟩, [],0,0⟩ : Al)⟩ (by omega) Tryz.underlying43 q_a h7 qvb
   have ua := wa (qbp Tryz.underlying47 hd (j := 7) rfl rfl)
   rw [b_a] at ua
   unfold reachBytes at ua
   obtain ⟨si,li,rfl,ri,wi⟩ := qbm ⟨(⟨[],0,0, [], []⟩ : Is)⟩ (by omega) Tryz.underlying44 q_i h8 qva
   have ui := wi (qbp Tryz.underlying47 hd (j := 8) rfl rfl)
   rw [b_i] at ui
   unfold reachBytes at ui
   obtain ⟨ss,ls,rfl,rs,ws⟩ := qbm ⟨(⟨[],0,0,0,0,0,⟨0,0,0, []⟩⟩ : Ms)⟩ (by omega) Tryz.underlying45 q_s h9 qvc
   have us := ws (qbp Tryz.underlying47 hd (j := 9) rfl rfl)
   rw [b_s] at us
   unfold reachBytes at us
   refine ⟨⟨cpu.data.toList,osn.data.toList,o1,o2,o3,o4,o5,o6,o7,o8,lm,lt,lr,le,lk,la,li,ls⟩,⟨sm,st,sr,se,sk,sa,si,ss⟩, ?_,⟨qc7 rm,qc7 rt,qc7 rr,qc7 re,qc7 rk,qc7 ra,qc7 ri,qc7 rs⟩,⟨by show lt.length ≤ _; omega,by show lr.length ≤ _; omega,by show le.length ≤ _; omega,by show lk.length ≤ _; omega,by show la.length ≤ _; omega,by show li.length ≤ _; omega,by show ls.length ≤ _; omega⟩,fun x hx => (qcz (by omega) re x hx).2,⟨qbx cpu lcpu,qbx osn losn,qcz (by omega) rm,qcz (by omega) rt,qcz (by omega) rr,fun x hx => (qcz (by omega) re x hx).1,qcz (by omega) rk,qcz (by omega) ra,qcz (by omega) ri,qcz (by omega) rs⟩⟩
   simp [cfC]
end Go.Proofs.YtmidaeljeoifdaaGreatDoor
namespace Go.Proofs.YtmidaeljeoifdaaGreatDoor
open Go.RowKit
set_option linter.unusedSimpArgs false
set_option linter.unusedVariables false
set_option maxHeartbeats 16000000
set_option maxRecDepth 100000
end Go.Proofs.YtmidaeljeoifdaaGreatDoor
namespace Go.Proofs.YtmidaeljeoifdaaGreatDoor
set_option linter.unusedSimpArgs false
set_option linter.unusedVariables false
set_option maxHeartbeats 16000000
set_option maxRecDepth 100000
theorem qnh {cs : List Ck} {k : Nat} {B : Nat → Bool} (h : qab cs k B = none) : ∀ i,i < cs.length → B (k + i) = true := by
 induction cs generalizing k with
 | nil => intro i hi; exact absurd hi (Nat.not_lt_zero _)
 | cons x r ih =>
  intro i hi
  rw [qab] at h
  split at h
  ·rename_i hb
   cases i with
   | zero => exact hb
   | succ i =>
    have := ih h i (by simpa using hi)
    rwa [show k + (i + 1) = k + 1 + i by omega]
  ·cases h
theorem qni {E : Nat → Option Int} {m j : Nat} (h : qaw E m j = none) : ∀ i,i < m → E (j + i) = none := by
 induction m generalizing j with
 | zero => intro i hi; exact absurd hi (Nat.not_lt_zero _)
 | succ m ih =>
  intro i hi
  rw [qaw] at h
  split at h
  ·cases h
  ·rename_i he
   cases i with
   | zero => exact he
   | succ i =>
    have := ih h i (by omega)
    rwa [show j + (i + 1) = j + 1 + i by omega]
theorem qha {names : List (List UInt8)} {lo hi : Int} {cs : List Ck} {B : Nat → Nat → Bool} (h : qai names lo hi cs B = none) :
  inR names.length lo hi = true ∧ ∀ (j : Nat) (nm : List UInt8),names[j]? = some nm → isNm nm = true ∧ hasS (names.take j) nm = false ∧ ∀ k,k < cs.length → B k j = true := by
 unfold qai at h
 split at h
 ·rename_i hin
  refine ⟨hin,fun j nm hj => ?_⟩
  have hE := qni h j (List.getElem?_eq_some_iff.1 hj).1
  rw [Nat.zero_add] at hE
  unfold objF at hE
  rw [hj] at hE
  simp only at hE
  split at hE
  ·cases hE
  ·rename_i hb
   have h2 : isNm nm = true ∧ hasS (names.take j) nm = false := by
    cases h3 : isNm nm <;> cases h4 : hasS (names.take j) nm <;> simp [h3,h4] at hb ⊢
   exact ⟨h2.1,h2.2,fun k hk => by have := qnh hE k hk; rwa [Nat.zero_add] at this⟩
 ·cases h
theorem qc8 {α : Type} {l : List α} {f : α → List UInt8} {lo hi : Int} {cs : List Ck} {Q : Nat → α → Nat → Bool} (h : qai (l.map f) lo hi cs (byB l Q) = none) :
  inR l.length lo hi = true ∧ ∀ (j : Nat) (x : α),l[j]? = some x → isNm (f x) = true ∧ hasS ((l.map f).take j) (f x) = false ∧ ∀ k,k < cs.length → Q j x k = true := by
 obtain ⟨h1,h2⟩ := qha h
 rw [List.length_map] at h1
 refine ⟨h1,fun j x hj => ?_⟩
 obtain ⟨a,b,d⟩ := h2 j (f x) (by rw [List.getElem?_map,hj]; rfl)
 exact ⟨a,b,fun k hk => by rw [← qbe (B := Q) hj]; exact d k hk⟩
theorem qkh {l : List (List UInt8 × Option (Int × Int))} (h : qbg l = none) : ∀ x ∈ l,x.2 = none := by
 induction l with
 | nil => intro x hx; cases hx
 | cons y r ih =>
  obtain ⟨wd,o⟩ := y
  rw [qbg] at h
  cases o with
  | some p => obtain ⟨a,b⟩ := p; cases h
  | none =>
   intro x hx
   rcases List.mem_cons.1 hx with rfl | hx
   ·rfl
   ·exact ih h x hx
structure May (c : Cf) : Prop where
 m : inR c.modes.length 1 8 = true ∧ ∀ (j : Nat) (nm : List UInt8),c.modes[j]? = some nm → isNm nm = true ∧ hasS (c.modes.take j) nm = false
 r : inR c.ress.length 0 64 = true ∧ ∀ (j : Nat) (x : Rs),c.ress[j]? = some x → isNm x.name = true ∧ hasS ((c.ress.map fun x => x.name).take j) x.name = false ∧ ∀ k,k < 4 → resQ c j x k = true
 e : inR c.evs.length 0 256 = true ∧ ∀ (j : Nat) (x : Ev),c.evs[j]? = some x → isNm x.name = true ∧ hasS ((c.evs.map fun x => x.name).take j) x.name = false ∧ ∀ k,k < 1 → evQ c j x k = true
 t : inR c.tasks.length 1 256 = true ∧ ∀ (j : Nat) (x : Tk),c.tasks[j]? = some x → isNm x.name = true ∧ hasS ((c.tasks.map fun x => x.name).take j) x.name = false ∧ ∀ k,k < 6 → tkQ c j x k = true
 k : inR c.ctrs.length 0 16 = true ∧ ∀ (j : Nat) (x : Ct),c.ctrs[j]? = some x → isNm x.name = true ∧ hasS ((c.ctrs.map fun x => x.name).take j) x.name = false ∧ ∀ k,k < 1 → ctQ c j x k = true
 a : inR c.als.length 0 64 = true ∧ ∀ (j : Nat) (x : Al),c.als[j]? = some x → isNm x.name = true ∧ hasS ((c.als.map fun x => x.name).take j) x.name = false ∧ ∀ k,k < 8 → alQ c j x k = true
 i : inR c.isrs.length 0 32 = true ∧ ∀ (j : Nat) (x : Is),c.isrs[j]? = some x → isNm x.name = true ∧ hasS ((c.isrs.map fun x => x.name).take j) x.name = false ∧ ∀ k,k < 5 → isQ c j x k = true
 s : inR c.msgs.length 0 64 = true ∧ ∀ (j : Nat) (x : Ms),c.msgs[j]? = some x → isNm x.name = true ∧ hasS ((c.msgs.map fun x => x.name).take j) x.name = false ∧ ∀ k,k < 8 → msQ c j x k = true
theorem qki {c : Cf} (h : allF c = none) : May c := by
 have H := qkh h
 unfold tenR at H
 simp only [List.forall_mem_cons] at H
 obtain ⟨h0,h1,h2,h3,h4,h5,h6,h7,h8,h9,_⟩ := H
 have hm := qha h2
 exact ⟨⟨hm.1,fun j nm hj => ⟨(hm.2 j nm hj).1,(hm.2 j nm hj).2.1⟩⟩,qc8 h3,qc8 h4,qc8 h5,qc8 h6,qc8 h7,qc8 h8,qc8 h9⟩
end Go.Proofs.YtmidaeljeoifdaaGreatDoor
namespace Go.Proofs.YtmidaeljeoifdaaGreatDoor
open Go.RowKit Go.Sort
set_option linter.unusedSimpArgs false
set_option linter.unusedVariables false
set_option maxHeartbeats 16000000
set_option maxRecDepth 100000
end Go.Proofs.YtmidaeljeoifdaaGreatDoor
namespace Go.Proofs.YtmidaeljeoifdaaGreatDoor
open Go.RowKit
set_option linter.unusedSimpArgs false
set_option linter.unusedVariables false
set_option maxHeartbeats 16000000
set_option maxRecDepth 100000
def tkS (nm : UInt8) : Tk := ⟨[nm],1,false,1, [], [], [], []⟩
def cfS (ts : List Tk) : Cf := ⟨[99], [111],false,false,false,false,false,false,false,false, [[109]],ts, [], [], [], [], [], []⟩
def vsS (bm : Nat) (t : Sl) : Vs := ⟨⟨some ⟨bm,0,none⟩,1,1⟩,t,noS,noS,noS,noS,noS,noS⟩
def tkC (nm : UInt8) : List Value := [S [nm],I 1, .bool false,I 1, .slice none 0 0, .slice none 0 0, .slice none 0 0, .slice none 0 0]
theorem all1 : allF (cfS [tkS 116]) = none := by rfl
theorem lens (ts : List Tk) (h : ts.length ≤ 2) : LensOK (cfS ts) := ⟨by show ts.length ≤ _; omega,Nat.zero_le _,Nat.zero_le _,Nat.zero_le _,Nat.zero_le _,Nat.zero_le _,Nat.zero_le _⟩
theorem qd6 {α : Type} {w : World} {k : Nat} {P : α → Nat → Value → Prop} : RowsAt w k P noS [] := ⟨rfl,Nat.le_refl _,Nat.zero_le _,fun j x hj => by simp at hj⟩
theorem qw3 {w : World} : IntsV w [] (.slice none 0 0) := ⟨noS,rfl,qd6⟩
theorem qtu {w : World} {nm : UInt8} {i : Nat} (hi : i < 8) {u : Value} (h : (tkC nm)[i]? = some u) : tkP w (tkS nm) i u := by
 have h8 : i = 0 ∨ i = 1 ∨ i = 2 ∨ i = 3 ∨ i = 4 ∨ i = 5 ∨ i = 6 ∨ i = 7 := by omega
 rcases h8 with rfl | rfl | rfl | rfl | rfl | rfl | rfl | rfl <;> (obtain rfl := Option.some.inj h; first | rfl | exact qw3)
theorem qw4 (l : List UInt8) (j : Nat) (x : UInt8) (hj : l[j]? = some x) (i : Nat) (hi : i < 8) : (l.flatMap tkC)[j * 8 + i]? = (tkC x)[i]? := by
 induction l generalizing j with
 | nil => simp at hj
 | cons y r ih =>
  have e1 : (y :: r).flatMap tkC = tkC y ++ r.flatMap tkC := rfl
  have h2 : (tkC y).length = 8 := rfl
  rw [e1]
  cases j with
  | zero =>
   obtain rfl : y = x := by simpa using hj
   rw [List.getElem?_append_left (by omega)]
   simp
  | succ j =>
   rw [List.getElem?_append_right (by omega),h2,show (j + 1) * 8 + i - 8 = j * 8 + i by omega]
   exact ih j (by simpa using hj)
theorem qtv {w : World} {g cap : Nat} {cur : Array Value} (hg : w.heap[g]? = some (.cells cur 58 (0,0))) (l : List UInt8) (hc : l.length ≤ cap) (hm : cap ≤ maxLen) (htk : cur.toList.take (l.length * 8) = l.flatMap tkC) :
  RowsAt w 8 (tkP w) ⟨some ⟨g,0,none⟩,l.length,cap⟩ (l.map tkS) := by
 refine ⟨by simp,hc,hm,fun j x hj => ⟨g,0,rfl,qa1 hg,fun i hi => ?_⟩⟩
 rw [List.getElem?_map] at hj
 obtain ⟨y,hy,rfl⟩ := Option.map_eq_some_iff.1 hj
 have hjl := (List.getElem?_eq_some_iff.1 hy).1
 have hf := qw4 l j y hy i hi
 rw [← htk,List.getElem?_take,if_pos (by omega),Array.getElem?_toList] at hf
 have hl : i < (tkC y).length := hi
 refine ⟨(tkC y)[i], ?_,qtu hi (List.getElem?_eq_getElem hl)⟩
 rw [Nat.zero_add,cell_of_row w g _ _ _ (0,0) hg,hf]
 exact List.getElem?_eq_getElem hl
theorem qrn {w : World} {bm g cap : Nat} {cur : Array Value} (hbm : w.heap[bm]? = some (.cells #[S [109]] 9 (0,0))) (hg : w.heap[g]? = some (.cells cur 58 (0,0))) (l : List UInt8) (hc : l.length ≤ cap) (hm : cap ≤ maxLen) (htk : cur.toList.take (l.length * 8) = l.flatMap tkC) :
  CfAt w (cfS (l.map tkS)) (vsS bm ⟨some ⟨g,0,none⟩,l.length,cap⟩) :=
 ⟨qdl hbm,qtv hg l hc hm htk,qd6,qd6,qd6,qd6,qd6,qd6⟩
theorem qvd {fn : Func} {n : Nat} (hf : fn.results = #[.cell n 47]) (tmps : Array Value) (b : Nat) (w : World) (C : Array Value) (hi18 : (Tryz.prog.info? 47).map (·.size) = some C.size)
  (h2 : tmps[n]? = some (.pointer (some ⟨b,0,none⟩))) (hk : w.heap[b]? = some (.cells C 47 (0,0))) : (results fn tmps).run Tryz.prog w = .ok (.agg C) w := by
 have hr := run_loadVar_row w b 47 47 C (0,0) _ hk Tryz.underlying47 rfl hi18
 simp [results,hf,h2,asAddr,hr]
theorem h3_0 (w : World) (a b c : Obj) : (((w.alloc a).alloc b).alloc c).heap[w.heap.size]? = some a := by
 rw [heap_alloc_old ((w.alloc a).alloc b) c (by simp; omega)]
 exact qar w a b
theorem h3_2 (w : World) (a b c : Obj) : (((w.alloc a).alloc b).alloc c).heap[w.heap.size + 1 + 1]? = some c := by
 have := heap_alloc_new ((w.alloc a).alloc b) c
 rwa [show ((w.alloc a).alloc b).heap.size = w.heap.size + 1 + 1 by simp] at this
theorem qp9 (w : World) (a b c : Obj) : Below w.heap.size w (((w.alloc a).alloc b).alloc c) := by
 have h1 := qa0 w a
 have h2 := h1.trans ((qa0 (w.alloc a) b).mono h1.size)
 exact h2.trans ((qa0 ((w.alloc a).alloc b) c).mono h2.size)
theorem qpa (w : World) : Calls Tryz.prog 31 #[] w fun e w' => ∃ bm g,e = .returned (.agg (cfC (cfS [tkS 116]) (vsS bm ⟨some ⟨g,0,none⟩,1,1⟩))) ∧ Below w.heap.size w w' ∧ w.heap.size ≤ g ∧ w'.heap[bm]? = some (.cells #[S [109]] 9 (0,0)) ∧ w'.heap[g]? = some (.cells (tkC 116).toArray 58 (0,0)) := by
 go_enter Tryz.func31,Tryz.ntmps31
 go_wp2
 refine bodyPost_ret (v := .agg (cfC (cfS [tkS 116]) (vsS (w.heap.size + 1) ⟨some ⟨w.heap.size + 1 + 1,0,none⟩,1,1⟩))) (qvd Tryz.results31 _ w.heap.size _ _ (by kernel_rfl) rfl (h3_0 _ _ _ _)) rfl ?_
 exact ⟨w.heap.size + 1,w.heap.size + 1 + 1,rfl,qp9 _ _ _ _,by omega,qcx _ _ _ _,h3_2 _ _ _ _⟩
end Go.Proofs.YtmidaeljeoifdaaGreatDoor
