import Derived.Test.YtmidaeljeoifdaaGreatDoorKop
import Derived.Test.YtmidaeljeoifdaaGreatDoorKnk
namespace Go.Proofs.YtmidaeljeoifdaaGreatDoor
set_option maxRecDepth 100000
open Go.RowKit Go.ChangeShapes Go.WideShapes
set_option linter.unusedVariables false
def andP {α : Type} (P : α → Nat → Value → Prop) (N : α → Prop) (x : α) (i : Nat) (u : Value) : Prop := P x i u ∧ N x
theorem strlen (s : ByteArray) (h : s.size ≤ maxLen) : s.data.toList.length < 9223372036854775808 := by
 unfold maxLen at h
 have e : s.data.toList.length = s.size := by simp
 omega
theorem of_row {α : Type} {w : World} {k : Nat} (hk : 0 < k) {P : α → Nat → Value → Prop} {N : α → Prop} {s : Sl} {l : List α} (h : RowsAt w k (andP P N) s l) : ∀ x ∈ l, N x := fun x hx => by
 obtain ⟨j, hj⟩ := List.getElem?_of_mem hx
 obtain ⟨_, _, _, _, hr⟩ := h.row j x hj
 obtain ⟨_, _, hb⟩ := hr 0 hk
 exact hb.2
theorem bare_row {α : Type} {w : World} {k : Nat} {P : α → Nat → Value → Prop} {N : α → Prop} {s : Sl} {l : List α} (h : RowsAt w k (andP P N) s l) : RowsAt w k P s l := h.below (Below.refl _ _) (fun _ _ _ _ h => h.1)
theorem nne_str {H : Type} {enc : TypeId × Value → H} {w : World} {spare : Nat → Bool} {held : Bool} (n : Nat) (cs : List Value) (z : DataW H × List MemPlace) (hl : cs.length = 1) (h : DataW.trod enc Tryz.prog w 0 spare held n 9 cs = some z) : ∃ x : List UInt8, ∀ i, i < 1 → ∃ u, cs[i]? = some u ∧ andP strP (fun x => x.length < 9223372036854775808) x i u := by
 obtain ⟨x, rfl, _, l0⟩ := DataW.trod_string Tryz.underlying9 h
 exact ⟨x.data.toList, fun i hi => by obtain rfl : i = 0 := by omega
                    exact ⟨_, rfl, S_eq x, strlen x l0⟩⟩
def nRs (x : Rs) : Prop := x.name.length < 9223372036854775808
def nEv (x : Ev) : Prop := x.name.length < 9223372036854775808 ∧ x.mask < 4294967296
def nCt (x : Ct) : Prop := x.name.length < 9223372036854775808
def nTk (x : Tk) : Prop := x.name.length < 9223372036854775808
def nIs (x : Is) : Prop := x.name.length < 9223372036854775808
def nAl (x : Al) : Prop := x.name.length < 9223372036854775808 ∧ x.ac.name.length < 9223372036854775808
def nMs (x : Ms) : Prop := x.name.length < 9223372036854775808 ∧ x.ac.name.length < 9223372036854775808
theorem nne_rs {H : Type} {enc : TypeId × Value → H} {w : World} {spare : Nat → Bool} {held : Bool} (fuel : Nat) (cs : List Value) (y : DataW H × List MemPlace) (hcs : cs.length = 3) (h : DataW.trod enc Tryz.prog w 0 spare held fuel 106 cs = some y) : ∃ x : Rs, ∀ i, i < 3 → ∃ u, cs[i]? = some u ∧ andP (rsP) nRs x i u := by
 obtain ⟨c0, c1, c2, rfl⟩ := list3 hcs
 obtain ⟨xs, n, hn, hx, hl, hlen, hfs⟩ := DataW.trod_struct Tryz.underlying106 h
 match xs, hlen with
 | [y0, y1, y2], _ =>
  have h0 := hfs 0 _ rfl
  have h1 := hfs 1 _ rfl
  have h2 := hfs 2 _ rfl
  simp [p_apiResourceKind, p_int, p_string] at h0 h1 h2
  obtain ⟨v0, e0, _, l0⟩ := DataW.trod_string Tryz.underlying9 h0
  obtain ⟨v1, e1, _, _⟩ := DataW.trod_int Tryz.underlying104 h1
  obtain ⟨v2, e2, _, _⟩ := DataW.trod_int Tryz.underlying3 h2
  simp at e0 e1 e2
  subst e0 e1 e2
  have hN : nRs ⟨v0.data.toList, v1, v2⟩ := strlen v0 l0
  refine ⟨⟨v0.data.toList, v1, v2⟩, fun i hi => ?_⟩
  have hi2 : i = 0 ∨ i = 1 ∨ i = 2 := by omega
  rcases hi2 with rfl | rfl | rfl
  ·exact ⟨_, rfl, S_eq v0, hN⟩
  ·exact ⟨_, rfl, rfl, hN⟩
  ·exact ⟨_, rfl, rfl, hN⟩
theorem nne_ev {H : Type} {enc : TypeId × Value → H} {w : World} {spare : Nat → Bool} {held : Bool} (fuel : Nat) (cs : List Value) (y : DataW H × List MemPlace) (hcs : cs.length = 3) (h : DataW.trod enc Tryz.prog w 0 spare held fuel 109 cs = some y) : ∃ x : Ev, ∀ i, i < 3 → ∃ u, cs[i]? = some u ∧ andP (evP) nEv x i u := by
 obtain ⟨c0, c1, c2, rfl⟩ := list3 hcs
 obtain ⟨xs, n, hn, hx, hl, hlen, hfs⟩ := DataW.trod_struct Tryz.underlying109 h
 match xs, hlen with
 | [y0, y1, y2], _ =>
  have h0 := hfs 0 _ rfl
  have h1 := hfs 1 _ rfl
  have h2 := hfs 2 _ rfl
  simp [p_bool, p_string, p_uint32] at h0 h1 h2
  obtain ⟨v0, e0, _, l0⟩ := DataW.trod_string Tryz.underlying9 h0
  obtain ⟨v1z, e1, _, b1⟩ := DataW.trod_int Tryz.underlying53 h1
  obtain ⟨v1, rfl⟩ := Int.eq_ofNat_of_zero_le (bounds_u32 b1).1
  obtain ⟨v2, e2, _⟩ := DataW.trod_bool Tryz.underlying4 h2
  simp at e0 e1 e2
  subst e0 e1 e2
  have hbd : v1 < 4294967296 := by have := (bounds_u32 b1).2; omega
  have hN : nEv ⟨v0.data.toList, v1, v2⟩ := ⟨strlen v0 l0, hbd⟩
  refine ⟨⟨v0.data.toList, v1, v2⟩, fun i hi => ?_⟩
  have hi2 : i = 0 ∨ i = 1 ∨ i = 2 := by omega
  rcases hi2 with rfl | rfl | rfl
  ·exact ⟨_, rfl, S_eq v0, hN⟩
  ·exact ⟨_, rfl, rfl, hN⟩
  ·exact ⟨_, rfl, rfl, hN⟩
theorem nne_ct {H : Type} {enc : TypeId × Value → H} {w : World} {spare : Nat → Bool} {held : Bool} (fuel : Nat) (cs : List Value) (y : DataW H × List MemPlace) (hcs : cs.length = 4) (h : DataW.trod enc Tryz.prog w 0 spare held fuel 111 cs = some y) : ∃ x : Ct, ∀ i, i < 4 → ∃ u, cs[i]? = some u ∧ andP (ctP) nCt x i u := by
 obtain ⟨c0, c1, c2, c3, rfl⟩ := list4 hcs
 obtain ⟨xs, n, hn, hx, hl, hlen, hfs⟩ := DataW.trod_struct Tryz.underlying111 h
 match xs, hlen with
 | [y0, y1, y2, y3], _ =>
  have h0 := hfs 0 _ rfl
  have h1 := hfs 1 _ rfl
  have h2 := hfs 2 _ rfl
  have h3 := hfs 3 _ rfl
  simp [p_string, p_uint32] at h0 h1 h2 h3
  obtain ⟨v0, e0, _, l0⟩ := DataW.trod_string Tryz.underlying9 h0
  obtain ⟨v1z, e1, _, b1⟩ := DataW.trod_int Tryz.underlying53 h1
  obtain ⟨v1, rfl⟩ := Int.eq_ofNat_of_zero_le (bounds_u32 b1).1
  obtain ⟨v2z, e2, _, b2⟩ := DataW.trod_int Tryz.underlying53 h2
  obtain ⟨v2, rfl⟩ := Int.eq_ofNat_of_zero_le (bounds_u32 b2).1
  obtain ⟨v3z, e3, _, b3⟩ := DataW.trod_int Tryz.underlying53 h3
  obtain ⟨v3, rfl⟩ := Int.eq_ofNat_of_zero_le (bounds_u32 b3).1
  simp at e0 e1 e2 e3
  subst e0 e1 e2 e3
  have hN : nCt ⟨v0.data.toList, v1, v2, v3⟩ := strlen v0 l0
  refine ⟨⟨v0.data.toList, v1, v2, v3⟩, fun i hi => ?_⟩
  have hi2 : i = 0 ∨ i = 1 ∨ i = 2 ∨ i = 3 := by omega
  rcases hi2 with rfl | rfl | rfl | rfl
  ·exact ⟨_, rfl, S_eq v0, hN⟩
  ·exact ⟨_, rfl, rfl, hN⟩
  ·exact ⟨_, rfl, rfl, hN⟩
  ·exact ⟨_, rfl, rfl, hN⟩
theorem nne_tk {H : Type} {enc : TypeId × Value → H} {w : World} {spare : Nat → Bool} {held : Bool} (fuel : Nat) (cs : List Value) (y : DataW H × List MemPlace) (hcs : cs.length = 8) (h : DataW.trod enc Tryz.prog w 0 spare held fuel 58 cs = some y) : ∃ x : Tk, ∀ i, i < 8 → ∃ u, cs[i]? = some u ∧ andP (tkP w) nTk x i u := by
 obtain ⟨c0, c1, c2, c3, c4, c5, c6, c7, rfl⟩ := list8 hcs
 obtain ⟨xs, n, hn, hx, hl, hlen, hfs⟩ := DataW.trod_struct Tryz.underlying58 h
 match xs, hlen with
 | [y0, y1, y2, y3, y4, y5, y6, y7], _ =>
  have h0 := hfs 0 _ rfl
  have h1 := hfs 1 _ rfl
  have h2 := hfs 2 _ rfl
  have h3 := hfs 3 _ rfl
  have h4 := hfs 4 _ rfl
  have h5 := hfs 5 _ rfl
  have h6 := hfs 6 _ rfl
  have h7 := hfs 7 _ rfl
  simp [p_Lint, p_bool, p_int, p_string] at h0 h1 h2 h3 h4 h5 h6 h7
  obtain ⟨v0, e0, _, l0⟩ := DataW.trod_string Tryz.underlying9 h0
  obtain ⟨v1, e1, _, _⟩ := DataW.trod_int Tryz.underlying3 h1
  obtain ⟨v2, e2, _⟩ := DataW.trod_bool Tryz.underlying4 h2
  obtain ⟨v3, e3, _, _⟩ := DataW.trod_int Tryz.underlying3 h3
  obtain ⟨v4, w4⟩ := ints_open h4
  obtain ⟨v5, w5⟩ := ints_open h5
  obtain ⟨v6, w6⟩ := ints_open h6
  obtain ⟨v7, w7⟩ := ints_open h7
  simp at e0 e1 e2 e3
  subst e0 e1 e2 e3
  have hN : nTk ⟨v0.data.toList, v1, v2, v3, v4, v5, v6, v7⟩ := strlen v0 l0
  refine ⟨⟨v0.data.toList, v1, v2, v3, v4, v5, v6, v7⟩, fun i hi => ?_⟩
  have hi2 : i = 0 ∨ i = 1 ∨ i = 2 ∨ i = 3 ∨ i = 4 ∨ i = 5 ∨ i = 6 ∨ i = 7 := by omega
  rcases hi2 with rfl | rfl | rfl | rfl | rfl | rfl | rfl | rfl
  ·exact ⟨_, rfl, S_eq v0, hN⟩
  ·exact ⟨_, rfl, rfl, hN⟩
  ·exact ⟨_, rfl, rfl, hN⟩
  ·exact ⟨_, rfl, rfl, hN⟩
  ·exact ⟨_, rfl, w4, hN⟩
  ·exact ⟨_, rfl, w5, hN⟩
  ·exact ⟨_, rfl, w6, hN⟩
  ·exact ⟨_, rfl, w7, hN⟩
theorem nne_is {H : Type} {enc : TypeId × Value → H} {w : World} {spare : Nat → Bool} {held : Bool} (fuel : Nat) (cs : List Value) (y : DataW H × List MemPlace) (hcs : cs.length = 5) (h : DataW.trod enc Tryz.prog w 0 spare held fuel 88 cs = some y) : ∃ x : Is, ∀ i, i < 5 → ∃ u, cs[i]? = some u ∧ andP (isP w) nIs x i u := by
 obtain ⟨c0, c1, c2, c3, c4, rfl⟩ := list5 hcs
 obtain ⟨xs, n, hn, hx, hl, hlen, hfs⟩ := DataW.trod_struct Tryz.underlying88 h
 match xs, hlen with
 | [y0, y1, y2, y3, y4], _ =>
  have h0 := hfs 0 _ rfl
  have h1 := hfs 1 _ rfl
  have h2 := hfs 2 _ rfl
  have h3 := hfs 3 _ rfl
  have h4 := hfs 4 _ rfl
  simp [p_Lint, p_int, p_string] at h0 h1 h2 h3 h4
  obtain ⟨v0, e0, _, l0⟩ := DataW.trod_string Tryz.underlying9 h0
  obtain ⟨v1, e1, _, _⟩ := DataW.trod_int Tryz.underlying3 h1
  obtain ⟨v2, e2, _, _⟩ := DataW.trod_int Tryz.underlying3 h2
  obtain ⟨v3, w3⟩ := ints_open h3
  obtain ⟨v4, w4⟩ := ints_open h4
  simp at e0 e1 e2
  subst e0 e1 e2
  have hN : nIs ⟨v0.data.toList, v1, v2, v3, v4⟩ := strlen v0 l0
  refine ⟨⟨v0.data.toList, v1, v2, v3, v4⟩, fun i hi => ?_⟩
  have hi2 : i = 0 ∨ i = 1 ∨ i = 2 ∨ i = 3 ∨ i = 4 := by omega
  rcases hi2 with rfl | rfl | rfl | rfl | rfl
  ·exact ⟨_, rfl, S_eq v0, hN⟩
  ·exact ⟨_, rfl, rfl, hN⟩
  ·exact ⟨_, rfl, rfl, hN⟩
  ·exact ⟨_, rfl, w3, hN⟩
  ·exact ⟨_, rfl, w4, hN⟩
theorem nne_al {H : Type} {enc : TypeId × Value → H} {w : World} {spare : Nat → Bool} {held : Bool} (fuel : Nat) (cs : List Value) (y : DataW H × List MemPlace) (hcs : cs.length = 9) (h : DataW.trod enc Tryz.prog w 0 spare held fuel 66 cs = some y) : ∃ x : Al, ∀ i, i < 9 → ∃ u, cs[i]? = some u ∧ andP (alP w) nAl x i u := by
 obtain ⟨c0, c1, c2, c3, c4, c5, c6, c7, c8, rfl⟩ := list9 hcs
 obtain ⟨xs, n, hn, hx, hl, hlen, hfs⟩ := DataW.trod_struct Tryz.underlying66 h
 match xs, hlen with
 | [y0, y1, y2, y3, y4, y5], _ =>
  have h0 := hfs 0 _ rfl
  have h1 := hfs 1 _ rfl
  have h2 := hfs 2 _ rfl
  have h3 := hfs 3 _ rfl
  have h4 := hfs 4 _ rfl
  have h5 := hfs 5 _ rfl
  simp [p_Lint, p_apiAction, p_int, p_string, p_uint32] at h0 h1 h2 h3 h4 h5
  obtain ⟨v0, e0, _, l0⟩ := DataW.trod_string Tryz.underlying9 h0
  obtain ⟨v1, e1, _, _⟩ := DataW.trod_int Tryz.underlying3 h1
  obtain ⟨ys, m, _, _, _, ylen, yfs⟩ := DataW.trod_struct Tryz.underlying64 h2
  match ys, ylen with
  | [z0, z1, z2, z3], _ =>
   have g0 := yfs 0 _ rfl
   have g1 := yfs 1 _ rfl
   have g2 := yfs 2 _ rfl
   have g3 := yfs 3 _ rfl
   simp [p_apiActionKind, p_int, p_string] at g0 g1 g2 g3
   obtain ⟨akind, eg0, _, _⟩ := DataW.trod_int Tryz.underlying62 g0
   obtain ⟨atask, eg1, _, _⟩ := DataW.trod_int Tryz.underlying3 g1
   obtain ⟨aevent, eg2, _, _⟩ := DataW.trod_int Tryz.underlying3 g2
   obtain ⟨aname, eg3, _, lg3⟩ := DataW.trod_string Tryz.underlying9 g3
   obtain ⟨v3, w3⟩ := ints_open h3
   obtain ⟨v4z, e4, _, b4⟩ := DataW.trod_int Tryz.underlying53 h4
   obtain ⟨v4, rfl⟩ := Int.eq_ofNat_of_zero_le (bounds_u32 b4).1
   obtain ⟨v5z, e5, _, b5⟩ := DataW.trod_int Tryz.underlying53 h5
   obtain ⟨v5, rfl⟩ := Int.eq_ofNat_of_zero_le (bounds_u32 b5).1
   simp at e0 e1 eg0 eg1 eg2 eg3 e4 e5
   subst e0 e1 eg0 eg1 eg2 eg3 e4 e5
   have hN : nAl ⟨v0.data.toList, v1, ⟨akind, atask, aevent, aname.data.toList⟩, v3, v4, v5⟩ := ⟨strlen v0 l0, strlen aname lg3⟩
   refine ⟨⟨v0.data.toList, v1, ⟨akind, atask, aevent, aname.data.toList⟩, v3, v4, v5⟩, fun i hi => ?_⟩
   have hi2 : i = 0 ∨ i = 1 ∨ i = 2 ∨ i = 3 ∨ i = 4 ∨ i = 5 ∨ i = 6 ∨ i = 7 ∨ i = 8 := by omega
   rcases hi2 with rfl | rfl | rfl | rfl | rfl | rfl | rfl | rfl | rfl
   ·exact ⟨_, rfl, S_eq v0, hN⟩
   ·exact ⟨_, rfl, rfl, hN⟩
   ·exact ⟨_, rfl, rfl, hN⟩
   ·exact ⟨_, rfl, rfl, hN⟩
   ·exact ⟨_, rfl, rfl, hN⟩
   ·exact ⟨_, rfl, S_eq aname, hN⟩
   ·exact ⟨_, rfl, w3, hN⟩
   ·exact ⟨_, rfl, rfl, hN⟩
   ·exact ⟨_, rfl, rfl, hN⟩
theorem nne_ms {H : Type} {enc : TypeId × Value → H} {w : World} {spare : Nat → Bool} {held : Bool} (fuel : Nat) (cs : List Value) (y : DataW H × List MemPlace) (hcs : cs.length = 10) (h : DataW.trod enc Tryz.prog w 0 spare held fuel 114 cs = some y) : ∃ x : Ms, ∀ i, i < 10 → ∃ u, cs[i]? = some u ∧ andP (msP) nMs x i u := by
 obtain ⟨c0, c1, c2, c3, c4, c5, c6, c7, c8, c9, rfl⟩ := list10 hcs
 obtain ⟨xs, n, hn, hx, hl, hlen, hfs⟩ := DataW.trod_struct Tryz.underlying114 h
 match xs, hlen with
 | [y0, y1, y2, y3, y4, y5, y6], _ =>
  have h0 := hfs 0 _ rfl
  have h1 := hfs 1 _ rfl
  have h2 := hfs 2 _ rfl
  have h3 := hfs 3 _ rfl
  have h4 := hfs 4 _ rfl
  have h5 := hfs 5 _ rfl
  have h6 := hfs 6 _ rfl
  simp [p_apiAction, p_apiMessageKind, p_int, p_string, p_uint64] at h0 h1 h2 h3 h4 h5 h6
  obtain ⟨v0, e0, _, l0⟩ := DataW.trod_string Tryz.underlying9 h0
  obtain ⟨v1, e1, _, _⟩ := DataW.trod_int Tryz.underlying96 h1
  obtain ⟨v2, e2, _, _⟩ := DataW.trod_int Tryz.underlying3 h2
  obtain ⟨v3, e3, _, _⟩ := DataW.trod_int Tryz.underlying3 h3
  obtain ⟨v4z, e4, _, b4⟩ := DataW.trod_int Tryz.underlying97 h4
  obtain ⟨v4, rfl⟩ := Int.eq_ofNat_of_zero_le (bounds_u64 b4).1
  obtain ⟨v5, e5, _, _⟩ := DataW.trod_int Tryz.underlying3 h5
  obtain ⟨ys, m, _, _, _, ylen, yfs⟩ := DataW.trod_struct Tryz.underlying64 h6
  match ys, ylen with
  | [z0, z1, z2, z3], _ =>
   have g0 := yfs 0 _ rfl
   have g1 := yfs 1 _ rfl
   have g2 := yfs 2 _ rfl
   have g3 := yfs 3 _ rfl
   simp [p_apiActionKind, p_int, p_string] at g0 g1 g2 g3
   obtain ⟨akind, eg0, _, _⟩ := DataW.trod_int Tryz.underlying62 g0
   obtain ⟨atask, eg1, _, _⟩ := DataW.trod_int Tryz.underlying3 g1
   obtain ⟨aevent, eg2, _, _⟩ := DataW.trod_int Tryz.underlying3 g2
   obtain ⟨aname, eg3, _, lg3⟩ := DataW.trod_string Tryz.underlying9 g3
   simp at e0 e1 e2 e3 e4 e5 eg0 eg1 eg2 eg3
   subst e0 e1 e2 e3 e4 e5 eg0 eg1 eg2 eg3
   have hN : nMs ⟨v0.data.toList, v1, v2, v3, v4, v5, ⟨akind, atask, aevent, aname.data.toList⟩⟩ := ⟨strlen v0 l0, strlen aname lg3⟩
   refine ⟨⟨v0.data.toList, v1, v2, v3, v4, v5, ⟨akind, atask, aevent, aname.data.toList⟩⟩, fun i hi => ?_⟩
   have hi2 : i = 0 ∨ i = 1 ∨ i = 2 ∨ i = 3 ∨ i = 4 ∨ i = 5 ∨ i = 6 ∨ i = 7 ∨ i = 8 ∨ i = 9 := by omega
   rcases hi2 with rfl | rfl | rfl | rfl | rfl | rfl | rfl | rfl | rfl | rfl
   ·exact ⟨_, rfl, S_eq v0, hN⟩
   ·exact ⟨_, rfl, rfl, hN⟩
   ·exact ⟨_, rfl, rfl, hN⟩
   ·exact ⟨_, rfl, rfl, hN⟩
   ·exact ⟨_, rfl, rfl, hN⟩
   ·exact ⟨_, rfl, rfl, hN⟩
   ·exact ⟨_, rfl, rfl, hN⟩
   ·exact ⟨_, rfl, rfl, hN⟩
   ·exact ⟨_, rfl, rfl, hN⟩
   ·exact ⟨_, rfl, S_eq aname, hN⟩
end Go.Proofs.YtmidaeljeoifdaaGreatDoor
