import Derived.Test.YtmllocfeflhjoaaKop
import Derived.Test.YtmllocfeflhjoaaXTcn
import Derived.Test.YtmllocfeflhjoaaXQd
import Derived.Test.YtmllocfeflhjoaaXQu
import Derived.Deep.CutBlock
import Derived.Deep.CutRange
namespace Go.Proofs.Ytmllocfeflhjoaa
open Go.RowKit Go.ChangeShapes Go.WideShapes
set_option linter.unusedVariables false

/-! ### Tables that came in, opened -/
def tkrP2 (w : World) (x : TkR) (i : Nat) (u : Value) : Prop := tkrP w x i u ∧ x.mask < 4294967296 ∧ x.auto < 4294967296
def ctrP2 (x : CtR) (i : Nat) (u : Value) : Prop := ctrP x i u ∧ x.max < 4294967296 ∧ x.base < 4294967296 ∧ x.min < 4294967296
def alrP2 (x : AlR) (i : Nat) (u : Value) : Prop := alrP x i u ∧ x.ac.mask < 4294967296 ∧ x.auto < 4294967296 ∧ x.time < 4294967296 ∧ x.cycle < 4294967296
def msrP2 (x : MsR) (i : Nat) (u : Value) : Prop := msrP x i u ∧ x.init < 18446744073709551616 ∧ x.ac.mask < 4294967296
theorem p9_int : Try.prog.cellsOf 3 = 1 := by kernel_rfl
theorem p9_bool : Try.prog.cellsOf 4 = 1 := by kernel_rfl
theorem p9_uint32 : Try.prog.cellsOf 53 = 1 := by kernel_rfl
theorem p9_uint64 : Try.prog.cellsOf 133 = 1 := by kernel_rfl
theorem p9_Lint : Try.prog.cellsOf 47 = 1 := by kernel_rfl
theorem p9_apiActionKind : Try.prog.cellsOf 118 = 1 := by kernel_rfl
theorem p9_apiMessageKind : Try.prog.cellsOf 132 = 1 := by kernel_rfl
theorem p9_apiActionRow : Try.prog.cellsOf 120 = 3 := by kernel_rfl
theorem p9_LapiTaskRow : Try.prog.cellsOf 22 = 1 := by kernel_rfl
theorem p9_LapiRingRow : Try.prog.cellsOf 23 = 1 := by kernel_rfl
theorem p9_LapiResourceRow : Try.prog.cellsOf 24 = 1 := by kernel_rfl
theorem p9_LapiCounterRow : Try.prog.cellsOf 25 = 1 := by kernel_rfl
theorem p9_LapiAlarmRow : Try.prog.cellsOf 26 = 1 := by kernel_rfl
theorem p9_LapiIsrRow : Try.prog.cellsOf 27 = 1 := by kernel_rfl
theorem p9_LapiMessageRow : Try.prog.cellsOf 28 = 1 := by kernel_rfl
theorem list29 {α : Type} {l : List α} (h : l.length = 2) : ∃ c0 c1, l = [c0, c1] := by
  match l, h with
  | [c0, c1], _ => exact ⟨c0, c1, rfl⟩
theorem list79 {α : Type} {l : List α} (h : l.length = 7) : ∃ c0 c1 c2 c3 c4 c5 c6, l = [c0, c1, c2, c3, c4, c5, c6] := by
  match l, h with
  | [c0, c1, c2, c3, c4, c5, c6], _ => exact ⟨c0, c1, c2, c3, c4, c5, c6, rfl⟩
theorem list139 {α : Type} {l : List α} (h : l.length = 13) : ∃ c0 c1 c2 c3 c4 c5 c6 c7 c8 c9 c10 c11 c12, l = [c0, c1, c2, c3, c4, c5, c6, c7, c8, c9, c10, c11, c12] := by
  match l, h with
  | [c0, c1, c2, c3, c4, c5, c6, c7, c8, c9, c10, c11, c12], _ => exact ⟨c0, c1, c2, c3, c4, c5, c6, c7, c8, c9, c10, c11, c12, rfl⟩
set_option maxRecDepth 100000 in
theorem one9_tkr {H : Type} {enc : TypeId × Value → H} {w : World} {spare : Nat → Bool} {held : Bool} (fuel : Nat) (cs : List Value) (y : DataW H × List MemPlace) (hcs : cs.length = 8) (h : DataW.trod enc Try.prog w 0 spare held fuel 55 cs = some y) : ∃ x : TkR, ∀ i, i < 8 → ∃ u, cs[i]? = some u ∧ tkrP2 w x i u := by
  obtain ⟨c0, c1, c2, c3, c4, c5, c6, c7, rfl⟩ := list8 hcs
  obtain ⟨xs, n, hn, hx, hl, hlen, hfs⟩ := DataW.trod_struct Try.underlying55 h
  match xs, hlen with
  | [y0, y1, y2, y3, y4, y5, y6, y7], _ =>
    have h0 := hfs 0 _ rfl
    have h1 := hfs 1 _ rfl
    have h2 := hfs 2 _ rfl
    have h3 := hfs 3 _ rfl
    have h4 := hfs 4 _ rfl
    have h5 := hfs 5 _ rfl
    have h6 := hfs 6 _ rfl
    have h7 := hfs 7 _ rfl
    simp [p9_Lint, p9_bool, p9_int, p9_uint32] at h0 h1 h2 h3 h4 h5 h6 h7
    obtain ⟨vprio, e0, _, _⟩ := DataW.trod_int Try.underlying3 h0
    obtain ⟨vring, e1, _, _⟩ := DataW.trod_int Try.underlying3 h1
    obtain ⟨vfull, e2, _⟩ := DataW.trod_bool Try.underlying4 h2
    obtain ⟨vlimit, e3, _, _⟩ := DataW.trod_int Try.underlying3 h3
    obtain ⟨vmaskz, e4, _, bvmask⟩ := DataW.trod_int Try.underlying53 h4
    obtain ⟨vmask, rfl⟩ := Int.eq_ofNat_of_zero_le (bounds_u32 bvmask).1
    obtain ⟨vinner, e5, _, _⟩ := DataW.trod_int Try.underlying3 h5
    obtain ⟨vown, w6⟩ := ints_open h6
    obtain ⟨vautoz, e7, _, bvauto⟩ := DataW.trod_int Try.underlying53 h7
    obtain ⟨vauto, rfl⟩ := Int.eq_ofNat_of_zero_le (bounds_u32 bvauto).1
    simp at e0 e1 e2 e3 e4 e5 e7
    subst e0 e1 e2 e3 e4 e5 e7
    have kvmask : vmask < 4294967296 := by have := (bounds_u32 bvmask).2; omega
    have kvauto : vauto < 4294967296 := by have := (bounds_u32 bvauto).2; omega
    refine ⟨⟨vprio, vring, vfull, vlimit, vmask, vinner, vown, vauto⟩, fun i hi => ?_⟩
    rcases (by omega : i = 0 ∨ i = 1 ∨ i = 2 ∨ i = 3 ∨ i = 4 ∨ i = 5 ∨ i = 6 ∨ i = 7) with rfl | rfl | rfl | rfl | rfl | rfl | rfl | rfl
    · exact ⟨_, rfl, rfl, kvmask, kvauto⟩
    · exact ⟨_, rfl, rfl, kvmask, kvauto⟩
    · exact ⟨_, rfl, rfl, kvmask, kvauto⟩
    · exact ⟨_, rfl, rfl, kvmask, kvauto⟩
    · exact ⟨_, rfl, rfl, kvmask, kvauto⟩
    · exact ⟨_, rfl, rfl, kvmask, kvauto⟩
    · exact ⟨_, rfl, w6, kvmask, kvauto⟩
    · exact ⟨_, rfl, rfl, kvmask, kvauto⟩
set_option maxRecDepth 100000 in
theorem one9_rgr {H : Type} {enc : TypeId × Value → H} {w : World} {spare : Nat → Bool} {held : Bool} (fuel : Nat) (cs : List Value) (y : DataW H × List MemPlace) (hcs : cs.length = 2) (h : DataW.trod enc Try.prog w 0 spare held fuel 91 cs = some y) : ∃ x : RgR, ∀ i, i < 2 → ∃ u, cs[i]? = some u ∧ rgrP x i u := by
  obtain ⟨c0, c1, rfl⟩ := list29 hcs
  obtain ⟨xs, n, hn, hx, hl, hlen, hfs⟩ := DataW.trod_struct Try.underlying91 h
  match xs, hlen with
  | [y0, y1], _ =>
    have h0 := hfs 0 _ rfl
    have h1 := hfs 1 _ rfl
    simp [p9_int] at h0 h1
    obtain ⟨vprio, e0, _, _⟩ := DataW.trod_int Try.underlying3 h0
    obtain ⟨vcap, e1, _, _⟩ := DataW.trod_int Try.underlying3 h1
    simp at e0 e1
    subst e0 e1
    refine ⟨⟨vprio, vcap⟩, fun i hi => ?_⟩
    rcases (by omega : i = 0 ∨ i = 1) with rfl | rfl
    · exact ⟨_, rfl, rfl⟩
    · exact ⟨_, rfl, rfl⟩
set_option maxRecDepth 100000 in
theorem one9_rsr {H : Type} {enc : TypeId × Value → H} {w : World} {spare : Nat → Bool} {held : Bool} (fuel : Nat) (cs : List Value) (y : DataW H × List MemPlace) (hcs : cs.length = 2) (h : DataW.trod enc Try.prog w 0 spare held fuel 50 cs = some y) : ∃ x : RsR, ∀ i, i < 2 → ∃ u, cs[i]? = some u ∧ rsrP x i u := by
  obtain ⟨c0, c1, rfl⟩ := list29 hcs
  obtain ⟨xs, n, hn, hx, hl, hlen, hfs⟩ := DataW.trod_struct Try.underlying50 h
  match xs, hlen with
  | [y0, y1], _ =>
    have h0 := hfs 0 _ rfl
    have h1 := hfs 1 _ rfl
    simp [p9_bool, p9_int] at h0 h1
    obtain ⟨vinner, e0, _⟩ := DataW.trod_bool Try.underlying4 h0
    obtain ⟨vceil, e1, _, _⟩ := DataW.trod_int Try.underlying3 h1
    simp at e0 e1
    subst e0 e1
    refine ⟨⟨vinner, vceil⟩, fun i hi => ?_⟩
    rcases (by omega : i = 0 ∨ i = 1) with rfl | rfl
    · exact ⟨_, rfl, rfl⟩
    · exact ⟨_, rfl, rfl⟩
set_option maxRecDepth 100000 in
theorem one9_ctr {H : Type} {enc : TypeId × Value → H} {w : World} {spare : Nat → Bool} {held : Bool} (fuel : Nat) (cs : List Value) (y : DataW H × List MemPlace) (hcs : cs.length = 3) (h : DataW.trod enc Try.prog w 0 spare held fuel 114 cs = some y) : ∃ x : CtR, ∀ i, i < 3 → ∃ u, cs[i]? = some u ∧ ctrP2 x i u := by
  obtain ⟨c0, c1, c2, rfl⟩ := list3 hcs
  obtain ⟨xs, n, hn, hx, hl, hlen, hfs⟩ := DataW.trod_struct Try.underlying114 h
  match xs, hlen with
  | [y0, y1, y2], _ =>
    have h0 := hfs 0 _ rfl
    have h1 := hfs 1 _ rfl
    have h2 := hfs 2 _ rfl
    simp [p9_uint32] at h0 h1 h2
    obtain ⟨vmaxz, e0, _, bvmax⟩ := DataW.trod_int Try.underlying53 h0
    obtain ⟨vmax, rfl⟩ := Int.eq_ofNat_of_zero_le (bounds_u32 bvmax).1
    obtain ⟨vbasez, e1, _, bvbase⟩ := DataW.trod_int Try.underlying53 h1
    obtain ⟨vbase, rfl⟩ := Int.eq_ofNat_of_zero_le (bounds_u32 bvbase).1
    obtain ⟨vminz, e2, _, bvmin⟩ := DataW.trod_int Try.underlying53 h2
    obtain ⟨vmin, rfl⟩ := Int.eq_ofNat_of_zero_le (bounds_u32 bvmin).1
    simp at e0 e1 e2
    subst e0 e1 e2
    have kvmax : vmax < 4294967296 := by have := (bounds_u32 bvmax).2; omega
    have kvbase : vbase < 4294967296 := by have := (bounds_u32 bvbase).2; omega
    have kvmin : vmin < 4294967296 := by have := (bounds_u32 bvmin).2; omega
    refine ⟨⟨vmax, vbase, vmin⟩, fun i hi => ?_⟩
    rcases (by omega : i = 0 ∨ i = 1 ∨ i = 2) with rfl | rfl | rfl
    · exact ⟨_, rfl, rfl, kvmax, kvbase, kvmin⟩
    · exact ⟨_, rfl, rfl, kvmax, kvbase, kvmin⟩
    · exact ⟨_, rfl, rfl, kvmax, kvbase, kvmin⟩
set_option maxRecDepth 100000 in
theorem one9_alr {H : Type} {enc : TypeId × Value → H} {w : World} {spare : Nat → Bool} {held : Bool} (fuel : Nat) (cs : List Value) (y : DataW H × List MemPlace) (hcs : cs.length = 7) (h : DataW.trod enc Try.prog w 0 spare held fuel 122 cs = some y) : ∃ x : AlR, ∀ i, i < 7 → ∃ u, cs[i]? = some u ∧ alrP2 x i u := by
  obtain ⟨c0, c1, c2, c3, c4, c5, c6, rfl⟩ := list79 hcs
  obtain ⟨xs, n, hn, hx, hl, hlen, hfs⟩ := DataW.trod_struct Try.underlying122 h
  match xs, hlen with
  | [y0, y1, y2, y3, y4], _ =>
    have h0 := hfs 0 _ rfl
    have h1 := hfs 1 _ rfl
    have h2 := hfs 2 _ rfl
    have h3 := hfs 3 _ rfl
    have h4 := hfs 4 _ rfl
    simp [p9_apiActionRow, p9_int, p9_uint32] at h0 h1 h2 h3 h4
    obtain ⟨vctr, e0, _, _⟩ := DataW.trod_int Try.underlying3 h0
    obtain ⟨ys, m, _, _, _, ylen, yfs⟩ := DataW.trod_struct Try.underlying120 h1
    match ys, ylen with
    | [z0, z1, z2], _ =>
      have g0 := yfs 0 _ rfl
      have g1 := yfs 1 _ rfl
      have g2 := yfs 2 _ rfl
      simp [p9_apiActionKind, p9_int, p9_uint32] at g0 g1 g2
      obtain ⟨akind, eg0, _, _⟩ := DataW.trod_int Try.underlying118 g0
      obtain ⟨atask, eg1, _, _⟩ := DataW.trod_int Try.underlying3 g1
      obtain ⟨amaskz, eg2, _, bamask⟩ := DataW.trod_int Try.underlying53 g2
      obtain ⟨amask, rfl⟩ := Int.eq_ofNat_of_zero_le (bounds_u32 bamask).1
      obtain ⟨vautoz, e2, _, bvauto⟩ := DataW.trod_int Try.underlying53 h2
      obtain ⟨vauto, rfl⟩ := Int.eq_ofNat_of_zero_le (bounds_u32 bvauto).1
      obtain ⟨vtimez, e3, _, bvtime⟩ := DataW.trod_int Try.underlying53 h3
      obtain ⟨vtime, rfl⟩ := Int.eq_ofNat_of_zero_le (bounds_u32 bvtime).1
      obtain ⟨vcyclez, e4, _, bvcycle⟩ := DataW.trod_int Try.underlying53 h4
      obtain ⟨vcycle, rfl⟩ := Int.eq_ofNat_of_zero_le (bounds_u32 bvcycle).1
      simp at e0 eg0 eg1 eg2 e2 e3 e4
      subst e0 eg0 eg1 eg2 e2 e3 e4
      have kamask : amask < 4294967296 := by have := (bounds_u32 bamask).2; omega
      have kvauto : vauto < 4294967296 := by have := (bounds_u32 bvauto).2; omega
      have kvtime : vtime < 4294967296 := by have := (bounds_u32 bvtime).2; omega
      have kvcycle : vcycle < 4294967296 := by have := (bounds_u32 bvcycle).2; omega
      refine ⟨⟨vctr, ⟨akind, atask, amask⟩, vauto, vtime, vcycle⟩, fun i hi => ?_⟩
      rcases (by omega : i = 0 ∨ i = 1 ∨ i = 2 ∨ i = 3 ∨ i = 4 ∨ i = 5 ∨ i = 6) with rfl | rfl | rfl | rfl | rfl | rfl | rfl
      · exact ⟨_, rfl, rfl, kamask, kvauto, kvtime, kvcycle⟩
      · exact ⟨_, rfl, rfl, kamask, kvauto, kvtime, kvcycle⟩
      · exact ⟨_, rfl, rfl, kamask, kvauto, kvtime, kvcycle⟩
      · exact ⟨_, rfl, rfl, kamask, kvauto, kvtime, kvcycle⟩
      · exact ⟨_, rfl, rfl, kamask, kvauto, kvtime, kvcycle⟩
      · exact ⟨_, rfl, rfl, kamask, kvauto, kvtime, kvcycle⟩
      · exact ⟨_, rfl, rfl, kamask, kvauto, kvtime, kvcycle⟩
set_option maxRecDepth 100000 in
theorem one9_isr {H : Type} {enc : TypeId × Value → H} {w : World} {spare : Nat → Bool} {held : Bool} (fuel : Nat) (cs : List Value) (y : DataW H × List MemPlace) (hcs : cs.length = 3) (h : DataW.trod enc Try.prog w 0 spare held fuel 57 cs = some y) : ∃ x : IsR, ∀ i, i < 3 → ∃ u, cs[i]? = some u ∧ isrP w x i u := by
  obtain ⟨c0, c1, c2, rfl⟩ := list3 hcs
  obtain ⟨xs, n, hn, hx, hl, hlen, hfs⟩ := DataW.trod_struct Try.underlying57 h
  match xs, hlen with
  | [y0, y1, y2], _ =>
    have h0 := hfs 0 _ rfl
    have h1 := hfs 1 _ rfl
    have h2 := hfs 2 _ rfl
    simp [p9_Lint, p9_int] at h0 h1 h2
    obtain ⟨vcat, e0, _, _⟩ := DataW.trod_int Try.underlying3 h0
    obtain ⟨vprio, e1, _, _⟩ := DataW.trod_int Try.underlying3 h1
    obtain ⟨vown, w2⟩ := ints_open h2
    simp at e0 e1
    subst e0 e1
    refine ⟨⟨vcat, vprio, vown⟩, fun i hi => ?_⟩
    rcases (by omega : i = 0 ∨ i = 1 ∨ i = 2) with rfl | rfl | rfl
    · exact ⟨_, rfl, rfl⟩
    · exact ⟨_, rfl, rfl⟩
    · exact ⟨_, rfl, w2⟩
set_option maxRecDepth 100000 in
theorem one9_msr {H : Type} {enc : TypeId × Value → H} {w : World} {spare : Nat → Bool} {held : Bool} (fuel : Nat) (cs : List Value) (y : DataW H × List MemPlace) (hcs : cs.length = 8) (h : DataW.trod enc Try.prog w 0 spare held fuel 135 cs = some y) : ∃ x : MsR, ∀ i, i < 8 → ∃ u, cs[i]? = some u ∧ msrP2 x i u := by
  obtain ⟨c0, c1, c2, c3, c4, c5, c6, c7, rfl⟩ := list8 hcs
  obtain ⟨xs, n, hn, hx, hl, hlen, hfs⟩ := DataW.trod_struct Try.underlying135 h
  match xs, hlen with
  | [y0, y1, y2, y3, y4, y5], _ =>
    have h0 := hfs 0 _ rfl
    have h1 := hfs 1 _ rfl
    have h2 := hfs 2 _ rfl
    have h3 := hfs 3 _ rfl
    have h4 := hfs 4 _ rfl
    have h5 := hfs 5 _ rfl
    simp [p9_apiActionRow, p9_apiMessageKind, p9_int, p9_uint64] at h0 h1 h2 h3 h4 h5
    obtain ⟨vkind, e0, _, _⟩ := DataW.trod_int Try.underlying132 h0
    obtain ⟨vlen, e1, _, _⟩ := DataW.trod_int Try.underlying3 h1
    obtain ⟨vfrm, e2, _, _⟩ := DataW.trod_int Try.underlying3 h2
    obtain ⟨vinitz, e3, _, bvinit⟩ := DataW.trod_int Try.underlying133 h3
    obtain ⟨vinit, rfl⟩ := Int.eq_ofNat_of_zero_le (bounds_u64 bvinit).1
    obtain ⟨vqueue, e4, _, _⟩ := DataW.trod_int Try.underlying3 h4
    obtain ⟨ys, m, _, _, _, ylen, yfs⟩ := DataW.trod_struct Try.underlying120 h5
    match ys, ylen with
    | [z0, z1, z2], _ =>
      have g0 := yfs 0 _ rfl
      have g1 := yfs 1 _ rfl
      have g2 := yfs 2 _ rfl
      simp [p9_apiActionKind, p9_int, p9_uint32] at g0 g1 g2
      obtain ⟨akind, eg0, _, _⟩ := DataW.trod_int Try.underlying118 g0
      obtain ⟨atask, eg1, _, _⟩ := DataW.trod_int Try.underlying3 g1
      obtain ⟨amaskz, eg2, _, bamask⟩ := DataW.trod_int Try.underlying53 g2
      obtain ⟨amask, rfl⟩ := Int.eq_ofNat_of_zero_le (bounds_u32 bamask).1
      simp at e0 e1 e2 e3 e4 eg0 eg1 eg2
      subst e0 e1 e2 e3 e4 eg0 eg1 eg2
      have kvinit : vinit < 18446744073709551616 := by have := (bounds_u64 bvinit).2; omega
      have kamask : amask < 4294967296 := by have := (bounds_u32 bamask).2; omega
      refine ⟨⟨vkind, vlen, vfrm, vinit, vqueue, ⟨akind, atask, amask⟩⟩, fun i hi => ?_⟩
      rcases (by omega : i = 0 ∨ i = 1 ∨ i = 2 ∨ i = 3 ∨ i = 4 ∨ i = 5 ∨ i = 6 ∨ i = 7) with rfl | rfl | rfl | rfl | rfl | rfl | rfl | rfl
      · exact ⟨_, rfl, rfl, kvinit, kamask⟩
      · exact ⟨_, rfl, rfl, kvinit, kamask⟩
      · exact ⟨_, rfl, rfl, kvinit, kamask⟩
      · exact ⟨_, rfl, rfl, kvinit, kamask⟩
      · exact ⟨_, rfl, rfl, kvinit, kamask⟩
      · exact ⟨_, rfl, rfl, kvinit, kamask⟩
      · exact ⟨_, rfl, rfl, kvinit, kamask⟩
      · exact ⟨_, rfl, rfl, kvinit, kamask⟩
theorem q9_t : Try.prog.cellsOf 55 = 8 := by kernel_rfl
theorem q9_g : Try.prog.cellsOf 91 = 2 := by kernel_rfl
theorem q9_r : Try.prog.cellsOf 50 = 2 := by kernel_rfl
theorem q9_k : Try.prog.cellsOf 114 = 3 := by kernel_rfl
theorem q9_a : Try.prog.cellsOf 122 = 7 := by kernel_rfl
theorem q9_i : Try.prog.cellsOf 57 = 3 := by kernel_rfl
theorem q9_s : Try.prog.cellsOf 135 = 8 := by kernel_rfl
theorem p9_Tb : Try.prog.cellsOf 30 = 13 := by kernel_rfl
theorem array13 {α : Type} {l : Array α} (h : l.size = 13) : ∃ c0 c1 c2 c3 c4 c5 c6 c7 c8 c9 c10 c11 c12, l = #[c0, c1, c2, c3, c4, c5, c6, c7, c8, c9, c10, c11, c12] := by
  obtain ⟨l⟩ := l
  obtain ⟨c0, c1, c2, c3, c4, c5, c6, c7, c8, c9, c10, c11, c12, e⟩ := list139 (l := l) (by simpa using h)
  exact ⟨c0, c1, c2, c3, c4, c5, c6, c7, c8, c9, c10, c11, c12, by rw [e]⟩
set_option maxRecDepth 100000 in
theorem tables_open {H : Type} {enc : TypeId × Value → H} {w : World} {spare : Nat → Bool} {held : Bool} {r : Reach} {b0 : Nat} {v : Value} {d : DataW H} {p : List MemPlace}
    (hv : Value.okWide Try.prog w r b0 30 v) (h : DataW.Trod enc Try.prog w 0 spare held 30 v d p) :
    ∃ (tb : Tb) (vv : Ts), v = .agg (tbC tb vv) ∧ TbAt w tb vv ∧ WfT tb := by
  obtain ⟨cs, rfl, hsz⟩ := okWide_struct Try.underlying30 hv
  rw [p9_Tb] at hsz
  obtain ⟨c0, c1, c2, c3, c4, c5, c6, c7, c8, c9, c10, c11, c12, rfl⟩ := array13 hsz
  obtain ⟨fuel, hf⟩ := h
  obtain ⟨xs, n, hn, hx, hl, hlen, hfs⟩ := DataW.trod_struct Try.underlying30 hf
  match xs, hlen with
  | [y0, y1, y2, y3, y4, y5, y6, y7, y8, y9, y10, y11, y12], _ =>
    have h0 := hfs 0 _ rfl
    have h1 := hfs 1 _ rfl
    have h2 := hfs 2 _ rfl
    have h3 := hfs 3 _ rfl
    have h4 := hfs 4 _ rfl
    have h5 := hfs 5 _ rfl
    have h6 := hfs 6 _ rfl
    have h7 := hfs 7 _ rfl
    have h8 := hfs 8 _ rfl
    have h9 := hfs 9 _ rfl
    have h10 := hfs 10 _ rfl
    have h11 := hfs 11 _ rfl
    have h12 := hfs 12 _ rfl
    simp [p9_LapiAlarmRow, p9_LapiCounterRow, p9_LapiIsrRow, p9_LapiMessageRow, p9_LapiResourceRow, p9_LapiRingRow, p9_LapiTaskRow, p9_int, Value.cells] at h0 h1 h2 h3 h4 h5 h6 h7 h8 h9 h10 h11 h12
    obtain ⟨nUses, e0, _, _⟩ := DataW.trod_int Try.underlying3 h0
    obtain ⟨nModes, e1, _, _⟩ := DataW.trod_int Try.underlying3 h1
    obtain ⟨nDepth, e9, _, _⟩ := DataW.trod_int Try.underlying3 h9
    obtain ⟨nFrames, e10, _, _⟩ := DataW.trod_int Try.underlying3 h10
    obtain ⟨nErrors, e11, _, _⟩ := DataW.trod_int Try.underlying3 h11
    obtain ⟨nCalls, e12, _, _⟩ := DataW.trod_int Try.underlying3 h12
    simp at e0 e1 e9 e10 e11 e12
    subst e0 e1 e9 e10 e11 e12
    obtain ⟨st, lt, rfl, rt, _⟩ := rows_open ⟨(⟨0, 0, false, 0, 0, 0, [], 0⟩ : TkR)⟩ (by omega) Try.underlying22 q9_t h2 one9_tkr
    obtain ⟨sg, lg, rfl, rg, _⟩ := rows_open ⟨(⟨0, 0⟩ : RgR)⟩ (by omega) Try.underlying23 q9_g h3 one9_rgr
    obtain ⟨sr, lr, rfl, rr, _⟩ := rows_open ⟨(⟨false, 0⟩ : RsR)⟩ (by omega) Try.underlying24 q9_r h4 one9_rsr
    obtain ⟨sk, lk, rfl, rk, _⟩ := rows_open ⟨(⟨0, 0, 0⟩ : CtR)⟩ (by omega) Try.underlying25 q9_k h5 one9_ctr
    obtain ⟨sa, la, rfl, ra, _⟩ := rows_open ⟨(⟨0, ⟨0, 0, 0⟩, 0, 0, 0⟩ : AlR)⟩ (by omega) Try.underlying26 q9_a h6 one9_alr
    obtain ⟨si, li, rfl, ri, _⟩ := rows_open ⟨(⟨0, 0, []⟩ : IsR)⟩ (by omega) Try.underlying27 q9_i h7 one9_isr
    obtain ⟨ss, ls, rfl, rs, _⟩ := rows_open ⟨(⟨0, 0, 0, 0, 0, ⟨0, 0, 0⟩⟩ : MsR)⟩ (by omega) Try.underlying28 q9_s h8 one9_msr
    refine ⟨⟨nUses, nModes, lt, lg, lr, lk, la, li, ls, nDepth, nFrames, nErrors, nCalls⟩, ⟨st, sg, sr, sk, sa, si, ss⟩, ?_, ⟨rt.below (Below.refl _ _) (fun _ _ _ _ h => h.1), rg, rr, rk.below (Below.refl _ _) (fun _ _ _ _ h => h.1), ra.below (Below.refl _ _) (fun _ _ _ _ h => h.1), ri, rs.below (Below.refl _ _) (fun _ _ _ _ h => h.1)⟩, ⟨fun x hx => ?_, fun x hx => ?_, fun x hx => ?_, fun x hx => ?_⟩⟩
    · simp [tbC]
    · obtain ⟨j, hj⟩ := List.getElem?_of_mem hx
      obtain ⟨_, _, _, _, hr⟩ := rt.row j x hj
      obtain ⟨_, _, hb⟩ := hr 0 (by omega)
      exact hb.2
    · obtain ⟨j, hj⟩ := List.getElem?_of_mem hx
      obtain ⟨_, _, _, _, hr⟩ := rk.row j x hj
      obtain ⟨_, _, hb⟩ := hr 0 (by omega)
      exact hb.2
    · obtain ⟨j, hj⟩ := List.getElem?_of_mem hx
      obtain ⟨_, _, _, _, hr⟩ := ra.row j x hj
      obtain ⟨_, _, hb⟩ := hr 0 (by omega)
      exact hb.2
    · obtain ⟨j, hj⟩ := List.getElem?_of_mem hx
      obtain ⟨_, _, _, _, hr⟩ := rs.row j x hj
      obtain ⟨_, _, hb⟩ := hr 0 (by omega)
      exact hb.2
end Go.Proofs.Ytmllocfeflhjoaa

namespace Go.Proofs.Ytmllocfeflhjoaa
open Go.RowKit Go.ChangeShapes Go.WideShapes
set_option linter.unusedVariables false

/-! ### Calls that came in, opened -/
structure Cl where
  kind : Int
  o : Own
  n : Int
  all : Bool
  g : Gt
def clV (x : Cl) (i : Nat) (u : Value) : Prop := match i with | 0 => u = I x.kind | 1 => u = .bool x.o.isr | 2 => u = I x.o.id | 3 => u = I x.n | 4 => u = .bool x.all | 5 => u = .bool x.g.shut | 6 => u = I x.g.all | _ => u = I x.g.os
def clP (x : Cl) (i : Nat) (u : Value) : Prop := clV x i u ∧ x.o.wf ∧ (Lit.int .i64 x.n).wf = true
theorem p_own : Try.prog.cellsOf 38 = 2 := by kernel_rfl
theorem p_gate : Try.prog.cellsOf 40 = 3 := by kernel_rfl
theorem p_call : Try.prog.cellsOf 42 = 8 := by kernel_rfl
set_option maxRecDepth 100000 in
theorem own_open {H : Type} {enc : TypeId × Value → H} {w : World} {spare : Nat → Bool} {held : Bool} {r : Reach} {b0 : Nat} {v : Value} {d : DataW H} {p : List MemPlace}
    (hv : Value.okWide Try.prog w r b0 38 v) (h : DataW.Trod enc Try.prog w 0 spare held 38 v d p) : ∃ (x : Bool) (i : Int), v = .agg #[.bool x, I i] := by
  obtain ⟨cs, rfl, hsz⟩ := okWide_struct Try.underlying38 hv
  rw [p_own] at hsz
  obtain ⟨l⟩ := cs
  obtain ⟨c0, c1, rfl⟩ := list29 (l := l) (by simpa using hsz)
  obtain ⟨fuel, hf⟩ := h
  obtain ⟨xs, n, hn, hx, hl, hlen, hfs⟩ := DataW.trod_struct Try.underlying38 hf
  match xs, hlen with
  | [y0, y1], _ =>
    have h0 := hfs 0 _ rfl
    have h1 := hfs 1 _ rfl
    simp [p9_bool, p9_int, Value.cells] at h0 h1
    obtain ⟨v0, e0, _⟩ := DataW.trod_bool Try.underlying4 h0
    obtain ⟨v1, e1, _, b1⟩ := DataW.trod_int Try.underlying3 h1
    simp at e0 e1
    subst e0 e1
    exact ⟨v0, v1, rfl⟩
set_option maxRecDepth 100000 in
theorem gate_open {H : Type} {enc : TypeId × Value → H} {w : World} {spare : Nat → Bool} {held : Bool} {r : Reach} {b0 : Nat} {v : Value} {d : DataW H} {p : List MemPlace}
    (hv : Value.okWide Try.prog w r b0 40 v) (h : DataW.Trod enc Try.prog w 0 spare held 40 v d p) : ∃ (x : Bool) (a b : Int), v = .agg #[.bool x, I a, I b] := by
  obtain ⟨cs, rfl, hsz⟩ := okWide_struct Try.underlying40 hv
  rw [p_gate] at hsz
  obtain ⟨l⟩ := cs
  obtain ⟨c0, c1, c2, rfl⟩ := list3 (l := l) (by simpa using hsz)
  obtain ⟨fuel, hf⟩ := h
  obtain ⟨xs, n, hn, hx, hl, hlen, hfs⟩ := DataW.trod_struct Try.underlying40 hf
  match xs, hlen with
  | [y0, y1, y2], _ =>
    have h0 := hfs 0 _ rfl
    have h1 := hfs 1 _ rfl
    have h2 := hfs 2 _ rfl
    simp [p9_bool, p9_int, Value.cells] at h0 h1 h2
    obtain ⟨v0, e0, _⟩ := DataW.trod_bool Try.underlying4 h0
    obtain ⟨v1, e1, _, b1⟩ := DataW.trod_int Try.underlying3 h1
    obtain ⟨v2, e2, _, b2⟩ := DataW.trod_int Try.underlying3 h2
    simp at e0 e1 e2
    subst e0 e1 e2
    exact ⟨v0, v1, v2, rfl⟩
set_option maxRecDepth 100000 in
theorem one_call {H : Type} {enc : TypeId × Value → H} {w : World} {spare : Nat → Bool} {held : Bool} (n : Nat) (cs : List Value) (z : DataW H × List MemPlace) (hl : cs.length = 8) (h : DataW.trod enc Try.prog w 0 spare held n 42 cs = some z) : ∃ x : Cl, ∀ i, i < 8 → ∃ u, cs[i]? = some u ∧ clP x i u := by
  obtain ⟨c0, c1, c2, c3, c4, c5, c6, c7, rfl⟩ := list8 hl
  obtain ⟨xs, n, hn, hx, hl, hlen, hfs⟩ := DataW.trod_struct Try.underlying42 h
  match xs, hlen with
  | [y0, y1, y2, y3, y4], _ =>
    have h0 := hfs 0 _ rfl
    have h1 := hfs 1 _ rfl
    have h2 := hfs 2 _ rfl
    have h3 := hfs 3 _ rfl
    have h4 := hfs 4 _ rfl
    simp [p_own, p_gate, p9_int, p9_bool] at h0 h1 h2 h3 h4
    obtain ⟨v0, e0, _, b0⟩ := DataW.trod_int Try.underlying3 h0
    obtain ⟨v3, e3, _, b3⟩ := DataW.trod_int Try.underlying3 h2
    obtain ⟨v4, e4, _⟩ := DataW.trod_bool Try.underlying4 h3
    obtain ⟨ys, m, _, _, _, ylen, yfs⟩ := DataW.trod_struct Try.underlying38 h1
    obtain ⟨zs, m2, _, _, _, zlen, zfs⟩ := DataW.trod_struct Try.underlying40 h4
    match ys, ylen, zs, zlen with
    | [z0, z1], _, [z2, z3, z4], _ =>
      have g0 := yfs 0 _ rfl
      have g1 := yfs 1 _ rfl
      have g2 := zfs 0 _ rfl
      have g3 := zfs 1 _ rfl
      have g4 := zfs 2 _ rfl
      simp [p9_int, p9_bool] at g0 g1 g2 g3 g4
      obtain ⟨v1, e1, _⟩ := DataW.trod_bool Try.underlying4 g0
      obtain ⟨v2, e2, _, b2⟩ := DataW.trod_int Try.underlying3 g1
      obtain ⟨v5, e5, _⟩ := DataW.trod_bool Try.underlying4 g2
      obtain ⟨v6, e6, _, b6⟩ := DataW.trod_int Try.underlying3 g3
      obtain ⟨v7, e7, _, b7⟩ := DataW.trod_int Try.underlying3 g4
      simp at e0 e1 e2 e3 e4 e5 e6 e7
      subst e0 e1 e2 e3 e4 e5 e6 e7
      refine ⟨⟨v0, ⟨v1, v2⟩, v3, v4, ⟨v5, v6, v7⟩⟩, fun i hi => ?_⟩
      rcases (by omega : i = 0 ∨ i = 1 ∨ i = 2 ∨ i = 3 ∨ i = 4 ∨ i = 5 ∨ i = 6 ∨ i = 7) with rfl | rfl | rfl | rfl | rfl | rfl | rfl | rfl
      · exact ⟨_, rfl, rfl, b2, b3⟩
      · exact ⟨_, rfl, rfl, b2, b3⟩
      · exact ⟨_, rfl, rfl, b2, b3⟩
      · exact ⟨_, rfl, rfl, b2, b3⟩
      · exact ⟨_, rfl, rfl, b2, b3⟩
      · exact ⟨_, rfl, rfl, b2, b3⟩
      · exact ⟨_, rfl, rfl, b2, b3⟩
      · exact ⟨_, rfl, rfl, b2, b3⟩
end Go.Proofs.Ytmllocfeflhjoaa

namespace Go.Proofs.Ytmllocfeflhjoaa
open Go.RowKit Go.Maps Go.Shelf Go.Sort
open Go.Proofs.Ytmllocfeflhjoaa.St (Fx Fz iQ iP iV)
set_option linter.unusedVariables false
set_option linter.unusedSimpArgs false

/-! ### LockOne: what is asked of a lock -/
section
variable {w w' : World} {tb : Tb} {Z : Nat → Prop} {y : Ly} {B : Nat} {s : Ls}
theorem Release_some (h : Lk w tb Z y B s) (o : Own) (ho : o.wf) (r : Int) : Calls Try.prog 6 #[lp B, .agg #[.bool o.isr, I o.id], I r] w fun e w' => (∃ v, e = .returned (I v)) ∧ (∃ s', Lk w' tb Z y B s') ∧ Fz (y.M B) w w' := by
  cases hr : asks tb o r with
  | false => exact (Release_no h o ho r hr).mono (fun e w' k => ⟨⟨_, k.1⟩, ⟨s, h.below k.2⟩, Fz.of_below k.2⟩)
  | true =>
    by_cases hl : (hld s.L o).getLast? = some r
    · obtain ⟨xs, hx⟩ : ∃ xs, hld s.L o = xs ++ [r] := by
        rcases List.eq_nil_or_concat (hld s.L o) with hn | ⟨xs, x, hn⟩
        · rw [hn] at hl; cases hl
        · rw [List.concat_eq_append] at hn
          rw [hn] at hl
          simp at hl
          exact ⟨xs, by rw [hn, hl]⟩
      exact (Release_ok h o ho r hr xs hx).mono (fun e w' k => ⟨⟨_, k.1⟩, ⟨_, k.2.1⟩, k.2.2⟩)
    · exact (Release_bar h o ho r hr hl).mono (fun e w' k => ⟨⟨_, k.1⟩, ⟨s, h.below k.2⟩, Fz.of_below k.2⟩)
theorem Enter_some (h : Lk w tb Z y B s) (i : Int) (hi : (tkO i).wf) : Calls Try.prog 7 #[lp B, I i] w fun e w' => (∃ v, e = .returned (I v)) ∧ (∃ s', Lk w' tb Z y B s') ∧ Fz (y.M B) w w' := by
  cases hob : obs tb (tkO i) with
  | none => exact (Enter_no h i hi hob).mono (fun e w' k => ⟨⟨_, k.1⟩, ⟨s, h.below k.2⟩, Fz.of_below k.2⟩)
  | some b => exact (Enter_ok h i hi b hob).mono (fun e w' k => ⟨⟨_, k.1⟩, ⟨_, k.2.1⟩, k.2.2⟩)
theorem Get_some (h : Lk w tb Z y B s) (o : Own) (ho : o.wf) (r : Int) (hw : (Lit.int .i64 r).wf = true) : Calls Try.prog 9 #[lp B, .agg #[.bool o.isr, I o.id], I r] w fun e w' => ((∃ v, e = .returned (I v) ∧ v ≠ 0 ∧ Lk w' tb Z y B s) ∨ (e = .returned (I 0) ∧ asks tb o r = true ∧ hdr s.L r = none ∧ Lk w' tb Z y B ⟨s.L ++ [(o, r)], s.i, s.g⟩)) ∧ Fz (y.M B) w w' := by
  cases hr : asks tb o r with
  | false => exact (Get_no h o ho r hr).mono (fun e w' k => ⟨.inl ⟨3, k.1, by decide, h.below k.2⟩, Fz.of_below k.2⟩)
  | true =>
    cases hg : gets tb s o r with
    | false => exact (Get_bar h o ho r hw hr hg).mono (fun e w' k => ⟨.inl ⟨1, k.1, by decide, h.below k.2⟩, Fz.of_below k.2⟩)
    | true =>
      have hn : hdr s.L r = none := by
        unfold gets at hg
        simp only [Bool.and_eq_true, Option.isNone_iff_eq_none] at hg
        exact hg.1
      exact (Get_ok h o ho r hw hr hg).mono (fun e w' k => ⟨.inr ⟨k.1, rfl, hn, k.2.1⟩, k.2.2⟩)
/-- Release of what Get took. -/
theorem Back_ok {o : Own} {r : Int} (h : Lk w tb Z y B ⟨s.L ++ [(o, r)], s.i, s.g⟩) (ho : o.wf) (hr : asks tb o r = true) (hn : hdr s.L r = none) : Calls Try.prog 6 #[lp B, .agg #[.bool o.isr, I o.id], I r] w fun e w' => e = .returned (I 0) ∧ Lk w' tb Z y B s ∧ Fz (y.M B) w w' := by
  refine (Release_ok h o ho r hr (hld s.L o) (by show hld (s.L ++ [(o, r)]) o = _; rw [hld_snoc, if_pos rfl])).mono (fun e w' k => ⟨k.1, ?_, k.2.2⟩)
  have := k.2.1
  have e1 : nodR (s.L ++ [(o, r)]) r = s.L := by
    unfold nodR
    rw [List.filter_append]
    have : s.L.filter (fun t => decide (t.2 ≠ r)) = s.L := List.filter_eq_self.2 (fun t ht => by
      simp only [decide_eq_true_eq]
      intro e
      exact hdr_none.1 hn t.1 (by rw [← e]; exact ht))
    rw [this]
    simp
  rw [show (⟨nodR (s.L ++ [(o, r)]) r, s.i, s.g⟩ : Ls) = s by rw [e1]] at this
  exact this
theorem prio_ge {o : Own} {b : Ob} (hob : obs tb o = some b) : b.prio ≤ prioO tb s o ∧ ∀ r ∈ hld s.L o, ceilOf tb r ≤ prioO tb s o := by
  have h := (topC_le tb (hld s.L o) b.prio (topC tb b.prio (hld s.L o))).1 (Int.le_refl _)
  unfold prioO
  rw [hob]
  dsimp only
  split
  · exact ⟨by omega, fun r hr => by have := h.2 r hr; omega⟩
  · exact h
end
/-! ### The owners, one after another -/
def ownK (tb : Tb) (k : Nat) : Own := if k < tb.tasks.length then ⟨false, (k : Int)⟩ else ⟨true, (k : Int) - tb.tasks.length⟩
theorem ownK_inj {tb : Tb} {i k : Nat} (h : ownK tb i = ownK tb k) : i = k := by
  unfold ownK at h
  split at h <;> split at h
  · injection h with _ h; omega
  · injection h with h; cases h
  · injection h with h; cases h
  · injection h with _ h; omega
def seenK (tb : Tb) (L : Tks) (k : Nat) : List Int := (List.range k).flatMap fun i => hld L (ownK tb i)
theorem seen_succ (tb : Tb) (L : Tks) (k : Nat) : seenK tb L (k + 1) = seenK tb L k ++ hld L (ownK tb k) := by
  unfold seenK
  rw [List.range_succ, List.flatMap_append]
  simp
theorem seen_new {tb : Tb} {L : Tks} (hn : (L.map (·.2)).Nodup) {k j : Nat} {r : Int} (hr : (hld L (ownK tb k))[j]? = some r) : r ∉ seenK tb L k ++ (hld L (ownK tb k)).take j := by
  intro hm
  rcases List.mem_append.1 hm with hm | hm
  · unfold seenK at hm
    rw [List.mem_flatMap] at hm
    obtain ⟨i, hi, hm⟩ := hm
    have h1 := hdr_mem hn (mem_hld.1 hm)
    have h2 := hdr_mem hn (mem_hld.1 (List.mem_of_getElem? hr))
    rw [h1] at h2
    injection h2 with h2
    have := ownK_inj h2
    rw [List.mem_range] at hi
    omega
  · obtain ⟨i, hi⟩ := List.getElem?_of_mem hm
    have hlt := (List.getElem?_eq_some_iff.1 hi).1
    rw [List.length_take] at hlt
    rw [List.getElem?_take_of_lt (by omega)] at hi
    have := (List.getElem?_inj (i := i) (j := j) (by omega) (hld_nodup hn (ownK tb k))).1 (hi.trans hr.symm)
    omega
/-- how often it was met -/
def cntK (D : List Int) (i : Nat) : Int := if (i : Int) ∈ D then 1 else 0
theorem ownK_obs {tb : Tb} {k : Nat} (hk : k < tb.tasks.length + tb.isrs.length) : ∃ b, obs tb (ownK tb k) = some b := by
  unfold ownK
  split
  · rename_i h
    exact ⟨_, obs_task (List.getElem?_eq_getElem h)⟩
  · rename_i h
    have h2 : k - tb.tasks.length < tb.isrs.length := by omega
    have := obs_isr (List.getElem?_eq_getElem h2)
    rw [show ((k - tb.tasks.length : Nat) : Int) = (k : Int) - tb.tasks.length by omega] at this
    exact ⟨_, this⟩
end Go.Proofs.Ytmllocfeflhjoaa

namespace Go.Proofs.Ytmllocfeflhjoaa
open Go.RowKit Go.Maps Go.Shelf Go.Sort
open Go.Proofs.Ytmllocfeflhjoaa.St (Fx Fz iQ iP iV)
set_option linter.unusedVariables false
set_option linter.unusedSimpArgs false
set_option maxRecDepth 100000
set_option maxHeartbeats 16000000

/-- A lock, and what came in is as it was. -/
structure One (w1 w : World) (N1 : Nat) (tb : Tb) (Z : Nat → Prop) (y : Ly) (B : Nat) (s : Ls) : Prop where
  l : Lk w tb Z y B s
  b : Below N1 w1 w
  n : N1 ≤ w1.heap.size
  m : ∀ b, y.M B b → N1 ≤ b
  z : ∀ b, Z b → b < w.heap.size
section
variable {w1 w w' : World} {N1 : Nat} {tb : Tb} {Z : Nat → Prop} {y : Ly} {B : Nat} {s s' : Ls}
theorem One.sz (h : One w1 w N1 tb Z y B s) : N1 ≤ w.heap.size := Nat.le_trans h.n h.b.size
theorem One.step (h : One w1 w N1 tb Z y B s) (hl : Lk w' tb Z y B s') (hf : Fz (y.M B) w w') : One w1 w' N1 tb Z y B s' := ⟨hl, h.b.trans (hf.below h.sz h.m), h.n, h.m, fun b hb => Nat.lt_of_lt_of_le (h.z b hb) hf.size⟩
theorem One.below (h : One w1 w N1 tb Z y B s) (hb : Below w.heap.size w w') : One w1 w' N1 tb Z y B s := ⟨h.l.below hb, h.b.trans (hb.mono h.sz), h.n, h.m, fun b hz => Nat.lt_of_lt_of_le (h.z b hz) hb.size⟩
theorem One.kept {N : Nat → Prop} (h : One w1 w N1 tb Z y B s) (hf : Fz N w w') (h1 : ∀ b, N b → N1 ≤ b) (hM : ∀ b, y.M B b → ¬ N b) (hZ : ∀ b, Z b → ¬ N b) : One w1 w' N1 tb Z y B s := ⟨h.l.kept hf hM hZ, h.b.trans (hf.below h.sz h1), h.n, h.m, fun b hz => Nat.lt_of_lt_of_le (h.z b hz) hf.size⟩
theorem call_at {w : World} {sc : Sl} {l : List Cl} (h : RowsAt w 8 clP sc l) {k : Nat} {x : Cl} (hx : l[k]? = some x) : ∃ g off, sc.a = some ⟨g, off, none⟩ ∧ g < w.heap.size ∧ w.cell? ⟨g, off + k * 8, none⟩ = some (I x.kind) ∧ w.cell? ⟨g, off + k * 8 + 1, none⟩ = some (.bool x.o.isr) ∧ w.cell? ⟨g, off + k * 8 + 2, none⟩ = some (I x.o.id) ∧ w.cell? ⟨g, off + k * 8 + 3, none⟩ = some (I x.n) ∧ w.cell? ⟨g, off + k * 8 + 4, none⟩ = some (.bool x.all) ∧ w.cell? ⟨g, off + k * 8 + 5, none⟩ = some (.bool x.g.shut) ∧ w.cell? ⟨g, off + k * 8 + 6, none⟩ = some (I x.g.all) ∧ w.cell? ⟨g, off + k * 8 + 7, none⟩ = some (I x.g.os) ∧ x.o.wf ∧ (Lit.int .i64 x.n).wf = true := by
  obtain ⟨g, off, e, hg, hr⟩ := h.row k x hx
  obtain ⟨u0, a0, b0, b8, b9⟩ := hr 0 (by omega)
  obtain ⟨u1, a1, b1, -⟩ := hr 1 (by omega)
  obtain ⟨u2, a2, b2, -⟩ := hr 2 (by omega)
  obtain ⟨u3, a3, b3, -⟩ := hr 3 (by omega)
  obtain ⟨u4, a4, b4, -⟩ := hr 4 (by omega)
  obtain ⟨u5, a5, b5, -⟩ := hr 5 (by omega)
  obtain ⟨u6, a6, b6, -⟩ := hr 6 (by omega)
  obtain ⟨u7, a7, b7, -⟩ := hr 7 (by omega)
  have c0 : u0 = I x.kind := b0
  have c1 : u1 = .bool x.o.isr := b1
  have c2 : u2 = I x.o.id := b2
  have c3 : u3 = I x.n := b3
  have c4 : u4 = .bool x.all := b4
  have c5 : u5 = .bool x.g.shut := b5
  have c6 : u6 = I x.g.all := b6
  have c7 : u7 = I x.g.os := b7
  subst c0 c1 c2 c3 c4 c5 c6 c7
  exact ⟨g, off, e, hg, a0, a1, a2, a3, a4, a5, a6, a7, b8, b9⟩
abbrev clA (x : Cl) : Array Value := #[I x.kind, .bool x.o.isr, I x.o.id, I x.n, .bool x.all, .bool x.g.shut, I x.g.all, I x.g.os]
/-- The cells of a call's box. -/
theorem call_box {w : World} {Q : Nat} {x : Cl} (h : w.heap[Q]? = some (.cells (clA x) 42)) : w.cell? ⟨Q, 0, none⟩ = some (I x.kind) ∧ w.cell? ⟨Q, 1, none⟩ = some (.bool x.o.isr) ∧ w.cell? ⟨Q, 2, none⟩ = some (I x.o.id) ∧ w.cell? ⟨Q, 3, none⟩ = some (I x.n) ∧ w.cell? ⟨Q, 4, none⟩ = some (.bool x.all) ∧ w.cell? ⟨Q, 5, none⟩ = some (.bool x.g.shut) ∧ w.cell? ⟨Q, 6, none⟩ = some (I x.g.all) ∧ w.cell? ⟨Q, 7, none⟩ = some (I x.g.os) := by
  have a1 := fun i => cell_of_row _ _ i _ _ (0, 0) h
  exact ⟨a1 0, a1 1, a1 2, a1 3, a1 4, a1 5, a1 6, a1 7⟩
end
def rowC (D : List Int) (n : Nat) : List Value := (List.range n).map fun i => I (cntK D i)
theorem rowC_at (D : List Int) {n i : Nat} (h : i < n) : (rowC D n)[i]? = some (I (cntK D i)) := by simp [rowC, h]
theorem rowC_set (D : List Int) {n i : Nat} (h : i < n) (hn : (i : Int) ∉ D) : (rowC D n).set i (I (cntK D i + 1)) = rowC (D ++ [(i : Int)]) n := by
  apply List.ext_getElem?
  intro j
  by_cases hj : j < n
  · rw [rowC_at _ hj]
    by_cases e : i = j
    · subst e
      rw [List.getElem?_set_self (by simp [rowC]; exact hj)]
      simp [cntK, hn]
    · rw [List.getElem?_set_ne e, rowC_at _ hj]
      have : ¬ ((j : Int) = i) := by omega
      simp [cntK, this]
  · rw [List.getElem?_eq_none (by simp [rowC]; omega), List.getElem?_eq_none (by simp [rowC]; omega)]
theorem rowC_zero (n : Nat) : rowC [] n = (madeCells (Value.int .i64 0).cells (n * 1)).toList := by
  apply List.ext_getElem?
  intro j
  by_cases hj : j < n
  · rw [rowC_at _ hj]
    simp [cntK, madeCells, Value.cells, hj]
    first | done | (rw [Nat.mod_one]; rfl) | rfl
  · rw [List.getElem?_eq_none (by simp [rowC]; omega), List.getElem?_eq_none (by simp [madeCells]; omega)]
end Go.Proofs.Ytmllocfeflhjoaa

