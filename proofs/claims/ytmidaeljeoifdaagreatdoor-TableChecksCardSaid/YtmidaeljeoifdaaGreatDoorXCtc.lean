import Derived.Test.YtmidaeljeoifdaaGreatDoorXThl
import Derived.Test.YtmidaeljeoifdaaGreatDoorRows
import Derived.Test.YtmidaeljeoifdaaGreatDoorXKvg
import Derived.ProofKit
import Derived.OpenShut
import Derived.LaidMore
import Derived.LaidSub
import Derived.Lay
import Derived.LaidHandle
import Derived.LaidLaws
import Derived.Stop.Joined
import Derived.SizedLaws
import Derived.HandedShaped
import Derived.Handed
import Derived.ChangeSame
import Derived.Test.YtmidaeljeoifdaaGreatDoorXTcp
import Derived.Test.YtmidaeljeoifdaaGreatDoorTie
import Derived.Test.YtmidaeljeoifdaaGreatDoorCards
import Derived.ChangeOld
import Derived.SevenTiedAt
namespace Go.Proofs.YtmidaeljeoifdaaGreatDoor
open Go.RowKit Go.Shelf Go.Sort Go.Maps
set_option linter.unusedVariables false
set_option linter.unusedSimpArgs false
set_option maxHeartbeats 8000000
set_option maxRecDepth 100000

/-! ### TableChecks -/
theorem checks9_any (tb : Tb) (v : Ts) (w : World) (h : TbAt w tb v) (hw : WfT tb) (hE : EnvE w) : Calls Tryz.prog 3 #[.agg (tbC tb v)] w fun e w' => e = .returned (.bool true) ∧ Below w.heap.size w w' := by
  have hb := below_alloc w (.cells (tbC tb v) 30)
  have hV := heap_alloc_new w (.cells (tbC tb v) 30)
  have hi30 : (Tryz.prog.info? 30).map (·.size) = some (tbC tb v).size := by kernel_rfl
  obtain ⟨Z, hZ⟩ : ∃ Z : Int, Z = if chkP tb then 0 else 90 := ⟨_, rfl⟩
  have hZ2 : zOf (chkD tb) = Z := by rw [hZ, ← chk_same (fun x hx => (hw.s x hx).1)]; rfl
  have c1 : ∀ d os, Calls Tryz.prog 8 #[.agg (tbC tb v)] (grow (redrawn (w.alloc (.cells (tbC tb v) 30)) d) os) fun e w'' => e = .returned (I Z) ∧ ∃ p : Regrown, w'' = grow (redrawn (w.alloc (.cells (tbC tb v) 30)) p.d) p.os := fun d os => Calls.regrown_of (by rw [hZ]; exact check_any tb v _ ((h.below hb).below (below_regrown _ d os)) hw)
  have c2 : ∀ d os, Calls Tryz.prog 9 #[.agg (tbC tb v)] (grow (redrawn (w.alloc (.cells (tbC tb v) 30)) d) os) fun e w'' => e = .returned (I Z) ∧ ∃ p : Regrown, w'' = grow (redrawn (w.alloc (.cells (tbC tb v) 30)) p.d) p.os := fun d os => Calls.regrown_of (by rw [← hZ2]; exact docCheck_any9 tb v _ ((h.below hb).below (below_regrown _ d os)))
  have c3 : ∀ d os, Calls Tryz.prog 10 #[] (grow (redrawn (w.alloc (.cells (tbC tb v) 30)) d) os) fun e w'' => e = .returned (.bool true) ∧ ∃ p : Regrown, w'' = grow (redrawn (w.alloc (.cells (tbC tb v) 30)) p.d) p.os := fun d os => Calls.regrown_of (heads9_any _ ((hE.below hb).below (below_regrown _ d os)))
  have HB : Hid _ := hb
  have hV9 := heap_regrown9 hV
  clear hb h hw hE hZ hZ2
  generalize tbC tb v = C at *
  go_enter Tryz.func3, Tryz.ntmps3
  go_upto_region 1 with fail
  generalize w.alloc (.cells C 30) = W0 at *
  refine wp_region_quiet_below (by kernel_rfl) (by kernel_rfl) ?_
  repeat (first | (go_big_quiet_step (first | exact c1 _ _ | exact c2 _ _ | exact c3 _ _)) | (refine wpQuiet_load_row9 (by kernel_rfl) 30 _ rfl w.heap.size rfl 30 _ (0, 0) _ hV9 Tryz.underlying30 rfl hi30 ?_; simp only [Act.put, List.getElem_toArray, List.getElem_cons_succ, List.getElem_cons_zero, List.setIfInBounds_toArray, List.set_cons_zero, List.set_cons_succ]))
  refine wpQuiet_nil ?_
  rintro _ ⟨⟨dq, osq⟩, rfl⟩
  dsimp only
  have HB9 : Hid (Below w.heap.size w (grow (redrawn W0 dq) osq)) := HB.out.trans ((below_regrown W0 dq osq).mono HB.out.size)
  clear c1 c2 c3 hV9 hV
  generalize grow (redrawn W0 dq) osq = w9 at *
  go_wp2
  go_ret
  exact ⟨rfl, HB9.out⟩
end Go.Proofs.YtmidaeljeoifdaaGreatDoor

namespace Go.Proofs.YtmidaeljeoifdaaGreatDoor
open Go.RowKit Go.ChangeShapes Go.WideShapes
set_option linter.unusedVariables false

abbrev laidT : List (String × DataW Unit) := Rows.tableChecksRow.laid
theorem et_one : ((List.range Tryz.prog.types.size).filter fun t => Tryz.prog.rowNamed t [101, 114, 114, 111, 114]) = [149] := by kernel_rfl
theorem et_of {W : World} (h : laidMetH Tryz.prog laidT W) : W.cell? ⟨0, 0, none⟩ = some (.iface 265 (.agg #[.pointer (some ⟨1, 149, none⟩)])) := by
  have h1 := h.filter (fun x => x.1 == "errors.errorType")
  have e : (laidT.filter fun x => x.1 == "errors.errorType") = [("errors.errorType", Rows.laid_errors_errorType)] := by rfl
  rw [e] at h1
  have h' : laidMet Tryz.prog [] W ∧ handlesMet Tryz.prog [("errors.errorType", Rows.laid_errors_errorType)] W := h1
  obtain ⟨name, u, ty, e1, e2, e3, e4, e5⟩ := h'.2 _ (List.mem_singleton.2 rfl)
  have en : name = [101, 114, 114, 111, 114] := (Option.some.inj e1).symm
  subst en
  obtain rfl := Option.some.inj ((show (Tryz.prog.cutTypes.find? (·.1 == "internal/reflectlite.rtype")).map (·.2) = some 265 by kernel_rfl).symm.trans e2)
  have hm : ty ∈ (List.range Tryz.prog.types.size).filter fun t => Tryz.prog.rowNamed t [101, 114, 114, 111, 114] := List.mem_filter.2 ⟨List.mem_range.2 e3, e4⟩
  rw [et_one] at hm
  obtain rfl := List.mem_singleton.1 hm
  have hh : typeHandle Tryz.prog 149 = .pointer (some ⟨1, 149, none⟩) := by kernel_rfl
  rw [hh] at e5
  simpa using World.var?_cell (show Tryz.prog.globalNamed "errors.errorType" = some 0 by kernel_rfl) e5 0
theorem own : ownKnob Tryz.prog.godebug = none := by kernel_rfl
/-- A world in which errors.errorType is laid. -/
noncomputable def witH (os : Os) : World :=
  let w0 := World.holding Tryz.prog os ⟨#[], #[], []⟩
  { w0 with heap := w0.heap.modify 0 fun
      | .cells _ t frozen => .cells #[.iface 265 (.agg #[.pointer (some ⟨1, 149, none⟩)])] t frozen
      | o => o }
abbrev laidP : List (String × DataW Unit) := laidT.filter fun x => x.2.handleName?.isNone
/-- .. and all the others. -/
noncomputable def witW (os : Os) : World := (witH os).layVars Tryz.prog laidP
theorem witW_os (os : Os) : (witW os).os = os := World.layVars_os _ _ _
set_option maxRecDepth 100000 in
theorem wit_plain (os : Os) : laidMet Tryz.prog laidP (witW os) := by
  have e1 : (laidP.filter fun x => (laidP.map (·.1)).contains x.1) = laidP := List.filter_eq_self.2 fun x hx => List.contains_iff_mem.2 (List.mem_map.2 ⟨x, hx, rfl⟩)
  have e2 : (laidP.filter fun x => !(laidP.map (·.1)).contains x.1) = [] := List.filter_eq_nil_iff.2 fun x hx => by rw [List.contains_iff_mem.2 (List.mem_map.2 ⟨x, hx, rfl⟩)]; simp
  exact laidMet_layVars (w0 := witH os) (laidP.map (·.1)) [] (by rw [e1]; rfl) (by rw [e1]; kernel_rfl) (by rw [e1]; kernel_rfl) (by rw [e2]; exact LaidIn.none)
theorem wit_h (os : Os) : laidMetH Tryz.prog laidT (witW os) := laidMetH_of_parts (wit_plain os) (by kernel_rfl)
theorem wit_met (os : Os) (args : Array Value) : laidMetH Tryz.prog laidT ((witW os).forCall (fun _ _ => 0) ⟨#[], args, []⟩).memory :=
  (wit_h os).of_heap (by simp [World.memory, World.forCall, Input.heap])
theorem wit_shaped (os : Os) (args : Array Value) : ((witW os).forCall (fun _ _ => 0) ⟨#[], args, []⟩).Shaped Tryz.checked.prog := World.shaped_of_ZipB (by kernel_rfl) (by kernel_rfl)
/-- A row's claim out of a contract that leans on what lies in the variables and on the world's shape. -/
theorem lift_laid {H : Type} {enc : TypeId × Value → H} {C : Checked} {os : Os} {f : FuncId} {fn : Func} {s : ChangeSpec} {X : World → Prop} (hX : ∀ w w' : World, w.heap = w'.heap → X w → X w')
    (hown : ownKnob C.prog.godebug = none) (started : os.Started) (hi : C.prog.inits.idxOf? f = none) (hf : C.prog.funcs[f]? = some fn)
    (wit : ∃ (w : World) (tape : Tape) (i : Input), w.os = os ∧ (w.forCall tape i).Shaped C.prog ∧ i.vars = [] ∧ Input.okWide C.prog (w.forCall tape i) .any w.heap.size f i ∧
      ((s.pre enc C.prog fn [] false (w.forCall tape i).memory i.args ∧ X (w.forCall tape i).memory) ∧ sizedMet enc C.prog fn (OpenSpec.ofChange s) false (w.forCall tape i).memory i.args) ∧ ({} : Assume).holds C.prog (lone (Frame.enter C.prog f i.args .normal) [] (w.forCall tape i)))
    (con : ∀ (W : World) (base : Nat) (args : Array Value) (ds gs : List (DataW H)) (before : List MemPlace),
      (∀ (j : Nat) t v, fn.params[j]? = some t → args[j]? = some v → Value.okWide C.prog W .any base t v) →
      DataW.Whole enc C.prog fn.params.toList s.vars false W args.toList ds gs before →
      (DataW.weightsEach C.prog (fn.params.toList ++ s.plain.varTypes C.prog) (ds ++ gs)).all (· ≤ reachBytes) = true → X W → W.ShapedOpen C.prog →
      Calls C.prog f args W fun e W' => ∃ v, e = .returned v ∧ s.post enc C.prog fn false true false false W args v W') :
    ReturnsInHanded {} C os f .any (fun w args => (s.pre enc C.prog fn [] false w args ∧ X w) ∧ sizedMet enc C.prog fn (OpenSpec.ofChange s) false w args) (s.post enc C.prog fn false true false false) := by
  refine returnsInHanded_of_calls hown started hi wit ?_
  intro w tape i _ shape _ ok pre _
  obtain ⟨⟨⟨ds, gs, before, whole, _⟩, laid⟩, size⟩ := pre
  obtain ⟨_, _, _, fn1, h1, _, _, _, _, vals⟩ := ok
  cases Option.some.inj (h1.symm.trans hf)
  refine (con (w.forCall tape i) w.heap.size i.args ds gs before vals (DataW.Whole.of_heap (w' := w.forCall tape i) (by rfl) whole) (size.weights whole) (hX _ _ (by rfl) laid) shape).mono ?_
  rintro e W1 ⟨v, rfl, post⟩
  exact ChangeSpec.post_blind post
end Go.Proofs.YtmidaeljeoifdaaGreatDoor

namespace Go.Proofs.YtmidaeljeoifdaaGreatDoor
open Go.RowKit Go.ChangeShapes Go.WideShapes
set_option linter.unusedVariables false

/-! ### Tables that came in, opened -/
def tkrP2 (w : World) (x : TkR) (i : Nat) (u : Value) : Prop := tkrP w x i u ∧ x.mask < 4294967296 ∧ x.auto < 4294967296
def ctrP2 (x : CtR) (i : Nat) (u : Value) : Prop := ctrP x i u ∧ x.max < 4294967296 ∧ x.base < 4294967296 ∧ x.min < 4294967296
def alrP2 (x : AlR) (i : Nat) (u : Value) : Prop := alrP x i u ∧ x.ac.mask < 4294967296 ∧ x.auto < 4294967296 ∧ x.time < 4294967296 ∧ x.cycle < 4294967296
def msrP2 (x : MsR) (i : Nat) (u : Value) : Prop := msrP x i u ∧ x.init < 18446744073709551616 ∧ x.ac.mask < 4294967296
theorem p9_int : Tryz.prog.cellsOf 3 = 1 := by kernel_rfl
theorem p9_bool : Tryz.prog.cellsOf 4 = 1 := by kernel_rfl
theorem p9_uint32 : Tryz.prog.cellsOf 53 = 1 := by kernel_rfl
theorem p9_uint64 : Tryz.prog.cellsOf 97 = 1 := by kernel_rfl
theorem p9_Lint : Tryz.prog.cellsOf 54 = 1 := by kernel_rfl
theorem p9_apiActionKind : Tryz.prog.cellsOf 62 = 1 := by kernel_rfl
theorem p9_apiMessageKind : Tryz.prog.cellsOf 96 = 1 := by kernel_rfl
theorem p9_apiActionRow : Tryz.prog.cellsOf 93 = 3 := by kernel_rfl
theorem p9_LapiTaskRow : Tryz.prog.cellsOf 22 = 1 := by kernel_rfl
theorem p9_LapiRingRow : Tryz.prog.cellsOf 23 = 1 := by kernel_rfl
theorem p9_LapiResourceRow : Tryz.prog.cellsOf 24 = 1 := by kernel_rfl
theorem p9_LapiCounterRow : Tryz.prog.cellsOf 25 = 1 := by kernel_rfl
theorem p9_LapiAlarmRow : Tryz.prog.cellsOf 26 = 1 := by kernel_rfl
theorem p9_LapiIsrRow : Tryz.prog.cellsOf 27 = 1 := by kernel_rfl
theorem p9_LapiMessageRow : Tryz.prog.cellsOf 28 = 1 := by kernel_rfl
theorem list29 {α : Type} {l : List α} (h : l.length = 2) : ∃ c0 c1, l = [c0, c1] := by
  match l, h with
  | [c0, c1], _ => exact ⟨c0, c1, rfl⟩
theorem list79 {α : Type} {l : List α} (h : l.length = 7) : ∃ c0 c1 c2 c3 c4 c5 c6, l = [c0, c1, c2, c3, c4, c5, c6] := by
  match l, h with
  | [c0, c1, c2, c3, c4, c5, c6], _ => exact ⟨c0, c1, c2, c3, c4, c5, c6, rfl⟩
theorem list139 {α : Type} {l : List α} (h : l.length = 13) : ∃ c0 c1 c2 c3 c4 c5 c6 c7 c8 c9 c10 c11 c12, l = [c0, c1, c2, c3, c4, c5, c6, c7, c8, c9, c10, c11, c12] := by
  match l, h with
  | [c0, c1, c2, c3, c4, c5, c6, c7, c8, c9, c10, c11, c12], _ => exact ⟨c0, c1, c2, c3, c4, c5, c6, c7, c8, c9, c10, c11, c12, rfl⟩
set_option maxRecDepth 100000 in
theorem one9_tkr {H : Type} {enc : TypeId × Value → H} {w : World} {spare : Nat → Bool} {held : Bool} (fuel : Nat) (cs : List Value) (y : DataW H × List MemPlace) (hcs : cs.length = 8) (h : DataW.trod enc Tryz.prog w 0 spare held fuel 56 cs = some y) : ∃ x : TkR, ∀ i, i < 8 → ∃ u, cs[i]? = some u ∧ tkrP2 w x i u := by
  obtain ⟨c0, c1, c2, c3, c4, c5, c6, c7, rfl⟩ := list8 hcs
  obtain ⟨xs, n, hn, hx, hl, hlen, hfs⟩ := DataW.trod_struct Tryz.underlying56 h
  match xs, hlen with
  | [y0, y1, y2, y3, y4, y5, y6, y7], _ =>
    have h0 := hfs 0 _ rfl
    have h1 := hfs 1 _ rfl
    have h2 := hfs 2 _ rfl
    have h3 := hfs 3 _ rfl
    have h4 := hfs 4 _ rfl
    have h5 := hfs 5 _ rfl
    have h6 := hfs 6 _ rfl
    have h7 := hfs 7 _ rfl
    simp [p9_Lint, p9_bool, p9_int, p9_uint32] at h0 h1 h2 h3 h4 h5 h6 h7
    obtain ⟨vprio, e0, _, _⟩ := DataW.trod_int Tryz.underlying3 h0
    obtain ⟨vring, e1, _, _⟩ := DataW.trod_int Tryz.underlying3 h1
    obtain ⟨vfull, e2, _⟩ := DataW.trod_bool Tryz.underlying4 h2
    obtain ⟨vlimit, e3, _, _⟩ := DataW.trod_int Tryz.underlying3 h3
    obtain ⟨vmaskz, e4, _, bvmask⟩ := DataW.trod_int Tryz.underlying53 h4
    obtain ⟨vmask, rfl⟩ := Int.eq_ofNat_of_zero_le (bounds_u32 bvmask).1
    obtain ⟨vinner, e5, _, _⟩ := DataW.trod_int Tryz.underlying3 h5
    obtain ⟨vown, w6⟩ := ints_open h6
    obtain ⟨vautoz, e7, _, bvauto⟩ := DataW.trod_int Tryz.underlying53 h7
    obtain ⟨vauto, rfl⟩ := Int.eq_ofNat_of_zero_le (bounds_u32 bvauto).1
    simp at e0 e1 e2 e3 e4 e5 e7
    subst e0 e1 e2 e3 e4 e5 e7
    have kvmask : vmask < 4294967296 := by have := (bounds_u32 bvmask).2; omega
    have kvauto : vauto < 4294967296 := by have := (bounds_u32 bvauto).2; omega
    refine ⟨⟨vprio, vring, vfull, vlimit, vmask, vinner, vown, vauto⟩, fun i hi => ?_⟩
    rcases (by omega : i = 0 ∨ i = 1 ∨ i = 2 ∨ i = 3 ∨ i = 4 ∨ i = 5 ∨ i = 6 ∨ i = 7) with rfl | rfl | rfl | rfl | rfl | rfl | rfl | rfl
    · exact ⟨_, rfl, rfl, kvmask, kvauto⟩
    · exact ⟨_, rfl, rfl, kvmask, kvauto⟩
    · exact ⟨_, rfl, rfl, kvmask, kvauto⟩
    · exact ⟨_, rfl, rfl, kvmask, kvauto⟩
    · exact ⟨_, rfl, rfl, kvmask, kvauto⟩
    · exact ⟨_, rfl, rfl, kvmask, kvauto⟩
    · exact ⟨_, rfl, w6, kvmask, kvauto⟩
    · exact ⟨_, rfl, rfl, kvmask, kvauto⟩
set_option maxRecDepth 100000 in
theorem one9_rgr {H : Type} {enc : TypeId × Value → H} {w : World} {spare : Nat → Bool} {held : Bool} (fuel : Nat) (cs : List Value) (y : DataW H × List MemPlace) (hcs : cs.length = 2) (h : DataW.trod enc Tryz.prog w 0 spare held fuel 52 cs = some y) : ∃ x : RgR, ∀ i, i < 2 → ∃ u, cs[i]? = some u ∧ rgrP x i u := by
  obtain ⟨c0, c1, rfl⟩ := list29 hcs
  obtain ⟨xs, n, hn, hx, hl, hlen, hfs⟩ := DataW.trod_struct Tryz.underlying52 h
  match xs, hlen with
  | [y0, y1], _ =>
    have h0 := hfs 0 _ rfl
    have h1 := hfs 1 _ rfl
    simp [p9_int] at h0 h1
    obtain ⟨vprio, e0, _, _⟩ := DataW.trod_int Tryz.underlying3 h0
    obtain ⟨vcap, e1, _, _⟩ := DataW.trod_int Tryz.underlying3 h1
    simp at e0 e1
    subst e0 e1
    refine ⟨⟨vprio, vcap⟩, fun i hi => ?_⟩
    rcases (by omega : i = 0 ∨ i = 1) with rfl | rfl
    · exact ⟨_, rfl, rfl⟩
    · exact ⟨_, rfl, rfl⟩
set_option maxRecDepth 100000 in
theorem one9_rsr {H : Type} {enc : TypeId × Value → H} {w : World} {spare : Nat → Bool} {held : Bool} (fuel : Nat) (cs : List Value) (y : DataW H × List MemPlace) (hcs : cs.length = 2) (h : DataW.trod enc Tryz.prog w 0 spare held fuel 60 cs = some y) : ∃ x : RsR, ∀ i, i < 2 → ∃ u, cs[i]? = some u ∧ rsrP x i u := by
  obtain ⟨c0, c1, rfl⟩ := list29 hcs
  obtain ⟨xs, n, hn, hx, hl, hlen, hfs⟩ := DataW.trod_struct Tryz.underlying60 h
  match xs, hlen with
  | [y0, y1], _ =>
    have h0 := hfs 0 _ rfl
    have h1 := hfs 1 _ rfl
    simp [p9_bool, p9_int] at h0 h1
    obtain ⟨vinner, e0, _⟩ := DataW.trod_bool Tryz.underlying4 h0
    obtain ⟨vceil, e1, _, _⟩ := DataW.trod_int Tryz.underlying3 h1
    simp at e0 e1
    subst e0 e1
    refine ⟨⟨vinner, vceil⟩, fun i hi => ?_⟩
    rcases (by omega : i = 0 ∨ i = 1) with rfl | rfl
    · exact ⟨_, rfl, rfl⟩
    · exact ⟨_, rfl, rfl⟩
set_option maxRecDepth 100000 in
theorem one9_ctr {H : Type} {enc : TypeId × Value → H} {w : World} {spare : Nat → Bool} {held : Bool} (fuel : Nat) (cs : List Value) (y : DataW H × List MemPlace) (hcs : cs.length = 3) (h : DataW.trod enc Tryz.prog w 0 spare held fuel 91 cs = some y) : ∃ x : CtR, ∀ i, i < 3 → ∃ u, cs[i]? = some u ∧ ctrP2 x i u := by
  obtain ⟨c0, c1, c2, rfl⟩ := list3 hcs
  obtain ⟨xs, n, hn, hx, hl, hlen, hfs⟩ := DataW.trod_struct Tryz.underlying91 h
  match xs, hlen with
  | [y0, y1, y2], _ =>
    have h0 := hfs 0 _ rfl
    have h1 := hfs 1 _ rfl
    have h2 := hfs 2 _ rfl
    simp [p9_uint32] at h0 h1 h2
    obtain ⟨vmaxz, e0, _, bvmax⟩ := DataW.trod_int Tryz.underlying53 h0
    obtain ⟨vmax, rfl⟩ := Int.eq_ofNat_of_zero_le (bounds_u32 bvmax).1
    obtain ⟨vbasez, e1, _, bvbase⟩ := DataW.trod_int Tryz.underlying53 h1
    obtain ⟨vbase, rfl⟩ := Int.eq_ofNat_of_zero_le (bounds_u32 bvbase).1
    obtain ⟨vminz, e2, _, bvmin⟩ := DataW.trod_int Tryz.underlying53 h2
    obtain ⟨vmin, rfl⟩ := Int.eq_ofNat_of_zero_le (bounds_u32 bvmin).1
    simp at e0 e1 e2
    subst e0 e1 e2
    have kvmax : vmax < 4294967296 := by have := (bounds_u32 bvmax).2; omega
    have kvbase : vbase < 4294967296 := by have := (bounds_u32 bvbase).2; omega
    have kvmin : vmin < 4294967296 := by have := (bounds_u32 bvmin).2; omega
    refine ⟨⟨vmax, vbase, vmin⟩, fun i hi => ?_⟩
    rcases (by omega : i = 0 ∨ i = 1 ∨ i = 2) with rfl | rfl | rfl
    · exact ⟨_, rfl, rfl, kvmax, kvbase, kvmin⟩
    · exact ⟨_, rfl, rfl, kvmax, kvbase, kvmin⟩
    · exact ⟨_, rfl, rfl, kvmax, kvbase, kvmin⟩
set_option maxRecDepth 100000 in
theorem one9_alr {H : Type} {enc : TypeId × Value → H} {w : World} {spare : Nat → Bool} {held : Bool} (fuel : Nat) (cs : List Value) (y : DataW H × List MemPlace) (hcs : cs.length = 7) (h : DataW.trod enc Tryz.prog w 0 spare held fuel 95 cs = some y) : ∃ x : AlR, ∀ i, i < 7 → ∃ u, cs[i]? = some u ∧ alrP2 x i u := by
  obtain ⟨c0, c1, c2, c3, c4, c5, c6, rfl⟩ := list79 hcs
  obtain ⟨xs, n, hn, hx, hl, hlen, hfs⟩ := DataW.trod_struct Tryz.underlying95 h
  match xs, hlen with
  | [y0, y1, y2, y3, y4], _ =>
    have h0 := hfs 0 _ rfl
    have h1 := hfs 1 _ rfl
    have h2 := hfs 2 _ rfl
    have h3 := hfs 3 _ rfl
    have h4 := hfs 4 _ rfl
    simp [p9_apiActionRow, p9_int, p9_uint32] at h0 h1 h2 h3 h4
    obtain ⟨vctr, e0, _, _⟩ := DataW.trod_int Tryz.underlying3 h0
    obtain ⟨ys, m, _, _, _, ylen, yfs⟩ := DataW.trod_struct Tryz.underlying93 h1
    match ys, ylen with
    | [z0, z1, z2], _ =>
      have g0 := yfs 0 _ rfl
      have g1 := yfs 1 _ rfl
      have g2 := yfs 2 _ rfl
      simp [p9_apiActionKind, p9_int, p9_uint32] at g0 g1 g2
      obtain ⟨akind, eg0, _, _⟩ := DataW.trod_int Tryz.underlying62 g0
      obtain ⟨atask, eg1, _, _⟩ := DataW.trod_int Tryz.underlying3 g1
      obtain ⟨amaskz, eg2, _, bamask⟩ := DataW.trod_int Tryz.underlying53 g2
      obtain ⟨amask, rfl⟩ := Int.eq_ofNat_of_zero_le (bounds_u32 bamask).1
      obtain ⟨vautoz, e2, _, bvauto⟩ := DataW.trod_int Tryz.underlying53 h2
      obtain ⟨vauto, rfl⟩ := Int.eq_ofNat_of_zero_le (bounds_u32 bvauto).1
      obtain ⟨vtimez, e3, _, bvtime⟩ := DataW.trod_int Tryz.underlying53 h3
      obtain ⟨vtime, rfl⟩ := Int.eq_ofNat_of_zero_le (bounds_u32 bvtime).1
      obtain ⟨vcyclez, e4, _, bvcycle⟩ := DataW.trod_int Tryz.underlying53 h4
      obtain ⟨vcycle, rfl⟩ := Int.eq_ofNat_of_zero_le (bounds_u32 bvcycle).1
      simp at e0 eg0 eg1 eg2 e2 e3 e4
      subst e0 eg0 eg1 eg2 e2 e3 e4
      have kamask : amask < 4294967296 := by have := (bounds_u32 bamask).2; omega
      have kvauto : vauto < 4294967296 := by have := (bounds_u32 bvauto).2; omega
      have kvtime : vtime < 4294967296 := by have := (bounds_u32 bvtime).2; omega
      have kvcycle : vcycle < 4294967296 := by have := (bounds_u32 bvcycle).2; omega
      refine ⟨⟨vctr, ⟨akind, atask, amask⟩, vauto, vtime, vcycle⟩, fun i hi => ?_⟩
      rcases (by omega : i = 0 ∨ i = 1 ∨ i = 2 ∨ i = 3 ∨ i = 4 ∨ i = 5 ∨ i = 6) with rfl | rfl | rfl | rfl | rfl | rfl | rfl
      · exact ⟨_, rfl, rfl, kamask, kvauto, kvtime, kvcycle⟩
      · exact ⟨_, rfl, rfl, kamask, kvauto, kvtime, kvcycle⟩
      · exact ⟨_, rfl, rfl, kamask, kvauto, kvtime, kvcycle⟩
      · exact ⟨_, rfl, rfl, kamask, kvauto, kvtime, kvcycle⟩
      · exact ⟨_, rfl, rfl, kamask, kvauto, kvtime, kvcycle⟩
      · exact ⟨_, rfl, rfl, kamask, kvauto, kvtime, kvcycle⟩
      · exact ⟨_, rfl, rfl, kamask, kvauto, kvtime, kvcycle⟩
set_option maxRecDepth 100000 in
theorem one9_isr {H : Type} {enc : TypeId × Value → H} {w : World} {spare : Nat → Bool} {held : Bool} (fuel : Nat) (cs : List Value) (y : DataW H × List MemPlace) (hcs : cs.length = 3) (h : DataW.trod enc Tryz.prog w 0 spare held fuel 72 cs = some y) : ∃ x : IsR, ∀ i, i < 3 → ∃ u, cs[i]? = some u ∧ isrP w x i u := by
  obtain ⟨c0, c1, c2, rfl⟩ := list3 hcs
  obtain ⟨xs, n, hn, hx, hl, hlen, hfs⟩ := DataW.trod_struct Tryz.underlying72 h
  match xs, hlen with
  | [y0, y1, y2], _ =>
    have h0 := hfs 0 _ rfl
    have h1 := hfs 1 _ rfl
    have h2 := hfs 2 _ rfl
    simp [p9_Lint, p9_int] at h0 h1 h2
    obtain ⟨vcat, e0, _, _⟩ := DataW.trod_int Tryz.underlying3 h0
    obtain ⟨vprio, e1, _, _⟩ := DataW.trod_int Tryz.underlying3 h1
    obtain ⟨vown, w2⟩ := ints_open h2
    simp at e0 e1
    subst e0 e1
    refine ⟨⟨vcat, vprio, vown⟩, fun i hi => ?_⟩
    rcases (by omega : i = 0 ∨ i = 1 ∨ i = 2) with rfl | rfl | rfl
    · exact ⟨_, rfl, rfl⟩
    · exact ⟨_, rfl, rfl⟩
    · exact ⟨_, rfl, w2⟩
set_option maxRecDepth 100000 in
theorem one9_msr {H : Type} {enc : TypeId × Value → H} {w : World} {spare : Nat → Bool} {held : Bool} (fuel : Nat) (cs : List Value) (y : DataW H × List MemPlace) (hcs : cs.length = 8) (h : DataW.trod enc Tryz.prog w 0 spare held fuel 99 cs = some y) : ∃ x : MsR, ∀ i, i < 8 → ∃ u, cs[i]? = some u ∧ msrP2 x i u := by
  obtain ⟨c0, c1, c2, c3, c4, c5, c6, c7, rfl⟩ := list8 hcs
  obtain ⟨xs, n, hn, hx, hl, hlen, hfs⟩ := DataW.trod_struct Tryz.underlying99 h
  match xs, hlen with
  | [y0, y1, y2, y3, y4, y5], _ =>
    have h0 := hfs 0 _ rfl
    have h1 := hfs 1 _ rfl
    have h2 := hfs 2 _ rfl
    have h3 := hfs 3 _ rfl
    have h4 := hfs 4 _ rfl
    have h5 := hfs 5 _ rfl
    simp [p9_apiActionRow, p9_apiMessageKind, p9_int, p9_uint64] at h0 h1 h2 h3 h4 h5
    obtain ⟨vkind, e0, _, _⟩ := DataW.trod_int Tryz.underlying96 h0
    obtain ⟨vlen, e1, _, _⟩ := DataW.trod_int Tryz.underlying3 h1
    obtain ⟨vfrm, e2, _, _⟩ := DataW.trod_int Tryz.underlying3 h2
    obtain ⟨vinitz, e3, _, bvinit⟩ := DataW.trod_int Tryz.underlying97 h3
    obtain ⟨vinit, rfl⟩ := Int.eq_ofNat_of_zero_le (bounds_u64 bvinit).1
    obtain ⟨vqueue, e4, _, _⟩ := DataW.trod_int Tryz.underlying3 h4
    obtain ⟨ys, m, _, _, _, ylen, yfs⟩ := DataW.trod_struct Tryz.underlying93 h5
    match ys, ylen with
    | [z0, z1, z2], _ =>
      have g0 := yfs 0 _ rfl
      have g1 := yfs 1 _ rfl
      have g2 := yfs 2 _ rfl
      simp [p9_apiActionKind, p9_int, p9_uint32] at g0 g1 g2
      obtain ⟨akind, eg0, _, _⟩ := DataW.trod_int Tryz.underlying62 g0
      obtain ⟨atask, eg1, _, _⟩ := DataW.trod_int Tryz.underlying3 g1
      obtain ⟨amaskz, eg2, _, bamask⟩ := DataW.trod_int Tryz.underlying53 g2
      obtain ⟨amask, rfl⟩ := Int.eq_ofNat_of_zero_le (bounds_u32 bamask).1
      simp at e0 e1 e2 e3 e4 eg0 eg1 eg2
      subst e0 e1 e2 e3 e4 eg0 eg1 eg2
      have kvinit : vinit < 18446744073709551616 := by have := (bounds_u64 bvinit).2; omega
      have kamask : amask < 4294967296 := by have := (bounds_u32 bamask).2; omega
      refine ⟨⟨vkind, vlen, vfrm, vinit, vqueue, ⟨akind, atask, amask⟩⟩, fun i hi => ?_⟩
      rcases (by omega : i = 0 ∨ i = 1 ∨ i = 2 ∨ i = 3 ∨ i = 4 ∨ i = 5 ∨ i = 6 ∨ i = 7) with rfl | rfl | rfl | rfl | rfl | rfl | rfl | rfl
      · exact ⟨_, rfl, rfl, kvinit, kamask⟩
      · exact ⟨_, rfl, rfl, kvinit, kamask⟩
      · exact ⟨_, rfl, rfl, kvinit, kamask⟩
      · exact ⟨_, rfl, rfl, kvinit, kamask⟩
      · exact ⟨_, rfl, rfl, kvinit, kamask⟩
      · exact ⟨_, rfl, rfl, kvinit, kamask⟩
      · exact ⟨_, rfl, rfl, kvinit, kamask⟩
      · exact ⟨_, rfl, rfl, kvinit, kamask⟩
theorem q9_t : Tryz.prog.cellsOf 56 = 8 := by kernel_rfl
theorem q9_g : Tryz.prog.cellsOf 52 = 2 := by kernel_rfl
theorem q9_r : Tryz.prog.cellsOf 60 = 2 := by kernel_rfl
theorem q9_k : Tryz.prog.cellsOf 91 = 3 := by kernel_rfl
theorem q9_a : Tryz.prog.cellsOf 95 = 7 := by kernel_rfl
theorem q9_i : Tryz.prog.cellsOf 72 = 3 := by kernel_rfl
theorem q9_s : Tryz.prog.cellsOf 99 = 8 := by kernel_rfl
theorem p9_Tb : Tryz.prog.cellsOf 30 = 13 := by kernel_rfl
theorem array13 {α : Type} {l : Array α} (h : l.size = 13) : ∃ c0 c1 c2 c3 c4 c5 c6 c7 c8 c9 c10 c11 c12, l = #[c0, c1, c2, c3, c4, c5, c6, c7, c8, c9, c10, c11, c12] := by
  obtain ⟨l⟩ := l
  obtain ⟨c0, c1, c2, c3, c4, c5, c6, c7, c8, c9, c10, c11, c12, e⟩ := list139 (l := l) (by simpa using h)
  exact ⟨c0, c1, c2, c3, c4, c5, c6, c7, c8, c9, c10, c11, c12, by rw [e]⟩
set_option maxRecDepth 100000 in
theorem tables_open {H : Type} {enc : TypeId × Value → H} {w : World} {spare : Nat → Bool} {held : Bool} {r : Reach} {b0 : Nat} {v : Value} {d : DataW H} {p : List MemPlace}
    (hv : Value.okWide Tryz.prog w r b0 30 v) (h : DataW.Trod enc Tryz.prog w 0 spare held 30 v d p) :
    ∃ (tb : Tb) (vv : Ts), v = .agg (tbC tb vv) ∧ TbAt w tb vv ∧ WfT tb := by
  obtain ⟨cs, rfl, hsz⟩ := okWide_struct Tryz.underlying30 hv
  rw [p9_Tb] at hsz
  obtain ⟨c0, c1, c2, c3, c4, c5, c6, c7, c8, c9, c10, c11, c12, rfl⟩ := array13 hsz
  obtain ⟨fuel, hf⟩ := h
  obtain ⟨xs, n, hn, hx, hl, hlen, hfs⟩ := DataW.trod_struct Tryz.underlying30 hf
  match xs, hlen with
  | [y0, y1, y2, y3, y4, y5, y6, y7, y8, y9, y10, y11, y12], _ =>
    have h0 := hfs 0 _ rfl
    have h1 := hfs 1 _ rfl
    have h2 := hfs 2 _ rfl
    have h3 := hfs 3 _ rfl
    have h4 := hfs 4 _ rfl
    have h5 := hfs 5 _ rfl
    have h6 := hfs 6 _ rfl
    have h7 := hfs 7 _ rfl
    have h8 := hfs 8 _ rfl
    have h9 := hfs 9 _ rfl
    have h10 := hfs 10 _ rfl
    have h11 := hfs 11 _ rfl
    have h12 := hfs 12 _ rfl
    simp [p9_LapiAlarmRow, p9_LapiCounterRow, p9_LapiIsrRow, p9_LapiMessageRow, p9_LapiResourceRow, p9_LapiRingRow, p9_LapiTaskRow, p9_int, Value.cells] at h0 h1 h2 h3 h4 h5 h6 h7 h8 h9 h10 h11 h12
    obtain ⟨nUses, e0, _, _⟩ := DataW.trod_int Tryz.underlying3 h0
    obtain ⟨nModes, e1, _, _⟩ := DataW.trod_int Tryz.underlying3 h1
    obtain ⟨nDepth, e9, _, _⟩ := DataW.trod_int Tryz.underlying3 h9
    obtain ⟨nFrames, e10, _, _⟩ := DataW.trod_int Tryz.underlying3 h10
    obtain ⟨nErrors, e11, _, _⟩ := DataW.trod_int Tryz.underlying3 h11
    obtain ⟨nCalls, e12, _, _⟩ := DataW.trod_int Tryz.underlying3 h12
    simp at e0 e1 e9 e10 e11 e12
    subst e0 e1 e9 e10 e11 e12
    obtain ⟨st, lt, rfl, rt, _⟩ := rows_open ⟨(⟨0, 0, false, 0, 0, 0, [], 0⟩ : TkR)⟩ (by omega) Tryz.underlying22 q9_t h2 one9_tkr
    obtain ⟨sg, lg, rfl, rg, _⟩ := rows_open ⟨(⟨0, 0⟩ : RgR)⟩ (by omega) Tryz.underlying23 q9_g h3 one9_rgr
    obtain ⟨sr, lr, rfl, rr, _⟩ := rows_open ⟨(⟨false, 0⟩ : RsR)⟩ (by omega) Tryz.underlying24 q9_r h4 one9_rsr
    obtain ⟨sk, lk, rfl, rk, _⟩ := rows_open ⟨(⟨0, 0, 0⟩ : CtR)⟩ (by omega) Tryz.underlying25 q9_k h5 one9_ctr
    obtain ⟨sa, la, rfl, ra, _⟩ := rows_open ⟨(⟨0, ⟨0, 0, 0⟩, 0, 0, 0⟩ : AlR)⟩ (by omega) Tryz.underlying26 q9_a h6 one9_alr
    obtain ⟨si, li, rfl, ri, _⟩ := rows_open ⟨(⟨0, 0, []⟩ : IsR)⟩ (by omega) Tryz.underlying27 q9_i h7 one9_isr
    obtain ⟨ss, ls, rfl, rs, _⟩ := rows_open ⟨(⟨0, 0, 0, 0, 0, ⟨0, 0, 0⟩⟩ : MsR)⟩ (by omega) Tryz.underlying28 q9_s h8 one9_msr
    refine ⟨⟨nUses, nModes, lt, lg, lr, lk, la, li, ls, nDepth, nFrames, nErrors, nCalls⟩, ⟨st, sg, sr, sk, sa, si, ss⟩, ?_, ⟨rt.below (Below.refl _ _) (fun _ _ _ _ h => h.1), rg, rr, rk.below (Below.refl _ _) (fun _ _ _ _ h => h.1), ra.below (Below.refl _ _) (fun _ _ _ _ h => h.1), ri, rs.below (Below.refl _ _) (fun _ _ _ _ h => h.1)⟩, ⟨fun x hx => ?_, fun x hx => ?_, fun x hx => ?_, fun x hx => ?_⟩⟩
    · simp [tbC]
    · obtain ⟨j, hj⟩ := List.getElem?_of_mem hx
      obtain ⟨_, _, _, _, hr⟩ := rt.row j x hj
      obtain ⟨_, _, hb⟩ := hr 0 (by omega)
      exact hb.2
    · obtain ⟨j, hj⟩ := List.getElem?_of_mem hx
      obtain ⟨_, _, _, _, hr⟩ := rk.row j x hj
      obtain ⟨_, _, hb⟩ := hr 0 (by omega)
      exact hb.2
    · obtain ⟨j, hj⟩ := List.getElem?_of_mem hx
      obtain ⟨_, _, _, _, hr⟩ := ra.row j x hj
      obtain ⟨_, _, hb⟩ := hr 0 (by omega)
      exact hb.2
    · obtain ⟨j, hj⟩ := List.getElem?_of_mem hx
      obtain ⟨_, _, _, _, hr⟩ := rs.row j x hj
      obtain ⟨_, _, hb⟩ := hr 0 (by omega)
      exact hb.2
end Go.Proofs.YtmidaeljeoifdaaGreatDoor

namespace Go.Proofs.YtmidaeljeoifdaaGreatDoor
open Go.ChangeShapes Go.WideShapes Go.RowKit
set_option linter.unusedVariables false

theorem laidOutS : laidOutB Tryz.prog = true := by kernel_rfl
def zeroV : Value := .agg #[.int .i64 0, .int .i64 0, .slice none 0 0, .slice none 0 0, .slice none 0 0, .slice none 0 0, .slice none 0 0, .slice none 0 0, .slice none 0 0, .int .i64 0, .int .i64 0, .int .i64 0, .int .i64 0]
set_option maxRecDepth 100000 in
theorem tableChecks_lifted (os : Os) (started : os.Started) (H : Type) (enc : TypeId × Value → H) :
    ReturnsInHanded {} Tryz.checked os 3 .any (fun w args => (Rows.tableChecksSpec.pre enc Tryz.prog Tryz.f3 [] false w args ∧ laidMetH Tryz.prog laidT w) ∧ sizedMet enc Tryz.prog Tryz.f3 (OpenSpec.ofChange Rows.tableChecksSpec) false w args)
      (Rows.tableChecksSpec.post enc Tryz.prog Tryz.f3 false true false false) := by
  refine lift_laid (C := Tryz.checked) (X := fun w => laidMetH Tryz.prog laidT w) (fun _ _ hh h => h.of_heap hh) own started (by kernel_rfl) Tryz.func3
    (ChangeSpec.witness_shaped (enc := enc) (C := Tryz.checked) (os := os) (X := fun w _ => laidMetH Tryz.prog laidT w) false (witW os) #[zeroV] 8 (witW_os os) (wit_shaped os _) (by kernel_rfl) (by kernel_rfl) (by kernel_rfl) (wit_met os _)) ?_
  intro W base args ds gs before hval0 hW hsz0 hL hSh
  have hval : ∀ (j : Nat) t v, Tryz.f3.params[j]? = some t → args[j]? = some v → Value.okWide Tryz.prog W .any base t v := hval0
  have hW' := hW
  obtain ⟨p, q, hA0, hV, rfl, hfz, hnd⟩ := hW
  have hA : DataW.TrodAll enc Tryz.prog W 0 (fun _ => true) true Tryz.f3.params.toList args.toList ds p := hA0
  have hsz : (DataW.weightsEach Tryz.prog (Tryz.f3.params.toList ++ Rows.tableChecksSpec.plain.varTypes Tryz.prog) (ds ++ gs)).all (· ≤ reachBytes) = true := hsz0
  rw [Tryz.params3] at hA hval hsz
  obtain ⟨v0, vs0, d0, ds0, p0, q0, hargs, rfl, rfl, h0, r0⟩ := trodAll_cons hA
  obtain ⟨rfl, rfl, rfl⟩ := trodAll_nil r0
  obtain rfl : args = #[v0] := by cases args; simp_all
  obtain ⟨rfl, rfl⟩ := trodVars_none hV
  have k0 := h0
  have lt0 : ∀ x ∈ p0, x.block < W.heap.size := by obtain ⟨m, hm⟩ := k0; exact DataW.trod_lt m _ _ _ hm
  obtain ⟨c, vv, rfl, hC, hLn⟩ := tables_open (hval 0 30 v0 rfl rfl) h0
  clear hA0 hval0
  refine (checks9_any c vv W hC hLn (et_of hL)).mono fun e W' ⟨he, bel⟩ => ?_
  subst he
  exact ⟨_, rfl, _, _, _, [], _, [], hW', trodAll_mk1 (shut_bool Tryz.underlying4 _), (trodAll_cons_mk (Below.trod laidOutS (by kernel_rfl) (of_decide_eq_true (by kernel_rfl)) k0 bel lt0) trodAll_mk0), rfl, bel.frame _, fun h => by cases h⟩
end Go.Proofs.YtmidaeljeoifdaaGreatDoor

namespace Go.Proofs.YtmidaeljeoifdaaGreatDoor
open Go.ChangeShapes Go.WideShapes Go.RowKit
set_option linter.unusedVariables false

theorem and_mk9 {a b : Bool} (h1 : a = true) (h2 : b = true) : (a && b) = true := by rw [h1, h2]; rfl
set_option maxHeartbeats 64000000 in
set_option maxRecDepth 100000 in
theorem tableChecks_facts : joinedFacts Tryz.prog 3 Tryz.f3 Rows.tableChecksSpec Rows.tableChecksRow = true := by
  unfold joinedFacts
  repeat' (with_reducible refine and_mk9 ?_ ?_)
  all_goals (as_aux_lemma => kernel_rfl)
end Go.Proofs.YtmidaeljeoifdaaGreatDoor

namespace Go.Proofs.YtmidaeljeoifdaaGreatDoor
open Go.ChangeShapes Go.WideShapes Go.RowKit
set_option linter.unusedVariables false

theorem tableChecks_over : Rows.TableChecksSaid :=
  OpenClaim.holds_of_wide 3 Tryz.f3 rfl rfl rfl rfl rfl rfl rfl ⟨rfl, rfl, rfl, rfl, rfl⟩ rfl rfl rfl rfl rfl (by kernel_rfl) Tryz.func3 tableChecks_facts
    (of_decide_eq_true (by kernel_rfl)) (by unfold Func.isWrapper; first | (rw [if_pos (by decide +kernel)]; kernel_rfl) | (rw [if_neg (by decide +kernel)]; exact ⟨rfl, rfl⟩))
    (fun os started H enc _ => tableChecks_lifted os started H enc)
end Go.Proofs.YtmidaeljeoifdaaGreatDoor

namespace Go.Proofs.YtmidaeljeoifdaaGreatDoor
set_option linter.unusedVariables false

theorem tableChecks_holds : Rows.TableChecksCardSaid :=
  Claim7.holds_tied_plain_at .later [] [.handle] true _ true
    tableChecks_over (fun _ h => by cases h) (by kernel_rfl) (fun _ h => by cases h) tableChecks_row_tie rfl ⟨rfl, rfl⟩ (by kernel_rfl) rfl
    (fun f fn hf hfn => by
      obtain rfl : f = 3 := Option.some.inj ((show Tryz.prog.funcNamed "tappet/tappetlaw09.TableChecks" = some 3 by kernel_rfl).symm.trans hf) |>.symm
      obtain rfl : fn = Tryz.f3 := (Option.some.inj (Tryz.func3.symm.trans hfn)).symm
      exact ⟨by kernel_rfl, fun j t ht => by
        rw [Tryz.params3] at ht
        have hm : t ∈ [30] := by simpa using Array.mem_of_getElem? ht
        have hall : ([30].all fun u => !Tryz.prog.wantsStandIn u) = true := by kernel_rfl
        exact (show Tryz.prog.wantsStandIn t = false by simpa using List.all_eq_true.1 hall t hm)⟩)
    (by kernel_rfl)
#print axioms tableChecks_holds
end Go.Proofs.YtmidaeljeoifdaaGreatDoor

