import Derived.Test.YtmidaeljeoifdaaGreatDoorKvd
import Derived.Test.YtmidaeljeoifdaaGreatDoorKue
namespace Go.Proofs.YtmidaeljeoifdaaGreatDoor
set_option maxRecDepth 100000
set_option maxHeartbeats 16000000
open Go.RowKit
set_option linter.unusedVariables false
def EnvE (w : World) : Prop := w.cell? ⟨0, 0, none⟩ = some (.iface 265 (.agg #[.pointer (some ⟨1, 149, none⟩)]))
theorem EnvE.below {w w' : World} (h : EnvE w) (hb : Below w.heap.size w w') : EnvE w' := by
 show w'.cell? _ = _
 rw [cell_below hb _ _ (World.block_lt_of_cell? w _ h)]
 exact h
def zero3 : Array Value := #[.int .i64 0, .string ⟨#[]⟩, .int .i64 0]
def set3 (w : World) (b : Nat) (v0 v1 v2 : Value) : World := ((w.setCell ⟨b, 0, none⟩ v0).setCell ⟨b, 1, none⟩ v1).setCell ⟨b, 2, none⟩ v2
theorem set3_at (w : World) (b : Nat) (t : TypeId) (o0 o1 o2 v0 v1 v2 : Value) (k : w.heap[b]? = some (.cells #[o0, o1, o2] t (0, 0))) : (set3 w b v0 v1 v2).heap[b]? = some (.cells #[v0, v1, v2] t (0, 0)) := by
 unfold set3
 have h0 : (w.setCell ⟨b, 0, none⟩ v0).heap[b]? = some (.cells #[v0, o1, o2] t (0, 0)) := heap_setCell_same _ b 0 _ t _ k
 generalize w.setCell ⟨b, 0, none⟩ v0 = w0 at *
 have h1 : (w0.setCell ⟨b, 1, none⟩ v1).heap[b]? = some (.cells #[v0, v1, o2] t (0, 0)) := heap_setCell_same _ b 1 _ t _ h0
 generalize w0.setCell ⟨b, 1, none⟩ v1 = w1 at *
 exact heap_setCell_same _ b 2 _ t _ h1
theorem below_set3 {B : Nat} {w W : World} (h : Below B w W) {b : Nat} {v0 v1 v2 : Value} (hb : B ≤ b) (hs : B ≤ W.heap.size) : Below B w (set3 W b v0 v1 v2) := by
 unfold set3
 refine below_set (below_set (below_set h hb hs) hb ?_) hb ?_
 ·exact Nat.le_trans hs (grown_set W b 0 v0).size
 ·exact Nat.le_trans (Nat.le_trans hs (grown_set W b 0 v0).size) (grown_set _ b 1 v1).size
theorem res_vd {fn : Func} {n : Nat} (hf : fn.results = #[.cell n 79]) (tmps : Array Value) (b : Nat) (w : World) (v0 v1 v2 : Value)
  (h2 : tmps[n]? = some (.pointer (some ⟨b, 0, none⟩))) (hk : w.heap[b]? = some (.cells #[v0, v1, v2] 79 (0, 0))) :
  (results fn tmps).run Tryz.prog w = .ok (.agg #[v0, v1, v2]) w := by
 have a1 := fun i => cell_of_row w b i _ _ (0, 0) hk
 have z0 := a1 0; have z1 := a1 1; have z2 := a1 2
 simp at z0 z1 z2
 simp [results, hf, go_sem, h2, z0, z1, z2]
def vdC : Option (Int × List UInt8 × Int) → Array Value
 | none => #[I 0, S [], I 0]
 | some (c, wd, i) => #[I c, S wd, I i]
def VdPost (w : World) (o : Option (Int × List UInt8 × Int)) (e : Ending) (w' : World) : Prop := e = .returned (.agg (vdC o)) ∧ Below w.heap.size w w'
theorem heap_two0 (w : World) (a b : Obj) : ((w.alloc a).alloc b).heap[w.heap.size]? = some a := by
 rw [heap_alloc_old (w.alloc a) b (by simp)]
 exact heap_alloc_new w a
theorem ref_at {w : World} {q : Nat} (hE : EnvE w) :
  Calls Tryz.prog 122 #[.iface 189 (.pointer (some ⟨q, 0, none⟩)), .iface 191 (.pointer (some ⟨w.heap.size + 1, 0, none⟩))] ((w.alloc (.cells zero3 79)).alloc (.cells #[.pointer none] 189)) fun e w' => e = .returned (.bool true) ∧ Below w.heap.size w w' ∧ w'.heap[w.heap.size]? = some (.cells zero3 79 (0, 0)) ∧ w'.cell? ⟨w.heap.size + 1, 0, none⟩ = some (.pointer (some ⟨q, 0, none⟩)) := by
 have b1 := below_alloc w (.cells zero3 79)
 have b2 : Below w.heap.size w ((w.alloc (.cells zero3 79)).alloc (.cells #[.pointer none] 189)) := b1.trans ((below_alloc _ _).mono b1.size)
 have hv := heap_two0 w (.cells zero3 79) (.cells #[.pointer none] 189)
 have ht := heap_two w (.cells zero3 79) (.cells #[.pointer none] 189)
 have hE2 : EnvE ((w.alloc (.cells zero3 79)).alloc (.cells #[.pointer none] 189)) := hE.below b2
 generalize ((w.alloc (.cells zero3 79)).alloc (.cells #[.pointer none] 189)) = w0 at *
 refine (as_hit ⟨q, 0, none⟩ ⟨w.heap.size + 1, 0, none⟩ (.pointer none) w0 hE2 (by rw [cell_of_row w0 _ 0 _ _ (0, 0) ht]; rfl) (frozen_of_row w0 _ 0 _ _ ht)).mono ?_
 rintro e w' ⟨rfl, rfl⟩
 have hl := heap_lt ht
 have b3 := ((((Below.refl w0.heap.size w0).alloc (Nat.le_refl _) (.cells #[.pointer (some ⟨w.heap.size + 1, 0, none⟩)] 191)).alloc (by simp) (.cells #[.pointer (some ⟨1, 191, none⟩), .pointer (some ⟨w0.heap.size, 0, none⟩), .int .u64 150] 241)).alloc (by simp; omega) (.cells #[.pointer (some ⟨1, 191, none⟩), .pointer (some ⟨w0.heap.size, 0, none⟩), .int .u64 150] 241)).alloc (by simp; omega) (.cells #[.pointer (some ⟨q, 0, none⟩)] 189)
 generalize ((((w0.alloc (.cells #[.pointer (some ⟨w.heap.size + 1, 0, none⟩)] 191)).alloc (.cells #[.pointer (some ⟨1, 191, none⟩), .pointer (some ⟨w0.heap.size, 0, none⟩), .int .u64 150] 241)).alloc (.cells #[.pointer (some ⟨1, 191, none⟩), .pointer (some ⟨w0.heap.size, 0, none⟩), .int .u64 150] 241)).alloc (.cells #[.pointer (some ⟨q, 0, none⟩)] 189)) = w4 at *
 have ht4 := (b3.block _ hl).trans ht
 have hv4 := (b3.block _ (heap_lt hv)).trans hv
 have g4 := grown_set w4 (w.heap.size + 1) 0 (.pointer (some ⟨q, 0, none⟩))
 have b4 : Below w.heap.size w w4 := b2.trans (b3.mono b2.size)
 refine ⟨rfl, b4.trans (below_of_grown g4 (by omega) b4.size), (g4.block _ (heap_lt hv4) (fun e => absurd (Option.some.inj e) (by omega))).trans hv4, ?_⟩
 rw [cell_of_row _ _ 0 _ _ (0, 0) (heap_setCell_same w4 (w.heap.size + 1) 0 _ _ _ ht4)]
 rfl
theorem nil_at {w : World} (v : Value) :
  Calls Tryz.prog 122 #[.nilIface, v] ((w.alloc (.cells zero3 79)).alloc (.cells #[.pointer none] 189)) fun e w' => e = .returned (.bool false) ∧ Below w.heap.size w w' ∧ w'.heap[w.heap.size]? = some (.cells zero3 79 (0, 0)) := by
 refine (as_nil _ _).mono ?_
 rintro e w' ⟨rfl, rfl⟩
 have b1 := below_alloc w (.cells zero3 79)
 exact ⟨rfl, b1.trans ((below_alloc _ _).mono b1.size), heap_two0 w _ _⟩
theorem varV {w : World} {b : Nat} (h : w.heap[b]? = some (.cells zero3 79 (0, 0))) : w.cell? ⟨b, 0, none⟩ = some (.int .i64 0) ∧ w.cell? ⟨b, 1, none⟩ = some (.string ⟨#[]⟩) ∧ w.cell? ⟨b, 2, none⟩ = some (.int .i64 0) ∧ ∀ i, w.frozen? ⟨b, i, none⟩ = false := by
 have a1 := fun i => cell_of_row w b i _ _ (0, 0) h
 exact ⟨a1 0, a1 1, a1 2, fun i => frozen_of_row w b i _ _ h⟩
theorem fin_vd {fn : Func} {n : Nat} (hf : fn.results = #[.cell n 79]) (w w3 : World) (o : Option (Int × List UInt8 × Int)) (v0 v1 v2 : Value) (ho : vdC o = #[v0, v1, v2]) (b : Nat) (hbb : w.heap.size ≤ b) (tmps : Array Value)
  (hv : w3.heap[b]? = some (.cells zero3 79 (0, 0))) (hb : Below w.heap.size w w3) (h2 : tmps[n]? = some (.pointer (some ⟨b, 0, none⟩))) :
  bodyPost Tryz.prog fn (fun e w' => VdPost w o e w') .ret { tmps := tmps, defers := [] } (set3 w3 b v0 v1 v2) := by
 refine bodyPost_ret (res_vd hf tmps b _ _ _ _ h2 (set3_at w3 b _ _ _ _ _ _ _ hv)) rfl ?_
 exact ⟨by rw [ho], below_set3 hb hbb hb.size⟩
theorem verdict_nil (w : World) : Calls Tryz.prog 76 #[.nilIface] w fun e w' => VdPost w none e w' := by
 go_enter Tryz.func76, Tryz.ntmps76
 go_wp2_with (go_at_call 122; refine (nil_at _).mono ?_; rintro e w1 ⟨rfl, hb1, hv1⟩; obtain ⟨y0, y1, y2, fz⟩ := varV hv1)
 exact fin_vd Tryz.results76 w w1 none _ _ _ rfl w.heap.size (Nat.le_refl _) _ hv1 hb1 rfl
theorem verdict_ref (w : World) (hE : EnvE w) (q : Nat) (c id : Int) (wd : List UInt8) (hq : w.heap[q]? = some (.cells #[I c, S wd, I id] 193 (0, 0))) :
  Calls Tryz.prog 76 #[.iface 189 (.pointer (some ⟨q, 0, none⟩))] w fun e w' => VdPost w (some (c, wd, id)) e w' := by
 have hql := heap_lt hq
 have hcs : ∀ W, Below w.heap.size w W → W.cell? ⟨q, 0, none⟩ = some (I c) ∧ W.cell? ⟨q, 1, none⟩ = some (S wd) ∧ W.cell? ⟨q, 2, none⟩ = some (I id) := fun W hW => by
  have a1 := fun i => cell_of_row W q i _ _ (0, 0) ((hW.block q hql).trans hq)
  exact ⟨a1 0, a1 1, a1 2⟩
 clear hq
 go_enter Tryz.func76, Tryz.ntmps76
 go_wp2_with (go_at_call 122; refine (ref_at hE).mono ?_; rintro e w1 ⟨rfl, hb1, hv1, ht1⟩; obtain ⟨y0, y1, y2, fz⟩ := varV hv1; obtain ⟨x0, x1, x2⟩ := hcs w1 hb1)
 exact fin_vd Tryz.results76 w w1 (some (c, wd, id)) _ _ _ rfl w.heap.size (Nat.le_refl _) _ hv1 hb1 rfl
theorem check_any7 (w : World) (c : Cf) (v : Vs) (h : CfAt w c v) (hl : LensOK c) (hE : EnvE w) : Calls Tryz.prog 32 #[.agg (cfC c v)] w fun e w' => VdPost w (allF c) e w' := by
 have hi18 : (Tryz.prog.info? 47).map (·.size) = some (cfC c v).size := by rw [show (cfC c v).size = 18 from rfl]; kernel_rfl
 have hV0 := heap_two0 w (.cells (cfC c v) 47) (.cells zero3 79)
 have hR0 := heap_two w (.cells (cfC c v) 47) (.cells zero3 79)
 have hb1 := below_alloc w (.cells (cfC c v) 47)
 have hb2 := hb1.trans ((below_alloc (w.alloc (.cells (cfC c v) 47)) (.cells zero3 79)).mono hb1.size)
 have cl := look_all ((w.alloc (.cells (cfC c v) 47)).alloc (.cells zero3 79)) c v (h.below hb2) hl
 generalize cfC c v = C at *
 generalize allF c = o at *
 have hfin : ∀ w1 w2, Below ((w.alloc (.cells C 47)).alloc (.cells zero3 79)).heap.size ((w.alloc (.cells C 47)).alloc (.cells zero3 79)) w1 → Below w1.heap.size w1 w2 → w2.heap[w.heap.size + 1]? = some (.cells zero3 79 (0, 0)) ∧ Below w.heap.size w w2 := fun w1 w2 h1 h2 => by
  have h12 := h1.trans (h2.mono h1.size)
  exact ⟨(h12.block _ (heap_lt hR0)).trans hR0, hb2.trans (h12.mono hb2.size)⟩
 cases o with
 | none =>
  have cv := verdict_nil
  go_enter Tryz.func32, Tryz.ntmps32
  go_wp2_with (first | (refine wpList_load_row rfl 47 _ rfl w.heap.size rfl 47 _ (0, 0) _ hV0 Tryz.underlying47 rfl hi18 ?_) | (go_at_call 77; refine cl.mono ?_; rintro e w1 ⟨rfl, hb3⟩) | (go_at_call 76; refine (cv _).mono ?_; rintro e w2 ⟨he, hb4⟩; rw [show vdC none = #[I 0, S [], I 0] from rfl] at he; subst he; obtain ⟨hv2, hbw2⟩ := hfin _ _ hb3 hb4; obtain ⟨y0, y1, y2, fz⟩ := varV hv2))
  exact fin_vd Tryz.results32 w w2 none _ _ _ rfl (w.heap.size + 1) (by omega) _ hv2 hbw2 rfl
 | some r =>
  obtain ⟨cd, wd, ix⟩ := r
  have cv := fun W (hW : Below w.heap.size w W) q hq => verdict_ref W (hE.below hW) q cd ix wd hq
  go_enter Tryz.func32, Tryz.ntmps32
  go_wp2_with (first | (refine wpList_load_row rfl 47 _ rfl w.heap.size rfl 47 _ (0, 0) _ hV0 Tryz.underlying47 rfl hi18 ?_) | (go_at_call 77; refine cl.mono ?_; rintro e w1 ⟨b, rfl, hr1, hr2, hb3⟩) | (go_at_call 76; refine (cv _ (hb2.trans (hb3.mono hb2.size)) _ hr2).mono ?_; rintro e w2 ⟨he, hb4⟩; rw [show vdC (some (cd, wd, ix)) = #[I cd, S wd, I ix] from rfl] at he; subst he; obtain ⟨hv2, hbw2⟩ := hfin _ _ hb3 hb4; obtain ⟨y0, y1, y2, fz⟩ := varV hv2))
  exact fin_vd Tryz.results32 w w2 (some (cd, wd, ix)) _ _ _ rfl (w.heap.size + 1) (by omega) _ hv2 hbw2 rfl
end Go.Proofs.YtmidaeljeoifdaaGreatDoor
