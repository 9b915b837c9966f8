import Derived.Test.YtpbnpmeigdjfdaaGreatDoorXKrt2
import Derived.LaidEql
import Derived.Stop.Asserts
import Derived.RowKitTokens
import Derived.Test.YtpbnpmeigdjfdaaGreatDoorXKvd
namespace Go.Proofs.YtpbnpmeigdjfdaaGreatDoor
open Go.Extern Go.Extern.Stop Go.RowKit Go.Stop
set_option linter.unusedSimpArgs false
set_option linter.unusedVariables false
set_option maxHeartbeats 16000000
set_option maxRecDepth 100000
theorem as_nil (t : Value) (w : World) :
  Calls Tryz.prog 51 #[.nilIface, t] w fun e w' => e = .returned (.bool false) ∧ w' = w := by
 go_enter Tryz.func51, Tryz.ntmps51
 go_wp2
 go_ret
 exact ⟨rfl, rfl⟩
theorem as_valueOf27 (t : Addr) (w : World) : (ReflectliteValue.unpack (.iface 119 (.pointer (some t)))).run Tryz.prog w
  = .ok (.agg #[.pointer (some ⟨1, 119, none⟩), .pointer (some ⟨w.heap.size, 0, none⟩), .int .u64 150]) (w.alloc (.cells #[.pointer (some t)] 119)) := by kernel_rfl
theorem as_type27 (a : Addr) (w : World) : (ReflectliteValue.methodAny (ReflectliteValue.valueError "reflectlite.Value.Type" 0) (fun t _ _ _ => ReflectliteType.toType t) #[.agg #[.pointer (some ⟨1, 119, none⟩), .pointer (some a), .int .u64 150]]).run Tryz.prog w
  = .ok (.iface 189 (.agg #[.pointer (some ⟨1, 119, none⟩)])) w := by kernel_rfl
theorem as_methodKind (h : Value) (w : World) : (Go.method 371 189 (.agg #[h]) "Kind").run Tryz.prog w = .ok (207, h) w := by kernel_rfl
theorem as_kind27 (w : World) : ((ReflectliteType.abiMethod fun t => (fun a : Nat => Value.int IntKind.u8 (a : Int)) <$> Rtype.kind t) #[.pointer (some ⟨1, 119, none⟩)]).run Tryz.prog w = .ok (.int .u8 22) w := by kernel_rfl
theorem as_kind25 (w : World) : ((ReflectliteType.abiMethod fun t => (fun a : Nat => Value.int IntKind.u8 (a : Int)) <$> Rtype.kind t) #[.pointer (some ⟨1, 117, none⟩)]).run Tryz.prog w = .ok (.int .u8 22) w := by kernel_rfl
theorem rlm (z : Sem Value) (f : TypeId → Addr → Nat → Nat → Sem Value) (v : Value) :
  ReflectliteValue.method z f #[v] = (do match ← ReflectliteValue.parts v with | none => z | some (t, a, fl) => f t a fl (fl % 32)) := rfl
theorem as_parts27 (a : Addr) (w : World) : (ReflectliteValue.parts (.agg #[.pointer (some ⟨1, 119, none⟩), .pointer (some a), .int .u64 150])).run Tryz.prog w = .ok (some (119, a, 150)) w := by kernel_rfl
theorem as_isNil27 (a p : Addr) (W : World) (ha : W.cell? a = some (.pointer (some p))) :
  (ReflectliteValue.method (ReflectliteValue.valueError "reflectlite.Value.IsNil" 0) ReflectliteValue.isNil #[.agg #[.pointer (some ⟨1, 119, none⟩), .pointer (some a), .int .u64 150]]).run Tryz.prog W = .ok (.bool false) W := by
 rw [rlm]
 simp only [Sem.run_bind, as_parts27, Result.andThen]
 simp [ReflectliteValue.isNil, loadVar, isAgg, underlying, Tryz.underlying119, ha, Result.andThen]
theorem as_methodElem (h : Value) (w : World) : (Go.method 371 189 (.agg #[h]) "Elem").run Tryz.prog w = .ok (217, .agg #[h]) w := by kernel_rfl
theorem as_methodImplements (h : Value) (w : World) : (Go.method 371 189 (.agg #[h]) "Implements").run Tryz.prog w = .ok (218, .agg #[h]) w := by kernel_rfl
theorem as_methodAssignableTo (h : Value) (w : World) : (Go.method 371 189 (.agg #[h]) "AssignableTo").run Tryz.prog w = .ok (215, .agg #[h]) w := by kernel_rfl
theorem as_elem27 (w : World) : (ReflectliteType.method ReflectliteType.elem #[.agg #[.pointer (some ⟨1, 119, none⟩)]]).run Tryz.prog w = .ok (.iface 189 (.agg #[.pointer (some ⟨1, 117, none⟩)])) w := by kernel_rfl
theorem as_implements25 (w : World) : (ReflectliteType.relation "Implements" ReflectliteType.implements_ #[.agg #[.pointer (some ⟨1, 117, none⟩)], .iface 189 (.agg #[.pointer (some ⟨1, 106, none⟩)])]).run Tryz.prog w = .ok (.bool true) w := by kernel_rfl
theorem as_typeOf25 (v : Value) (w : World) : (ReflectliteType.typeOf #[.iface 117 v]).run Tryz.prog w = .ok (.iface 189 (.agg #[.pointer (some ⟨1, 117, none⟩)])) w := by kernel_rfl
theorem as_assignable25 (w : World) : (ReflectliteType.relation "AssignableTo" ReflectliteType.assignableTo #[.agg #[.pointer (some ⟨1, 117, none⟩)], .iface 189 (.agg #[.pointer (some ⟨1, 117, none⟩)])]).run Tryz.prog w = .ok (.bool true) w := by kernel_rfl
theorem as_valueOf25 (e : Addr) (w : World) : (ReflectliteValue.unpack (.iface 117 (.pointer (some e)))).run Tryz.prog w
  = .ok (.agg #[.pointer (some ⟨1, 117, none⟩), .pointer (some ⟨w.heap.size, 0, none⟩), .int .u64 150]) (w.alloc (.cells #[.pointer (some e)] 117)) := by kernel_rfl
theorem as_elemOf27 (w : World) : (Rtype.elem? 119).run Tryz.prog w = .ok (some 117) w := by kernel_rfl
theorem as_mk25 (p : Addr) (w : World) : (ReflectliteValue.mk 117 p ReflectliteValue.flagAddr).run Tryz.prog w = .ok (.agg #[.pointer (some ⟨1, 117, none⟩), .pointer (some p), .int .u64 406]) w := by kernel_rfl
theorem as_elemV27 (a p : Addr) (W : World) (ha : W.cell? a = some (.pointer (some p))) :
  (ReflectliteValue.method (ReflectliteValue.valueError "reflectlite.Value.Elem" 0) ReflectliteValue.elem #[.agg #[.pointer (some ⟨1, 119, none⟩), .pointer (some a), .int .u64 150]]).run Tryz.prog W
   = .ok (.agg #[.pointer (some ⟨1, 117, none⟩), .pointer (some p), .int .u64 406]) W := by
 rw [rlm]
 simp only [Sem.run_bind, as_parts27, Result.andThen]
 simp [ReflectliteValue.elem, loadVar, isAgg, underlying, Tryz.underlying119, ha, Result.andThen, as_elemOf27, as_mk25]
theorem rls (v x : Value) : ReflectliteValue.set #[v, x] = (do
  let (some (dst, a, fl), some (src, b, _)) := (← ReflectliteValue.parts v, ← ReflectliteValue.parts x)
   | unsupported (.noEntry "extern/(internal/reflectlite.Value).Set.zeroValue")
  if fl / ReflectliteValue.flagAddr % 2 == 0 then unsupported (.noEntry "extern/(internal/reflectlite.Value).Set.unaddressable")
  let val ← loadVar src b
  if ← Rtype.directlyAssignable dst src then storeVar dst a val
  else if ← Rtype.implements dst src then
   if (← Rtype.kind src) == 20 then
    match val with
    | .nilIface => unsupported (.noEntry "extern/reflectlite: a nil value of one interface type handed on as a value of another")
    | _ => storeVar dst a val
   else storeVar dst a (.iface src val)
  else panicString ("reflectlite.Set: value of type " ++ (← Rtype.spelt src) ++ " is not assignable to type " ++ (← Rtype.spelt dst))
  pure (.tuple #[])) := rfl
theorem as_parts25a (a : Addr) (w : World) : (ReflectliteValue.parts (.agg #[.pointer (some ⟨1, 117, none⟩), .pointer (some a), .int .u64 406])).run Tryz.prog w = .ok (some (117, a, 406)) w := by kernel_rfl
theorem as_parts25 (a : Addr) (w : World) : (ReflectliteValue.parts (.agg #[.pointer (some ⟨1, 117, none⟩), .pointer (some a), .int .u64 150])).run Tryz.prog w = .ok (some (117, a, 150)) w := by kernel_rfl
theorem as_direct25 (w : World) : (Rtype.directlyAssignable 117 117).run Tryz.prog w = .ok true w := by kernel_rfl
theorem as_set25 (ta b e : Addr) (old : Value) (W : World) (hb : W.cell? b = some (.pointer (some e))) (ht : W.cell? ta = some old) (hf : W.frozen? ta = false) :
  (ReflectliteValue.set #[.agg #[.pointer (some ⟨1, 117, none⟩), .pointer (some ta), .int .u64 406], .agg #[.pointer (some ⟨1, 117, none⟩), .pointer (some b), .int .u64 150]]).run Tryz.prog W
   = .ok (.tuple #[]) (W.setCell ta (.pointer (some e))) := by
 rw [rls]
 simp only [Sem.run_bind, as_parts25a, as_parts25, Result.andThen]
 simp [ReflectliteValue.flagAddr, loadVar, isAgg, underlying, Tryz.underlying117, hb, Result.andThen, as_direct25, storeVar, Value.cells, storeCells, Addr.add]
 rw [run_store Tryz.prog W ta _ _ (by rfl)]
 simp [ht, hf]
theorem as_hit (e t : Addr) (old : Value) (w : World) (hg : w.cell? ⟨0, 0, none⟩ = some (.iface 189 (.agg #[.pointer (some ⟨1, 106, none⟩)]))) (ht0 : w.cell? t = some old) (hf0 : w.frozen? t = false) :
  Calls Tryz.prog 51 #[.iface 117 (.pointer (some e)), .iface 119 (.pointer (some t))] w fun ev w' => ev = .returned (.bool true) ∧ w' = ((((w.alloc (.cells #[.pointer (some t)] 119)).alloc (.cells #[.pointer (some ⟨1, 119, none⟩), .pointer (some ⟨w.heap.size, 0, none⟩), .int .u64 150] 144)).alloc (.cells #[.pointer (some ⟨1, 119, none⟩), .pointer (some ⟨w.heap.size, 0, none⟩), .int .u64 150] 144)).alloc (.cells #[.pointer (some e)] 117)).setCell t (.pointer (some e)) := by
 have h6 := @run_callFunc_extern Tryz.prog 65 _ (fun args => ReflectliteValue.unpack (args.getD 0 (.tuple #[]))) Tryz.func65 (by kernel_rfl) (by kernel_rfl) (by kernel_rfl) (by kernel_rfl)
 have h7 := @run_callFunc_extern Tryz.prog 66 _ (ReflectliteValue.methodAny (ReflectliteValue.valueError "reflectlite.Value.Type" 0) (fun t _ _ _ => ReflectliteType.toType t)) Tryz.func66 (by kernel_rfl) (by kernel_rfl) (by kernel_rfl) (by kernel_rfl)
 have h8 := @run_callFunc_extern Tryz.prog 67 _ (ReflectliteValue.method (ReflectliteValue.valueError "reflectlite.Value.IsNil" 0) ReflectliteValue.isNil) Tryz.func67 (by kernel_rfl) (by kernel_rfl) (by kernel_rfl) (by kernel_rfl)
 have h27 := @run_callFunc_extern Tryz.prog 207 _ (ReflectliteType.abiMethod fun t => do pure (.int .u8 (← Rtype.kind t))) Tryz.func207 (by kernel_rfl) (by kernel_rfl) (by kernel_rfl) (by kernel_rfl)
 have h37 := @run_callFunc_extern Tryz.prog 217 _ (ReflectliteType.method ReflectliteType.elem) Tryz.func217 (by kernel_rfl) (by kernel_rfl) (by kernel_rfl) (by kernel_rfl)
 have h38 := @run_callFunc_extern Tryz.prog 218 _ (ReflectliteType.relation "Implements" ReflectliteType.implements_) Tryz.func218 (by kernel_rfl) (by kernel_rfl) (by kernel_rfl) (by kernel_rfl)
 have h10 := @run_callFunc_extern Tryz.prog 109 _ ReflectliteType.typeOf Tryz.func109 (by kernel_rfl) (by kernel_rfl) (by kernel_rfl) (by kernel_rfl)
 have h35 := @run_callFunc_extern Tryz.prog 215 _ (ReflectliteType.relation "AssignableTo" ReflectliteType.assignableTo) Tryz.func215 (by kernel_rfl) (by kernel_rfl) (by kernel_rfl) (by kernel_rfl)
 have h11 := @run_callFunc_extern Tryz.prog 110 _ (ReflectliteValue.method (ReflectliteValue.valueError "reflectlite.Value.Elem" 0) ReflectliteValue.elem) Tryz.func110 (by kernel_rfl) (by kernel_rfl) (by kernel_rfl) (by kernel_rfl)
 have h12 := @run_callFunc_extern Tryz.prog 111 _ ReflectliteValue.set Tryz.func111 (by kernel_rfl) (by kernel_rfl) (by kernel_rfl) (by kernel_rfl)
 have tO := as_typeOf25
 have mA := as_methodAssignableTo
 have a25 := as_assignable25
 have v25 := as_valueOf25
 have f6 := as_valueOf27
 have f7 := as_type27
 have mK := as_methodKind
 have mE := as_methodElem
 have mI := as_methodImplements
 have k27 := as_kind27
 have k25 := as_kind25
 have e27 := as_elem27
 have i25 := as_implements25
 have n8 := as_isNil27 ⟨w.heap.size, 0, none⟩ t ((w.alloc (.cells #[.pointer (some t)] 119)).alloc (.cells #[.pointer (some ⟨1, 119, none⟩), .pointer (some ⟨w.heap.size, 0, none⟩), .int .u64 150] 144)) (by simp)
 have hlt : 0 < w.heap.size := World.block_lt_of_cell? w _ hg
 have hg2 : ((w.alloc (.cells #[.pointer (some t)] 119)).alloc (.cells #[.pointer (some ⟨1, 119, none⟩), .pointer (some ⟨w.heap.size, 0, none⟩), .int .u64 150] 144)).cell? ⟨0, 0, none⟩ = some (.iface 189 (.agg #[.pointer (some ⟨1, 106, none⟩)])) := by
  rw [World.cell?_alloc_lt _ _ ⟨0, 0, none⟩ (by simp <;> omega), World.cell?_alloc_lt _ _ ⟨0, 0, none⟩ hlt]; exact hg
 have htl : t.block < w.heap.size := by
  rcases Nat.lt_or_ge t.block w.heap.size with h | h
  ·exact h
  ·simp [World.cell?, Array.getElem?_eq_none h] at ht0
 have el := as_elemV27 ⟨w.heap.size, 0, none⟩ t (((w.alloc (.cells #[.pointer (some t)] 119)).alloc (.cells #[.pointer (some ⟨1, 119, none⟩), .pointer (some ⟨w.heap.size, 0, none⟩), .int .u64 150] 144)).alloc (.cells #[.pointer (some ⟨1, 119, none⟩), .pointer (some ⟨w.heap.size, 0, none⟩), .int .u64 150] 144)) (by rw [World.cell?_alloc_lt _ _ ⟨w.heap.size, 0, none⟩ (by simp; omega)]; simp)
 have st := as_set25 t ⟨w.heap.size + 1 + 1 + 1, 0, none⟩ e old ((((w.alloc (.cells #[.pointer (some t)] 119)).alloc (.cells #[.pointer (some ⟨1, 119, none⟩), .pointer (some ⟨w.heap.size, 0, none⟩), .int .u64 150] 144)).alloc (.cells #[.pointer (some ⟨1, 119, none⟩), .pointer (some ⟨w.heap.size, 0, none⟩), .int .u64 150] 144)).alloc (.cells #[.pointer (some e)] 117))
  (by rw [World.cell?_alloc_at _ _ _ _ (by simp)]; rfl)
  (by rw [World.cell?_alloc_lt _ _ t (by simp; omega), World.cell?_alloc_lt _ _ t (by simp; omega), World.cell?_alloc_lt _ _ t (by simp; omega), World.cell?_alloc_lt _ _ t htl]; exact ht0)
  (by rw [World.frozen?_alloc_old _ _ t (by simp; omega), World.frozen?_alloc_old _ _ t (by simp; omega), World.frozen?_alloc_old _ _ t (by simp; omega), World.frozen?_alloc_old _ _ t (Nat.ne_of_lt htl)]; exact hf0)
 go_enter Tryz.func51, Tryz.ntmps51
 go_wp2
 refine wp_loop_rounds 1 ?_
 rw [rounds_succ]
 go_wp2
 go_ret
 exact ⟨rfl, rfl⟩
end Go.Proofs.YtpbnpmeigdjfdaaGreatDoor
namespace Go.Proofs.YtpbnpmeigdjfdaaGreatDoor
open Go.RowKit
set_option linter.unusedSimpArgs false
set_option linter.unusedVariables false
set_option maxHeartbeats 16000000
set_option maxRecDepth 100000
def EnvE (w : World) : Prop := w.cell? ⟨0, 0, none⟩ = some (.iface 189 (.agg #[.pointer (some ⟨1, 106, none⟩)]))
theorem EnvE.below {w w' : World} (h : EnvE w) (hb : Below w.heap.size w w') : EnvE w' := by
 show w'.cell? _ = _
 rw [cell_below hb _ _ (World.block_lt_of_cell? w _ h)]
 exact h
def zero3 : Array Value := #[.int .i64 0, .string ⟨#[]⟩, .int .i64 0]
def set3 (w : World) (b : Nat) (v0 v1 v2 : Value) : World := ((w.setCell ⟨b, 0, none⟩ v0).setCell ⟨b, 1, none⟩ v1).setCell ⟨b, 2, none⟩ v2
theorem set3_at (w : World) (b : Nat) (t : TypeId) (o0 o1 o2 v0 v1 v2 : Value) (k : w.heap[b]? = some (.cells #[o0, o1, o2] t (0, 0))) : (set3 w b v0 v1 v2).heap[b]? = some (.cells #[v0, v1, v2] t (0, 0)) := by
 unfold set3
 have h0 : (w.setCell ⟨b, 0, none⟩ v0).heap[b]? = some (.cells #[v0, o1, o2] t (0, 0)) := heap_setCell_same _ b 0 _ t _ k
 generalize w.setCell ⟨b, 0, none⟩ v0 = w0 at *
 have h1 : (w0.setCell ⟨b, 1, none⟩ v1).heap[b]? = some (.cells #[v0, v1, o2] t (0, 0)) := heap_setCell_same _ b 1 _ t _ h0
 generalize w0.setCell ⟨b, 1, none⟩ v1 = w1 at *
 exact heap_setCell_same _ b 2 _ t _ h1
theorem below_set3 {B : Nat} {w W : World} (h : Below B w W) {b : Nat} {v0 v1 v2 : Value} (hb : B ≤ b) (hs : B ≤ W.heap.size) : Below B w (set3 W b v0 v1 v2) := by
 unfold set3
 refine below_set (below_set (below_set h hb hs) hb ?_) hb ?_
 ·exact Nat.le_trans hs (grown_set W b 0 v0).size
 ·exact Nat.le_trans (Nat.le_trans hs (grown_set W b 0 v0).size) (grown_set _ b 1 v1).size
theorem res_vd {fn : Func} {n : Nat} (hf : fn.results = #[.cell n 86]) (tmps : Array Value) (b : Nat) (w : World) (v0 v1 v2 : Value)
  (h2 : tmps[n]? = some (.pointer (some ⟨b, 0, none⟩))) (hk : w.heap[b]? = some (.cells #[v0, v1, v2] 86 (0, 0))) :
  (results fn tmps).run Tryz.prog w = .ok (.agg #[v0, v1, v2]) w := by
 have a1 := fun i => cell_of_row w b i _ _ (0, 0) hk
 have z0 := a1 0; have z1 := a1 1; have z2 := a1 2
 simp at z0 z1 z2
 simp [results, hf, go_sem, h2, z0, z1, z2]
def vdC : Option (Int × List UInt8 × Int) → Array Value
 | none => #[I 0, S [], I 0]
 | some (c, wd, i) => #[I c, S wd, I i]
def VdPost (w : World) (o : Option (Int × List UInt8 × Int)) (e : Ending) (w' : World) : Prop := e = .returned (.agg (vdC o)) ∧ Below w.heap.size w w'
theorem heap_two0 (w : World) (a b : Obj) : ((w.alloc a).alloc b).heap[w.heap.size]? = some a := by
 rw [heap_alloc_old (w.alloc a) b (by simp)]
 exact heap_alloc_new w a
theorem ref_at {w : World} {q : Nat} (hE : EnvE w) :
  Calls Tryz.prog 51 #[.iface 117 (.pointer (some ⟨q, 0, none⟩)), .iface 119 (.pointer (some ⟨w.heap.size + 1, 0, none⟩))] ((w.alloc (.cells zero3 86)).alloc (.cells #[.pointer none] 117)) fun e w' => e = .returned (.bool true) ∧ Below w.heap.size w w' ∧ w'.heap[w.heap.size]? = some (.cells zero3 86 (0, 0)) ∧ w'.cell? ⟨w.heap.size + 1, 0, none⟩ = some (.pointer (some ⟨q, 0, none⟩)) := by
 have b1 := below_alloc w (.cells zero3 86)
 have b2 : Below w.heap.size w ((w.alloc (.cells zero3 86)).alloc (.cells #[.pointer none] 117)) := b1.trans ((below_alloc _ _).mono b1.size)
 have hv := heap_two0 w (.cells zero3 86) (.cells #[.pointer none] 117)
 have ht := heap_two w (.cells zero3 86) (.cells #[.pointer none] 117)
 have hE2 : EnvE ((w.alloc (.cells zero3 86)).alloc (.cells #[.pointer none] 117)) := hE.below b2
 generalize ((w.alloc (.cells zero3 86)).alloc (.cells #[.pointer none] 117)) = w0 at *
 refine (as_hit ⟨q, 0, none⟩ ⟨w.heap.size + 1, 0, none⟩ (.pointer none) w0 hE2 (by rw [cell_of_row w0 _ 0 _ _ (0, 0) ht]; rfl) (frozen_of_row w0 _ 0 _ _ ht)).mono ?_
 rintro e w' ⟨rfl, rfl⟩
 have hl := heap_lt ht
 have b3 := ((((Below.refl w0.heap.size w0).alloc (Nat.le_refl _) (.cells #[.pointer (some ⟨w.heap.size + 1, 0, none⟩)] 119)).alloc (by simp) (.cells #[.pointer (some ⟨1, 119, none⟩), .pointer (some ⟨w0.heap.size, 0, none⟩), .int .u64 150] 144)).alloc (by simp; omega) (.cells #[.pointer (some ⟨1, 119, none⟩), .pointer (some ⟨w0.heap.size, 0, none⟩), .int .u64 150] 144)).alloc (by simp; omega) (.cells #[.pointer (some ⟨q, 0, none⟩)] 117)
 generalize ((((w0.alloc (.cells #[.pointer (some ⟨w.heap.size + 1, 0, none⟩)] 119)).alloc (.cells #[.pointer (some ⟨1, 119, none⟩), .pointer (some ⟨w0.heap.size, 0, none⟩), .int .u64 150] 144)).alloc (.cells #[.pointer (some ⟨1, 119, none⟩), .pointer (some ⟨w0.heap.size, 0, none⟩), .int .u64 150] 144)).alloc (.cells #[.pointer (some ⟨q, 0, none⟩)] 117)) = w4 at *
 have ht4 := (b3.block _ hl).trans ht
 have hv4 := (b3.block _ (heap_lt hv)).trans hv
 have g4 := grown_set w4 (w.heap.size + 1) 0 (.pointer (some ⟨q, 0, none⟩))
 have b4 : Below w.heap.size w w4 := b2.trans (b3.mono b2.size)
 refine ⟨rfl, b4.trans (below_of_grown g4 (by omega) b4.size), (g4.block _ (heap_lt hv4) (fun e => absurd (Option.some.inj e) (by omega))).trans hv4, ?_⟩
 rw [cell_of_row _ _ 0 _ _ (0, 0) (heap_setCell_same w4 (w.heap.size + 1) 0 _ _ _ ht4)]
 rfl
theorem nil_at {w : World} (v : Value) :
  Calls Tryz.prog 51 #[.nilIface, v] ((w.alloc (.cells zero3 86)).alloc (.cells #[.pointer none] 117)) fun e w' => e = .returned (.bool false) ∧ Below w.heap.size w w' ∧ w'.heap[w.heap.size]? = some (.cells zero3 86 (0, 0)) := by
 refine (as_nil _ _).mono ?_
 rintro e w' ⟨rfl, rfl⟩
 have b1 := below_alloc w (.cells zero3 86)
 exact ⟨rfl, b1.trans ((below_alloc _ _).mono b1.size), heap_two0 w _ _⟩
theorem varV {w : World} {b : Nat} (h : w.heap[b]? = some (.cells zero3 86 (0, 0))) : w.cell? ⟨b, 0, none⟩ = some (.int .i64 0) ∧ w.cell? ⟨b, 1, none⟩ = some (.string ⟨#[]⟩) ∧ w.cell? ⟨b, 2, none⟩ = some (.int .i64 0) ∧ ∀ i, w.frozen? ⟨b, i, none⟩ = false := by
 have a1 := fun i => cell_of_row w b i _ _ (0, 0) h
 exact ⟨a1 0, a1 1, a1 2, fun i => frozen_of_row w b i _ _ h⟩
theorem fin_vd {fn : Func} {n : Nat} (hf : fn.results = #[.cell n 86]) (w w3 : World) (o : Option (Int × List UInt8 × Int)) (v0 v1 v2 : Value) (ho : vdC o = #[v0, v1, v2]) (b : Nat) (hbb : w.heap.size ≤ b) (tmps : Array Value)
  (hv : w3.heap[b]? = some (.cells zero3 86 (0, 0))) (hb : Below w.heap.size w w3) (h2 : tmps[n]? = some (.pointer (some ⟨b, 0, none⟩))) :
  bodyPost Tryz.prog fn (fun e w' => VdPost w o e w') .ret { tmps := tmps, defers := [] } (set3 w3 b v0 v1 v2) := by
 refine bodyPost_ret (res_vd hf tmps b _ _ _ _ h2 (set3_at w3 b _ _ _ _ _ _ _ hv)) rfl ?_
 exact ⟨by rw [ho], below_set3 hb hbb hb.size⟩
theorem verdict_nil (w : World) : Calls Tryz.prog 40 #[.nilIface] w fun e w' => VdPost w none e w' := by
 go_enter Tryz.func40, Tryz.ntmps40
 go_wp2_with (go_at_call 51; refine (nil_at _).mono ?_; rintro e w1 ⟨rfl, hb1, hv1⟩; obtain ⟨y0, y1, y2, fz⟩ := varV hv1)
 exact fin_vd Tryz.results40 w w1 none _ _ _ rfl w.heap.size (Nat.le_refl _) _ hv1 hb1 rfl
theorem verdict_ref (w : World) (hE : EnvE w) (q : Nat) (c id : Int) (wd : List UInt8) (hq : w.heap[q]? = some (.cells #[I c, S wd, I id] 121 (0, 0))) :
  Calls Tryz.prog 40 #[.iface 117 (.pointer (some ⟨q, 0, none⟩))] w fun e w' => VdPost w (some (c, wd, id)) e w' := by
 have hql := heap_lt hq
 have hcs : ∀ W, Below w.heap.size w W → W.cell? ⟨q, 0, none⟩ = some (I c) ∧ W.cell? ⟨q, 1, none⟩ = some (S wd) ∧ W.cell? ⟨q, 2, none⟩ = some (I id) := fun W hW => by
  have a1 := fun i => cell_of_row W q i _ _ (0, 0) ((hW.block q hql).trans hq)
  exact ⟨a1 0, a1 1, a1 2⟩
 clear hq
 go_enter Tryz.func40, Tryz.ntmps40
 go_wp2_with (go_at_call 51; refine (ref_at hE).mono ?_; rintro e w1 ⟨rfl, hb1, hv1, ht1⟩; obtain ⟨y0, y1, y2, fz⟩ := varV hv1; obtain ⟨x0, x1, x2⟩ := hcs w1 hb1)
 exact fin_vd Tryz.results40 w w1 (some (c, wd, id)) _ _ _ rfl w.heap.size (Nat.le_refl _) _ hv1 hb1 rfl
theorem check_any (w : World) (c : Cf) (v : Vs) (h : CfAt w c v) (hl : LensOK c) (hE : EnvE w) : Calls Tryz.prog 25 #[.agg (cfC c v)] w fun e w' => VdPost w (allF c) e w' := by
 have hi18 : (Tryz.prog.info? 33).map (·.size) = some (cfC c v).size := by rw [show (cfC c v).size = 18 from rfl]; kernel_rfl
 have hV0 := heap_two0 w (.cells (cfC c v) 33) (.cells zero3 86)
 have hR0 := heap_two w (.cells (cfC c v) 33) (.cells zero3 86)
 have hb1 := below_alloc w (.cells (cfC c v) 33)
 have hb2 := hb1.trans ((below_alloc (w.alloc (.cells (cfC c v) 33)) (.cells zero3 86)).mono hb1.size)
 have cl := look_all ((w.alloc (.cells (cfC c v) 33)).alloc (.cells zero3 86)) c v (h.below hb2) hl
 generalize cfC c v = C at *
 generalize allF c = o at *
 have hfin : ∀ w1 w2, Below ((w.alloc (.cells C 33)).alloc (.cells zero3 86)).heap.size ((w.alloc (.cells C 33)).alloc (.cells zero3 86)) w1 → Below w1.heap.size w1 w2 → w2.heap[w.heap.size + 1]? = some (.cells zero3 86 (0, 0)) ∧ Below w.heap.size w w2 := fun w1 w2 h1 h2 => by
  have h12 := h1.trans (h2.mono h1.size)
  exact ⟨(h12.block _ (heap_lt hR0)).trans hR0, hb2.trans (h12.mono hb2.size)⟩
 cases o with
 | none =>
  have cv := verdict_nil
  go_enter Tryz.func25, Tryz.ntmps25
  go_wp2_with (first | (refine wpList_load_row rfl 33 _ rfl w.heap.size rfl 33 _ (0, 0) _ hV0 Tryz.underlying33 rfl hi18 ?_) | (go_at_call 41; refine cl.mono ?_; rintro e w1 ⟨rfl, hb3⟩) | (go_at_call 40; refine (cv _).mono ?_; rintro e w2 ⟨he, hb4⟩; rw [show vdC none = #[I 0, S [], I 0] from rfl] at he; subst he; obtain ⟨hv2, hbw2⟩ := hfin _ _ hb3 hb4; obtain ⟨y0, y1, y2, fz⟩ := varV hv2))
  exact fin_vd Tryz.results25 w w2 none _ _ _ rfl (w.heap.size + 1) (by omega) _ hv2 hbw2 rfl
 | some r =>
  obtain ⟨cd, wd, ix⟩ := r
  have cv := fun W (hW : Below w.heap.size w W) q hq => verdict_ref W (hE.below hW) q cd ix wd hq
  go_enter Tryz.func25, Tryz.ntmps25
  go_wp2_with (first | (refine wpList_load_row rfl 33 _ rfl w.heap.size rfl 33 _ (0, 0) _ hV0 Tryz.underlying33 rfl hi18 ?_) | (go_at_call 41; refine cl.mono ?_; rintro e w1 ⟨b, rfl, hr1, hr2, hb3⟩) | (go_at_call 40; refine (cv _ (hb2.trans (hb3.mono hb2.size)) _ hr2).mono ?_; rintro e w2 ⟨he, hb4⟩; rw [show vdC (some (cd, wd, ix)) = #[I cd, S wd, I ix] from rfl] at he; subst he; obtain ⟨hv2, hbw2⟩ := hfin _ _ hb3 hb4; obtain ⟨y0, y1, y2, fz⟩ := varV hv2))
  exact fin_vd Tryz.results25 w w2 (some (cd, wd, ix)) _ _ _ rfl (w.heap.size + 1) (by omega) _ hv2 hbw2 rfl
end Go.Proofs.YtpbnpmeigdjfdaaGreatDoor
