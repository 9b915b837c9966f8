import Derived.Test.YtmidaeljeoifdaaGreatDoorXKrv
import Derived.LaidEql
import Derived.Stop.Asserts
import Derived.RowKitTokens
import Derived.Test.YtmidaeljeoifdaaGreatDoorXKvd
import Derived.Test.YtmidaeljeoifdaaGreatDoorXKat
import Derived.OpenShut
import Derived.Deep.Strs
import Derived.SizedLaws
import Derived.ChangeOld
import Derived.Test.YtmidaeljeoifdaaGreatDoorXKrd
namespace Go.Proofs.YtmidaeljeoifdaaGreatDoor
open Go.RowKit Go.Extern.Stop Go.Stop Go.Extern
set_option linter.unusedVariables false

theorem as_nil (t : Value) (w : World) :
    Calls Tryz.prog 122 #[.nilIface, t] w fun e w' => e = .returned (.bool false) ∧ w' = w := by
  go_enter Tryz.func122, Tryz.ntmps122
  go_wp2
  go_ret
  exact ⟨rfl, rfl⟩

theorem as_valueOf27 (t : Addr) (w : World) : (ReflectliteValue.unpack (.iface 191 (.pointer (some t)))).run Tryz.prog w
    = .ok (.agg #[.pointer (some ⟨1, 191, none⟩), .pointer (some ⟨w.heap.size, 0, none⟩), .int .u64 150]) (w.alloc (.cells #[.pointer (some t)] 191)) := by kernel_rfl
theorem as_type27 (a : Addr) (w : World) : (ReflectliteValue.methodAny (ReflectliteValue.valueError "reflectlite.Value.Type" 0) (fun t _ _ _ => ReflectliteType.toType t) #[.agg #[.pointer (some ⟨1, 191, none⟩), .pointer (some a), .int .u64 150]]).run Tryz.prog w
    = .ok (.iface 265 (.agg #[.pointer (some ⟨1, 191, none⟩)])) w := by kernel_rfl
theorem as_methodKind (h : Value) (w : World) : (Go.method 458 265 (.agg #[h]) "Kind").run Tryz.prog w = .ok (319, h) w := by kernel_rfl
theorem as_kind27 (w : World) : ((ReflectliteType.abiMethod fun t => (fun a : Nat => Value.int IntKind.u8 (a : Int)) <$> Rtype.kind t) #[.pointer (some ⟨1, 191, none⟩)]).run Tryz.prog w = .ok (.int .u8 22) w := by kernel_rfl
theorem as_kind25 (w : World) : ((ReflectliteType.abiMethod fun t => (fun a : Nat => Value.int IntKind.u8 (a : Int)) <$> Rtype.kind t) #[.pointer (some ⟨1, 189, none⟩)]).run Tryz.prog w = .ok (.int .u8 22) w := by kernel_rfl

theorem rlm (z : Sem Value) (f : TypeId → Addr → Nat → Nat → Sem Value) (v : Value) :
    ReflectliteValue.method z f #[v] = (do match ← ReflectliteValue.parts v with | none => z | some (t, a, fl) => f t a fl (fl % 32)) := rfl
theorem as_parts27 (a : Addr) (w : World) : (ReflectliteValue.parts (.agg #[.pointer (some ⟨1, 191, none⟩), .pointer (some a), .int .u64 150])).run Tryz.prog w = .ok (some (191, a, 150)) w := by kernel_rfl
theorem as_isNil27 (a p : Addr) (W : World) (ha : W.cell? a = some (.pointer (some p))) :
    (ReflectliteValue.method (ReflectliteValue.valueError "reflectlite.Value.IsNil" 0) ReflectliteValue.isNil #[.agg #[.pointer (some ⟨1, 191, none⟩), .pointer (some a), .int .u64 150]]).run Tryz.prog W = .ok (.bool false) W := by
  rw [rlm]
  simp only [Sem.run_bind, as_parts27, Result.andThen]
  simp [ReflectliteValue.isNil, loadVar, isAgg, underlying, Tryz.underlying191, ha, Result.andThen]

theorem as_methodElem (h : Value) (w : World) : (Go.method 458 265 (.agg #[h]) "Elem").run Tryz.prog w = .ok (329, .agg #[h]) w := by kernel_rfl
theorem as_methodImplements (h : Value) (w : World) : (Go.method 458 265 (.agg #[h]) "Implements").run Tryz.prog w = .ok (330, .agg #[h]) w := by kernel_rfl
theorem as_methodAssignableTo (h : Value) (w : World) : (Go.method 458 265 (.agg #[h]) "AssignableTo").run Tryz.prog w = .ok (327, .agg #[h]) w := by kernel_rfl
theorem as_elem27 (w : World) : (ReflectliteType.method ReflectliteType.elem #[.agg #[.pointer (some ⟨1, 191, none⟩)]]).run Tryz.prog w = .ok (.iface 265 (.agg #[.pointer (some ⟨1, 189, none⟩)])) w := by kernel_rfl
theorem as_implements25 (w : World) : (ReflectliteType.relation "Implements" ReflectliteType.implements_ #[.agg #[.pointer (some ⟨1, 189, none⟩)], .iface 265 (.agg #[.pointer (some ⟨1, 149, none⟩)])]).run Tryz.prog w = .ok (.bool true) w := by kernel_rfl
theorem as_typeOf25 (v : Value) (w : World) : (ReflectliteType.typeOf #[.iface 189 v]).run Tryz.prog w = .ok (.iface 265 (.agg #[.pointer (some ⟨1, 189, none⟩)])) w := by kernel_rfl
theorem as_assignable25 (w : World) : (ReflectliteType.relation "AssignableTo" ReflectliteType.assignableTo #[.agg #[.pointer (some ⟨1, 189, none⟩)], .iface 265 (.agg #[.pointer (some ⟨1, 189, none⟩)])]).run Tryz.prog w = .ok (.bool true) w := by kernel_rfl
theorem as_valueOf25 (e : Addr) (w : World) : (ReflectliteValue.unpack (.iface 189 (.pointer (some e)))).run Tryz.prog w
    = .ok (.agg #[.pointer (some ⟨1, 189, none⟩), .pointer (some ⟨w.heap.size, 0, none⟩), .int .u64 150]) (w.alloc (.cells #[.pointer (some e)] 189)) := by kernel_rfl

theorem as_elemOf27 (w : World) : (Rtype.elem? 191).run Tryz.prog w = .ok (some 189) w := by kernel_rfl
theorem as_mk25 (p : Addr) (w : World) : (ReflectliteValue.mk 189 p ReflectliteValue.flagAddr).run Tryz.prog w = .ok (.agg #[.pointer (some ⟨1, 189, none⟩), .pointer (some p), .int .u64 406]) w := by kernel_rfl
theorem as_elemV27 (a p : Addr) (W : World) (ha : W.cell? a = some (.pointer (some p))) :
    (ReflectliteValue.method (ReflectliteValue.valueError "reflectlite.Value.Elem" 0) ReflectliteValue.elem #[.agg #[.pointer (some ⟨1, 191, none⟩), .pointer (some a), .int .u64 150]]).run Tryz.prog W
      = .ok (.agg #[.pointer (some ⟨1, 189, none⟩), .pointer (some p), .int .u64 406]) W := by
  rw [rlm]
  simp only [Sem.run_bind, as_parts27, Result.andThen]
  simp [ReflectliteValue.elem, loadVar, isAgg, underlying, Tryz.underlying191, ha, Result.andThen, as_elemOf27, as_mk25]
theorem rls (v x : Value) : ReflectliteValue.set #[v, x] = (do
    let (some (dst, a, fl), some (src, b, _)) := (← ReflectliteValue.parts v, ← ReflectliteValue.parts x)
      | unsupported (.noEntry "extern/(internal/reflectlite.Value).Set.zeroValue")
    if fl / ReflectliteValue.flagAddr % 2 == 0 then unsupported (.noEntry "extern/(internal/reflectlite.Value).Set.unaddressable")
    let val ← loadVar src b
    if ← Rtype.directlyAssignable dst src then storeVar dst a val
    else if ← Rtype.implements dst src then
      if (← Rtype.kind src) == 20 then
        match val with
        | .nilIface => unsupported (.noEntry "extern/reflectlite: a nil value of one interface type handed on as a value of another")
        | _ => storeVar dst a val
      else storeVar dst a (.iface src val)
    else panicString ("reflectlite.Set: value of type " ++ (← Rtype.spelt src) ++ " is not assignable to type " ++ (← Rtype.spelt dst))
    pure (.tuple #[])) := rfl
theorem as_parts25a (a : Addr) (w : World) : (ReflectliteValue.parts (.agg #[.pointer (some ⟨1, 189, none⟩), .pointer (some a), .int .u64 406])).run Tryz.prog w = .ok (some (189, a, 406)) w := by kernel_rfl
theorem as_parts25 (a : Addr) (w : World) : (ReflectliteValue.parts (.agg #[.pointer (some ⟨1, 189, none⟩), .pointer (some a), .int .u64 150])).run Tryz.prog w = .ok (some (189, a, 150)) w := by kernel_rfl
theorem as_direct25 (w : World) : (Rtype.directlyAssignable 189 189).run Tryz.prog w = .ok true w := by kernel_rfl
theorem as_set25 (ta b e : Addr) (old : Value) (W : World) (hb : W.cell? b = some (.pointer (some e))) (ht : W.cell? ta = some old) (hf : W.frozen? ta = false) :
    (ReflectliteValue.set #[.agg #[.pointer (some ⟨1, 189, none⟩), .pointer (some ta), .int .u64 406], .agg #[.pointer (some ⟨1, 189, none⟩), .pointer (some b), .int .u64 150]]).run Tryz.prog W
      = .ok (.tuple #[]) (W.setCell ta (.pointer (some e))) := by
  rw [rls]
  simp only [Sem.run_bind, as_parts25a, as_parts25, Result.andThen]
  simp [ReflectliteValue.flagAddr, loadVar, isAgg, underlying, Tryz.underlying189, hb, Result.andThen, as_direct25, storeVar, Value.cells, storeCells, Addr.add]
  rw [run_store Tryz.prog W ta _ _ (by rfl)]
  simp [ht, hf]

set_option maxHeartbeats 4000000 in
set_option maxRecDepth 100000 in
theorem as_hit (e t : Addr) (old : Value) (w : World) (hg : w.cell? ⟨0, 0, none⟩ = some (.iface 265 (.agg #[.pointer (some ⟨1, 149, none⟩)]))) (ht0 : w.cell? t = some old) (hf0 : w.frozen? t = false) :
    Calls Tryz.prog 122 #[.iface 189 (.pointer (some e)), .iface 191 (.pointer (some t))] w fun ev w' => ev = .returned (.bool true) ∧ w' = ((((w.alloc (.cells #[.pointer (some t)] 191)).alloc (.cells #[.pointer (some ⟨1, 191, none⟩), .pointer (some ⟨w.heap.size, 0, none⟩), .int .u64 150] 241)).alloc (.cells #[.pointer (some ⟨1, 191, none⟩), .pointer (some ⟨w.heap.size, 0, none⟩), .int .u64 150] 241)).alloc (.cells #[.pointer (some e)] 189)).setCell t (.pointer (some e)) := by
  have h6 := @run_callFunc_extern Tryz.prog 172 _ (fun args => ReflectliteValue.unpack (args.getD 0 (.tuple #[]))) Tryz.func172 (by kernel_rfl) (by kernel_rfl) (by kernel_rfl) (by kernel_rfl)
  have h7 := @run_callFunc_extern Tryz.prog 173 _ (ReflectliteValue.methodAny (ReflectliteValue.valueError "reflectlite.Value.Type" 0) (fun t _ _ _ => ReflectliteType.toType t)) Tryz.func173 (by kernel_rfl) (by kernel_rfl) (by kernel_rfl) (by kernel_rfl)
  have h8 := @run_callFunc_extern Tryz.prog 174 _ (ReflectliteValue.method (ReflectliteValue.valueError "reflectlite.Value.IsNil" 0) ReflectliteValue.isNil) Tryz.func174 (by kernel_rfl) (by kernel_rfl) (by kernel_rfl) (by kernel_rfl)
  have h27 := @run_callFunc_extern Tryz.prog 319 _ (ReflectliteType.abiMethod fun t => do pure (.int .u8 (← Rtype.kind t))) Tryz.func319 (by kernel_rfl) (by kernel_rfl) (by kernel_rfl) (by kernel_rfl)
  have h37 := @run_callFunc_extern Tryz.prog 329 _ (ReflectliteType.method ReflectliteType.elem) Tryz.func329 (by kernel_rfl) (by kernel_rfl) (by kernel_rfl) (by kernel_rfl)
  have h38 := @run_callFunc_extern Tryz.prog 330 _ (ReflectliteType.relation "Implements" ReflectliteType.implements_) Tryz.func330 (by kernel_rfl) (by kernel_rfl) (by kernel_rfl) (by kernel_rfl)
  have h10 := @run_callFunc_extern Tryz.prog 213 _ ReflectliteType.typeOf Tryz.func213 (by kernel_rfl) (by kernel_rfl) (by kernel_rfl) (by kernel_rfl)
  have h35 := @run_callFunc_extern Tryz.prog 327 _ (ReflectliteType.relation "AssignableTo" ReflectliteType.assignableTo) Tryz.func327 (by kernel_rfl) (by kernel_rfl) (by kernel_rfl) (by kernel_rfl)
  have h11 := @run_callFunc_extern Tryz.prog 214 _ (ReflectliteValue.method (ReflectliteValue.valueError "reflectlite.Value.Elem" 0) ReflectliteValue.elem) Tryz.func214 (by kernel_rfl) (by kernel_rfl) (by kernel_rfl) (by kernel_rfl)
  have h12 := @run_callFunc_extern Tryz.prog 215 _ ReflectliteValue.set Tryz.func215 (by kernel_rfl) (by kernel_rfl) (by kernel_rfl) (by kernel_rfl)
  have tO := as_typeOf25
  have mA := as_methodAssignableTo
  have a25 := as_assignable25
  have v25 := as_valueOf25
  have f6 := as_valueOf27
  have f7 := as_type27
  have mK := as_methodKind
  have mE := as_methodElem
  have mI := as_methodImplements
  have k27 := as_kind27
  have k25 := as_kind25
  have e27 := as_elem27
  have i25 := as_implements25
  have n8 := as_isNil27 ⟨w.heap.size, 0, none⟩ t ((w.alloc (.cells #[.pointer (some t)] 191)).alloc (.cells #[.pointer (some ⟨1, 191, none⟩), .pointer (some ⟨w.heap.size, 0, none⟩), .int .u64 150] 241)) (by simp)
  have hlt : 0 < w.heap.size := World.block_lt_of_cell? w _ hg
  have hg2 : ((w.alloc (.cells #[.pointer (some t)] 191)).alloc (.cells #[.pointer (some ⟨1, 191, none⟩), .pointer (some ⟨w.heap.size, 0, none⟩), .int .u64 150] 241)).cell? ⟨0, 0, none⟩ = some (.iface 265 (.agg #[.pointer (some ⟨1, 149, none⟩)])) := by
    rw [World.cell?_alloc_lt _ _ ⟨0, 0, none⟩ (by simp <;> omega), World.cell?_alloc_lt _ _ ⟨0, 0, none⟩ hlt]; exact hg
  have htl : t.block < w.heap.size := by
    rcases Nat.lt_or_ge t.block w.heap.size with h | h
    · exact h
    · simp [World.cell?, Array.getElem?_eq_none h] at ht0
  have el := as_elemV27 ⟨w.heap.size, 0, none⟩ t (((w.alloc (.cells #[.pointer (some t)] 191)).alloc (.cells #[.pointer (some ⟨1, 191, none⟩), .pointer (some ⟨w.heap.size, 0, none⟩), .int .u64 150] 241)).alloc (.cells #[.pointer (some ⟨1, 191, none⟩), .pointer (some ⟨w.heap.size, 0, none⟩), .int .u64 150] 241)) (by rw [World.cell?_alloc_lt _ _ ⟨w.heap.size, 0, none⟩ (by simp; omega)]; simp)
  have st := as_set25 t ⟨w.heap.size + 1 + 1 + 1, 0, none⟩ e old ((((w.alloc (.cells #[.pointer (some t)] 191)).alloc (.cells #[.pointer (some ⟨1, 191, none⟩), .pointer (some ⟨w.heap.size, 0, none⟩), .int .u64 150] 241)).alloc (.cells #[.pointer (some ⟨1, 191, none⟩), .pointer (some ⟨w.heap.size, 0, none⟩), .int .u64 150] 241)).alloc (.cells #[.pointer (some e)] 189))
    (by rw [World.cell?_alloc_at _ _ _ _ (by simp)]; rfl)
    (by rw [World.cell?_alloc_lt _ _ t (by simp; omega), World.cell?_alloc_lt _ _ t (by simp; omega), World.cell?_alloc_lt _ _ t (by simp; omega), World.cell?_alloc_lt _ _ t htl]; exact ht0)
    (by rw [World.frozen?_alloc_old _ _ t (by simp; omega), World.frozen?_alloc_old _ _ t (by simp; omega), World.frozen?_alloc_old _ _ t (by simp; omega), World.frozen?_alloc_old _ _ t (Nat.ne_of_lt htl)]; exact hf0)
  go_enter Tryz.func122, Tryz.ntmps122
  go_wp2
  refine wp_loop_rounds 1 ?_
  rw [rounds_succ]
  go_wp2
  go_ret
  exact ⟨rfl, rfl⟩
end Go.Proofs.YtmidaeljeoifdaaGreatDoor

namespace Go.Proofs.YtmidaeljeoifdaaGreatDoor
open Go.RowKit
set_option linter.unusedVariables false

/-! ### A verdict -/
/-- What the package's variables hold that errors.As asks. -/
def EnvE (w : World) : Prop := w.cell? ⟨0, 0, none⟩ = some (.iface 265 (.agg #[.pointer (some ⟨1, 149, none⟩)]))
theorem EnvE.below {w w' : World} (h : EnvE w) (hb : Below w.heap.size w w') : EnvE w' := by
  show w'.cell? _ = _
  rw [cell_below hb _ _ (World.block_lt_of_cell? w _ h)]
  exact h
def zero3 : Array Value := #[.int .i64 0, .string ⟨#[]⟩, .int .i64 0]
def set3 (w : World) (b : Nat) (v0 v1 v2 : Value) : World := ((w.setCell ⟨b, 0, none⟩ v0).setCell ⟨b, 1, none⟩ v1).setCell ⟨b, 2, none⟩ v2
theorem set3_at (w : World) (b : Nat) (t : TypeId) (o0 o1 o2 v0 v1 v2 : Value) (k : w.heap[b]? = some (.cells #[o0, o1, o2] t (0, 0))) : (set3 w b v0 v1 v2).heap[b]? = some (.cells #[v0, v1, v2] t (0, 0)) := by
  unfold set3
  have h0 : (w.setCell ⟨b, 0, none⟩ v0).heap[b]? = some (.cells #[v0, o1, o2] t (0, 0)) := heap_setCell_same _ b 0 _ t _ k
  generalize w.setCell ⟨b, 0, none⟩ v0 = w0 at *
  have h1 : (w0.setCell ⟨b, 1, none⟩ v1).heap[b]? = some (.cells #[v0, v1, o2] t (0, 0)) := heap_setCell_same _ b 1 _ t _ h0
  generalize w0.setCell ⟨b, 1, none⟩ v1 = w1 at *
  exact heap_setCell_same _ b 2 _ t _ h1
theorem below_set3 {B : Nat} {w W : World} (h : Below B w W) {b : Nat} {v0 v1 v2 : Value} (hb : B ≤ b) (hs : B ≤ W.heap.size) : Below B w (set3 W b v0 v1 v2) := by
  unfold set3
  refine below_set (below_set (below_set h hb hs) hb ?_) hb ?_
  · exact Nat.le_trans hs (grown_set W b 0 v0).size
  · exact Nat.le_trans (Nat.le_trans hs (grown_set W b 0 v0).size) (grown_set _ b 1 v1).size
theorem res_vd {fn : Func} {n : Nat} (hf : fn.results = #[.cell n 79]) (tmps : Array Value) (b : Nat) (w : World) (v0 v1 v2 : Value)
    (h2 : tmps[n]? = some (.pointer (some ⟨b, 0, none⟩))) (hk : w.heap[b]? = some (.cells #[v0, v1, v2] 79 (0, 0))) :
    (results fn tmps).run Tryz.prog w = .ok (.agg #[v0, v1, v2]) w := by
  have a1 := fun i => cell_of_row w b i _ _ (0, 0) hk
  have z0 := a1 0; have z1 := a1 1; have z2 := a1 2
  simp at z0 z1 z2
  simp [results, hf, go_sem, h2, z0, z1, z2]
def vdC : Option (Int × List UInt8 × Int) → Array Value
  | none => #[I 0, S [], I 0]
  | some (c, wd, i) => #[I c, S wd, I i]
def VdPost (w : World) (o : Option (Int × List UInt8 × Int)) (e : Ending) (w' : World) : Prop := e = .returned (.agg (vdC o)) ∧ Below w.heap.size w w'
theorem heap_two0 (w : World) (a b : Obj) : ((w.alloc a).alloc b).heap[w.heap.size]? = some a := by
  rw [heap_alloc_old (w.alloc a) b (by simp)]
  exact heap_alloc_new w a
theorem ref_at {w : World} {q : Nat} (hE : EnvE w) :
    Calls Tryz.prog 122 #[.iface 189 (.pointer (some ⟨q, 0, none⟩)), .iface 191 (.pointer (some ⟨w.heap.size + 1, 0, none⟩))] ((w.alloc (.cells zero3 79)).alloc (.cells #[.pointer none] 189)) fun e w' => e = .returned (.bool true) ∧ Below w.heap.size w w' ∧ w'.heap[w.heap.size]? = some (.cells zero3 79 (0, 0)) ∧ w'.cell? ⟨w.heap.size + 1, 0, none⟩ = some (.pointer (some ⟨q, 0, none⟩)) := by
  have b1 := below_alloc w (.cells zero3 79)
  have b2 : Below w.heap.size w ((w.alloc (.cells zero3 79)).alloc (.cells #[.pointer none] 189)) := b1.trans ((below_alloc _ _).mono b1.size)
  have hv := heap_two0 w (.cells zero3 79) (.cells #[.pointer none] 189)
  have ht := heap_two w (.cells zero3 79) (.cells #[.pointer none] 189)
  have hE2 : EnvE ((w.alloc (.cells zero3 79)).alloc (.cells #[.pointer none] 189)) := hE.below b2
  generalize ((w.alloc (.cells zero3 79)).alloc (.cells #[.pointer none] 189)) = w0 at *
  refine (as_hit ⟨q, 0, none⟩ ⟨w.heap.size + 1, 0, none⟩ (.pointer none) w0 hE2 (by rw [cell_of_row w0 _ 0 _ _ (0, 0) ht]; rfl) (frozen_of_row w0 _ 0 _ _ ht)).mono ?_
  rintro e w' ⟨rfl, rfl⟩
  have hl := heap_lt ht
  have b3 := ((((Below.refl w0.heap.size w0).alloc (Nat.le_refl _) (.cells #[.pointer (some ⟨w.heap.size + 1, 0, none⟩)] 191)).alloc (by simp) (.cells #[.pointer (some ⟨1, 191, none⟩), .pointer (some ⟨w0.heap.size, 0, none⟩), .int .u64 150] 241)).alloc (by simp; omega) (.cells #[.pointer (some ⟨1, 191, none⟩), .pointer (some ⟨w0.heap.size, 0, none⟩), .int .u64 150] 241)).alloc (by simp; omega) (.cells #[.pointer (some ⟨q, 0, none⟩)] 189)
  generalize ((((w0.alloc (.cells #[.pointer (some ⟨w.heap.size + 1, 0, none⟩)] 191)).alloc (.cells #[.pointer (some ⟨1, 191, none⟩), .pointer (some ⟨w0.heap.size, 0, none⟩), .int .u64 150] 241)).alloc (.cells #[.pointer (some ⟨1, 191, none⟩), .pointer (some ⟨w0.heap.size, 0, none⟩), .int .u64 150] 241)).alloc (.cells #[.pointer (some ⟨q, 0, none⟩)] 189)) = w4 at *
  have ht4 := (b3.block _ hl).trans ht
  have hv4 := (b3.block _ (heap_lt hv)).trans hv
  have g4 := grown_set w4 (w.heap.size + 1) 0 (.pointer (some ⟨q, 0, none⟩))
  have b4 : Below w.heap.size w w4 := b2.trans (b3.mono b2.size)
  refine ⟨rfl, b4.trans (below_of_grown g4 (by omega) b4.size), (g4.block _ (heap_lt hv4) (fun e => absurd (Option.some.inj e) (by omega))).trans hv4, ?_⟩
  rw [cell_of_row _ _ 0 _ _ (0, 0) (heap_setCell_same w4 (w.heap.size + 1) 0 _ _ _ ht4)]
  rfl
theorem nil_at {w : World} (v : Value) :
    Calls Tryz.prog 122 #[.nilIface, v] ((w.alloc (.cells zero3 79)).alloc (.cells #[.pointer none] 189)) fun e w' => e = .returned (.bool false) ∧ Below w.heap.size w w' ∧ w'.heap[w.heap.size]? = some (.cells zero3 79 (0, 0)) := by
  refine (as_nil _ _).mono ?_
  rintro e w' ⟨rfl, rfl⟩
  have b1 := below_alloc w (.cells zero3 79)
  exact ⟨rfl, b1.trans ((below_alloc _ _).mono b1.size), heap_two0 w _ _⟩
theorem varV {w : World} {b : Nat} (h : w.heap[b]? = some (.cells zero3 79 (0, 0))) : w.cell? ⟨b, 0, none⟩ = some (.int .i64 0) ∧ w.cell? ⟨b, 1, none⟩ = some (.string ⟨#[]⟩) ∧ w.cell? ⟨b, 2, none⟩ = some (.int .i64 0) ∧ ∀ i, w.frozen? ⟨b, i, none⟩ = false := by
  have a1 := fun i => cell_of_row w b i _ _ (0, 0) h
  exact ⟨a1 0, a1 1, a1 2, fun i => frozen_of_row w b i _ _ h⟩
theorem fin_vd {fn : Func} {n : Nat} (hf : fn.results = #[.cell n 79]) (w w3 : World) (o : Option (Int × List UInt8 × Int)) (v0 v1 v2 : Value) (ho : vdC o = #[v0, v1, v2]) (b : Nat) (hbb : w.heap.size ≤ b) (tmps : Array Value)
    (hv : w3.heap[b]? = some (.cells zero3 79 (0, 0))) (hb : Below w.heap.size w w3) (h2 : tmps[n]? = some (.pointer (some ⟨b, 0, none⟩))) :
    bodyPost Tryz.prog fn (fun e w' => VdPost w o e w') .ret { tmps := tmps, defers := [] } (set3 w3 b v0 v1 v2) := by
  refine bodyPost_ret (res_vd hf tmps b _ _ _ _ h2 (set3_at w3 b _ _ _ _ _ _ _ hv)) rfl ?_
  exact ⟨by rw [ho], below_set3 hb hbb hb.size⟩
set_option maxHeartbeats 1000000 in
theorem verdict_nil (w : World) : Calls Tryz.prog 76 #[.nilIface] w fun e w' => VdPost w none e w' := by
  go_enter Tryz.func76, Tryz.ntmps76
  go_wp2_with (go_at_call 122; refine (nil_at _).mono ?_; rintro e w1 ⟨rfl, hb1, hv1⟩; obtain ⟨y0, y1, y2, fz⟩ := varV hv1)
  exact fin_vd Tryz.results76 w w1 none _ _ _ rfl w.heap.size (Nat.le_refl _) _ hv1 hb1 rfl
set_option maxHeartbeats 1000000 in
theorem verdict_ref (w : World) (hE : EnvE w) (q : Nat) (c id : Int) (wd : List UInt8) (hq : w.heap[q]? = some (.cells #[I c, S wd, I id] 193 (0, 0))) :
    Calls Tryz.prog 76 #[.iface 189 (.pointer (some ⟨q, 0, none⟩))] w fun e w' => VdPost w (some (c, wd, id)) e w' := by
  have hql := heap_lt hq
  have hcs : ∀ W, Below w.heap.size w W → W.cell? ⟨q, 0, none⟩ = some (I c) ∧ W.cell? ⟨q, 1, none⟩ = some (S wd) ∧ W.cell? ⟨q, 2, none⟩ = some (I id) := fun W hW => by
    have a1 := fun i => cell_of_row W q i _ _ (0, 0) ((hW.block q hql).trans hq)
    exact ⟨a1 0, a1 1, a1 2⟩
  clear hq
  go_enter Tryz.func76, Tryz.ntmps76
  go_wp2_with (go_at_call 122; refine (ref_at hE).mono ?_; rintro e w1 ⟨rfl, hb1, hv1, ht1⟩; obtain ⟨y0, y1, y2, fz⟩ := varV hv1; obtain ⟨x0, x1, x2⟩ := hcs w1 hb1)
  exact fin_vd Tryz.results76 w w1 (some (c, wd, id)) _ _ _ rfl w.heap.size (Nat.le_refl _) _ hv1 hb1 rfl
set_option maxHeartbeats 1000000 in
set_option maxRecDepth 100000 in
theorem check_any7 (w : World) (c : Cf) (v : Vs) (h : CfAt w c v) (hl : LensOK c) (hE : EnvE w) : Calls Tryz.prog 32 #[.agg (cfC c v)] w fun e w' => VdPost w (allF c) e w' := by
  have hi18 : (Tryz.prog.info? 47).map (·.size) = some (cfC c v).size := by rw [show (cfC c v).size = 18 from rfl]; kernel_rfl
  have hV0 := heap_two0 w (.cells (cfC c v) 47) (.cells zero3 79)
  have hR0 := heap_two w (.cells (cfC c v) 47) (.cells zero3 79)
  have hb1 := below_alloc w (.cells (cfC c v) 47)
  have hb2 := hb1.trans ((below_alloc (w.alloc (.cells (cfC c v) 47)) (.cells zero3 79)).mono hb1.size)
  have cl := look_all ((w.alloc (.cells (cfC c v) 47)).alloc (.cells zero3 79)) c v (h.below hb2) hl
  generalize cfC c v = C at *
  generalize allF c = o at *
  have hfin : ∀ w1 w2, Below ((w.alloc (.cells C 47)).alloc (.cells zero3 79)).heap.size ((w.alloc (.cells C 47)).alloc (.cells zero3 79)) w1 → Below w1.heap.size w1 w2 → w2.heap[w.heap.size + 1]? = some (.cells zero3 79 (0, 0)) ∧ Below w.heap.size w w2 := fun w1 w2 h1 h2 => by
    have h12 := h1.trans (h2.mono h1.size)
    exact ⟨(h12.block _ (heap_lt hR0)).trans hR0, hb2.trans (h12.mono hb2.size)⟩
  cases o with
  | none =>
    have cv := verdict_nil
    go_enter Tryz.func32, Tryz.ntmps32
    go_wp2_with (first | (refine wpList_load_row rfl 47 _ rfl w.heap.size rfl 47 _ (0, 0) _ hV0 Tryz.underlying47 rfl hi18 ?_) | (go_at_call 77; refine cl.mono ?_; rintro e w1 ⟨rfl, hb3⟩) | (go_at_call 76; refine (cv _).mono ?_; rintro e w2 ⟨he, hb4⟩; rw [show vdC none = #[I 0, S [], I 0] from rfl] at he; subst he; obtain ⟨hv2, hbw2⟩ := hfin _ _ hb3 hb4; obtain ⟨y0, y1, y2, fz⟩ := varV hv2))
    exact fin_vd Tryz.results32 w w2 none _ _ _ rfl (w.heap.size + 1) (by omega) _ hv2 hbw2 rfl
  | some r =>
    obtain ⟨cd, wd, ix⟩ := r
    have cv := fun W (hW : Below w.heap.size w W) q hq => verdict_ref W (hE.below hW) q cd ix wd hq
    go_enter Tryz.func32, Tryz.ntmps32
    go_wp2_with (first | (refine wpList_load_row rfl 47 _ rfl w.heap.size rfl 47 _ (0, 0) _ hV0 Tryz.underlying47 rfl hi18 ?_) | (go_at_call 77; refine cl.mono ?_; rintro e w1 ⟨b, rfl, hr1, hr2, hb3⟩) | (go_at_call 76; refine (cv _ (hb2.trans (hb3.mono hb2.size)) _ hr2).mono ?_; rintro e w2 ⟨he, hb4⟩; rw [show vdC (some (cd, wd, ix)) = #[I cd, S wd, I ix] from rfl] at he; subst he; obtain ⟨hv2, hbw2⟩ := hfin _ _ hb3 hb4; obtain ⟨y0, y1, y2, fz⟩ := varV hv2))
    exact fin_vd Tryz.results32 w w2 (some (cd, wd, ix)) _ _ _ rfl (w.heap.size + 1) (by omega) _ hv2 hbw2 rfl
end Go.Proofs.YtmidaeljeoifdaaGreatDoor

namespace Go.Proofs.YtmidaeljeoifdaaGreatDoor
open Go.RowKit Go.ChangeShapes Go.WideShapes
set_option linter.unusedVariables false

/-! ### A configuration that came in, opened -/
def Sized (l : List Nat) : Prop := ∀ n, n ∈ l → n ≤ reachBytes
theorem sized_rows {H : Type} {P : Program} {t e : TypeId} {es sp : List (DataW H)} (hu : P.underlying t = some (.slice e)) (h : Sized (DataW.weights P t (.slice es sp))) : es.length * P.bytesOf e ≤ reachBytes := by
  unfold DataW.weights at h
  simp only [hu] at h
  exact Nat.le_trans (Nat.mul_le_mul_right _ (Nat.le_add_right _ _)) (h _ (List.mem_cons_self ..))
theorem rows_open {α : Type} (inh : Inhabited α) {H : Type} {enc : TypeId × Value → H} {w : World} {spare : Nat → Bool} {held : Bool} {fuel : Nat} {T E : TypeId} {k : Nat} (hk : 0 < k) (hu : Tryz.prog.underlying T = some (.slice E)) (hc : Tryz.prog.cellsOf E = k) {P : α → Nat → Value → Prop} {v : Value} {y : DataW H × List MemPlace}
    (h : DataW.trod enc Tryz.prog w 0 spare held fuel T [v] = some y)
    (one : ∀ n cs z, cs.length = k → DataW.trod enc Tryz.prog w 0 spare held n E cs = some z → ∃ x : α, ∀ i, i < k → ∃ u, cs[i]? = some u ∧ P x i u) :
    ∃ (s : Sl) (l : List α), v = .slice s.a s.n s.c ∧ RowsAt w k P s l ∧ (Sized (y.1.weights Tryz.prog T) → l.length * Tryz.prog.bytesOf E ≤ reachBytes) := by
  rcases DataW.trod_slice hu h with ⟨hcs, _⟩ | ⟨a, len, cap, elems, rest, n, hfu, hcs, hx, _, hlc, hcm, hel, hV, _, _⟩
  · simp at hcs
    subst hcs
    exact ⟨⟨none, 0, 0⟩, [], rfl, ⟨rfl, Nat.le_refl _, Nat.zero_le _, fun j x hj => by simp at hj⟩, fun _ => by simp⟩
  · simp at hcs
    subst hcs
    rw [hc] at hV
    obtain ⟨L, hL⟩ := Go.Deep.choose_lt (α := α) (n := len) (p := fun i x => ∃ cs, w.cells? 0 (a.add (i * k)) k = some cs ∧ ∀ t, t < k → ∃ u, cs[t]? = some u ∧ P x t u) (fun i hi => by
      have hVi := hV i hi
      rw [List.getElem?_eq_getElem (by omega : i < elems.length)] at hVi
      obtain ⟨cs', h1, h2⟩ := Option.bind_eq_some_iff.1 hVi
      obtain ⟨_, hcl, _⟩ := World.cells?_some h1
      obtain ⟨x, hx⟩ := one n cs' _ hcl h2
      exact ⟨x, cs', h1, hx⟩)
    obtain ⟨b, off, spot⟩ := a
    refine ⟨⟨some ⟨b, off, spot⟩, len, cap⟩, (List.range len).map L, rfl, ⟨by simp, hlc, hcm, fun j x hj => ?_⟩, fun hz => ?_⟩
    · rw [List.getElem?_map] at hj
      obtain ⟨i, hi, rfl⟩ := Option.map_eq_some_iff.1 hj
      have hjl : j < len := by have := (List.getElem?_eq_some_iff.1 hi).1; simpa using this
      obtain rfl : j = i := by rw [List.getElem?_range hjl] at hi; exact Option.some.inj hi
      obtain ⟨cs, h1, h2⟩ := hL j hjl
      obtain ⟨_, hcl, hcc⟩ := World.cells?_some h1
      have hspot : spot = none := by
        obtain ⟨cs0, g1, g2⟩ := hL 0 (by omega)
        obtain ⟨_, gl, gc⟩ := World.cells?_some g1
        obtain ⟨u, gu, _⟩ := g2 0 hk
        have := World.cell?_spot ((gc 0 hk).trans gu)
        simpa [Addr.add] using this
      subst hspot
      refine ⟨b, off, rfl, ?_, fun t ht => ?_⟩
      · have := World.cells?_block h1 hk
        rw [WideShapes.add_plain] at this
        exact this
      · obtain ⟨u, hu1, hu2⟩ := h2 t ht
        have := (hcc t ht).trans hu1
        rw [WideShapes.add_plain, WideShapes.add_plain] at this
        exact ⟨u, this, hu2⟩
    · rw [hx] at hz
      have := sized_rows hu hz
      rw [List.length_map, hel] at this
      simpa using this
theorem p_int : Tryz.prog.cellsOf 3 = 1 := by kernel_rfl
theorem one_int {H : Type} {enc : TypeId × Value → H} {w : World} {spare : Nat → Bool} {held : Bool} (n : Nat) (cs : List Value) (z : DataW H × List MemPlace) (hl : cs.length = 1) (h : DataW.trod enc Tryz.prog w 0 spare held n 3 cs = some z) : ∃ x : Int, ∀ i, i < 1 → ∃ u, cs[i]? = some u ∧ intP x i u := by
  obtain ⟨x, rfl, _, _⟩ := DataW.trod_int Tryz.underlying3 h
  exact ⟨x, fun i hi => by obtain rfl : i = 0 := by omega
                           exact ⟨_, rfl, rfl⟩⟩
theorem ints_open {H : Type} {enc : TypeId × Value → H} {w : World} {spare : Nat → Bool} {held : Bool} {fuel : Nat} {v : Value} {y : DataW H × List MemPlace} (h : DataW.trod enc Tryz.prog w 0 spare held fuel 54 [v] = some y) : ∃ l, IntsV w l v := by
  obtain ⟨s, l, e, hr, _⟩ := rows_open ⟨0⟩ (by omega) Tryz.underlying54 p_int h one_int
  exact ⟨l, s, e, hr⟩
theorem list3 {α : Type} {l : List α} (h : l.length = 3) : ∃ c0 c1 c2, l = [c0, c1, c2] := by
  match l, h with
  | [c0, c1, c2], _ => exact ⟨c0, c1, c2, rfl⟩
theorem list8 {α : Type} {l : List α} (h : l.length = 8) : ∃ c0 c1 c2 c3 c4 c5 c6 c7, l = [c0, c1, c2, c3, c4, c5, c6, c7] := by
  match l, h with
  | [c0, c1, c2, c3, c4, c5, c6, c7], _ => exact ⟨c0, c1, c2, c3, c4, c5, c6, c7, rfl⟩
end Go.Proofs.YtmidaeljeoifdaaGreatDoor

namespace Go.Proofs.YtmidaeljeoifdaaGreatDoor
open Go.RowKit Go.ChangeShapes Go.WideShapes
set_option linter.unusedVariables false

end Go.Proofs.YtmidaeljeoifdaaGreatDoor

namespace Go.Proofs.YtmidaeljeoifdaaGreatDoor
open Go.RowKit
set_option linter.unusedVariables false

end Go.Proofs.YtmidaeljeoifdaaGreatDoor

namespace Go.Proofs.YtmidaeljeoifdaaGreatDoor
open Go.RowKit
set_option linter.unusedVariables false

/-! ### The class of a configuration -/
end Go.Proofs.YtmidaeljeoifdaaGreatDoor

namespace Go.Proofs.YtmidaeljeoifdaaGreatDoor
set_option linter.unusedVariables false

/-! ### What it says that nothing was found -/
theorem first_none {cs : List Ck} {k : Nat} {B : Nat → Bool} (h : firstF cs k B = none) : ∀ i, i < cs.length → B (k + i) = true := by
  induction cs generalizing k with
  | nil => intro i hi; exact absurd hi (Nat.not_lt_zero _)
  | cons x r ih =>
    intro i hi
    rw [firstF] at h
    split at h
    · rename_i hb
      cases i with
      | zero => exact hb
      | succ i =>
        have := ih h i (by simpa using hi)
        rwa [show k + (i + 1) = k + 1 + i by omega]
    · cases h
theorem looks_none {E : Nat → Option Int} {m j : Nat} (h : looksF E m j = none) : ∀ i, i < m → E (j + i) = none := by
  induction m generalizing j with
  | zero => intro i hi; exact absurd hi (Nat.not_lt_zero _)
  | succ m ih =>
    intro i hi
    rw [looksF] at h
    split at h
    · cases h
    · rename_i he
      cases i with
      | zero => exact he
      | succ i =>
        have := ih h i (by omega)
        rwa [show j + (i + 1) = j + 1 + i by omega]
theorem lookL_none {names : List (List UInt8)} {lo hi : Int} {cs : List Ck} {B : Nat → Nat → Bool} (h : lookL names lo hi cs B = none) :
    inR names.length lo hi = true ∧ ∀ (j : Nat) (nm : List UInt8), names[j]? = some nm → isNm nm = true ∧ hasS (names.take j) nm = false ∧ ∀ k, k < cs.length → B k j = true := by
  unfold lookL at h
  split at h
  · rename_i hin
    refine ⟨hin, fun j nm hj => ?_⟩
    have hE := looks_none h j (List.getElem?_eq_some_iff.1 hj).1
    rw [Nat.zero_add] at hE
    unfold objF at hE
    rw [hj] at hE
    simp only at hE
    split at hE
    · cases hE
    · rename_i hb
      have h2 : isNm nm = true ∧ hasS (names.take j) nm = false := by
        cases h3 : isNm nm <;> cases h4 : hasS (names.take j) nm <;> simp [h3, h4] at hb ⊢
      exact ⟨h2.1, h2.2, fun k hk => by have := first_none hE k hk; rwa [Nat.zero_add] at this⟩
  · cases h
theorem kind_none {α : Type} {l : List α} {f : α → List UInt8} {lo hi : Int} {cs : List Ck} {Q : Nat → α → Nat → Bool} (h : lookL (l.map f) lo hi cs (byB l Q) = none) :
    inR l.length lo hi = true ∧ ∀ (j : Nat) (x : α), l[j]? = some x → isNm (f x) = true ∧ hasS ((l.map f).take j) (f x) = false ∧ ∀ k, k < cs.length → Q j x k = true := by
  obtain ⟨h1, h2⟩ := lookL_none h
  rw [List.length_map] at h1
  refine ⟨h1, fun j x hj => ?_⟩
  obtain ⟨a, b, d⟩ := h2 j (f x) (by rw [List.getElem?_map, hj]; rfl)
  exact ⟨a, b, fun k hk => by rw [← byB_at (B := Q) hj]; exact d k hk⟩
theorem lookAll_none {l : List (List UInt8 × Option (Int × Int))} (h : lookAll l = none) : ∀ x ∈ l, x.2 = none := by
  induction l with
  | nil => intro x hx; cases hx
  | cons y r ih =>
    obtain ⟨wd, o⟩ := y
    rw [lookAll] at h
    cases o with
    | some p => obtain ⟨a, b⟩ := p; cases h
    | none =>
      intro x hx
      rcases List.mem_cons.1 hx with rfl | hx
      · rfl
      · exact ih h x hx
/-- What a configuration has that may be. -/
structure May (c : Cf) : Prop where
  m : inR c.modes.length 1 8 = true ∧ ∀ (j : Nat) (nm : List UInt8), c.modes[j]? = some nm → isNm nm = true ∧ hasS (c.modes.take j) nm = false
  r : inR c.ress.length 0 64 = true ∧ ∀ (j : Nat) (x : Rs), c.ress[j]? = some x → isNm x.name = true ∧ hasS ((c.ress.map fun x => x.name).take j) x.name = false ∧ ∀ k, k < 4 → resQ c j x k = true
  e : inR c.evs.length 0 256 = true ∧ ∀ (j : Nat) (x : Ev), c.evs[j]? = some x → isNm x.name = true ∧ hasS ((c.evs.map fun x => x.name).take j) x.name = false ∧ ∀ k, k < 1 → evQ c j x k = true
  t : inR c.tasks.length 1 256 = true ∧ ∀ (j : Nat) (x : Tk), c.tasks[j]? = some x → isNm x.name = true ∧ hasS ((c.tasks.map fun x => x.name).take j) x.name = false ∧ ∀ k, k < 6 → tkQ c j x k = true
  k : inR c.ctrs.length 0 16 = true ∧ ∀ (j : Nat) (x : Ct), c.ctrs[j]? = some x → isNm x.name = true ∧ hasS ((c.ctrs.map fun x => x.name).take j) x.name = false ∧ ∀ k, k < 1 → ctQ c j x k = true
  a : inR c.als.length 0 64 = true ∧ ∀ (j : Nat) (x : Al), c.als[j]? = some x → isNm x.name = true ∧ hasS ((c.als.map fun x => x.name).take j) x.name = false ∧ ∀ k, k < 8 → alQ c j x k = true
  i : inR c.isrs.length 0 32 = true ∧ ∀ (j : Nat) (x : Is), c.isrs[j]? = some x → isNm x.name = true ∧ hasS ((c.isrs.map fun x => x.name).take j) x.name = false ∧ ∀ k, k < 5 → isQ c j x k = true
  s : inR c.msgs.length 0 64 = true ∧ ∀ (j : Nat) (x : Ms), c.msgs[j]? = some x → isNm x.name = true ∧ hasS ((c.msgs.map fun x => x.name).take j) x.name = false ∧ ∀ k, k < 8 → msQ c j x k = true
theorem may_of {c : Cf} (h : allF c = none) : May c := by
  have H := lookAll_none h
  unfold tenR at H
  simp only [List.forall_mem_cons] at H
  obtain ⟨h0, h1, h2, h3, h4, h5, h6, h7, h8, h9, _⟩ := H
  have hm := lookL_none h2
  exact ⟨⟨hm.1, fun j nm hj => ⟨(hm.2 j nm hj).1, (hm.2 j nm hj).2.1⟩⟩, kind_none h3, kind_none h4, kind_none h5, kind_none h6, kind_none h7, kind_none h8, kind_none h9⟩
end Go.Proofs.YtmidaeljeoifdaaGreatDoor

