import Derived.Test.YtlbgppijeoonjaaGreatDoorTas
import Derived.Test.YtlbgppijeoonjaaGreatDoorFltX
import Derived.Test.YtlbgppijeoonjaaGreatDoorGoX
import Derived.Recover
import Derived.Defers
import Derived.Tactics2
import Derived.Laws.Pointers
namespace Go.Proofs.YtlbgppijeoonjaaGreatDoor
open Go.RowKit
set_option linter.unusedVariables false

theorem ts_at {w : World} {q pe : Nat} (hq : w.cell? ⟨q, 0, none⟩ = some (.iface 116 (.pointer (some ⟨pe, 0, none⟩)))) (hg : w.cell? ⟨1, 0, none⟩ = some (.iface 164 (.agg #[.pointer (some ⟨15, 112, none⟩)]))) (hs : 16 ≤ w.heap.size) :
    Calls Tryz.prog 65 #[.iface 117 (.pointer (some ⟨q, 0, none⟩)), .iface 120 (.pointer (some ⟨w.heap.size + 1, 0, none⟩))] ((w.alloc (.cells zero5 60)).alloc (.cells #[.pointer none] 116)) fun e w' => e = .returned (.bool true) ∧ Below w.heap.size w w' ∧ w'.heap[w.heap.size]? = some (.cells zero5 60 (0, 0)) ∧ w'.cell? ⟨w.heap.size + 1, 0, none⟩ = some (.pointer (some ⟨pe, 0, none⟩)) := by
  have b2 : Below w.heap.size w ((w.alloc (.cells zero5 60)).alloc (.cells #[.pointer none] 116)) := ((Below.refl _ _).alloc (Nat.le_refl _) _).alloc (by simp) _
  have hv : ((w.alloc (.cells zero5 60)).alloc (.cells #[.pointer none] 116)).heap[w.heap.size]? = some (.cells zero5 60 (0, 0)) := by
    show ((w.heap.push _).push _)[w.heap.size]? = _
    rw [push_lt _ _ _ (by simp)]
    exact push_at w.heap _
  have ht : ((w.alloc (.cells zero5 60)).alloc (.cells #[.pointer none] 116)).heap[w.heap.size + 1]? = some (.cells #[.pointer none] 116 (0, 0)) := by
    have := push_at (w.heap.push (.cells zero5 60)) (.cells #[.pointer none] 116)
    rwa [Array.size_push] at this
  generalize ((w.alloc (.cells zero5 60)).alloc (.cells #[.pointer none] 116)) = w0 at *
  refine (ts_hit q ⟨pe, 0, none⟩ ⟨w.heap.size + 1, 0, none⟩ (.pointer none) w0 (by rw [cell_below b2 _ _ (by omega)]; exact hg) (by rw [cell_below b2 _ _ (World.block_lt_of_cell? w _ hq)]; exact hq) (by rw [cell_of_row w0 _ 0 _ _ (0, 0) ht]; rfl) (frozen_of_row w0 _ 0 _ _ ht)).mono ?_
  rintro e w' ⟨rfl, rfl⟩
  have hl := heap_lt ht
  have b3 := ((((Below.refl w0.heap.size w0).alloc (Nat.le_refl _) (.cells #[.pointer (some ⟨w.heap.size + 1, 0, none⟩)] 120)).alloc (by simp) (.cells #[.pointer (some ⟨15, 120, none⟩), .pointer (some ⟨w0.heap.size, 0, none⟩), .int .u64 150] 147)).alloc (by simp; omega) (.cells #[.pointer (some ⟨15, 120, none⟩), .pointer (some ⟨w0.heap.size, 0, none⟩), .int .u64 150] 147)).alloc (by simp; omega) (.cells #[.pointer (some ⟨pe, 0, none⟩)] 116)
  generalize ((((w0.alloc (.cells #[.pointer (some ⟨w.heap.size + 1, 0, none⟩)] 120)).alloc (.cells #[.pointer (some ⟨15, 120, none⟩), .pointer (some ⟨w0.heap.size, 0, none⟩), .int .u64 150] 147)).alloc (.cells #[.pointer (some ⟨15, 120, none⟩), .pointer (some ⟨w0.heap.size, 0, none⟩), .int .u64 150] 147)).alloc (.cells #[.pointer (some ⟨pe, 0, none⟩)] 116)) = w4 at *
  have ht4 := (b3.block _ hl).trans ht
  have hv4 := (b3.block _ (heap_lt hv)).trans hv
  have g4 := grown_set w4 (w.heap.size + 1) 0 (.pointer (some ⟨pe, 0, none⟩))
  have b4 : Below w.heap.size w w4 := b2.trans (b3.mono b2.size)
  refine ⟨rfl, b4.trans (below_of_grown g4 (by omega) b4.size), (g4.block _ (heap_lt hv4) (fun e => absurd (Option.some.inj e) (by omega))).trans hv4, ?_⟩
  rw [cell_of_row _ _ 0 _ _ (0, 0) (heap_setCell_same w4 (w.heap.size + 1) 0 _ _ _ ht4)]
  rfl
theorem tg_is (v : Value) (xT : TypeId) (w : World) : (Instr.typeAssert (.iface 117 v) xT 117 true).run Tryz.prog w = .ok (.tuple #[v, .bool true]) w := by kernel_rfl
set_option maxHeartbeats 4000000 in
set_option maxRecDepth 100000 in
theorem tfault_any {w : World} {q pe : Nat} (c : Nat) (x : Tp) (hg : w.cell? ⟨1, 0, none⟩ = some (.iface 164 (.agg #[.pointer (some ⟨15, 112, none⟩)]))) (hs : 16 ≤ w.heap.size)
    (hq : w.heap[q]? = some (.cells #[.iface 116 (.pointer (some ⟨pe, 0, none⟩))] 178 (0, 0))) (hp : w.heap[pe]? = some (.cells #[.int .i64 (c : Int), .int .i64 x.o, .int .i64 x.l, .int .i64 x.c] 122 (0, 0))) :
    Calls Tryz.prog 47 #[.iface 117 (.pointer (some ⟨q, 0, none⟩))] w fun e w' => e = .returned (.agg #[.int .i64 (c : Int), .int .i64 x.o, .int .i64 x.l, .int .i64 x.c, .string ⟨#[]⟩]) ∧ Below w.heap.size w w' := by
  have hq0 : w.cell? ⟨q, 0, none⟩ = some (.iface 116 (.pointer (some ⟨pe, 0, none⟩))) := by rw [cell_of_row w q 0 _ _ (0, 0) hq]; rfl
  have ca := ts_at hq0 hg hs
  unfold zero5 at ca
  have hta := tg_is
  go_enter Tryz.func47, Tryz.ntmps47
  go_wp2_with fail
  refine ca.mono ?_
  rintro e w3 ⟨rfl, hb3, hv3, hm3⟩
  have hp3 := (hb3.block pe (heap_lt hp)).trans hp
  obtain ⟨⟨p0, p1, p2, p3⟩, _⟩ := var4 hp3
  obtain ⟨⟨y0, y1, y2, y3, y4⟩, fy⟩ := var5 hv3
  have q1 : pe ≠ w.heap.size := by have := heap_lt hp; omega
  have q2 : w.heap.size + 1 ≠ w.heap.size := by omega
  clear ca hq0 hq hp hp3
  go_wp2
  go_region_held_law (fun w' => w'.cell? ⟨w.heap.size + 1, 0, none⟩ = some (.pointer (some ⟨pe, 0, none⟩)) ∧ w'.cell? ⟨pe, 0, none⟩ = some (.int .i64 (c : Int)) ∧ w'.cell? ⟨pe, 1, none⟩ = some (.int .i64 x.o) ∧ w'.cell? ⟨pe, 2, none⟩ = some (.int .i64 x.l) ∧ w'.cell? ⟨pe, 3, none⟩ = some (.int .i64 x.c))
    (first | (rw [World.cell?_drew, World.cell?_drew, World.cell?_drew, World.cell?_drew, World.cell?_drew, cell_set_other _ _ _ _ _ _ q2, cell_set_other _ _ _ _ _ _ q2, cell_set_other _ _ _ _ _ _ q2, cell_set_other _ _ _ _ _ _ q2, cell_set_other _ _ _ _ _ _ q2, cell_set_other _ _ _ _ _ _ q1, cell_set_other _ _ _ _ _ _ q1, cell_set_other _ _ _ _ _ _ q1, cell_set_other _ _ _ _ _ _ q1, cell_set_other _ _ _ _ _ _ q1, cell_set_other _ _ _ _ _ _ q1, cell_set_other _ _ _ _ _ _ q1, cell_set_other _ _ _ _ _ _ q1, cell_set_other _ _ _ _ _ _ q1, cell_set_other _ _ _ _ _ _ q1, cell_set_other _ _ _ _ _ _ q1, cell_set_other _ _ _ _ _ _ q1, cell_set_other _ _ _ _ _ _ q1, cell_set_other _ _ _ _ _ _ q1, cell_set_other _ _ _ _ _ _ q1, cell_set_other _ _ _ _ _ _ q1, cell_set_other _ _ _ _ _ _ q1, cell_set_other _ _ _ _ _ _ q1, cell_set_other _ _ _ _ _ _ q1, cell_set_other _ _ _ _ _ _ q1]; exact ⟨hm3, p0, p1, p2, p3⟩) | (go_keep; done))
    (fail)
  all_goals
    have hk4 : (((((w3.setCell ⟨w.heap.size, 0, none⟩ (.int .i64 (c : Int))).setCell ⟨w.heap.size, 1, none⟩ (.int .i64 x.o)).setCell ⟨w.heap.size, 2, none⟩ (.int .i64 x.l)).setCell ⟨w.heap.size, 3, none⟩ (.int .i64 x.c)).setCell ⟨w.heap.size, 4, none⟩ (.string ⟨#[]⟩)).heap[w.heap.size]? = some (.cells #[.int .i64 (c : Int), .int .i64 x.o, .int .i64 x.l, .int .i64 x.c, .string ⟨#[]⟩] 60 (0, 0)) := set5r_at w3 w.heap.size _ _ _ _ _ _ (.int .i64 (c : Int)) (.int .i64 x.o) (.int .i64 x.l) (.int .i64 x.c) (.string ⟨#[]⟩) hv3
    have hb4 : Below w.heap.size w (((((w3.setCell ⟨w.heap.size, 0, none⟩ (.int .i64 (c : Int))).setCell ⟨w.heap.size, 1, none⟩ (.int .i64 x.o)).setCell ⟨w.heap.size, 2, none⟩ (.int .i64 x.l)).setCell ⟨w.heap.size, 3, none⟩ (.int .i64 x.c)).setCell ⟨w.heap.size, 4, none⟩ (.string ⟨#[]⟩)) := (((((hb3.set3 _ _ _ (Nat.le_refl _)).set3 _ _ _ (Nat.le_refl _)).set3 _ _ _ (Nat.le_refl _)).set3 _ _ _ (Nat.le_refl _)).set3 _ _ _ (Nat.le_refl _))
    clear hm3 p0 p1 p2 p3 y0 y1 y2 y3 y4 fy hv3 hb3
    generalize (((((w3.setCell ⟨w.heap.size, 0, none⟩ (.int .i64 (c : Int))).setCell ⟨w.heap.size, 1, none⟩ (.int .i64 x.o)).setCell ⟨w.heap.size, 2, none⟩ (.int .i64 x.l)).setCell ⟨w.heap.size, 3, none⟩ (.int .i64 x.c)).setCell ⟨w.heap.size, 4, none⟩ (.string ⟨#[]⟩)) = w4 at *
    have hbz := hb4.drew
    have hk : w4.drew.heap[w.heap.size]? = some (.cells #[.int .i64 (c : Int), .int .i64 x.o, .int .i64 x.l, .int .i64 x.c, .string ⟨#[]⟩] 60 (0, 0)) := hk4
    clear hk4 hb4
    generalize w4.drew = wz at *
    go_wp2
    exact bodyPost_ret (res_flt1 Tryz.results47 _ w.heap.size _ _ _ _ _ _ rfl hk) rfl ⟨rfl, hbz⟩
end Go.Proofs.YtlbgppijeoonjaaGreatDoor

namespace Go.Proofs.YtlbgppijeoonjaaGreatDoor
open Go.RowKit
set_option linter.unusedVariables false

def zeroT : Array Value := #[.string ⟨#[]⟩, .string ⟨#[]⟩, .slice none 0 0, .bool false, .string ⟨#[]⟩]
theorem catch_idle (bt bf : Nat) (w : World) :
    CallsD Tryz.prog 46 #[.pointer (some ⟨bt, 0, none⟩), .pointer (some ⟨bf, 0, none⟩)] .returning w fun e u' w' => e = .returned (.tuple #[]) ∧ u' = .returning ∧ w' = w := by
  refine callsD_of_wpS Tryz.func46 rfl fun c₀ cs hu => ?_
  apply wpS_seq
  apply wpS_region
  simp [wpOpsS, go_sem, recoverD, hu, Tryz.ntmps46, Exit.thenS]
  refine wpS_of_wp ?_
  show Code.wp _ _ _ { tmps := #[.pointer (some ⟨bt, 0, none⟩), .pointer (some ⟨bf, 0, none⟩), .nilIface, .nilIface, undef, undef, undef, undef, undef], defers := [] } w
  go_wp2
  cases c₀
  simp_all [bodyPostS, results, Tryz.results46]
set_option maxHeartbeats 2000000 in
set_option maxRecDepth 100000 in
theorem catch_panicking (bt bf q pe c : Nat) (x : Tp) (ct cf : Value) (t1 t2 t3 t4 f1 f2 f3 f4 : Value) (older : List PanicEntry) (w : World) (hg : w.cell? ⟨1, 0, none⟩ = some (.iface 164 (.agg #[.pointer (some ⟨15, 112, none⟩)]))) (hs : 16 ≤ w.heap.size)
    (hq : w.heap[q]? = some (.cells #[.iface 116 (.pointer (some ⟨pe, 0, none⟩))] 178 (0, 0))) (hp : w.heap[pe]? = some (.cells #[.int .i64 (c : Int), .int .i64 x.o, .int .i64 x.l, .int .i64 x.c] 122 (0, 0)))
    (hbt : w.heap[bt]? = some (.cells #[ct, t1, t2, t3, t4] 24 (0, 0))) (hbf : w.heap[bf]? = some (.cells #[cf, f1, f2, f3, f4] 60 (0, 0))) (hne : bt ≠ bf) (base : Nat) (h1 : base ≤ bt) (h2 : base ≤ bf) (h3 : base ≤ w.heap.size) :
    CallsD Tryz.prog 46 #[.pointer (some ⟨bt, 0, none⟩), .pointer (some ⟨bf, 0, none⟩)] (.panicking ({ v := .iface 117 (.pointer (some ⟨q, 0, none⟩)), recovered := false } :: older)) w fun e u' w' =>
      e = .returned (.tuple #[]) ∧ u' = .panicking ({ v := .iface 117 (.pointer (some ⟨q, 0, none⟩)), recovered := true } :: older) ∧ Below base w w' ∧ w'.heap[bt]? = some (.cells zeroT 24 (0, 0)) ∧ w'.heap[bf]? = some (.cells #[.int .i64 (c : Int), .int .i64 x.o, .int .i64 x.l, .int .i64 x.c, .string ⟨#[]⟩] 60 (0, 0)) := by
  have cf := tfault_any c x hg hs hq hp
  refine callsD_of_wpS Tryz.func46 rfl fun c₀ cs hu => ?_
  apply wpS_seq
  apply wpS_region
  simp [wpOpsS, go_sem, recoverD, hu, Tryz.ntmps46, Exit.thenS]
  refine wpS_of_wp ?_
  show Code.wp _ _ _ { tmps := #[.pointer (some ⟨bt, 0, none⟩), .pointer (some ⟨bf, 0, none⟩), .iface 117 (.pointer (some ⟨q, 0, none⟩)), .iface 117 (.pointer (some ⟨q, 0, none⟩)), undef, undef, undef, undef, undef], defers := [] } w
  go_wp2_with fail
  refine cf.mono ?_
  rintro e w1 ⟨rfl, hb1⟩
  have hbt1 := (hb1.block _ (heap_lt hbt)).trans hbt
  have hbf1 := (hb1.block _ (heap_lt hbf)).trans hbf
  obtain ⟨⟨y0, y1, y2, y3, y4⟩, fy⟩ := var5 hbt1
  have ht2 := set5t_at w1 bt _ _ _ _ _ _ (.string ⟨#[]⟩) (.string ⟨#[]⟩) (.slice none 0 0) (.bool false) (.string ⟨#[]⟩) hbt1
  have hg2 := set5t_grown w1 bt (.string ⟨#[]⟩) (.string ⟨#[]⟩) (.slice none 0 0) (.bool false) (.string ⟨#[]⟩)
  have hf2 := (hg2.block _ (heap_lt hbf1) (fun e => by cases e; exact hne rfl)).trans hbf1
  have hb2 : Below base w _ := (hb1.mono h3).trans (below_of_grown hg2 h1 (Nat.le_trans h3 hb1.size))
  generalize hw2 : (((((w1.setCell ⟨bt, 0, none⟩ (.string ⟨#[]⟩)).setCell ⟨bt, 1, none⟩ (.string ⟨#[]⟩)).setCell ⟨bt, 2, none⟩ (.slice none 0 0)).setCell ⟨bt, 3, none⟩ (.bool false)).setCell ⟨bt, 4, none⟩ (.string ⟨#[]⟩)) = w2 at ht2 hg2 hf2 hb2
  obtain ⟨⟨z0, z1, z2, z3, z4⟩, fz⟩ := var5 hf2
  have hf3 := set5t_at w2 bf _ _ _ _ _ _ (.int .i64 (c : Int)) (.int .i64 x.o) (.int .i64 x.l) (.int .i64 x.c) (.string ⟨#[]⟩) hf2
  have hg3 := set5t_grown w2 bf (.int .i64 (c : Int)) (.int .i64 x.o) (.int .i64 x.l) (.int .i64 x.c) (.string ⟨#[]⟩)
  have ht3 := (hg3.block _ (heap_lt ht2) (fun e => by cases e; exact hne rfl)).trans ht2
  have hb3 : Below base w _ := hb2.trans (below_of_grown hg3 h2 (Nat.le_trans h3 hb2.size))
  clear cf hq hp hbt hbf hbt1 hbf1 hg2 ht2 hf2 hb2 hg3 hb1
  go_wp2
  generalize (((((w2.setCell ⟨bf, 0, none⟩ (.int .i64 (c : Int))).setCell ⟨bf, 1, none⟩ (.int .i64 x.o)).setCell ⟨bf, 2, none⟩ (.int .i64 x.l)).setCell ⟨bf, 3, none⟩ (.int .i64 x.c)).setCell ⟨bf, 4, none⟩ (.string ⟨#[]⟩)) = w9 at *
  simp [bodyPostS, results, Tryz.results46]
  exact ⟨hb3, ht3, hf3⟩
end Go.Proofs.YtlbgppijeoonjaaGreatDoor

namespace Go.Proofs.YtlbgppijeoonjaaGreatDoor
open Go.RowKit
set_option linter.unusedVariables false

theorem good_end {t : List UInt8} {off : Nat} {ts : List (Tk × Nat)} (h : Good t off ts) : EndL (ts.map (tpOf t)) ∧ ts.length + off ≤ t.length + 1 := by
  induction h with
  | @fin off ho h1 h2 => exact ⟨.one rfl, by simp; omega⟩
  | @more off len o k ts ho h1 h2 h3 h4 h5 h6 hg ih =>
    refine ⟨.more ?_ ih.1, by simp; omega⟩
    show ((k.kind : Int)) ≠ 0
    omega
/-- What Parse answers of a text. -/
def parseL (t : List UInt8) : Tr ⊕ (Nat × Int × Int × Int) := match scanA t with
  | .inr (c, a) => .inr (c, (a : Int), (lineN t a : Int), (colN t a : Int))
  | .inl ts => match textL (2 * ts.length) (ts.map (tpOf t)) with
    | .ok tr _ => .inl tr
    | .bad c x => .inr (c, x.o, x.l, x.c)
def PsPost (w : World) (x : Tr ⊕ (Nat × Int × Int × Int)) (e : Ending) (w' : World) : Prop :=
  match x with
  | .inl tr => ∃ pv, e = .returned (.tuple #[.agg (trC tr pv), .agg zero5]) ∧ ObjsAt w' (fun g => w.heap.size ≤ g) pv tr.objs ∧ Below w.heap.size w w'
  | .inr (c, o, l, k) => e = .returned (.tuple #[.agg zeroT, .agg #[.int .i64 (c : Int), .int .i64 o, .int .i64 l, .int .i64 k, .string ⟨#[]⟩]]) ∧ Below w.heap.size w w'
theorem res_parse {fn : Func} {n m : Nat} (hf : fn.results = #[.cell n 24, .cell m 60]) (tmps : Array Value) (b d : Nat) (w : World) (v0 v1 v2 v3 v4 u0 u1 u2 u3 u4 : Value)
    (h2 : tmps[n]? = some (.pointer (some ⟨b, 0, none⟩))) (h3 : tmps[m]? = some (.pointer (some ⟨d, 0, none⟩))) (hk : w.heap[b]? = some (.cells #[v0, v1, v2, v3, v4] 24 (0, 0))) (hj : w.heap[d]? = some (.cells #[u0, u1, u2, u3, u4] 60 (0, 0))) :
    (results fn tmps).run Tryz.prog w = .ok (.tuple #[.agg #[v0, v1, v2, v3, v4], .agg #[u0, u1, u2, u3, u4]]) w := by
  have a1 := fun i => cell_of_row w b i _ _ (0, 0) hk
  have a2 := fun i => cell_of_row w d i _ _ (0, 0) hj
  have z0 := a1 0; have z1 := a1 1; have z2 := a1 2; have z3 := a1 3; have z4 := a1 4
  have y0 := a2 0; have y1 := a2 1; have y2 := a2 2; have y3 := a2 3; have y4 := a2 4
  simp at z0 z1 z2 z3 z4 y0 y1 y2 y3 y4
  simp [results, hf, go_sem, h2, h3, z0, z1, z2, z3, z4, y0, y1, y2, y3, y4]
set_option maxHeartbeats 4000000 in
set_option maxRecDepth 100000 in
theorem Parse_any (B0 : Nat) (p : Nat → Addr) (s : ByteArray) (w : World) (hE : Env B0 p w) (hF : EnvF B0 p w) (hs : s.size < 4611686018427387904) :
    Calls Tryz.prog 21 #[.string s] w fun e w' => PsPost w (parseL s.data.toList) e w' := by
  have hmf : ∀ (fn : Fn) (first cap : Array Value) (w : World), (Instr.makeFunc fn first cap).run Tryz.prog w = .ok (.func fn first cap) w := fun _ _ _ _ => rfl
  have hb2 := ((Below.refl w.heap.size w).alloc (Nat.le_refl _) (.cells #[.string ⟨#[]⟩, .string ⟨#[]⟩, .slice none 0 0, .bool false, .string ⟨#[]⟩] 24)).alloc (by simp) (.cells #[.int .i64 0, .int .i64 0, .int .i64 0, .int .i64 0, .string ⟨#[]⟩] 60)
  have ht2 := heap2_0' w (.cells #[.string ⟨#[]⟩, .string ⟨#[]⟩, .slice none 0 0, .bool false, .string ⟨#[]⟩] 24) (.cells #[.int .i64 0, .int .i64 0, .int .i64 0, .int .i64 0, .string ⟨#[]⟩] 60)
  have hf2 := heap2_1' w (.cells #[.string ⟨#[]⟩, .string ⟨#[]⟩, .slice none 0 0, .bool false, .string ⟨#[]⟩] 24) (.cells #[.int .i64 0, .int .i64 0, .int .i64 0, .int .i64 0, .string ⟨#[]⟩] 60)
  obtain ⟨x, hx⟩ : ∃ x, x = parseL s.data.toList := ⟨_, rfl⟩
  rw [← hx]
  have HX : Hid (x = parseL s.data.toList) := hx
  clear hx
  go_enter_defers Tryz.func21, Tryz.ntmps21
  go_wp2_with fail
  generalize ((w.alloc (.cells #[.string ⟨#[]⟩, .string ⟨#[]⟩, .slice none 0 0, .bool false, .string ⟨#[]⟩] 24)).alloc (.cells #[.int .i64 0, .int .i64 0, .int .i64 0, .int .i64 0, .string ⟨#[]⟩] 60)) = w2 at *
  have cs := Scan_any B0 p s w2 (hE.below (hb2.mono hE.size)) (hF.below hE (hb2.mono hE.size)) hs
  have hbl : w.heap.size + 1 < w2.heap.size := heap_lt hf2
  cases hsc : scanA s.data.toList with
  | inr ca =>
    obtain ⟨c, a⟩ := ca
    rw [hsc] at cs
    have hcb := scanA_bad hsc
    have hc0 : ((c : Int) == 0) = false := by rw [beq_eq_false_iff_ne]; omega
    have hc1 : ((c : Int) != 0) = true := by unfold bne; rw [hc0]; rfl
    have HY : Hid (x = .inr (c, (a : Int), (lineN s.data.toList a : Int), (colN s.data.toList a : Int))) := by
      show x = _
      rw [HX.out]
      unfold parseL
      rw [hsc]
    clear HX hsc hcb
    refine cs.mono ?_
    rintro e w3 ⟨rfl, hb3⟩
    have ht3 := (hb3.block _ (heap_lt ht2)).trans ht2
    have hf3 := (hb3.block _ (heap_lt hf2)).trans hf2
    have hbw := hb2.trans (hb3.mono hb2.size)
    generalize lineN s.data.toList a = ln at *
    generalize colN s.data.toList a = cl at *
    obtain ⟨⟨y0, y1, y2, y3, y4⟩, fy⟩ := var5 hf3
    have hf4 := set5t_at w3 (w.heap.size + 1) _ _ _ _ _ _ (.int .i64 (c : Int)) (.int .i64 (a : Int)) (.int .i64 (ln : Int)) (.int .i64 (cl : Int)) (.string ⟨#[]⟩) hf3
    have hg4 := set5t_grown w3 (w.heap.size + 1) (.int .i64 (c : Int)) (.int .i64 (a : Int)) (.int .i64 (ln : Int)) (.int .i64 (cl : Int)) (.string ⟨#[]⟩)
    have ht4 := (hg4.block _ (heap_lt ht3) (fun e => absurd (Option.some.inj e) (by omega))).trans ht3
    have hb4 : Below w.heap.size w _ := hbw.trans (below_of_grown hg4 (Nat.le_succ _) hbw.size)
    generalize hw4 : (((((w3.setCell ⟨w.heap.size + 1, 0, none⟩ (.int .i64 (c : Int))).setCell ⟨w.heap.size + 1, 1, none⟩ (.int .i64 (a : Int))).setCell ⟨w.heap.size + 1, 2, none⟩ (.int .i64 (ln : Int))).setCell ⟨w.heap.size + 1, 3, none⟩ (.int .i64 (cl : Int))).setCell ⟨w.heap.size + 1, 4, none⟩ (.string ⟨#[]⟩)) = w4 at hf4 hg4 ht4 hb4
    obtain ⟨⟨z0, z1, z2, z3, z4⟩, fz⟩ := var5 hf4
    obtain ⟨⟨u0, u1, u2, u3, u4⟩, fu⟩ := var5 ht4
    clear hf3 ht3 hb3 hbw hg4 cs ht2 hf2 hb2 hE hF
    have q2 : w.heap.size + 1 ≠ w.heap.size := by omega
    go_wp2
    go_region
    have ht5 := set5t_at w4 w.heap.size _ _ _ _ _ _ (.string ⟨#[]⟩) (.string ⟨#[]⟩) (.slice none 0 0) (.bool false) (.string ⟨#[]⟩) ht4
    have hg5 := set5t_grown w4 w.heap.size (.string ⟨#[]⟩) (.string ⟨#[]⟩) (.slice none 0 0) (.bool false) (.string ⟨#[]⟩)
    have hf5 := (hg5.block _ (heap_lt hf4) (fun e => absurd (Option.some.inj e) (by omega))).trans hf4
    have hb5 : Below w.heap.size w _ := hb4.trans (below_of_grown hg5 (Nat.le_refl _) hb4.size)
    clear hw4 z0 z1 z2 z3 z4 u0 u1 u2 u3 u4 fz fu y0 y1 y2 y3 y4 fy hg5
    generalize (((((w4.setCell ⟨w.heap.size, 0, none⟩ (.string ⟨#[]⟩)).setCell ⟨w.heap.size, 1, none⟩ (.string ⟨#[]⟩)).setCell ⟨w.heap.size, 2, none⟩ (.slice none 0 0)).setCell ⟨w.heap.size, 3, none⟩ (.bool false)).setCell ⟨w.heap.size, 4, none⟩ (.string ⟨#[]⟩)) = w5 at *
    have hf6 := set5t_at w5 (w.heap.size + 1) _ _ _ _ _ _ (.int .i64 (c : Int)) (.int .i64 (a : Int)) (.int .i64 (ln : Int)) (.int .i64 (cl : Int)) (.string ⟨#[]⟩) hf5
    have hg6 := set5t_grown w5 (w.heap.size + 1) (.int .i64 (c : Int)) (.int .i64 (a : Int)) (.int .i64 (ln : Int)) (.int .i64 (cl : Int)) (.string ⟨#[]⟩)
    have ht6 := (hg6.block _ (heap_lt ht5) (fun e => absurd (Option.some.inj e) (by omega))).trans ht5
    have hb6 : Below w.heap.size w _ := hb5.trans (below_of_grown hg6 (Nat.le_succ _) hb5.size)
    clear hg6 hf5 ht5 hb5 hf4 ht4 hb4
    generalize (((((w5.setCell ⟨w.heap.size + 1, 0, none⟩ (.int .i64 (c : Int))).setCell ⟨w.heap.size + 1, 1, none⟩ (.int .i64 (a : Int))).setCell ⟨w.heap.size + 1, 2, none⟩ (.int .i64 (ln : Int))).setCell ⟨w.heap.size + 1, 3, none⟩ (.int .i64 (cl : Int))).setCell ⟨w.heap.size + 1, 4, none⟩ (.string ⟨#[]⟩)) = w6 at *
    have hb7 := hb6.drew
    have hf7 : w6.drew.heap[w.heap.size + 1]? = _ := hf6
    have ht7 : w6.drew.heap[w.heap.size]? = _ := ht6
    clear hb6 hf6 ht6
    generalize w6.drew = w7 at *
    go_wp2
    rw [HY.out]
    exact ⟨_, res_parse Tryz.results21 _ w.heap.size (w.heap.size + 1) _ _ _ _ _ _ _ _ _ _ _ rfl rfl ht7 hf7, rfl, hb7⟩
  | inl ts =>
    rw [hsc] at cs
    obtain ⟨hgood, hsl⟩ := scanA_good hsc
    obtain ⟨hEnd, hln⟩ := good_end hgood
    have HY : Hid (x = match textL (2 * ts.length) (ts.map (tpOf s.data.toList)) with | .ok tr _ => .inl tr | .bad c x => .inr (c, x.o, x.l, x.c)) := by
      show x = _
      rw [HX.out]
      unfold parseL
      rw [hsc]
    have het : ∀ W, Below w.heap.size w W → W.cell? ⟨1, 0, none⟩ = some (.iface 164 (.agg #[.pointer (some ⟨15, 112, none⟩)])) := fun W hb => (hF.below hE (hb.mono hE.size)).et
    have hs16 : 16 ≤ w.heap.size := by have := hE.globs; have := hE.size; omega
    clear HX hsc hgood
    refine cs.mono ?_
    rintro e w3 ⟨v, rfl, hO, hb3⟩
    have ht3 := (hb3.block _ (heap_lt ht2)).trans ht2
    have hf3 := (hb3.block _ (heap_lt hf2)).trans hf2
    have hbw := hb2.trans (hb3.mono hb2.size)
    have hR3 : RowT w3 v (ts.map (tpOf s.data.toList)) := row_own (by rw [← tks_tps]; exact hO) (by rw [List.length_map])
    have hl0 : 0 < ts.length := by obtain ⟨y, r, hy⟩ := endL_ne hEnd; have := congrArg List.length hy; simp at this; omega
    obtain ⟨_, ⟨_, h0⟩ | ⟨tb, cap, cur, rfl, htb, hh, _⟩⟩ := hO
    · omega
    have hlx : (ts.map (tpOf s.data.toList)).length = ts.length := List.length_map ..
    have hlm : ts.length ≤ 262145 := by omega
    generalize ts.map (tpOf s.data.toList) = xs at *
    obtain ⟨⟨y0, y1, y2, y3, y4⟩, fy⟩ := var5 hf3
    have hf4 := set5t_at w3 (w.heap.size + 1) _ _ _ _ _ _ (.int .i64 0) (.int .i64 0) (.int .i64 0) (.int .i64 0) (.string ⟨#[]⟩) hf3
    have hg4 := set5t_grown w3 (w.heap.size + 1) (.int .i64 0) (.int .i64 0) (.int .i64 0) (.int .i64 0) (.string ⟨#[]⟩)
    have ht4 := (hg4.block _ (heap_lt ht3) (fun e => absurd (Option.some.inj e) (by omega))).trans ht3
    have hb4 : Below w.heap.size w _ := hbw.trans (below_of_grown hg4 (Nat.le_succ _) hbw.size)
    have htl4 := Nat.lt_of_lt_of_le (heap_lt hh) hg4.size
    have hR4 := row_grown hR3 hg4 (fun g off n cap e => by cases e; omega)
    generalize hw4 : (((((w3.setCell ⟨w.heap.size + 1, 0, none⟩ (.int .i64 0)).setCell ⟨w.heap.size + 1, 1, none⟩ (.int .i64 0)).setCell ⟨w.heap.size + 1, 2, none⟩ (.int .i64 0)).setCell ⟨w.heap.size + 1, 3, none⟩ (.int .i64 0)).setCell ⟨w.heap.size + 1, 4, none⟩ (.string ⟨#[]⟩)) = w4 at hf4 hg4 ht4 hb4 htl4 hR4
    obtain ⟨⟨z0, z1, z2, z3, z4⟩, fz⟩ := var5 hf4
    unfold zero5
    clear hf3 ht3 hb3 hbw hg4 cs ht2 hf2 hb2 hE hF hR3 hh
    go_wp2_with fail
    have hb5 := (Below.refl w4.heap.size w4).alloc (Nat.le_refl _) (.cells #[.slice (some ⟨tb, 0, none⟩) ts.length cap] 91)
    have hP5 : Pa (w4.alloc (.cells #[.slice (some ⟨tb, 0, none⟩) ts.length cap] 91)) w4.heap.size tb xs (.slice (some ⟨tb, 0, none⟩) ts.length cap) := ⟨heap_alloc_new w4 _, rowT_below hR4 hb5, ⟨_, _, _, rfl⟩, by omega, by simp; omega⟩
    have ht5 := (hb5.block _ (heap_lt ht4)).trans ht4
    have hf5 := (hb5.block _ (heap_lt hf4)).trans hf4
    have hbw5 := hb4.trans (hb5.mono hb4.size)
    have hsz4 := hb4.size
    clear hb5 ht4 hf4 hb4 hR4 hw4 z0 z1 z2 z3 z4 fz y0 y1 y2 y3 y4 fy
    generalize (w4.alloc (.cells #[.slice (some ⟨tb, 0, none⟩) ts.length cap] 91)) = w5 at *
    have hr5 := hP5.lt
    have hrw : w.heap.size + 1 < w4.heap.size := by have := htl4; omega
    generalize w4.heap.size = r at *
    refine (ptext_any (2 * ts.length) xs _ w5 r tb (by omega) (by omega) hP5 hEnd).mono ?_
    rintro e w6 hPP
    rcases ppost_use hPP with ⟨tr, s6, u, v6, e1, rfl, ⟨pv, rfl, hObj⟩, hP6, hg6⟩ | ⟨c, x9, e1, hG, hg6⟩
    · have HZ : Hid (x = .inl tr) := by
        show x = _
        rw [HY.out, e1]
      have ht6 := (hg6.block _ (heap_lt ht5) (fun e => absurd (Option.some.inj e) (by omega))).trans ht5
      have hf6 := (hg6.block _ (heap_lt hf5) (fun e => absurd (Option.some.inj e) (by omega))).trans hf5
      have hb6 : Below w.heap.size w w6 := hbw5.trans (below_of_grown hg6 (by omega) hbw5.size)
      obtain ⟨oa, on, oc, rfl⟩ := objsAt_shape hObj
      obtain ⟨⟨y0, y1, y2, y3, y4⟩, fy⟩ := var5 ht6
      have ht7 := set5t_at w6 w.heap.size _ _ _ _ _ _ (.string ⟨tr.version.toArray⟩) (.string ⟨tr.cpu.toArray⟩) (.slice oa on oc) (.bool tr.noted) (.string ⟨tr.note.toArray⟩) ht6
      have hg7 := set5t_grown w6 w.heap.size (.string ⟨tr.version.toArray⟩) (.string ⟨tr.cpu.toArray⟩) (.slice oa on oc) (.bool tr.noted) (.string ⟨tr.note.toArray⟩)
      have hf7 := (hg7.block _ (heap_lt hf6) (fun e => absurd (Option.some.inj e) (by omega))).trans hf6
      have hb7 : Below w.heap.size w _ := hb6.trans (below_of_grown hg7 (Nat.le_refl _) hb6.size)
      have hO7 := objsAt_grown hg7 (fun hF => by omega) hObj
      generalize hw7 : (((((w6.setCell ⟨w.heap.size, 0, none⟩ (.string ⟨tr.version.toArray⟩)).setCell ⟨w.heap.size, 1, none⟩ (.string ⟨tr.cpu.toArray⟩)).setCell ⟨w.heap.size, 2, none⟩ (.slice oa on oc)).setCell ⟨w.heap.size, 3, none⟩ (.bool tr.noted)).setCell ⟨w.heap.size, 4, none⟩ (.string ⟨tr.note.toArray⟩)) = w7 at ht7 hg7 hf7 hb7 hO7
      obtain ⟨⟨z0, z1, z2, z3, z4⟩, fz⟩ := var5 hf7
      have hf8 := set5t_at w7 (w.heap.size + 1) _ _ _ _ _ _ (.int .i64 0) (.int .i64 0) (.int .i64 0) (.int .i64 0) (.string ⟨#[]⟩) hf7
      have hg8 := set5t_grown w7 (w.heap.size + 1) (.int .i64 0) (.int .i64 0) (.int .i64 0) (.int .i64 0) (.string ⟨#[]⟩)
      have ht8 := (hg8.block _ (heap_lt ht7) (fun e => absurd (Option.some.inj e) (by omega))).trans ht7
      have hb8 : Below w.heap.size w _ := hb7.trans (below_of_grown hg8 (Nat.le_succ _) hb7.size)
      have hO8 := objsAt_grown hg8 (fun hF => by omega) hO7
      clear hPP e1 hP5 ht5 hf5 ht6 hf6 hg6 hg7 hb7 hO7 ht7 hf7 hP6 hObj hg8 hb6 HY
      unfold trC
      go_wp2
      generalize (((((w7.setCell ⟨w.heap.size + 1, 0, none⟩ (.int .i64 0)).setCell ⟨w.heap.size + 1, 1, none⟩ (.int .i64 0)).setCell ⟨w.heap.size + 1, 2, none⟩ (.int .i64 0)).setCell ⟨w.heap.size + 1, 3, none⟩ (.int .i64 0)).setCell ⟨w.heap.size + 1, 4, none⟩ (.string ⟨#[]⟩)) = w8 at *
      refine leaves_cons (f := 46) (args := #[.pointer (some ⟨w.heap.size, 0, none⟩), .pointer (some ⟨w.heap.size + 1, 0, none⟩)]) (by simp) (by simp [go_sem]) ?_
      refine (catch_idle w.heap.size (w.heap.size + 1) w8).mono ?_
      rintro e u' w9 ⟨rfl, rfl, rfl⟩
      show Leaves _ _ _ _ [] (settle _) w9
      rw [HZ.out]
      refine ⟨_, res_parse Tryz.results21 _ w.heap.size (w.heap.size + 1) _ _ _ _ _ _ _ _ _ _ _ rfl rfl ht8 hf8, _, rfl, ?_, hb8⟩
      exact objsAt_move (Nat.le_refl _) (fun g hF hl => ⟨rfl, by omega⟩) hO8
    · have HZ : Hid (x = .inr (c, x9.o, x9.l, x9.c)) := by
        show x = _
        rw [HY.out, e1]
      obtain ⟨q, pe, rfl, hq, hpe, hhq, hhp⟩ := hG
      have ht6 := (hg6.block _ (heap_lt ht5) (fun e => absurd (Option.some.inj e) (by omega))).trans ht5
      have hf6 := (hg6.block _ (heap_lt hf5) (fun e => absurd (Option.some.inj e) (by omega))).trans hf5
      have hb6 : Below w.heap.size w w6 := hbw5.trans (below_of_grown hg6 (by omega) hbw5.size)
      have hcp := catch_panicking w.heap.size (w.heap.size + 1) q pe c x9 _ _ _ _ _ _ _ _ _ _ [] w6 (het w6 hb6) (Nat.le_trans hs16 hb6.size) hhq hhp ht6 hf6 (by omega) w.heap.size (Nat.le_refl _) (Nat.le_succ _) hb6.size
      refine leaves_cons (f := 46) (args := #[.pointer (some ⟨w.heap.size, 0, none⟩), .pointer (some ⟨w.heap.size + 1, 0, none⟩)]) (by simp) (by simp [go_sem]) ?_
      refine hcp.mono ?_
      rintro e u' w9 ⟨rfl, rfl, hb9, ht9, hf9⟩
      show Leaves _ _ _ _ [] (settle _) w9
      rw [HZ.out]
      exact ⟨_, res_parse Tryz.results21 _ w.heap.size (w.heap.size + 1) _ _ _ _ _ _ _ _ _ _ _ rfl rfl ht9 hf9, rfl, hb6.trans hb9⟩
end Go.Proofs.YtlbgppijeoonjaaGreatDoor

