import Derived.Test.YtlbgppijeoonjaaGreatDoorAnX
import Derived.Test.YtlbgppijeoonjaaGreatDoorHdb
import Derived.Laws.AppendOwnNone
import Derived.Test.YtlbgppijeoonjaaGreatDoorFnX
import Derived.Test.YtlbgppijeoonjaaGreatDoorSmc
namespace Go.Proofs.YtlbgppijeoonjaaGreatDoor
open Go.RowKit
set_option linter.unusedVariables false

theorem Tryz.infoInt : (Tryz.prog.info? 3).map (fun i => (i.zero, i.size, i.bytes)) = some (some (.int .i64 0), 1, 8) := by kernel_rfl
theorem own_shape1 {w : World} {base : Nat} {v : Value} {n : Nat} {xs : List Value} (h : w.ownsRow base 3 1 v n xs) : ∃ a cap, v = .slice a n cap := by
  obtain ⟨hl, ⟨rfl, rfl⟩ | ⟨g, cap, cur, rfl, _⟩⟩ := h
  · exact ⟨none, 0, rfl⟩
  · exact ⟨_, _, rfl⟩
theorem heap2_1z (w : World) (a b : Obj) : ((w.alloc a).alloc b).heap[w.heap.size + 1]? = some b := by
  have := heap_alloc_new (w.alloc a) b
  rwa [show (w.alloc a).heap.size = w.heap.size + 1 by simp] at this
theorem cell_new7B (w : World) (b : Obj) (vs : Array Value) (t : TypeId) : ∀ j u, vs.toList[j]? = some u → ((w.alloc (.cells vs t)).alloc b).cell? ((⟨w.heap.size, 0, none⟩ : Addr).add j) = some u := by
  intro j u hj
  have h := cell_new7 w vs t j u hj
  rw [Lib.add_plain] at h ⊢
  rw [World.cell?_of_block (w := w.alloc (.cells vs t)) (heap_alloc_old (w.alloc (.cells vs t)) b (by simp))]
  exact h
theorem own_path {w : World} {base : Nat} {v x : Value} {path : List Int} (h : w.ownsRow base 3 1 v (path.length + 1) ((path.map fun i => Value.int .i64 i) ++ [x])) :
    ∃ g cap, v = .slice (some ⟨g, 0, none⟩) (path.length + 1) cap ∧ base ≤ g ∧ path.length + 1 ≤ cap ∧ cap ≤ maxLen ∧ PathAt w (.slice (some ⟨g, 0, none⟩) path.length cap) path := by
  obtain ⟨hl, ⟨rfl, h0⟩ | ⟨g, cap, cur, rfl, hb, hh, h1, h2, h3, h4⟩⟩ := h
  · omega
  · refine ⟨g, cap, rfl, hb, h1, h2, .row (heap_lt hh) (fun j i hj => ?_) (by omega) h2⟩
    have hlt : j < path.length := (List.getElem?_eq_some_iff.1 hj).1
    have hx : ((path.map fun i => Value.int .i64 i) ++ [x])[j]? = some (.int .i64 i) := by
      rw [List.getElem?_append_left (by simpa using hlt), List.getElem?_map, hj]; rfl
    have := cell_of_row w g j _ _ (0, 0) hh
    rw [Nat.zero_add, this, ← Array.getElem?_toList]
    rw [← h4, List.getElem?_take] at hx
    split at hx
    · exact hx
    · cases hx
/-- What holds behind the variable of the first answer, in whatever order it was made. -/
structure GoodW (w W : World) (T : Obj) (gv : Nat) (cs : Array Value) (pv : Value) (l : List At) : Prop where
  below : Below w.heap.size w W
  var : W.heap[gv]? = some (.cells cs 34 (0, 0))
  tree : W.heap[w.heap.size]? = some T
  attrs : AttrsAt W (fun _ => True) pv l
theorem good_new {w w2 w3 : World} {T : Obj} {cs : Array Value} {pv : Value} {l : List At} {F : Nat → Prop} (hB2 : Below w.heap.size w w2) (hT2 : w2.heap[w.heap.size]? = some T) (hB3 : Below w2.heap.size w2 w3) (hA3 : AttrsAt w3 F pv l) :
    GoodW w (w3.alloc (.cells cs 34)) T w3.heap.size cs pv l := by
  have hT3 := (hB3.block _ (heap_lt hT2)).trans hT2
  have hal := (Below.refl w3.heap.size w3).alloc (Nat.le_refl _) (.cells cs 34)
  have hB := hB2.trans (hB3.mono hB2.size)
  exact ⟨hB.trans (hal.mono hB.size), heap_alloc_new _ _, (hal.block _ (heap_lt hT3)).trans hT3, attrsAt_mono (fun _ _ => trivial) (attrsAt_below hal hA3)⟩
theorem good_set {w w2 wc w3 : World} {T : Obj} {gv : Nat} {pv : Value} {l : List At} {o0 o1 o2 o3 o4 o5 o6 o7 o8 o9 o10 o11 v0 v1 v2 v3 v4 v5 v6 v7 v8 v9 v10 v11 : Value} (hB2 : Below w.heap.size w w2) (hT2 : w2.heap[w.heap.size]? = some T) (hBc : Below w2.heap.size w2 wc) (hB3 : Below wc.heap.size wc w3)
    (hA3 : AttrsAt w3 (fun g => g < w.heap.size ∨ wc.heap.size ≤ g) pv l) (hgv : w.heap.size < gv) (hgc : gv < wc.heap.size) (hv3 : w3.heap[gv]? = some (.cells #[o0, o1, o2, o3, o4, o5, o6, o7, o8, o9, o10, o11] 34 (0, 0))) :
    GoodW w ((((((((((((w3.setCell ⟨gv, 0, none⟩ v0).setCell ⟨gv, 1, none⟩ v1).setCell ⟨gv, 2, none⟩ v2).setCell ⟨gv, 3, none⟩ v3).setCell ⟨gv, 4, none⟩ v4).setCell ⟨gv, 5, none⟩ v5).setCell ⟨gv, 6, none⟩ v6).setCell ⟨gv, 7, none⟩ v7).setCell ⟨gv, 8, none⟩ v8).setCell ⟨gv, 9, none⟩ v9).setCell ⟨gv, 10, none⟩ v10).setCell ⟨gv, 11, none⟩ v11) T gv #[v0, v1, v2, v3, v4, v5, v6, v7, v8, v9, v10, v11] pv l := by
  have hg := set12_grown w3 gv v0 v1 v2 v3 v4 v5 v6 v7 v8 v9 v10 v11
  have hv := set12_at w3 gv _ o0 o1 o2 o3 o4 o5 o6 o7 o8 o9 o10 o11 v0 v1 v2 v3 v4 v5 v6 v7 v8 v9 v10 v11 hv3
  have hTc := (hBc.block _ (heap_lt hT2)).trans hT2
  have hT3 := (hB3.block _ (heap_lt hTc)).trans hTc
  have hBw := hB2.trans (hBc.mono hB2.size)
  have hB := hBw.trans (hB3.mono hBw.size)
  refine ⟨hB.grown hg hB.size (fun k e => by cases e; omega), hv, (hg.block _ (heap_lt hT3) (fun e => by cases e; omega)).trans hT3, attrsAt_mono (fun _ _ => trivial) (attrsAt_grown hg (by omega) hA3)⟩
theorem cut_tail {p : Prop} {α : Sort _} {A : α} (S : α → Prop) (tl : S A → p) (main : S A) : p := tl main
/-- append of a slice that came in, nil or not. -/
theorem wpList_append_in {P : Program} {w : World} {ops : Array Oper} {rest : List Oper} {o : Oper} {a : Act} {Q : Exit → Act → World → Prop} (hgd : o.guard = none) (s x : Operand) (t : TypeId)
    (ho : o.op = .call { callee := .builtin .append, args := #[s, x], argTypes := #[t, t] })
    (base : Nat) (e : TypeId) (i : TypeInfo) (z : Value) (size bytes : Nat) (ht : P.underlying t = some (.slice e)) (hi : P.info? e = some i) (hz : i.zero = some z)
    (hsize : i.size = size) (hby : i.bytes = bytes) (hzs : z.cells.size = size) (hsz : 0 < size)
    (v : Value) (n : Nat) (xs : List Value) (hs : a.eval s = v) (hown : w.ownsRow base e size v n xs)
    (oa : Option Addr) (m c : Nat) (news : List Value) (hx : a.eval x = .slice oa m c) (hno : oa = none → m = 0 ∧ c = 0) (hl : news.length = m * size) (hnews : ∀ ad, oa = some ad → ∀ j u, news[j]? = some u → w.cell? (ad.add j) = some u) (h1 : ∀ u ∈ news, u.oneCell' = true)
    (h63 : n + m ≤ maxLen) (hbytes : (n + m) * bytes ≤ 140737488355328) (hbase : base ≤ w.heap.size)
    (h : ∀ v' w', w'.ownsRow base e size v' (n + m) (xs ++ news) → w.grownBy w' v.ownBlock → wpList P ops Q rest (a.put o.dst v') w') :
    wpList P ops Q (o :: rest) a w := by
  cases oa with
  | some ad => exact wpList_append_own_at w hgd s x t ho base e i z size bytes ht hi hz hsize hby hzs hsz v n xs hs hown ad m c news hx hl (hnews ad rfl) h1 h63 hbytes hbase (fun v' w' a b _ _ => h v' w' a b)
  | none =>
    obtain ⟨rfl, rfl⟩ := hno rfl
    obtain rfl : news = [] := List.eq_nil_of_length_eq_zero (by omega)
    refine wpList_append_own_none hgd s x t ho base e i size ht hi v n xs hs hown hx (h v w (by simpa using hown) (grown_refl w _))
set_option maxHeartbeats 40000000 in
set_option maxRecDepth 100000 in
theorem finds_any (B0 : Nat) (p : Nat → Addr) (w : World) (hE : Env B0 p w) (hF : EnvF B0 p w) (t : Tr) (pv : Value) (hO : ObjsAt w (fun _ => True) pv t.objs) (nb : Nat) (hnb : nb ≤ 1099511627776) (hol : t.objs.length < 2199023255552) (hLB : ∀ o, o ∈ t.objs → LenB nb o.attrs)
    (k n : List UInt8) (path : List Int) (op : Option Addr) (cp : Nat) (hpl : path.length ≤ 17592186043904) (hP : PathAt w (.slice op path.length cp) path) (hno : op = none → path.length = 0 ∧ cp = 0) (hcl0 : ∀ ad, op = some ad → ∀ j i, path[j]? = some i → ∃ g o, ad = ⟨g, o, none⟩ ∧ g < w.heap.size ∧ w.cell? ⟨g, o + j, none⟩ = some (.int .i64 i)) :
    Calls Tryz.prog 3 #[.agg (trC t pv), .string ⟨k.toArray⟩, .string ⟨n.toArray⟩, .slice op path.length cp] w fun e w' => e = .returned (.bool true) ∧ Below w.heap.size w w' := by
  obtain ⟨⟨an, ao, al, ac, vv, abr, aps, ahd, ant⟩, ec, cA, cR⟩ := attr_both w t pv hO nb hnb hLB path
  have ch : ∀ W, Below w.heap.size w W → Calls Tryz.prog 14 #[] W fun e w' => e = .returned (.bool true) ∧ Below W.heap.size W w' := fun W hW =>
    heads_any B0 p W (hE.below (hW.mono hE.size)) (hF.below hE (hW.mono hE.size))
  obtain ⟨oa, on, oc, rfl⟩ := objsAt_shape hO
  obtain ⟨tv, tc, tobs, tnd, tnt⟩ := t
  dsimp only at hO hol hLB
  unfold trC
  unfold trC at cA cR
  dsimp only at cA cR ⊢
  obtain ⟨ii, hi0, hz0, hz1, hz2⟩ := info_parts Tryz.infoInt
  have hown := World.ownsRow_lit (base := w.heap.size + 1) (e := 3) (size := 1) (w.alloc (.cells #[.string ⟨tv.toArray⟩, .string ⟨tc.toArray⟩, .slice oa on oc, .bool tnd, .string ⟨tnt.toArray⟩] 24)) #[] 0 (by simp) (Nat.zero_le _) rfl
  rw [show (w.alloc (.cells #[.string ⟨tv.toArray⟩, .string ⟨tc.toArray⟩, .slice oa on oc, .bool tnd, .string ⟨tnt.toArray⟩] 24)).heap.size = w.heap.size + 1 by simp] at hown
  have hnl : (path.map fun i => Value.int .i64 i).length = path.length * 1 := by simp
  have hb2 := ((Below.refl w.heap.size w).alloc (Nat.le_refl _) (.cells #[.string ⟨tv.toArray⟩, .string ⟨tc.toArray⟩, .slice oa on oc, .bool tnd, .string ⟨tnt.toArray⟩] 24)).alloc (by simp) (.cells #[] 3)
  have hcl : ∀ ad, op = some ad → ∀ j u, (path.map fun i => Value.int .i64 i)[j]? = some u → ((w.alloc (.cells #[.string ⟨tv.toArray⟩, .string ⟨tc.toArray⟩, .slice oa on oc, .bool tnd, .string ⟨tnt.toArray⟩] 24)).alloc (.cells #[] 3)).cell? (ad.add j) = some u := fun ad had j u hj => by
    rw [List.getElem?_map] at hj
    cases e : path[j]? with
    | none => rw [e] at hj; cases hj
    | some i =>
      rw [e] at hj
      cases hj
      obtain ⟨g, o, rfl, hg, hc⟩ := hcl0 ad had j i e
      rw [Lib.add_plain, cell_below hb2 _ _ hg]
      exact hc
  have ho : ∀ u ∈ (path.map fun i => Value.int .i64 i), u.oneCell' = true := fun u hu => by obtain ⟨i, _, rfl⟩ := List.mem_map.1 hu; rfl
  have ht2 := heap2_0' w (.cells #[.string ⟨tv.toArray⟩, .string ⟨tc.toArray⟩, .slice oa on oc, .bool tnd, .string ⟨tnt.toArray⟩] 24) (.cells #[] 3)
  have cF : ∀ W, Below w.heap.size w W → Calls Tryz.prog 12 #[.agg #[.string ⟨tv.toArray⟩, .string ⟨tc.toArray⟩, .slice oa on oc, .bool tnd, .string ⟨tnt.toArray⟩], .string ⟨k.toArray⟩, .string ⟨n.toArray⟩] W fun e w' => e = .returned (.int .i64 (findL k n tobs)) ∧ Below W.heap.size W w' := fun W hW =>
    find_any W (fun _ => True) ⟨tv, tc, tobs, tnd, tnt⟩ (.slice oa on oc) k n (objsAt_move hW.size (fun g hF hl => ⟨hW.block g hl, hF⟩) hO) hol
  have cG : ∀ W, Below w.heap.size w W → Calls Tryz.prog 13 #[.agg #[.string ⟨tv.toArray⟩, .string ⟨tc.toArray⟩, .slice oa on oc, .bool tnd, .string ⟨tnt.toArray⟩], .string ⟨k.toArray⟩, .string ⟨n.toArray⟩] W fun e w' => e = .returned (.int .i64 (findL k n tobs)) ∧ Below W.heap.size W w' := fun W hW =>
    rFind_any W (fun _ => True) ⟨tv, tc, tobs, tnd, tnt⟩ (.slice oa on oc) k n (objsAt_move hW.size (fun g hF hl => ⟨hW.block g hl, hF⟩) hO) hol
  have cS : ∀ (W : World) (F F' : Nat → Prop) (v v' : Value), AttrsAt W F v aps → AttrsAt W F' v' aps → Calls Tryz.prog 28 #[v, v', .bool true] W fun e w' => e = .returned (.bool true) ∧ Below W.heap.size W w' := sameAttrs_any (smA_refl true aps)
  clear hE hF hcl0
  go_enter Tryz.func3, Tryz.ntmps3
  go_wp2_with (at_builtin; refine wpList_append_in rfl (.tmp 15) (.tmp 16) 25 rfl (w.heap.size + 1) 3 ii (.int .i64 0) 1 8 Tryz.underlying25 hi0 hz0 hz1 hz2 rfl (by decide) _ 0 _ rfl hown op path.length cp (path.map fun i => Value.int .i64 i) rfl hno hnl hcl ho (by unfold maxLen; omega) (by omega) (by simp) ?_)
  intro v1 w1 ho1 hg1
  have hB1 : Below w.heap.size w w1 := hb2.grown hg1 (by simp; omega) (fun k e => by simp [Value.ownBlock] at e; omega)
  obtain ⟨av, cv, rfl⟩ := own_shape1 ho1
  have hT1 := (hg1.block w.heap.size (by simp; omega) (fun e => by simp [Value.ownBlock] at e)).trans ht2
  obtain ⟨⟨k0, k1, k2, k3, k4⟩, fk⟩ := var5 hT1
  have hs1 := hg1.size
  simp at hs1
  have hoD : w1.drew.ownsRow (w.heap.size + 1) 3 1 (.slice av path.length cv) path.length (path.map fun i => Value.int .i64 i) := ho1
  go_wp2
  rename_i Q' K hK
  apply cut_tail (α := Nat → Nat → Nat → Nat → Nat → Nat → Option Addr → Act) (fun A => ∀ (gv gs g2 c2 n3 c3 : Nat) (a3 : Option Addr) (W : World), GoodW w W (.cells #[.string ⟨tv.toArray⟩, .string ⟨tc.toArray⟩, .slice oa on oc, .bool tnd, .string ⟨tnt.toArray⟩] 24 (0, 0)) gv #[.string ⟨an.toArray⟩, .int .i64 ao, .int .i64 al, .int .i64 ac, .int .i64 vv.kind, .string ⟨vv.text.toArray⟩, .int .u32 (vv.num : Int), .bool vv.hex, .bool abr, .slice a3 n3 c3, .bool ahd, .string ⟨ant.toArray⟩] (.slice a3 n3 c3) aps → Exit.then K Q' Exit.normal (A gv gs g2 c2 n3 c3 a3) W)
  · intro tail
    have hTa : ∀ o, (w1.alloc o).heap[w.heap.size]? = some (.cells #[.string ⟨tv.toArray⟩, .string ⟨tc.toArray⟩, .slice oa on oc, .bool tnd, .string ⟨tnt.toArray⟩] 24 (0, 0)) := fun o => (heap_alloc_old w1 o (by omega)).trans hT1
    have hTb : ∀ o o', ((w1.alloc o).alloc o').heap[w.heap.size]? = some (.cells #[.string ⟨tv.toArray⟩, .string ⟨tc.toArray⟩, .slice oa on oc, .bool tnd, .string ⟨tnt.toArray⟩] 24 (0, 0)) := fun o o' => (heap_alloc_old (w1.alloc o) o' (by simp; omega)).trans (hTa o)
    have ka0 := fun o => (var5 (hTa o)).1.1
    have ka1 := fun o => (var5 (hTa o)).1.2.1
    have ka2 := fun o => (var5 (hTa o)).1.2.2.1
    have ka3 := fun o => (var5 (hTa o)).1.2.2.2.1
    have ka4 := fun o => (var5 (hTa o)).1.2.2.2.2
    have kb0 := fun o o' => (var5 (hTb o o')).1.1
    have kb1 := fun o o' => (var5 (hTb o o')).1.2.1
    have kb2 := fun o o' => (var5 (hTb o o')).1.2.2.1
    have kb3 := fun o o' => (var5 (hTb o o')).1.2.2.2.1
    have kb4 := fun o o' => (var5 (hTb o o')).1.2.2.2.2
    go_region_law
      (first
        | (refine step_append_own_at rfl (.tmp 20) (.tmp 21) 25 rfl (w.heap.size + 1) 3 ii (.int .i64 0) 1 8 Tryz.underlying25 hi0 hz0 hz1 hz2 rfl (by decide) (.slice av path.length cv) path.length (path.map fun i => Value.int .i64 i) rfl (by first | exact hoD.alloc _ | exact (hoD.alloc _).alloc _) _ 1 1 [.int .i64 7] rfl rfl (by first | exact cell_new7 w1.drew #[.int .i64 7] _ | exact cell_new7' w1.drew _ #[.int .i64 7] _ | exact cell_new7B w1.drew _ #[.int .i64 7] _) (by intro u hu; simp at hu; subst hu; rfl) (by unfold maxLen; omega) (by omega) (by simp; omega) ?_; intro v2 w2 ho2 hg2 hat2; obtain ⟨g2, c2, rfl, hg2b, hc2, hc2m, hP2⟩ := own_path ho2; have hB2 : Below w.heap.size w w2 := (by first | exact ((hB1.drew).alloc (by simp; omega) _).grown hg2 (by simp; omega) (fun k e => by have := (hoD.lt k e).1; omega) | exact (((hB1.drew).alloc (by simp; omega) _).alloc (by simp; omega) _).grown hg2 (by simp; omega) (fun k e => by have := (hoD.lt k e).1; omega)); have hs2 := hB2.size; have hl2 : path.length ≤ c2 := (by omega); have hT2 : w2.heap[w.heap.size]? = some (.cells #[.string ⟨tv.toArray⟩, .string ⟨tc.toArray⟩, .slice oa on oc, .bool tnd, .string ⟨tnt.toArray⟩] 24 (0, 0)) := (by first | exact (hg2.block _ (by simp; omega) (fun e => by have := (hoD.lt _ e.symm).1; omega)).trans (hTa _) | exact (hg2.block _ (by simp; omega) (fun e => by have := (hoD.lt _ e.symm).1; omega)).trans (hTb _ _)); obtain ⟨⟨m0, m1, m2, m3, m4⟩, fm⟩ := var5 hT2; have hTc : ∀ o, (w2.alloc o).heap[w.heap.size]? = some (.cells #[.string ⟨tv.toArray⟩, .string ⟨tc.toArray⟩, .slice oa on oc, .bool tnd, .string ⟨tnt.toArray⟩] 24 (0, 0)) := (fun o => (heap_alloc_old w2 o (heap_lt hT2)).trans hT2); have kc0 := (fun o => (var5 (hTc o)).1.1); have kc1 := (fun o => (var5 (hTc o)).1.2.1); have kc2 := (fun o => (var5 (hTc o)).1.2.2.1); have kc3 := (fun o => (var5 (hTc o)).1.2.2.2.1); have kc4 := (fun o => (var5 (hTc o)).1.2.2.2.2); first | (have hv2 : w2.heap[w1.heap.size + 1]? = some (.cells #[.string ⟨#[]⟩, .int .i64 0, .int .i64 0, .int .i64 0, .int .i64 0, .string ⟨#[]⟩, .int .u32 0, .bool false, .bool false, .slice none 0 0, .bool false, .string ⟨#[]⟩] 34) := (hg2.block _ (by simp) (fun e => by have h9 : w1.heap.size + 1 < w1.heap.size := (hoD.lt _ e.symm).2; omega)).trans (heap2_1z w1.drew _ _)) | (have hv2 : w2.heap[w1.heap.size]? = some (.cells #[.string ⟨#[]⟩, .int .i64 0, .int .i64 0, .int .i64 0, .int .i64 0, .string ⟨#[]⟩, .int .u32 0, .bool false, .bool false, .slice none 0 0, .bool false, .string ⟨#[]⟩] 34) := (hg2.block _ (by simp <;> omega) (fun e => by have h9 : w1.heap.size < w1.heap.size := (hoD.lt _ e.symm).2; omega)).trans (heap2_0 w1.drew _ _)) | skip)
        | (refine step_call rfl 9 #[.agg #[.string ⟨tv.toArray⟩, .string ⟨tc.toArray⟩, .slice oa on oc, .bool tnd, .string ⟨tnt.toArray⟩], .slice (some ⟨g2, 0, none⟩) path.length c2] (by first | rfl | go_simp) (cA _ _ (by first | exact hB2 | exact hB2.alloc hs2 _) (by first | exact hP2 | exact pathAt_below ((Below.refl w2.heap.size w2).alloc (Nat.le_refl _) _) hP2)) ?_; rintro e w3 ⟨pv3, rfl, hA3, hB3⟩; refine Or.inl ⟨_, rfl, ?_⟩; obtain ⟨a3, n3, c3, rfl⟩ := attrsAt_shape hA3; unfold atC; first | (have hv3 := (hB3.block _ (heap_lt hv2)).trans hv2; obtain ⟨⟨q0, q1, q2, q3, q4, q5, q6, q7, q8, q9, q10, q11⟩, fq⟩ := var12 hv3) | (have hv3 := (hB3.block w2.heap.size (by simp)).trans (heap_alloc_new w2 (.cells #[.string ⟨#[]⟩, .int .i64 0, .int .i64 0, .int .i64 0, .int .i64 0, .string ⟨#[]⟩, .int .u32 0, .bool false, .bool false, .slice none 0 0, .bool false, .string ⟨#[]⟩] 34)); obtain ⟨⟨q0, q1, q2, q3, q4, q5, q6, q7, q8, q9, q10, q11⟩, fq⟩ := var12 hv3) | skip))
    all_goals clear ka0 ka1 ka2 ka3 ka4 kb0 kb1 kb2 kb3 kb4 kc0 kc1 kc2 kc3 kc4 hTa hTb hTc
    · have hgood := good_new (cs := #[.string ⟨an.toArray⟩, .int .i64 ao, .int .i64 al, .int .i64 ac, .int .i64 vv.kind, .string ⟨vv.text.toArray⟩, .int .u32 (vv.num : Int), .bool vv.hex, .bool abr, .slice a3 n3 c3, .bool ahd, .string ⟨ant.toArray⟩]) hB2 hT2 hB3 hA3
      generalize w3.heap.size = gv at hgood ⊢
      generalize w1.heap.size = gs at hgood ⊢
      exact tail gv gs g2 c2 n3 c3 a3 _ hgood
    all_goals first
      | (have h9 := heap_lt hv2; exact tail _ _ _ _ _ _ _ _ (good_set hB2 hT2 (Below.refl _ _) hB3 hA3 (by omega) h9 hv3))
      | (have h9 := heap_lt hv3; exact tail _ _ _ _ _ _ _ _ (good_set hB2 hT2 ((Below.refl _ _).alloc (Nat.le_refl _) _) hB3 hA3 (heap_lt hT2) (by simp) hv3))
      | exact tail _ _ _ _ _ _ _ _ (good_new hB2 hT2 hB3 hA3)
  · intro gv gs g2 c2 n3 c3 a3 W hgood
    obtain ⟨hBW, hvW, hTW, hAW⟩ := hgood
    refine hK _ _ ?_
    obtain ⟨⟨m0, m1, m2, m3, m4⟩, fm⟩ := var5 hTW
    clear cA hown hcl hno ho hnl hb2 ht2 ho1 hg1 hT1 k0 k1 k2 k3 k4 fk hoD hK
    go_wp2_with fail
    refine (cR W _ hBW (pathAt_below hBW hP)).mono ?_
    rintro e w4 ⟨pv4, rfl, hA4, hB4⟩
    obtain ⟨a4, n4, c4, rfl⟩ := attrsAt_shape hA4
    unfold atC
    have hv4 := (hB4.block _ (heap_lt hvW)).trans hvW
    have hT4 := (hB4.block _ (heap_lt hTW)).trans hTW
    have hA34 := attrsAt_below hB4 hAW
    have hBw4 := hBW.trans (hB4.mono hBW.size)
    have hal := (Below.refl w4.heap.size w4).alloc (Nat.le_refl _) (.cells #[.string ⟨an.toArray⟩, .int .i64 ao, .int .i64 al, .int .i64 ac, .int .i64 vv.kind, .string ⟨vv.text.toArray⟩, .int .u32 (vv.num : Int), .bool vv.hex, .bool abr, .slice a4 n4 c4, .bool ahd, .string ⟨ant.toArray⟩] 34)
    have hb5 := heap_alloc_new w4 (.cells #[.string ⟨an.toArray⟩, .int .i64 ao, .int .i64 al, .int .i64 ac, .int .i64 vv.kind, .string ⟨vv.text.toArray⟩, .int .u32 (vv.num : Int), .bool vv.hex, .bool abr, .slice a4 n4 c4, .bool ahd, .string ⟨ant.toArray⟩] 34)
    have hv5 := (hal.block _ (heap_lt hv4)).trans hv4
    have hT5 := (hal.block _ (heap_lt hT4)).trans hT4
    have hA5 := attrsAt_below hal hA34
    have hA6 := attrsAt_below hal hA4
    have hBw5 := hBw4.trans (hal.mono hBw4.size)
    clear hal hA34 hA4 hv4 hT4 hB4 m0 m1 m2 m3 m4 fm hBW hvW hTW hAW cR
    obtain ⟨⟨q0, q1, q2, q3, q4, q5, q6, q7, q8, q9, q10, q11⟩, fq⟩ := var12 hv5
    obtain ⟨⟨r0, r1, r2, r3, r4, r5, r6, r7, r8, r9, r10, r11⟩, fr⟩ := var12 hb5
    go_wp2_with fail
    clear q0 q1 q2 q3 q4 q5 q6 q7 q8 q9 q10 q11 fq r0 r1 r2 r3 r4 r5 r6 r7 r8 r9 r10 r11 fr hv5 hb5
    generalize w4.alloc (.cells #[.string ⟨an.toArray⟩, .int .i64 ao, .int .i64 al, .int .i64 ac, .int .i64 vv.kind, .string ⟨vv.text.toArray⟩, .int .u32 (vv.num : Int), .bool vv.hex, .bool abr, .slice a4 n4 c4, .bool ahd, .string ⟨ant.toArray⟩] 34) = w5 at *
    refine (sameAttr_of w5 w5 (Below.refl _ _) true an ao al ac ao al ac vv.kind vv.text vv.num vv.hex abr ahd ant a3 n3 c3 a4 n4 c4 (fun _ => ⟨rfl, rfl, rfl⟩) (fun W2 hW2 => (cS W2 _ _ _ _ (attrsAt_below hW2 hA5) (attrsAt_below hW2 hA6)).mono fun e w' ⟨h1, h2⟩ => ⟨h1, hW2.trans (h2.mono hW2.size)⟩)).mono ?_
    rintro e w6 ⟨rfl, hB6⟩
    have hT6 := (hB6.block _ (heap_lt hT5)).trans hT5
    have hBw6 := hBw5.trans (hB6.mono hBw5.size)
    clear hT5 hBw5 hA5 hA6 cS hB6
    have kS : ∀ W, Below w6.heap.size w6 W → W.cell? ⟨w.heap.size, 0, none⟩ = some (.string ⟨tv.toArray⟩) ∧ W.cell? ⟨w.heap.size, 1, none⟩ = some (.string ⟨tc.toArray⟩) ∧ W.cell? ⟨w.heap.size, 2, none⟩ = some (.slice oa on oc) ∧ W.cell? ⟨w.heap.size, 3, none⟩ = some (.bool tnd) ∧ W.cell? ⟨w.heap.size, 4, none⟩ = some (.string ⟨tnt.toArray⟩) := fun W hW => (var5 ((hW.block _ (heap_lt hT6)).trans hT6)).1
    obtain ⟨b0, b1, b2, b3, b4⟩ := kS w6 (Below.refl _ _)
    go_wp2
    go_region_held_law (fun w' => w'.cell? ⟨w.heap.size, 0, none⟩ = some (.string ⟨tv.toArray⟩) ∧ w'.cell? ⟨w.heap.size, 1, none⟩ = some (.string ⟨tc.toArray⟩) ∧ w'.cell? ⟨w.heap.size, 2, none⟩ = some (.slice oa on oc) ∧ w'.cell? ⟨w.heap.size, 3, none⟩ = some (.bool tnd) ∧ w'.cell? ⟨w.heap.size, 4, none⟩ = some (.string ⟨tnt.toArray⟩))
      (first | exact ⟨b0, b1, b2, b3, b4⟩ | exact kS _ hb9' | exact kS _ hb8' | exact kS _ hb7' | exact kS _ (below_drewN (Below.refl _ _) _) | (go_keep; done))
      (first
        | (go_at_call 12; refine (cF _ (hBw6.trans ((below_drewN (Below.refl _ _) _).mono hBw6.size))).mono ?_; rintro e w7 ⟨rfl, hb7⟩; have hb7' : Below w6.heap.size w6 w7 := (below_drewN (Below.refl _ _) _).trans (hb7.mono (by rw [World.heap_drewN]; exact Nat.le_refl _)))
        | (go_at_call 13; refine (cG _ (hBw6.trans (hb7'.mono hBw6.size))).mono ?_; rintro e w8 ⟨rfl, hb8⟩; have hb8' := hb7'.trans (hb8.mono hb7'.size))
        | (go_at_call 14; refine (ch _ (hBw6.trans (hb8'.mono hBw6.size))).mono ?_; rintro e w9 ⟨rfl, hb9⟩; have hb9' := hb8'.trans (hb9.mono hb8'.size)))
    all_goals
      go_wp2
      go_ret
      exact ⟨rfl, hBw6.trans (hb9'.mono hBw6.size)⟩
end Go.Proofs.YtlbgppijeoonjaaGreatDoor
