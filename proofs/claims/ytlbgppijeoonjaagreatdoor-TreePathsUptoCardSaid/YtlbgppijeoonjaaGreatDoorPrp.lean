import Derived.Test.YtlbgppijeoonjaaGreatDoorPrj
import Derived.Test.YtlbgppijeoonjaaGreatDoorPmX
import Derived.Laws.CopyOwn
import Derived.Deep.MidRow
namespace Go.Proofs.YtlbgppijeoonjaaGreatDoor
open Go.RowKit Go.Shelf
set_option linter.unusedVariables false
set_option linter.unusedSimpArgs false
attribute [local go_sem] Oper.semAt_some

/-! ### The law's two rangings -/
theorem seqP_some (W : World) (f : Fn) (a b : Array Value) : (binOp .eql 47 (.func f a b) Value.nilFunc).run Tryz.prog W = .ok (.bool false) W := by kernel_rfl
def lawPost (P : Program) (fn : Func) (R : Ending → World → Prop) : Exit → Act → World → Prop
  | .panic _, _, _ => False
  | .outgrown, _, _ => False
  | .normal, a, w => bodyPostM Fence.wide 3 P fn R .normal a w
  | .ret, a, w => bodyPostM Fence.wide 3 P fn R .ret a w
  | .exit _, _, _ => False
  | .goto _, _, _ => False
theorem law_post {P : Program} {fn : Func} {R : Ending → World → Prop} : ∀ (e : Exit) (a : Act) (w : World), lawPost P fn R e a w → bodyPostM Fence.wide 3 P fn R e a w
  | .panic _, _, _, h => h.elim
  | .outgrown, _, _, h => h.elim
  | .normal, _, _, h => h
  | .ret, _, _, h => h
  | .exit _, _, _, h => h.elim
  | .goto _, _, _, h => h.elim
/-- What the law holds ahead of its rangings. -/
structure Lw (w : World) (A2 A3 A4 A5 A7 Bt : Nat) (T : Array Value) (stop : Int) (wv : Value) (ps : List (List Int)) (k : Int) (Z : World) : Prop where
  b : Below w.heap.size w Z
  x2 : Z.heap[A2]? = some (.cells T 24 (0, 0))
  x3 : Boxed Z A3 3 (.int .i64 stop)
  x4 : Boxed Z A4 4 (.bool false)
  x5 : Boxed Z A5 44 wv
  x7 : Boxed Z A7 3 (.int .i64 k)
  xt : Z.heap[Bt]? = some (.cells T 24 (0, 0))
  row : ∃ us : List Value, Z.ownsRow w.heap.size 25 1 wv ps.length us ∧ ∀ (j : Nat) (u : Value) (p : List Int), us[j]? = some u → ps[j]? = some p → ∃ g cap, u = .slice (some ⟨g, 0, none⟩) p.length cap ∧ p.length ≤ cap ∧ cap ≤ maxLen ∧ g < A7 ∧ g < Z.heap.size ∧ ∀ k i, p[k]? = some i → Z.cell? ⟨g, k, none⟩ = some (.int .i64 i)
  lt : w.heap.size ≤ A2 ∧ w.heap.size ≤ A3 ∧ w.heap.size ≤ A4 ∧ w.heap.size ≤ A5 ∧ w.heap.size ≤ A7 ∧ w.heap.size ≤ Bt
  ne : A2 < A7 ∧ A3 < A7 ∧ A4 < A7 ∧ A5 < A7 ∧ Bt < A7
/-- All below stands but the counter's variable. -/
structure Fk (A7 : Nat) (W Z : World) : Prop where
  os : Z.os = W.os
  tape : Z.tape = W.tape
  output : Z.output = W.output
  size : W.heap.size ≤ Z.heap.size
  block : ∀ b, b < W.heap.size → b ≠ A7 → Z.heap[b]? = W.heap[b]?
theorem Fk.refl (A7 : Nat) (W : World) : Fk A7 W W := ⟨rfl, rfl, rfl, Nat.le_refl _, fun _ _ _ => rfl⟩
theorem Fk.below {A7 : Nat} {W Z Z' : World} (h : Fk A7 W Z) (hb : Below W.heap.size Z Z') : Fk A7 W Z' := ⟨hb.os.trans h.os, hb.tape.trans h.tape, hb.output.trans h.output, Nat.le_trans h.size hb.size, fun b hl hn => (hb.block b hl).trans (h.block b hl hn)⟩
theorem Fk.trans {A7 : Nat} {W Z Z' : World} (h : Fk A7 W Z) (k : Fk A7 Z Z') : Fk A7 W Z' := ⟨k.os.trans h.os, k.tape.trans h.tape, k.output.trans h.output, Nat.le_trans h.size k.size, fun b hl hn => (k.block b (Nat.lt_of_lt_of_le hl h.size) hn).trans (h.block b hl hn)⟩
theorem Fk.set {A7 : Nat} {W Z : World} (h : Fk A7 W Z) (v : Value) : Fk A7 W (Z.setCell ⟨A7, 0, none⟩ v) := ⟨h.os, h.tape, h.output, by have := h.size; simp [World.setCell]; omega, fun b hl hn => (Below.heap_setCell Z ⟨A7, 0, none⟩ v b hn).trans (h.block b hl hn)⟩
theorem Lw.at {w : World} {A2 A3 A4 A5 A7 Bt : Nat} {T : Array Value} {stop : Int} {wv : Value} {ps : List (List Int)} {k k' : Int} {W Z : World} (h : Lw w A2 A3 A4 A5 A7 Bt T stop wv ps k W) (hf : Fk A7 W Z) (hk : Boxed Z A7 3 (.int .i64 k')) : Lw w A2 A3 A4 A5 A7 Bt T stop wv ps k' Z := by
  have hn := h.ne
  have hlt := h.lt
  have up : ∀ {b : Nat} {o : Obj}, W.heap[b]? = some o → b ≠ A7 → Z.heap[b]? = some o := fun ho hb => (hf.block _ (heap_lt ho) hb).trans ho
  refine ⟨h.b.trans ⟨hf.os, hf.tape, hf.output, hf.size, fun b hb => hf.block b (Nat.lt_of_lt_of_le hb h.b.size) (by omega)⟩, up h.x2 (by omega), up h.x3 (by omega), up h.x4 (by omega), up h.x5 (by omega), hk, up h.xt (by omega), ?_, hlt, hn⟩
  obtain ⟨us, h1, h2⟩ := h.row
  refine ⟨us, own_keepR h1 (fun g e => ?_), fun j u p hu hp => ?_⟩
  · obtain ⟨_, hl, cur, hh⟩ := own_ltR h1 e
    refine hf.block g hl (fun e2 => ?_)
    rw [e2] at hh
    have := hh.symm.trans h.x7
    cases this
  · obtain ⟨g, cap, k1, k2, k3, k4, k5, k6⟩ := h2 j u p hu hp
    exact ⟨g, cap, k1, k2, k3, k4, Nat.lt_of_lt_of_le k5 hf.size, fun k i hk => by rw [World.cell?_of_block (hf.block g k5 (by omega))]; exact k6 k i hk⟩
theorem sp_row {w W0 W : World} {v : Value} {ps : List (List Int)} (h : SP W0 W v ps) (hs : w.heap.size ≤ W0.heap.size) {A7 : Nat} (hA : W.heap.size ≤ A7) {Z : World} (hb : Below W.heap.size W Z) : ∃ us : List Value, Z.ownsRow w.heap.size 25 1 v ps.length us ∧ ∀ (j : Nat) (u : Value) (p : List Int), us[j]? = some u → ps[j]? = some p → ∃ g cap, u = .slice (some ⟨g, 0, none⟩) p.length cap ∧ p.length ≤ cap ∧ cap ≤ maxLen ∧ g < A7 ∧ g < Z.heap.size ∧ ∀ k i, p[k]? = some i → Z.cell? ⟨g, k, none⟩ = some (.int .i64 i) := by
  obtain ⟨us, h1, h2⟩ := h.row
  refine ⟨us, own_keepR (w := W) ?_ (fun g e => ?_), fun j u p hu hp => ?_⟩
  · obtain ⟨hl, ⟨h3, h4⟩ | ⟨g, cap, cur, h3, hb, h5⟩⟩ := h1
    · exact ⟨hl, .inl ⟨h3, h4⟩⟩
    · exact ⟨hl, .inr ⟨g, cap, cur, h3, Nat.le_trans hs hb, h5⟩⟩
  · exact hb.block g (own_ltR h1 e).2.1
  · obtain ⟨g, cap, e, k1, k2, k3, k4, k5, k6⟩ := h2 j u p hu hp
    exact ⟨g, cap, e, k1, k2, by omega, Nat.lt_of_lt_of_le k4 hb.size, fun k i hk => by rw [cell_below hb _ _ k4]; exact k6 k i hk⟩
/-- Within a round: all stands but the counter and the row that was handed out. -/
structure Br (A7 gy : Nat) (Z wr : World) (k : Int) : Prop where
  os : wr.os = Z.os
  tape : wr.tape = Z.tape
  output : wr.output = Z.output
  size : Z.heap.size ≤ wr.heap.size
  block : ∀ b, b < Z.heap.size → b ≠ A7 → b ≠ gy → wr.heap[b]? = Z.heap[b]?
  x7 : Boxed wr A7 3 (.int .i64 k)
theorem Br.grown {A7 gy : Nat} {Z wr w' : World} {k : Int} {o : Option Nat} (h : Br A7 gy Z wr k) (hg : wr.grownBy w' o) (ho : ∀ g, o = some g → g = gy ∨ Z.heap.size ≤ g) (hn : o ≠ some A7) : Br A7 gy Z w' k :=
  ⟨hg.os.trans h.os, hg.tape.trans h.tape, hg.output.trans h.output, Nat.le_trans h.size hg.size, fun b hl h1 h2 => (hg.block b (Nat.lt_of_lt_of_le hl h.size) (fun e => by rcases ho b e.symm with e | e; exact h2 e; omega)).trans (h.block b hl h1 h2), (hg.block A7 h.x7.lt (fun e => hn e.symm)).trans h.x7⟩
theorem path_len {l : List Ob} {p : List Int} (h : p ∈ pathsO 0 l) : p.length ≤ (pathsO 0 l).length + 1 := by
  obtain ⟨j, o, hj, hm⟩ := mem_pathsO_at p l 0 h
  rw [Nat.zero_add] at hm
  obtain ⟨q, a, e, hw⟩ := mem_paths_walk _ _ _ _ (Nat.le_refl _) hm
  have h1 := walkP_len hw [(j : Int)]
  have h2 := pathsO_take l j o hj
  have h3 := pathsO_le l (j + 1)
  rw [h2, List.length_append] at h3
  rw [e]
  simp
  omega
theorem lw_seq {w : World} {A2 A3 A4 A5 A7 Bt : Nat} {stop : Int} {wv : Value} {k : Int} {W6 : World} (tv tc : List UInt8) (tnd : Bool) (tnt : List UInt8) (oa : Option Addr) (ocap N : Nat) (qs : List (Ob × Value)) (hl : qs.length = N)
    (hrow : ∀ j q, qs[j]? = some q → ∃ g off, oa = some ⟨g, off, none⟩ ∧ g < w.heap.size ∧ ∀ i u, i < 8 → (obC q.1 q.2)[i]? = some u → w.cell? ⟨g, off + j * 8 + i, none⟩ = some u)
    (hA : ∀ q, q ∈ qs → AttrsAt w (fun g => g < w.heap.size) q.2 q.1.attrs) (hN : N ≤ 1099511627776) (hb1 : (pathsO 0 (qs.map Prod.fst)).length + 20 ≤ 1099511627776)
    (hL : Lw w A2 A3 A4 A5 A7 Bt #[.string ⟨tv.toArray⟩, .string ⟨tc.toArray⟩, .slice oa N ocap, .bool tnd, .string ⟨tnt.toArray⟩] stop wv (pathsO 0 (qs.map Prod.fst)) k W6) (n : Nat) (W1 : World) (hb : Below W6.heap.size W6 W1) (hs : W1.heap.size = W6.heap.size + 2) :
    SeqG Fence.wide n Tryz.prog 33 #[.pointer (some ⟨Bt, 0, none⟩)] yE (Hd (W6.heap.size + 2) (pathsO 0 (qs.map Prod.fst))) (fun y => Kz (fun b => ((b < W6.heap.size ∧ b ≠ A7) ∨ W6.heap.size + 2 ≤ b) ∧ ¬ y.1 = b)) (fun xs => xs = pathsO 0 (qs.map Prod.fst)) (fun p => p <+: pathsO 0 (qs.map Prod.fst)) W1 := by
  have hlt := hL.lt
  have hne := hL.ne
  have hbw : Below w.heap.size w W1 := hL.b.trans (hb.mono hL.b.size)
  have hs6 := hL.b.size
  have := paths1_in n W1 Bt (fun b => b < W6.heap.size ∧ b ≠ A7) (fun b h => by omega) tv tc tnd tnt oa ocap N qs hl ((hb.block Bt (heap_lt hL.xt)).trans hL.xt) ⟨heap_lt hL.xt, by omega⟩ (fun j q hq => by
    obtain ⟨g, off, e, hg, hc⟩ := hrow j q hq
    exact ⟨g, off, e, ⟨by omega, by omega⟩, fun i u hi hu => by rw [cell_below hbw _ _ hg]; exact hc i u hi hu⟩) (fun q hq => attrsAt_move hbw.size (fun g hF hl => ⟨hbw.block g hF, by omega, by omega⟩) (hA q hq)) hN hb1
  rw [hs] at this
  exact this
set_option maxHeartbeats 8000000 in
set_option maxRecDepth 100000 in
theorem lawpaths_any (w : World) (tv tc : List UInt8) (tnd : Bool) (tnt : List UInt8) (oa : Option Addr) (ocap N : Nat) (qs : List (Ob × Value)) (hl : qs.length = N) (stop : Int)
    (hrow : ∀ j q, qs[j]? = some q → ∃ g off, oa = some ⟨g, off, none⟩ ∧ g < w.heap.size ∧ ∀ i u, i < 8 → (obC q.1 q.2)[i]? = some u → w.cell? ⟨g, off + j * 8 + i, none⟩ = some u)
    (hA : ∀ q, q ∈ qs → AttrsAt w (fun g => g < w.heap.size) q.2 q.1.attrs) (hN : N ≤ 1099511627776) (hb1 : (pathsO 0 (qs.map Prod.fst)).length + 20 ≤ 1099511627776)
    (hAt : ∀ p, p ∈ pathsO 0 (qs.map Prod.fst) → ∃ a : At, (∀ W v, Below w.heap.size w W → PathAt W v p → Calls Tryz.prog 9 #[.agg #[.string ⟨tv.toArray⟩, .string ⟨tc.toArray⟩, .slice oa N ocap, .bool tnd, .string ⟨tnt.toArray⟩], v] W fun e w' => AttrRes w.heap.size a 0 W e w') ∧ (∀ W v, Below w.heap.size w W → PathAt W v p → Calls Tryz.prog 10 #[.agg #[.string ⟨tv.toArray⟩, .string ⟨tc.toArray⟩, .slice oa N ocap, .bool tnd, .string ⟨tnt.toArray⟩], v] W fun e w' => AttrRes w.heap.size a 0 W e w'))
    (hHd : ∀ W, Below w.heap.size w W → Calls Tryz.prog 14 #[] W fun e w' => e = .returned (.bool true) ∧ Below W.heap.size W w') :
    Calls Tryz.prog 4 #[.agg #[.string ⟨tv.toArray⟩, .string ⟨tc.toArray⟩, .slice oa N ocap, .bool tnd, .string ⟨tnt.toArray⟩], .int .i64 stop] w fun e w' => e = .returned (.bool true) ∧ Below w.heap.size w w' := by
  have hse := seqP_some
  refine (callsIn_wide (n := 3)).1 ?_
  refine callsIn_of_wp_marks Tryz.func4 rfl trivial ?_ rfl
  simp only [Tryz.ntmps4, List.size_toArray, List.length_cons, List.length_nil, Nat.reduceAdd, Nat.reduceSub, Array.replicate_succ, Array.replicate_zero, List.push_toArray, List.append_toArray, List.nil_append, List.cons_append]
  refine wpIn_wide.2 (wp_mono (Q := lawPost _ _ _) ?_ law_post)
  go_upto_region 1 with (fail)
  obtain ⟨A3, hA3⟩ : ∃ A, A = w.heap.size + 1 := ⟨_, rfl⟩
  obtain ⟨A4, hA4⟩ : ∃ A, A = w.heap.size + 1 + 1 := ⟨_, rfl⟩
  have HT : Hid ((((w.alloc (.cells #[.string ⟨tv.toArray⟩, .string ⟨tc.toArray⟩, .slice oa N ocap, .bool tnd, .string ⟨tnt.toArray⟩] 24)).alloc (.cells #[.int .i64 stop] 3)).alloc (.cells #[.bool false] 4)).heap[w.heap.size]? = some (.cells #[.string ⟨tv.toArray⟩, .string ⟨tc.toArray⟩, .slice oa N ocap, .bool tnd, .string ⟨tnt.toArray⟩] 24 (0, 0)) ∧ Boxed (((w.alloc (.cells #[.string ⟨tv.toArray⟩, .string ⟨tc.toArray⟩, .slice oa N ocap, .bool tnd, .string ⟨tnt.toArray⟩] 24)).alloc (.cells #[.int .i64 stop] 3)).alloc (.cells #[.bool false] 4)) A3 3 (.int .i64 stop) ∧ Boxed (((w.alloc (.cells #[.string ⟨tv.toArray⟩, .string ⟨tc.toArray⟩, .slice oa N ocap, .bool tnd, .string ⟨tnt.toArray⟩] 24)).alloc (.cells #[.int .i64 stop] 3)).alloc (.cells #[.bool false] 4)) A4 4 (.bool false) ∧ Below w.heap.size w (((w.alloc (.cells #[.string ⟨tv.toArray⟩, .string ⟨tc.toArray⟩, .slice oa N ocap, .bool tnd, .string ⟨tnt.toArray⟩] 24)).alloc (.cells #[.int .i64 stop] 3)).alloc (.cells #[.bool false] 4)) ∧ (((w.alloc (.cells #[.string ⟨tv.toArray⟩, .string ⟨tc.toArray⟩, .slice oa N ocap, .bool tnd, .string ⟨tnt.toArray⟩] 24)).alloc (.cells #[.int .i64 stop] 3)).alloc (.cells #[.bool false] 4)).heap.size = w.heap.size + 3 ∧ A3 = w.heap.size + 1 ∧ A4 = w.heap.size + 1 + 1) := by
    refine ⟨(Below.heap_alloc _ _ _ (by simp; omega)).trans ((Below.heap_alloc _ _ _ (by simp)).trans (World.alloc_heap_new w _)), ?_, ?_, (((Below.refl _ w).alloc (Nat.le_refl _) _).alloc (by simp) _).alloc (by simp; omega) _, by simp, hA3, hA4⟩
    · have := (Boxed.new (w.alloc (.cells #[.string ⟨tv.toArray⟩, .string ⟨tc.toArray⟩, .slice oa N ocap, .bool tnd, .string ⟨tnt.toArray⟩] 24)) 3 (.int .i64 stop)).alloc (.cells #[.bool false] 4)
      rw [hA3]; simpa using this
    · have := Boxed.new ((w.alloc (.cells #[.string ⟨tv.toArray⟩, .string ⟨tc.toArray⟩, .slice oa N ocap, .bool tnd, .string ⟨tnt.toArray⟩] 24)).alloc (.cells #[.int .i64 stop] 3)) 4 (.bool false)
      rw [hA4]; simpa using this
  rw [← hA4, ← hA3]
  clear hA3 hA4
  generalize (((w.alloc (.cells #[.string ⟨tv.toArray⟩, .string ⟨tc.toArray⟩, .slice oa N ocap, .bool tnd, .string ⟨tnt.toArray⟩] 24)).alloc (.cells #[.int .i64 stop] 3)).alloc (.cells #[.bool false] 4)) = W0 at *
  obtain ⟨t0, t3, t4, tb, ts, e3, e4⟩ := HT.out
  clear HT
  obtain ⟨⟨k0, k1, k2, k3, k4⟩, fk⟩ := var5 t0
  have cRP := rpaths_any W0 (fun g => g < w.heap.size) tv tc tnd tnt oa ocap N qs hl (fun j q hq => by
    obtain ⟨g, off, e, hg, hc⟩ := hrow j q hq
    exact ⟨g, off, e, by omega, fun i u hi hu => by rw [cell_below tb _ _ hg]; exact hc i u hi hu⟩) (fun q hq => attrsAt_below tb (hA q hq)) hN hb1
  have HTT : Hid (W0.heap[w.heap.size]? = some (.cells #[.string ⟨tv.toArray⟩, .string ⟨tc.toArray⟩, .slice oa N ocap, .bool tnd, .string ⟨tnt.toArray⟩] 24 (0, 0)) ∧ Boxed W0 A3 3 (.int .i64 stop) ∧ Boxed W0 A4 4 (.bool false) ∧ Below w.heap.size w W0 ∧ W0.heap.size = w.heap.size + 3 ∧ A3 = w.heap.size + 1 ∧ A4 = w.heap.size + 1 + 1) := ⟨t0, t3, t4, tb, ts, e3, e4⟩
  have HQL : Hid (qs.length = N) := hl
  clear t0 t3 t4 tb ts e3 e4 hl
  go_upto_region 2 with (go_at_call 15; refine cRP.mono ?_; rintro e w1 ⟨v, rfl, hSP⟩; obtain ⟨va, vc, rfl⟩ : ∃ a c, v = .slice a (pathsO 0 (qs.map Prod.fst)).length c := (by obtain ⟨us, hu, _⟩ := hSP.row; obtain ⟨_, ⟨h3, h4⟩ | ⟨g, cap, cur, h3, _⟩⟩ := hu; (exact ⟨none, 0, by rw [h3, h4]⟩); (exact ⟨_, _, h3⟩)))
  clear cRP k0 k1 k2 k3 k4 fk
  obtain ⟨A5, hA5⟩ : ∃ A, A = w1.heap.size := ⟨_, rfl⟩
  have H2 : Hid (SP W0 (w1.alloc (.cells #[.slice va (pathsO 0 (qs.map Prod.fst)).length vc] 44)) (.slice va (pathsO 0 (qs.map Prod.fst)).length vc) (pathsO 0 (qs.map Prod.fst)) ∧ Boxed (w1.alloc (.cells #[.slice va (pathsO 0 (qs.map Prod.fst)).length vc] 44)) A5 44 (.slice va (pathsO 0 (qs.map Prod.fst)).length vc) ∧ W0.heap.size ≤ A5) := ⟨hSP.call ((Below.refl _ _).alloc (Nat.le_refl _) _), by rw [hA5]; exact Boxed.new _ _ _, by rw [hA5]; exact hSP.below.size⟩
  clear hSP
  rw [← hA5]
  clear hA5
  generalize w1.alloc (.cells #[.slice va (pathsO 0 (qs.map Prod.fst)).length vc] 44) = w2 at *
  obtain ⟨⟨k0, k1, k2, k3, k4⟩, fk⟩ := var5 ((H2.out.1.below.block _ (by have := HTT.out.2.2.2.2.1; omega)).trans HTT.out.1)
  go_upto_region 6 with (go_at_call 16; refine (paths_any tv tc oa N ocap tnd tnt _).mono ?_; rintro e w3 ⟨rfl, rfl⟩)
  clear k0 k1 k2 k3 k4 fk
  obtain ⟨Bt, hBt⟩ : ∃ A, A = w2.heap.size := ⟨_, rfl⟩
  obtain ⟨A7, hA7⟩ : ∃ A, A = w2.heap.size + 1 := ⟨_, rfl⟩
  obtain ⟨ps, hps⟩ : ∃ ps, ps = pathsO 0 (qs.map Prod.fst) := ⟨_, rfl⟩
  have HL : Hid (Lw w w.heap.size A3 A4 A5 A7 Bt #[.string ⟨tv.toArray⟩, .string ⟨tc.toArray⟩, .slice oa N ocap, .bool tnd, .string ⟨tnt.toArray⟩] stop (.slice va ps.length vc) ps 0 ((w2.alloc (.cells #[.string ⟨tv.toArray⟩, .string ⟨tc.toArray⟩, .slice oa N ocap, .bool tnd, .string ⟨tnt.toArray⟩] 24)).alloc (.cells #[.int .i64 0] 3)) ∧ ((w2.alloc (.cells #[.string ⟨tv.toArray⟩, .string ⟨tc.toArray⟩, .slice oa N ocap, .bool tnd, .string ⟨tnt.toArray⟩] 24)).alloc (.cells #[.int .i64 0] 3)).heap.size = A7 + 1) := by
    obtain ⟨t0, t3, t4, tb, ts, e3, e4⟩ := HTT.out
    obtain ⟨s1, s2, s3⟩ := H2.out
    have hz : Below w2.heap.size w2 ((w2.alloc (.cells #[.string ⟨tv.toArray⟩, .string ⟨tc.toArray⟩, .slice oa N ocap, .bool tnd, .string ⟨tnt.toArray⟩] 24)).alloc (.cells #[.int .i64 0] 3)) := ((Below.refl _ w2).alloc (Nat.le_refl _) _).alloc (by simp) _
    have hz0 : Below W0.heap.size W0 ((w2.alloc (.cells #[.string ⟨tv.toArray⟩, .string ⟨tc.toArray⟩, .slice oa N ocap, .bool tnd, .string ⟨tnt.toArray⟩] 24)).alloc (.cells #[.int .i64 0] 3)) := s1.below.trans (hz.mono s1.below.size)
    have l5 := s2.lt
    have hsz := s1.below.size
    rw [hps]
    refine ⟨⟨tb.trans (hz0.mono (by omega)), (hz0.block _ (by omega)).trans t0, (hz0.block _ (by omega)).trans t3, (hz0.block _ (by omega)).trans t4, (hz.block _ l5).trans s2, ?_, ?_, sp_row s1 (by omega) (by omega) hz, by omega, by omega⟩, by simp; omega⟩
    · have := Boxed.new (w2.alloc (.cells #[.string ⟨tv.toArray⟩, .string ⟨tc.toArray⟩, .slice oa N ocap, .bool tnd, .string ⟨tnt.toArray⟩] 24)) 3 (.int .i64 0)
      rw [hA7]; simpa using this
    · rw [hBt]; exact (Below.heap_alloc _ _ _ (by simp)).trans (World.alloc_heap_new w2 _)
  rw [← hps] at hb1 ⊢
  rw [← hA7, ← hBt]
  have HPS : Hid (ps = pathsO 0 (qs.map Prod.fst)) := hps
  clear hA7 hBt H2 HTT hps
  generalize (w2.alloc (.cells #[.string ⟨tv.toArray⟩, .string ⟨tc.toArray⟩, .slice oa N ocap, .bool tnd, .string ⟨tnt.toArray⟩] 24)).alloc (.cells #[.int .i64 0] 3) = W6 at *
  obtain ⟨hL, hs6⟩ := HL.out
  clear HL
  go_wp2
  refine (wpIn_wide (n := 3)).1 ?_
  generalize hAct : ({ tmps := _, defers := [] } : Act) = a0
  have hg0 : a0.eval (.tmp 23) = .func (.func 33) #[] #[.pointer (some ⟨Bt, 0, none⟩)] := by rw [← hAct]; rfl
  have hlt7 : A7 < W6.heap.size := by omega
  have HS6 : Hid (W6.heap.size = A7 + 1) := hs6
  clear hs6
  have hb2 := hb1
  rw [HPS.out] at hb2
  refine wpIn_range_own (α := List Int) (β := Yv) (F := Fence.wide) (n := 3) rfl (by omega) (gf := 33) (lb := #[.pointer (some ⟨Bt, 0, none⟩)]) hg0 trivial (enters_of Tryz.func33 (by kernel_rfl) rfl) (enc := yE) (H := Hd (W6.heap.size + 2) ps) (Mp := fun b => b < W6.heap.size ∧ b ≠ A7) (fun b h => h.1) (Bk := fun y b => y.1 = b) (S := fun xs => xs = ps) (Sp := fun p => p <+: ps)
    (fun W1 hb hs => by have := lw_seq tv tc tnd tnt oa ocap N qs HQL.out hrow hA hN hb2 (by rw [HPS.out] at hL; exact hL) (3 - 1) W1 hb hs; rw [HPS.out]; exact this) (fun pre x y A h b e => by rw [← e]; exact h.ge) (fun pre x y A o h => ⟨h.1, h.2.1, own_keepR h.2.2 (fun g e => World.putObj_heap_other (by have := h.ge; cases e; show y.1 ≠ _; omega))⟩) rfl
    (fun pre Z => Fk A7 W6 Z ∧ Boxed Z A7 3 (.int .i64 (pre.length : Int)) ∧ pre <+: ps)
    (fun c pre Z => c = .exit 0 ∧ Fk A7 W6 Z ∧ Boxed Z A7 3 (.int .i64 (pre.length : Int)) ∧ pre <+: ps ∧ (pre.length : Int) = stop)
    (fun s A B h hb => ⟨h.1.below hb, (hb.block A7 hlt7).trans h.2.1, h.2.2⟩)
    (fun c s A B h hb => ⟨h.1, h.2.1.below hb, (hb.block A7 hlt7).trans h.2.2.1, h.2.2.2⟩)
    ⟨Fk.refl _ _, hL.x7, List.nil_prefix⟩
    (fun y => { tmps := (a0.tmps.setIfInBounds 24 (yE y)).setIfInBounds 8 (yE y), defers := [] }) ?assign ?body ?done ?stop
  case assign =>
    intro lp y Z K hK
    subst hAct
    simp only [List.setIfInBounds_toArray, List.set_cons_succ, List.set_cons_zero] at hK
    gi_wp2
    exact hK
  case body =>
    rintro lp pre x ⟨gy, ny, cy⟩ Z hsz ⟨hF, hB7, hpre⟩ hH
    obtain ⟨hpx, hny, hrw⟩ := hH
    dsimp only at hny
    subst hny
    unfold yE at hrw ⊢
    dsimp only at hrw ⊢
    have hLz := hL.at hF hB7
    subst hAct
    simp only [List.setIfInBounds_toArray, List.set_cons_succ, List.set_cons_zero]
    have hlt : pre.length < ps.length := by obtain ⟨t, ht⟩ := hpx; rw [← ht]; simp
    have hpi : ps[pre.length]? = some x := by obtain ⟨t, ht⟩ := hpx; rw [← ht]; simp
    obtain ⟨us, hu1, hu2⟩ := hLz.row
    obtain ⟨gw, hva, hgw⟩ : ∃ gw, va = some ⟨gw, 0, none⟩ ∧ us.length = ps.length := by
      obtain ⟨hl', ⟨h3, h4⟩ | ⟨g, cap, cur, h3, _⟩⟩ := hu1
      · omega
      · cases h3; exact ⟨g, rfl, by omega⟩
    subst hva
    obtain ⟨u, hui⟩ : ∃ u, us[pre.length]? = some u := ⟨us[pre.length]'(by omega), List.getElem?_eq_getElem _⟩
    obtain ⟨gu, cu, rfl, hu3, hu4, hu5, hu6, hu7⟩ := hu2 _ _ _ hui hpi
    have cwk := hu1.cells (g := gw) rfl _ _ hui
    rw [Lib.add_plain, Nat.zero_add] at cwk
    have c7 := Boxed.cell hLz.x7
    have f7 := Boxed.frozen hLz.x7
    have c5 := Boxed.cell hLz.x5
    have hltI : ¬ (ps.length : Int) ≤ (pre.length : Int) := by omega
    have hltI2 : (pre.length : Int) < (ps.length : Int) := by omega
    have hlt0 : ¬ (pre.length : Int) < 0 := by omega
    have hgy := own_ltR hrw (g := gy) rfl
    have hxm : x ∈ ps := List.mem_of_getElem? hpi
    have hxl : x.length ≤ 1099511627776 := by
      rw [HPS.out] at hxm
      have := path_len hxm
      omega
    have cSm := samePath_row Z gy 0 cy gu 0 cu x x.length rfl hgy.2.1 hu6 hxl (fun k i hk => by have := hrw.cells (g := gy) rfl k (.int .i64 i) (by rw [iC, List.getElem?_map, hk]; rfl); rw [Lib.add_plain] at this; simpa using this) (fun k i hk => by rw [Nat.zero_add]; exact hu7 k i hk)
    gi_upto_region 10 with (first | (refine ⟨trivial, ?_⟩; gi_at_call 17; refine (CallsIn.inRound lp (callsIn_wide.2 cSm)).mono ?_; rintro e w8 ⟨rfl, hb8⟩))
    have hB8 : Br A7 gy Z w8 (pre.length : Int) := ⟨hb8.os, hb8.tape, hb8.output, hb8.size, fun b hl _ _ => hb8.block b hl, (hb8.block A7 hLz.x7.lt).trans hLz.x7⟩
    have hgyn : A7 ≠ gy := fun e => by omega
    have hr8 : w8.ownsRow (W6.heap.size + 2) 3 1 (.slice (some ⟨gy, 0, none⟩) x.length cy) x.length (iC x) := own_keepR hrw (fun g e => hb8.block g (own_ltR hrw e).2.1)
    have H8 : Hid (Br A7 gy Z (w8.setCell ⟨A7, 0, none⟩ (.int .i64 ((pre.length : Int) + 1))) ((pre.length : Int) + 1) ∧ (w8.setCell ⟨A7, 0, none⟩ (.int .i64 ((pre.length : Int) + 1))).ownsRow (W6.heap.size + 2) 3 1 (.slice (some ⟨gy, 0, none⟩) x.length cy) x.length (iC x)) := by
      have hs : ∀ b, b ≠ A7 → (w8.setCell ⟨A7, 0, none⟩ (.int .i64 ((pre.length : Int) + 1))).heap[b]? = w8.heap[b]? := fun b hb => Below.heap_setCell w8 ⟨A7, 0, none⟩ _ b hb
      refine ⟨⟨hB8.os, hB8.tape, hB8.output, by have := hB8.size; simp [World.setCell]; omega, fun b hl h1 h2 => (hs b h1).trans (hB8.block b hl h1 h2), Boxed.set _ hB8.x7⟩, own_keepR hr8 (fun g e => hs g (fun e2 => ?_))⟩
      cases e
      exact hgyn e2.symm
    have c78 := Boxed.cell hB8.x7
    have f78 := Boxed.frozen hB8.x7
    have hpl : (pre.length : Int) ≤ 1099511627776 := by omega
    have hxl2 : (x.length : Int) ≤ 1099511627776 := by omega
    clear hB8 hr8 hb8 cSm c7 f7 c5 cwk hu1 hu2 hu3 hu4 hu5 hu6 hu7 hui hgy
    gi_upto_region 11 with (fail)
    generalize w8.setCell ⟨A7, 0, none⟩ (.int .i64 ((pre.length : Int) + 1)) = w9 at *
    clear c78 f78
    obtain ⟨ii, hi0, hz0, hz1, hz2⟩ := info_parts Tryz.infoInt
    have HP9 : Hid (W6.heap.size + 2 ≤ Z.heap.size ∧ A7 ≠ gy ∧ pre ++ [x] <+: ps ∧ Fk A7 W6 Z ∧ A7 < W6.heap.size ∧ A3 < A7 ∧ Boxed Z A3 3 (.int .i64 stop) ∧ W6.heap.size + 2 ≤ gy) := ⟨hsz, hgyn, hpx, hF, hlt7, hL.ne.2.1, hLz.x3, (own_ltR hrw (g := gy) rfl).1⟩
    clear hF hB7 hpre hpx hLz hgyn hsz
    gi_wp2
    gi_loopw [9] (fun i wr => ∃ (j : Nat) (vs : List Int), j ≤ x.length ∧ i = .int .i64 j ∧ Hid (vs.length = x.length) ∧ Hid (Br A7 gy Z wr ((pre.length : Int) + 1) ∧ wr.ownsRow (W6.heap.size + 2) 3 1 (.slice (some ⟨gy, 0, none⟩) x.length cy) x.length (iC vs))) (fun i _ => x.length - (intOf i).toNat)
    case atStart => exact ⟨0, x, by omega, rfl, rfl, H8⟩
    case round =>
      clear H8
      obtain ⟨j, vs, hj, rfl, HV, HR⟩ := hrel
      obtain ⟨hBr, hro⟩ := HR.out
      by_cases hjl : j < x.length
      · have hjI : (j : Int) < x.length := by omega
        have hj0 : ¬ (j : Int) < 0 := by omega
        have cj : wr.cell? ⟨gy, j, none⟩ = some (.int .i64 (vs[j]'(by rw [HV.out]; exact hjl))) := by
          have := hro.cells (g := gy) rfl j (.int .i64 (vs[j]'(by rw [HV.out]; exact hjl))) (by rw [iC, List.getElem?_map, List.getElem?_eq_getElem (by rw [HV.out]; exact hjl)]; rfl)
          rw [Lib.add_plain] at this
          simpa using this
        have fj : wr.frozen? ⟨gy, j, none⟩ = false := hro.frozenAt j
        obtain ⟨hs1, hs2⟩ := hro.stored j (.int .i64 (-9))
        have HN : Hid (Br A7 gy Z (wr.setCell ⟨gy, j, none⟩ (.int .i64 (-9))) ((pre.length : Int) + 1) ∧ (wr.setCell ⟨gy, j, none⟩ (.int .i64 (-9))).ownsRow (W6.heap.size + 2) 3 1 (.slice (some ⟨gy, 0, none⟩) x.length cy) x.length (iC (vs.set j (-9)))) := ⟨hBr.grown hs2 (fun g e => by cases e; exact .inl rfl) (fun e => by cases e; exact HP9.out.2.1 rfl), by rw [iC, List.map_set]; exact hs1⟩
        have HV2 : Hid ((vs.set j (-9)).length = x.length) := by show _ = _; rw [List.length_set]; exact HV.out
        clear hs1 hs2 hBr hro HR
        gi_wp2
        go_roundw
        case rel => exact ⟨j + 1, _, by omega, by go_num, HV2, HN⟩
        case measure => simp [intOf]; omega
      · have hjI : ¬ (j : Int) < x.length := by omega
        have HR2 : Hid (Br A7 gy Z wr ((pre.length : Int) + 1) ∧ wr.ownsRow (W6.heap.size + 2) 3 1 (.slice (some ⟨gy, 0, none⟩) x.length cy) x.length (iC vs) ∧ vs.length = x.length + 0 ∧ (∀ g, (Value.slice (some ⟨gy, 0, none⟩) x.length cy).ownBlock = some g → g = gy ∨ Z.heap.size ≤ g)) := ⟨hBr, hro, by rw [HV.out]; rfl, fun g e => by cases e; exact .inl rfl⟩
        clear HR hBr hro
        gi_wp2
        gi_loopw [8, 10] (fun p8 i wr => ∃ (j : Nat) (vs : List Int), j ≤ 20 ∧ i = .int .i64 j ∧ Hid (Br A7 gy Z wr ((pre.length : Int) + 1) ∧ wr.ownsRow (W6.heap.size + 2) 3 1 p8 vs.length (iC vs) ∧ vs.length = x.length + j ∧ (∀ g, p8.ownBlock = some g → g = gy ∨ Z.heap.size ≤ g))) (fun _ i _ => 20 - (intOf i).toNat)
        case atStart => exact ⟨0, vs, by omega, rfl, by rw [show vs.length = x.length from HV.out]; rw [HV.out] at HR2; exact HR2⟩
        case round =>
          clear HR2
          obtain ⟨j2, vs2, hj2, rfl, HR3⟩ := hrel
          obtain ⟨hBr, hro, hvl, hob⟩ := HR3.out
          by_cases hjl2 : j2 < 20
          · have hjI2 : (j2 : Int) < 20 := by omega
            have hvb : vs2.length ≤ 1099511627876 := by omega
            have HVL : Hid (vs2.length = x.length + j2) := hvl
            clear hvl
            have hnq : W6.heap.size + 2 ≤ wr.heap.size := Nat.le_trans HP9.out.1 hBr.size
            obtain ⟨pa8, pc8, rfl⟩ := own_shape1 hro
            gi_wp2_with (gi_at_builtin; refine wpListIn_append_own_at _ rfl _ _ 25 rfl (W6.heap.size + 2) 3 ii (.int .i64 0) 1 8 Tryz.underlying25 hi0 hz0 hz1 hz2 rfl (by decide) _ vs2.length (iC vs2) rfl (hro.alloc _) ⟨wr.heap.size, 0, none⟩ 1 1 [.int .i64 (-9)] rfl rfl (cell_new7 wr #[.int .i64 (-9)] _) (by intro u hu; simp at hu; subst hu; rfl) (by unfold maxLen; omega) (by omega) (by simp; omega) ?_)
            intro v9 w9 ho9 hg9 _ hat9
            have hBl : Br A7 gy Z (wr.alloc (.cells #[.int .i64 (-9)] 3)) ((pre.length : Int) + 1) := hBr.grown (World.grownBy_alloc wr _ none) (fun g e => by cases e) (by simp)
            have HR4 : Hid (Br A7 gy Z w9 ((pre.length : Int) + 1) ∧ w9.ownsRow (W6.heap.size + 2) 3 1 v9 (vs2 ++ [-9]).length (iC (vs2 ++ [-9])) ∧ (vs2 ++ [(-9 : Int)]).length = x.length + (j2 + 1) ∧ (∀ g, v9.ownBlock = some g → g = gy ∨ Z.heap.size ≤ g)) := by
              refine ⟨hBl.grown hg9 hob (fun e => ?_), by simpa [iC] using ho9, by have := HVL.out; simp; omega, fun g e => ?_⟩
              · rcases hob A7 e with e | e
                · exact HP9.out.2.1 e
                · have := HP9.out.2.2.2.2.1; have := HP9.out.1; omega
              · rcases hat9 with e9 | e9
                · exact hob g (e9.symm.trans e)
                · rw [e9] at e; simp at e; have := hBr.size; omega
            obtain ⟨pa9, pc9, rfl⟩ := own_shape1 ho9
            clear hBl hBr hro hob HR3 ho9 hg9 hat9
            gi_wp2
            go_roundw
            case rel => exact ⟨j2 + 1, vs2 ++ [-9], by omega, by go_num, HR4⟩
            case measure => simp [intOf]; omega
          · have hjI2 : ¬ (j2 : Int) < 20 := by omega
            obtain ⟨hs9, hgy9, hpx9, hF9, hlt9, hA39, hx39, hgyb⟩ := HP9.out
            have hZs := hF9.size
            have x3q : Boxed wr A3 3 (.int .i64 stop) := (hBr.block A3 hx39.lt (by omega) (by omega)).trans hx39
            have c3q := Boxed.cell x3q
            have c7q := Boxed.cell hBr.x7
            have HKz : Hid (Kz (fun b => ((b < W6.heap.size ∧ b ≠ A7) ∨ W6.heap.size ≤ b) ∧ ¬ gy = b) Z wr) := ⟨hBr.size, fun b hb hl => hBr.block b hl (by omega) (fun e => hb.2 e.symm)⟩
            have HFk : Hid (Fk A7 W6 wr ∧ Boxed wr A7 3 (.int .i64 ((pre ++ [x]).length : Int)) ∧ pre ++ [x] <+: ps) := ⟨⟨hBr.os.trans hF9.os, hBr.tape.trans hF9.tape, hBr.output.trans hF9.output, Nat.le_trans hF9.size hBr.size, fun b hb hn => (hBr.block b (by omega) hn (by omega)).trans (hF9.block b hb hn)⟩, by have := hBr.x7; simpa using this, hpx9⟩
            by_cases hst : (pre.length : Int) + 1 = stop
            · gi_wp2
              exact ⟨HKz.out, rfl, HFk.out.1, HFk.out.2.1, HFk.out.2.2, by simpa using hst⟩
            · gi_wp2
              exact ⟨HKz.out, HFk.out⟩
  case done =>
    intro D zs Z hD hDs hzs hI hDz
    subst hAct
    obtain ⟨hF, hB7, hpre⟩ := hI
    obtain rfl : ps = zs := hzs.symm
    have hLz := hL.at hF hB7
    have c7 := Boxed.cell hLz.x7
    have f7 := Boxed.frozen hLz.x7
    have c5 := Boxed.cell hLz.x5
    have HY : Hid (Lw w w.heap.size A3 A4 A5 A7 Bt #[.string ⟨tv.toArray⟩, .string ⟨tc.toArray⟩, .slice oa N ocap, .bool tnd, .string ⟨tnt.toArray⟩] stop (.slice va ps.length vc) ps 0 (Z.setCell ⟨A7, 0, none⟩ (.int .i64 0)) ∧ (Z.setCell ⟨A7, 0, none⟩ (.int .i64 0)).heap[D]? = some (.deferred (some [])) ∧ w.heap.size ≤ D ∧ A7 < (Z.setCell ⟨A7, 0, none⟩ (.int .i64 0)).heap.size ∧ D < (Z.setCell ⟨A7, 0, none⟩ (.int .i64 0)).heap.size ∧ D ≠ A7) := by
      have hd : (Z.setCell ⟨A7, 0, none⟩ (.int .i64 0)).heap[D]? = some (.deferred (some [])) := (Below.heap_setCell Z ⟨A7, 0, none⟩ _ D (by show D ≠ A7; omega)).trans hDz
      exact ⟨hL.at (hF.set _) (Boxed.set _ hB7), hd, by have := hL.b.size; omega, (Boxed.set (.int .i64 0) hB7).lt, heap_lt hd, by omega⟩
    clear hLz hF hB7 hpre hDz hD hDs hzs
    go_wp2
    clear c7 f7 c5
    generalize Z.setCell ⟨A7, 0, none⟩ (.int .i64 0) = Y at *
    refine (wpIn_wide (n := 3)).1 ?_
    generalize hAct2 : ({ tmps := _, defers := _ } : Act) = a2
    have hg2 : a2.eval (.tmp 68) = .func (.func 33) #[] #[.pointer (some ⟨Bt, 0, none⟩)] := by rw [← hAct2]; rfl
    obtain ⟨hLY, hDY, hwD, hlY, hDs⟩ := HY.out
    refine wpIn_range_own (α := List Int) (β := Yv) (F := Fence.wide) (n := 3) rfl (by omega) (gf := 33) (lb := #[.pointer (some ⟨Bt, 0, none⟩)]) hg2 trivial (enters_of Tryz.func33 (by kernel_rfl) rfl) (enc := yE) (H := Hd (Y.heap.size + 2) ps) (Mp := fun b => b < Y.heap.size ∧ b ≠ A7) (fun b h => h.1) (Bk := fun y b => y.1 = b) (S := fun xs => xs = ps) (Sp := fun p => p <+: ps)
      (fun W1 hb hs => by have := lw_seq tv tc tnd tnt oa ocap N qs HQL.out hrow hA hN hb2 (by rw [HPS.out] at hLY; exact hLY) (3 - 1) W1 hb hs; rw [HPS.out]; exact this) (fun pre x y A h b e => by rw [← e]; exact h.ge) (fun pre x y A o h => ⟨h.1, h.2.1, own_keepR h.2.2 (fun g e => World.putObj_heap_other (by have := h.ge; cases e; show y.1 ≠ _; omega))⟩) rfl
      (fun pre Z => Fk A7 Y Z ∧ Boxed Z A7 3 (.int .i64 (pre.length : Int)) ∧ pre <+: ps)
      (fun c pre Z => False)
      (fun s A B h hb => ⟨h.1.below hb, (hb.block A7 hlY).trans h.2.1, h.2.2⟩)
      (fun c s A B h hb => h)
      ⟨Fk.refl _ _, hLY.x7, List.nil_prefix⟩
      (fun y => { tmps := (a2.tmps.setIfInBounds 69 (yE y)).setIfInBounds 11 (yE y), defers := [] }) ?assign2 ?body2 ?done2 ?stop2
    case assign2 =>
      intro lp y Z K hK
      subst hAct2
      simp only [List.setIfInBounds_toArray, List.set_cons_succ, List.set_cons_zero] at hK
      gi_wp2
      exact hK
    case body2 =>
      rintro lp pre x ⟨gy, ny, cy⟩ Z hsz ⟨hF, hB7, hpre⟩ hH
      obtain ⟨hpx, hny, hrw⟩ := hH
      dsimp only at hny
      subst hny
      unfold yE at hrw ⊢
      dsimp only at hrw ⊢
      have hLz := hLY.at hF hB7
      subst hAct2
      simp only [List.setIfInBounds_toArray, List.set_cons_succ, List.set_cons_zero]
      have hlt : pre.length < ps.length := by obtain ⟨t, ht⟩ := hpx; rw [← ht]; simp
      have hpi : ps[pre.length]? = some x := by obtain ⟨t, ht⟩ := hpx; rw [← ht]; simp
      obtain ⟨us, hu1, hu2⟩ := hLz.row
      obtain ⟨gw, hva, hgw⟩ : ∃ gw, va = some ⟨gw, 0, none⟩ ∧ us.length = ps.length := by
        obtain ⟨hl', ⟨h3, h4⟩ | ⟨g, cap, cur, h3, _⟩⟩ := hu1
        · omega
        · cases h3; exact ⟨g, rfl, by omega⟩
      subst hva
      obtain ⟨u, hui⟩ : ∃ u, us[pre.length]? = some u := ⟨us[pre.length]'(by omega), List.getElem?_eq_getElem _⟩
      obtain ⟨gu, cu, rfl, hu3, hu4, hu5, hu6, hu7⟩ := hu2 _ _ _ hui hpi
      have cwk := hu1.cells (g := gw) rfl _ _ hui
      rw [Lib.add_plain, Nat.zero_add] at cwk
      have c7 := Boxed.cell hLz.x7
      have f7 := Boxed.frozen hLz.x7
      have c5 := Boxed.cell hLz.x5
      have hltI : ¬ (ps.length : Int) ≤ (pre.length : Int) := by omega
      have hltI2 : (pre.length : Int) < (ps.length : Int) := by omega
      have hlt0 : ¬ (pre.length : Int) < 0 := by omega
      have hgy := own_ltR hrw (g := gy) rfl
      have hxm : x ∈ ps := List.mem_of_getElem? hpi
      have hxl : x.length ≤ 1099511627776 := by
        rw [HPS.out] at hxm
        have := path_len hxm
        omega
      have cSm := samePath_row Z gy 0 cy gu 0 cu x x.length rfl hgy.2.1 hu6 hxl (fun k i hk => by have := hrw.cells (g := gy) rfl k (.int .i64 i) (by rw [iC, List.getElem?_map, hk]; rfl); rw [Lib.add_plain] at this; simpa using this) (fun k i hk => by rw [Nat.zero_add]; exact hu7 k i hk)
      gi_upto_region 27 with (first | (refine ⟨trivial, ?_⟩; gi_at_call 17; refine (CallsIn.inRound lp (callsIn_wide.2 cSm)).mono ?_; rintro e w8 ⟨rfl, hb8⟩))
      obtain ⟨⟨an, ao, al, ac, ⟨vk, vt, vn, vh⟩, ab, aps, and, ant⟩, ca1, ca2⟩ := hAt x (by rw [← HPS.out]; exact hxm)
      have hbw8 := hLz.b.trans (hb8.mono hLz.b.size)
      have hP8 : PathAt w8 (.slice (some ⟨gy, 0, none⟩) x.length cy) x := by
        refine .row (Nat.lt_of_lt_of_le hgy.2.1 hb8.size) (fun k i hk => ?_) ?_ ?_
        · rw [cell_below hb8 _ _ hgy.2.1]
          have := hrw.cells (g := gy) rfl k (.int .i64 i) (by rw [iC, List.getElem?_map, hk]; rfl)
          rw [Lib.add_plain] at this
          exact this
        · obtain ⟨_, ⟨h3, _⟩ | ⟨g, cap, cur, h3, _, _, h5, _⟩⟩ := hrw
          · cases h3
          · cases h3; exact h5
        · obtain ⟨_, ⟨h3, _⟩ | ⟨g, cap, cur, h3, _, _, _, h5, _⟩⟩ := hrw
          · cases h3
          · cases h3; exact h5
      have cA1 := ca1 w8 _ hbw8 hP8
      obtain ⟨⟨k0, k1, k2, k3, k4⟩, fk⟩ := var5 ((hb8.block _ (heap_lt hLz.x2)).trans hLz.x2)
      clear c7 f7 c5 cSm cwk
      gi_upto_region 28 with (first | (refine ⟨trivial, ?_⟩; gi_at_call 9; refine (CallsIn.inRound lp (callsIn_wide.2 cA1)).mono ?_; rintro e w9 ⟨pv9, rfl, hA9, hb9⟩; obtain ⟨p9, n9, q9, rfl⟩ := attrsAt_shape hA9; unfold atC; have hst := run_storeCells_new (P := Tryz.prog) w9 34 zero12 #[.string ⟨an.toArray⟩, .int .i64 ao, .int .i64 al, .int .i64 ac, .int .i64 vk, .string ⟨vt.toArray⟩, .int .u32 (vn : Int), .bool vh, .bool ab, .slice p9 n9 q9, .bool and, .string ⟨ant.toArray⟩] (by kernel_rfl) rfl (by simp [Value.oneCell']); unfold zero12 at hst))
      obtain ⟨A12, hA12⟩ : ∃ A, A = w9.heap.size := ⟨_, rfl⟩
      have hb9' := hb8.trans (hb9.mono hb8.size)
      have H10 : Hid (Below Z.heap.size Z (w9.alloc (.cells #[.string ⟨an.toArray⟩, .int .i64 ao, .int .i64 al, .int .i64 ac, .int .i64 vk, .string ⟨vt.toArray⟩, .int .u32 (vn : Int), .bool vh, .bool ab, .slice p9 n9 q9, .bool and, .string ⟨ant.toArray⟩] 34)) ∧ (w9.alloc (.cells #[.string ⟨an.toArray⟩, .int .i64 ao, .int .i64 al, .int .i64 ac, .int .i64 vk, .string ⟨vt.toArray⟩, .int .u32 (vn : Int), .bool vh, .bool ab, .slice p9 n9 q9, .bool and, .string ⟨ant.toArray⟩] 34)).heap[A12]? = some (.cells #[.string ⟨an.toArray⟩, .int .i64 ao, .int .i64 al, .int .i64 ac, .int .i64 vk, .string ⟨vt.toArray⟩, .int .u32 (vn : Int), .bool vh, .bool ab, .slice p9 n9 q9, .bool and, .string ⟨ant.toArray⟩] 34 (0, 0)) ∧ AttrsAt (w9.alloc (.cells #[.string ⟨an.toArray⟩, .int .i64 ao, .int .i64 al, .int .i64 ac, .int .i64 vk, .string ⟨vt.toArray⟩, .int .u32 (vn : Int), .bool vh, .bool ab, .slice p9 n9 q9, .bool and, .string ⟨ant.toArray⟩] 34)) (fun g => g < w.heap.size ∨ w8.heap.size ≤ g) (.slice p9 n9 q9) aps ∧ Z.heap.size ≤ A12) := ⟨hb9'.alloc hb9'.size _, by rw [hA12]; exact World.alloc_heap_new _ _, attrsAt_below ((Below.refl _ _).alloc (Nat.le_refl _) _) hA9, by rw [hA12]; exact hb9'.size⟩
      rw [← hA12]
      clear hst k0 k1 k2 k3 k4 fk hA9 hb9 hA12 hP8 cA1 hbw8 hb9'
      generalize w9.alloc (.cells #[.string ⟨an.toArray⟩, .int .i64 ao, .int .i64 al, .int .i64 ac, .int .i64 vk, .string ⟨vt.toArray⟩, .int .u32 (vn : Int), .bool vh, .bool ab, .slice p9 n9 q9, .bool and, .string ⟨ant.toArray⟩] 34) = w10 at *
      obtain ⟨hb10, x12, hA10, hl12⟩ := H10.out
      clear H10
      have KS : Hid (∀ W', Below Z.heap.size Z W' → (fun w' => w'.cell? ⟨w.heap.size, 0, none⟩ = some (.string ⟨tv.toArray⟩) ∧ w'.cell? ⟨w.heap.size, 1, none⟩ = some (.string ⟨tc.toArray⟩) ∧ w'.cell? ⟨w.heap.size, 2, none⟩ = some (.slice oa N ocap) ∧ w'.cell? ⟨w.heap.size, 3, none⟩ = some (.bool tnd) ∧ w'.cell? ⟨w.heap.size, 4, none⟩ = some (.string ⟨tnt.toArray⟩) ∧ w'.cell? ⟨A5, 0, none⟩ = some (.slice (some ⟨gw, 0, none⟩) ps.length vc) ∧ w'.cell? ⟨A7, 0, none⟩ = some (.int .i64 (pre.length : Int)) ∧ w'.cell? ⟨gw, pre.length, none⟩ = some (.slice (some ⟨gu, 0, none⟩) x.length cu)) W') := fun W' hW' => by
        obtain ⟨⟨k0, k1, k2, k3, k4⟩, fk⟩ := var5 ((hW'.block _ (heap_lt hLz.x2)).trans hLz.x2)
        exact ⟨k0, k1, k2, k3, k4, Boxed.cell ((hW'.block _ hLz.x5.lt).trans hLz.x5), Boxed.cell ((hW'.block _ hLz.x7.lt).trans hLz.x7), by rw [cell_below hW' _ _ (own_ltR hu1 (g := gw) rfl).2.1]; have := hu1.cells (g := gw) rfl _ _ hui; rw [Lib.add_plain, Nat.zero_add] at this; exact this⟩
      have hP10 : ∀ W', Below Z.heap.size Z W' → PathAt W' (.slice (some ⟨gu, 0, none⟩) x.length cu) x := fun W' hW' => .row (Nat.lt_of_lt_of_le hu6 hW'.size) (fun k i hk => by rw [cell_below hW' _ _ hu6, Nat.zero_add]; exact hu7 k i hk) hu3 hu4
      have HA2 : Hid (∀ W', Below Z.heap.size Z W' → Calls Tryz.prog 10 #[.agg #[.string ⟨tv.toArray⟩, .string ⟨tc.toArray⟩, .slice oa N ocap, .bool tnd, .string ⟨tnt.toArray⟩], .slice (some ⟨gu, 0, none⟩) x.length cu] W' fun e w' => AttrRes w.heap.size (.mk an ao al ac ⟨vk, vt, vn, vh⟩ ab aps and ant) 0 W' e w') := fun W' hW' => ca2 W' _ (hLz.b.trans (hW'.mono hLz.b.size)) (hP10 W' hW')
      clear hP10 ca1 ca2 hu3 hu4 hu5 hu6 hu7
      have bd : Below Z.heap.size Z w10.drew := hb10.drew
      refine only_normal (fun K hK => ?_)
      refine region_round (by kernel_rfl) (by kernel_rfl) (not_lets_onlyN _) (S := (fun w' => w'.cell? ⟨w.heap.size, 0, none⟩ = some (.string ⟨tv.toArray⟩) ∧ w'.cell? ⟨w.heap.size, 1, none⟩ = some (.string ⟨tc.toArray⟩) ∧ w'.cell? ⟨w.heap.size, 2, none⟩ = some (.slice oa N ocap) ∧ w'.cell? ⟨w.heap.size, 3, none⟩ = some (.bool tnd) ∧ w'.cell? ⟨w.heap.size, 4, none⟩ = some (.string ⟨tnt.toArray⟩) ∧ w'.cell? ⟨A5, 0, none⟩ = some (.slice (some ⟨gw, 0, none⟩) ps.length vc) ∧ w'.cell? ⟨A7, 0, none⟩ = some (.int .i64 (pre.length : Int)) ∧ w'.cell? ⟨gw, pre.length, none⟩ = some (.slice (some ⟨gu, 0, none⟩) x.length cu))) (KS.out _ bd) (fun hHeld => ?_)
      refine takeD 0 90 (.agg #[.string ⟨tv.toArray⟩, .string ⟨tc.toArray⟩, .slice oa N ocap, .bool tnd, .string ⟨tnt.toArray⟩]) hHeld rfl rfl (by kernel_rfl) (by kernel_rfl) (by kernel_rfl) (Or.inl ⟨by rfl, fun w' hSw => by obtain ⟨q0, q1, q2, q3, q4, q5, q6, q7⟩ := hSw; go_simp⟩) ?_
      try simp only [Act.put, List.setIfInBounds_toArray, List.set_cons_zero, List.set_cons_succ]
      refine takeD 1 91 (.slice (some ⟨gw, 0, none⟩) ps.length vc) hHeld rfl rfl (by kernel_rfl) (by kernel_rfl) (by kernel_rfl) (Or.inl ⟨by rfl, fun w' hSw => by obtain ⟨q0, q1, q2, q3, q4, q5, q6, q7⟩ := hSw; go_simp⟩) ?_
      try simp only [Act.put, List.setIfInBounds_toArray, List.set_cons_zero, List.set_cons_succ]
      refine takeD 2 92 (.int .i64 (pre.length : Int)) hHeld rfl rfl (by kernel_rfl) (by kernel_rfl) (by kernel_rfl) (Or.inl ⟨by rfl, fun w' hSw => by obtain ⟨q0, q1, q2, q3, q4, q5, q6, q7⟩ := hSw; go_simp⟩) ?_
      try simp only [Act.put, List.setIfInBounds_toArray, List.set_cons_zero, List.set_cons_succ]
      refine takeD 3 93 (.pointer (some ⟨gw, pre.length, none⟩)) hHeld rfl rfl (by kernel_rfl) (by kernel_rfl) (by kernel_rfl) (Or.inl ⟨by rfl, fun w' hSw => by obtain ⟨q0, q1, q2, q3, q4, q5, q6, q7⟩ := hSw; go_simp⟩) ?_
      try simp only [Act.put, List.setIfInBounds_toArray, List.set_cons_zero, List.set_cons_succ]
      refine takeD 4 94 (.slice (some ⟨gu, 0, none⟩) x.length cu) hHeld rfl rfl (by kernel_rfl) (by kernel_rfl) (by kernel_rfl) (Or.inl ⟨by rfl, fun w' hSw => by obtain ⟨q0, q1, q2, q3, q4, q5, q6, q7⟩ := hSw; go_simp⟩) ?_
      try simp only [Act.put, List.setIfInBounds_toArray, List.set_cons_zero, List.set_cons_succ]
      refine wpAnyH_ready (rs := [5, 9]) (by kernel_rfl) (by simp) ?_
      refine AllReadyH.cons rfl (fun K2 hK2 => ?_) (AllReadyH.cons rfl (fun K2 hK2 => ?_) AllReadyH.nil)
      · go_simp
        go_wp2_with (go_at_call 10; refine (HA2.out _ bd).mono ?_; rintro e w11 ⟨pv11, rfl, hA11, hb11⟩; obtain ⟨p11, n11, q11, rfl⟩ := attrsAt_shape hA11; unfold atC)
        have hb11' : Below Z.heap.size Z w11 := bd.trans (hb11.mono bd.size)
        refine hK2.out _ _ (KS.out _ hb11') (fun hHeld => ?_)
        clear hK2 K2
        refine takeD 6 89 (.tuple #[.agg #[.string ⟨an.toArray⟩, .int .i64 ao, .int .i64 al, .int .i64 ac, .int .i64 vk, .string ⟨vt.toArray⟩, .int .u32 (vn : Int), .bool vh, .bool ab, .slice p11 n11 q11, .bool and, .string ⟨ant.toArray⟩], .int .i64 0]) hHeld rfl rfl (by kernel_rfl) (by kernel_rfl) (by kernel_rfl) (Or.inl ⟨by rfl, fun w' hSw => by obtain ⟨q0, q1, q2, q3, q4, q5, q6, q7⟩ := hSw; go_simp⟩) ?_
        try simp only [Act.put, List.setIfInBounds_toArray, List.set_cons_zero, List.set_cons_succ]
        refine takeD 7 96 (.agg #[.string ⟨an.toArray⟩, .int .i64 ao, .int .i64 al, .int .i64 ac, .int .i64 vk, .string ⟨vt.toArray⟩, .int .u32 (vn : Int), .bool vh, .bool ab, .slice p11 n11 q11, .bool and, .string ⟨ant.toArray⟩]) hHeld rfl rfl (by kernel_rfl) (by kernel_rfl) (by kernel_rfl) (Or.inl ⟨by rfl, fun w' hSw => by obtain ⟨q0, q1, q2, q3, q4, q5, q6, q7⟩ := hSw; go_simp⟩) ?_
        try simp only [Act.put, List.setIfInBounds_toArray, List.set_cons_zero, List.set_cons_succ]
        refine takeD 8 97 (.int .i64 0) hHeld rfl rfl (by kernel_rfl) (by kernel_rfl) (by kernel_rfl) (Or.inl ⟨by rfl, fun w' hSw => by obtain ⟨q0, q1, q2, q3, q4, q5, q6, q7⟩ := hSw; go_simp⟩) ?_
        try simp only [Act.put, List.setIfInBounds_toArray, List.set_cons_zero, List.set_cons_succ]
        refine wpAnyH_ready (rs := [9]) (by kernel_rfl) (by simp) ?_
        refine AllReadyH.cons rfl (fun K3 hK3 => ?_) AllReadyH.nil
        go_simp
        refine hK3.out _ _ (KS.out _ (hb11'.alloc hb11'.size _)) (fun hHeld => ?_)
        clear hK3 K3
        have hst11 := run_storeCells_new (P := Tryz.prog) w11 34 zero12 #[.string ⟨an.toArray⟩, .int .i64 ao, .int .i64 al, .int .i64 ac, .int .i64 vk, .string ⟨vt.toArray⟩, .int .u32 (vn : Int), .bool vh, .bool ab, .slice p11 n11 q11, .bool and, .string ⟨ant.toArray⟩] (by kernel_rfl) rfl (by simp [Value.oneCell'])
        unfold zero12 at hst11
        refine wpAnyH_ready (rs := [10]) (by kernel_rfl) (by simp) ?_
        refine AllReadyH.cons rfl (fun K3 hK3 => ?_) AllReadyH.nil
        go_simp
        refine hK3.out _ _ (KS.out _ (hb11'.alloc hb11'.size _)) (fun hHeld => ?_)
        clear hK3 K3 hst11
        refine takeD 11 15 (.int .i64 0) hHeld rfl rfl (by kernel_rfl) (by kernel_rfl) (by kernel_rfl) (Or.inl ⟨by rfl, fun w' hSw => by obtain ⟨q0, q1, q2, q3, q4, q5, q6, q7⟩ := hSw; go_simp⟩) ?_
        try simp only [Act.put, List.setIfInBounds_toArray, List.set_cons_zero, List.set_cons_succ]
        refine wpAnyH_done (by kernel_rfl) ?_ _
        refine hK.out _ _ ?_
        clear hK K hHeld
        have HG : Hid (Below Z.heap.size Z (w11.alloc (.cells #[.string ⟨an.toArray⟩, .int .i64 ao, .int .i64 al, .int .i64 ac, .int .i64 vk, .string ⟨vt.toArray⟩, .int .u32 (vn : Int), .bool vh, .bool ab, .slice p11 n11 q11, .bool and, .string ⟨ant.toArray⟩] 34)) ∧ (w11.alloc (.cells #[.string ⟨an.toArray⟩, .int .i64 ao, .int .i64 al, .int .i64 ac, .int .i64 vk, .string ⟨vt.toArray⟩, .int .u32 (vn : Int), .bool vh, .bool ab, .slice p11 n11 q11, .bool and, .string ⟨ant.toArray⟩] 34)).heap[A12]? = some (.cells #[.string ⟨an.toArray⟩, .int .i64 ao, .int .i64 al, .int .i64 ac, .int .i64 vk, .string ⟨vt.toArray⟩, .int .u32 (vn : Int), .bool vh, .bool ab, .slice p9 n9 q9, .bool and, .string ⟨ant.toArray⟩] 34 (0, 0)) ∧ (w11.alloc (.cells #[.string ⟨an.toArray⟩, .int .i64 ao, .int .i64 al, .int .i64 ac, .int .i64 vk, .string ⟨vt.toArray⟩, .int .u32 (vn : Int), .bool vh, .bool ab, .slice p11 n11 q11, .bool and, .string ⟨ant.toArray⟩] 34)).heap[w11.heap.size]? = some (.cells #[.string ⟨an.toArray⟩, .int .i64 ao, .int .i64 al, .int .i64 ac, .int .i64 vk, .string ⟨vt.toArray⟩, .int .u32 (vn : Int), .bool vh, .bool ab, .slice p11 n11 q11, .bool and, .string ⟨ant.toArray⟩] 34 (0, 0)) ∧ AttrsAt (w11.alloc (.cells #[.string ⟨an.toArray⟩, .int .i64 ao, .int .i64 al, .int .i64 ac, .int .i64 vk, .string ⟨vt.toArray⟩, .int .u32 (vn : Int), .bool vh, .bool ab, .slice p11 n11 q11, .bool and, .string ⟨ant.toArray⟩] 34)) (fun g => g < w.heap.size ∨ w8.heap.size ≤ g) (.slice p9 n9 q9) aps ∧ AttrsAt (w11.alloc (.cells #[.string ⟨an.toArray⟩, .int .i64 ao, .int .i64 al, .int .i64 ac, .int .i64 vk, .string ⟨vt.toArray⟩, .int .u32 (vn : Int), .bool vh, .bool ab, .slice p11 n11 q11, .bool and, .string ⟨ant.toArray⟩] 34)) (fun g => g < w.heap.size ∨ w10.heap.size ≤ g) (.slice p11 n11 q11) aps) := by
          have h1 : Below w10.heap.size w10 w11 := (Below.refl w10.heap.size w10).drew.trans hb11
          have h2 : Below w10.heap.size w10 (w11.alloc (.cells #[.string ⟨an.toArray⟩, .int .i64 ao, .int .i64 al, .int .i64 ac, .int .i64 vk, .string ⟨vt.toArray⟩, .int .u32 (vn : Int), .bool vh, .bool ab, .slice p11 n11 q11, .bool and, .string ⟨ant.toArray⟩] 34)) := h1.alloc h1.size _
          exact ⟨hb11'.alloc hb11'.size _, (h2.block _ (heap_lt x12)).trans x12, World.alloc_heap_new _ _, attrsAt_below h2 hA10, attrsAt_below ((Below.refl _ _).alloc (Nat.le_refl _) _) hA11⟩
        obtain ⟨A14, hA14⟩ : ∃ A, A = w11.heap.size := ⟨_, rfl⟩
        rw [← hA14] at HG ⊢
        clear hA14 hb11' hb11 hA11 bd hA10 x12 hb10
        generalize w11.alloc (.cells #[.string ⟨an.toArray⟩, .int .i64 ao, .int .i64 al, .int .i64 ac, .int .i64 vk, .string ⟨vt.toArray⟩, .int .u32 (vn : Int), .bool vh, .bool ab, .slice p11 n11 q11, .bool and, .string ⟨ant.toArray⟩] 34) = w12 at *
        obtain ⟨hb12, y12, y14, a12, a14⟩ := HG.out
        clear HG
        have cSA := sameAttr_of w12 w12 (Below.refl _ _) true an ao al ac ao al ac vk vt vn vh ab and ant p9 n9 q9 p11 n11 q11 (fun _ => ⟨rfl, rfl, rfl⟩) (fun W2 hW2 => (sameAttrs_any (smA_refl true aps) W2 _ _ _ _ (attrsAt_below hW2 a12) (attrsAt_below hW2 a14)).mono fun e w' ⟨h1, h2⟩ => ⟨h1, hW2.trans (h2.mono hW2.size)⟩)
        obtain ⟨⟨g0, g1, g2, g3, g4, g5, g6, g7, g8, g9, g10, g11⟩, fg⟩ := var12 y12
        obtain ⟨⟨m0, m1, m2, m3, m4, m5, m6, m7, m8, m9, m10, m11⟩, fm⟩ := var12 y14
        have hpl : (pre.length : Int) ≤ 1099511627776 := by omega
        have HZ7 : Hid (∀ W', Below Z.heap.size Z W' → Boxed W' A7 3 (.int .i64 (pre.length : Int))) := fun W' hW' => (hW'.block _ hLz.x7.lt).trans hLz.x7
        have HFin : Hid (∀ W', Below Z.heap.size Z W' → Kz (fun b => ((b < Y.heap.size ∧ b ≠ A7) ∨ Y.heap.size ≤ b) ∧ ¬ gy = b) Z (W'.setCell ⟨A7, 0, none⟩ (.int .i64 ((pre.length : Int) + 1))) ∧ Fk A7 Y (W'.setCell ⟨A7, 0, none⟩ (.int .i64 ((pre.length : Int) + 1))) ∧ Boxed (W'.setCell ⟨A7, 0, none⟩ (.int .i64 ((pre.length : Int) + 1))) A7 3 (.int .i64 ((pre ++ [x]).length : Int)) ∧ pre ++ [x] <+: ps) := fun W' hW' => by
          have hsZ := hF.size
          refine ⟨⟨by have := hW'.size; simp [World.setCell]; omega, fun b hb hl => (Below.heap_setCell W' ⟨A7, 0, none⟩ _ b (by show b ≠ A7; omega)).trans (hW'.block b hl)⟩, (hF.below (hW'.mono hsZ)).set _, ?_, hpx⟩
          have := Boxed.set (.int .i64 ((pre.length : Int) + 1)) (HZ7.out W' hW')
          simpa using this
        clear y12 y14 a12 a14
        gi_wp2_with (first | (refine ⟨trivial, ?_⟩; gi_at_call 11; refine (CallsIn.inRound lp (callsIn_wide.2 cSA)).mono ?_; rintro e w13 ⟨rfl, hb13⟩; have hb13' := hb12.trans (hb13.mono hb12.size); have c713 := Boxed.cell (HZ7.out _ hb13'); have f713 := Boxed.frozen (HZ7.out _ hb13')))
        exact HFin.out _ hb13'
      · go_simp
        have bz := bd.alloc bd.size (.cells zero12 34)
        refine hK2.out _ _ (KS.out _ bz) (fun hHeld => ?_)
        clear hK2 K2
        refine wpAnyH_ready (rs := [5]) (by kernel_rfl) (by simp) ?_
        refine AllReadyH.cons rfl (fun K2 hK2 => ?_) AllReadyH.nil
        go_simp
        go_wp2_with (go_at_call 10; refine (HA2.out _ bz).mono ?_; rintro e w11 ⟨pv11, rfl, hA11, hb11⟩; obtain ⟨p11, n11, q11, rfl⟩ := attrsAt_shape hA11; unfold atC)
        have hb11' : Below Z.heap.size Z w11 := bz.trans (hb11.mono bz.size)
        refine hK2.out _ _ (KS.out _ hb11') (fun hHeld => ?_)
        clear hK2 K2
        obtain ⟨A14, hA14⟩ : ∃ A, A = w10.heap.size := ⟨_, rfl⟩
        have hzero : w11.heap[A14]? = some (.cells zero12 34 (0, 0)) := by
          have h1 : (w10.drew.alloc (.cells zero12 34)).heap[A14]? = some (.cells zero12 34 (0, 0)) := by rw [hA14]; exact World.alloc_heap_new w10.drew _
          exact (hb11.block _ (heap_lt h1)).trans h1
        have hst11 : (storeCells ⟨A14, 0, none⟩ [.string ⟨an.toArray⟩, .int .i64 ao, .int .i64 al, .int .i64 ac, .int .i64 vk, .string ⟨vt.toArray⟩, .int .u32 (vn : Int), .bool vh, .bool ab, .slice p11 n11 q11, .bool and, .string ⟨ant.toArray⟩] 0).run Tryz.prog w11 = .ok () (w11.setRow A14 #[.string ⟨an.toArray⟩, .int .i64 ao, .int .i64 al, .int .i64 ac, .int .i64 vk, .string ⟨vt.toArray⟩, .int .u32 (vn : Int), .bool vh, .bool ab, .slice p11 n11 q11, .bool and, .string ⟨ant.toArray⟩]) := run_storeCells_at Tryz.prog A14 0 34 #[.string ⟨an.toArray⟩, .int .i64 ao, .int .i64 al, .int .i64 ac, .int .i64 vk, .string ⟨vt.toArray⟩, .int .u32 (vn : Int), .bool vh, .bool ab, .slice p11 n11 q11, .bool and, .string ⟨ant.toArray⟩].toList 0 zero12 w11 hzero (by simp [zero12]) (by intro u hu; simp at hu; rcases hu with rfl | rfl | rfl | rfl | rfl | rfl | rfl | rfl | rfl | rfl | rfl | rfl <;> rfl)
        have HBS : Hid (∀ B, B ≤ A14 → Below B w11 (w11.setRow A14 #[.string ⟨an.toArray⟩, .int .i64 ao, .int .i64 al, .int .i64 ac, .int .i64 vk, .string ⟨vt.toArray⟩, .int .u32 (vn : Int), .bool vh, .bool ab, .slice p11 n11 q11, .bool and, .string ⟨ant.toArray⟩])) := fun B hB => below_setRow (Below.refl _ _) hB _
        rw [← hA14]
        have HA14 : Hid (A14 = w10.heap.size) := hA14
        clear hA14
        refine takeD 6 89 (.tuple #[.agg #[.string ⟨an.toArray⟩, .int .i64 ao, .int .i64 al, .int .i64 ac, .int .i64 vk, .string ⟨vt.toArray⟩, .int .u32 (vn : Int), .bool vh, .bool ab, .slice p11 n11 q11, .bool and, .string ⟨ant.toArray⟩], .int .i64 0]) hHeld rfl rfl (by kernel_rfl) (by kernel_rfl) (by kernel_rfl) (Or.inl ⟨by rfl, fun w' hSw => by obtain ⟨q0, q1, q2, q3, q4, q5, q6, q7⟩ := hSw; go_simp⟩) ?_
        try simp only [Act.put, List.setIfInBounds_toArray, List.set_cons_zero, List.set_cons_succ]
        refine takeD 7 96 (.agg #[.string ⟨an.toArray⟩, .int .i64 ao, .int .i64 al, .int .i64 ac, .int .i64 vk, .string ⟨vt.toArray⟩, .int .u32 (vn : Int), .bool vh, .bool ab, .slice p11 n11 q11, .bool and, .string ⟨ant.toArray⟩]) hHeld rfl rfl (by kernel_rfl) (by kernel_rfl) (by kernel_rfl) (Or.inl ⟨by rfl, fun w' hSw => by obtain ⟨q0, q1, q2, q3, q4, q5, q6, q7⟩ := hSw; go_simp⟩) ?_
        try simp only [Act.put, List.setIfInBounds_toArray, List.set_cons_zero, List.set_cons_succ]
        refine takeD 8 97 (.int .i64 0) hHeld rfl rfl (by kernel_rfl) (by kernel_rfl) (by kernel_rfl) (Or.inl ⟨by rfl, fun w' hSw => by obtain ⟨q0, q1, q2, q3, q4, q5, q6, q7⟩ := hSw; go_simp⟩) ?_
        try simp only [Act.put, List.setIfInBounds_toArray, List.set_cons_zero, List.set_cons_succ]
        have hthere : w11.there A14 0 12 := fun j hj => by
          have hj' : j < 12 := hj
          constructor
          · simp [World.cell?, hzero, zero12]; omega
          · simp [World.frozen?, hzero]
        have hsc : w11.setCells A14 0 [.string ⟨an.toArray⟩, .int .i64 ao, .int .i64 al, .int .i64 ac, .int .i64 vk, .string ⟨vt.toArray⟩, .int .u32 (vn : Int), .bool vh, .bool ab, .slice p11 n11 q11, .bool and, .string ⟨ant.toArray⟩] = w11.setRow A14 #[.string ⟨an.toArray⟩, .int .i64 ao, .int .i64 al, .int .i64 ac, .int .i64 vk, .string ⟨vt.toArray⟩, .int .u32 (vn : Int), .bool vh, .bool ab, .slice p11 n11 q11, .bool and, .string ⟨ant.toArray⟩] := by
          have e1 := run_storeVar_mid (P := Tryz.prog) w11 A14 0 34 #[.string ⟨an.toArray⟩, .int .i64 ao, .int .i64 al, .int .i64 ac, .int .i64 vk, .string ⟨vt.toArray⟩, .int .u32 (vn : Int), .bool vh, .bool ab, .slice p11 n11 q11, .bool and, .string ⟨ant.toArray⟩] hthere (by kernel_rfl) (by simp [Value.oneCell'])
          have e2 := run_storeCells_cells (P := Tryz.prog) A14 0 [.string ⟨an.toArray⟩, .int .i64 ao, .int .i64 al, .int .i64 ac, .int .i64 vk, .string ⟨vt.toArray⟩, .int .u32 (vn : Int), .bool vh, .bool ab, .slice p11 n11 q11, .bool and, .string ⟨ant.toArray⟩] 0 w11 (fun j hj => by simpa using (hthere j hj).1) (fun j hj => by simpa using (hthere j hj).2) (by intro u hu; simp at hu; rcases hu with rfl | rfl | rfl | rfl | rfl | rfl | rfl | rfl | rfl | rfl | rfl | rfl <;> rfl)
          have e3 := e2.symm.trans hst11
          exact (Result.ok.inj e3).2
        refine wpAnyH_ready (rs := [10]) (by kernel_rfl) (by simp) ?_
        refine AllReadyH.cons rfl (fun K3 hK3 => ?_) AllReadyH.nil
        rw [if_pos (by rfl)]
        refine wp_store_mid 34 (.tmp 14) (.tmp 96) rfl A14 0 #[.string ⟨an.toArray⟩, .int .i64 ao, .int .i64 al, .int .i64 ac, .int .i64 vk, .string ⟨vt.toArray⟩, .int .u32 (vn : Int), .bool vh, .bool ab, .slice p11 n11 q11, .bool and, .string ⟨ant.toArray⟩] rfl rfl hthere (by kernel_rfl) (by simp [Value.oneCell']) ?_
        rw [hsc]
        simp only [Act.put]
        have hl14 : Z.heap.size ≤ A14 := by rw [HA14.out]; exact bd.size
        have hb14 : Below Z.heap.size Z (w11.setRow A14 #[.string ⟨an.toArray⟩, .int .i64 ao, .int .i64 al, .int .i64 ac, .int .i64 vk, .string ⟨vt.toArray⟩, .int .u32 (vn : Int), .bool vh, .bool ab, .slice p11 n11 q11, .bool and, .string ⟨ant.toArray⟩]) := hb11'.trans (HBS.out _ hl14)
        refine hK3.out _ _ (KS.out _ hb14) (fun hHeld => ?_)
        clear hK3 K3 hst11 hsc hthere
        refine takeD 11 15 (.int .i64 0) hHeld rfl rfl (by kernel_rfl) (by kernel_rfl) (by kernel_rfl) (Or.inl ⟨by rfl, fun w' hSw => by obtain ⟨q0, q1, q2, q3, q4, q5, q6, q7⟩ := hSw; go_simp⟩) ?_
        try simp only [Act.put, List.setIfInBounds_toArray, List.set_cons_zero, List.set_cons_succ]
        refine wpAnyH_done (by kernel_rfl) ?_ _
        refine hK.out _ _ ?_
        clear hK K hHeld
        have HG : Hid (Below Z.heap.size Z (w11.setRow A14 #[.string ⟨an.toArray⟩, .int .i64 ao, .int .i64 al, .int .i64 ac, .int .i64 vk, .string ⟨vt.toArray⟩, .int .u32 (vn : Int), .bool vh, .bool ab, .slice p11 n11 q11, .bool and, .string ⟨ant.toArray⟩]) ∧ (w11.setRow A14 #[.string ⟨an.toArray⟩, .int .i64 ao, .int .i64 al, .int .i64 ac, .int .i64 vk, .string ⟨vt.toArray⟩, .int .u32 (vn : Int), .bool vh, .bool ab, .slice p11 n11 q11, .bool and, .string ⟨ant.toArray⟩]).heap[A12]? = some (.cells #[.string ⟨an.toArray⟩, .int .i64 ao, .int .i64 al, .int .i64 ac, .int .i64 vk, .string ⟨vt.toArray⟩, .int .u32 (vn : Int), .bool vh, .bool ab, .slice p9 n9 q9, .bool and, .string ⟨ant.toArray⟩] 34 (0, 0)) ∧ (w11.setRow A14 #[.string ⟨an.toArray⟩, .int .i64 ao, .int .i64 al, .int .i64 ac, .int .i64 vk, .string ⟨vt.toArray⟩, .int .u32 (vn : Int), .bool vh, .bool ab, .slice p11 n11 q11, .bool and, .string ⟨ant.toArray⟩]).heap[A14]? = some (.cells #[.string ⟨an.toArray⟩, .int .i64 ao, .int .i64 al, .int .i64 ac, .int .i64 vk, .string ⟨vt.toArray⟩, .int .u32 (vn : Int), .bool vh, .bool ab, .slice p11 n11 q11, .bool and, .string ⟨ant.toArray⟩] 34 (0, 0)) ∧ AttrsAt (w11.setRow A14 #[.string ⟨an.toArray⟩, .int .i64 ao, .int .i64 al, .int .i64 ac, .int .i64 vk, .string ⟨vt.toArray⟩, .int .u32 (vn : Int), .bool vh, .bool ab, .slice p11 n11 q11, .bool and, .string ⟨ant.toArray⟩]) (fun g => g < w.heap.size ∨ w8.heap.size ≤ g) (.slice p9 n9 q9) aps ∧ AttrsAt (w11.setRow A14 #[.string ⟨an.toArray⟩, .int .i64 ao, .int .i64 al, .int .i64 ac, .int .i64 vk, .string ⟨vt.toArray⟩, .int .u32 (vn : Int), .bool vh, .bool ab, .slice p11 n11 q11, .bool and, .string ⟨ant.toArray⟩]) (fun g => g < w.heap.size ∨ w10.heap.size + 1 ≤ g) (.slice p11 n11 q11) aps) := by
          have h0 : Below w10.heap.size w10 (w10.drew.alloc (.cells zero12 34)) := (Below.refl w10.heap.size w10).drew.alloc (Nat.le_refl _) _
          have h1 : Below w10.heap.size w10 w11 := h0.trans (hb11.mono (by simp))
          have h2 : Below w10.heap.size w10 (w11.setRow A14 #[.string ⟨an.toArray⟩, .int .i64 ao, .int .i64 al, .int .i64 ac, .int .i64 vk, .string ⟨vt.toArray⟩, .int .u32 (vn : Int), .bool vh, .bool ab, .slice p11 n11 q11, .bool and, .string ⟨ant.toArray⟩]) := h1.trans (HBS.out _ (by rw [HA14.out]; exact Nat.le_refl _))
          refine ⟨hb14, (h2.block _ (heap_lt x12)).trans x12, setRow_heap _ _ _ _ _ _ hzero, attrsAt_below h2 hA10, attrsAt_move (by simp) (fun g hF hl => ?_) hA11⟩
          have hs : (w10.drew.alloc (.cells zero12 34)).heap.size = w10.heap.size + 1 := by simp
          have hw10 : w.heap.size ≤ w10.heap.size := Nat.le_trans hLz.b.size hb10.size
          have hF' : g < w.heap.size ∨ w10.heap.size + 1 ≤ g := by rw [hs] at hF; exact hF
          exact ⟨setRow_other _ _ _ _ (by rw [HA14.out]; omega), hF'⟩
        clear HA14 HBS hzero hb14 hl14 bz hb11' hb11 hA11 bd hA10 x12 hb10
        generalize w11.setRow A14 #[.string ⟨an.toArray⟩, .int .i64 ao, .int .i64 al, .int .i64 ac, .int .i64 vk, .string ⟨vt.toArray⟩, .int .u32 (vn : Int), .bool vh, .bool ab, .slice p11 n11 q11, .bool and, .string ⟨ant.toArray⟩] = w12 at *
        obtain ⟨hb12, y12, y14, a12, a14⟩ := HG.out
        clear HG
        have cSA := sameAttr_of w12 w12 (Below.refl _ _) true an ao al ac ao al ac vk vt vn vh ab and ant p9 n9 q9 p11 n11 q11 (fun _ => ⟨rfl, rfl, rfl⟩) (fun W2 hW2 => (sameAttrs_any (smA_refl true aps) W2 _ _ _ _ (attrsAt_below hW2 a12) (attrsAt_below hW2 a14)).mono fun e w' ⟨h1, h2⟩ => ⟨h1, hW2.trans (h2.mono hW2.size)⟩)
        obtain ⟨⟨g0, g1, g2, g3, g4, g5, g6, g7, g8, g9, g10, g11⟩, fg⟩ := var12 y12
        obtain ⟨⟨m0, m1, m2, m3, m4, m5, m6, m7, m8, m9, m10, m11⟩, fm⟩ := var12 y14
        have hpl : (pre.length : Int) ≤ 1099511627776 := by omega
        have HZ7 : Hid (∀ W', Below Z.heap.size Z W' → Boxed W' A7 3 (.int .i64 (pre.length : Int))) := fun W' hW' => (hW'.block _ hLz.x7.lt).trans hLz.x7
        have HFin : Hid (∀ W', Below Z.heap.size Z W' → Kz (fun b => ((b < Y.heap.size ∧ b ≠ A7) ∨ Y.heap.size ≤ b) ∧ ¬ gy = b) Z (W'.setCell ⟨A7, 0, none⟩ (.int .i64 ((pre.length : Int) + 1))) ∧ Fk A7 Y (W'.setCell ⟨A7, 0, none⟩ (.int .i64 ((pre.length : Int) + 1))) ∧ Boxed (W'.setCell ⟨A7, 0, none⟩ (.int .i64 ((pre.length : Int) + 1))) A7 3 (.int .i64 ((pre ++ [x]).length : Int)) ∧ pre ++ [x] <+: ps) := fun W' hW' => by
          have hsZ := hF.size
          refine ⟨⟨by have := hW'.size; simp [World.setCell]; omega, fun b hb hl => (Below.heap_setCell W' ⟨A7, 0, none⟩ _ b (by show b ≠ A7; omega)).trans (hW'.block b hl)⟩, (hF.below (hW'.mono hsZ)).set _, ?_, hpx⟩
          have := Boxed.set (.int .i64 ((pre.length : Int) + 1)) (HZ7.out W' hW')
          simpa using this
        clear y12 y14 a12 a14
        gi_wp2_with (first | (refine ⟨trivial, ?_⟩; gi_at_call 11; refine (CallsIn.inRound lp (callsIn_wide.2 cSA)).mono ?_; rintro e w13 ⟨rfl, hb13⟩; have hb13' := hb12.trans (hb13.mono hb12.size); have c713 := Boxed.cell (HZ7.out _ hb13'); have f713 := Boxed.frozen (HZ7.out _ hb13')))
        exact HFin.out _ hb13'
    case done2 =>
      intro D2 zs2 Z2 hD2 hs2 hzs2 hI2 hDz2
      subst hAct2
      obtain ⟨hF2, hB72, _⟩ := hI2
      obtain rfl : ps = zs2 := hzs2.symm
      have hL2 := hLY.at hF2 hB72
      have c7 := Boxed.cell hL2.x7
      have c5 := Boxed.cell hL2.x5
      have hH := hHd Z2 hL2.b
      have HD : Hid (Z2.heap[D]? = some (.deferred (some [])) ∧ Z2.heap[D2]? = some (.deferred (some [])) ∧ D ≠ D2 ∧ A4 ≠ D ∧ A4 ≠ D2 ∧ w.heap.size ≤ D ∧ w.heap.size ≤ D2) := by
        have h4 := hLY.ne
        have h5 := hLY.b.size
        refine ⟨(hF2.block D hDs.1 hDs.2).trans hDY, hDz2, by omega, fun e => ?_, by omega, hwD, by omega⟩
        have h6 := hLY.x4
        rw [e] at h6
        have := hDY.symm.trans h6
        cases this
      clear hF2 hB72 hDz2 hDY hLY hD2 hs2
      go_wp2_with (go_at_call 14; refine hH.mono ?_; rintro e w8 ⟨rfl, hb8⟩; have x48 : Boxed w8 A4 4 (.bool false) := (hb8.block _ hL2.x4.lt).trans hL2.x4; have c48 := Boxed.cell x48; have f48 := Boxed.frozen x48)
      obtain ⟨d1, d2, hne, n1, n2, k1, k2⟩ := HD.out
      have hst : ∀ k, k ≠ A4 → (w8.setCell ⟨A4, 0, none⟩ (.bool true)).heap[k]? = w8.heap[k]? := fun k hk => Below.heap_setCell w8 ⟨A4, 0, none⟩ _ k hk
      show LeavesInM Fence.wide 3 _ _ _ _ _ _ _
      exact leave2 (p := 4) rfl rfl (Boxed.set (.bool true) x48) ((hst _ n2.symm).trans ((hb8.block _ (heap_lt d2)).trans d2)) ((hst _ n1.symm).trans ((hb8.block _ (heap_lt d1)).trans d1)) hne ((hL2.b.trans (hb8.mono hL2.b.size)).setCell (p := ⟨A4, 0, none⟩) hL2.lt.2.2.1 _) k1 k2
    case stop2 =>
      intro D2 c pre Z hD2 hs2 hsp h hd
      exact h.elim
  case stop =>
    rintro D c pre Z hD hDs hsp ⟨rfl, hF, hB7, hpre, hkst⟩ hDz
    subst hAct
    have hLz := hL.at hF hB7
    have c7 := Boxed.cell hLz.x7
    have f7 := Boxed.frozen hLz.x7
    have c5 := Boxed.cell hLz.x5
    have c3 : Z.cell? ⟨A3, 0, none⟩ = some (.int .i64 (pre.length : Int)) := by rw [hkst]; exact Boxed.cell hLz.x3
    have HY : Hid (Lw w w.heap.size A3 A4 A5 A7 Bt #[.string ⟨tv.toArray⟩, .string ⟨tc.toArray⟩, .slice oa N ocap, .bool tnd, .string ⟨tnt.toArray⟩] stop (.slice va ps.length vc) ps 0 (Z.setCell ⟨A7, 0, none⟩ (.int .i64 0)) ∧ (Z.setCell ⟨A7, 0, none⟩ (.int .i64 0)).heap[D]? = some (.deferred (some [])) ∧ w.heap.size ≤ D ∧ A7 < (Z.setCell ⟨A7, 0, none⟩ (.int .i64 0)).heap.size ∧ D < (Z.setCell ⟨A7, 0, none⟩ (.int .i64 0)).heap.size ∧ D ≠ A7) := by
      have hd : (Z.setCell ⟨A7, 0, none⟩ (.int .i64 0)).heap[D]? = some (.deferred (some [])) := (Below.heap_setCell Z ⟨A7, 0, none⟩ _ D (by show D ≠ A7; omega)).trans hDz
      exact ⟨hL.at (hF.set _) (Boxed.set _ hB7), hd, by have := hL.b.size; omega, (Boxed.set (.int .i64 0) hB7).lt, heap_lt hd, by omega⟩
    clear hLz hF hB7 hpre hDz hD hDs hsp hkst
    by_cases hkl : pre.length = ps.length
    · have hkb : ((pre.length : Int) != ps.length) = false := by simp [hkl]
      gi_wp2
      go_wp2
      clear c7 f7 c5 c3 hkb hkl
      generalize Z.setCell ⟨A7, 0, none⟩ (.int .i64 0) = Y at *
      refine (wpIn_wide (n := 3)).1 ?_
      generalize hAct2 : ({ tmps := _, defers := _ } : Act) = a2
      have hg2 : a2.eval (.tmp 68) = .func (.func 33) #[] #[.pointer (some ⟨Bt, 0, none⟩)] := by rw [← hAct2]; rfl
      obtain ⟨hLY, hDY, hwD, hlY, hDs⟩ := HY.out
      refine wpIn_range_own (α := List Int) (β := Yv) (F := Fence.wide) (n := 3) rfl (by omega) (gf := 33) (lb := #[.pointer (some ⟨Bt, 0, none⟩)]) hg2 trivial (enters_of Tryz.func33 (by kernel_rfl) rfl) (enc := yE) (H := Hd (Y.heap.size + 2) ps) (Mp := fun b => b < Y.heap.size ∧ b ≠ A7) (fun b h => h.1) (Bk := fun y b => y.1 = b) (S := fun xs => xs = ps) (Sp := fun p => p <+: ps)
        (fun W1 hb hs => by have := lw_seq tv tc tnd tnt oa ocap N qs HQL.out hrow hA hN hb2 (by rw [HPS.out] at hLY; exact hLY) (3 - 1) W1 hb hs; rw [HPS.out]; exact this) (fun pre x y A h b e => by rw [← e]; exact h.ge) (fun pre x y A o h => ⟨h.1, h.2.1, own_keepR h.2.2 (fun g e => World.putObj_heap_other (by have := h.ge; cases e; show y.1 ≠ _; omega))⟩) rfl
        (fun pre Z => Fk A7 Y Z ∧ Boxed Z A7 3 (.int .i64 (pre.length : Int)) ∧ pre <+: ps)
        (fun c pre Z => False)
        (fun s A B h hb => ⟨h.1.below hb, (hb.block A7 hlY).trans h.2.1, h.2.2⟩)
        (fun c s A B h hb => h)
        ⟨Fk.refl _ _, hLY.x7, List.nil_prefix⟩
        (fun y => { tmps := (a2.tmps.setIfInBounds 69 (yE y)).setIfInBounds 11 (yE y), defers := [] }) ?assign2 ?body2 ?done2 ?stop2
      case assign2 =>
        intro lp y Z K hK
        subst hAct2
        simp only [List.setIfInBounds_toArray, List.set_cons_succ, List.set_cons_zero] at hK
        gi_wp2
        exact hK
      case body2 =>
        rintro lp pre x ⟨gy, ny, cy⟩ Z hsz ⟨hF, hB7, hpre⟩ hH
        obtain ⟨hpx, hny, hrw⟩ := hH
        dsimp only at hny
        subst hny
        unfold yE at hrw ⊢
        dsimp only at hrw ⊢
        have hLz := hLY.at hF hB7
        subst hAct2
        simp only [List.setIfInBounds_toArray, List.set_cons_succ, List.set_cons_zero]
        have hlt : pre.length < ps.length := by obtain ⟨t, ht⟩ := hpx; rw [← ht]; simp
        have hpi : ps[pre.length]? = some x := by obtain ⟨t, ht⟩ := hpx; rw [← ht]; simp
        obtain ⟨us, hu1, hu2⟩ := hLz.row
        obtain ⟨gw, hva, hgw⟩ : ∃ gw, va = some ⟨gw, 0, none⟩ ∧ us.length = ps.length := by
          obtain ⟨hl', ⟨h3, h4⟩ | ⟨g, cap, cur, h3, _⟩⟩ := hu1
          · omega
          · cases h3; exact ⟨g, rfl, by omega⟩
        subst hva
        obtain ⟨u, hui⟩ : ∃ u, us[pre.length]? = some u := ⟨us[pre.length]'(by omega), List.getElem?_eq_getElem _⟩
        obtain ⟨gu, cu, rfl, hu3, hu4, hu5, hu6, hu7⟩ := hu2 _ _ _ hui hpi
        have cwk := hu1.cells (g := gw) rfl _ _ hui
        rw [Lib.add_plain, Nat.zero_add] at cwk
        have c7 := Boxed.cell hLz.x7
        have f7 := Boxed.frozen hLz.x7
        have c5 := Boxed.cell hLz.x5
        have hltI : ¬ (ps.length : Int) ≤ (pre.length : Int) := by omega
        have hltI2 : (pre.length : Int) < (ps.length : Int) := by omega
        have hlt0 : ¬ (pre.length : Int) < 0 := by omega
        have hgy := own_ltR hrw (g := gy) rfl
        have hxm : x ∈ ps := List.mem_of_getElem? hpi
        have hxl : x.length ≤ 1099511627776 := by
          rw [HPS.out] at hxm
          have := path_len hxm
          omega
        have cSm := samePath_row Z gy 0 cy gu 0 cu x x.length rfl hgy.2.1 hu6 hxl (fun k i hk => by have := hrw.cells (g := gy) rfl k (.int .i64 i) (by rw [iC, List.getElem?_map, hk]; rfl); rw [Lib.add_plain] at this; simpa using this) (fun k i hk => by rw [Nat.zero_add]; exact hu7 k i hk)
        gi_upto_region 27 with (first | (refine ⟨trivial, ?_⟩; gi_at_call 17; refine (CallsIn.inRound lp (callsIn_wide.2 cSm)).mono ?_; rintro e w8 ⟨rfl, hb8⟩))
        obtain ⟨⟨an, ao, al, ac, ⟨vk, vt, vn, vh⟩, ab, aps, and, ant⟩, ca1, ca2⟩ := hAt x (by rw [← HPS.out]; exact hxm)
        have hbw8 := hLz.b.trans (hb8.mono hLz.b.size)
        have hP8 : PathAt w8 (.slice (some ⟨gy, 0, none⟩) x.length cy) x := by
          refine .row (Nat.lt_of_lt_of_le hgy.2.1 hb8.size) (fun k i hk => ?_) ?_ ?_
          · rw [cell_below hb8 _ _ hgy.2.1]
            have := hrw.cells (g := gy) rfl k (.int .i64 i) (by rw [iC, List.getElem?_map, hk]; rfl)
            rw [Lib.add_plain] at this
            exact this
          · obtain ⟨_, ⟨h3, _⟩ | ⟨g, cap, cur, h3, _, _, h5, _⟩⟩ := hrw
            · cases h3
            · cases h3; exact h5
          · obtain ⟨_, ⟨h3, _⟩ | ⟨g, cap, cur, h3, _, _, _, h5, _⟩⟩ := hrw
            · cases h3
            · cases h3; exact h5
        have cA1 := ca1 w8 _ hbw8 hP8
        obtain ⟨⟨k0, k1, k2, k3, k4⟩, fk⟩ := var5 ((hb8.block _ (heap_lt hLz.x2)).trans hLz.x2)
        clear c7 f7 c5 cSm cwk
        gi_upto_region 28 with (first | (refine ⟨trivial, ?_⟩; gi_at_call 9; refine (CallsIn.inRound lp (callsIn_wide.2 cA1)).mono ?_; rintro e w9 ⟨pv9, rfl, hA9, hb9⟩; obtain ⟨p9, n9, q9, rfl⟩ := attrsAt_shape hA9; unfold atC; have hst := run_storeCells_new (P := Tryz.prog) w9 34 zero12 #[.string ⟨an.toArray⟩, .int .i64 ao, .int .i64 al, .int .i64 ac, .int .i64 vk, .string ⟨vt.toArray⟩, .int .u32 (vn : Int), .bool vh, .bool ab, .slice p9 n9 q9, .bool and, .string ⟨ant.toArray⟩] (by kernel_rfl) rfl (by simp [Value.oneCell']); unfold zero12 at hst))
        obtain ⟨A12, hA12⟩ : ∃ A, A = w9.heap.size := ⟨_, rfl⟩
        have hb9' := hb8.trans (hb9.mono hb8.size)
        have H10 : Hid (Below Z.heap.size Z (w9.alloc (.cells #[.string ⟨an.toArray⟩, .int .i64 ao, .int .i64 al, .int .i64 ac, .int .i64 vk, .string ⟨vt.toArray⟩, .int .u32 (vn : Int), .bool vh, .bool ab, .slice p9 n9 q9, .bool and, .string ⟨ant.toArray⟩] 34)) ∧ (w9.alloc (.cells #[.string ⟨an.toArray⟩, .int .i64 ao, .int .i64 al, .int .i64 ac, .int .i64 vk, .string ⟨vt.toArray⟩, .int .u32 (vn : Int), .bool vh, .bool ab, .slice p9 n9 q9, .bool and, .string ⟨ant.toArray⟩] 34)).heap[A12]? = some (.cells #[.string ⟨an.toArray⟩, .int .i64 ao, .int .i64 al, .int .i64 ac, .int .i64 vk, .string ⟨vt.toArray⟩, .int .u32 (vn : Int), .bool vh, .bool ab, .slice p9 n9 q9, .bool and, .string ⟨ant.toArray⟩] 34 (0, 0)) ∧ AttrsAt (w9.alloc (.cells #[.string ⟨an.toArray⟩, .int .i64 ao, .int .i64 al, .int .i64 ac, .int .i64 vk, .string ⟨vt.toArray⟩, .int .u32 (vn : Int), .bool vh, .bool ab, .slice p9 n9 q9, .bool and, .string ⟨ant.toArray⟩] 34)) (fun g => g < w.heap.size ∨ w8.heap.size ≤ g) (.slice p9 n9 q9) aps ∧ Z.heap.size ≤ A12) := ⟨hb9'.alloc hb9'.size _, by rw [hA12]; exact World.alloc_heap_new _ _, attrsAt_below ((Below.refl _ _).alloc (Nat.le_refl _) _) hA9, by rw [hA12]; exact hb9'.size⟩
        rw [← hA12]
        clear hst k0 k1 k2 k3 k4 fk hA9 hb9 hA12 hP8 cA1 hbw8 hb9'
        generalize w9.alloc (.cells #[.string ⟨an.toArray⟩, .int .i64 ao, .int .i64 al, .int .i64 ac, .int .i64 vk, .string ⟨vt.toArray⟩, .int .u32 (vn : Int), .bool vh, .bool ab, .slice p9 n9 q9, .bool and, .string ⟨ant.toArray⟩] 34) = w10 at *
        obtain ⟨hb10, x12, hA10, hl12⟩ := H10.out
        clear H10
        have KS : Hid (∀ W', Below Z.heap.size Z W' → (fun w' => w'.cell? ⟨w.heap.size, 0, none⟩ = some (.string ⟨tv.toArray⟩) ∧ w'.cell? ⟨w.heap.size, 1, none⟩ = some (.string ⟨tc.toArray⟩) ∧ w'.cell? ⟨w.heap.size, 2, none⟩ = some (.slice oa N ocap) ∧ w'.cell? ⟨w.heap.size, 3, none⟩ = some (.bool tnd) ∧ w'.cell? ⟨w.heap.size, 4, none⟩ = some (.string ⟨tnt.toArray⟩) ∧ w'.cell? ⟨A5, 0, none⟩ = some (.slice (some ⟨gw, 0, none⟩) ps.length vc) ∧ w'.cell? ⟨A7, 0, none⟩ = some (.int .i64 (pre.length : Int)) ∧ w'.cell? ⟨gw, pre.length, none⟩ = some (.slice (some ⟨gu, 0, none⟩) x.length cu)) W') := fun W' hW' => by
          obtain ⟨⟨k0, k1, k2, k3, k4⟩, fk⟩ := var5 ((hW'.block _ (heap_lt hLz.x2)).trans hLz.x2)
          exact ⟨k0, k1, k2, k3, k4, Boxed.cell ((hW'.block _ hLz.x5.lt).trans hLz.x5), Boxed.cell ((hW'.block _ hLz.x7.lt).trans hLz.x7), by rw [cell_below hW' _ _ (own_ltR hu1 (g := gw) rfl).2.1]; have := hu1.cells (g := gw) rfl _ _ hui; rw [Lib.add_plain, Nat.zero_add] at this; exact this⟩
        have hP10 : ∀ W', Below Z.heap.size Z W' → PathAt W' (.slice (some ⟨gu, 0, none⟩) x.length cu) x := fun W' hW' => .row (Nat.lt_of_lt_of_le hu6 hW'.size) (fun k i hk => by rw [cell_below hW' _ _ hu6, Nat.zero_add]; exact hu7 k i hk) hu3 hu4
        have HA2 : Hid (∀ W', Below Z.heap.size Z W' → Calls Tryz.prog 10 #[.agg #[.string ⟨tv.toArray⟩, .string ⟨tc.toArray⟩, .slice oa N ocap, .bool tnd, .string ⟨tnt.toArray⟩], .slice (some ⟨gu, 0, none⟩) x.length cu] W' fun e w' => AttrRes w.heap.size (.mk an ao al ac ⟨vk, vt, vn, vh⟩ ab aps and ant) 0 W' e w') := fun W' hW' => ca2 W' _ (hLz.b.trans (hW'.mono hLz.b.size)) (hP10 W' hW')
        clear hP10 ca1 ca2 hu3 hu4 hu5 hu6 hu7
        have bd : Below Z.heap.size Z w10.drew := hb10.drew
        refine only_normal (fun K hK => ?_)
        refine region_round (by kernel_rfl) (by kernel_rfl) (not_lets_onlyN _) (S := (fun w' => w'.cell? ⟨w.heap.size, 0, none⟩ = some (.string ⟨tv.toArray⟩) ∧ w'.cell? ⟨w.heap.size, 1, none⟩ = some (.string ⟨tc.toArray⟩) ∧ w'.cell? ⟨w.heap.size, 2, none⟩ = some (.slice oa N ocap) ∧ w'.cell? ⟨w.heap.size, 3, none⟩ = some (.bool tnd) ∧ w'.cell? ⟨w.heap.size, 4, none⟩ = some (.string ⟨tnt.toArray⟩) ∧ w'.cell? ⟨A5, 0, none⟩ = some (.slice (some ⟨gw, 0, none⟩) ps.length vc) ∧ w'.cell? ⟨A7, 0, none⟩ = some (.int .i64 (pre.length : Int)) ∧ w'.cell? ⟨gw, pre.length, none⟩ = some (.slice (some ⟨gu, 0, none⟩) x.length cu))) (KS.out _ bd) (fun hHeld => ?_)
        refine takeD 0 90 (.agg #[.string ⟨tv.toArray⟩, .string ⟨tc.toArray⟩, .slice oa N ocap, .bool tnd, .string ⟨tnt.toArray⟩]) hHeld rfl rfl (by kernel_rfl) (by kernel_rfl) (by kernel_rfl) (Or.inl ⟨by rfl, fun w' hSw => by obtain ⟨q0, q1, q2, q3, q4, q5, q6, q7⟩ := hSw; go_simp⟩) ?_
        try simp only [Act.put, List.setIfInBounds_toArray, List.set_cons_zero, List.set_cons_succ]
        refine takeD 1 91 (.slice (some ⟨gw, 0, none⟩) ps.length vc) hHeld rfl rfl (by kernel_rfl) (by kernel_rfl) (by kernel_rfl) (Or.inl ⟨by rfl, fun w' hSw => by obtain ⟨q0, q1, q2, q3, q4, q5, q6, q7⟩ := hSw; go_simp⟩) ?_
        try simp only [Act.put, List.setIfInBounds_toArray, List.set_cons_zero, List.set_cons_succ]
        refine takeD 2 92 (.int .i64 (pre.length : Int)) hHeld rfl rfl (by kernel_rfl) (by kernel_rfl) (by kernel_rfl) (Or.inl ⟨by rfl, fun w' hSw => by obtain ⟨q0, q1, q2, q3, q4, q5, q6, q7⟩ := hSw; go_simp⟩) ?_
        try simp only [Act.put, List.setIfInBounds_toArray, List.set_cons_zero, List.set_cons_succ]
        refine takeD 3 93 (.pointer (some ⟨gw, pre.length, none⟩)) hHeld rfl rfl (by kernel_rfl) (by kernel_rfl) (by kernel_rfl) (Or.inl ⟨by rfl, fun w' hSw => by obtain ⟨q0, q1, q2, q3, q4, q5, q6, q7⟩ := hSw; go_simp⟩) ?_
        try simp only [Act.put, List.setIfInBounds_toArray, List.set_cons_zero, List.set_cons_succ]
        refine takeD 4 94 (.slice (some ⟨gu, 0, none⟩) x.length cu) hHeld rfl rfl (by kernel_rfl) (by kernel_rfl) (by kernel_rfl) (Or.inl ⟨by rfl, fun w' hSw => by obtain ⟨q0, q1, q2, q3, q4, q5, q6, q7⟩ := hSw; go_simp⟩) ?_
        try simp only [Act.put, List.setIfInBounds_toArray, List.set_cons_zero, List.set_cons_succ]
        refine wpAnyH_ready (rs := [5, 9]) (by kernel_rfl) (by simp) ?_
        refine AllReadyH.cons rfl (fun K2 hK2 => ?_) (AllReadyH.cons rfl (fun K2 hK2 => ?_) AllReadyH.nil)
        · go_simp
          go_wp2_with (go_at_call 10; refine (HA2.out _ bd).mono ?_; rintro e w11 ⟨pv11, rfl, hA11, hb11⟩; obtain ⟨p11, n11, q11, rfl⟩ := attrsAt_shape hA11; unfold atC)
          have hb11' : Below Z.heap.size Z w11 := bd.trans (hb11.mono bd.size)
          refine hK2.out _ _ (KS.out _ hb11') (fun hHeld => ?_)
          clear hK2 K2
          refine takeD 6 89 (.tuple #[.agg #[.string ⟨an.toArray⟩, .int .i64 ao, .int .i64 al, .int .i64 ac, .int .i64 vk, .string ⟨vt.toArray⟩, .int .u32 (vn : Int), .bool vh, .bool ab, .slice p11 n11 q11, .bool and, .string ⟨ant.toArray⟩], .int .i64 0]) hHeld rfl rfl (by kernel_rfl) (by kernel_rfl) (by kernel_rfl) (Or.inl ⟨by rfl, fun w' hSw => by obtain ⟨q0, q1, q2, q3, q4, q5, q6, q7⟩ := hSw; go_simp⟩) ?_
          try simp only [Act.put, List.setIfInBounds_toArray, List.set_cons_zero, List.set_cons_succ]
          refine takeD 7 96 (.agg #[.string ⟨an.toArray⟩, .int .i64 ao, .int .i64 al, .int .i64 ac, .int .i64 vk, .string ⟨vt.toArray⟩, .int .u32 (vn : Int), .bool vh, .bool ab, .slice p11 n11 q11, .bool and, .string ⟨ant.toArray⟩]) hHeld rfl rfl (by kernel_rfl) (by kernel_rfl) (by kernel_rfl) (Or.inl ⟨by rfl, fun w' hSw => by obtain ⟨q0, q1, q2, q3, q4, q5, q6, q7⟩ := hSw; go_simp⟩) ?_
          try simp only [Act.put, List.setIfInBounds_toArray, List.set_cons_zero, List.set_cons_succ]
          refine takeD 8 97 (.int .i64 0) hHeld rfl rfl (by kernel_rfl) (by kernel_rfl) (by kernel_rfl) (Or.inl ⟨by rfl, fun w' hSw => by obtain ⟨q0, q1, q2, q3, q4, q5, q6, q7⟩ := hSw; go_simp⟩) ?_
          try simp only [Act.put, List.setIfInBounds_toArray, List.set_cons_zero, List.set_cons_succ]
          refine wpAnyH_ready (rs := [9]) (by kernel_rfl) (by simp) ?_
          refine AllReadyH.cons rfl (fun K3 hK3 => ?_) AllReadyH.nil
          go_simp
          refine hK3.out _ _ (KS.out _ (hb11'.alloc hb11'.size _)) (fun hHeld => ?_)
          clear hK3 K3
          have hst11 := run_storeCells_new (P := Tryz.prog) w11 34 zero12 #[.string ⟨an.toArray⟩, .int .i64 ao, .int .i64 al, .int .i64 ac, .int .i64 vk, .string ⟨vt.toArray⟩, .int .u32 (vn : Int), .bool vh, .bool ab, .slice p11 n11 q11, .bool and, .string ⟨ant.toArray⟩] (by kernel_rfl) rfl (by simp [Value.oneCell'])
          unfold zero12 at hst11
          refine wpAnyH_ready (rs := [10]) (by kernel_rfl) (by simp) ?_
          refine AllReadyH.cons rfl (fun K3 hK3 => ?_) AllReadyH.nil
          go_simp
          refine hK3.out _ _ (KS.out _ (hb11'.alloc hb11'.size _)) (fun hHeld => ?_)
          clear hK3 K3 hst11
          refine takeD 11 15 (.int .i64 0) hHeld rfl rfl (by kernel_rfl) (by kernel_rfl) (by kernel_rfl) (Or.inl ⟨by rfl, fun w' hSw => by obtain ⟨q0, q1, q2, q3, q4, q5, q6, q7⟩ := hSw; go_simp⟩) ?_
          try simp only [Act.put, List.setIfInBounds_toArray, List.set_cons_zero, List.set_cons_succ]
          refine wpAnyH_done (by kernel_rfl) ?_ _
          refine hK.out _ _ ?_
          clear hK K hHeld
          have HG : Hid (Below Z.heap.size Z (w11.alloc (.cells #[.string ⟨an.toArray⟩, .int .i64 ao, .int .i64 al, .int .i64 ac, .int .i64 vk, .string ⟨vt.toArray⟩, .int .u32 (vn : Int), .bool vh, .bool ab, .slice p11 n11 q11, .bool and, .string ⟨ant.toArray⟩] 34)) ∧ (w11.alloc (.cells #[.string ⟨an.toArray⟩, .int .i64 ao, .int .i64 al, .int .i64 ac, .int .i64 vk, .string ⟨vt.toArray⟩, .int .u32 (vn : Int), .bool vh, .bool ab, .slice p11 n11 q11, .bool and, .string ⟨ant.toArray⟩] 34)).heap[A12]? = some (.cells #[.string ⟨an.toArray⟩, .int .i64 ao, .int .i64 al, .int .i64 ac, .int .i64 vk, .string ⟨vt.toArray⟩, .int .u32 (vn : Int), .bool vh, .bool ab, .slice p9 n9 q9, .bool and, .string ⟨ant.toArray⟩] 34 (0, 0)) ∧ (w11.alloc (.cells #[.string ⟨an.toArray⟩, .int .i64 ao, .int .i64 al, .int .i64 ac, .int .i64 vk, .string ⟨vt.toArray⟩, .int .u32 (vn : Int), .bool vh, .bool ab, .slice p11 n11 q11, .bool and, .string ⟨ant.toArray⟩] 34)).heap[w11.heap.size]? = some (.cells #[.string ⟨an.toArray⟩, .int .i64 ao, .int .i64 al, .int .i64 ac, .int .i64 vk, .string ⟨vt.toArray⟩, .int .u32 (vn : Int), .bool vh, .bool ab, .slice p11 n11 q11, .bool and, .string ⟨ant.toArray⟩] 34 (0, 0)) ∧ AttrsAt (w11.alloc (.cells #[.string ⟨an.toArray⟩, .int .i64 ao, .int .i64 al, .int .i64 ac, .int .i64 vk, .string ⟨vt.toArray⟩, .int .u32 (vn : Int), .bool vh, .bool ab, .slice p11 n11 q11, .bool and, .string ⟨ant.toArray⟩] 34)) (fun g => g < w.heap.size ∨ w8.heap.size ≤ g) (.slice p9 n9 q9) aps ∧ AttrsAt (w11.alloc (.cells #[.string ⟨an.toArray⟩, .int .i64 ao, .int .i64 al, .int .i64 ac, .int .i64 vk, .string ⟨vt.toArray⟩, .int .u32 (vn : Int), .bool vh, .bool ab, .slice p11 n11 q11, .bool and, .string ⟨ant.toArray⟩] 34)) (fun g => g < w.heap.size ∨ w10.heap.size ≤ g) (.slice p11 n11 q11) aps) := by
            have h1 : Below w10.heap.size w10 w11 := (Below.refl w10.heap.size w10).drew.trans hb11
            have h2 : Below w10.heap.size w10 (w11.alloc (.cells #[.string ⟨an.toArray⟩, .int .i64 ao, .int .i64 al, .int .i64 ac, .int .i64 vk, .string ⟨vt.toArray⟩, .int .u32 (vn : Int), .bool vh, .bool ab, .slice p11 n11 q11, .bool and, .string ⟨ant.toArray⟩] 34)) := h1.alloc h1.size _
            exact ⟨hb11'.alloc hb11'.size _, (h2.block _ (heap_lt x12)).trans x12, World.alloc_heap_new _ _, attrsAt_below h2 hA10, attrsAt_below ((Below.refl _ _).alloc (Nat.le_refl _) _) hA11⟩
          obtain ⟨A14, hA14⟩ : ∃ A, A = w11.heap.size := ⟨_, rfl⟩
          rw [← hA14] at HG ⊢
          clear hA14 hb11' hb11 hA11 bd hA10 x12 hb10
          generalize w11.alloc (.cells #[.string ⟨an.toArray⟩, .int .i64 ao, .int .i64 al, .int .i64 ac, .int .i64 vk, .string ⟨vt.toArray⟩, .int .u32 (vn : Int), .bool vh, .bool ab, .slice p11 n11 q11, .bool and, .string ⟨ant.toArray⟩] 34) = w12 at *
          obtain ⟨hb12, y12, y14, a12, a14⟩ := HG.out
          clear HG
          have cSA := sameAttr_of w12 w12 (Below.refl _ _) true an ao al ac ao al ac vk vt vn vh ab and ant p9 n9 q9 p11 n11 q11 (fun _ => ⟨rfl, rfl, rfl⟩) (fun W2 hW2 => (sameAttrs_any (smA_refl true aps) W2 _ _ _ _ (attrsAt_below hW2 a12) (attrsAt_below hW2 a14)).mono fun e w' ⟨h1, h2⟩ => ⟨h1, hW2.trans (h2.mono hW2.size)⟩)
          obtain ⟨⟨g0, g1, g2, g3, g4, g5, g6, g7, g8, g9, g10, g11⟩, fg⟩ := var12 y12
          obtain ⟨⟨m0, m1, m2, m3, m4, m5, m6, m7, m8, m9, m10, m11⟩, fm⟩ := var12 y14
          have hpl : (pre.length : Int) ≤ 1099511627776 := by omega
          have HZ7 : Hid (∀ W', Below Z.heap.size Z W' → Boxed W' A7 3 (.int .i64 (pre.length : Int))) := fun W' hW' => (hW'.block _ hLz.x7.lt).trans hLz.x7
          have HFin : Hid (∀ W', Below Z.heap.size Z W' → Kz (fun b => ((b < Y.heap.size ∧ b ≠ A7) ∨ Y.heap.size ≤ b) ∧ ¬ gy = b) Z (W'.setCell ⟨A7, 0, none⟩ (.int .i64 ((pre.length : Int) + 1))) ∧ Fk A7 Y (W'.setCell ⟨A7, 0, none⟩ (.int .i64 ((pre.length : Int) + 1))) ∧ Boxed (W'.setCell ⟨A7, 0, none⟩ (.int .i64 ((pre.length : Int) + 1))) A7 3 (.int .i64 ((pre ++ [x]).length : Int)) ∧ pre ++ [x] <+: ps) := fun W' hW' => by
            have hsZ := hF.size
            refine ⟨⟨by have := hW'.size; simp [World.setCell]; omega, fun b hb hl => (Below.heap_setCell W' ⟨A7, 0, none⟩ _ b (by show b ≠ A7; omega)).trans (hW'.block b hl)⟩, (hF.below (hW'.mono hsZ)).set _, ?_, hpx⟩
            have := Boxed.set (.int .i64 ((pre.length : Int) + 1)) (HZ7.out W' hW')
            simpa using this
          clear y12 y14 a12 a14
          gi_wp2_with (first | (refine ⟨trivial, ?_⟩; gi_at_call 11; refine (CallsIn.inRound lp (callsIn_wide.2 cSA)).mono ?_; rintro e w13 ⟨rfl, hb13⟩; have hb13' := hb12.trans (hb13.mono hb12.size); have c713 := Boxed.cell (HZ7.out _ hb13'); have f713 := Boxed.frozen (HZ7.out _ hb13')))
          exact HFin.out _ hb13'
        · go_simp
          have bz := bd.alloc bd.size (.cells zero12 34)
          refine hK2.out _ _ (KS.out _ bz) (fun hHeld => ?_)
          clear hK2 K2
          refine wpAnyH_ready (rs := [5]) (by kernel_rfl) (by simp) ?_
          refine AllReadyH.cons rfl (fun K2 hK2 => ?_) AllReadyH.nil
          go_simp
          go_wp2_with (go_at_call 10; refine (HA2.out _ bz).mono ?_; rintro e w11 ⟨pv11, rfl, hA11, hb11⟩; obtain ⟨p11, n11, q11, rfl⟩ := attrsAt_shape hA11; unfold atC)
          have hb11' : Below Z.heap.size Z w11 := bz.trans (hb11.mono bz.size)
          refine hK2.out _ _ (KS.out _ hb11') (fun hHeld => ?_)
          clear hK2 K2
          obtain ⟨A14, hA14⟩ : ∃ A, A = w10.heap.size := ⟨_, rfl⟩
          have hzero : w11.heap[A14]? = some (.cells zero12 34 (0, 0)) := by
            have h1 : (w10.drew.alloc (.cells zero12 34)).heap[A14]? = some (.cells zero12 34 (0, 0)) := by rw [hA14]; exact World.alloc_heap_new w10.drew _
            exact (hb11.block _ (heap_lt h1)).trans h1
          have hst11 : (storeCells ⟨A14, 0, none⟩ [.string ⟨an.toArray⟩, .int .i64 ao, .int .i64 al, .int .i64 ac, .int .i64 vk, .string ⟨vt.toArray⟩, .int .u32 (vn : Int), .bool vh, .bool ab, .slice p11 n11 q11, .bool and, .string ⟨ant.toArray⟩] 0).run Tryz.prog w11 = .ok () (w11.setRow A14 #[.string ⟨an.toArray⟩, .int .i64 ao, .int .i64 al, .int .i64 ac, .int .i64 vk, .string ⟨vt.toArray⟩, .int .u32 (vn : Int), .bool vh, .bool ab, .slice p11 n11 q11, .bool and, .string ⟨ant.toArray⟩]) := run_storeCells_at Tryz.prog A14 0 34 #[.string ⟨an.toArray⟩, .int .i64 ao, .int .i64 al, .int .i64 ac, .int .i64 vk, .string ⟨vt.toArray⟩, .int .u32 (vn : Int), .bool vh, .bool ab, .slice p11 n11 q11, .bool and, .string ⟨ant.toArray⟩].toList 0 zero12 w11 hzero (by simp [zero12]) (by intro u hu; simp at hu; rcases hu with rfl | rfl | rfl | rfl | rfl | rfl | rfl | rfl | rfl | rfl | rfl | rfl <;> rfl)
          have HBS : Hid (∀ B, B ≤ A14 → Below B w11 (w11.setRow A14 #[.string ⟨an.toArray⟩, .int .i64 ao, .int .i64 al, .int .i64 ac, .int .i64 vk, .string ⟨vt.toArray⟩, .int .u32 (vn : Int), .bool vh, .bool ab, .slice p11 n11 q11, .bool and, .string ⟨ant.toArray⟩])) := fun B hB => below_setRow (Below.refl _ _) hB _
          rw [← hA14]
          have HA14 : Hid (A14 = w10.heap.size) := hA14
          clear hA14
          refine takeD 6 89 (.tuple #[.agg #[.string ⟨an.toArray⟩, .int .i64 ao, .int .i64 al, .int .i64 ac, .int .i64 vk, .string ⟨vt.toArray⟩, .int .u32 (vn : Int), .bool vh, .bool ab, .slice p11 n11 q11, .bool and, .string ⟨ant.toArray⟩], .int .i64 0]) hHeld rfl rfl (by kernel_rfl) (by kernel_rfl) (by kernel_rfl) (Or.inl ⟨by rfl, fun w' hSw => by obtain ⟨q0, q1, q2, q3, q4, q5, q6, q7⟩ := hSw; go_simp⟩) ?_
          try simp only [Act.put, List.setIfInBounds_toArray, List.set_cons_zero, List.set_cons_succ]
          refine takeD 7 96 (.agg #[.string ⟨an.toArray⟩, .int .i64 ao, .int .i64 al, .int .i64 ac, .int .i64 vk, .string ⟨vt.toArray⟩, .int .u32 (vn : Int), .bool vh, .bool ab, .slice p11 n11 q11, .bool and, .string ⟨ant.toArray⟩]) hHeld rfl rfl (by kernel_rfl) (by kernel_rfl) (by kernel_rfl) (Or.inl ⟨by rfl, fun w' hSw => by obtain ⟨q0, q1, q2, q3, q4, q5, q6, q7⟩ := hSw; go_simp⟩) ?_
          try simp only [Act.put, List.setIfInBounds_toArray, List.set_cons_zero, List.set_cons_succ]
          refine takeD 8 97 (.int .i64 0) hHeld rfl rfl (by kernel_rfl) (by kernel_rfl) (by kernel_rfl) (Or.inl ⟨by rfl, fun w' hSw => by obtain ⟨q0, q1, q2, q3, q4, q5, q6, q7⟩ := hSw; go_simp⟩) ?_
          try simp only [Act.put, List.setIfInBounds_toArray, List.set_cons_zero, List.set_cons_succ]
          have hthere : w11.there A14 0 12 := fun j hj => by
            have hj' : j < 12 := hj
            constructor
            · simp [World.cell?, hzero, zero12]; omega
            · simp [World.frozen?, hzero]
          have hsc : w11.setCells A14 0 [.string ⟨an.toArray⟩, .int .i64 ao, .int .i64 al, .int .i64 ac, .int .i64 vk, .string ⟨vt.toArray⟩, .int .u32 (vn : Int), .bool vh, .bool ab, .slice p11 n11 q11, .bool and, .string ⟨ant.toArray⟩] = w11.setRow A14 #[.string ⟨an.toArray⟩, .int .i64 ao, .int .i64 al, .int .i64 ac, .int .i64 vk, .string ⟨vt.toArray⟩, .int .u32 (vn : Int), .bool vh, .bool ab, .slice p11 n11 q11, .bool and, .string ⟨ant.toArray⟩] := by
            have e1 := run_storeVar_mid (P := Tryz.prog) w11 A14 0 34 #[.string ⟨an.toArray⟩, .int .i64 ao, .int .i64 al, .int .i64 ac, .int .i64 vk, .string ⟨vt.toArray⟩, .int .u32 (vn : Int), .bool vh, .bool ab, .slice p11 n11 q11, .bool and, .string ⟨ant.toArray⟩] hthere (by kernel_rfl) (by simp [Value.oneCell'])
            have e2 := run_storeCells_cells (P := Tryz.prog) A14 0 [.string ⟨an.toArray⟩, .int .i64 ao, .int .i64 al, .int .i64 ac, .int .i64 vk, .string ⟨vt.toArray⟩, .int .u32 (vn : Int), .bool vh, .bool ab, .slice p11 n11 q11, .bool and, .string ⟨ant.toArray⟩] 0 w11 (fun j hj => by simpa using (hthere j hj).1) (fun j hj => by simpa using (hthere j hj).2) (by intro u hu; simp at hu; rcases hu with rfl | rfl | rfl | rfl | rfl | rfl | rfl | rfl | rfl | rfl | rfl | rfl <;> rfl)
            have e3 := e2.symm.trans hst11
            exact (Result.ok.inj e3).2
          refine wpAnyH_ready (rs := [10]) (by kernel_rfl) (by simp) ?_
          refine AllReadyH.cons rfl (fun K3 hK3 => ?_) AllReadyH.nil
          rw [if_pos (by rfl)]
          refine wp_store_mid 34 (.tmp 14) (.tmp 96) rfl A14 0 #[.string ⟨an.toArray⟩, .int .i64 ao, .int .i64 al, .int .i64 ac, .int .i64 vk, .string ⟨vt.toArray⟩, .int .u32 (vn : Int), .bool vh, .bool ab, .slice p11 n11 q11, .bool and, .string ⟨ant.toArray⟩] rfl rfl hthere (by kernel_rfl) (by simp [Value.oneCell']) ?_
          rw [hsc]
          simp only [Act.put]
          have hl14 : Z.heap.size ≤ A14 := by rw [HA14.out]; exact bd.size
          have hb14 : Below Z.heap.size Z (w11.setRow A14 #[.string ⟨an.toArray⟩, .int .i64 ao, .int .i64 al, .int .i64 ac, .int .i64 vk, .string ⟨vt.toArray⟩, .int .u32 (vn : Int), .bool vh, .bool ab, .slice p11 n11 q11, .bool and, .string ⟨ant.toArray⟩]) := hb11'.trans (HBS.out _ hl14)
          refine hK3.out _ _ (KS.out _ hb14) (fun hHeld => ?_)
          clear hK3 K3 hst11 hsc hthere
          refine takeD 11 15 (.int .i64 0) hHeld rfl rfl (by kernel_rfl) (by kernel_rfl) (by kernel_rfl) (Or.inl ⟨by rfl, fun w' hSw => by obtain ⟨q0, q1, q2, q3, q4, q5, q6, q7⟩ := hSw; go_simp⟩) ?_
          try simp only [Act.put, List.setIfInBounds_toArray, List.set_cons_zero, List.set_cons_succ]
          refine wpAnyH_done (by kernel_rfl) ?_ _
          refine hK.out _ _ ?_
          clear hK K hHeld
          have HG : Hid (Below Z.heap.size Z (w11.setRow A14 #[.string ⟨an.toArray⟩, .int .i64 ao, .int .i64 al, .int .i64 ac, .int .i64 vk, .string ⟨vt.toArray⟩, .int .u32 (vn : Int), .bool vh, .bool ab, .slice p11 n11 q11, .bool and, .string ⟨ant.toArray⟩]) ∧ (w11.setRow A14 #[.string ⟨an.toArray⟩, .int .i64 ao, .int .i64 al, .int .i64 ac, .int .i64 vk, .string ⟨vt.toArray⟩, .int .u32 (vn : Int), .bool vh, .bool ab, .slice p11 n11 q11, .bool and, .string ⟨ant.toArray⟩]).heap[A12]? = some (.cells #[.string ⟨an.toArray⟩, .int .i64 ao, .int .i64 al, .int .i64 ac, .int .i64 vk, .string ⟨vt.toArray⟩, .int .u32 (vn : Int), .bool vh, .bool ab, .slice p9 n9 q9, .bool and, .string ⟨ant.toArray⟩] 34 (0, 0)) ∧ (w11.setRow A14 #[.string ⟨an.toArray⟩, .int .i64 ao, .int .i64 al, .int .i64 ac, .int .i64 vk, .string ⟨vt.toArray⟩, .int .u32 (vn : Int), .bool vh, .bool ab, .slice p11 n11 q11, .bool and, .string ⟨ant.toArray⟩]).heap[A14]? = some (.cells #[.string ⟨an.toArray⟩, .int .i64 ao, .int .i64 al, .int .i64 ac, .int .i64 vk, .string ⟨vt.toArray⟩, .int .u32 (vn : Int), .bool vh, .bool ab, .slice p11 n11 q11, .bool and, .string ⟨ant.toArray⟩] 34 (0, 0)) ∧ AttrsAt (w11.setRow A14 #[.string ⟨an.toArray⟩, .int .i64 ao, .int .i64 al, .int .i64 ac, .int .i64 vk, .string ⟨vt.toArray⟩, .int .u32 (vn : Int), .bool vh, .bool ab, .slice p11 n11 q11, .bool and, .string ⟨ant.toArray⟩]) (fun g => g < w.heap.size ∨ w8.heap.size ≤ g) (.slice p9 n9 q9) aps ∧ AttrsAt (w11.setRow A14 #[.string ⟨an.toArray⟩, .int .i64 ao, .int .i64 al, .int .i64 ac, .int .i64 vk, .string ⟨vt.toArray⟩, .int .u32 (vn : Int), .bool vh, .bool ab, .slice p11 n11 q11, .bool and, .string ⟨ant.toArray⟩]) (fun g => g < w.heap.size ∨ w10.heap.size + 1 ≤ g) (.slice p11 n11 q11) aps) := by
            have h0 : Below w10.heap.size w10 (w10.drew.alloc (.cells zero12 34)) := (Below.refl w10.heap.size w10).drew.alloc (Nat.le_refl _) _
            have h1 : Below w10.heap.size w10 w11 := h0.trans (hb11.mono (by simp))
            have h2 : Below w10.heap.size w10 (w11.setRow A14 #[.string ⟨an.toArray⟩, .int .i64 ao, .int .i64 al, .int .i64 ac, .int .i64 vk, .string ⟨vt.toArray⟩, .int .u32 (vn : Int), .bool vh, .bool ab, .slice p11 n11 q11, .bool and, .string ⟨ant.toArray⟩]) := h1.trans (HBS.out _ (by rw [HA14.out]; exact Nat.le_refl _))
            refine ⟨hb14, (h2.block _ (heap_lt x12)).trans x12, setRow_heap _ _ _ _ _ _ hzero, attrsAt_below h2 hA10, attrsAt_move (by simp) (fun g hF hl => ?_) hA11⟩
            have hs : (w10.drew.alloc (.cells zero12 34)).heap.size = w10.heap.size + 1 := by simp
            have hw10 : w.heap.size ≤ w10.heap.size := Nat.le_trans hLz.b.size hb10.size
            have hF' : g < w.heap.size ∨ w10.heap.size + 1 ≤ g := by rw [hs] at hF; exact hF
            exact ⟨setRow_other _ _ _ _ (by rw [HA14.out]; omega), hF'⟩
          clear HA14 HBS hzero hb14 hl14 bz hb11' hb11 hA11 bd hA10 x12 hb10
          generalize w11.setRow A14 #[.string ⟨an.toArray⟩, .int .i64 ao, .int .i64 al, .int .i64 ac, .int .i64 vk, .string ⟨vt.toArray⟩, .int .u32 (vn : Int), .bool vh, .bool ab, .slice p11 n11 q11, .bool and, .string ⟨ant.toArray⟩] = w12 at *
          obtain ⟨hb12, y12, y14, a12, a14⟩ := HG.out
          clear HG
          have cSA := sameAttr_of w12 w12 (Below.refl _ _) true an ao al ac ao al ac vk vt vn vh ab and ant p9 n9 q9 p11 n11 q11 (fun _ => ⟨rfl, rfl, rfl⟩) (fun W2 hW2 => (sameAttrs_any (smA_refl true aps) W2 _ _ _ _ (attrsAt_below hW2 a12) (attrsAt_below hW2 a14)).mono fun e w' ⟨h1, h2⟩ => ⟨h1, hW2.trans (h2.mono hW2.size)⟩)
          obtain ⟨⟨g0, g1, g2, g3, g4, g5, g6, g7, g8, g9, g10, g11⟩, fg⟩ := var12 y12
          obtain ⟨⟨m0, m1, m2, m3, m4, m5, m6, m7, m8, m9, m10, m11⟩, fm⟩ := var12 y14
          have hpl : (pre.length : Int) ≤ 1099511627776 := by omega
          have HZ7 : Hid (∀ W', Below Z.heap.size Z W' → Boxed W' A7 3 (.int .i64 (pre.length : Int))) := fun W' hW' => (hW'.block _ hLz.x7.lt).trans hLz.x7
          have HFin : Hid (∀ W', Below Z.heap.size Z W' → Kz (fun b => ((b < Y.heap.size ∧ b ≠ A7) ∨ Y.heap.size ≤ b) ∧ ¬ gy = b) Z (W'.setCell ⟨A7, 0, none⟩ (.int .i64 ((pre.length : Int) + 1))) ∧ Fk A7 Y (W'.setCell ⟨A7, 0, none⟩ (.int .i64 ((pre.length : Int) + 1))) ∧ Boxed (W'.setCell ⟨A7, 0, none⟩ (.int .i64 ((pre.length : Int) + 1))) A7 3 (.int .i64 ((pre ++ [x]).length : Int)) ∧ pre ++ [x] <+: ps) := fun W' hW' => by
            have hsZ := hF.size
            refine ⟨⟨by have := hW'.size; simp [World.setCell]; omega, fun b hb hl => (Below.heap_setCell W' ⟨A7, 0, none⟩ _ b (by show b ≠ A7; omega)).trans (hW'.block b hl)⟩, (hF.below (hW'.mono hsZ)).set _, ?_, hpx⟩
            have := Boxed.set (.int .i64 ((pre.length : Int) + 1)) (HZ7.out W' hW')
            simpa using this
          clear y12 y14 a12 a14
          gi_wp2_with (first | (refine ⟨trivial, ?_⟩; gi_at_call 11; refine (CallsIn.inRound lp (callsIn_wide.2 cSA)).mono ?_; rintro e w13 ⟨rfl, hb13⟩; have hb13' := hb12.trans (hb13.mono hb12.size); have c713 := Boxed.cell (HZ7.out _ hb13'); have f713 := Boxed.frozen (HZ7.out _ hb13')))
          exact HFin.out _ hb13'
      case done2 =>
        intro D2 zs2 Z2 hD2 hs2 hzs2 hI2 hDz2
        subst hAct2
        obtain ⟨hF2, hB72, _⟩ := hI2
        obtain rfl : ps = zs2 := hzs2.symm
        have hL2 := hLY.at hF2 hB72
        have c7 := Boxed.cell hL2.x7
        have c5 := Boxed.cell hL2.x5
        have hH := hHd Z2 hL2.b
        have HD : Hid (Z2.heap[D]? = some (.deferred (some [])) ∧ Z2.heap[D2]? = some (.deferred (some [])) ∧ D ≠ D2 ∧ A4 ≠ D ∧ A4 ≠ D2 ∧ w.heap.size ≤ D ∧ w.heap.size ≤ D2) := by
          have h4 := hLY.ne
          have h5 := hLY.b.size
          refine ⟨(hF2.block D hDs.1 hDs.2).trans hDY, hDz2, by omega, fun e => ?_, by omega, hwD, by omega⟩
          have h6 := hLY.x4
          rw [e] at h6
          have := hDY.symm.trans h6
          cases this
        clear hF2 hB72 hDz2 hDY hLY hD2 hs2
        go_wp2_with (go_at_call 14; refine hH.mono ?_; rintro e w8 ⟨rfl, hb8⟩; have x48 : Boxed w8 A4 4 (.bool false) := (hb8.block _ hL2.x4.lt).trans hL2.x4; have c48 := Boxed.cell x48; have f48 := Boxed.frozen x48)
        obtain ⟨d1, d2, hne, n1, n2, k1, k2⟩ := HD.out
        have hst : ∀ k, k ≠ A4 → (w8.setCell ⟨A4, 0, none⟩ (.bool true)).heap[k]? = w8.heap[k]? := fun k hk => Below.heap_setCell w8 ⟨A4, 0, none⟩ _ k hk
        show LeavesInM Fence.wide 3 _ _ _ _ _ _ _
        exact leave2 (p := 4) rfl rfl (Boxed.set (.bool true) x48) ((hst _ n2.symm).trans ((hb8.block _ (heap_lt d2)).trans d2)) ((hst _ n1.symm).trans ((hb8.block _ (heap_lt d1)).trans d1)) hne ((hL2.b.trans (hb8.mono hL2.b.size)).setCell (p := ⟨A4, 0, none⟩) hL2.lt.2.2.1 _) k1 k2
      case stop2 =>
        intro D2 c pre Z hD2 hs2 hsp h hd
        exact h.elim
    · have hkb : ((pre.length : Int) != ps.length) = true := by simp; omega
      gi_wp2
      go_wp2
      clear c7 f7 c5 c3 hkb hkl
      generalize Z.setCell ⟨A7, 0, none⟩ (.int .i64 0) = Y at *
      refine (wpIn_wide (n := 3)).1 ?_
      generalize hAct2 : ({ tmps := _, defers := _ } : Act) = a2
      have hg2 : a2.eval (.tmp 68) = .func (.func 33) #[] #[.pointer (some ⟨Bt, 0, none⟩)] := by rw [← hAct2]; rfl
      obtain ⟨hLY, hDY, hwD, hlY, hDs⟩ := HY.out
      refine wpIn_range_own (α := List Int) (β := Yv) (F := Fence.wide) (n := 3) rfl (by omega) (gf := 33) (lb := #[.pointer (some ⟨Bt, 0, none⟩)]) hg2 trivial (enters_of Tryz.func33 (by kernel_rfl) rfl) (enc := yE) (H := Hd (Y.heap.size + 2) ps) (Mp := fun b => b < Y.heap.size ∧ b ≠ A7) (fun b h => h.1) (Bk := fun y b => y.1 = b) (S := fun xs => xs = ps) (Sp := fun p => p <+: ps)
        (fun W1 hb hs => by have := lw_seq tv tc tnd tnt oa ocap N qs HQL.out hrow hA hN hb2 (by rw [HPS.out] at hLY; exact hLY) (3 - 1) W1 hb hs; rw [HPS.out]; exact this) (fun pre x y A h b e => by rw [← e]; exact h.ge) (fun pre x y A o h => ⟨h.1, h.2.1, own_keepR h.2.2 (fun g e => World.putObj_heap_other (by have := h.ge; cases e; show y.1 ≠ _; omega))⟩) rfl
        (fun pre Z => Fk A7 Y Z ∧ Boxed Z A7 3 (.int .i64 (pre.length : Int)) ∧ pre <+: ps)
        (fun c pre Z => False)
        (fun s A B h hb => ⟨h.1.below hb, (hb.block A7 hlY).trans h.2.1, h.2.2⟩)
        (fun c s A B h hb => h)
        ⟨Fk.refl _ _, hLY.x7, List.nil_prefix⟩
        (fun y => { tmps := (a2.tmps.setIfInBounds 69 (yE y)).setIfInBounds 11 (yE y), defers := [] }) ?assign2 ?body2 ?done2 ?stop2
      case assign2 =>
        intro lp y Z K hK
        subst hAct2
        simp only [List.setIfInBounds_toArray, List.set_cons_succ, List.set_cons_zero] at hK
        gi_wp2
        exact hK
      case body2 =>
        rintro lp pre x ⟨gy, ny, cy⟩ Z hsz ⟨hF, hB7, hpre⟩ hH
        obtain ⟨hpx, hny, hrw⟩ := hH
        dsimp only at hny
        subst hny
        unfold yE at hrw ⊢
        dsimp only at hrw ⊢
        have hLz := hLY.at hF hB7
        subst hAct2
        simp only [List.setIfInBounds_toArray, List.set_cons_succ, List.set_cons_zero]
        have hlt : pre.length < ps.length := by obtain ⟨t, ht⟩ := hpx; rw [← ht]; simp
        have hpi : ps[pre.length]? = some x := by obtain ⟨t, ht⟩ := hpx; rw [← ht]; simp
        obtain ⟨us, hu1, hu2⟩ := hLz.row
        obtain ⟨gw, hva, hgw⟩ : ∃ gw, va = some ⟨gw, 0, none⟩ ∧ us.length = ps.length := by
          obtain ⟨hl', ⟨h3, h4⟩ | ⟨g, cap, cur, h3, _⟩⟩ := hu1
          · omega
          · cases h3; exact ⟨g, rfl, by omega⟩
        subst hva
        obtain ⟨u, hui⟩ : ∃ u, us[pre.length]? = some u := ⟨us[pre.length]'(by omega), List.getElem?_eq_getElem _⟩
        obtain ⟨gu, cu, rfl, hu3, hu4, hu5, hu6, hu7⟩ := hu2 _ _ _ hui hpi
        have cwk := hu1.cells (g := gw) rfl _ _ hui
        rw [Lib.add_plain, Nat.zero_add] at cwk
        have c7 := Boxed.cell hLz.x7
        have f7 := Boxed.frozen hLz.x7
        have c5 := Boxed.cell hLz.x5
        have hltI : ¬ (ps.length : Int) ≤ (pre.length : Int) := by omega
        have hltI2 : (pre.length : Int) < (ps.length : Int) := by omega
        have hlt0 : ¬ (pre.length : Int) < 0 := by omega
        have hgy := own_ltR hrw (g := gy) rfl
        have hxm : x ∈ ps := List.mem_of_getElem? hpi
        have hxl : x.length ≤ 1099511627776 := by
          rw [HPS.out] at hxm
          have := path_len hxm
          omega
        have cSm := samePath_row Z gy 0 cy gu 0 cu x x.length rfl hgy.2.1 hu6 hxl (fun k i hk => by have := hrw.cells (g := gy) rfl k (.int .i64 i) (by rw [iC, List.getElem?_map, hk]; rfl); rw [Lib.add_plain] at this; simpa using this) (fun k i hk => by rw [Nat.zero_add]; exact hu7 k i hk)
        gi_upto_region 27 with (first | (refine ⟨trivial, ?_⟩; gi_at_call 17; refine (CallsIn.inRound lp (callsIn_wide.2 cSm)).mono ?_; rintro e w8 ⟨rfl, hb8⟩))
        obtain ⟨⟨an, ao, al, ac, ⟨vk, vt, vn, vh⟩, ab, aps, and, ant⟩, ca1, ca2⟩ := hAt x (by rw [← HPS.out]; exact hxm)
        have hbw8 := hLz.b.trans (hb8.mono hLz.b.size)
        have hP8 : PathAt w8 (.slice (some ⟨gy, 0, none⟩) x.length cy) x := by
          refine .row (Nat.lt_of_lt_of_le hgy.2.1 hb8.size) (fun k i hk => ?_) ?_ ?_
          · rw [cell_below hb8 _ _ hgy.2.1]
            have := hrw.cells (g := gy) rfl k (.int .i64 i) (by rw [iC, List.getElem?_map, hk]; rfl)
            rw [Lib.add_plain] at this
            exact this
          · obtain ⟨_, ⟨h3, _⟩ | ⟨g, cap, cur, h3, _, _, h5, _⟩⟩ := hrw
            · cases h3
            · cases h3; exact h5
          · obtain ⟨_, ⟨h3, _⟩ | ⟨g, cap, cur, h3, _, _, _, h5, _⟩⟩ := hrw
            · cases h3
            · cases h3; exact h5
        have cA1 := ca1 w8 _ hbw8 hP8
        obtain ⟨⟨k0, k1, k2, k3, k4⟩, fk⟩ := var5 ((hb8.block _ (heap_lt hLz.x2)).trans hLz.x2)
        clear c7 f7 c5 cSm cwk
        gi_upto_region 28 with (first | (refine ⟨trivial, ?_⟩; gi_at_call 9; refine (CallsIn.inRound lp (callsIn_wide.2 cA1)).mono ?_; rintro e w9 ⟨pv9, rfl, hA9, hb9⟩; obtain ⟨p9, n9, q9, rfl⟩ := attrsAt_shape hA9; unfold atC; have hst := run_storeCells_new (P := Tryz.prog) w9 34 zero12 #[.string ⟨an.toArray⟩, .int .i64 ao, .int .i64 al, .int .i64 ac, .int .i64 vk, .string ⟨vt.toArray⟩, .int .u32 (vn : Int), .bool vh, .bool ab, .slice p9 n9 q9, .bool and, .string ⟨ant.toArray⟩] (by kernel_rfl) rfl (by simp [Value.oneCell']); unfold zero12 at hst))
        obtain ⟨A12, hA12⟩ : ∃ A, A = w9.heap.size := ⟨_, rfl⟩
        have hb9' := hb8.trans (hb9.mono hb8.size)
        have H10 : Hid (Below Z.heap.size Z (w9.alloc (.cells #[.string ⟨an.toArray⟩, .int .i64 ao, .int .i64 al, .int .i64 ac, .int .i64 vk, .string ⟨vt.toArray⟩, .int .u32 (vn : Int), .bool vh, .bool ab, .slice p9 n9 q9, .bool and, .string ⟨ant.toArray⟩] 34)) ∧ (w9.alloc (.cells #[.string ⟨an.toArray⟩, .int .i64 ao, .int .i64 al, .int .i64 ac, .int .i64 vk, .string ⟨vt.toArray⟩, .int .u32 (vn : Int), .bool vh, .bool ab, .slice p9 n9 q9, .bool and, .string ⟨ant.toArray⟩] 34)).heap[A12]? = some (.cells #[.string ⟨an.toArray⟩, .int .i64 ao, .int .i64 al, .int .i64 ac, .int .i64 vk, .string ⟨vt.toArray⟩, .int .u32 (vn : Int), .bool vh, .bool ab, .slice p9 n9 q9, .bool and, .string ⟨ant.toArray⟩] 34 (0, 0)) ∧ AttrsAt (w9.alloc (.cells #[.string ⟨an.toArray⟩, .int .i64 ao, .int .i64 al, .int .i64 ac, .int .i64 vk, .string ⟨vt.toArray⟩, .int .u32 (vn : Int), .bool vh, .bool ab, .slice p9 n9 q9, .bool and, .string ⟨ant.toArray⟩] 34)) (fun g => g < w.heap.size ∨ w8.heap.size ≤ g) (.slice p9 n9 q9) aps ∧ Z.heap.size ≤ A12) := ⟨hb9'.alloc hb9'.size _, by rw [hA12]; exact World.alloc_heap_new _ _, attrsAt_below ((Below.refl _ _).alloc (Nat.le_refl _) _) hA9, by rw [hA12]; exact hb9'.size⟩
        rw [← hA12]
        clear hst k0 k1 k2 k3 k4 fk hA9 hb9 hA12 hP8 cA1 hbw8 hb9'
        generalize w9.alloc (.cells #[.string ⟨an.toArray⟩, .int .i64 ao, .int .i64 al, .int .i64 ac, .int .i64 vk, .string ⟨vt.toArray⟩, .int .u32 (vn : Int), .bool vh, .bool ab, .slice p9 n9 q9, .bool and, .string ⟨ant.toArray⟩] 34) = w10 at *
        obtain ⟨hb10, x12, hA10, hl12⟩ := H10.out
        clear H10
        have KS : Hid (∀ W', Below Z.heap.size Z W' → (fun w' => w'.cell? ⟨w.heap.size, 0, none⟩ = some (.string ⟨tv.toArray⟩) ∧ w'.cell? ⟨w.heap.size, 1, none⟩ = some (.string ⟨tc.toArray⟩) ∧ w'.cell? ⟨w.heap.size, 2, none⟩ = some (.slice oa N ocap) ∧ w'.cell? ⟨w.heap.size, 3, none⟩ = some (.bool tnd) ∧ w'.cell? ⟨w.heap.size, 4, none⟩ = some (.string ⟨tnt.toArray⟩) ∧ w'.cell? ⟨A5, 0, none⟩ = some (.slice (some ⟨gw, 0, none⟩) ps.length vc) ∧ w'.cell? ⟨A7, 0, none⟩ = some (.int .i64 (pre.length : Int)) ∧ w'.cell? ⟨gw, pre.length, none⟩ = some (.slice (some ⟨gu, 0, none⟩) x.length cu)) W') := fun W' hW' => by
          obtain ⟨⟨k0, k1, k2, k3, k4⟩, fk⟩ := var5 ((hW'.block _ (heap_lt hLz.x2)).trans hLz.x2)
          exact ⟨k0, k1, k2, k3, k4, Boxed.cell ((hW'.block _ hLz.x5.lt).trans hLz.x5), Boxed.cell ((hW'.block _ hLz.x7.lt).trans hLz.x7), by rw [cell_below hW' _ _ (own_ltR hu1 (g := gw) rfl).2.1]; have := hu1.cells (g := gw) rfl _ _ hui; rw [Lib.add_plain, Nat.zero_add] at this; exact this⟩
        have hP10 : ∀ W', Below Z.heap.size Z W' → PathAt W' (.slice (some ⟨gu, 0, none⟩) x.length cu) x := fun W' hW' => .row (Nat.lt_of_lt_of_le hu6 hW'.size) (fun k i hk => by rw [cell_below hW' _ _ hu6, Nat.zero_add]; exact hu7 k i hk) hu3 hu4
        have HA2 : Hid (∀ W', Below Z.heap.size Z W' → Calls Tryz.prog 10 #[.agg #[.string ⟨tv.toArray⟩, .string ⟨tc.toArray⟩, .slice oa N ocap, .bool tnd, .string ⟨tnt.toArray⟩], .slice (some ⟨gu, 0, none⟩) x.length cu] W' fun e w' => AttrRes w.heap.size (.mk an ao al ac ⟨vk, vt, vn, vh⟩ ab aps and ant) 0 W' e w') := fun W' hW' => ca2 W' _ (hLz.b.trans (hW'.mono hLz.b.size)) (hP10 W' hW')
        clear hP10 ca1 ca2 hu3 hu4 hu5 hu6 hu7
        have bd : Below Z.heap.size Z w10.drew := hb10.drew
        refine only_normal (fun K hK => ?_)
        refine region_round (by kernel_rfl) (by kernel_rfl) (not_lets_onlyN _) (S := (fun w' => w'.cell? ⟨w.heap.size, 0, none⟩ = some (.string ⟨tv.toArray⟩) ∧ w'.cell? ⟨w.heap.size, 1, none⟩ = some (.string ⟨tc.toArray⟩) ∧ w'.cell? ⟨w.heap.size, 2, none⟩ = some (.slice oa N ocap) ∧ w'.cell? ⟨w.heap.size, 3, none⟩ = some (.bool tnd) ∧ w'.cell? ⟨w.heap.size, 4, none⟩ = some (.string ⟨tnt.toArray⟩) ∧ w'.cell? ⟨A5, 0, none⟩ = some (.slice (some ⟨gw, 0, none⟩) ps.length vc) ∧ w'.cell? ⟨A7, 0, none⟩ = some (.int .i64 (pre.length : Int)) ∧ w'.cell? ⟨gw, pre.length, none⟩ = some (.slice (some ⟨gu, 0, none⟩) x.length cu))) (KS.out _ bd) (fun hHeld => ?_)
        refine takeD 0 90 (.agg #[.string ⟨tv.toArray⟩, .string ⟨tc.toArray⟩, .slice oa N ocap, .bool tnd, .string ⟨tnt.toArray⟩]) hHeld rfl rfl (by kernel_rfl) (by kernel_rfl) (by kernel_rfl) (Or.inl ⟨by rfl, fun w' hSw => by obtain ⟨q0, q1, q2, q3, q4, q5, q6, q7⟩ := hSw; go_simp⟩) ?_
        try simp only [Act.put, List.setIfInBounds_toArray, List.set_cons_zero, List.set_cons_succ]
        refine takeD 1 91 (.slice (some ⟨gw, 0, none⟩) ps.length vc) hHeld rfl rfl (by kernel_rfl) (by kernel_rfl) (by kernel_rfl) (Or.inl ⟨by rfl, fun w' hSw => by obtain ⟨q0, q1, q2, q3, q4, q5, q6, q7⟩ := hSw; go_simp⟩) ?_
        try simp only [Act.put, List.setIfInBounds_toArray, List.set_cons_zero, List.set_cons_succ]
        refine takeD 2 92 (.int .i64 (pre.length : Int)) hHeld rfl rfl (by kernel_rfl) (by kernel_rfl) (by kernel_rfl) (Or.inl ⟨by rfl, fun w' hSw => by obtain ⟨q0, q1, q2, q3, q4, q5, q6, q7⟩ := hSw; go_simp⟩) ?_
        try simp only [Act.put, List.setIfInBounds_toArray, List.set_cons_zero, List.set_cons_succ]
        refine takeD 3 93 (.pointer (some ⟨gw, pre.length, none⟩)) hHeld rfl rfl (by kernel_rfl) (by kernel_rfl) (by kernel_rfl) (Or.inl ⟨by rfl, fun w' hSw => by obtain ⟨q0, q1, q2, q3, q4, q5, q6, q7⟩ := hSw; go_simp⟩) ?_
        try simp only [Act.put, List.setIfInBounds_toArray, List.set_cons_zero, List.set_cons_succ]
        refine takeD 4 94 (.slice (some ⟨gu, 0, none⟩) x.length cu) hHeld rfl rfl (by kernel_rfl) (by kernel_rfl) (by kernel_rfl) (Or.inl ⟨by rfl, fun w' hSw => by obtain ⟨q0, q1, q2, q3, q4, q5, q6, q7⟩ := hSw; go_simp⟩) ?_
        try simp only [Act.put, List.setIfInBounds_toArray, List.set_cons_zero, List.set_cons_succ]
        refine wpAnyH_ready (rs := [5, 9]) (by kernel_rfl) (by simp) ?_
        refine AllReadyH.cons rfl (fun K2 hK2 => ?_) (AllReadyH.cons rfl (fun K2 hK2 => ?_) AllReadyH.nil)
        · go_simp
          go_wp2_with (go_at_call 10; refine (HA2.out _ bd).mono ?_; rintro e w11 ⟨pv11, rfl, hA11, hb11⟩; obtain ⟨p11, n11, q11, rfl⟩ := attrsAt_shape hA11; unfold atC)
          have hb11' : Below Z.heap.size Z w11 := bd.trans (hb11.mono bd.size)
          refine hK2.out _ _ (KS.out _ hb11') (fun hHeld => ?_)
          clear hK2 K2
          refine takeD 6 89 (.tuple #[.agg #[.string ⟨an.toArray⟩, .int .i64 ao, .int .i64 al, .int .i64 ac, .int .i64 vk, .string ⟨vt.toArray⟩, .int .u32 (vn : Int), .bool vh, .bool ab, .slice p11 n11 q11, .bool and, .string ⟨ant.toArray⟩], .int .i64 0]) hHeld rfl rfl (by kernel_rfl) (by kernel_rfl) (by kernel_rfl) (Or.inl ⟨by rfl, fun w' hSw => by obtain ⟨q0, q1, q2, q3, q4, q5, q6, q7⟩ := hSw; go_simp⟩) ?_
          try simp only [Act.put, List.setIfInBounds_toArray, List.set_cons_zero, List.set_cons_succ]
          refine takeD 7 96 (.agg #[.string ⟨an.toArray⟩, .int .i64 ao, .int .i64 al, .int .i64 ac, .int .i64 vk, .string ⟨vt.toArray⟩, .int .u32 (vn : Int), .bool vh, .bool ab, .slice p11 n11 q11, .bool and, .string ⟨ant.toArray⟩]) hHeld rfl rfl (by kernel_rfl) (by kernel_rfl) (by kernel_rfl) (Or.inl ⟨by rfl, fun w' hSw => by obtain ⟨q0, q1, q2, q3, q4, q5, q6, q7⟩ := hSw; go_simp⟩) ?_
          try simp only [Act.put, List.setIfInBounds_toArray, List.set_cons_zero, List.set_cons_succ]
          refine takeD 8 97 (.int .i64 0) hHeld rfl rfl (by kernel_rfl) (by kernel_rfl) (by kernel_rfl) (Or.inl ⟨by rfl, fun w' hSw => by obtain ⟨q0, q1, q2, q3, q4, q5, q6, q7⟩ := hSw; go_simp⟩) ?_
          try simp only [Act.put, List.setIfInBounds_toArray, List.set_cons_zero, List.set_cons_succ]
          refine wpAnyH_ready (rs := [9]) (by kernel_rfl) (by simp) ?_
          refine AllReadyH.cons rfl (fun K3 hK3 => ?_) AllReadyH.nil
          go_simp
          refine hK3.out _ _ (KS.out _ (hb11'.alloc hb11'.size _)) (fun hHeld => ?_)
          clear hK3 K3
          have hst11 := run_storeCells_new (P := Tryz.prog) w11 34 zero12 #[.string ⟨an.toArray⟩, .int .i64 ao, .int .i64 al, .int .i64 ac, .int .i64 vk, .string ⟨vt.toArray⟩, .int .u32 (vn : Int), .bool vh, .bool ab, .slice p11 n11 q11, .bool and, .string ⟨ant.toArray⟩] (by kernel_rfl) rfl (by simp [Value.oneCell'])
          unfold zero12 at hst11
          refine wpAnyH_ready (rs := [10]) (by kernel_rfl) (by simp) ?_
          refine AllReadyH.cons rfl (fun K3 hK3 => ?_) AllReadyH.nil
          go_simp
          refine hK3.out _ _ (KS.out _ (hb11'.alloc hb11'.size _)) (fun hHeld => ?_)
          clear hK3 K3 hst11
          refine takeD 11 15 (.int .i64 0) hHeld rfl rfl (by kernel_rfl) (by kernel_rfl) (by kernel_rfl) (Or.inl ⟨by rfl, fun w' hSw => by obtain ⟨q0, q1, q2, q3, q4, q5, q6, q7⟩ := hSw; go_simp⟩) ?_
          try simp only [Act.put, List.setIfInBounds_toArray, List.set_cons_zero, List.set_cons_succ]
          refine wpAnyH_done (by kernel_rfl) ?_ _
          refine hK.out _ _ ?_
          clear hK K hHeld
          have HG : Hid (Below Z.heap.size Z (w11.alloc (.cells #[.string ⟨an.toArray⟩, .int .i64 ao, .int .i64 al, .int .i64 ac, .int .i64 vk, .string ⟨vt.toArray⟩, .int .u32 (vn : Int), .bool vh, .bool ab, .slice p11 n11 q11, .bool and, .string ⟨ant.toArray⟩] 34)) ∧ (w11.alloc (.cells #[.string ⟨an.toArray⟩, .int .i64 ao, .int .i64 al, .int .i64 ac, .int .i64 vk, .string ⟨vt.toArray⟩, .int .u32 (vn : Int), .bool vh, .bool ab, .slice p11 n11 q11, .bool and, .string ⟨ant.toArray⟩] 34)).heap[A12]? = some (.cells #[.string ⟨an.toArray⟩, .int .i64 ao, .int .i64 al, .int .i64 ac, .int .i64 vk, .string ⟨vt.toArray⟩, .int .u32 (vn : Int), .bool vh, .bool ab, .slice p9 n9 q9, .bool and, .string ⟨ant.toArray⟩] 34 (0, 0)) ∧ (w11.alloc (.cells #[.string ⟨an.toArray⟩, .int .i64 ao, .int .i64 al, .int .i64 ac, .int .i64 vk, .string ⟨vt.toArray⟩, .int .u32 (vn : Int), .bool vh, .bool ab, .slice p11 n11 q11, .bool and, .string ⟨ant.toArray⟩] 34)).heap[w11.heap.size]? = some (.cells #[.string ⟨an.toArray⟩, .int .i64 ao, .int .i64 al, .int .i64 ac, .int .i64 vk, .string ⟨vt.toArray⟩, .int .u32 (vn : Int), .bool vh, .bool ab, .slice p11 n11 q11, .bool and, .string ⟨ant.toArray⟩] 34 (0, 0)) ∧ AttrsAt (w11.alloc (.cells #[.string ⟨an.toArray⟩, .int .i64 ao, .int .i64 al, .int .i64 ac, .int .i64 vk, .string ⟨vt.toArray⟩, .int .u32 (vn : Int), .bool vh, .bool ab, .slice p11 n11 q11, .bool and, .string ⟨ant.toArray⟩] 34)) (fun g => g < w.heap.size ∨ w8.heap.size ≤ g) (.slice p9 n9 q9) aps ∧ AttrsAt (w11.alloc (.cells #[.string ⟨an.toArray⟩, .int .i64 ao, .int .i64 al, .int .i64 ac, .int .i64 vk, .string ⟨vt.toArray⟩, .int .u32 (vn : Int), .bool vh, .bool ab, .slice p11 n11 q11, .bool and, .string ⟨ant.toArray⟩] 34)) (fun g => g < w.heap.size ∨ w10.heap.size ≤ g) (.slice p11 n11 q11) aps) := by
            have h1 : Below w10.heap.size w10 w11 := (Below.refl w10.heap.size w10).drew.trans hb11
            have h2 : Below w10.heap.size w10 (w11.alloc (.cells #[.string ⟨an.toArray⟩, .int .i64 ao, .int .i64 al, .int .i64 ac, .int .i64 vk, .string ⟨vt.toArray⟩, .int .u32 (vn : Int), .bool vh, .bool ab, .slice p11 n11 q11, .bool and, .string ⟨ant.toArray⟩] 34)) := h1.alloc h1.size _
            exact ⟨hb11'.alloc hb11'.size _, (h2.block _ (heap_lt x12)).trans x12, World.alloc_heap_new _ _, attrsAt_below h2 hA10, attrsAt_below ((Below.refl _ _).alloc (Nat.le_refl _) _) hA11⟩
          obtain ⟨A14, hA14⟩ : ∃ A, A = w11.heap.size := ⟨_, rfl⟩
          rw [← hA14] at HG ⊢
          clear hA14 hb11' hb11 hA11 bd hA10 x12 hb10
          generalize w11.alloc (.cells #[.string ⟨an.toArray⟩, .int .i64 ao, .int .i64 al, .int .i64 ac, .int .i64 vk, .string ⟨vt.toArray⟩, .int .u32 (vn : Int), .bool vh, .bool ab, .slice p11 n11 q11, .bool and, .string ⟨ant.toArray⟩] 34) = w12 at *
          obtain ⟨hb12, y12, y14, a12, a14⟩ := HG.out
          clear HG
          have cSA := sameAttr_of w12 w12 (Below.refl _ _) true an ao al ac ao al ac vk vt vn vh ab and ant p9 n9 q9 p11 n11 q11 (fun _ => ⟨rfl, rfl, rfl⟩) (fun W2 hW2 => (sameAttrs_any (smA_refl true aps) W2 _ _ _ _ (attrsAt_below hW2 a12) (attrsAt_below hW2 a14)).mono fun e w' ⟨h1, h2⟩ => ⟨h1, hW2.trans (h2.mono hW2.size)⟩)
          obtain ⟨⟨g0, g1, g2, g3, g4, g5, g6, g7, g8, g9, g10, g11⟩, fg⟩ := var12 y12
          obtain ⟨⟨m0, m1, m2, m3, m4, m5, m6, m7, m8, m9, m10, m11⟩, fm⟩ := var12 y14
          have hpl : (pre.length : Int) ≤ 1099511627776 := by omega
          have HZ7 : Hid (∀ W', Below Z.heap.size Z W' → Boxed W' A7 3 (.int .i64 (pre.length : Int))) := fun W' hW' => (hW'.block _ hLz.x7.lt).trans hLz.x7
          have HFin : Hid (∀ W', Below Z.heap.size Z W' → Kz (fun b => ((b < Y.heap.size ∧ b ≠ A7) ∨ Y.heap.size ≤ b) ∧ ¬ gy = b) Z (W'.setCell ⟨A7, 0, none⟩ (.int .i64 ((pre.length : Int) + 1))) ∧ Fk A7 Y (W'.setCell ⟨A7, 0, none⟩ (.int .i64 ((pre.length : Int) + 1))) ∧ Boxed (W'.setCell ⟨A7, 0, none⟩ (.int .i64 ((pre.length : Int) + 1))) A7 3 (.int .i64 ((pre ++ [x]).length : Int)) ∧ pre ++ [x] <+: ps) := fun W' hW' => by
            have hsZ := hF.size
            refine ⟨⟨by have := hW'.size; simp [World.setCell]; omega, fun b hb hl => (Below.heap_setCell W' ⟨A7, 0, none⟩ _ b (by show b ≠ A7; omega)).trans (hW'.block b hl)⟩, (hF.below (hW'.mono hsZ)).set _, ?_, hpx⟩
            have := Boxed.set (.int .i64 ((pre.length : Int) + 1)) (HZ7.out W' hW')
            simpa using this
          clear y12 y14 a12 a14
          gi_wp2_with (first | (refine ⟨trivial, ?_⟩; gi_at_call 11; refine (CallsIn.inRound lp (callsIn_wide.2 cSA)).mono ?_; rintro e w13 ⟨rfl, hb13⟩; have hb13' := hb12.trans (hb13.mono hb12.size); have c713 := Boxed.cell (HZ7.out _ hb13'); have f713 := Boxed.frozen (HZ7.out _ hb13')))
          exact HFin.out _ hb13'
        · go_simp
          have bz := bd.alloc bd.size (.cells zero12 34)
          refine hK2.out _ _ (KS.out _ bz) (fun hHeld => ?_)
          clear hK2 K2
          refine wpAnyH_ready (rs := [5]) (by kernel_rfl) (by simp) ?_
          refine AllReadyH.cons rfl (fun K2 hK2 => ?_) AllReadyH.nil
          go_simp
          go_wp2_with (go_at_call 10; refine (HA2.out _ bz).mono ?_; rintro e w11 ⟨pv11, rfl, hA11, hb11⟩; obtain ⟨p11, n11, q11, rfl⟩ := attrsAt_shape hA11; unfold atC)
          have hb11' : Below Z.heap.size Z w11 := bz.trans (hb11.mono bz.size)
          refine hK2.out _ _ (KS.out _ hb11') (fun hHeld => ?_)
          clear hK2 K2
          obtain ⟨A14, hA14⟩ : ∃ A, A = w10.heap.size := ⟨_, rfl⟩
          have hzero : w11.heap[A14]? = some (.cells zero12 34 (0, 0)) := by
            have h1 : (w10.drew.alloc (.cells zero12 34)).heap[A14]? = some (.cells zero12 34 (0, 0)) := by rw [hA14]; exact World.alloc_heap_new w10.drew _
            exact (hb11.block _ (heap_lt h1)).trans h1
          have hst11 : (storeCells ⟨A14, 0, none⟩ [.string ⟨an.toArray⟩, .int .i64 ao, .int .i64 al, .int .i64 ac, .int .i64 vk, .string ⟨vt.toArray⟩, .int .u32 (vn : Int), .bool vh, .bool ab, .slice p11 n11 q11, .bool and, .string ⟨ant.toArray⟩] 0).run Tryz.prog w11 = .ok () (w11.setRow A14 #[.string ⟨an.toArray⟩, .int .i64 ao, .int .i64 al, .int .i64 ac, .int .i64 vk, .string ⟨vt.toArray⟩, .int .u32 (vn : Int), .bool vh, .bool ab, .slice p11 n11 q11, .bool and, .string ⟨ant.toArray⟩]) := run_storeCells_at Tryz.prog A14 0 34 #[.string ⟨an.toArray⟩, .int .i64 ao, .int .i64 al, .int .i64 ac, .int .i64 vk, .string ⟨vt.toArray⟩, .int .u32 (vn : Int), .bool vh, .bool ab, .slice p11 n11 q11, .bool and, .string ⟨ant.toArray⟩].toList 0 zero12 w11 hzero (by simp [zero12]) (by intro u hu; simp at hu; rcases hu with rfl | rfl | rfl | rfl | rfl | rfl | rfl | rfl | rfl | rfl | rfl | rfl <;> rfl)
          have HBS : Hid (∀ B, B ≤ A14 → Below B w11 (w11.setRow A14 #[.string ⟨an.toArray⟩, .int .i64 ao, .int .i64 al, .int .i64 ac, .int .i64 vk, .string ⟨vt.toArray⟩, .int .u32 (vn : Int), .bool vh, .bool ab, .slice p11 n11 q11, .bool and, .string ⟨ant.toArray⟩])) := fun B hB => below_setRow (Below.refl _ _) hB _
          rw [← hA14]
          have HA14 : Hid (A14 = w10.heap.size) := hA14
          clear hA14
          refine takeD 6 89 (.tuple #[.agg #[.string ⟨an.toArray⟩, .int .i64 ao, .int .i64 al, .int .i64 ac, .int .i64 vk, .string ⟨vt.toArray⟩, .int .u32 (vn : Int), .bool vh, .bool ab, .slice p11 n11 q11, .bool and, .string ⟨ant.toArray⟩], .int .i64 0]) hHeld rfl rfl (by kernel_rfl) (by kernel_rfl) (by kernel_rfl) (Or.inl ⟨by rfl, fun w' hSw => by obtain ⟨q0, q1, q2, q3, q4, q5, q6, q7⟩ := hSw; go_simp⟩) ?_
          try simp only [Act.put, List.setIfInBounds_toArray, List.set_cons_zero, List.set_cons_succ]
          refine takeD 7 96 (.agg #[.string ⟨an.toArray⟩, .int .i64 ao, .int .i64 al, .int .i64 ac, .int .i64 vk, .string ⟨vt.toArray⟩, .int .u32 (vn : Int), .bool vh, .bool ab, .slice p11 n11 q11, .bool and, .string ⟨ant.toArray⟩]) hHeld rfl rfl (by kernel_rfl) (by kernel_rfl) (by kernel_rfl) (Or.inl ⟨by rfl, fun w' hSw => by obtain ⟨q0, q1, q2, q3, q4, q5, q6, q7⟩ := hSw; go_simp⟩) ?_
          try simp only [Act.put, List.setIfInBounds_toArray, List.set_cons_zero, List.set_cons_succ]
          refine takeD 8 97 (.int .i64 0) hHeld rfl rfl (by kernel_rfl) (by kernel_rfl) (by kernel_rfl) (Or.inl ⟨by rfl, fun w' hSw => by obtain ⟨q0, q1, q2, q3, q4, q5, q6, q7⟩ := hSw; go_simp⟩) ?_
          try simp only [Act.put, List.setIfInBounds_toArray, List.set_cons_zero, List.set_cons_succ]
          have hthere : w11.there A14 0 12 := fun j hj => by
            have hj' : j < 12 := hj
            constructor
            · simp [World.cell?, hzero, zero12]; omega
            · simp [World.frozen?, hzero]
          have hsc : w11.setCells A14 0 [.string ⟨an.toArray⟩, .int .i64 ao, .int .i64 al, .int .i64 ac, .int .i64 vk, .string ⟨vt.toArray⟩, .int .u32 (vn : Int), .bool vh, .bool ab, .slice p11 n11 q11, .bool and, .string ⟨ant.toArray⟩] = w11.setRow A14 #[.string ⟨an.toArray⟩, .int .i64 ao, .int .i64 al, .int .i64 ac, .int .i64 vk, .string ⟨vt.toArray⟩, .int .u32 (vn : Int), .bool vh, .bool ab, .slice p11 n11 q11, .bool and, .string ⟨ant.toArray⟩] := by
            have e1 := run_storeVar_mid (P := Tryz.prog) w11 A14 0 34 #[.string ⟨an.toArray⟩, .int .i64 ao, .int .i64 al, .int .i64 ac, .int .i64 vk, .string ⟨vt.toArray⟩, .int .u32 (vn : Int), .bool vh, .bool ab, .slice p11 n11 q11, .bool and, .string ⟨ant.toArray⟩] hthere (by kernel_rfl) (by simp [Value.oneCell'])
            have e2 := run_storeCells_cells (P := Tryz.prog) A14 0 [.string ⟨an.toArray⟩, .int .i64 ao, .int .i64 al, .int .i64 ac, .int .i64 vk, .string ⟨vt.toArray⟩, .int .u32 (vn : Int), .bool vh, .bool ab, .slice p11 n11 q11, .bool and, .string ⟨ant.toArray⟩] 0 w11 (fun j hj => by simpa using (hthere j hj).1) (fun j hj => by simpa using (hthere j hj).2) (by intro u hu; simp at hu; rcases hu with rfl | rfl | rfl | rfl | rfl | rfl | rfl | rfl | rfl | rfl | rfl | rfl <;> rfl)
            have e3 := e2.symm.trans hst11
            exact (Result.ok.inj e3).2
          refine wpAnyH_ready (rs := [10]) (by kernel_rfl) (by simp) ?_
          refine AllReadyH.cons rfl (fun K3 hK3 => ?_) AllReadyH.nil
          rw [if_pos (by rfl)]
          refine wp_store_mid 34 (.tmp 14) (.tmp 96) rfl A14 0 #[.string ⟨an.toArray⟩, .int .i64 ao, .int .i64 al, .int .i64 ac, .int .i64 vk, .string ⟨vt.toArray⟩, .int .u32 (vn : Int), .bool vh, .bool ab, .slice p11 n11 q11, .bool and, .string ⟨ant.toArray⟩] rfl rfl hthere (by kernel_rfl) (by simp [Value.oneCell']) ?_
          rw [hsc]
          simp only [Act.put]
          have hl14 : Z.heap.size ≤ A14 := by rw [HA14.out]; exact bd.size
          have hb14 : Below Z.heap.size Z (w11.setRow A14 #[.string ⟨an.toArray⟩, .int .i64 ao, .int .i64 al, .int .i64 ac, .int .i64 vk, .string ⟨vt.toArray⟩, .int .u32 (vn : Int), .bool vh, .bool ab, .slice p11 n11 q11, .bool and, .string ⟨ant.toArray⟩]) := hb11'.trans (HBS.out _ hl14)
          refine hK3.out _ _ (KS.out _ hb14) (fun hHeld => ?_)
          clear hK3 K3 hst11 hsc hthere
          refine takeD 11 15 (.int .i64 0) hHeld rfl rfl (by kernel_rfl) (by kernel_rfl) (by kernel_rfl) (Or.inl ⟨by rfl, fun w' hSw => by obtain ⟨q0, q1, q2, q3, q4, q5, q6, q7⟩ := hSw; go_simp⟩) ?_
          try simp only [Act.put, List.setIfInBounds_toArray, List.set_cons_zero, List.set_cons_succ]
          refine wpAnyH_done (by kernel_rfl) ?_ _
          refine hK.out _ _ ?_
          clear hK K hHeld
          have HG : Hid (Below Z.heap.size Z (w11.setRow A14 #[.string ⟨an.toArray⟩, .int .i64 ao, .int .i64 al, .int .i64 ac, .int .i64 vk, .string ⟨vt.toArray⟩, .int .u32 (vn : Int), .bool vh, .bool ab, .slice p11 n11 q11, .bool and, .string ⟨ant.toArray⟩]) ∧ (w11.setRow A14 #[.string ⟨an.toArray⟩, .int .i64 ao, .int .i64 al, .int .i64 ac, .int .i64 vk, .string ⟨vt.toArray⟩, .int .u32 (vn : Int), .bool vh, .bool ab, .slice p11 n11 q11, .bool and, .string ⟨ant.toArray⟩]).heap[A12]? = some (.cells #[.string ⟨an.toArray⟩, .int .i64 ao, .int .i64 al, .int .i64 ac, .int .i64 vk, .string ⟨vt.toArray⟩, .int .u32 (vn : Int), .bool vh, .bool ab, .slice p9 n9 q9, .bool and, .string ⟨ant.toArray⟩] 34 (0, 0)) ∧ (w11.setRow A14 #[.string ⟨an.toArray⟩, .int .i64 ao, .int .i64 al, .int .i64 ac, .int .i64 vk, .string ⟨vt.toArray⟩, .int .u32 (vn : Int), .bool vh, .bool ab, .slice p11 n11 q11, .bool and, .string ⟨ant.toArray⟩]).heap[A14]? = some (.cells #[.string ⟨an.toArray⟩, .int .i64 ao, .int .i64 al, .int .i64 ac, .int .i64 vk, .string ⟨vt.toArray⟩, .int .u32 (vn : Int), .bool vh, .bool ab, .slice p11 n11 q11, .bool and, .string ⟨ant.toArray⟩] 34 (0, 0)) ∧ AttrsAt (w11.setRow A14 #[.string ⟨an.toArray⟩, .int .i64 ao, .int .i64 al, .int .i64 ac, .int .i64 vk, .string ⟨vt.toArray⟩, .int .u32 (vn : Int), .bool vh, .bool ab, .slice p11 n11 q11, .bool and, .string ⟨ant.toArray⟩]) (fun g => g < w.heap.size ∨ w8.heap.size ≤ g) (.slice p9 n9 q9) aps ∧ AttrsAt (w11.setRow A14 #[.string ⟨an.toArray⟩, .int .i64 ao, .int .i64 al, .int .i64 ac, .int .i64 vk, .string ⟨vt.toArray⟩, .int .u32 (vn : Int), .bool vh, .bool ab, .slice p11 n11 q11, .bool and, .string ⟨ant.toArray⟩]) (fun g => g < w.heap.size ∨ w10.heap.size + 1 ≤ g) (.slice p11 n11 q11) aps) := by
            have h0 : Below w10.heap.size w10 (w10.drew.alloc (.cells zero12 34)) := (Below.refl w10.heap.size w10).drew.alloc (Nat.le_refl _) _
            have h1 : Below w10.heap.size w10 w11 := h0.trans (hb11.mono (by simp))
            have h2 : Below w10.heap.size w10 (w11.setRow A14 #[.string ⟨an.toArray⟩, .int .i64 ao, .int .i64 al, .int .i64 ac, .int .i64 vk, .string ⟨vt.toArray⟩, .int .u32 (vn : Int), .bool vh, .bool ab, .slice p11 n11 q11, .bool and, .string ⟨ant.toArray⟩]) := h1.trans (HBS.out _ (by rw [HA14.out]; exact Nat.le_refl _))
            refine ⟨hb14, (h2.block _ (heap_lt x12)).trans x12, setRow_heap _ _ _ _ _ _ hzero, attrsAt_below h2 hA10, attrsAt_move (by simp) (fun g hF hl => ?_) hA11⟩
            have hs : (w10.drew.alloc (.cells zero12 34)).heap.size = w10.heap.size + 1 := by simp
            have hw10 : w.heap.size ≤ w10.heap.size := Nat.le_trans hLz.b.size hb10.size
            have hF' : g < w.heap.size ∨ w10.heap.size + 1 ≤ g := by rw [hs] at hF; exact hF
            exact ⟨setRow_other _ _ _ _ (by rw [HA14.out]; omega), hF'⟩
          clear HA14 HBS hzero hb14 hl14 bz hb11' hb11 hA11 bd hA10 x12 hb10
          generalize w11.setRow A14 #[.string ⟨an.toArray⟩, .int .i64 ao, .int .i64 al, .int .i64 ac, .int .i64 vk, .string ⟨vt.toArray⟩, .int .u32 (vn : Int), .bool vh, .bool ab, .slice p11 n11 q11, .bool and, .string ⟨ant.toArray⟩] = w12 at *
          obtain ⟨hb12, y12, y14, a12, a14⟩ := HG.out
          clear HG
          have cSA := sameAttr_of w12 w12 (Below.refl _ _) true an ao al ac ao al ac vk vt vn vh ab and ant p9 n9 q9 p11 n11 q11 (fun _ => ⟨rfl, rfl, rfl⟩) (fun W2 hW2 => (sameAttrs_any (smA_refl true aps) W2 _ _ _ _ (attrsAt_below hW2 a12) (attrsAt_below hW2 a14)).mono fun e w' ⟨h1, h2⟩ => ⟨h1, hW2.trans (h2.mono hW2.size)⟩)
          obtain ⟨⟨g0, g1, g2, g3, g4, g5, g6, g7, g8, g9, g10, g11⟩, fg⟩ := var12 y12
          obtain ⟨⟨m0, m1, m2, m3, m4, m5, m6, m7, m8, m9, m10, m11⟩, fm⟩ := var12 y14
          have hpl : (pre.length : Int) ≤ 1099511627776 := by omega
          have HZ7 : Hid (∀ W', Below Z.heap.size Z W' → Boxed W' A7 3 (.int .i64 (pre.length : Int))) := fun W' hW' => (hW'.block _ hLz.x7.lt).trans hLz.x7
          have HFin : Hid (∀ W', Below Z.heap.size Z W' → Kz (fun b => ((b < Y.heap.size ∧ b ≠ A7) ∨ Y.heap.size ≤ b) ∧ ¬ gy = b) Z (W'.setCell ⟨A7, 0, none⟩ (.int .i64 ((pre.length : Int) + 1))) ∧ Fk A7 Y (W'.setCell ⟨A7, 0, none⟩ (.int .i64 ((pre.length : Int) + 1))) ∧ Boxed (W'.setCell ⟨A7, 0, none⟩ (.int .i64 ((pre.length : Int) + 1))) A7 3 (.int .i64 ((pre ++ [x]).length : Int)) ∧ pre ++ [x] <+: ps) := fun W' hW' => by
            have hsZ := hF.size
            refine ⟨⟨by have := hW'.size; simp [World.setCell]; omega, fun b hb hl => (Below.heap_setCell W' ⟨A7, 0, none⟩ _ b (by show b ≠ A7; omega)).trans (hW'.block b hl)⟩, (hF.below (hW'.mono hsZ)).set _, ?_, hpx⟩
            have := Boxed.set (.int .i64 ((pre.length : Int) + 1)) (HZ7.out W' hW')
            simpa using this
          clear y12 y14 a12 a14
          gi_wp2_with (first | (refine ⟨trivial, ?_⟩; gi_at_call 11; refine (CallsIn.inRound lp (callsIn_wide.2 cSA)).mono ?_; rintro e w13 ⟨rfl, hb13⟩; have hb13' := hb12.trans (hb13.mono hb12.size); have c713 := Boxed.cell (HZ7.out _ hb13'); have f713 := Boxed.frozen (HZ7.out _ hb13')))
          exact HFin.out _ hb13'
      case done2 =>
        intro D2 zs2 Z2 hD2 hs2 hzs2 hI2 hDz2
        subst hAct2
        obtain ⟨hF2, hB72, _⟩ := hI2
        obtain rfl : ps = zs2 := hzs2.symm
        have hL2 := hLY.at hF2 hB72
        have c7 := Boxed.cell hL2.x7
        have c5 := Boxed.cell hL2.x5
        have hH := hHd Z2 hL2.b
        have HD : Hid (Z2.heap[D]? = some (.deferred (some [])) ∧ Z2.heap[D2]? = some (.deferred (some [])) ∧ D ≠ D2 ∧ A4 ≠ D ∧ A4 ≠ D2 ∧ w.heap.size ≤ D ∧ w.heap.size ≤ D2) := by
          have h4 := hLY.ne
          have h5 := hLY.b.size
          refine ⟨(hF2.block D hDs.1 hDs.2).trans hDY, hDz2, by omega, fun e => ?_, by omega, hwD, by omega⟩
          have h6 := hLY.x4
          rw [e] at h6
          have := hDY.symm.trans h6
          cases this
        clear hF2 hB72 hDz2 hDY hLY hD2 hs2
        go_wp2_with (go_at_call 14; refine hH.mono ?_; rintro e w8 ⟨rfl, hb8⟩; have x48 : Boxed w8 A4 4 (.bool false) := (hb8.block _ hL2.x4.lt).trans hL2.x4; have c48 := Boxed.cell x48; have f48 := Boxed.frozen x48)
        obtain ⟨d1, d2, hne, n1, n2, k1, k2⟩ := HD.out
        have hst : ∀ k, k ≠ A4 → (w8.setCell ⟨A4, 0, none⟩ (.bool true)).heap[k]? = w8.heap[k]? := fun k hk => Below.heap_setCell w8 ⟨A4, 0, none⟩ _ k hk
        show LeavesInM Fence.wide 3 _ _ _ _ _ _ _
        exact leave2 (p := 4) rfl rfl (Boxed.set (.bool true) x48) ((hst _ n2.symm).trans ((hb8.block _ (heap_lt d2)).trans d2)) ((hst _ n1.symm).trans ((hb8.block _ (heap_lt d1)).trans d1)) hne ((hL2.b.trans (hb8.mono hL2.b.size)).setCell (p := ⟨A4, 0, none⟩) hL2.lt.2.2.1 _) k1 k2
      case stop2 =>
        intro D2 c pre Z hD2 hs2 hsp h hd
        exact h.elim
end Go.Proofs.YtlbgppijeoonjaaGreatDoor
