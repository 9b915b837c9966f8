import Derived.Test.YticgikbnlpgnkaaYg
import Derived.Sort.LoopGhostIn
namespace Go.Proofs.Yticgikbnlpgnkaa
open Go.RowKit Go.Shelf
set_option linter.unusedVariables false
set_option linter.unusedSimpArgs false
attribute [local go_sem] Oper.semAt_some

/-! ### Queues: list -/
def pairsC (l : List (Int × Int)) : List Value := l.flatMap fun x => [I x.1, I x.2]
theorem pairsC_app (a b : List (Int × Int)) : pairsC (a ++ b) = pairsC a ++ pairsC b := by simp [pairsC]
theorem pairsC_len (l : List (Int × Int)) : (pairsC l).length = l.length * 2 := by
  induction l with
  | nil => rfl
  | cons x t ih => simp only [pairsC, List.flatMap_cons, List.length_append, List.length_cons, List.length_nil]; simp only [pairsC] at ih; omega
theorem pairsC_one (l : List (Int × Int)) : ∀ u ∈ pairsC l, u.oneCell' = true := fun u hu => by
  unfold pairsC at hu
  obtain ⟨x, _, h⟩ := List.mem_flatMap.1 hu
  simp at h
  rcases h with rfl | rfl <;> rfl
theorem pairsC_get {l : List (Int × Int)} {j : Nat} {p x : Int} (h : l[j]? = some (p, x)) : (pairsC l)[j * 2]? = some (I p) ∧ (pairsC l)[j * 2 + 1]? = some (I x) := by
  induction l generalizing j with
  | nil => simp at h
  | cons y t ih =>
    cases j with
    | zero => simp at h; subst h; exact ⟨rfl, rfl⟩
    | succ j =>
      have := ih (j := j) (by simpa using h)
      have e : pairsC (y :: t) = I y.1 :: I y.2 :: pairsC t := rfl
      rw [e, show (j + 1) * 2 = j * 2 + 1 + 1 by omega]
      simpa using this
theorem cell_two_new (w : World) (x y : Value) (t : TypeId) : ∀ j u, [x, y][j]? = some u → (w.alloc (.cells #[x, y] t)).cell? ((⟨w.heap.size, 0, none⟩ : Addr).add j) = some u := by
  intro j u hj
  rw [addr_add, Nat.zero_add, cell_of_row _ _ _ _ _ (0, 0) (heap_alloc_new w _)]
  simpa using hj
theorem tag_snoc (p : Nat) (l : List Int) (x : Int) : tag p (l ++ [x]) = tag p l ++ [((p : Int), x)] := by simp [tag]
/-- The marks of rangings that are over. -/
def Mks (b0 : Nat) (Ds : List Nat) (W : World) : Prop := Ds.Nodup ∧ ∀ D ∈ Ds, b0 ≤ D ∧ W.heap[D]? = some (.deferred (some []))
def mk1 (D : Nat) : Deferred := { target := .collected D, args := #[] }
theorem leaveN {fn : Func} {tmps : Array Value} {R : Ending → World → Prop} {n : Nat} (b0 : Nat) : ∀ (Ds : List Nat) (W : World), Mks b0 Ds W → (∀ W', W.heap.size = W'.heap.size → (∀ (b : Nat) (o : Obj), W.heap[b]? = some o → o.isCells = true → W'.heap[b]? = some o) → Below b0 W W' → LeavesIn Fence.wide n Try.prog fn tmps R [] .returning W') → LeavesInM Fence.wide n Try.prog fn tmps R (Ds.map mk1) .returning W
  | [], W, _, h => h W rfl (fun _ _ h _ => h) (Below.refl _ _)
  | D :: Ds, W, hM, h => by
    obtain ⟨hb, hD⟩ := hM.2 D (by simp)
    have hnd := List.nodup_cons.1 hM.1
    have g := grownBy_putObj' W D (.deferred none)
    refine ⟨by simp, .inl ⟨D, _, rfl, run_takeDeferred hD, leaveN b0 Ds (W.putObj D (.deferred none)) ⟨hnd.2, fun E hE => ?_⟩ (fun W' hs hc hb' => h W' ?_ (fun b o ho hoc => hc b o ?_ hoc) ?_)⟩⟩
    · obtain ⟨k1, k2⟩ := hM.2 E (List.mem_cons_of_mem _ hE)
      exact ⟨k1, (g.block E (heap_lt k2) (fun e => by cases e; exact hnd.1 hE)).trans k2⟩
    · rw [← hs]; simp [World.putObj]
    · exact (g.block b (heap_lt ho) (fun e => by cases e; rw [hD] at ho; cases ho; cases hoc)).trans ho
    · exact ((Below.refl b0 W).grown g (by have := heap_lt hD; omega) (fun k e => by cases e; exact hb)).trans hb'
/-- What is no cells and lies below B. -/
def Ko (B : Nat) (W1 W : World) : Prop := ∀ (b : Nat) (o : Obj), b < B → W1.heap[b]? = some o → o.isCells = false → W.heap[b]? = some o
theorem Ko.refl (B : Nat) (W : World) : Ko B W W := fun _ _ _ h _ => h
theorem Ko.own {β : Type} (B : Nat) (W1 : World) : OwnFrom B (fun (_ : β) W => Ko B W1 W) := fun s W W' row hs hg hr b o hb h1 hc =>
  (hg.block b (heap_lt (hs b o hb h1 hc)) (fun e => by have := (hr b e.symm).1; omega)).trans (hs b o hb h1 hc)
theorem Ko.keep {B : Nat} {W1 W W' : World} (h : Ko B W1 W) (k : KeepsOthers W W') : Ko B W1 W' := fun b o hb h1 hc => k.same b o (h b o hb h1 hc) hc
theorem boxed_ownFrom {β : Type} (B b : Nat) (t : TypeId) (v : Value) : OwnFrom B (fun (_ : β) W => Boxed W b t v) := fun s W W' row hs hg hr => hs.kept hg (fun e => by
  obtain ⟨_, o, ho, hc⟩ := hr b e.symm
  rw [show W.heap[b]? = _ from hs] at ho
  cases ho
  cases hc)
theorem Mks.ko {b0 B : Nat} {Ds : List Nat} {W1 W : World} (h : Mks b0 Ds W1) (hB : W1.heap.size ≤ B) (k : Ko B W1 W) : Mks b0 Ds W := ⟨h.1, fun D hD => by
  obtain ⟨h1, h2⟩ := h.2 D hD
  exact ⟨h1, k D _ (by have := heap_lt h2; omega) h2 rfl⟩⟩
theorem Mks.cons {b0 : Nat} {Ds : List Nat} {W : World} {D : Nat} (h : Mks b0 Ds W) (hb : b0 ≤ D) (hD : W.heap[D]? = some (.deferred (some []))) (hn : D ∉ Ds) : Mks b0 (D :: Ds) W :=
  ⟨List.nodup_cons.2 ⟨hn, h.1⟩, fun E hE => by
    rcases List.mem_cons.1 hE with rfl | hE
    · exact ⟨hb, hD⟩
    · exact h.2 E hE⟩
structure LiI (w : World) (c : Nat) (f : RS) (k b4 : Nat) (Ds : List Nat) (W : World) : Prop where
  acc : ∃ acc v, Boxed W c 29 v ∧ W.ownsRow w.heap.size 35 2 v acc.length (pairsC acc) ∧ acc ++ dnF f k = dnF f 64
  p : Boxed W b4 3 (I ((k : Int) - 1))
  b : Below w.heap.size w W
  cc : w.heap.size ≤ c ∧ w.heap.size ≤ b4
  ks : Mks w.heap.size Ds W
def LiA (w : World) (c : Nat) (f : RS) (u : Value) (m : Nat) (s8 : Value) (k : Nat) (a : Act) (W : World) : Prop := k ≤ 64 ∧ ∃ (b4 : Nat) (Ds : List Nat) (u9 u10 u11 u12 u13 u14 u15 u16 u24 : Value),
  a = { tmps := #[u, undef, .slice none 0 0, .pointer (some ⟨c, 0, none⟩), .pointer (some ⟨b4, 0, none⟩), undef, u, I m, s8, u9, u10, u11, u12, u13, u14, u15, u16, undef, undef, undef, undef, undef, undef, undef, u24, undef], defers := Ds.map mk1 } ∧ LiI w c f k b4 Ds W
theorem dn_bound {f : RS} {k : Nat} {acc : List (Int × Int)} (h : acc ++ dnF f k = dnF f 64) (hle : sumF f 64 ≤ 4194304) : acc.length ≤ 4194304 := by
  have := congrArg List.length h
  rw [List.length_append, dnF_len f 64] at this
  omega
set_option maxRecDepth 100000 in
set_option maxHeartbeats 4000000 in
theorem qlist_o (w : World) (u : Value) (f : RS) (hLen : Calls Try.prog 15 #[u] w fun e w' => e = .returned (I (sumF f 64)) ∧ w = w') (hle : sumF f 64 ≤ 4194304)
    (hR : ∀ W, Below w.heap.size w W → ∀ p : Nat, p < 64 → Calls Try.prog 37 #[u, I p] W fun e w' => e = .returned (.pointer (ptrA (f p))) ∧ W = w')
    (hS : ∀ (p : Nat) (W : World) (Bn : Nat) (M : World → Nat → Prop), Below w.heap.size w W → Bn < W.heap.size → W.cell? ⟨Bn, 0, none⟩ = some (.pointer (ptrA (f p))) → (∀ W' b, Below W.heap.size W W' → M W' b → b < W.heap.size) → SeqStopsK Fence.wide (3 - 1) Try.prog 63 #[.pointer (some ⟨Bn, 0, none⟩)] (fun x : Int => #[Value.int .i64 x]) (Kq M) (fun ys => ys = lst f p) (fun pre => pre <+: lst f p) (lst f p).length W) :
    Calls Try.prog 40 #[u] w fun e w' => ∃ v, e = .returned v ∧ w'.ownsRow w.heap.size 35 2 v (dnF f 64).length (pairsC (dnF f 64)) ∧ Below w.heap.size w w' := by
  obtain ⟨i0, hi0, hz0, hz1, hz2⟩ := info_parts qinfo
  have HLE : Hid (sumF f 64 ≤ 4194304) := hle
  generalize sumF f 64 = m at hle hLen
  obtain ⟨w2, hmk, hO2, hg2⟩ := run_make_own (P := Try.prog) w w.heap.size 29 35 i0 _ 2 Try.underlying29 hi0 hz0 hz1 .i64 .i64 m (by rw [hz2]; omega) (by unfold maxLen; omega) (Nat.le_refl _)
  have b2 : Below w.heap.size w w2 := (Below.refl _ w).grown hg2 (Nat.le_refl _) (fun k e => by cases e)
  have hst := run_storeCells_new (P := Try.prog) w2 29 #[.slice none 0 0] #[.slice (some ⟨w.heap.size, 0, none⟩) 0 m] (by kernel_rfl) rfl (by simp [Value.oneCell'])
  refine (callsIn_wide (n := 3)).1 ?_
  refine callsIn_of_wp_marks Try.func40 rfl trivial ?_ rfl
  simp only [Try.ntmps40, List.size_toArray, List.length_cons, List.length_nil, Nat.reduceAdd, Nat.reduceSub, Array.replicate_succ, Array.replicate_zero, List.push_toArray, List.append_toArray, List.nil_append, List.cons_append]
  gi_wp2_with (first
    | (refine ⟨trivial, ?_⟩; gi_at_call 15; refine (callsIn_wide.2 hLen).mono ?_; rintro e w1 ⟨rfl, rfl⟩))
  have h0 : LiA w w2.heap.size f u m (.slice (some ⟨w.heap.size, 0, none⟩) 0 m) 64 { tmps := #[u, undef, .slice none 0 0, .pointer (some ⟨w2.heap.size, 0, none⟩), .pointer (some ⟨w2.heap.size + 1, 0, none⟩), undef, u, I m, .slice (some ⟨w.heap.size, 0, none⟩) 0 m, undef, undef, undef, undef, undef, undef, undef, undef, undef, undef, undef, undef, undef, undef, undef, undef, undef], defers := [] } ((w2.alloc (.cells #[.slice (some ⟨w.heap.size, 0, none⟩) 0 m] 29)).alloc (.cells #[.int .i64 63] 3)) := by
    have hs := b2.size
    have bN := Boxed.new (w2.alloc (.cells #[.slice (some ⟨w.heap.size, 0, none⟩) 0 m] 29)) 3 (.int .i64 63)
    rw [World.size_alloc] at bN
    exact ⟨Nat.le_refl _, _, [], _, _, _, _, _, _, _, _, _, rfl, ⟨[], _, (Boxed.new w2 _ _).alloc _, (hO2.alloc _).alloc _, rfl⟩, bN, (b2.alloc b2.size _).alloc (by simp; omega) _, ⟨hs, by omega⟩, ⟨List.nodup_nil, fun D hD => by cases hD⟩⟩
  clear hst hmk hO2 hg2 hLen
  generalize ((w2.alloc (.cells #[.slice (some ⟨w.heap.size, 0, none⟩) 0 m] 29)).alloc (.cells #[.int .i64 63] 3)) = W0 at *
  generalize w2.heap.size = c at *
  generalize (Value.slice (some ⟨w.heap.size, 0, none⟩) 0 m) = s8 at *
  refine wpIn_loop_ghost (LiA w c f u m s8) 64 h0 ?_
  clear h0 b2 W0
  rintro k a W ⟨hk, b4, Ds, u9, u10, u11, u12, u13, u14, u15, u16, u24, rfl, HI⟩
  have HI2 : Hid (LiI w c f k b4 Ds W) := HI
  obtain ⟨⟨acc, v, hv, hrow, hacc⟩, hp, hb, hcc, hmk⟩ := HI
  have hpc := hp.cell
  have hvc := hv.cell
  generalize hds : Ds.map mk1 = ds
  have HDS : Hid (Ds.map mk1 = ds) := hds
  clear hds
  rcases Nat.eq_zero_or_pos k with rfl | hk0
  · have hn : ¬ (0 : Int) ≤ ((0 : Nat) : Int) - 1 := by omega
    gi_wp2
    show LeavesInM Fence.wide 3 Try.prog _ _ _ ds .returning W
    rw [← HDS.out]
    refine leaveN w.heap.size Ds W hmk (fun W' hs hc hb' => ?_)
    have hacc2 : acc = dnF f 64 := by rw [← hacc]; simp [dnF]
    rw [hacc2] at hrow
    refine ⟨_, results_tmp rfl _ _ _, v, rfl, ?_, hb.trans hb'⟩
    obtain ⟨hl, h0 | ⟨g, cap, cur, hv1, hb1, hh, rr⟩⟩ := hrow
    · exact ⟨hl, .inl h0⟩
    · exact ⟨hl, .inr ⟨g, cap, cur, hv1, hb1, hc g _ hh rfl, rr⟩⟩
  · obtain ⟨p, rfl⟩ : ∃ p, k = p + 1 := ⟨k - 1, by omega⟩
    have hpe : (((p + 1 : Nat) : Int) - 1) = (p : Int) := by omega
    rw [hpe] at hpc hp
    clear hpe
    have hp0 : (0 : Int) ≤ p := by omega
    have hRp := hR W hb p (by omega)
    generalize hq : ptrA (f p) = q at hRp
    gi_wp2_with (first
      | (refine ⟨trivial, ?_⟩; gi_at_call 37; refine (callsIn_wide.2 hRp).mono ?_; rintro e w1 ⟨rfl, rfl⟩)
      | (refine ⟨trivial, ?_⟩; gi_at_call 60; refine (callsIn_wide.2 (All_ptr q _)).mono ?_; rintro e w1 ⟨rfl, rfl⟩))
    have hs := hb.size
    have bN := Boxed.new W 53 (.pointer q)
    have hv1 := hv.alloc (.cells #[.pointer q] 53)
    have hp1 := hp.alloc (.cells #[.pointer q] 53)
    have hb1 : Below w.heap.size w (W.alloc (.cells #[.pointer q] 53)) := hb.alloc hs _
    have hrow1 := hrow.alloc (.cells #[.pointer q] 53)
    have hSq := hS p (W.alloc (.cells #[.pointer q] 53)) W.heap.size (Mbox c) hb1 (by simp) (by rw [hq]; exact bN.cell) (fun W' b hb9 hm => by
      rcases hm with e | ⟨u9, hu, e⟩
      · have := hv.lt; simp; omega
      · rw [hb9.cell (p := ⟨c, 0, none⟩) (by have := hv.lt; simp; omega), hv1.cell] at hu
        cases hu
        have := hrow1.lt b e
        omega)
    have hbnd : acc.length + (lst f p).length ≤ 4194304 := by
      have h1 := congrArg List.length hacc
      rw [List.length_append, dnF_len f 64] at h1
      simp only [dnF, List.length_append, tag, List.length_map] at h1
      have := HLE.out
      omega
    have HM1 : Hid (Mks w.heap.size Ds (W.alloc (.cells #[.pointer q] 53))) := ⟨hmk.1, fun D hD => ⟨(hmk.2 D hD).1, heap_over _ _ (hmk.2 D hD).2⟩⟩
    have hcl : c < (W.alloc (.cells #[.pointer q] 53)).heap.size := hv1.lt
    clear hRp HI2 hq
    generalize hW1 : (W.alloc (.cells #[.pointer q] 53)) = W1 at *
    have hW1s : W.heap.size + 1 = W1.heap.size := by rw [← hW1]; simp
    refine wpIn_rangeFunc_ownG rfl (by omega) (gf := 63) (lb := #[.pointer (some ⟨W.heap.size, 0, none⟩)]) rfl trivial (enters_of Try.func63 (by kernel_rfl) rfl)
      hSq Kq.trans (Kq.put (fun W9 l o b hl hm => by
        have hne : c ≠ l := by omega
        rcases hm with e | ⟨u9, hu, e⟩
        · exact .inl e
        · exact .inr ⟨u9, by rw [← hu]; exact (World.cell?_of_block (World.putObj_heap_other hne)).symm, e⟩)) (Below.refl _ _) (fun _ => rfl)
      (fun pre W9 => (∃ v, Boxed W9 c 29 v ∧ W9.ownsRow w.heap.size 35 2 v (acc.length + pre.length) (pairsC (acc ++ tag p pre)) ∧ True) ∧ Below w.heap.size w W9 ∧ Boxed W9 b4 3 (I p) ∧ Ko W1.heap.size W1 W9)
      (fun _ _ _ => False)
      (OwnFrom.and (Own.from (holdsRow_own w.heap.size c 29 35 2 (fun pre => acc.length + List.length pre) (fun pre => pairsC (acc ++ tag p pre)) (fun pre v => True)) _) (OwnFrom.and (ownFrom_below (Nat.le_refl _) (by omega)) (OwnFrom.and (boxed_ownFrom _ _ _ _) (Ko.own _ _))))
      (fun _ _ _ _ _ hs _ _ => hs)
      ⟨⟨_, hv1, by simpa [tag] using hrow1, trivial⟩, hb1, hp1, Ko.refl _ _⟩
      (fun x => { tmps := #[u, undef, .slice none 0 0, .pointer (some ⟨c, 0, none⟩), .pointer (some ⟨b4, 0, none⟩), .int .i64 x, u, I m, s8, I p, .bool true, u11, u12, u, I p, .pointer q, .func (.func 63) #[] #[.pointer (some ⟨W.heap.size, 0, none⟩)], .int .i64 x, undef, undef, undef, undef, undef, undef, u24, undef], defers := [] }) ?assign ?body ?done ?stop
    case assign =>
      intro l x W9 K hK
      gi_wp2
      exact hK
    case body =>
      rintro l pre x W9 ⟨⟨v9, hv9, hrow9, _⟩, hB, hp9, hK9⟩ hlt
      have hc9 := hv9.cell
      have hpc9 := hp9.cell
      have hbd : acc.length + pre.length + 1 ≤ 4194304 := by omega
      gi_wp2_with (gi_at_builtin; refine wpListIn_append_own_at _ rfl _ _ 29 rfl w.heap.size 35 i0 (.agg #[.int .i64 0, .int .i64 0]) 2 16 Try.underlying29 hi0 hz0 hz1 hz2 rfl (by decide) _ _ _ rfl (hrow9.alloc _) ⟨W9.heap.size, 0, none⟩ 1 1 [I p, I x] rfl rfl (cell_two_new _ _ _ _) (by simp [Value.oneCell']) (by unfold maxLen; omega) (by omega) (by have := hB.size; simp; omega) ?_; intro v' w1 hown' hgrow _ hat; obtain ⟨g', cap', rfl⟩ := ownsRow_succ hown'; obtain ⟨hv2, hv3, hr2, hk2, hb2⟩ := hv9.appended (by decide) hrow9 hB.size hcc.1 hown' hgrow; have hc1 := hv2.cell; have hf1 := hv2.frozen; have hKq := Mbox.app hv9 hv3 hgrow hat; have hp2 : Boxed w1 b4 3 (I p) := (hp9.alloc _).kept hgrow (hp9.not_row (by decide) hrow9))
      have hne : b4 ≠ c := fun e => by
        subst e
        have h9 : some (Obj.cells #[I p] 3 (0, 0)) = some (Obj.cells #[v9] 29 (0, 0)) := Eq.trans (Eq.symm hp9) hv9
        simp only [Option.some.injEq, Obj.cells.injEq] at h9
        exact absurd h9.2.1 (by decide)
      have hp3 : Boxed (w1.setCell ⟨c, 0, none⟩ (.slice (some ⟨g', 0, none⟩) (acc.length + pre.length + 1) cap')) b4 3 (I p) := (heap_setCell_other w1 ⟨c, 0, none⟩ b4 _ hne).trans hp2
      exact ⟨hk2.from _, hKq, ⟨_, hv3, by rw [tag_snoc, ← List.append_assoc, pairsC_app, List.length_append]; exact hr2, trivial⟩, hB.trans hb2, hp3, hK9.keep hk2⟩
    case done =>
      rintro D ys W9 hD rfl ⟨⟨v9, hv9, hrow9, _⟩, hB, hp9, hK9⟩ hKD
      have hc9 := hv9.cell
      have hpc9 := hp9.cell
      gi_wp2
      have hM9 := HM1.out.ko (Nat.le_refl _) hK9
      have hM8 := hM9.cons (D := D) (by omega) hKD (fun hin => by
        have := heap_lt (HM1.out.2 D hin).2
        omega)
      refine ⟨p, by omega, by omega, W9.heap.size, D :: Ds, _, _, _, _, _, _, _, _, _, by rw [← HDS.out]; rfl, ⟨⟨acc ++ tag p (lst f p), v9, hv9.alloc _, ?_, by rw [List.append_assoc]; exact hacc⟩, Boxed.new W9 3 _, hB.alloc hB.size _, ⟨hcc.1, hB.size⟩, ⟨hM8.1, fun E hE => ⟨(hM8.2 E hE).1, heap_over _ _ (hM8.2 E hE).2⟩⟩⟩⟩
      rw [List.length_append, show (tag p (lst f p)).length = (lst f p).length by simp [tag]]
      exact hrow9.alloc _
    case stop =>
      rintro D c pre W9 _ _ h _
      exact h.elim
section
variable {w : World} {Q F : Nat} {f : RS}
theorem qlist_any (h : Qm w Q F f) : Calls Try.prog 40 #[qP Q] w fun e w' => ∃ v, e = .returned v ∧ w'.ownsRow w.heap.size 35 2 v (dnF f 64).length (pairsC (dnF f 64)) ∧ Below w.heap.size w w' := by
  refine qlist_o w (qP Q) f (qLen_any h) (by have := h.sum 64; omega) (fun W hb p hp => ?_) (fun p W Bn M hb hl hc hM => ?_)
  · have := qringOf_any (h.below hb) (p : Int)
    rw [ringAt_nat f hp, ptrOf_eq] at this
    exact this
  · exact AllAt_stops 2 (by omega) Bn M (h.below hb) (f p) (fun x hx => ⟨p, hx⟩) hl hc hM
theorem dnF_nil : ∀ n, dnF (fun _ => Option.none) n = []
  | 0 => rfl
  | n + 1 => by simp only [dnF, dnF_nil n, tag, lst]; rfl
theorem sumF_nil : ∀ n, sumF (fun _ => Option.none) n = 0
  | 0 => rfl
  | n + 1 => by simp only [sumF, sumF_nil n, lst]; rfl
theorem qlist_none {v : Value} (hN : ∀ W, Below w.heap.size w W → Calls Try.prog 33 #[v] W fun e w' => e = .returned (.bool true) ∧ W = w') : Calls Try.prog 40 #[v] w fun e w' => ∃ u, e = .returned u ∧ w'.ownsRow w.heap.size 35 2 u 0 [] ∧ Below w.heap.size w w' := by
  have := qlist_o w v (fun _ => Option.none) (by rw [sumF_nil]; exact qLen_none (hN w (Below.refl _ _))) (by rw [sumF_nil]; omega) (fun W hb p hp => qringOf_none (hN W hb) p) (fun p W Bn M hb hl hc hM l J Jx W2 hW hJ _ hY h0 => All1_nil 2 (by omega) l Bn J Jx W2 ((hW.cell (p := ⟨Bn, 0, none⟩) hl).trans hc) h0)
  rw [dnF_nil] at this
  exact this
end
end Go.Proofs.Yticgikbnlpgnkaa
