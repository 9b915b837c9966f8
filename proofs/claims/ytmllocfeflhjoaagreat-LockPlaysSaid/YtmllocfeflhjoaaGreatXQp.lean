import Derived.Test.YtmllocfeflhjoaaGreatXQl
import Derived.Sort.CutIn
import Derived.Deep.DeepAppendWide
namespace Go.Proofs.YtmllocfeflhjoaaGreat
open Go.RowKit Go.Maps Go.Shelf Go.Sort
open Go.Proofs.YtmllocfeflhjoaaGreat.St (Fx Fz iQ iP iV)
set_option linter.unusedVariables false
set_option linter.unusedSimpArgs false
attribute [local go_sem] Oper.semAt_some

/-! ### Priority -/
/-- the greatest of a number and of the ceilings of what is named -/
def ceilOf (tb : Tb) (r : Int) : Int := match tb.ress[r.toNat]? with | some x => x.ceil | none => 0
def topC (tb : Tb) (p : Int) (l : List Int) : Int := l.foldl (fun p r => max p (ceilOf tb r)) p
theorem topC_snoc (tb : Tb) (p : Int) (l : List Int) (r : Int) : topC tb p (l ++ [r]) = max (topC tb p l) (ceilOf tb r) := by simp [topC]
theorem topC_le (tb : Tb) : ∀ (l : List Int) (p x : Int), topC tb p l ≤ x ↔ p ≤ x ∧ ∀ r ∈ l, ceilOf tb r ≤ x
  | [], p, x => by simp [topC]
  | r :: l, p, x => by
    show topC tb (max p (ceilOf tb r)) l ≤ x ↔ _
    rw [topC_le tb l, Int.max_le]
    simp only [List.mem_cons, forall_eq_or_imp, and_assoc]
theorem topC_perm {tb : Tb} {p : Int} {l m : List Int} (h : ∀ r, r ∈ l ↔ r ∈ m) : topC tb p l = topC tb p m := by
  apply Int.le_antisymm
  · exact (topC_le tb l p _).2 (by have := (topC_le tb m p _).1 (Int.le_refl _); exact ⟨this.1, fun r hr => this.2 r ((h r).1 hr)⟩)
  · exact (topC_le tb m p _).2 (by have := (topC_le tb l p _).1 (Int.le_refl _); exact ⟨this.1, fun r hr => this.2 r ((h r).2 hr)⟩)
/-- an owner's current priority -/
def prioO (tb : Tb) (s : Ls) (o : Own) : Int := match obs tb o with
  | some b => if s.i o = true then max (topC tb b.prio (hld s.L o)) b.inner else topC tb b.prio (hld s.L o)
  | none => -1
def mx19 (a b : Int) : Int := max a b
theorem max_two19 (ats : Array TypeId) (ty : TypeId) (a b : Int) : Builtin.max_ ats ty #[.int .i64 a, .int .i64 b] = pure (.int .i64 (mx19 a b)) := by
  show (do let s ← Builtin.max2 (.int .i64 a) (.int .i64 b); pure s : Sem Value) = _
  simp only [Builtin.max2]
  show (pure _ : Sem Value) = _
  congr 2
  unfold mx19
  split <;> omega
attribute [local go_sem 5000] max_two19
theorem box_own_one {β : Type} (c : Nat) (t : TypeId) (f : β → Value) : Go.Own (fun (pre : β) W => Boxed W c t (f pre)) := by
  intro s X Y row hv hg hrow
  refine hv.kept hg (fun e' => ?_)
  obtain ⟨o, ho, hc⟩ := hrow c e'.symm
  rw [show X.heap[c]? = _ from hv] at ho
  cases ho
  cases hc
theorem Kq_one (c : Nat) (W W' : World) (v : Value) (hW : W'.heap = (W.setCell ⟨c, 0, none⟩ v).heap) : St.Kq (fun _ b => b = c) W W' :=
  ⟨by rw [hW]; simp, fun b cs ty hm hb => ⟨by rw [hW, heap_setCell_other W ⟨c, 0, none⟩ b _ hm]; exact hb, hm⟩⟩
set_option maxRecDepth 100000 in
set_option maxHeartbeats 4000000 in
/-- The iterator, for every loop body that keeps what is none of M's. -/
theorem All1_g {α : Type} (v : α → Int) (n : Nat) (hn : 1 ≤ n) (l Bn : Nat) (M : World → Nat → Prop) (xs : List α) (B g m hi : Nat) (J Jx : List α → World → Prop)
    (W : World) (hBn : W.cell? ⟨Bn, 0, none⟩ = some (iP B)) (hL : iQ W B g m hi (xs.map v).reverse) (hMW : ∀ W' b, Below W.heap.size W W' → M W' b → b < W.heap.size) (hJ : AbidesFrom W.heap.size J)
    (hY : ∀ pre x W, J pre W → pre.length < xs.length → YieldAt Fence.wide (n - 1) Tryz.prog l #[.int .i64 (v x)] W fun e W' =>
      (e = .returned (.bool true) ∧ J (pre ++ [x]) W' ∧ St.Kq M W W') ∨ (e = .returned (.bool false) ∧ Jx (pre ++ [x]) W'))
    (h0 : J [] W) :
    CallsIn Fence.wide n Tryz.prog 94 #[.func (.yield l) #[] #[], .pointer (some ⟨Bn, 0, none⟩)] W fun e W' => (∃ v, e = .returned v) ∧
      ((∃ ys, ys = xs ∧ J ys W') ∨ (∃ pre, pre <+: xs ∧ Jx pre W')) := by
  have hLi := St.list_any hL
  simp only [List.length_map] at hLi
  have hle := hL.le
  rw [List.length_reverse, List.length_map] at hle
  obtain ⟨R, hR⟩ := hL
  have hN := St.inone_any hR
  have hm := hR.m
  refine callsIn_of_wp Tryz.func94 rfl trivial ?_ rfl
  simp only [Tryz.ntmps94, List.size_toArray, List.length_cons, List.length_nil, Nat.reduceAdd, Nat.reduceSub, Array.replicate_succ, Array.replicate_zero, List.push_toArray, List.append_toArray, List.nil_append, List.cons_append]
  gi_wp2_with (first
    | (refine ⟨trivial, ?_⟩; gi_at_call 84; refine (callsIn_wide.2 hN).mono ?_; rintro e w1 ⟨rfl, rfl⟩)
    | (refine ⟨trivial, ?_⟩; gi_at_call 92; refine (callsIn_wide.2 hLi).mono ?_; rintro e w1 ⟨X, cap, rfl, ho, hb⟩))
  have hX := ho.lt X rfl
  obtain ⟨cur, hcur⟩ : ∃ cur, w1.heap[X]? = some (.cells cur 3) := by
    rcases ho.2 with ⟨h1, _⟩ | ⟨g', cap', cur, h1, _, hh, _⟩
    · cases h1
    · cases h1; exact ⟨cur, hh⟩
  have hxs : ∀ k x, xs[k]? = some x → cur[k]? = some (I (v x)) := fun k x hk => by
    have hkl := (List.getElem?_eq_some_iff.1 hk).1
    have := ho.cellAt k (by simp [iV]; exact hkl)
    rw [cell_of_row w1 X k _ _ (0, 0) hcur] at this
    rw [this]
    simp [iV, hk]
  have HR : Hid (J [] w1 ∧ w1.heap[X]? = some (.cells cur 3) ∧ ¬ M w1 X) := ⟨hJ [] W w1 none h0 (grown_of_below hb) (fun r e => by cases e), hcur, fun e => by have := hMW w1 X hb e; omega⟩
  clear hcur ho hLi hN hR h0
  gi_loopw [10] (fun i wr => ∃ k : Nat, k ≤ xs.length ∧ i = .int .i64 k ∧ Hid (J (xs.take k) wr ∧ wr.heap[X]? = some (.cells cur 3) ∧ ¬ M wr X))
    (fun i _ => xs.length - (intOf i).toNat)
  case atStart => exact ⟨0, Nat.zero_le _, rfl, HR.out⟩
  case round =>
    clear HR
    obtain ⟨k, hk, rfl, HJ⟩ := hrel
    obtain ⟨hJs, hcu, hMx⟩ := HJ.out
    by_cases hlt : k < xs.length
    · obtain ⟨x, hx⟩ : ∃ x, xs[k]? = some x := ⟨_, List.getElem?_eq_getElem hlt⟩
      have hltI : (k : Int) < xs.length := by omega
      obtain ⟨fn, tmps, assign, body, hy, hRR⟩ := hY _ x wr hJs (by simp; omega)
      have hcx : wr.cell? ⟨X, k, none⟩ = some (I (v x)) := by rw [cell_of_row wr X k _ _ (0, 0) hcu]; exact hxs k x hx
      have htk : Hid (xs.take (k + 1) = xs.take k ++ [x]) := by
        show _ = _
        rw [List.take_add_one, hx]; rfl
      clear HJ
      gi_wp2
      refine hRR.mono ?_
      rintro e W3 (⟨rfl, hJ3, hk3⟩ | ⟨rfl, hJx3⟩)
      · have H9 : Hid (J (xs.take (k + 1)) W3 ∧ W3.heap[X]? = some (.cells cur 3) ∧ ¬ M W3 X) := by
          rw [htk.out]
          exact ⟨hJ3, hk3.same X _ _ hMx hcu⟩
        clear hJ3 hk3 hcu hMx hJs hcx htk
        gi_wp2
        go_roundw
        case rel => exact ⟨k + 1, by omega, by go_num, H9.out⟩
        case measure => simp [intOf]; omega
      · gi_wp2
        refine bodyPost_ret (results_none rfl _ _ _) rfl ?_
        exact ⟨⟨_, rfl⟩, .inr ⟨_, ⟨xs.drop (k + 1), by rw [← htk.out]; exact List.take_append_drop _ _⟩, hJx3⟩⟩
    · obtain rfl : k = xs.length := by omega
      have hge : ¬ ((xs.length : Int) < xs.length) := by omega
      gi_wp2
      go_end0
      rw [List.take_length] at hJs
      exact ⟨⟨_, rfl⟩, .inl (by simpa using hJs)⟩
/-- r.All() hands back a value that 'SeqStopsK'. -/
theorem All_stopsG {α : Type} (v : α → Int) (n : Nat) (hn : 1 ≤ n) (Bn : Nat) (M : World → Nat → Prop) (xs : List α) (B g m hi : Nat) (w : World) (hBl : Bn < w.heap.size) (hBn : w.cell? ⟨Bn, 0, none⟩ = some (iP B)) (hL : iQ w B g m hi (xs.map v).reverse) (hMW : ∀ W' b, Below w.heap.size w W' → M W' b → b < w.heap.size) :
    SeqStopsK Fence.wide n Tryz.prog 94 #[.pointer (some ⟨Bn, 0, none⟩)] (fun x : α => #[Value.int .i64 (v x)]) (St.Kq M) (fun ys => ys = xs) (fun pre => pre <+: xs) xs.length w := fun l J Jx W hW hJ _ hY h0 =>
  All1_g v n hn l Bn M xs B g m hi J Jx W ((hW.cell (p := ⟨Bn, 0, none⟩) hBl).trans hBn) (hL.below hW) (fun W' b hb hm => Nat.lt_of_lt_of_le (hMW W' b (hW.trans (hb.mono hW.size)) hm) hW.size) hJ hY h0
section
variable {w w' : World} {tb : Tb} {Z : Nat → Prop} {y : Ly} {B : Nat} {s : Ls}
set_option maxHeartbeats 4000000 in
set_option maxRecDepth 100000 in
theorem Priority_ok (h : Lk w tb Z y B s) (o : Own) (ho : o.wf) (b : Ob) (hob : obs tb o = some b) : Calls Tryz.prog 20 #[lp B, .agg #[.bool o.isr, I o.id]] w fun e w' => e = .returned (I (prioO tb s o)) ∧ Below w.heap.size w w' := by
  have hse := St.seq_some
  obtain ⟨-, q, hq, -, -⟩ := h.ps o b hob
  have hb0 := below_alloc w (.cells #[lp B] 26)
  have hbw : Below w.heap.size w ((w.alloc (.cells #[lp B] 26)).alloc (.cells #[.bool o.isr, I o.id] 23)) := hb0.trans ((below_alloc _ _).mono (by simp))
  have h1 := h.below hbw
  have hF := find_any h1 o ho
  rw [hq] at hF
  have hbox : ((w.alloc (.cells #[lp B] 26)).alloc (.cells #[.bool o.isr, I o.id] 23)).cell? ⟨w.heap.size, 0, none⟩ = some (lp B) := ((Boxed.new w 26 (lp B)).alloc _).cell
  have y0 : ((w.alloc (.cells #[lp B] 26)).alloc (.cells #[.bool o.isr, I o.id] 23)).cell? ⟨w.heap.size + 1, 0, none⟩ = some (.bool o.isr) := by
    have := (box_own (w.alloc (.cells #[lp B] 26)) o).1
    rwa [World.size_alloc] at this
  have y1 : ((w.alloc (.cells #[lp B] 26)).alloc (.cells #[.bool o.isr, I o.id] 23)).cell? ⟨w.heap.size + 1, 1, none⟩ = some (I o.id) := by
    have := (box_own (w.alloc (.cells #[lp B] 26)) o).2
    rwa [World.size_alloc] at this
  refine (callsIn_wide (n := 3)).1 ?_
  refine callsIn_of_wp_marks Tryz.func20 rfl trivial ?_ rfl
  simp only [Tryz.ntmps20, List.size_toArray, List.length_cons, List.length_nil, Nat.reduceAdd, Nat.reduceSub, Array.replicate_succ, Array.replicate_zero, List.push_toArray, List.append_toArray, List.nil_append, List.cons_append]
  have HL : Hid (Lk w tb Z y B s) := h
  clear h h1
  gi_upto_region 1 with fail
  have HB1 : Hid (∀ w', Below ((w.alloc (.cells #[lp B] 26)).alloc (.cells #[.bool o.isr, I o.id] 23)).heap.size ((w.alloc (.cells #[lp B] 26)).alloc (.cells #[.bool o.isr, I o.id] 23)) w' → Below w.heap.size w w' ∧ w'.cell? ⟨w.heap.size, 0, none⟩ = some (lp B)) := fun w' hb' => ⟨hbw.trans (hb'.mono (by simp; omega)), (cell_below hb' _ _ (by simp; omega)).trans hbox⟩
  have HO : Hid (obs tb o = some b) := hob
  have HQ : Hid (y.p o = some q) := hq
  clear hbw hob hq hb0
  generalize (w.alloc (.cells #[lp B] 26)).alloc (.cells #[.bool o.isr, I o.id] 23) = w1 at *
  gi_upto_region 2 with (first | (refine ⟨trivial, ?_⟩; gi_at_call 58; refine (callsIn_wide.2 hF).mono ?_; clear hF; rintro e w2 ⟨rfl, hb2⟩; simp only [opV, Option.isSome_some]))
  obtain ⟨bw2, cl2⟩ := HB1.out _ hb2
  have h2 := HL.out.below bw2
  have HBW : Hid (Below w.heap.size w w2) := bw2
  obtain ⟨b', hob', -, hB, -⟩ := h2.pq HQ.out
  rw [HO.out] at hob'
  cases hob'
  obtain ⟨d0, d1, d2, d3, d4, d5⟩ := hB.cells
  have H2 : Hid (Lk w2 tb Z y B s) := h2
  clear hB bw2 hb2 HB1 y0 y1 h2 hbox
  gi_upto_region 5 with fail
  have hp0 := Boxed.new w2 3 (I b.prio)
  have hbp := below_alloc w2 (.cells #[I b.prio] 3)
  have h3 := H2.out.below hbp
  have cl3 := (cell_below hbp _ 0 (World.block_lt_of_cell? w2 _ cl2)).trans cl2
  have hS3 : (w2.alloc (.cells #[I b.prio] 3)).heap.size = w2.heap.size + 1 := by simp
  have HCL : Hid (w2.cell? ⟨w.heap.size, 0, none⟩ = some (lp B)) := cl2
  clear d0 d1 d2 d3 d4 d5 cl2
  obtain ⟨b', hob', -, hB, -⟩ := h3.pq HQ.out
  rw [HO.out] at hob'
  cases hob'
  obtain ⟨d0, d1, d2, d3, d4, d5⟩ := hB.cells
  obtain ⟨hi, hK⟩ := hB.k
  have hAl := St.All_any (y.sb o) (w2.alloc (.cells #[I b.prio] 3))
  have hbA := below_alloc (w2.alloc (.cells #[I b.prio] 3)) (.cells #[iP (y.sb o)] 89)
  have hK4 := hK.below hbA
  have hp4 := hp0.alloc (.cells #[iP (y.sb o)] 89)
  have bN := Boxed.new (w2.alloc (.cells #[I b.prio] 3)) 89 (iP (y.sb o))
  rw [hS3] at bN
  have hb24 : Below w2.heap.size w2 ((w2.alloc (.cells #[I b.prio] 3)).alloc (.cells #[iP (y.sb o)] 89)) := hbp.trans (hbA.mono (by simp))
  clear hB h3 hbp hbA hp0 hK hS3
  gi_wp2_with (first | (refine ⟨trivial, ?_⟩; gi_at_call 62; refine (callsIn_wide.2 hAl).mono ?_; clear hAl; rintro e w4 ⟨rfl, rfl⟩))
  refine wpIn_rangeFunc_ownG rfl (by omega) (gf := 94) (lb := #[.pointer (some ⟨w2.heap.size + 1, 0, none⟩)]) rfl trivial (enters_of Tryz.func94 (by kernel_rfl) rfl)
    (All_stopsG (fun x : {r : Int // r ∈ hld s.L o} => x.1) (3 - 1) (by omega) (w2.heap.size + 1) (fun _ x => x = w2.heap.size) (hld s.L o).attach.reverse (y.sb o) (y.gb o) b.own.length hi _ (by simp) bN.cell (by rw [← List.map_reverse, List.reverse_reverse, List.attach_map_subtype_val]; exact hK4) (fun W' x hb hm => by subst hm; simp; omega)) St.Kq.trans (St.Kq.put (fun W l o x hl hm => hm)) (Below.refl _ _) (fun _ => rfl)
    (fun pre W => Boxed W w2.heap.size 3 (I (topC tb b.prio (pre.map (·.1)))) ∧ Below w2.heap.size w2 W)
    (fun _ _ _ => False)
    (OwnFrom.and (Own.from (box_own_one w2.heap.size 3 (fun (pre : List {r : Int // r ∈ hld s.L o}) => I (topC tb b.prio (pre.map (·.1))))) _) (ownFrom_below (Nat.le_refl _) (by simp; omega)))
    (fun _ _ _ _ _ hs _ _ => hs)
    ⟨hp4, hb24⟩
    ?a1 ?assign ?body ?done ?stop
  case assign =>
    intro l x W K hK
    gi_wp2
    exact hK
  case body =>
    rintro l pre ⟨x, hx⟩ W ⟨hv, hB⟩ hlt
    have h9 := H2.out.below hB
    obtain ⟨b', hb', hxo⟩ := h9.ok.own o x (mem_hld.1 hx)
    obtain ⟨hx0, r, hr, -, -⟩ := (h9.tk.own o b' hb').2 x hxo
    obtain ⟨k, rfl⟩ := Int.eq_ofNat_of_zero_le hx0
    rw [Int.toNat_natCast] at hr
    obtain ⟨g, off, e1, hg, q0, q1⟩ := h9.res hr
    obtain ⟨n1, n2, n3⟩ := h9.rn
    obtain ⟨c0, c1, c2, c3, c4, c5⟩ := h9.cells
    rw [e1] at c0
    have hk0 : k < tb.ress.length := (List.getElem?_eq_some_iff.1 hr).1
    have hk1 : (k : Int) < y.rs.n := by omega
    have hcb := (cell_below hB _ 0 (World.block_lt_of_cell? w2 _ HCL.out)).trans HCL.out
    have hc := hv.cell
    have hf := hv.frozen
    have HV : Hid (Boxed W w2.heap.size 3 (I (topC tb b.prio (pre.map (·.1)))) ∧ Below w2.heap.size w2 W) := ⟨hv, hB⟩
    have HC : Hid (ceilOf tb (k : Int) = r.ceil) := by show _ = _; unfold ceilOf; rw [Int.toNat_natCast, hr]
    clear h9 hb' hxo hx0 hr e1 n1 hk0 c1 c2 c3 c4 c5 hv hB
    have HP : Hid (∀ W' : World, W'.heap = (W.setCell ⟨w2.heap.size, 0, none⟩ (I (mx19 (topC tb b.prio pre.unattach) r.ceil))).heap → W'.os = W.os → W'.tape = W.tape → W'.output = W.output → KeepsFrom ((w2.alloc (.cells #[I b.prio] 3)).alloc (.cells #[iP (y.sb o)] 89)).heap.size W W' ∧ St.Kq (fun _ x => x = w2.heap.size) W W' ∧ Boxed W' w2.heap.size 3 (I (topC tb b.prio ((pre ++ [(⟨(k : Int), hx⟩ : {r : Int // r ∈ hld s.L o})]).map (fun z => z.1)))) ∧ Below w2.heap.size w2 W') := by
      intro W' e1 e2 e3 e4
      obtain ⟨hv, hB⟩ := HV.out
      have hg0 := grown_set W w2.heap.size 0 (I (mx19 (topC tb b.prio pre.unattach) r.ceil))
      have hg : W.grownBy W' (some w2.heap.size) := ⟨e2, e3, e4, by rw [e1]; exact hg0.size, fun i hi hn => by rw [e1]; exact hg0.block i hi hn⟩
      refine ⟨KeepsFrom.of_grownBy hg (fun j e => by cases e; simp; omega), Kq_one _ W W' _ e1, ?_, hB.trans (below_of_grown hg (Nat.le_refl _) hB.size)⟩
      have := hv.set (I (mx19 (topC tb b.prio pre.unattach) r.ceil))
      show W'.heap[w2.heap.size]? = _
      rw [e1, List.map_append, List.map_singleton, topC_snoc, HC.out]
      exact this
    gi_wp2
    gi_region
    all_goals (simp only [Exit.inBlock]; exact HP.out _ rfl rfl rfl rfl)
  case done =>
    rintro D ys W hD rfl ⟨hv, hB⟩ hK
    have h9 := H2.out.below hB
    obtain ⟨b', hob', -, hB9, -⟩ := h9.pq HQ.out
    rw [HO.out] at hob'
    cases hob'
    obtain ⟨d0, d1, d2, d3, d4, d5⟩ := hB9.cells
    have hm : topC tb b.prio ((hld s.L o).attach.reverse.map (·.1)) = topC tb b.prio (hld s.L o) := topC_perm (fun r => by rw [List.map_reverse, List.mem_reverse, List.attach_map_subtype_val])
    rw [hm] at hv
    have hc := hv.cell
    have hf := hv.frozen
    have HV : Hid (Boxed W w2.heap.size 3 (I (topC tb b.prio (hld s.L o))) ∧ Below w2.heap.size w2 W) := ⟨hv, hB⟩
    have HK : Hid (W.heap[D]? = some (.deferred (some [])) ∧ w2.heap.size < D) := ⟨hK, by simp at hD; omega⟩
    clear h9 hB9 hv hB hK hm
    have HP : Hid (∀ W' : World, Below w2.heap.size w2 W' → W'.heap[D]? = some (.deferred (some [])) → Below w.heap.size w (W'.putObj D (.deferred none))) := by
      intro W' hb hK
      have := hb.trans (belowK_b (w := w2) (Nat.le_refl _) W' D _ (.deferred none) (by have := HK.out.2; omega) hK rfl rfl)
      exact HBW.out.trans (this.mono HBW.out.size)
    cases hi0 : s.i o with
    | false =>
      rw [hi0] at d4
      gi_wp2
      refine ⟨by simp, .inl ⟨_, _, rfl, run_takeDeferred HK.out.1, ?_⟩⟩
      refine ⟨_, results_tmp rfl _ _ _, ?_, HP.out W HV.out.2 HK.out.1⟩
      unfold prioO
      rw [HO.out]
      simp [hi0]
    | true =>
      rw [hi0] at d4
      have HZ : Hid (∀ W' : World, W'.heap = (W.setCell ⟨w2.heap.size, 0, none⟩ (I (mx19 (topC tb b.prio (hld s.L o)) b.inner))).heap → W'.os = W.os → W'.tape = W.tape → W'.output = W.output → W'.cell? ⟨w2.heap.size, 0, none⟩ = some (I (mx19 (topC tb b.prio (hld s.L o)) b.inner)) ∧ Below w2.heap.size w2 W' ∧ W'.heap[D]? = some (.deferred (some []))) := by
        intro W' e1 e2 e3 e4
        obtain ⟨hv, hB⟩ := HV.out
        have hg0 := grown_set W w2.heap.size 0 (I (mx19 (topC tb b.prio (hld s.L o)) b.inner))
        have hg : W.grownBy W' (some w2.heap.size) := ⟨e2, e3, e4, by rw [e1]; exact hg0.size, fun i hi hn => by rw [e1]; exact hg0.block i hi hn⟩
        have h3 : Boxed W' w2.heap.size 3 (I (mx19 (topC tb b.prio (hld s.L o)) b.inner)) := by
          show W'.heap[w2.heap.size]? = _
          rw [e1]
          exact hv.set _
        refine ⟨h3.cell, hB.trans (below_of_grown hg (Nat.le_refl _) hB.size), ?_⟩
        rw [hg.block D (heap_lt HK.out.1) (fun e => by have := HK.out.2; cases e; omega)]
        exact HK.out.1
      gi_wp2
      gi_region
      obtain ⟨k1, k2, k3⟩ := HZ.out ((W.setCell ⟨w2.heap.size, 0, none⟩ (I (mx19 (topC tb b.prio (hld s.L o)) b.inner))).drew) rfl rfl rfl rfl
      have HF : Hid (Below w2.heap.size w2 ((W.setCell ⟨w2.heap.size, 0, none⟩ (I (mx19 (topC tb b.prio (hld s.L o)) b.inner))).drew) ∧ ((W.setCell ⟨w2.heap.size, 0, none⟩ (I (mx19 (topC tb b.prio (hld s.L o)) b.inner))).drew).heap[D]? = some (.deferred (some []))) := ⟨k2, k3⟩
      clear hc hf d0 d1 d2 d3 d4 d5 k2 k3 HZ
      generalize (W.setCell ⟨w2.heap.size, 0, none⟩ (I (mx19 (topC tb b.prio (hld s.L o)) b.inner))).drew = W5 at *
      gi_wp2
      refine ⟨by simp, .inl ⟨_, _, rfl, run_takeDeferred HF.out.2, ?_⟩⟩
      refine ⟨_, results_tmp rfl _ _ _, ?_, HP.out W5 HF.out.1 HF.out.2⟩
      unfold prioO
      rw [HO.out]
      simp [hi0, mx19]
  case stop =>
    rintro D c pre W _ _ h _
    exact h.elim
end
end Go.Proofs.YtmllocfeflhjoaaGreat

namespace Go.Proofs.YtmllocfeflhjoaaGreat
open Go.RowKit Go.Maps Go.Shelf Go.Sort
open Go.Proofs.YtmllocfeflhjoaaGreat.St (Fx Fz iQ iP iV)
set_option linter.unusedVariables false
set_option linter.unusedSimpArgs false

section
variable {w w' : World} {tb : Tb} {Z : Nat → Prop} {y : Ly} {B : Nat} {s : Ls}
set_option maxHeartbeats 4000000 in
set_option maxRecDepth 100000 in
theorem Priority_no (h : Lk w tb Z y B s) (o : Own) (ho : o.wf) (hob : obs tb o = none) : Calls Tryz.prog 20 #[lp B, .agg #[.bool o.isr, I o.id]] w fun e w' => e = .returned (I (prioO tb s o)) ∧ Below w.heap.size w w' := by
  have hb0 := below_alloc w (.cells #[lp B] 26)
  have hbw : Below w.heap.size w ((w.alloc (.cells #[lp B] 26)).alloc (.cells #[.bool o.isr, I o.id] 23)) := hb0.trans ((below_alloc _ _).mono (by simp))
  have h1 := h.below hbw
  have hF := find_any h1 o ho
  rw [h.pn _ hob] at hF
  have hbox : ((w.alloc (.cells #[lp B] 26)).alloc (.cells #[.bool o.isr, I o.id] 23)).cell? ⟨w.heap.size, 0, none⟩ = some (lp B) := ((Boxed.new w 26 (lp B)).alloc _).cell
  have y0 : ((w.alloc (.cells #[lp B] 26)).alloc (.cells #[.bool o.isr, I o.id] 23)).cell? ⟨w.heap.size + 1, 0, none⟩ = some (.bool o.isr) := by
    have := (box_own (w.alloc (.cells #[lp B] 26)) o).1
    rwa [World.size_alloc] at this
  have y1 : ((w.alloc (.cells #[lp B] 26)).alloc (.cells #[.bool o.isr, I o.id] 23)).cell? ⟨w.heap.size + 1, 1, none⟩ = some (I o.id) := by
    have := (box_own (w.alloc (.cells #[lp B] 26)) o).2
    rwa [World.size_alloc] at this
  have HB1 : Hid (∀ w', Below ((w.alloc (.cells #[lp B] 26)).alloc (.cells #[.bool o.isr, I o.id] 23)).heap.size ((w.alloc (.cells #[lp B] 26)).alloc (.cells #[.bool o.isr, I o.id] 23)) w' → Below w.heap.size w w') := fun w' hb' => hbw.trans (hb'.mono (by simp; omega))
  have HO : Hid (obs tb o = none) := hob
  clear h h1 hbw hb0 hob
  go_enter Tryz.func20, Tryz.ntmps20
  go_upto_region 1 with fail
  generalize (w.alloc (.cells #[lp B] 26)).alloc (.cells #[.bool o.isr, I o.id] 23) = w1 at *
  go_wp2_with (first | (go_at_call 58; refine hF.mono ?_; clear hF; rintro e w2 ⟨rfl, hb2⟩; simp only [opV, Option.isSome_none]))
  go_ret
  refine ⟨?_, HB1.out _ hb2⟩
  unfold prioO
  rw [HO.out]
  rfl
theorem Priority_any (h : Lk w tb Z y B s) (o : Own) (ho : o.wf) : Calls Tryz.prog 20 #[lp B, .agg #[.bool o.isr, I o.id]] w fun e w' => e = .returned (I (prioO tb s o)) ∧ Below w.heap.size w w' := by
  cases hob : obs tb o with
  | none => exact Priority_no h o ho hob
  | some b => exact Priority_ok h o ho b hob
end
end Go.Proofs.YtmllocfeflhjoaaGreat

namespace Go.Proofs.YtmllocfeflhjoaaGreat
open Go.RowKit Go.Maps Go.Shelf Go.Sort
open Go.Proofs.YtmllocfeflhjoaaGreat.St (Fx Fz iQ iP iV)
set_option linter.unusedVariables false
set_option linter.unusedSimpArgs false

/-! ### Rows, cloned -/
theorem own_slk19 {w : World} {b E k n : Nat} {v : Value} {xs : List Value} (h : w.ownsRow b E k v n xs) : ∃ a cc, v = .slice a n cc := by
  obtain ⟨_, ⟨h1, rfl⟩ | ⟨g, cap, cur, h1, _⟩⟩ := h
  · exact ⟨none, 0, h1⟩
  · exact ⟨_, cap, h1⟩
theorem ints_row {w : World} {q k : Nat} {a : Option Addr} {l : List Int} (h : w.ownsRow q 3 1 (.slice a l.length k) l.length (iV l)) : RowsAt w 1 intP ⟨a, l.length, k⟩ l ∧ (l ≠ [] → ∃ g, a = some ⟨g, 0, none⟩ ∧ q ≤ g ∧ g < w.heap.size) := by
  obtain ⟨h0, ⟨h1, h2⟩ | ⟨g, cap, cur, h1, h2, h3, h4, h5, h6, h7⟩⟩ := id h
  · have : l = [] := List.length_eq_zero_iff.1 h2
    subst this
    cases h1
    exact ⟨⟨rfl, Nat.le_refl _, Nat.zero_le _, fun j x hj => by cases hj⟩, fun e => absurd rfl e⟩
  · cases h1
    refine ⟨⟨rfl, h4, h5, fun j x hj => ⟨g, 0, rfl, heap_lt h3, fun i hi => ?_⟩⟩, fun _ => ⟨g, rfl, h2, heap_lt h3⟩⟩
    have hi0 : i = 0 := by omega
    subst hi0
    have hlt := (List.getElem?_eq_some_iff.1 hj).1
    refine ⟨I x, ?_, rfl⟩
    rw [show 0 + j * 1 + 0 = j by omega, h.cellAt j (by omega)]
    simp [iV, hj]
set_option maxRecDepth 100000 in
set_option maxHeartbeats 4000000 in
theorem cloneI_any (w : World) (s : Sl) (l : List Int) (hl : RowsAt w 1 intP s l) (hll : l.length ≤ 1048576) : Calls Tryz.prog 124 #[.slice s.a s.n s.c] w fun e w' => ∃ so : Sl, e = .returned (.slice so.a so.n so.c) ∧ RowsAt w' 1 intP so l ∧ (l ≠ [] → ∃ g, so.a = some ⟨g, 0, none⟩ ∧ w.heap.size ≤ g ∧ g < w'.heap.size) ∧ Below w.heap.size w w' := by
  have hq : ∀ (w : World) (a : Option Addr) (n c n' c' : Nat), (binOp .eql 65 (.slice a n c) (.slice none n' c')).run Tryz.prog w = .ok (.bool a.isNone) w := fun w a n c n' c' => Lib.run_eql_slice_nil w _ _ a n c n' c' Tryz.underlying65
  obtain ⟨i0, hi0, hz0, hz1, hz2⟩ := info_parts iinfo9
  obtain ⟨a, n, c⟩ := s
  have hn : n = l.length := hl.n
  subst hn
  cases a with
  | none =>
    have h0 : l = [] := by
      cases l with
      | nil => rfl
      | cons x r => obtain ⟨g, off, e, _⟩ := hl.row 0 x rfl; cases e
    subst h0
    clear hl
    go_enter Tryz.func124, Tryz.ntmps124
    go_wp2
    go_ret
    exact ⟨⟨none, 0, 0⟩, rfl, ⟨rfl, Nat.le_refl _, Nat.zero_le _, fun j x hj => by cases hj⟩, fun e => absurd rfl e, Below.refl _ _⟩
  | some ad =>
    have hown := World.ownsRow_lit (base := w.heap.size) (e := 3) (size := 1) w #[] 0 (Nat.le_refl _) (Nat.zero_le _) rfl
    have HNL : Hid ((iV l).length = l.length * 1) := by show _ = _; simp [iV]
    have hcl : ∀ j u, (iV l)[j]? = some u → (w.alloc (.cells #[] 3)).cell? (ad.add j) = some u := fun j u hj => by
      unfold iV at hj
      rw [List.getElem?_map] at hj
      cases e : l[j]? with
      | none => rw [e] at hj; cases hj
      | some i =>
        rw [e] at hj
        cases hj
        obtain ⟨g, off, e2, hg, hr⟩ := hl.row j i e
        cases e2
        obtain ⟨u, b5, b6⟩ := hr 0 (by omega)
        have : u = I i := b6
        subst this
        rw [St.addr_add, World.cell?_of_block ((below_alloc w _).block g hg)]
        rw [show off + j * 1 + 0 = off + j by omega] at b5
        exact b5
    have ho : ∀ u ∈ (iV l), u.oneCell' = true := fun u hu => by obtain ⟨i, _, rfl⟩ := List.mem_map.1 hu; rfl
    clear hl
    go_enter Tryz.func124, Tryz.ntmps124
    go_wp2_with (at_builtin; refine wpList_append_own _ rfl _ _ 65 rfl w.heap.size 3 i0 (.int .i64 0) 1 8 Tryz.underlying65 hi0 hz0 hz1 hz2 rfl (by decide) _ 0 _ rfl hown ad l.length c (iV l) rfl HNL.out hcl ho (by unfold maxLen; omega) (by omega) (by simp) ?_)
    intro v6 w6 ho6 hg6 _
    have hb6 : Below w.heap.size w w6 := ((Below.refl w.heap.size w).alloc (Nat.le_refl _) _).grown hg6 (by simp) (fun k e => by simp [Value.ownBlock] at e; omega)
    obtain ⟨a6, k6, rfl⟩ := own_slk19 ho6
    have HO : Hid (w6.ownsRow w.heap.size 3 1 (.slice a6 l.length k6) l.length (iV l) ∧ Below w.heap.size w w6) := ⟨ho6, hb6⟩
    clear ho6 hg6 hown hcl ho hb6
    go_wp2
    go_ret
    have h7 := HO.out.1
    obtain ⟨k1, k2⟩ := ints_row h7
    exact ⟨⟨a6, l.length, k6⟩, rfl, k1, k2, HO.out.2⟩
def fl2 : List RsR → List Value
  | [] => []
  | x :: l => .bool x.inner :: I x.ceil :: fl2 l
theorem fl2_len : ∀ l : List RsR, (fl2 l).length = l.length * 2
  | [] => rfl
  | x :: l => by simp [fl2, fl2_len l]; omega
theorem fl2_at : ∀ {l : List RsR} {k : Nat} {x : RsR}, l[k]? = some x → (fl2 l)[k * 2]? = some (.bool x.inner) ∧ (fl2 l)[k * 2 + 1]? = some (I x.ceil)
  | z :: l, 0, x, h => by cases h; exact ⟨rfl, rfl⟩
  | z :: l, k + 1, x, h => by
    have := fl2_at (l := l) (k := k) (x := x) (by simpa using h)
    rw [show (k + 1) * 2 = k * 2 + 1 + 1 by omega]
    simpa [fl2] using this
theorem fl2_inv : ∀ {l : List RsR} {j : Nat} {u : Value}, (fl2 l)[j]? = some u → ∃ k x, l[k]? = some x ∧ ((j = k * 2 ∧ u = .bool x.inner) ∨ (j = k * 2 + 1 ∧ u = I x.ceil))
  | z :: l, 0, u, h => by cases h; exact ⟨0, z, rfl, .inl ⟨rfl, rfl⟩⟩
  | z :: l, 1, u, h => by cases h; exact ⟨0, z, rfl, .inr ⟨rfl, rfl⟩⟩
  | z :: l, j + 2, u, h => by
    obtain ⟨k, x, h1, h2⟩ := fl2_inv (l := l) (j := j) (u := u) (by simpa [fl2] using h)
    refine ⟨k + 1, x, by simpa using h1, ?_⟩
    rcases h2 with ⟨h2, h3⟩ | ⟨h2, h3⟩
    · exact .inl ⟨by omega, h3⟩
    · exact .inr ⟨by omega, h3⟩
theorem res_row {w : World} {q k : Nat} {a : Option Addr} {l : List RsR} (h : w.ownsRow q 76 2 (.slice a l.length k) l.length (fl2 l)) : RowsAt w 2 rsrP ⟨a, l.length, k⟩ l ∧ (l ≠ [] → ∃ g, a = some ⟨g, 0, none⟩ ∧ q ≤ g ∧ g < w.heap.size) := by
  obtain ⟨h0, ⟨h1, h2⟩ | ⟨g, cap, cur, h1, h2, h3, h4, h5, h6, h7⟩⟩ := id h
  · have : l = [] := List.length_eq_zero_iff.1 h2
    subst this
    cases h1
    exact ⟨⟨rfl, Nat.le_refl _, Nat.zero_le _, fun j x hj => by cases hj⟩, fun e => absurd rfl e⟩
  · cases h1
    refine ⟨⟨rfl, h4, h5, fun j x hj => ⟨g, 0, rfl, heap_lt h3, fun i hi => ?_⟩⟩, fun _ => ⟨g, rfl, h2, heap_lt h3⟩⟩
    have hlt := (List.getElem?_eq_some_iff.1 hj).1
    obtain ⟨e1, e2⟩ := fl2_at hj
    match i, hi with
    | 0, _ => exact ⟨.bool x.inner, by rw [show 0 + j * 2 + 0 = j * 2 by omega, h.cellAt _ (by omega)]; exact e1, rfl⟩
    | 1, _ => exact ⟨I x.ceil, by rw [show 0 + j * 2 + 1 = j * 2 + 1 by omega, h.cellAt _ (by omega)]; exact e2, rfl⟩
theorem rinfo9 : (Tryz.prog.info? 76).map (fun i => (i.zero, i.size, i.bytes)) = some (some (.agg #[.bool false, I 0]), 2, 16) := by kernel_rfl
set_option maxRecDepth 100000 in
set_option maxHeartbeats 4000000 in
theorem cloneR_any (w : World) (s : Sl) (l : List RsR) (hl : RowsAt w 2 rsrP s l) (hll : l.length ≤ 1048576) : Calls Tryz.prog 32 #[.slice s.a s.n s.c] w fun e w' => ∃ so : Sl, e = .returned (.slice so.a so.n so.c) ∧ RowsAt w' 2 rsrP so l ∧ (l ≠ [] → ∃ g, so.a = some ⟨g, 0, none⟩ ∧ w.heap.size ≤ g ∧ g < w'.heap.size) ∧ Below w.heap.size w w' := by
  have hq : ∀ (w : World) (a : Option Addr) (n c n' c' : Nat), (binOp .eql 28 (.slice a n c) (.slice none n' c')).run Tryz.prog w = .ok (.bool a.isNone) w := fun w a n c n' c' => Lib.run_eql_slice_nil w _ _ a n c n' c' Tryz.underlying28
  obtain ⟨i0, hi0, hz0, hz1, hz2⟩ := info_parts rinfo9
  obtain ⟨a, n, c⟩ := s
  have hn : n = l.length := hl.n
  subst hn
  cases a with
  | none =>
    have h0 : l = [] := by
      cases l with
      | nil => rfl
      | cons x r => obtain ⟨g, off, e, _⟩ := hl.row 0 x rfl; cases e
    subst h0
    clear hl
    go_enter Tryz.func32, Tryz.ntmps32
    go_wp2
    go_ret
    exact ⟨⟨none, 0, 0⟩, rfl, ⟨rfl, Nat.le_refl _, Nat.zero_le _, fun j x hj => by cases hj⟩, fun e => absurd rfl e, Below.refl _ _⟩
  | some ad =>
    have hown := World.ownsRow_lit (base := w.heap.size) (e := 76) (size := 2) w #[] 0 (Nat.le_refl _) (Nat.zero_le _) rfl
    have HNL : Hid ((fl2 l).length = l.length * 2) := fl2_len l
    have hcl : ∀ j u, (fl2 l)[j]? = some u → (w.alloc (.cells #[] 76)).cell? (ad.add j) = some u := fun j u hj => by
      obtain ⟨k, x, hx, hk⟩ := fl2_inv hj
      obtain ⟨g, off, e2, hg, hr⟩ := hl.row k x hx
      cases e2
      rw [St.addr_add, World.cell?_of_block ((below_alloc w _).block g hg)]
      rcases hk with ⟨rfl, rfl⟩ | ⟨rfl, rfl⟩
      · obtain ⟨u, b5, b6⟩ := hr 0 (by omega)
        have : u = .bool x.inner := b6
        subst this
        exact b5
      · obtain ⟨u, b5, b6⟩ := hr 1 (by omega)
        have : u = I x.ceil := b6
        subst this
        exact b5
    have ho : ∀ u ∈ (fl2 l), u.oneCell' = true := fun u hu => by
      obtain ⟨j, hj⟩ := List.getElem?_of_mem hu
      obtain ⟨k, x, _, ⟨_, rfl⟩ | ⟨_, rfl⟩⟩ := fl2_inv hj <;> rfl
    clear hl
    go_enter Tryz.func32, Tryz.ntmps32
    go_wp2_with (at_builtin; refine wpList_append_own _ rfl _ _ 28 rfl w.heap.size 76 i0 (.agg #[.bool false, I 0]) 2 16 Tryz.underlying28 hi0 hz0 hz1 hz2 rfl (by decide) _ 0 _ rfl hown ad l.length c (fl2 l) rfl HNL.out hcl ho (by unfold maxLen; omega) (by omega) (by simp) ?_)
    intro v6 w6 ho6 hg6 _
    have hb6 : Below w.heap.size w w6 := ((Below.refl w.heap.size w).alloc (Nat.le_refl _) _).grown hg6 (by simp) (fun k e => by simp [Value.ownBlock] at e; omega)
    obtain ⟨a6, k6, rfl⟩ := own_slk19 ho6
    have HO : Hid (w6.ownsRow w.heap.size 76 2 (.slice a6 l.length k6) l.length (fl2 l) ∧ Below w.heap.size w w6) := ⟨ho6, hb6⟩
    clear ho6 hg6 hown hcl ho hb6
    go_wp2
    go_ret
    have h7 := HO.out.1
    obtain ⟨k1, k2⟩ := res_row h7
    exact ⟨⟨a6, l.length, k6⟩, rfl, k1, k2, HO.out.2⟩
/-! ### A new owner -/
set_option maxRecDepth 100000 in
set_option maxHeartbeats 4000000 in
theorem newOwner_any (w : World) (p : Int) (s : Sl) (l : List Int) (hl : RowsAt w 1 intP s l) (hll : l.length ≤ 1024) : Calls Tryz.prog 75 #[I p, .slice s.a s.n s.c] w fun e w' => ∃ (q : Nat) (so : Sl) (sb gb : Nat), e = .returned (lp q) ∧ w'.heap[q]? = some (.cells #[I p, I 0, .slice so.a so.n so.c, I (-1), .bool false, lp sb] 91) ∧ RowsAt w' 1 intP so l ∧ (l ≠ [] → ∃ g, so.a = some ⟨g, 0, none⟩ ∧ w.heap.size ≤ g ∧ g < w'.heap.size ∧ g ≠ q ∧ g ≠ sb ∧ g ≠ gb) ∧ iQ w' sb gb l.length 0 [] ∧ w.heap.size ≤ q ∧ w.heap.size ≤ sb ∧ w.heap.size ≤ gb ∧ Below w.heap.size w w' := by
  have hN := St.iNewQ w l.length hll
  have HL : Hid (RowsAt w 1 intP s l) := hl
  have hsn : s.n = l.length := hl.n
  have HC : Hid (s.n ≤ s.c ∧ s.c ≤ maxLen) := ⟨hl.c, hl.m⟩
  obtain ⟨sa, sn, sc⟩ := s
  subst hsn
  clear hl
  go_enter Tryz.func75, Tryz.ntmps75
  go_upto_region 2 with (first | (go_at_call 123; refine hN.mono ?_; clear hN; rintro e w1 ⟨rfl, hk1, hb1⟩))
  have hCl := cloneI_any w1 ⟨sa, l.length, sc⟩ l (HL.out.below hb1 (fun _ _ _ _ h => h)) (by omega)
  have HK : Hid (iQ w1 (w.heap.size + 1) w.heap.size l.length 0 [] ∧ Below w.heap.size w w1) := ⟨hk1, hb1⟩
  clear hk1 hb1
  go_wp2_with (first | (go_at_call 124; refine hCl.mono ?_; clear hCl; rintro e w2 ⟨so, rfl, h1, h2, h3⟩))
  go_ret
  obtain ⟨hk1, hb1⟩ := HK.out
  have hlt := hk1.lts
  have hb4 := below_alloc w2 (.cells #[I p, I 0, .slice so.a so.n so.c, I (-1), .bool false, lp (w.heap.size + 1)] 91)
  have h5 := h3.size
  refine ⟨w2.heap.size, so, w.heap.size + 1, w.heap.size, rfl, heap_alloc_new _ _, h1.below hb4 (fun _ _ _ _ h => h), fun e => ?_, (hk1.below h3).below hb4, by omega, by omega, by omega, hb1.trans ((h3.trans (hb4.mono h5)).mono (by omega))⟩
  obtain ⟨g, e1, e2, e3⟩ := h2 e
  exact ⟨g, e1, by omega, by simp; omega, by omega, by omega, by omega⟩
end Go.Proofs.YtmllocfeflhjoaaGreat

namespace Go.Proofs.YtmllocfeflhjoaaGreat
open Go.RowKit Go.Maps Go.Shelf Go.Sort
open Go.Proofs.YtmllocfeflhjoaaGreat.St (Fx Fz iQ iP iV)
set_option linter.unusedVariables false
set_option linter.unusedSimpArgs false

/-! ### Owners, gathered one by one -/
def updF {β : Type} (f : Own → β) (o : Own) (x : β) : Own → β := fun z => if z = o then x else f z
theorem updF_same {β : Type} (f : Own → β) (o : Own) (x : β) : updF f o x o = x := if_pos rfl
theorem updF_ne {β : Type} (f : Own → β) {o z : Own} (x : β) (h : z ≠ o) : updF f o x z = f z := if_neg h
structure Gth (w : World) (X0 m n : Nat) (p : Own → Option Nat) (sb gb : Own → Nat) (sl : Own → Sl) (Z : Nat → Prop) (dom : Own → Option Ob) (ins : Own → Bool) (hl : Own → List Int) : Prop where
  mp : OwM w m n p
  lo : X0 ≤ m
  pn : ∀ o, dom o = none → p o = none
  ps : ∀ o b, dom o = some b → o.wf ∧ ∃ q, p o = some q ∧ OwB w b (ins o) (hl o) q (sb o) (gb o) (sl o) ∧ zRow Z (sl o) b.own ∧ X0 ≤ q ∧ X0 ≤ sb o ∧ X0 ≤ gb o
  inj : ∀ o o' q q', p o = some q → p o' = some q' → q = q' ∨ sb o = sb o' ∨ gb o = gb o' → o = o'
  z : ∀ g, Z g → g < w.heap.size ∧ g ≠ m ∧ ∀ o q, p o = some q → g ≠ q ∧ g ≠ sb o ∧ g ≠ gb o
section
variable {w w' : World} {X0 m n : Nat} {p : Own → Option Nat} {sb gb : Own → Nat} {sl : Own → Sl} {Z : Nat → Prop} {dom : Own → Option Ob} {ins : Own → Bool} {hl : Own → List Int}
theorem Gth.pq (h : Gth w X0 m n p sb gb sl Z dom ins hl) {o : Own} {q : Nat} (hq : p o = some q) : ∃ b, dom o = some b ∧ OwB w b (ins o) (hl o) q (sb o) (gb o) (sl o) ∧ X0 ≤ q ∧ X0 ≤ sb o ∧ X0 ≤ gb o := by
  cases ho : dom o with
  | none => rw [h.pn o ho] at hq; cases hq
  | some b =>
    obtain ⟨_, q', hq', hb, _, h1⟩ := h.ps o b ho
    rw [hq] at hq'
    cases hq'
    exact ⟨b, rfl, hb, h1⟩
theorem OwB.lts {b : Ob} {i : Bool} {xs : List Int} {q s g : Nat} {sl : Sl} (h : OwB w b i xs q s g sl) : q < w.heap.size ∧ s < w.heap.size ∧ g < w.heap.size := by
  obtain ⟨hi, hk⟩ := h.k
  exact ⟨heap_lt h.o, hk.lts.1, hk.lts.2⟩
theorem OwB.ne_m {b : Ob} {i : Bool} {xs : List Int} {q s g mm k : Nat} {sl : Sl} {p : Own → Option Nat} (h : OwB w b i xs q s g sl) (hm : OwM w mm k p) : q ≠ mm ∧ s ≠ mm ∧ g ≠ mm := by
  obtain ⟨hi, hk⟩ := h.k
  obtain ⟨cs, hs⟩ := hk.ty
  obtain ⟨ds, hg⟩ := hk.tyg
  exact ⟨hm.ne h.o, hm.ne hs, hm.ne hg⟩
theorem Gth.made (w : World) (X0 n : Nat) (hX : X0 ≤ w.heap.size) (sb gb : Own → Nat) (sl : Own → Sl) (ins : Own → Bool) (hl : Own → List Int) : Gth (w.alloc (.map #[] 0)) X0 w.heap.size n (fun _ => none) sb gb sl (fun _ => False) (fun _ => none) ins hl :=
  ⟨OwM.made w n, hX, fun _ _ => rfl, fun o b h => (by cases h), fun o o' q q' h => (by cases h), fun g h => h.elim⟩
theorem Gth.below (h : Gth w X0 m n p sb gb sl Z dom ins hl) (hb : Below w.heap.size w w') : Gth w' X0 m n p sb gb sl Z dom ins hl := by
  refine ⟨h.mp.kept (hb.block _ h.mp.lt), h.lo, h.pn, fun o b ho => ?_, h.inj, fun g hg => ?_⟩
  · obtain ⟨hw, q, hq, hB, hz, h1⟩ := h.ps o b ho
    exact ⟨hw, q, hq, hB.kept (N := fun _ => False) (Fz.of_below hb) hz id id id (fun _ _ => id), hz, h1⟩
  · obtain ⟨a, b, c⟩ := h.z g hg
    exact ⟨Nat.lt_of_lt_of_le a hb.size, b, c⟩
/-- One more. -/
theorem Gth.step (h : Gth w X0 m n p sb gb sl Z dom ins hl) (hX : X0 ≤ w.heap.size) {o : Own} (hw : o.wf) (hd : dom o = none) {b : Ob} {q s g n' : Nat} {so : Sl} {i : Bool} {xs : List Int} (hi : ins o = i) (hx : hl o = xs) (hm : OwM w' m n' (updF p o (some q))) (hf : Fx [m] w w') (hB : OwB w' b i xs q s g so) (hq : w.heap.size ≤ q) (hs : w.heap.size ≤ s) (hg : w.heap.size ≤ g)
    (hz : b.own ≠ [] → ∃ x off, so.a = some ⟨x, off, none⟩ ∧ (Z x ∨ w.heap.size ≤ x ∧ x < w'.heap.size ∧ x ≠ q ∧ x ≠ s ∧ x ≠ g)) : Gth w' X0 m n' (updF p o (some q)) (updF sb o s) (updF gb o g) (updF sl o so) (fun x => Z x ∨ (w.heap.size ≤ x ∧ x < w'.heap.size ∧ x ≠ q ∧ x ≠ s ∧ x ≠ g)) (updF dom o (some b)) ins hl := by
  have hmlt := h.mp.lt
  have old : ∀ {z r}, p z = some r → r < w.heap.size ∧ sb z < w.heap.size ∧ gb z < w.heap.size := fun hz => by
    obtain ⟨b, _, hB, _⟩ := h.pq hz
    exact hB.lts
  have hpo : p o = none := h.pn o hd
  have hzo := hz
  refine ⟨hm, h.lo, fun z hz => ?_, fun z bz hz => ?_, fun z z' r r' hr hr' he => ?_, fun x hx => ?_⟩
  · by_cases e : z = o
    · subst e; rw [updF_same] at hz; cases hz
    · rw [updF_ne _ _ e] at hz ⊢; exact h.pn z hz
  · by_cases e : z = o
    · subst e
      rw [updF_same] at hz
      cases hz
      refine ⟨hw, q, updF_same _ _ _, ?_, ?_, by omega, by rw [updF_same]; omega, by rw [updF_same]; omega⟩
      · rw [updF_same, updF_same, updF_same, hi, hx]; exact hB
      · intro hne
        obtain ⟨x, off, e1, e2⟩ := hzo hne
        rw [updF_same]
        exact ⟨x, off, e1, e2⟩
    · rw [updF_ne _ _ e] at hz
      obtain ⟨hw2, r, hr, hBz, hzz, h1⟩ := h.ps z bz hz
      have hlt := hBz.lts
      have hnm := hBz.ne_m h.mp
      refine ⟨hw2, r, by rw [updF_ne _ _ e]; exact hr, ?_, ?_, by rw [updF_ne _ _ e, updF_ne _ _ e]; exact h1⟩
      · rw [updF_ne _ _ e, updF_ne _ _ e, updF_ne _ _ e]
        exact hBz.kept (N := fun x => x ∈ [m]) (Fz.of_fx hf (fun _ h => h)) hzz (by simpa using hnm.1) (by simpa using hnm.2.1) (by simpa using hnm.2.2) (fun x hx => by simpa using (h.z x hx).2.1)
      · rw [updF_ne _ _ e]
        intro hne
        obtain ⟨x, off, e1, e2⟩ := hzz hne
        exact ⟨x, off, e1, .inl e2⟩
  · by_cases e : z = o
    · subst e
      by_cases e' : z' = z
      · exact e'.symm
      · rw [updF_same] at hr
        rw [updF_ne _ _ e'] at hr'
        have := old hr'
        rw [updF_same, updF_same, updF_ne _ _ e', updF_ne _ _ e'] at he
        cases hr
        omega
    · rw [updF_ne _ _ e] at hr
      by_cases e' : z' = o
      · subst e'
        rw [updF_same] at hr'
        have := old hr
        rw [updF_same, updF_same, updF_ne _ _ e, updF_ne _ _ e] at he
        cases hr'
        omega
      · rw [updF_ne _ _ e'] at hr'
        rw [updF_ne _ _ e, updF_ne _ _ e, updF_ne _ _ e', updF_ne _ _ e'] at he
        exact h.inj z z' r r' hr hr' he
  · rcases hx with hx | ⟨a1, a2, a3, a4, a5⟩
    · obtain ⟨c1, c2, c3⟩ := h.z x hx
      refine ⟨Nat.lt_of_lt_of_le c1 hf.size, c2, fun z r hr => ?_⟩
      by_cases e : z = o
      · subst e
        rw [updF_same] at hr
        cases hr
        rw [updF_same, updF_same]
        omega
      · rw [updF_ne _ _ e] at hr ⊢
        rw [updF_ne _ _ e]
        exact c3 z r hr
    · refine ⟨a2, by omega, fun z r hr => ?_⟩
      by_cases e : z = o
      · subst e
        rw [updF_same] at hr
        cases hr
        rw [updF_same, updF_same]
        exact ⟨a3, a4, a5⟩
      · rw [updF_ne _ _ e] at hr ⊢
        rw [updF_ne _ _ e]
        have := old hr
        omega
end
end Go.Proofs.YtmllocfeflhjoaaGreat

