import Derived.Test.YticgikbnlpgnkaaYf
namespace Go.Proofs.Yticgikbnlpgnkaa
open Go.RowKit Go.Shelf
set_option linter.unusedVariables false
set_option linter.unusedSimpArgs false
attribute [local go_sem] Oper.semAt_some

/-! ### Ranging over a queue's ring -/
def ptrA : Option Ri → Option Addr
  | some x => some ⟨x.B, 0, none⟩
  | none => none
theorem ptrOf_eq (x : Option Ri) : ptrOf x = .pointer (ptrA x) := by cases x <;> rfl
theorem All_ptr (q : Option Addr) (w : World) : Calls Try.prog 60 #[.pointer q] w fun e w' => e = .returned (.func (.func 63) #[] #[.pointer (some ⟨w.heap.size, 0, none⟩)]) ∧ w' = w.alloc (.cells #[.pointer q] 53) := by
  go_enter Try.func60, Try.ntmps60
  go_wp2
  go_ret
  exact ⟨rfl, rfl⟩
set_option maxRecDepth 100000 in
set_option maxHeartbeats 4000000 in
theorem All1_nil (n : Nat) (hn : 1 ≤ n) (l Bn : Nat) (J Jx : List Int → World → Prop) (W : World) (hBn : W.cell? ⟨Bn, 0, none⟩ = some (.pointer none)) (h0 : J [] W) :
    CallsIn Fence.wide n Try.prog 63 #[.func (.yield l) #[] #[], .pointer (some ⟨Bn, 0, none⟩)] W fun e W' => (∃ v, e = .returned v) ∧
      ((∃ ys, ys = [] ∧ J ys W') ∨ (∃ pre, pre <+: ([] : List Int) ∧ Jx pre W')) := by
  have hN := inone_nil W
  refine callsIn_of_wp Try.func63 rfl trivial ?_ rfl
  simp only [Try.ntmps63, List.size_toArray, List.length_cons, List.length_nil, Nat.reduceAdd, Nat.reduceSub, Array.replicate_succ, Array.replicate_zero, List.push_toArray, List.append_toArray, List.nil_append, List.cons_append]
  gi_wp2_with (first
    | (refine ⟨trivial, ?_⟩; gi_at_call 58; refine (callsIn_wide.2 hN).mono ?_; rintro e w1 ⟨rfl, rfl⟩))
  refine bodyPost_ret (results_none rfl _ _ _) rfl ?_
  exact ⟨⟨_, rfl⟩, .inl ⟨[], rfl, h0⟩⟩
theorem AllAt_stops (n : Nat) (hn : 1 ≤ n) (Bn : Nat) (M : World → Nat → Prop) {w : World} {Q F : Nat} {f : RS} (h : Qm w Q F f) (o : Option Ri) (ho : ∀ x, o = some x → ∃ p, f p = some x) (hBl : Bn < w.heap.size) (hBn : w.cell? ⟨Bn, 0, none⟩ = some (.pointer (ptrA o))) (hMW : ∀ W' b, Below w.heap.size w W' → M W' b → b < w.heap.size) :
    SeqStopsK Fence.wide n Try.prog 63 #[.pointer (some ⟨Bn, 0, none⟩)] (fun x : Int => #[Value.int .i64 x]) (Kq M) (fun ys => ys = o.elim [] (·.l)) (fun pre => pre <+: o.elim [] (·.l)) (o.elim [] (·.l)).length w := by
  cases o with
  | none => exact fun l J Jx W hW hJ _ hY h0 => All1_nil n hn l Bn J Jx W ((hW.cell (p := ⟨Bn, 0, none⟩) hBl).trans hBn) h0
  | some x =>
    obtain ⟨p, hp⟩ := ho x rfl
    exact All_stops n hn Bn M x.l x.B x.g x.c x.h w hBl hBn (h.r p x hp).2.2 hMW
theorem oLen (w : World) {Q F : Nat} {f : RS} (h : Qm w Q F f) (o : Option Ri) (ho : ∀ x, o = some x → ∃ p, f p = some x) : (Calls Try.prog 35 #[.pointer (ptrA o)] w fun e w' => e = .returned (I (o.elim [] (·.l)).length) ∧ w = w') ∧ (o.elim [] (·.l)).length ≤ 65536 := by
  cases o with
  | none => exact ⟨iLen_nil w, by simp⟩
  | some x =>
    obtain ⟨p, hp⟩ := ho x rfl
    have hq := (h.r p x hp).2.2
    have := iLenQ hq
    rw [intsV_len] at this
    have h1 := hq.le
    have h2 := hq.m
    rw [intsV_len] at h1
    exact ⟨this, by simp; omega⟩
set_option maxRecDepth 100000 in
set_option maxHeartbeats 4000000 in
/-- q.Ring(p), wherever ringOf gives this ring. -/
theorem qRing_o (w : World) (u : Value) (p : Int) (o : Option Ri) (hR : Calls Try.prog 37 #[u, I p] w fun e w' => e = .returned (.pointer (ptrA o)) ∧ w = w') (hL : Calls Try.prog 35 #[.pointer (ptrA o)] w fun e w' => e = .returned (I (o.elim [] (·.l)).length) ∧ w = w') (hle : (o.elim [] (·.l)).length ≤ 65536)
    (hS : ∀ (W : World) (Bn : Nat) (M : World → Nat → Prop), Below w.heap.size w W → Bn < W.heap.size → W.cell? ⟨Bn, 0, none⟩ = some (.pointer (ptrA o)) → (∀ W' b, Below W.heap.size W W' → M W' b → b < W.heap.size) → SeqStopsK Fence.wide (3 - 1) Try.prog 63 #[.pointer (some ⟨Bn, 0, none⟩)] (fun x : Int => #[Value.int .i64 x]) (Kq M) (fun ys => ys = o.elim [] (·.l)) (fun pre => pre <+: o.elim [] (·.l)) (o.elim [] (·.l)).length W) :
    Calls Try.prog 43 #[u, I p] w fun e w' => ∃ v, e = .returned v ∧ w'.ownsRow w.heap.size 3 1 v (o.elim [] (·.l)).length (intsV (o.elim [] (·.l))) ∧ Below w.heap.size w w' := by
  obtain ⟨i0, hi0, hz0, hz1, hz2⟩ := info_parts iinfo
  generalize (o.elim [] (·.l)) = xs at *
  generalize ptrA o = q at *
  obtain ⟨w2, hmk, hO2, hg2⟩ := run_make_own (P := Try.prog) w w.heap.size 76 3 i0 (.int .i64 0) 1 Try.underlying76 hi0 hz0 hz1 .i64 .i64 xs.length (by rw [hz2]; omega) (by unfold maxLen; omega) (Nat.le_refl _)
  have b2 : Below w.heap.size w w2 := (Below.refl _ w).grown hg2 (Nat.le_refl _) (fun k e => by cases e)
  have hst := run_storeCells_new (P := Try.prog) w2 76 #[.slice none 0 0] #[.slice (some ⟨w.heap.size, 0, none⟩) 0 xs.length] (by kernel_rfl) rfl (by simp [Value.oneCell'])
  refine (callsIn_wide (n := 3)).1 ?_
  refine callsIn_of_wp_marks Try.func43 rfl trivial ?_ rfl
  simp only [Try.ntmps43, List.size_toArray, List.length_cons, List.length_nil, Nat.reduceAdd, Nat.reduceSub, Array.replicate_succ, Array.replicate_zero, List.push_toArray, List.append_toArray, List.nil_append, List.cons_append]
  gi_wp2_with (first
    | (refine ⟨trivial, ?_⟩; gi_at_call 37; refine (callsIn_wide.2 hR).mono ?_; rintro e w1 ⟨rfl, rfl⟩)
    | (refine ⟨trivial, ?_⟩; gi_at_call 35; refine (callsIn_wide.2 hL).mono ?_; rintro e w1 ⟨rfl, rfl⟩)
    | (refine ⟨trivial, ?_⟩; gi_at_call 60; refine (callsIn_wide.2 (All_ptr q _)).mono ?_; rintro e w1 ⟨rfl, rfl⟩))
  have hs2 : w.heap.size ≤ w2.heap.size := b2.size
  have hX : w.heap.size < w2.heap.size := (hO2.lt w.heap.size rfl).2
  have bO := Boxed.new w2 76 (.slice (some ⟨w.heap.size, 0, none⟩) 0 xs.length)
  have bN := Boxed.new (w2.alloc (.cells #[.slice (some ⟨w.heap.size, 0, none⟩) 0 xs.length] 76)) 53 (.pointer q)
  rw [World.size_alloc] at bN
  have hB0 : Below w.heap.size w ((w2.alloc (.cells #[.slice (some ⟨w.heap.size, 0, none⟩) 0 xs.length] 76)).alloc (.cells #[.pointer q] 53)) := (b2.alloc b2.size _).alloc (by simp; omega) _
  have bO2 := bO.alloc (.cells #[.pointer q] 53)
  have hO3 : ((w2.alloc (.cells #[.slice (some ⟨w.heap.size, 0, none⟩) 0 xs.length] 76)).alloc (.cells #[.pointer q] 53)).ownsRow w.heap.size 3 1 (.slice (some ⟨w.heap.size, 0, none⟩) 0 xs.length) 0 [] := (hO2.alloc _).alloc _
  refine wpIn_rangeFunc_ownG rfl (by omega) (gf := 63) (lb := #[.pointer (some ⟨w2.heap.size + 1, 0, none⟩)]) rfl trivial (enters_of Try.func63 (by kernel_rfl) rfl)
    (hS _ (w2.heap.size + 1) (Mbox w2.heap.size) hB0 (by simp) bN.cell (fun W' b hb hm => by
      rcases hm with e | ⟨u, hu, e⟩
      · simp; omega
      · rw [hb.cell (p := ⟨w2.heap.size, 0, none⟩) (by simp; omega), bO2.cell] at hu
        cases hu
        cases e
        simp
        omega)) Kq.trans (Kq.put (fun W l o b hl hm => by
      have hne : w2.heap.size ≠ l := by simp at hl; omega
      rcases hm with e | ⟨u, hu, e⟩
      · exact .inl e
      · exact .inr ⟨u, by rw [← hu]; exact (World.cell?_of_block (World.putObj_heap_other hne)).symm, e⟩)) (Below.refl _ _) (fun _ => rfl)
    (fun pre W => (∃ v, Boxed W w2.heap.size 76 v ∧ W.ownsRow w.heap.size 3 1 v pre.length (intsV pre) ∧ True) ∧ Below w.heap.size w W)
    (fun _ _ _ => False)
    (OwnFrom.and (Own.from (holdsRow_own w.heap.size w2.heap.size 76 3 1 (fun pre => List.length pre) (fun pre => intsV pre) (fun pre v => True)) _) (ownFrom_below (Nat.le_refl _) (by simp; omega)))
    (fun _ _ _ _ _ hs _ _ => hs)
    ⟨⟨_, bO2, hO3, trivial⟩, hB0⟩
    (fun x => { tmps := #[u, I p, undef, undef, .slice none 0 0, .pointer q, .pointer (some ⟨w2.heap.size, 0, none⟩), .int .i64 x, u, I p, .pointer q, .pointer q, I xs.length, .slice (some ⟨w.heap.size, 0, none⟩) 0 xs.length, .pointer q, .func (.func 63) #[] #[.pointer (some ⟨w2.heap.size + 1, 0, none⟩)], .int .i64 x, undef, undef, undef, undef, undef], defers := [] }) ?assign ?body ?done ?stop
  case assign =>
    intro l x W K hK
    gi_wp2
    exact hK
  case body =>
    rintro l pre x W ⟨⟨v, hv, hrow, _⟩, hB⟩ hlt
    have hc := hv.cell
    clear hst hmk
    gi_wp2_with (gi_at_builtin; refine wpListIn_append_own_at _ rfl _ _ 76 rfl w.heap.size 3 i0 (.int .i64 0) 1 8 Try.underlying76 hi0 hz0 hz1 hz2 rfl (by decide) _ _ _ rfl (hrow.alloc _) ⟨W.heap.size, 0, none⟩ 1 1 [.int .i64 x] rfl rfl (cell_one_new _ _ _) (by simp [Value.oneCell']) (by unfold maxLen; omega) (by omega) (by have := hB.size; simp; omega) ?_; intro v' w1 hown' hgrow _ hat; obtain ⟨g', cap', rfl⟩ := ownsRow_succ hown'; obtain ⟨hv1, hv2, hr2, hk2, hb2⟩ := hv.appended (by decide) hrow hB.size hs2 hown' hgrow; have hc1 := hv1.cell; have hf1 := hv1.frozen; have hKq := Mbox.app hv hv2 hgrow hat)
    exact ⟨hk2.from _, hKq, ⟨_, hv2, by simpa [intsV] using hr2, trivial⟩, hB.trans hb2⟩
  case done =>
    rintro D ys W hD rfl ⟨⟨v, hv, hrow, _⟩, hB⟩ hK
    have hc := hv.cell
    clear hst hmk
    gi_wp2
    refine ⟨by simp, .inl ⟨_, _, rfl, run_takeDeferred hK, ?_⟩⟩
    exact ⟨_, results_tmp rfl _ _ _, v, rfl, ownsRow_putObj hrow _ hK rfl, hB.trans (belowK_b (w := w) (Nat.le_refl _) W D _ _ (by simp at hD; omega) hK rfl rfl)⟩
  case stop =>
    rintro D c pre W _ _ h _
    exact h.elim
section
variable {w : World} {Q F : Nat} {f : RS}
theorem ringAt_of (f : RS) (p : Int) (x : Ri) (h : ringAt f p = some x) : ∃ n, f n = some x := ⟨_, ringAt_some h⟩
theorem qRing_any (h : Qm w Q F f) (p : Int) : Calls Try.prog 43 #[qP Q, I p] w fun e w' => ∃ v, e = .returned v ∧ w'.ownsRow w.heap.size 3 1 v ((ringAt f p).elim [] (·.l)).length (intsV ((ringAt f p).elim [] (·.l))) ∧ Below w.heap.size w w' := by
  have hR := qringOf_any h p
  rw [ptrOf_eq] at hR
  obtain ⟨h1, h2⟩ := oLen w h (ringAt f p) (ringAt_of f p)
  exact qRing_o w (qP Q) p (ringAt f p) hR h1 h2 (fun W Bn M hb hl hc hM => AllAt_stops 2 (by omega) Bn M (h.below hb) (ringAt f p) (ringAt_of f p) hl hc hM)
theorem qRing_none {v : Value} (hN : Calls Try.prog 33 #[v] w fun e w' => e = .returned (.bool true) ∧ w = w') (p : Int) : Calls Try.prog 43 #[v, I p] w fun e w' => ∃ u, e = .returned u ∧ w'.ownsRow w.heap.size 3 1 u 0 [] ∧ Below w.heap.size w w' :=
  qRing_o w v p none (qringOf_none hN p) (iLen_nil w) (by simp) (fun W Bn M hb hl hc hM l J Jx W2 hW hJ _ hY h0 => All1_nil 2 (by omega) l Bn J Jx W2 ((hW.cell (p := ⟨Bn, 0, none⟩) hl).trans hc) h0)
end
end Go.Proofs.Yticgikbnlpgnkaa
