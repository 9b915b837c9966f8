import Derived.Test.YtckmdkdhnhkdhaaZnb
namespace Go.Proofs.Ytckmdkdhnhkdhaa
open Go.RowKit Go.Shelf
set_option linter.unusedVariables false
set_option linter.unusedSimpArgs false
attribute [local go_sem] Oper.semAt_some

/-! ### RingNobody -/
set_option maxRecDepth 100000 in
set_option maxHeartbeats 4000000 in
theorem Nob1_in (n : Nat) (hn : 1 ≤ n) (l Bn : Nat) (p : Option Addr) (W : World) (hBn : W.cell? ⟨Bn, 0, none⟩ = some (.pointer p)) (hp : NobV W p) (J Jx : List Int → World → Prop) (h0 : J [] W) :
    CallsIn Fence.wide n Try.prog 53 #[.func (.yield l) #[] #[], .pointer (some ⟨Bn, 0, none⟩)] W fun e W' => (∃ v, e = .returned v) ∧ ((∃ ys, ys = [] ∧ J ys W') ∨ (∃ pre, False ∧ Jx pre W')) := by
  have hN := hp.nob W (Below.refl _ _)
  refine callsIn_of_wp Try.func53 rfl trivial ?_ rfl
  simp only [Try.ntmps53, List.size_toArray, List.length_cons, List.length_nil, Nat.reduceAdd, Nat.reduceSub, Array.replicate_succ, Array.replicate_zero, List.push_toArray, List.append_toArray, List.nil_append, List.cons_append]
  gi_wp2_with (first
    | (refine ⟨trivial, ?_⟩; gi_at_call 34; refine (callsIn_wide.2 hN).mono ?_; rintro e w1 ⟨rfl, rfl⟩))
  refine bodyPost_ret (results_none rfl _ _ _) rfl ?_
  exact ⟨⟨_, rfl⟩, .inl ⟨[], rfl, h0⟩⟩
theorem Nob_stops (n : Nat) (hn : 1 ≤ n) (Bn : Nat) (p : Option Addr) (w : World) (hBl : Bn < w.heap.size) (hBn : w.cell? ⟨Bn, 0, none⟩ = some (.pointer p)) (hp : NobV w p) :
    SeqStopsK Fence.wide n Try.prog 53 #[.pointer (some ⟨Bn, 0, none⟩)] (fun x : Int => #[Value.int .i64 x]) (Kq (fun _ _ => True)) (fun ys => ys = []) (fun pre => False) 0 w := fun l J Jx W hW hJ _ hY h0 =>
  Nob1_in n hn l Bn p W ((hW.cell (p := ⟨Bn, 0, none⟩) hBl).trans hBn) (hp.below hW) J Jx h0
set_option maxRecDepth 100000 in
set_option maxHeartbeats 8000000 in
theorem nobody_zero (W : World) (s : Sl) (acts : List (Int × Int)) (h : RowsAt W 2 actP s acts) (hl : acts.length ≤ 17592186043904) : Calls Try.prog 5 #[.slice s.a s.n s.c, .bool true] W fun e w' => e = .returned (.bool true) ∧ Below W.heap.size W w' := by
  obtain ⟨a1, n1, c1⟩ := s
  have hn1 := h.n
  simp only at hn1
  subst hn1
  have hse := seq_some
  have key : ∀ (p : Option Addr) (w1 : World), NobV w1 p → Below W.heap.size W w1 → NobV (w1.alloc (.cells #[.bool false, I 0, .slice none 0 0, I 0] 47)) p ∧ Dz (w1.alloc (.cells #[.bool false, I 0, .slice none 0 0, I 0] 47)) w1.heap.size ∧ Below W.heap.size W (w1.alloc (.cells #[.bool false, I 0, .slice none 0 0, I 0] 47)) := fun p w1 hp hb => ⟨hp.below (below_alloc _ _), ⟨heap_alloc_new _ _⟩, hb.alloc hb.size _⟩
  obtain ⟨q1, q2, q3⟩ := key (some ⟨W.heap.size, 0, none⟩) (W.alloc (.cells #[.bool false, .slice none 0 0, I 0, I 0] 62)) (.inr ⟨_, _, rfl, heap_alloc_new W _, rfl⟩) (below_alloc W _)
  rw [World.size_alloc] at q2
  clear key
  refine (callsIn_wide (n := 3)).1 ?_
  refine callsIn_of_wp_marks Try.func5 rfl trivial ?_ rfl
  simp only [Try.ntmps5, List.size_toArray, List.length_cons, List.length_nil, Nat.reduceAdd, Nat.reduceSub, Array.replicate_succ, Array.replicate_zero, List.push_toArray, List.append_toArray, List.nil_append, List.cons_append]
  gi_wp2
  gi_loopw [7] (fun vi wr => ∃ i : Nat, i ≤ acts.length ∧ vi = .int .i64 i ∧ Hid (NobV wr (some ⟨W.heap.size, 0, none⟩) ∧ Dz wr (W.heap.size + 1) ∧ Below W.heap.size W wr)) (fun vi _ => acts.length - (intOf vi).toNat)
  case atStart => exact ⟨0, by omega, rfl, q1, q2, q3⟩
  case round =>
    clear q1 q2 q3
    obtain ⟨i, hi1, rfl, HJ⟩ := hrel
    by_cases hlt : i < acts.length
    · obtain ⟨⟨kd, vv⟩, hx⟩ : ∃ x, acts[i]? = some x := ⟨_, List.getElem?_eq_getElem hlt⟩
      have hltI : (i : Int) < acts.length := by omega
      obtain ⟨ga, off, rfl, hcx⟩ := acts_cell h hx
      obtain ⟨x0, x1⟩ := hcx wr HJ.out.2.2
      clear hcx hx
      gi_wp2_with (first
        | (refine ⟨trivial, ?_⟩; gi_at_call 26; refine (callsIn_wide.2 (nplay_any HJ.out.1 HJ.out.2.1 kd vv)).mono ?_; rintro e w1 ⟨rfl, hb1⟩; have HJ1 : Hid (NobV w1 (some ⟨W.heap.size, 0, none⟩) ∧ Dz w1 (W.heap.size + 1) ∧ Below W.heap.size W w1) := ⟨HJ.out.1.below hb1, HJ.out.2.1.below hb1, HJ.out.2.2.trans (hb1.mono HJ.out.2.2.size)⟩; clear HJ hb1 x0 x1))
      go_roundw
      case rel => exact ⟨i + 1, by omega, by go_num, HJ1.out⟩
      case measure => simp [intOf]; omega
    · obtain rfl : i = acts.length := by omega
      have hge : ¬ ((acts.length : Int) < acts.length) := by omega
      obtain ⟨p1, z1, b1⟩ := HJ.out
      gi_wp2_with (first
        | (refine ⟨trivial, ?_⟩; gi_at_call 27; refine (callsIn_wide.2 (nAll (some ⟨W.heap.size, 0, none⟩) _)).mono ?_; rintro e w1 ⟨rfl, rfl⟩))
      have bb : Below wr.heap.size wr ((wr.alloc (.cells #[.pointer (some ⟨W.heap.size, 0, none⟩)] 23)).alloc (.cells #[.int .i64 0] 3)) := ((Below.refl _ wr).alloc (Nat.le_refl _) _).alloc (by simp) _
      have cB : ((wr.alloc (.cells #[.pointer (some ⟨W.heap.size, 0, none⟩)] 23)).alloc (.cells #[.int .i64 0] 3)).cell? ⟨wr.heap.size, 0, none⟩ = some (.pointer (some ⟨W.heap.size, 0, none⟩)) := by rw [cell_of_row _ _ _ _ _ (0, 0) (heap_over _ _ (heap_alloc_new wr _))]; rfl
      have bn := Boxed.new (wr.alloc (.cells #[.pointer (some ⟨W.heap.size, 0, none⟩)] 23)) 3 (.int .i64 0)
      rw [World.size_alloc] at bn
      have hs2 : ((wr.alloc (.cells #[.pointer (some ⟨W.heap.size, 0, none⟩)] 23)).alloc (.cells #[.int .i64 0] 3)).heap.size = wr.heap.size + 2 := by simp
      have HP : Hid (NobV ((wr.alloc (.cells #[.pointer (some ⟨W.heap.size, 0, none⟩)] 23)).alloc (.cells #[.int .i64 0] 3)) (some ⟨W.heap.size, 0, none⟩) ∧ Below W.heap.size W ((wr.alloc (.cells #[.pointer (some ⟨W.heap.size, 0, none⟩)] 23)).alloc (.cells #[.int .i64 0] 3))) := ⟨p1.below bb, b1.trans (bb.mono b1.size)⟩
      have hWs := b1.size
      clear bb p1 z1 b1 HJ
      generalize ((wr.alloc (.cells #[.pointer (some ⟨W.heap.size, 0, none⟩)] 23)).alloc (.cells #[.int .i64 0] 3)) = W5 at *
      generalize hA : ({ tmps := _, defers := [] } : Act) = a0
      have hg0 : a0.eval (.tmp 35) = .func (.func 53) #[] #[.pointer (some ⟨wr.heap.size, 0, none⟩)] := by rw [← hA]; rfl
      have hd0 : a0.defers = [] := by rw [← hA]
      refine wpIn_rangeFunc_ownG (α := Int) rfl (by omega) (gf := 53) (lb := #[.pointer (some ⟨wr.heap.size, 0, none⟩)]) hg0 trivial (enters_of Try.func53 (by kernel_rfl) rfl)
        (Nob_stops (3 - 1) (by omega) wr.heap.size (some ⟨W.heap.size, 0, none⟩) W5 (by omega) cB HP.out.1) Kq.trans (Kq.put (fun _ _ _ _ _ _ => trivial)) (Below.refl _ _) (fun _ => rfl)
        (fun pre Z => Boxed Z (wr.heap.size + 1) 3 (.int .i64 0) ∧ Below W5.heap.size W5 Z)
        (fun _ _ _ => False)
        (OwnFrom.and (Own.from (boxed_own _ _ _) _) (ownFrom_below (Nat.le_refl _) (Nat.le_refl _)))
        (fun _ _ _ _ _ hs _ _ => hs)
        ⟨bn, Below.refl _ _⟩
        (fun x => { tmps := a0.tmps.setIfInBounds 36 (.int .i64 x), defers := [] }) ?assign ?body ?done ?stop
      case assign =>
        intro l x Z K hK
        gi_wp2
        first | exact hK | simpa using hK
      case body =>
        rintro l pre x Z _ hlt
        exact absurd hlt (Nat.not_lt_zero _)
      case done =>
        rintro D9 ys Z hD9 rfl ⟨hbx, hbz⟩ hK
        subst hA
        have hcn := hbx.cell
        have bZ := HP.out.2.trans (hbz.mono HP.out.2.size)
        have hNZ := (HP.out.1.below hbz).nob
        have R0 := nTop hNZ
        have R1 := nLen hNZ
        have R2 := nDepth hNZ
        have R4 := nHigh hNZ
        have R5 := nCopy hNZ
        clear hse hbx hbz HP
        gi_wp2_with (first
          | (refine ⟨trivial, ?_⟩; gi_at_call 28; refine (callsIn_wide.2 R0).mono ?_; rintro e w6 ⟨rfl, rfl⟩)
          | (refine ⟨trivial, ?_⟩; gi_at_call 13; refine (callsIn_wide.2 R1).mono ?_; rintro e w6 ⟨rfl, rfl⟩)
          | (refine ⟨trivial, ?_⟩; gi_at_call 29; refine (callsIn_wide.2 R2).mono ?_; rintro e w6 ⟨rfl, rfl⟩)
          | (refine ⟨trivial, ?_⟩; gi_at_call 15; refine (callsIn_wide.2 R4).mono ?_; rintro e w6 ⟨rfl, rfl⟩)
          | (refine ⟨trivial, ?_⟩; gi_at_call 30; refine (callsIn_wide.2 R5).mono ?_; rintro e w6 ⟨rfl, rfl⟩)
          | (refine ⟨trivial, ?_⟩; gi_at_call 16; refine (callsIn_wide.2 (alive_any _)).mono ?_; rintro e w8 ⟨rfl, b8⟩))
        have hK8 : w8.heap[D9]? = some (.deferred (some [])) := (b8.block D9 (Array.getElem?_eq_some_iff.1 hK).1).trans hK
        refine ⟨by simp, .inl ⟨_, _, rfl, run_takeDeferred hK8, ?_⟩⟩
        have b9 := bZ.trans (b8.mono bZ.size)
        exact ⟨_, results_tmp rfl _ _ _, rfl, b9.trans (belowK_b (w := W) (Nat.le_refl _) w8 D9 _ _ (by omega) hK8 rfl rfl)⟩
      case stop =>
        rintro D9 c pre Z _ _ hh _
        exact hh.elim
set_option maxRecDepth 100000 in
set_option maxHeartbeats 8000000 in
theorem nobody_nil (W : World) (s : Sl) (acts : List (Int × Int)) (h : RowsAt W 2 actP s acts) (hl : acts.length ≤ 17592186043904) : Calls Try.prog 5 #[.slice s.a s.n s.c, .bool false] W fun e w' => e = .returned (.bool true) ∧ Below W.heap.size W w' := by
  obtain ⟨a1, n1, c1⟩ := s
  have hn1 := h.n
  simp only at hn1
  subst hn1
  have hse := seq_some
  have key : ∀ (p : Option Addr) (w1 : World), NobV w1 p → Below W.heap.size W w1 → NobV (w1.alloc (.cells #[.bool false, I 0, .slice none 0 0, I 0] 47)) p ∧ Dz (w1.alloc (.cells #[.bool false, I 0, .slice none 0 0, I 0] 47)) w1.heap.size ∧ Below W.heap.size W (w1.alloc (.cells #[.bool false, I 0, .slice none 0 0, I 0] 47)) := fun p w1 hp hb => ⟨hp.below (below_alloc _ _), ⟨heap_alloc_new _ _⟩, hb.alloc hb.size _⟩
  obtain ⟨q1, q2, q3⟩ := key none W (.inl rfl) (Below.refl _ _)
  clear key
  refine (callsIn_wide (n := 3)).1 ?_
  refine callsIn_of_wp_marks Try.func5 rfl trivial ?_ rfl
  simp only [Try.ntmps5, List.size_toArray, List.length_cons, List.length_nil, Nat.reduceAdd, Nat.reduceSub, Array.replicate_succ, Array.replicate_zero, List.push_toArray, List.append_toArray, List.nil_append, List.cons_append]
  gi_wp2
  gi_loopw [7] (fun vi wr => ∃ i : Nat, i ≤ acts.length ∧ vi = .int .i64 i ∧ Hid (NobV wr none ∧ Dz wr W.heap.size ∧ Below W.heap.size W wr)) (fun vi _ => acts.length - (intOf vi).toNat)
  case atStart => exact ⟨0, by omega, rfl, q1, q2, q3⟩
  case round =>
    clear q1 q2 q3
    obtain ⟨i, hi1, rfl, HJ⟩ := hrel
    by_cases hlt : i < acts.length
    · obtain ⟨⟨kd, vv⟩, hx⟩ : ∃ x, acts[i]? = some x := ⟨_, List.getElem?_eq_getElem hlt⟩
      have hltI : (i : Int) < acts.length := by omega
      obtain ⟨ga, off, rfl, hcx⟩ := acts_cell h hx
      obtain ⟨x0, x1⟩ := hcx wr HJ.out.2.2
      clear hcx hx
      gi_wp2_with (first
        | (refine ⟨trivial, ?_⟩; gi_at_call 26; refine (callsIn_wide.2 (nplay_any HJ.out.1 HJ.out.2.1 kd vv)).mono ?_; rintro e w1 ⟨rfl, hb1⟩; have HJ1 : Hid (NobV w1 none ∧ Dz w1 W.heap.size ∧ Below W.heap.size W w1) := ⟨HJ.out.1.below hb1, HJ.out.2.1.below hb1, HJ.out.2.2.trans (hb1.mono HJ.out.2.2.size)⟩; clear HJ hb1 x0 x1))
      go_roundw
      case rel => exact ⟨i + 1, by omega, by go_num, HJ1.out⟩
      case measure => simp [intOf]; omega
    · obtain rfl : i = acts.length := by omega
      have hge : ¬ ((acts.length : Int) < acts.length) := by omega
      obtain ⟨p1, z1, b1⟩ := HJ.out
      gi_wp2_with (first
        | (refine ⟨trivial, ?_⟩; gi_at_call 27; refine (callsIn_wide.2 (nAll none _)).mono ?_; rintro e w1 ⟨rfl, rfl⟩))
      have bb : Below wr.heap.size wr ((wr.alloc (.cells #[.pointer none] 23)).alloc (.cells #[.int .i64 0] 3)) := ((Below.refl _ wr).alloc (Nat.le_refl _) _).alloc (by simp) _
      have cB : ((wr.alloc (.cells #[.pointer none] 23)).alloc (.cells #[.int .i64 0] 3)).cell? ⟨wr.heap.size, 0, none⟩ = some (.pointer none) := by rw [cell_of_row _ _ _ _ _ (0, 0) (heap_over _ _ (heap_alloc_new wr _))]; rfl
      have bn := Boxed.new (wr.alloc (.cells #[.pointer none] 23)) 3 (.int .i64 0)
      rw [World.size_alloc] at bn
      have hs2 : ((wr.alloc (.cells #[.pointer none] 23)).alloc (.cells #[.int .i64 0] 3)).heap.size = wr.heap.size + 2 := by simp
      have HP : Hid (NobV ((wr.alloc (.cells #[.pointer none] 23)).alloc (.cells #[.int .i64 0] 3)) none ∧ Below W.heap.size W ((wr.alloc (.cells #[.pointer none] 23)).alloc (.cells #[.int .i64 0] 3))) := ⟨p1.below bb, b1.trans (bb.mono b1.size)⟩
      have hWs := b1.size
      clear bb p1 z1 b1 HJ
      generalize ((wr.alloc (.cells #[.pointer none] 23)).alloc (.cells #[.int .i64 0] 3)) = W5 at *
      generalize hA : ({ tmps := _, defers := [] } : Act) = a0
      have hg0 : a0.eval (.tmp 35) = .func (.func 53) #[] #[.pointer (some ⟨wr.heap.size, 0, none⟩)] := by rw [← hA]; rfl
      have hd0 : a0.defers = [] := by rw [← hA]
      refine wpIn_rangeFunc_ownG (α := Int) rfl (by omega) (gf := 53) (lb := #[.pointer (some ⟨wr.heap.size, 0, none⟩)]) hg0 trivial (enters_of Try.func53 (by kernel_rfl) rfl)
        (Nob_stops (3 - 1) (by omega) wr.heap.size none W5 (by omega) cB HP.out.1) Kq.trans (Kq.put (fun _ _ _ _ _ _ => trivial)) (Below.refl _ _) (fun _ => rfl)
        (fun pre Z => Boxed Z (wr.heap.size + 1) 3 (.int .i64 0) ∧ Below W5.heap.size W5 Z)
        (fun _ _ _ => False)
        (OwnFrom.and (Own.from (boxed_own _ _ _) _) (ownFrom_below (Nat.le_refl _) (Nat.le_refl _)))
        (fun _ _ _ _ _ hs _ _ => hs)
        ⟨bn, Below.refl _ _⟩
        (fun x => { tmps := a0.tmps.setIfInBounds 36 (.int .i64 x), defers := [] }) ?assign ?body ?done ?stop
      case assign =>
        intro l x Z K hK
        gi_wp2
        first | exact hK | simpa using hK
      case body =>
        rintro l pre x Z _ hlt
        exact absurd hlt (Nat.not_lt_zero _)
      case done =>
        rintro D9 ys Z hD9 rfl ⟨hbx, hbz⟩ hK
        subst hA
        have hcn := hbx.cell
        have bZ := HP.out.2.trans (hbz.mono HP.out.2.size)
        have hNZ := (HP.out.1.below hbz).nob
        have R0 := nTop hNZ
        have R1 := nLen hNZ
        have R2 := nDepth hNZ
        have R4 := nHigh hNZ
        have R5 := nCopy hNZ
        clear hse hbx hbz HP
        gi_wp2_with (first
          | (refine ⟨trivial, ?_⟩; gi_at_call 28; refine (callsIn_wide.2 R0).mono ?_; rintro e w6 ⟨rfl, rfl⟩)
          | (refine ⟨trivial, ?_⟩; gi_at_call 13; refine (callsIn_wide.2 R1).mono ?_; rintro e w6 ⟨rfl, rfl⟩)
          | (refine ⟨trivial, ?_⟩; gi_at_call 29; refine (callsIn_wide.2 R2).mono ?_; rintro e w6 ⟨rfl, rfl⟩)
          | (refine ⟨trivial, ?_⟩; gi_at_call 15; refine (callsIn_wide.2 R4).mono ?_; rintro e w6 ⟨rfl, rfl⟩)
          | (refine ⟨trivial, ?_⟩; gi_at_call 30; refine (callsIn_wide.2 R5).mono ?_; rintro e w6 ⟨rfl, rfl⟩)
          | (refine ⟨trivial, ?_⟩; gi_at_call 16; refine (callsIn_wide.2 (alive_any _)).mono ?_; rintro e w8 ⟨rfl, b8⟩))
        have hK8 : w8.heap[D9]? = some (.deferred (some [])) := (b8.block D9 (Array.getElem?_eq_some_iff.1 hK).1).trans hK
        refine ⟨by simp, .inl ⟨_, _, rfl, run_takeDeferred hK8, ?_⟩⟩
        have b9 := bZ.trans (b8.mono bZ.size)
        exact ⟨_, results_tmp rfl _ _ _, rfl, b9.trans (belowK_b (w := W) (Nat.le_refl _) w8 D9 _ _ (by omega) hK8 rfl rfl)⟩
      case stop =>
        rintro D9 c pre Z _ _ hh _
        exact hh.elim
theorem nobody_any (W : World) (s : Sl) (acts : List (Int × Int)) (h : RowsAt W 2 actP s acts) (hl : acts.length ≤ 17592186043904) (pl : Bool) : Calls Try.prog 5 #[.slice s.a s.n s.c, .bool pl] W fun e w' => e = .returned (.bool true) ∧ Below W.heap.size W w' := by
  cases pl with
  | false => exact nobody_nil W s acts h hl
  | true => exact nobody_zero W s acts h hl
end Go.Proofs.Ytckmdkdhnhkdhaa
