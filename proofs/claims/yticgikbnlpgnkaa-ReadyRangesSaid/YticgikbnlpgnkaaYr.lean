import Derived.Test.YticgikbnlpgnkaaYq
import Derived.Maps.AppendAt
namespace Go.Proofs.Yticgikbnlpgnkaa
open Go.RowKit
set_option linter.unusedVariables false
set_option linter.unusedSimpArgs false

/-! ### The document's queue: put, Take -/
theorem own_pos {W : World} {base : Nat} {e : TypeId} {size : Nat} {v : Value} {k : Nat} {xs : List Value} (h : W.ownsRow base e size v k xs) (hk : 0 < k) : ∃ g cap, v = .slice (some ⟨g, 0, none⟩) k cap := by
  rcases h.2 with ⟨_, h0⟩ | ⟨g, cap, _, rfl, _⟩
  · omega
  · exact ⟨g, cap, rfl⟩
section
variable {w : World} {D : Nat} {N Y : Nat → Prop} {rs : List Rr} {vr vl vh : Value} {ls : List Sl}
set_option maxRecDepth 100000 in
set_option maxHeartbeats 4000000 in
theorem dput_tail (h : DV w D N Y rs vr vl vh ls) {i : Nat} {x : Rr} (hi : rs[i]? = some x) (hF : Fall rs) (hn : rs.length ≤ 64) (hN : ∀ b, N b → b < w.heap.size) (hl : x.l.length < x.c) (hc : x.c ≤ 65536) (hh : x.h ≤ 65536) (v : Int) : Calls Try.prog 38 #[dQ D, I x.p, I v, .bool false] w fun e w' => e = .returned (I 0) ∧ DQ w' D N Y (rs.set i ⟨x.p, x.c, max x.h (x.l.length + 1), x.l ++ [v]⟩) ∧ Fz Y w w' := by
  obtain ⟨i0, hi0, hz0, hz1, hz2⟩ := info_parts iinfo
  have hf := dfind_ok h hi hF hn
  have hlt := (List.getElem?_eq_some_iff.1 hi).1
  have hi1 : ¬ (i : Int) < 0 := by omega
  have hiI : (i : Int) < rs.length := by omega
  obtain ⟨c0, c1, c2⟩ := h.cells
  obtain ⟨g, c, s, hvl, hs, hcl, hz, hr⟩ := h.lAt hi
  obtain ⟨g2, cc2, hvr, -, hx1⟩ := h.rowAt hi
  obtain ⟨g3, cc3, hvh, hch, hzh⟩ := h.hAt hi
  have H : Hid (DV w D N Y rs vr vl vh ls ∧ rs[i]? = some x ∧ vl = .slice (some ⟨g, 0, none⟩) rs.length c ∧ vh = .slice (some ⟨g3, 0, none⟩) rs.length cc3) := ⟨h, hi, hvl, hvh⟩
  have hsn := hr.n
  have hlen : ¬ ((x.c : Int) ≤ x.l.length) := by omega
  have hxl : x.l.length < 65536 := by omega
  rw [hvr] at c0
  rw [hvl] at c1
  rw [hvh] at c2
  have HR : Hid (RowsAt w 1 inP s x.l) := hr
  obtain ⟨sa, sn, sc⟩ := s
  simp only at hsn
  subst hsn
  clear hl h hi hF hvl hvr hvh hr hs
  go_enter Try.func38, Try.ntmps38
  go_wp2_with (first | (go_at_call 42; refine hf.mono ?_; rintro e w1 ⟨rfl, rfl⟩; clear hf))
  go_quiet (fail)
  have b1 : Below w.heap.size w (w.drewN nq) := below_drewN nq (Below.refl _ _)
  have c1' : (w.drewN nq).cell? ⟨D, 1, none⟩ = some (.slice (some ⟨g, 0, none⟩) rs.length c) := (b1.cell (p := ⟨D, 1, none⟩) (World.block_lt_of_cell? _ _ c1)).trans c1
  have hcl' : (w.drewN nq).cell? ⟨g, i, none⟩ = some (.slice sa x.l.length sc) := (b1.cell (p := ⟨g, i, none⟩) (World.block_lt_of_cell? _ _ hcl)).trans hcl
  have HR' : Hid (RowsAt (w.drewN nq) 1 inP ⟨sa, x.l.length, sc⟩ x.l) := inRows_kept HR.out (M := fun _ => False) (Fz.of_below b1) (fun _ _ _ e => e)
  clear c0 hx1 c1 hcl HR
  generalize w.drewN nq = W at *
  go_wp2_with (first
    | (at_builtin; refine wpList_append_sl _ rfl _ _ 76 rfl w.heap.size 3 i0 (.int .i64 0) 8 Try.underlying76 hi0 hz0 hz1 hz2 rfl (.slice none 0 0) 0 [] ⟨sa, x.l.length, sc⟩ x.l rfl rfl (World.ownsRow_nil _ _ _ _) HR'.out (by unfold maxLen; omega) (by omega) b1.size ?_; intro v2 w2 h2 hg2; have b2 := b1.grown hg2 b1.size (fun k e => by cases e); rw [Nat.zero_add, List.nil_append] at h2; clear hg2 HR' c1' hcl')
    | (at_builtin; refine wpList_append_own _ rfl _ _ 76 rfl w.heap.size 3 i0 (.int .i64 0) 1 8 Try.underlying76 hi0 hz0 hz1 hz2 rfl (by decide) _ _ _ rfl (h2.alloc _) ⟨w2.heap.size, 0, none⟩ 1 1 [I v] rfl rfl (cell_one_new _ _ _) (by simp [Value.oneCell']) (by unfold maxLen; omega) (by omega) (by have := b2.size; simp; omega) ?_; intro v3 w3 h3 hg3 hn3; have b3 := (b2.alloc b2.size _).grown hg3 (by have := b2.size; simp; omega) (fun k e => (h2.lt k e).1); have n3 := ownsRow_succ h3; rw [intsV_snoc] at h3; clear hg3 h2 hn3
       obtain ⟨⟨sa3, sn3, sc3⟩, e3, hR3, hs3⟩ := own_in h3 (by simp)
       have hsn3 : sn3 = x.l.length + 1 := by have := hR3.n; simpa using this
       subst hsn3
       have e3' : v3 = .slice sa3 (x.l.length + 1) sc3 := e3
       clear n3 e3
       subst e3'
       have D3 := H.out.1.below b3
       have k1 : w3.cell? ⟨D, 1, none⟩ = some (.slice (some ⟨g, 0, none⟩) rs.length c) := by rw [← H.out.2.2.1]; exact D3.cells.2.1
       have k2 : ∃ ov, w3.cell? ⟨g, i, none⟩ = some ov := by
         obtain ⟨g9, c9, s9, e9, _, k9, _⟩ := D3.lAt H.out.2.1
         rw [H.out.2.2.1] at e9
         cases e9
         exact ⟨_, k9⟩
       obtain ⟨ov, k2⟩ := k2
       have k3 : w3.frozen? ⟨g, i, none⟩ = false := by
         obtain ⟨g9, c9, s9, e9, _, _, k9, _⟩ := D3.lAt H.out.2.1
         rw [H.out.2.2.1] at e9
         cases e9
         exact k9 i
       obtain ⟨D4, F4⟩ := D3.setL H.out.2.1 H.out.2.2.1 hR3 (fun b off e => by
         obtain ⟨m1, m2, m3⟩ := hs3 b off e
         refine ⟨fun hb => ?_, fun e9 => ?_, m3⟩
         · have := hN b hb; omega
         · have := (H.out.1.yn b (H.out.1.y b (.inr e9))).1; omega)
       have F5 : Fz Y w (w3.setCell ⟨g, i, none⟩ (.slice sa3 (x.l.length + 1) sc3)) := (Fz.of_below b3).trans F4
       have HD : Hid (DV (w3.setCell ⟨g, i, none⟩ (.slice sa3 (x.l.length + 1) sc3)) D N Y (rs.set i ⟨x.p, x.c, x.h, x.l ++ [v]⟩) vr vl vh (ls.set i ⟨sa3, x.l.length + 1, sc3⟩) ∧ Fz Y w (w3.setCell ⟨g, i, none⟩ (.slice sa3 (x.l.length + 1) sc3))) := ⟨D4, F5⟩
       clear D4 F4 F5 D3 h3 hR3 hs3))

  clear k1 k2 k3
  generalize w3.setCell ⟨g, i, none⟩ (.slice sa3 (x.l.length + 1) sc3) = W4 at *
  have hi4 : (rs.set i ⟨x.p, x.c, x.h, x.l ++ [v]⟩)[i]? = some ⟨x.p, x.c, x.h, x.l ++ [v]⟩ := List.getElem?_set_self hlt
  have k4 : W4.cell? ⟨D, 2, none⟩ = some (.slice (some ⟨g3, 0, none⟩) rs.length cc3) := by rw [← H.out.2.2.2]; exact HD.out.1.cells.2.2
  have k5 : W4.cell? ⟨g3, i, none⟩ = some (I x.h) := by
    obtain ⟨g9, c9, e9, k9, _⟩ := HD.out.1.hAt hi4
    rw [H.out.2.2.2, List.length_set] at e9
    cases e9
    exact k9
  have k6 : W4.frozen? ⟨g3, i, none⟩ = false := by
    obtain ⟨g9, c9, e9, _, k9⟩ := HD.out.1.hAt hi4
    rw [H.out.2.2.2, List.length_set] at e9
    cases e9
    exact k9 i
  have HI4 : Hid ((rs.set i ⟨x.p, x.c, x.h, x.l ++ [v]⟩)[i]? = some ⟨x.p, x.c, x.h, x.l ++ [v]⟩) := hi4
  clear hi4
  have hfin : ∀ q : Int, q = (max x.h (x.l.length + 1) : Nat) → DQ ((W4.setCell ⟨g3, i, none⟩ (I q)).drew) D N Y (rs.set i ⟨x.p, x.c, max x.h (x.l.length + 1), x.l ++ [v]⟩) ∧ Fz Y w ((W4.setCell ⟨g3, i, none⟩ (I q)).drew) := fun q hq => by
    subst hq
    obtain ⟨D6, F6⟩ := HD.out.1.setH HI4.out (g := g3) (c := cc3) (by rw [List.length_set]; exact H.out.2.2.2) (max x.h (x.l.length + 1))
    rw [List.set_set] at D6
    exact ⟨⟨_, _, _, _, D6.below ((Below.refl _ _).drew)⟩, (HD.out.2.trans F6).drewN 1⟩
  clear HD
  by_cases hx : x.h < x.l.length + 1
  · have hM : Hid ((((x.l.length + 1 : Nat)) : Int) = (max x.h (x.l.length + 1) : Nat)) := by show _ = _; omega
    have hx1 : (x.h : Int) < ((x.l.length + 1 : Nat) : Int) := by omega
    have hx2 : ¬ (((x.l.length + 1 : Nat) : Int) ≤ x.h) := by omega
    go_region
    all_goals
      go_wp2
      go_ret
      exact ⟨rfl, hfin _ (by have := hM.out; omega)⟩
  · have hM : Hid ((x.h : Int) = (max x.h (x.l.length + 1) : Nat)) := by show _ = _; omega
    have hx1 : ¬ (x.h : Int) < ((x.l.length + 1 : Nat) : Int) := by omega
    have hx2 : (((x.l.length + 1 : Nat) : Int) ≤ x.h) := by omega
    go_region
    all_goals
      go_wp2
      go_ret
      exact ⟨rfl, hfin _ (by have := hM.out; omega)⟩
set_option maxRecDepth 100000 in
set_option maxHeartbeats 4000000 in
theorem dput_head (h : DV w D N Y rs vr vl vh ls) {i : Nat} {x : Rr} (hi : rs[i]? = some x) (hF : Fall rs) (hn : rs.length ≤ 64) (hN : ∀ b, N b → b < w.heap.size) (hl : x.l.length < x.c) (hc : x.c ≤ 65536) (hh : x.h ≤ 65536) (v : Int) : Calls Try.prog 38 #[dQ D, I x.p, I v, .bool true] w fun e w' => e = .returned (I 0) ∧ DQ w' D N Y (rs.set i ⟨x.p, x.c, max x.h (x.l.length + 1), v :: x.l⟩) ∧ Fz Y w w' := by
  obtain ⟨i0, hi0, hz0, hz1, hz2⟩ := info_parts iinfo
  have hf := dfind_ok h hi hF hn
  have hlt := (List.getElem?_eq_some_iff.1 hi).1
  have hi1 : ¬ (i : Int) < 0 := by omega
  have hiI : (i : Int) < rs.length := by omega
  obtain ⟨c0, c1, c2⟩ := h.cells
  obtain ⟨g, c, s, hvl, hs, hcl, hz, hr⟩ := h.lAt hi
  obtain ⟨g2, cc2, hvr, -, hx1⟩ := h.rowAt hi
  obtain ⟨g3, cc3, hvh, hch, hzh⟩ := h.hAt hi
  have H : Hid (DV w D N Y rs vr vl vh ls ∧ rs[i]? = some x ∧ vl = .slice (some ⟨g, 0, none⟩) rs.length c ∧ vh = .slice (some ⟨g3, 0, none⟩) rs.length cc3) := ⟨h, hi, hvl, hvh⟩
  have hsn := hr.n
  have hlen : ¬ ((x.c : Int) ≤ x.l.length) := by omega
  have hxl : x.l.length < 65536 := by omega
  rw [hvr] at c0
  rw [hvl] at c1
  rw [hvh] at c2
  have HR : Hid (RowsAt w 1 inP s x.l) := hr
  obtain ⟨sa, sn, sc⟩ := s
  simp only at hsn
  subst hsn
  clear hl h hi hF hvl hvr hvh hr hs
  go_enter Try.func38, Try.ntmps38
  go_wp2_with (first | (go_at_call 42; refine hf.mono ?_; rintro e w1 ⟨rfl, rfl⟩; clear hf))
  go_quiet (fail)
  have b1 : Below w.heap.size w (w.drewN nq) := below_drewN nq (Below.refl _ _)
  have c1' : (w.drewN nq).cell? ⟨D, 1, none⟩ = some (.slice (some ⟨g, 0, none⟩) rs.length c) := (b1.cell (p := ⟨D, 1, none⟩) (World.block_lt_of_cell? _ _ c1)).trans c1
  have hcl' : (w.drewN nq).cell? ⟨g, i, none⟩ = some (.slice sa x.l.length sc) := (b1.cell (p := ⟨g, i, none⟩) (World.block_lt_of_cell? _ _ hcl)).trans hcl
  have HR' : Hid (RowsAt (w.drewN nq) 1 inP ⟨sa, x.l.length, sc⟩ x.l) := inRows_kept HR.out (M := fun _ => False) (Fz.of_below b1) (fun _ _ _ e => e)
  clear c0 hx1 c1 hcl HR
  generalize w.drewN nq = W at *
  go_wp2_with (first
    | (at_builtin; refine wpList_append_own _ rfl _ _ 76 rfl w.heap.size 3 i0 (.int .i64 0) 1 8 Try.underlying76 hi0 hz0 hz1 hz2 rfl (by decide) (.slice none 0 0) 0 [] rfl (World.ownsRow_nil _ _ _ _) ⟨W.heap.size, 0, none⟩ 1 1 [I v] rfl rfl (cell_one_new _ _ _) (by simp [Value.oneCell']) (by unfold maxLen; omega) (by omega) (by have := b1.size; simp; omega) ?_; intro v2 w2 h2 hg2 hn2; have bA := b1.alloc b1.size (.cells #[I v] 3); have bB : Below W.heap.size W w2 := (below_alloc W (.cells #[I v] 3)).grown hg2 (by simp) (fun k e => by cases e); have b2 := b1.trans (bB.mono b1.size); rw [Nat.zero_add, List.nil_append] at h2; have c1'' : w2.cell? ⟨D, 1, none⟩ = some (.slice (some ⟨g, 0, none⟩) rs.length c) := (bB.cell (p := ⟨D, 1, none⟩) (World.block_lt_of_cell? _ _ c1')).trans c1'; have hcl'' : w2.cell? ⟨g, i, none⟩ = some (.slice sa x.l.length sc) := (bB.cell (p := ⟨g, i, none⟩) (World.block_lt_of_cell? _ _ hcl')).trans hcl'; have HR'' : Hid (RowsAt w2 1 inP ⟨sa, x.l.length, sc⟩ x.l) := inRows_kept HR'.out (M := fun _ => False) (Fz.of_below bB) (fun _ _ _ e => e); clear hg2 hn2 HR' c1' hcl' bA bB)
    | (at_builtin; refine wpList_append_sl _ rfl _ _ 76 rfl w.heap.size 3 i0 (.int .i64 0) 8 Try.underlying76 hi0 hz0 hz1 hz2 rfl v2 1 [I v] ⟨sa, x.l.length, sc⟩ x.l rfl rfl h2 HR''.out (by unfold maxLen; omega) (by omega) b2.size ?_; intro v3 w3 h3 hg3; have b3 := b2.grown hg3 b2.size (fun k e => (h2.lt k e).1); have n3 : ∃ g cap, v3 = .slice (some ⟨g, 0, none⟩) (1 + x.l.length) cap := own_pos h3 (by omega); rw [List.singleton_append, intsV_cons] at h3; clear hg3 h2 HR'' c1'' hcl''
       obtain ⟨⟨sa3, sn3, sc3⟩, e3, hR3, hs3⟩ := own_in h3 (by simp; omega)
       have hsn3 : sn3 = x.l.length + 1 := by have := hR3.n; simpa using this
       subst hsn3
       have e3' : v3 = .slice sa3 (x.l.length + 1) sc3 := e3
       clear n3 e3
       subst e3'
       have D3 := H.out.1.below b3
       have k1 : w3.cell? ⟨D, 1, none⟩ = some (.slice (some ⟨g, 0, none⟩) rs.length c) := by rw [← H.out.2.2.1]; exact D3.cells.2.1
       have k2 : ∃ ov, w3.cell? ⟨g, i, none⟩ = some ov := by
         obtain ⟨g9, c9, s9, e9, _, k9, _⟩ := D3.lAt H.out.2.1
         rw [H.out.2.2.1] at e9
         cases e9
         exact ⟨_, k9⟩
       obtain ⟨ov, k2⟩ := k2
       have k3 : w3.frozen? ⟨g, i, none⟩ = false := by
         obtain ⟨g9, c9, s9, e9, _, _, k9, _⟩ := D3.lAt H.out.2.1
         rw [H.out.2.2.1] at e9
         cases e9
         exact k9 i
       obtain ⟨D4, F4⟩ := D3.setL H.out.2.1 H.out.2.2.1 hR3 (fun b off e => by
         obtain ⟨m1, m2, m3⟩ := hs3 b off e
         refine ⟨fun hb => ?_, fun e9 => ?_, m3⟩
         · have := hN b hb; omega
         · have := (H.out.1.yn b (H.out.1.y b (.inr e9))).1; omega)
       have F5 : Fz Y w (w3.setCell ⟨g, i, none⟩ (.slice sa3 (x.l.length + 1) sc3)) := (Fz.of_below b3).trans F4
       have HD : Hid (DV (w3.setCell ⟨g, i, none⟩ (.slice sa3 (x.l.length + 1) sc3)) D N Y (rs.set i ⟨x.p, x.c, x.h, v :: x.l⟩) vr vl vh (ls.set i ⟨sa3, x.l.length + 1, sc3⟩) ∧ Fz Y w (w3.setCell ⟨g, i, none⟩ (.slice sa3 (x.l.length + 1) sc3))) := ⟨D4, F5⟩
       clear D4 F4 F5 D3 h3 hR3 hs3))

  clear k1 k2 k3
  generalize w3.setCell ⟨g, i, none⟩ (.slice sa3 (x.l.length + 1) sc3) = W4 at *
  have hi4 : (rs.set i ⟨x.p, x.c, x.h, v :: x.l⟩)[i]? = some ⟨x.p, x.c, x.h, v :: x.l⟩ := List.getElem?_set_self hlt
  have k4 : W4.cell? ⟨D, 2, none⟩ = some (.slice (some ⟨g3, 0, none⟩) rs.length cc3) := by rw [← H.out.2.2.2]; exact HD.out.1.cells.2.2
  have k5 : W4.cell? ⟨g3, i, none⟩ = some (I x.h) := by
    obtain ⟨g9, c9, e9, k9, _⟩ := HD.out.1.hAt hi4
    rw [H.out.2.2.2, List.length_set] at e9
    cases e9
    exact k9
  have k6 : W4.frozen? ⟨g3, i, none⟩ = false := by
    obtain ⟨g9, c9, e9, _, k9⟩ := HD.out.1.hAt hi4
    rw [H.out.2.2.2, List.length_set] at e9
    cases e9
    exact k9 i
  have HI4 : Hid ((rs.set i ⟨x.p, x.c, x.h, v :: x.l⟩)[i]? = some ⟨x.p, x.c, x.h, v :: x.l⟩) := hi4
  clear hi4
  have hfin : ∀ q : Int, q = (max x.h (x.l.length + 1) : Nat) → DQ ((W4.setCell ⟨g3, i, none⟩ (I q)).drew) D N Y (rs.set i ⟨x.p, x.c, max x.h (x.l.length + 1), v :: x.l⟩) ∧ Fz Y w ((W4.setCell ⟨g3, i, none⟩ (I q)).drew) := fun q hq => by
    subst hq
    obtain ⟨D6, F6⟩ := HD.out.1.setH HI4.out (g := g3) (c := cc3) (by rw [List.length_set]; exact H.out.2.2.2) (max x.h (x.l.length + 1))
    rw [List.set_set] at D6
    exact ⟨⟨_, _, _, _, D6.below ((Below.refl _ _).drew)⟩, (HD.out.2.trans F6).drewN 1⟩
  clear HD
  by_cases hx : x.h < x.l.length + 1
  · have hM : Hid ((((x.l.length + 1 : Nat)) : Int) = (max x.h (x.l.length + 1) : Nat)) := by show _ = _; omega
    have hx1 : (x.h : Int) < ((x.l.length + 1 : Nat) : Int) := by omega
    have hx2 : ¬ (((x.l.length + 1 : Nat) : Int) ≤ x.h) := by omega
    go_region
    all_goals
      go_wp2
      go_ret
      exact ⟨rfl, hfin _ (by have := hM.out; omega)⟩
  · have hM : Hid ((x.h : Int) = (max x.h (x.l.length + 1) : Nat)) := by show _ = _; omega
    have hx1 : ¬ (x.h : Int) < ((x.l.length + 1 : Nat) : Int) := by omega
    have hx2 : (((x.l.length + 1 : Nat) : Int) ≤ x.h) := by omega
    go_region
    all_goals
      go_wp2
      go_ret
      exact ⟨rfl, hfin _ (by have := hM.out; omega)⟩
end
end Go.Proofs.Yticgikbnlpgnkaa
