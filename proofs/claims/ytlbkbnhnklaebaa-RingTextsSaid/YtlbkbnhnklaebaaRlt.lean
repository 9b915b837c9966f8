import Derived.Test.YtlbkbnhnklaebaaRft1
import Derived.Test.YtlbkbnhnklaebaaRax
import Derived.Deep.Cut
import Derived.Deep.CutBlock
namespace Go.Proofs.Ytlbkbnhnklaebaa
open Go.RowKit
set_option linter.unusedVariables false
set_option linter.unusedSimpArgs false

/-! ### RingTexts -/
def tQ (w : World) (B g n hi : Nat) (l : List Tx) : Prop := ∃ f R, tRg w B g n f hi R l
def thAt (ts : List Tx) (k : Nat) : Tx := (ts[k]?).getD zx
/-- The ring of texts and the document's ring of their numbers. -/
structure Tt (W wr : World) (ts : List Tx) (B g D n hi : Nat) (ks : List Nat) : Prop where
  q : tQ wr B g n hi (ks.map (thAt ts))
  d : ∃ v, Dg wr D n hi v (ks.map (fun k : Nat => (k : Int)))
  k : ∀ k ∈ ks, k < ts.length
  b : Below W.heap.size W wr
  s : W.heap.size ≤ B ∧ W.heap.size ≤ g ∧ W.heap.size ≤ D
theorem txs_cell {W : World} {a : Option Addr} {n c : Nat} {l : List Tx} (h : RowsAt W 2 txtP ⟨a, n, c⟩ l) {i : Nat} {x : Tx} (hx : l[i]? = some x) : ∃ g off, a = some ⟨g, off, none⟩ ∧ ∀ Z, Below W.heap.size W Z → Z.cell? ⟨g, off + i * 2, none⟩ = some (.string x.1) ∧ Z.cell? ⟨g, off + i * 2 + 1, none⟩ = some (I x.2) := by
  obtain ⟨g, off, e, hg, hr⟩ := h.row i _ hx
  refine ⟨g, off, e, fun Z hZ => ?_⟩
  obtain ⟨u0, h0, p0⟩ := hr 0 (by omega)
  obtain ⟨u1, h1, p1⟩ := hr 1 (by omega)
  have e0 := p0.1 rfl
  have e1 := p1.2 rfl
  subst e0 e1
  exact ⟨(hZ.cell (p := ⟨g, off + i * 2, none⟩) hg).trans (by simpa using h0), (hZ.cell (p := ⟨g, off + i * 2 + 1, none⟩) hg).trans h1⟩
theorem tx_same (W : World) (s : ByteArray) (k : Int) : (binOp .neq 42 (.agg #[.string s, I k]) (.agg #[.string s, I k])).run Try.prog W = .ok (.bool false) W := by
  simp [go_sem]
theorem tmod_hi (v : Int) {n : Nat} (h : 0 < n) : v.tmod (n : Int) < n := Int.tmod_lt_of_pos v (by omega)
theorem tmod_lo (v : Int) {n : Nat} (h : 0 < n) : -(n : Int) < v.tmod (n : Int) := by
  have h1 := Int.tmod_lt_of_pos (-v) (b := (n : Int)) (by omega)
  rw [Int.neg_tmod] at h1
  omega
section
variable {W wr : World} {ts : List Tx} {B g D n hi : Nat} {ks : List Nat}
theorem Tt.below {w' : World} (h : Tt W wr ts B g D n hi ks) (hb : Below wr.heap.size wr w') : Tt W w' ts B g D n hi ks := by
  obtain ⟨f, R, hq⟩ := h.q
  obtain ⟨v, hd⟩ := h.d
  exact ⟨⟨f, R, hq.below hb⟩, ⟨v, hd.below hb⟩, h.k, h.b.trans (hb.mono h.b.size), h.s⟩
theorem Tt.le (h : Tt W wr ts B g D n hi ks) : ks.length ≤ n ∧ n ≤ 65536 := by
  obtain ⟨f, R, hq⟩ := h.q
  have := hq.lle
  exact ⟨by simpa using this, hq.m⟩
/-- between the ring's call and the document's -/
structure Tm (W wr : World) (ts : List Tx) (B g D n hi hi' : Nat) (ks ks' : List Nat) : Prop where
  q : tQ wr B g n hi' (ks'.map (thAt ts))
  d : ∃ v, Dg wr D n hi v (ks.map (fun k : Nat => (k : Int)))
  k : ∀ k ∈ ks, k < ts.length
  b : Below W.heap.size W wr
  s : W.heap.size ≤ B ∧ W.heap.size ≤ g ∧ W.heap.size ≤ D
  ne : D ≠ B ∧ D ≠ g
theorem Tt.mid {w' : World} {hi' : Nat} {ks' : List Nat} (h : Tt W wr ts B g D n hi ks) (hq : tQ w' B g n hi' (ks'.map (thAt ts))) (hf : Fx [B, g] wr w') : Tm W w' ts B g D n hi hi' ks ks' := by
  obtain ⟨f, R, hq0⟩ := h.q
  obtain ⟨v, hd⟩ := h.d
  have hD : D ≠ B ∧ D ≠ g := by
    refine ⟨fun e => ?_, fun e => ?_⟩
    · subst e; have := hd.o; rw [hq0.o] at this; simp only [Option.some.injEq, Obj.cells.injEq] at this; exact absurd this.2.1 (by decide)
    · subst e; have := hd.o; rw [hq0.q] at this; simp only [Option.some.injEq, Obj.cells.injEq] at this; exact absurd this.2.1 (by decide)
  refine ⟨hq, ⟨v, hf.heap hd.o (by simp; exact hD), hf.own hd.p (fun k e => ?_), hd.m, hd.y⟩, h.k, h.b.trans (hf.below h.b.size (by have := h.s; simp; omega)), h.s, hD⟩
  rcases hd.p.2 with ⟨h2, _⟩ | ⟨g', cap, cur, h2, _, hh, _⟩
  · rw [h2] at e; cases e
  · rw [h2] at e
    obtain rfl : g' = k := by simpa [Value.ownBlock] using e
    simp
    refine ⟨fun e => ?_, fun e => ?_⟩
    · subst e; rw [hq0.o] at hh; simp only [Option.some.injEq, Obj.cells.injEq] at hh; exact absurd hh.2.1 (by decide)
    · subst e; rw [hq0.q] at hh; simp only [Option.some.injEq, Obj.cells.injEq] at hh; exact absurd hh.2.1 (by decide)
theorem Tm.below {w' : World} {hi' : Nat} {ks' : List Nat} (h : Tm W wr ts B g D n hi hi' ks ks') (hb : Below wr.heap.size wr w') : Tm W w' ts B g D n hi hi' ks ks' := by
  obtain ⟨f, R, hq⟩ := h.q
  obtain ⟨v, hd⟩ := h.d
  exact ⟨⟨f, R, hq.below hb⟩, ⟨v, hd.below hb⟩, h.k, h.b.trans (hb.mono h.b.size), h.s, h.ne⟩
theorem Tm.fin {w' : World} {hi' : Nat} {ks' : List Nat} {v' : Value} (h : Tm W wr ts B g D n hi hi' ks ks') (hd : Dg w' D n hi' v' (ks'.map (fun k : Nat => (k : Int)))) (hk : ∀ k ∈ ks', k < ts.length) (hf : Fx [D] wr w') : Tt W w' ts B g D n hi' ks' := by
  obtain ⟨f, R, hq⟩ := h.q
  exact ⟨⟨f, R, hq.kept hf (by simp; exact fun e => h.ne.1 e.symm) (by simp; exact fun e => h.ne.2 e.symm)⟩, ⟨v', hd⟩, hk, h.b.trans (hf.below h.b.size (by have := h.s; simp; omega)), h.s⟩
theorem Tt.last {kk : Nat} {x : Tx} (h : Tt W wr ts B g D n hi ks) (hc : ks.length < n) (hx : thAt ts kk = x) : Calls Try.prog 19 #[tP B, .agg #[.string x.1, I x.2]] wr fun e w' => e = .returned (I 0) ∧ Tm W w' ts B g D n hi (max hi (ks.length + 1)) ks (ks ++ [kk]) ∧ Fx [B, g] wr w' := by
  obtain ⟨f, R, hq⟩ := h.q
  refine (tLast_ok hq (by simpa using hc) x.1 x.2).mono ?_
  rintro e w' ⟨k, hq', hf⟩
  rw [List.length_map] at hq'
  have hq2 : tQ w' B g n (max hi (ks.length + 1)) ((ks ++ [kk]).map (thAt ts)) := by
    rw [List.map_append, List.map_singleton, hx]
    exact ⟨_, _, hq'⟩
  exact ⟨k, h.mid hq2 hf, hf⟩
theorem Tt.first {kk : Nat} {x : Tx} (h : Tt W wr ts B g D n hi ks) (hc : ks.length < n) (hx : thAt ts kk = x) : Calls Try.prog 21 #[tP B, .agg #[.string x.1, I x.2]] wr fun e w' => e = .returned (I 0) ∧ Tm W w' ts B g D n hi (max hi (ks.length + 1)) ks (kk :: ks) ∧ Fx [B, g] wr w' := by
  obtain ⟨f, R, hq⟩ := h.q
  refine (tFirst_ok hq (by simpa using hc) x.1 x.2).mono ?_
  rintro e w' ⟨k, hq', hf⟩
  rw [List.length_map] at hq'
  have hq2 : tQ w' B g n (max hi (ks.length + 1)) ((kk :: ks).map (thAt ts)) := by
    rw [List.map_cons, hx]
    exact ⟨_, _, hq'⟩
  exact ⟨k, h.mid hq2 hf, hf⟩
theorem Tt.lastF (h : Tt W wr ts B g D n hi ks) (hc : ks.length = n) (x : Tx) : Calls Try.prog 19 #[tP B, .agg #[.string x.1, I x.2]] wr fun e w' => e = .returned (I 121) ∧ Tt W w' ts B g D n hi ks ∧ Below wr.heap.size wr w' := by
  obtain ⟨f, R, hq⟩ := h.q
  exact (tLast_full hq (by simpa using hc) x.1 x.2).mono (fun e w' k => ⟨k.1, h.below k.2, k.2⟩)
theorem Tt.firstF (h : Tt W wr ts B g D n hi ks) (hc : ks.length = n) (x : Tx) : Calls Try.prog 21 #[tP B, .agg #[.string x.1, I x.2]] wr fun e w' => e = .returned (I 121) ∧ Tt W w' ts B g D n hi ks ∧ Below wr.heap.size wr w' := by
  obtain ⟨f, R, hq⟩ := h.q
  exact (tFirst_full hq (by simpa using hc) x.1 x.2).mono (fun e w' k => ⟨k.1, h.below k.2, k.2⟩)
theorem Tm.put {kk : Nat} (h : Tm W wr ts B g D n hi (max hi (ks.length + 1)) ks (ks ++ [kk])) (hc : ks.length < n) (hkl : kk < ts.length) : Calls Try.prog 20 #[dP D, I kk, .bool false] wr fun e w' => e = .returned (I 0) ∧ Tt W w' ts B g D n (max hi (ks.length + 1)) (ks ++ [kk]) := by
  obtain ⟨v, hd⟩ := h.d
  refine (dPut_last hd (by simpa using hc) kk).mono ?_
  rintro e w' ⟨k, v', hd', _, fx⟩
  rw [List.length_map] at hd'
  refine ⟨k, h.fin (v' := v') (by simpa using hd') (fun j hj => ?_) fx⟩
  simp at hj
  rcases hj with hj | rfl
  · exact h.k j hj
  · exact hkl
theorem Tm.putH {kk : Nat} (h : Tm W wr ts B g D n hi (max hi (ks.length + 1)) ks (kk :: ks)) (hc : ks.length < n) (hkl : kk < ts.length) : Calls Try.prog 20 #[dP D, I kk, .bool true] wr fun e w' => e = .returned (I 0) ∧ Tt W w' ts B g D n (max hi (ks.length + 1)) (kk :: ks) := by
  obtain ⟨v, hd⟩ := h.d
  refine (dPut_first hd (by simpa using hc) kk).mono ?_
  rintro e w' ⟨k, v', hd', _, fx⟩
  rw [List.length_map] at hd'
  refine ⟨k, h.fin (v' := v') hd' (fun j hj => ?_) fx⟩
  simp at hj
  rcases hj with rfl | hj
  · exact hkl
  · exact h.k j hj
theorem Tt.putF (h : Tt W wr ts B g D n hi ks) (hc : ks.length = n) (kk : Nat) (b : Bool) : Calls Try.prog 20 #[dP D, I kk, .bool b] wr fun e w' => e = .returned (I 121) ∧ Tt W w' ts B g D n hi ks := by
  obtain ⟨v, hd⟩ := h.d
  exact (dPut_full hd (by simpa using hc) kk b).mono (fun e w' k => ⟨k.1, h.below k.2⟩)
theorem Tt.take {k : Nat} (h : Tt W wr ts B g D n hi (k :: ks)) : Calls Try.prog 22 #[tP B] wr fun e w' => e = .returned (.tuple #[tV (thAt ts k), I 0]) ∧ Tm W w' ts B g D n hi hi (k :: ks) ks ∧ Fx [B, g] wr w' := by
  obtain ⟨f, R, hq⟩ := h.q
  refine (tTake_ok (thAt ts k) (l := ks.map (thAt ts)) hq).mono ?_
  rintro e w' ⟨k', hq', hf⟩
  exact ⟨k', h.mid ⟨_, _, hq'⟩ hf, hf⟩
theorem Tt.takeN (h : Tt W wr ts B g D n hi []) : Calls Try.prog 22 #[tP B] wr fun e w' => e = .returned (.tuple #[.agg #[.string ⟨#[]⟩, I 0], I 122]) ∧ Tt W w' ts B g D n hi [] := by
  obtain ⟨f, R, hq⟩ := h.q
  exact (tTake_no hq).mono (fun e w' k => ⟨k.1, h.below k.2⟩)
theorem Tt.takeD (h : Tt W wr ts B g D n hi []) : Calls Try.prog 23 #[dP D] wr fun e w' => e = .returned (.tuple #[I 0, I 122]) ∧ wr = w' := by
  obtain ⟨v, hd⟩ := h.d
  exact dTake_no hd
theorem Tt.at0 (h : Tt W wr ts B g D n hi []) : Calls Try.prog 24 #[tP B, I 0] wr fun e w' => e = .returned (.tuple #[.agg #[.string ⟨#[]⟩, I 0], .bool false]) ∧ Tt W w' ts B g D n hi [] := by
  obtain ⟨f, R, hq⟩ := h.q
  exact (tAt0_no hq).mono (fun e w' k => ⟨k.1, h.below k.2⟩)
theorem Tt.at1 {k : Nat} (h : Tt W wr ts B g D n hi (k :: ks)) : Calls Try.prog 24 #[tP B, I 0] wr fun e w' => e = .returned (.tuple #[tV (thAt ts k), .bool true]) ∧ Tt W w' ts B g D n hi (k :: ks) := by
  obtain ⟨f, R, hq⟩ := h.q
  exact (tAt0_ok (thAt ts k) (l := ks.map (thAt ts)) hq).mono (fun e w' k => ⟨k.1, h.below k.2⟩)
theorem Tt.at0D (h : Tt W wr ts B g D n hi []) : Calls Try.prog 25 #[dP D, I 0] wr fun e w' => e = .returned (.tuple #[I 0, .bool false]) ∧ wr = w' := by
  obtain ⟨v, hd⟩ := h.d
  exact dAt_no hd 0 (.inr (by simp))
theorem Tt.at1D {k : Nat} (h : Tt W wr ts B g D n hi (k :: ks)) : Calls Try.prog 25 #[dP D, I 0] wr fun e w' => e = .returned (.tuple #[I k, .bool true]) ∧ wr = w' := by
  obtain ⟨v, hd⟩ := h.d
  exact dAt_ok hd 0 (k : Int) (by simp) (by have := h.le; simp at this ⊢; omega)
theorem Tt.lenQ (h : Tt W wr ts B g D n hi ks) (q : Nat) : Calls Try.prog 26 #[tP B] (wr.drewN q) fun e w' => e = .returned (I ks.length) ∧ w' = wr.drewN q := by
  obtain ⟨f, R, hq⟩ := h.q
  have := tLen_any (hq.drewN q)
  rw [List.length_map] at this
  exact this.mono (fun e w' k => ⟨k.1, k.2.symm⟩)
theorem Tm.take {k : Nat} (h : Tm W wr ts B g D n hi hi (k :: ks) ks) (hl : ks.length ≤ 65536) : Calls Try.prog 23 #[dP D] wr fun e w' => e = .returned (.tuple #[I k, I 0]) ∧ Tt W w' ts B g D n hi ks ∧ Fx [D] wr w' := by
  obtain ⟨v, hd⟩ := h.d
  refine (dTake_ok (k : Int) (l := ks.map (fun k : Nat => (k : Int))) hd (by simpa using hl)).mono ?_
  rintro e w' ⟨k', v', hd', _, fx⟩
  exact ⟨k', h.fin (v' := v') hd' (fun j hj => h.k j (List.mem_cons_of_mem _ hj)) fx, fx⟩
end
set_option maxHeartbeats 8000000 in
set_option maxRecDepth 100000 in
theorem texts_ok (W : World) (n : Nat) (hn : n ≤ 65536) (s1 : Sl) (ts : List Tx) (h1 : RowsAt W 2 txtP s1 ts) (hl1 : ts.length ≤ 17592186043904) (s2 : Sl) (acts : List (Int × Int)) (h2 : RowsAt W 2 actP s2 acts) (hl2 : acts.length ≤ 17592186043904) (hne : 0 < ts.length) : Calls Try.prog 5 #[I n, .slice s1.a s1.n s1.c, .slice s2.a s2.n s2.c] W fun e w' => e = .returned (.bool true) ∧ Below W.heap.size W w' := by
  obtain ⟨a1, n1, c1⟩ := s1
  obtain ⟨a2, n2, c2⟩ := s2
  have hn1 := h1.n
  have hn2 := h2.n
  simp only at hn1 hn2
  subst hn1
  subst hn2
  have N1 := tNew_ok W n hn
  have hz0 : ¬ ((ts.length : Int) = 0) := by omega
  go_enter Try.func5, Try.ntmps5
  go_wp2_with (first
    | (go_at_call 10; refine (num_any _ (by decide) _).mono ?_; rintro e w9 ⟨rfl, rfl⟩)
    | (go_at_call 17; refine N1.mono ?_; clear N1; rintro e w1 ⟨rfl, hq1, b1⟩)
    | (go_at_call 18; refine (dNew_ok w1 n hn).mono ?_; rintro e w2 ⟨rfl, hd2, b2⟩))
  have HT : Hid (Tt W w2 ts (W.heap.size + 1) W.heap.size w1.heap.size n 0 []) := ⟨⟨_, _, hq1.below b2⟩, ⟨_, hd2⟩, by simp, b1.trans (b2.mono b1.size), by omega, Nat.le_refl _, b1.size⟩
  clear hq1 hd2 b2 b1
  simp only [show ((ts.length : Int) == 0) = false by rw [beq_eq_false_iff_ne]; exact hz0]
  go_loopw [11] (fun vi wr => ∃ (i hi : Nat) (ks : List Nat), i ≤ acts.length ∧ vi = .int .i64 i ∧ Hid (Tt W wr ts (W.heap.size + 1) W.heap.size w1.heap.size n hi ks)) (fun vi _ => acts.length - (intOf vi).toNat)
  case atStart => exact ⟨0, _, _, by omega, rfl, HT.out⟩
  case round =>
    clear HT
    obtain ⟨i, hi, ks, hi1, rfl, HT⟩ := hrel
    obtain ⟨v0, hd0⟩ := HT.out.d
    obtain ⟨m0, m1, m2, m3⟩ := hd0.cells
    by_cases hlt : i < acts.length
    · obtain ⟨⟨kd, vv⟩, hx⟩ : ∃ x, acts[i]? = some x := ⟨_, List.getElem?_eq_getElem hlt⟩
      have hltI : (i : Int) < acts.length := by omega
      obtain ⟨ga, off, rfl, hcx⟩ := acts_cell h2 hx
      have HX : Hid (∀ Z, Below W.heap.size W Z → Z.cell? ⟨ga, off + i * 2, none⟩ = some (I kd) ∧ Z.cell? ⟨ga, off + i * 2 + 1, none⟩ = some (I vv)) := hcx
      clear hcx hx
      obtain ⟨x0, x1⟩ := HX.out wr HT.out.b
      by_cases hsg : vv.tmod (ts.length : Int) < 0
      · obtain ⟨kk, hkk⟩ := Int.eq_ofNat_of_zero_le (a := vv.tmod (ts.length : Int) + ts.length) (by have := tmod_lo vv hne; omega)
        have hkl : kk < ts.length := by omega
        have hlo := tmod_lo vv hne
        obtain ⟨x, hxk⟩ : ∃ x, ts[kk]? = some x := ⟨_, List.getElem?_eq_getElem hkl⟩
        have hkI : (kk : Int) < ts.length := by omega
        have hk0 : ¬ (kk : Int) < 0 := by omega
        obtain ⟨gt, ofs, rfl, hct⟩ := txs_cell h1 hxk
        have HY : Hid (∀ Z, Below W.heap.size W Z → Z.cell? ⟨gt, ofs + kk * 2, none⟩ = some (.string x.1) ∧ Z.cell? ⟨gt, ofs + kk * 2 + 1, none⟩ = some (I x.2)) := hct
        have HTX : Hid (thAt ts kk = x) := by show _ = _; unfold thAt; rw [hxk]; rfl
        clear hct hxk
        obtain ⟨y0, y1⟩ := HY.out wr HT.out.b
        go_upto_block 2 with fail
        go_cut [13, 14, 15, 16] from 78 to 140 (fun s13 s14 s15 s16 wx => ∃ (hi : Nat) (ks : List Nat), Hid (Tt W wx ts (W.heap.size + 1) W.heap.size w1.heap.size n hi ks))
        case first =>
          by_cases k1 : kd = 1
          · subst k1
            by_cases hc : ks.length < n
            · go_wp2_with (first
                | (go_at_call 10; refine (num_any _ (by decide) _).mono ?_; rintro e w9 ⟨rfl, rfl⟩)
                | (go_at_call 19; refine (HT.out.last hc HTX.out).mono ?_; rintro e w5 ⟨rfl, m5, f5⟩)
                | (go_at_call 20; refine (m5.put hc hkl).mono ?_; rintro e w6 ⟨rfl, HT6⟩))
              go_meet
              case rel => exact ⟨_, _, HT6⟩
            · have hc2 : ks.length = n := by have := HT.out.le; omega
              go_wp2_with (first
                | (go_at_call 10; refine (num_any _ (by decide) _).mono ?_; rintro e w9 ⟨rfl, rfl⟩)
                | (go_at_call 19; refine (HT.out.lastF hc2 x).mono ?_; rintro e w5 ⟨rfl, HT5, b5⟩)
                | (go_at_call 20; refine (HT5.putF hc2 kk false).mono ?_; rintro e w6 ⟨rfl, HT6⟩))
              go_meet
              case rel => exact ⟨_, _, HT6⟩
          by_cases k2 : kd = 2
          · subst k2
            by_cases hc : ks.length < n
            · go_wp2_with (first
                | (go_at_call 10; refine (num_any _ (by decide) _).mono ?_; rintro e w9 ⟨rfl, rfl⟩)
                | (go_at_call 21; refine (HT.out.first hc HTX.out).mono ?_; rintro e w5 ⟨rfl, m5, f5⟩)
                | (go_at_call 20; refine (m5.putH hc hkl).mono ?_; rintro e w6 ⟨rfl, HT6⟩))
              go_meet
              case rel => exact ⟨_, _, HT6⟩
            · have hc2 : ks.length = n := by have := HT.out.le; omega
              go_wp2_with (first
                | (go_at_call 10; refine (num_any _ (by decide) _).mono ?_; rintro e w9 ⟨rfl, rfl⟩)
                | (go_at_call 21; refine (HT.out.firstF hc2 x).mono ?_; rintro e w5 ⟨rfl, HT5, b5⟩)
                | (go_at_call 20; refine (HT5.putF hc2 kk true).mono ?_; rintro e w6 ⟨rfl, HT6⟩))
              go_meet
              case rel => exact ⟨_, _, HT6⟩
          by_cases k3 : kd = 3
          · subst k3
            have hneq := tx_same
            have hnum := fun (i : Int) (hi : -100000 ≤ i ∧ i ≤ 100000) (w : World) => (num_any i hi w).mono (R' := fun e w' => e = .returned (I i) ∧ w' = w) (fun e w' k => ⟨k.1, k.2.symm⟩)
            cases ks with
            | nil =>
              go_wp2_with (first
                | (go_at_call 22; refine (HT.out.takeN).mono ?_; rintro e w5 ⟨rfl, HT5⟩)
                | (go_at_call 23; refine ((HT5.below (below_alloc w5 _)).takeD).mono ?_; rintro e w6 ⟨rfl, rfl⟩))
              have cb0 : (w5.alloc (.cells #[.string ⟨#[]⟩, .int .i64 0] 42)).cell? ⟨w5.heap.size, 0, none⟩ = some (.string ⟨#[]⟩) := by rw [cell_of_row _ _ _ _ _ (0, 0) (heap_alloc_new w5 _)]; rfl
              have cb1 : (w5.alloc (.cells #[.string ⟨#[]⟩, .int .i64 0] 42)).cell? ⟨w5.heap.size, 1, none⟩ = some (I 0) := by rw [cell_of_row _ _ _ _ _ (0, 0) (heap_alloc_new w5 _)]; rfl
              have HT6 : Hid (Tt W (w5.alloc (.cells #[.string ⟨#[]⟩, .int .i64 0] 42)) ts (W.heap.size + 1) W.heap.size w1.heap.size n hi []) := HT5.below (below_alloc w5 _)
              clear HT5
              generalize (w5.alloc (.cells #[.string ⟨#[]⟩, .int .i64 0] 42)) = W6 at *
              go_quiet ((go_at_call 10; exact Calls.quiet_of_same (hnum _ (by decide) _)))
              go_wp2
              go_meet
              case rel => exact ⟨_, _, HT6.out.below (below_drewN _ (Below.refl _ _))⟩
            | cons k ks =>
              have hkl2 : k < ts.length := HT.out.k k (by simp)
              have hks : ks.length ≤ 65536 := by have := HT.out.le; simp at this; omega
              obtain ⟨x2, hxk2⟩ : ∃ x, ts[k]? = some x := ⟨_, List.getElem?_eq_getElem hkl2⟩
              have hkI2 : (k : Int) < ts.length := by omega
              have hk02 : ¬ (k : Int) < 0 := by omega
              have HYk : Hid (∀ Z, Below W.heap.size W Z → Z.cell? ⟨gt, ofs + k * 2, none⟩ = some (.string x2.1) ∧ Z.cell? ⟨gt, ofs + k * 2 + 1, none⟩ = some (I x2.2)) := by
                obtain ⟨g9, o9, e9, h9⟩ := txs_cell h1 hxk2
                cases e9
                exact h9
              have HTk := HT.out.take
              rw [show thAt ts k = x2 by unfold thAt; rw [hxk2]; rfl] at HTk
              clear hxk2
              go_wp2_with (first
                | (go_at_call 22; refine HTk.mono ?_; rintro e w5 ⟨rfl, m5, f5⟩; have m6 := m5.below (below_alloc w5 (.cells #[.string x2.1, .int .i64 x2.2] 42)); have bx0 : (w5.alloc (.cells #[.string x2.1, .int .i64 x2.2] 42)).heap[w5.heap.size]? = some (.cells #[.string x2.1, .int .i64 x2.2] 42) := heap_alloc_new w5 _; have HBX : Hid ((w5.alloc (.cells #[.string x2.1, .int .i64 x2.2] 42)).heap[w5.heap.size]? = some (.cells #[.string x2.1, .int .i64 x2.2] 42)) := bx0; clear bx0 m5)
                | (go_at_call 23; refine (m6.take hks).mono ?_; rintro e w7 ⟨rfl, HT7, f7⟩))
              have hD7 : w5.heap.size ∉ [w1.heap.size] := by
                obtain ⟨v9, hd9⟩ := m6.d
                obtain ⟨cs9, hc9⟩ : ∃ cs, (w5.alloc (.cells #[.string x2.1, .int .i64 x2.2] 42)).heap[w5.heap.size]? = some (.cells cs 42) := ⟨_, HBX.out⟩
                intro e
                simp at e
                have := hd9.o
                rw [← e, hc9] at this
                simp only [Option.some.injEq, Obj.cells.injEq] at this
                exact absurd this.2.1 (by decide)
              have hbx := f7.heap HBX.out hD7
              have cb0 : w7.cell? ⟨w5.heap.size, 0, none⟩ = some (.string x2.1) := by rw [cell_of_row _ _ _ _ _ (0, 0) hbx]; rfl
              have cb1 : w7.cell? ⟨w5.heap.size, 1, none⟩ = some (I x2.2) := by rw [cell_of_row _ _ _ _ _ (0, 0) hbx]; rfl
              obtain ⟨z0, z1⟩ := HYk.out w7 HT7.b
              have HT6 : Hid (Tt W w7 ts (W.heap.size + 1) W.heap.size w1.heap.size n hi ks) := HT7
              clear HT7 HBX hbx m6
              go_quiet ((go_at_call 10; exact Calls.quiet_of_same (hnum _ (by decide) _)))
              go_wp2
              go_meet
              case rel => exact ⟨_, _, HT6.out.below (below_drewN _ (Below.refl _ _))⟩
          · go_wp2
            go_meet
            case rel => exact ⟨_, _, HT.out⟩
        case rest =>
          clear HT m0 m1 m2 m3 hd0 x0 x1 y0 y1
          obtain ⟨hi, ks, HT⟩ := hcut
          have hneq := tx_same
          cases ks with
          | nil =>
            go_wp2_with (first
              | (go_at_call 24; refine (HT.out.at0).mono ?_; rintro e w5 ⟨rfl, HT5⟩)
              | (go_at_call 25; refine ((HT5.below (below_alloc w5 _)).at0D).mono ?_; rintro e w6 ⟨rfl, rfl⟩))
            have cb0 : (w5.alloc (.cells #[.string ⟨#[]⟩, .int .i64 0] 42)).cell? ⟨w5.heap.size, 0, none⟩ = some (.string ⟨#[]⟩) := by rw [cell_of_row _ _ _ _ _ (0, 0) (heap_alloc_new w5 _)]; rfl
            have cb1 : (w5.alloc (.cells #[.string ⟨#[]⟩, .int .i64 0] 42)).cell? ⟨w5.heap.size, 1, none⟩ = some (I 0) := by rw [cell_of_row _ _ _ _ _ (0, 0) (heap_alloc_new w5 _)]; rfl
            have HT6 : Hid (Tt W (w5.alloc (.cells #[.string ⟨#[]⟩, .int .i64 0] 42)) ts (W.heap.size + 1) W.heap.size w1.heap.size n hi []) := HT5.below (below_alloc w5 _)
            clear HT5
            generalize (w5.alloc (.cells #[.string ⟨#[]⟩, .int .i64 0] 42)) = W6 at *
            obtain ⟨v9, hd9⟩ := HT6.out.d
            obtain ⟨a9, c9, rfl⟩ := own_sl hd9.p
            have d2 := hd9.cells.2.2.1
            have hLq := HT6.out.lenQ
            clear hd9
            go_quiet ((go_at_call 26; exact Calls.quiet_of_same (hLq _)))
            have HT9 : Hid (Tt W (W6.drewN nq) ts (W.heap.size + 1) W.heap.size w1.heap.size n hi []) := HT6.out.below (below_drewN _ (Below.refl _ _))
            clear HT6 hLq d2 cb0 cb1
            generalize W6.drewN nq = W9 at *
            go_wp2
            go_roundw
            case rel => exact ⟨i + 1, _, _, by omega, by go_num, HT9.out⟩
            case measure => simp [intOf]; omega
          | cons k ks =>
            have hkl2 : k < ts.length := HT.out.k k (by simp)
            obtain ⟨x2, hxk2⟩ : ∃ x, ts[k]? = some x := ⟨_, List.getElem?_eq_getElem hkl2⟩
            have hkI2 : (k : Int) < ts.length := by omega
            have hk02 : ¬ (k : Int) < 0 := by omega
            have HYk : Hid (∀ Z, Below W.heap.size W Z → Z.cell? ⟨gt, ofs + k * 2, none⟩ = some (.string x2.1) ∧ Z.cell? ⟨gt, ofs + k * 2 + 1, none⟩ = some (I x2.2)) := by
              obtain ⟨g9, o9, e9, h9⟩ := txs_cell h1 hxk2
              cases e9
              exact h9
            have HTk := HT.out.at1
            rw [show thAt ts k = x2 by unfold thAt; rw [hxk2]; rfl] at HTk
            clear hxk2
            go_wp2_with (first
              | (go_at_call 24; refine HTk.mono ?_; rintro e w5 ⟨rfl, HT5⟩)
              | (go_at_call 25; refine ((HT5.below (below_alloc w5 _)).at1D).mono ?_; rintro e w6 ⟨rfl, rfl⟩))
            have cb0 : (w5.alloc (.cells #[.string x2.1, .int .i64 x2.2] 42)).cell? ⟨w5.heap.size, 0, none⟩ = some (.string x2.1) := by rw [cell_of_row _ _ _ _ _ (0, 0) (heap_alloc_new w5 _)]; rfl
            have cb1 : (w5.alloc (.cells #[.string x2.1, .int .i64 x2.2] 42)).cell? ⟨w5.heap.size, 1, none⟩ = some (I x2.2) := by rw [cell_of_row _ _ _ _ _ (0, 0) (heap_alloc_new w5 _)]; rfl
            have HT6 : Hid (Tt W (w5.alloc (.cells #[.string x2.1, .int .i64 x2.2] 42)) ts (W.heap.size + 1) W.heap.size w1.heap.size n hi (k :: ks)) := HT5.below (below_alloc w5 _)
            clear HT5 HTk HT
            generalize (w5.alloc (.cells #[.string x2.1, .int .i64 x2.2] 42)) = W6 at *
            obtain ⟨z0, z1⟩ := HYk.out W6 HT6.out.b
            obtain ⟨v9, hd9⟩ := HT6.out.d
            obtain ⟨a9, c9, rfl⟩ := own_sl hd9.p
            have d2 := hd9.cells.2.2.1
            have hLq := HT6.out.lenQ
            simp only [List.length_map, List.length_cons] at d2 hLq
            clear hd9
            go_quiet ((go_at_call 26; exact Calls.quiet_of_same (hLq _)))
            have HT9 : Hid (Tt W (W6.drewN nq) ts (W.heap.size + 1) W.heap.size w1.heap.size n hi (k :: ks)) := HT6.out.below (below_drewN _ (Below.refl _ _))
            clear HT6 hLq d2 cb0 cb1 z0 z1
            generalize W6.drewN nq = W9 at *
            go_wp2
            go_roundw
            case rel => exact ⟨i + 1, _, _, by omega, by go_num, HT9.out⟩
            case measure => simp [intOf]; omega
      · obtain ⟨kk, hkk⟩ := Int.eq_ofNat_of_zero_le (a := vv.tmod (ts.length : Int)) (by omega)
        have hkl : kk < ts.length := by have := tmod_hi vv hne; omega
        obtain ⟨x, hxk⟩ : ∃ x, ts[kk]? = some x := ⟨_, List.getElem?_eq_getElem hkl⟩
        have hkI : (kk : Int) < ts.length := by omega
        have hk0 : ¬ (kk : Int) < 0 := by omega
        obtain ⟨gt, ofs, rfl, hct⟩ := txs_cell h1 hxk
        have HY : Hid (∀ Z, Below W.heap.size W Z → Z.cell? ⟨gt, ofs + kk * 2, none⟩ = some (.string x.1) ∧ Z.cell? ⟨gt, ofs + kk * 2 + 1, none⟩ = some (I x.2)) := hct
        have HTX : Hid (thAt ts kk = x) := by show _ = _; unfold thAt; rw [hxk]; rfl
        clear hct hxk
        obtain ⟨y0, y1⟩ := HY.out wr HT.out.b
        go_upto_block 2 with fail
        go_cut [13, 14, 15, 16] from 78 to 140 (fun s13 s14 s15 s16 wx => ∃ (hi : Nat) (ks : List Nat), Hid (Tt W wx ts (W.heap.size + 1) W.heap.size w1.heap.size n hi ks))
        case first =>
          by_cases k1 : kd = 1
          · subst k1
            by_cases hc : ks.length < n
            · go_wp2_with (first
                | (go_at_call 10; refine (num_any _ (by decide) _).mono ?_; rintro e w9 ⟨rfl, rfl⟩)
                | (go_at_call 19; refine (HT.out.last hc HTX.out).mono ?_; rintro e w5 ⟨rfl, m5, f5⟩)
                | (go_at_call 20; refine (m5.put hc hkl).mono ?_; rintro e w6 ⟨rfl, HT6⟩))
              go_meet
              case rel => exact ⟨_, _, HT6⟩
            · have hc2 : ks.length = n := by have := HT.out.le; omega
              go_wp2_with (first
                | (go_at_call 10; refine (num_any _ (by decide) _).mono ?_; rintro e w9 ⟨rfl, rfl⟩)
                | (go_at_call 19; refine (HT.out.lastF hc2 x).mono ?_; rintro e w5 ⟨rfl, HT5, b5⟩)
                | (go_at_call 20; refine (HT5.putF hc2 kk false).mono ?_; rintro e w6 ⟨rfl, HT6⟩))
              go_meet
              case rel => exact ⟨_, _, HT6⟩
          by_cases k2 : kd = 2
          · subst k2
            by_cases hc : ks.length < n
            · go_wp2_with (first
                | (go_at_call 10; refine (num_any _ (by decide) _).mono ?_; rintro e w9 ⟨rfl, rfl⟩)
                | (go_at_call 21; refine (HT.out.first hc HTX.out).mono ?_; rintro e w5 ⟨rfl, m5, f5⟩)
                | (go_at_call 20; refine (m5.putH hc hkl).mono ?_; rintro e w6 ⟨rfl, HT6⟩))
              go_meet
              case rel => exact ⟨_, _, HT6⟩
            · have hc2 : ks.length = n := by have := HT.out.le; omega
              go_wp2_with (first
                | (go_at_call 10; refine (num_any _ (by decide) _).mono ?_; rintro e w9 ⟨rfl, rfl⟩)
                | (go_at_call 21; refine (HT.out.firstF hc2 x).mono ?_; rintro e w5 ⟨rfl, HT5, b5⟩)
                | (go_at_call 20; refine (HT5.putF hc2 kk true).mono ?_; rintro e w6 ⟨rfl, HT6⟩))
              go_meet
              case rel => exact ⟨_, _, HT6⟩
          by_cases k3 : kd = 3
          · subst k3
            have hneq := tx_same
            have hnum := fun (i : Int) (hi : -100000 ≤ i ∧ i ≤ 100000) (w : World) => (num_any i hi w).mono (R' := fun e w' => e = .returned (I i) ∧ w' = w) (fun e w' k => ⟨k.1, k.2.symm⟩)
            cases ks with
            | nil =>
              go_wp2_with (first
                | (go_at_call 22; refine (HT.out.takeN).mono ?_; rintro e w5 ⟨rfl, HT5⟩)
                | (go_at_call 23; refine ((HT5.below (below_alloc w5 _)).takeD).mono ?_; rintro e w6 ⟨rfl, rfl⟩))
              have cb0 : (w5.alloc (.cells #[.string ⟨#[]⟩, .int .i64 0] 42)).cell? ⟨w5.heap.size, 0, none⟩ = some (.string ⟨#[]⟩) := by rw [cell_of_row _ _ _ _ _ (0, 0) (heap_alloc_new w5 _)]; rfl
              have cb1 : (w5.alloc (.cells #[.string ⟨#[]⟩, .int .i64 0] 42)).cell? ⟨w5.heap.size, 1, none⟩ = some (I 0) := by rw [cell_of_row _ _ _ _ _ (0, 0) (heap_alloc_new w5 _)]; rfl
              have HT6 : Hid (Tt W (w5.alloc (.cells #[.string ⟨#[]⟩, .int .i64 0] 42)) ts (W.heap.size + 1) W.heap.size w1.heap.size n hi []) := HT5.below (below_alloc w5 _)
              clear HT5
              generalize (w5.alloc (.cells #[.string ⟨#[]⟩, .int .i64 0] 42)) = W6 at *
              go_quiet ((go_at_call 10; exact Calls.quiet_of_same (hnum _ (by decide) _)))
              go_wp2
              go_meet
              case rel => exact ⟨_, _, HT6.out.below (below_drewN _ (Below.refl _ _))⟩
            | cons k ks =>
              have hkl2 : k < ts.length := HT.out.k k (by simp)
              have hks : ks.length ≤ 65536 := by have := HT.out.le; simp at this; omega
              obtain ⟨x2, hxk2⟩ : ∃ x, ts[k]? = some x := ⟨_, List.getElem?_eq_getElem hkl2⟩
              have hkI2 : (k : Int) < ts.length := by omega
              have hk02 : ¬ (k : Int) < 0 := by omega
              have HYk : Hid (∀ Z, Below W.heap.size W Z → Z.cell? ⟨gt, ofs + k * 2, none⟩ = some (.string x2.1) ∧ Z.cell? ⟨gt, ofs + k * 2 + 1, none⟩ = some (I x2.2)) := by
                obtain ⟨g9, o9, e9, h9⟩ := txs_cell h1 hxk2
                cases e9
                exact h9
              have HTk := HT.out.take
              rw [show thAt ts k = x2 by unfold thAt; rw [hxk2]; rfl] at HTk
              clear hxk2
              go_wp2_with (first
                | (go_at_call 22; refine HTk.mono ?_; rintro e w5 ⟨rfl, m5, f5⟩; have m6 := m5.below (below_alloc w5 (.cells #[.string x2.1, .int .i64 x2.2] 42)); have bx0 : (w5.alloc (.cells #[.string x2.1, .int .i64 x2.2] 42)).heap[w5.heap.size]? = some (.cells #[.string x2.1, .int .i64 x2.2] 42) := heap_alloc_new w5 _; have HBX : Hid ((w5.alloc (.cells #[.string x2.1, .int .i64 x2.2] 42)).heap[w5.heap.size]? = some (.cells #[.string x2.1, .int .i64 x2.2] 42)) := bx0; clear bx0 m5)
                | (go_at_call 23; refine (m6.take hks).mono ?_; rintro e w7 ⟨rfl, HT7, f7⟩))
              have hD7 : w5.heap.size ∉ [w1.heap.size] := by
                obtain ⟨v9, hd9⟩ := m6.d
                obtain ⟨cs9, hc9⟩ : ∃ cs, (w5.alloc (.cells #[.string x2.1, .int .i64 x2.2] 42)).heap[w5.heap.size]? = some (.cells cs 42) := ⟨_, HBX.out⟩
                intro e
                simp at e
                have := hd9.o
                rw [← e, hc9] at this
                simp only [Option.some.injEq, Obj.cells.injEq] at this
                exact absurd this.2.1 (by decide)
              have hbx := f7.heap HBX.out hD7
              have cb0 : w7.cell? ⟨w5.heap.size, 0, none⟩ = some (.string x2.1) := by rw [cell_of_row _ _ _ _ _ (0, 0) hbx]; rfl
              have cb1 : w7.cell? ⟨w5.heap.size, 1, none⟩ = some (I x2.2) := by rw [cell_of_row _ _ _ _ _ (0, 0) hbx]; rfl
              obtain ⟨z0, z1⟩ := HYk.out w7 HT7.b
              have HT6 : Hid (Tt W w7 ts (W.heap.size + 1) W.heap.size w1.heap.size n hi ks) := HT7
              clear HT7 HBX hbx m6
              go_quiet ((go_at_call 10; exact Calls.quiet_of_same (hnum _ (by decide) _)))
              go_wp2
              go_meet
              case rel => exact ⟨_, _, HT6.out.below (below_drewN _ (Below.refl _ _))⟩
          · go_wp2
            go_meet
            case rel => exact ⟨_, _, HT.out⟩
        case rest =>
          clear HT m0 m1 m2 m3 hd0 x0 x1 y0 y1
          obtain ⟨hi, ks, HT⟩ := hcut
          have hneq := tx_same
          cases ks with
          | nil =>
            go_wp2_with (first
              | (go_at_call 24; refine (HT.out.at0).mono ?_; rintro e w5 ⟨rfl, HT5⟩)
              | (go_at_call 25; refine ((HT5.below (below_alloc w5 _)).at0D).mono ?_; rintro e w6 ⟨rfl, rfl⟩))
            have cb0 : (w5.alloc (.cells #[.string ⟨#[]⟩, .int .i64 0] 42)).cell? ⟨w5.heap.size, 0, none⟩ = some (.string ⟨#[]⟩) := by rw [cell_of_row _ _ _ _ _ (0, 0) (heap_alloc_new w5 _)]; rfl
            have cb1 : (w5.alloc (.cells #[.string ⟨#[]⟩, .int .i64 0] 42)).cell? ⟨w5.heap.size, 1, none⟩ = some (I 0) := by rw [cell_of_row _ _ _ _ _ (0, 0) (heap_alloc_new w5 _)]; rfl
            have HT6 : Hid (Tt W (w5.alloc (.cells #[.string ⟨#[]⟩, .int .i64 0] 42)) ts (W.heap.size + 1) W.heap.size w1.heap.size n hi []) := HT5.below (below_alloc w5 _)
            clear HT5
            generalize (w5.alloc (.cells #[.string ⟨#[]⟩, .int .i64 0] 42)) = W6 at *
            obtain ⟨v9, hd9⟩ := HT6.out.d
            obtain ⟨a9, c9, rfl⟩ := own_sl hd9.p
            have d2 := hd9.cells.2.2.1
            have hLq := HT6.out.lenQ
            clear hd9
            go_quiet ((go_at_call 26; exact Calls.quiet_of_same (hLq _)))
            have HT9 : Hid (Tt W (W6.drewN nq) ts (W.heap.size + 1) W.heap.size w1.heap.size n hi []) := HT6.out.below (below_drewN _ (Below.refl _ _))
            clear HT6 hLq d2 cb0 cb1
            generalize W6.drewN nq = W9 at *
            go_wp2
            go_roundw
            case rel => exact ⟨i + 1, _, _, by omega, by go_num, HT9.out⟩
            case measure => simp [intOf]; omega
          | cons k ks =>
            have hkl2 : k < ts.length := HT.out.k k (by simp)
            obtain ⟨x2, hxk2⟩ : ∃ x, ts[k]? = some x := ⟨_, List.getElem?_eq_getElem hkl2⟩
            have hkI2 : (k : Int) < ts.length := by omega
            have hk02 : ¬ (k : Int) < 0 := by omega
            have HYk : Hid (∀ Z, Below W.heap.size W Z → Z.cell? ⟨gt, ofs + k * 2, none⟩ = some (.string x2.1) ∧ Z.cell? ⟨gt, ofs + k * 2 + 1, none⟩ = some (I x2.2)) := by
              obtain ⟨g9, o9, e9, h9⟩ := txs_cell h1 hxk2
              cases e9
              exact h9
            have HTk := HT.out.at1
            rw [show thAt ts k = x2 by unfold thAt; rw [hxk2]; rfl] at HTk
            clear hxk2
            go_wp2_with (first
              | (go_at_call 24; refine HTk.mono ?_; rintro e w5 ⟨rfl, HT5⟩)
              | (go_at_call 25; refine ((HT5.below (below_alloc w5 _)).at1D).mono ?_; rintro e w6 ⟨rfl, rfl⟩))
            have cb0 : (w5.alloc (.cells #[.string x2.1, .int .i64 x2.2] 42)).cell? ⟨w5.heap.size, 0, none⟩ = some (.string x2.1) := by rw [cell_of_row _ _ _ _ _ (0, 0) (heap_alloc_new w5 _)]; rfl
            have cb1 : (w5.alloc (.cells #[.string x2.1, .int .i64 x2.2] 42)).cell? ⟨w5.heap.size, 1, none⟩ = some (I x2.2) := by rw [cell_of_row _ _ _ _ _ (0, 0) (heap_alloc_new w5 _)]; rfl
            have HT6 : Hid (Tt W (w5.alloc (.cells #[.string x2.1, .int .i64 x2.2] 42)) ts (W.heap.size + 1) W.heap.size w1.heap.size n hi (k :: ks)) := HT5.below (below_alloc w5 _)
            clear HT5 HTk HT
            generalize (w5.alloc (.cells #[.string x2.1, .int .i64 x2.2] 42)) = W6 at *
            obtain ⟨z0, z1⟩ := HYk.out W6 HT6.out.b
            obtain ⟨v9, hd9⟩ := HT6.out.d
            obtain ⟨a9, c9, rfl⟩ := own_sl hd9.p
            have d2 := hd9.cells.2.2.1
            have hLq := HT6.out.lenQ
            simp only [List.length_map, List.length_cons] at d2 hLq
            clear hd9
            go_quiet ((go_at_call 26; exact Calls.quiet_of_same (hLq _)))
            have HT9 : Hid (Tt W (W6.drewN nq) ts (W.heap.size + 1) W.heap.size w1.heap.size n hi (k :: ks)) := HT6.out.below (below_drewN _ (Below.refl _ _))
            clear HT6 hLq d2 cb0 cb1 z0 z1
            generalize W6.drewN nq = W9 at *
            go_wp2
            go_roundw
            case rel => exact ⟨i + 1, _, _, by omega, by go_num, HT9.out⟩
            case measure => simp [intOf]; omega
    · have hge : ¬ ((i : Int) < acts.length) := by omega
      have T := HT.out
      go_wp2_with (first
        | (go_at_call 14; refine (alive_any _).mono ?_; rintro e w8 ⟨rfl, b8⟩))
      go_ret
      exact ⟨rfl, T.b.trans (b8.mono T.b.size)⟩
set_option maxHeartbeats 8000000 in
set_option maxRecDepth 100000 in
theorem texts_none (W : World) (n : Nat) (hn : n ≤ 65536) (a1 : Option Addr) (c1 : Nat) (u : Value) : Calls Try.prog 5 #[I n, .slice a1 0 c1, u] W fun e w' => e = .returned (.bool true) ∧ Below W.heap.size W w' := by
  have N1 := tNew_ok W n hn
  go_enter Try.func5, Try.ntmps5
  go_wp2_with (first
    | (go_at_call 10; refine (num_any _ (by decide) _).mono ?_; rintro e w9 ⟨rfl, rfl⟩)
    | (go_at_call 17; refine N1.mono ?_; clear N1; rintro e w1 ⟨rfl, hq1, b1⟩)
    | (go_at_call 18; refine (dNew_ok w1 n hn).mono ?_; rintro e w2 ⟨rfl, hd2, b2⟩)
    | (go_at_call 14; refine (alive_any _).mono ?_; rintro e w8 ⟨rfl, b8⟩))
  go_ret
  exact ⟨rfl, (b1.trans (b2.mono b1.size)).trans (b8.mono (Nat.le_trans b1.size b2.size))⟩
set_option maxHeartbeats 8000000 in
set_option maxRecDepth 100000 in
theorem texts_no0 (W : World) (room : Int) (hr : room < 0 ∨ 65536 < room) (a1 : Option Addr) (c1 : Nat) (u : Value) : Calls Try.prog 5 #[I room, .slice a1 0 c1, u] W fun e w' => e = .returned (.bool true) ∧ Below W.heap.size W w' := by
  have N1 := tNew_no W room hr
  have N2 := dNew_no W room hr
  clear hr
  go_enter Try.func5, Try.ntmps5
  go_wp2_with (first
    | (go_at_call 10; refine (num_any _ (by decide) _).mono ?_; rintro e w9 ⟨rfl, rfl⟩)
    | (go_at_call 17; refine N1.mono ?_; clear N1; rintro e w1 ⟨rfl, rfl⟩)
    | (go_at_call 18; refine N2.mono ?_; clear N2; rintro e w2 ⟨rfl, c2, b2⟩)
    | (go_at_call 14; refine (alive_any _).mono ?_; rintro e w8 ⟨rfl, b8⟩))
  go_ret
  exact ⟨rfl, b2.trans (b8.mono b2.size)⟩
set_option maxHeartbeats 8000000 in
set_option maxRecDepth 100000 in
theorem texts_no (W : World) (room : Int) (hr : room < 0 ∨ 65536 < room) (a1 : Option Addr) (n1 c1 : Nat) (hne : 0 < n1) (a2 : Option Addr) (n2 c2 : Nat) : Calls Try.prog 5 #[I room, .slice a1 n1 c1, .slice a2 n2 c2] W fun e w' => e = .returned (.bool true) ∧ Below W.heap.size W w' := by
  have N1 := tNew_no W room hr
  have N2 := dNew_no W room hr
  have hz0 : ¬ ((n1 : Int) = 0) := by omega
  clear hr
  go_enter Try.func5, Try.ntmps5
  go_wp2_with (first
    | (go_at_call 10; refine (num_any _ (by decide) _).mono ?_; rintro e w9 ⟨rfl, rfl⟩)
    | (go_at_call 17; refine N1.mono ?_; clear N1; rintro e w1 ⟨rfl, rfl⟩)
    | (go_at_call 18; refine N2.mono ?_; clear N2; rintro e w2 ⟨rfl, c2, b2⟩))
  simp only [show ((n1 : Int) == 0) = false by rw [beq_eq_false_iff_ne]; exact hz0]
  go_loopw [11] (fun vi wr => vi = .int .i64 0 ∧ wr = w2) (fun _ _ => 0)
  case atStart => exact ⟨rfl, rfl⟩
  case round =>
    obtain ⟨rfl, rfl⟩ := hrel
    by_cases h2 : 0 < n2
    · have h2I : (0 : Int) < n2 := by omega
      go_wp2_with (first
        | (go_at_call 14; refine (alive_any _).mono ?_; rintro e w8 ⟨rfl, b8⟩))
      go_ret
      exact ⟨rfl, b2.trans (b8.mono b2.size)⟩
    · obtain rfl : n2 = 0 := by omega
      go_wp2_with (first
        | (go_at_call 14; refine (alive_any _).mono ?_; rintro e w8 ⟨rfl, b8⟩))
      go_ret
      exact ⟨rfl, b2.trans (b8.mono b2.size)⟩
theorem texts_law (W : World) (room : Int) (_ : (Lit.int .i64 room).wf = true) (s1 : Sl) (ts : List Tx) (h1 : RowsAt W 2 txtP s1 ts) (hl1 : ts.length ≤ 17592186043904) (s2 : Sl) (acts : List (Int × Int)) (h2 : RowsAt W 2 actP s2 acts) (hl2 : acts.length ≤ 17592186043904) : Calls Try.prog 5 #[I room, .slice s1.a s1.n s1.c, .slice s2.a s2.n s2.c] W fun e w' => e = .returned (.bool true) ∧ Below W.heap.size W w' := by
  have hn1 := h1.n
  by_cases hr : room < 0 ∨ 65536 < room
  · by_cases hz : ts.length = 0
    · rw [hn1, hz]
      exact texts_no0 W room hr _ _ _
    · exact texts_no W room hr _ _ _ (by omega) _ _ _
  · obtain ⟨n, rfl⟩ := Int.eq_ofNat_of_zero_le (a := room) (by omega)
    by_cases hz : ts.length = 0
    · rw [hn1, hz]
      exact texts_none W n (by omega) _ _ _
    · exact texts_ok W n (by omega) s1 ts h1 hl1 s2 acts h2 hl2 (by omega)
theorem p_txt : Try.prog.cellsOf 42 = 2 := by kernel_rfl
theorem one_txt {H : Type} {enc : TypeId × Value → H} {w : World} {spare : Nat → Bool} {held : Bool} (n : Nat) (cs : List Value) (z : DataW H × List MemPlace) (hl : cs.length = 2) (h : DataW.trod enc Try.prog w 0 spare held n 42 cs = some z) : ∃ x : Tx, ∀ i, i < 2 → ∃ u, cs[i]? = some u ∧ txtP x i u := by
  obtain ⟨c0, c1, rfl⟩ := list2 hl
  obtain ⟨xs, n, hn, hx, hl, hlen, hfs⟩ := DataW.trod_struct Try.underlying42 h
  match xs, hlen with
  | [y0, y1], _ =>
    have h0 := hfs 0 _ rfl
    have h1 := hfs 1 _ rfl
    simp [p_int, p_string] at h0 h1
    obtain ⟨v0, e0, _, b0⟩ := DataW.trod_string Try.underlying9 h0
    obtain ⟨v1, e1, _, b1⟩ := DataW.trod_int Try.underlying3 h1
    simp at e0 e1
    subst e0 e1
    refine ⟨(v0, v1), fun i hi => ?_⟩
    have hi2 : i = 0 ∨ i = 1 := by omega
    rcases hi2 with rfl | rfl
    · exact ⟨_, rfl, fun _ => rfl, fun e => (by cases e)⟩
    · exact ⟨_, rfl, fun e => (by cases e), fun _ => rfl⟩
end Go.Proofs.Ytlbkbnhnklaebaa
