import Derived.Test.YtmllocfeflhjoaaGreatXZfi
import Derived.Laws.AppendOwnNone
import Derived.Maps.AppendAt
namespace Go.Proofs.YtmllocfeflhjoaaGreat.St
open Go.RowKit
set_option linter.unusedVariables false
set_option linter.unusedSimpArgs false

/-! ### Stacks of ints: above, Cut, Copy -/
theorem own_some {w : World} {b E m : Nat} {v : Value} {xs : List Value} (h : w.ownsRow b E 1 v m xs) (hn : v ≠ .slice none 0 0) : ∃ X cap, v = .slice (some ⟨X, 0, none⟩) m cap := by
  rcases h.2 with ⟨h1, _⟩ | ⟨g, cap, cur, h1, _⟩
  · exact absurd h1 hn
  · exact ⟨g, cap, h1⟩
theorem take_rev (xs : List Int) (m : Nat) (hm : m ≤ xs.length) : xs.reverse.take (xs.length - m) = (xs.drop m).reverse := by
  rw [List.take_reverse, show xs.length - (xs.length - m) = m by omega]
section
variable {w : World} {B g n hi : Nat} {R l : List Value} {xs : List Int}
set_option maxHeartbeats 4000000 in
theorem above_any (h : iSk w B g n hi R (iV xs)) (m : Nat) (hm : m ≤ xs.length) : Calls Tryz.prog 92 #[iP B, I m] w fun e w' => ∃ X cap, e = .returned (.slice (some ⟨X, 0, none⟩) (xs.length - m) cap) ∧ w'.ownsRow w.heap.size 3 1 (.slice (some ⟨X, 0, none⟩) (xs.length - m) cap) (xs.length - m) (iV (xs.drop m).reverse) ∧ Below w.heap.size w w' := by
  obtain ⟨i0, hi0, hz0, hz1, hz2⟩ := info_parts iinfo
  have hle := h.lle
  have hn := h.m
  rw [iV_len] at hle
  have HF : Hid (∀ W, Below w.heap.size w W → W.cell? ⟨B, 1, none⟩ = some (.slice (some ⟨g, 0, none⟩) n n) ∧ W.cell? ⟨B, 2, none⟩ = some (I xs.length) ∧ ∀ (j : Nat) (x : Int), xs[j]? = some x → W.cell? ⟨g, j, none⟩ = some (I x)) := fun W hb => by
    have h1 := h.below hb
    obtain ⟨-, c1, c2, -⟩ := h1.cells
    rw [iV_len] at c2
    exact ⟨c1, c2, fun j x hj => h1.at (by simp [iV, hj])⟩
  obtain ⟨-, c2, -⟩ := HF.out w (Below.refl _ _)
  have hMK := run_make_own (P := Tryz.prog) w w.heap.size 65 3 i0 (.int .i64 0) 1 Tryz.underlying65 hi0 hz0 hz1 .i64 .i64 (xs.length - m) (by rw [hz2]; omega) (by unfold maxLen; omega) (Nat.le_refl _)
  obtain ⟨w2, hmk, hO2, hg2⟩ := hMK
  have b2 : Below w.heap.size w w2 := (Below.refl _ w).grown hg2 (Nat.le_refl _) (fun k e => by cases e)
  have HX : Hid (w2.ownsRow w.heap.size 3 1 (.slice (some ⟨w.heap.size, 0, none⟩) 0 (xs.length - m)) 0 (iV (xs.reverse.take 0)) ∧ Below w.heap.size w w2) := ⟨hO2, b2⟩
  have c22 := (HF.out w2 b2).2.1
  rw [show ((xs.length - m : Nat) : Int) = (xs.length : Int) - m by omega] at hmk
  clear h hg2 hO2 b2
  go_enter Tryz.func92, Tryz.ntmps92
  go_wp2
  go_loopw [5, 6] (fun v i wr => ∃ (X cap k : Nat), k ≤ xs.length - m ∧ v = .slice (some ⟨X, 0, none⟩) k cap ∧ i = .int .i64 ((xs.length : Int) - 1 - k) ∧ Hid (wr.ownsRow w.heap.size 3 1 (.slice (some ⟨X, 0, none⟩) k cap) k (iV (xs.reverse.take k)) ∧ Below w.heap.size w wr)) (fun _ i _ => (intOf i + 1 - m).toNat)
  case atStart => exact ⟨w.heap.size, xs.length - m, 0, by omega, rfl, by simp, HX.out⟩
  case round =>
    clear HX c22 hmk c2
    obtain ⟨X, cap, k, hk, rfl, rfl, HJ⟩ := hrel
    by_cases hlt : k < xs.length - m
    · obtain ⟨x, hx⟩ : ∃ x, xs[xs.length - 1 - k]? = some x := ⟨_, List.getElem?_eq_getElem (by omega)⟩
      have hrv : xs.reverse[k]? = some x := by rw [List.getElem?_reverse (by omega)]; exact hx
      have htk : Hid (iV (xs.reverse.take (k + 1)) = iV (xs.reverse.take k) ++ [I x]) := by
        show _ = _
        rw [List.take_add_one, hrv]
        simp [iV]
      obtain ⟨hO, hB⟩ := HJ.out
      obtain ⟨c1, c2, hc⟩ := HF.out wr hB
      have c3 := hc _ x hx
      clear hc hx hrv HJ
      have hp0 : ¬ ((xs.length : Int) - 1 - k) < 0 := by omega
      have hp1 : ((xs.length : Int) - 1 - k) < n := by omega
      have hge : (m : Int) ≤ (xs.length : Int) - 1 - k := by omega
      go_wp2_with (at_builtin; refine wpList_append_own _ rfl (.tmp 24) (.tmp 32) 65 rfl w.heap.size 3 i0 (.int .i64 0) 1 8 Tryz.underlying65 hi0 hz0 hz1 hz2 rfl (by decide) _ _ _ rfl (hO.alloc (.cells #[I x] 3)) ⟨wr.heap.size, 0, none⟩ 1 1 [I x] rfl rfl (cell_one_new _ _ _) (by intro u hu; simp at hu; subst hu; rfl) (by unfold maxLen; omega) (by omega) (by have := hB.size; simp; omega) ?_; intro v4 w4 h4 hg4 hn4; have b4 : Below w.heap.size w w4 := (hB.alloc (hB.size) (.cells #[I x] 3)).grown hg4 (by have := hB.size; simp; omega) (fun k e => ((hO.alloc (.cells #[I x] 3)).lt k e).1); have n4 : v4 ≠ .slice none 0 0 := (fun e => by have := (hn4.1 e).1; cases this); obtain ⟨X4, cap4, rfl⟩ := own_some h4 n4; have H9 : Hid (w4.ownsRow w.heap.size 3 1 (.slice (some ⟨X4, 0, none⟩) (k + 1) cap4) (k + 1) (iV (xs.reverse.take (k + 1))) ∧ Below w.heap.size w w4) := (by rw [htk.out]; exact ⟨h4, b4⟩); clear hg4 h4 hn4 n4 hO c1 c2 c3 htk b4)
      go_roundw
      case rel => exact ⟨X4, cap4, k + 1, by omega, rfl, congrArg (Value.int .i64) (by omega), H9.out⟩
      case measure => simp [intOf]; omega
    · obtain rfl : k = xs.length - m := by omega
      have hge : ¬ (m : Int) ≤ (xs.length : Int) - 1 - ((xs.length - m : Nat) : Int) := by omega
      obtain ⟨hO, hB⟩ := HJ.out
      rw [take_rev xs m hm] at hO
      go_wp2
      go_ret
      exact ⟨X, cap, rfl, hO, hB⟩
theorem Cut_neg (h : iSk w B g n hi R l) (m : Int) (hm : m < 0) : Calls Tryz.prog 60 #[iP B, I m] w fun e w' => e = .returned (.tuple #[.slice none 0 0, I 2]) ∧ w = w' := by
  have hN := inone_any h
  go_enter Tryz.func60, Tryz.ntmps60
  go_wp2_with (first | (go_at_call 84; refine hN.mono ?_; rintro e w1 ⟨rfl, rfl⟩))
  go_ret2
  exact ⟨rfl, rfl⟩
theorem Cut_over (h : iSk w B g n hi R l) (m : Int) (hm : (l.length : Int) < m) : Calls Tryz.prog 60 #[iP B, I m] w fun e w' => e = .returned (.tuple #[.slice none 0 0, I 142]) ∧ w = w' := by
  have hN := inone_any h
  obtain ⟨-, -, c2, -⟩ := h.cells
  have h0 : ¬ m < 0 := by omega
  go_enter Tryz.func60, Tryz.ntmps60
  go_wp2_with (first | (go_at_call 84; refine hN.mono ?_; rintro e w1 ⟨rfl, rfl⟩))
  go_ret2
  exact ⟨rfl, rfl⟩
theorem Cut_ok (h : iSk w B g n hi R (iV xs)) (m : Nat) (hm : m ≤ xs.length) : Calls Tryz.prog 60 #[iP B, I m] w fun e w' => ∃ X cap, e = .returned (.tuple #[.slice (some ⟨X, 0, none⟩) (xs.length - m) cap, I 0]) ∧ w'.ownsRow w.heap.size 3 1 (.slice (some ⟨X, 0, none⟩) (xs.length - m) cap) (xs.length - m) (iV (xs.drop m).reverse) ∧ (∃ R', iSk w' B g n hi R' (iV (xs.take m))) ∧ Fx [B, g] w w' := by
  have hN := inone_any h
  obtain ⟨-, -, c2, -⟩ := h.cells
  rw [iV_len] at c2
  have h0 : ¬ (m : Int) < 0 := by omega
  have h1 : ¬ (xs.length : Int) < m := by omega
  have hA := above_any h m hm
  have hlt := h.lts
  have hK := fun W (hb : Below w.heap.size w W) => ikeep_any (h.below hb) m (by rw [iV_len]; exact hm)
  clear h hm
  go_enter Tryz.func60, Tryz.ntmps60
  go_wp2_with (first
    | (go_at_call 84; refine hN.mono ?_; rintro e w1 ⟨rfl, rfl⟩)
    | (go_at_call 92; refine hA.mono ?_; rintro e w1 ⟨X, cap, rfl, ho1, b1⟩)
    | (go_at_call 91; refine (hK _ b1).mono ?_; rintro e w2 ⟨rfl, ⟨R2, k2⟩, f2⟩))
  go_ret2
  refine ⟨X, cap, rfl, f2.own ho1 (fun k e => ?_), ⟨R2, by rw [show (iV xs).take m = iV (xs.take m) by simp [iV, List.map_take]] at k2; exact k2⟩, (Fx.of_below b1).trans f2⟩
  have := (ho1.lt k e).1
  simp
  omega
end
end Go.Proofs.YtmllocfeflhjoaaGreat.St

namespace Go.Proofs.YtmllocfeflhjoaaGreat.St
open Go.RowKit
set_option linter.unusedVariables false
set_option linter.unusedSimpArgs false

/-! ### Stacks of ints: Copy -/
theorem step_copy_fx {P : Program} {ops : Array Oper} {o : Oper} {a : Act} {w : World} {K : Act → World → Prop} {Q : Exit → Act → World → Prop} {E : Prop} (hgd : o.guard = none) (d s : Operand) (dT sT : TypeId)
    (ho : o.op = .call { callee := .builtin .copy, args := #[d, s], argTypes := #[dT, sT] }) (elem : TypeId) (hu : P.underlying dT = some (.slice elem)) (hsz : (P.info? elem).map (·.size) = some 1)
    (dp sp : Option Addr) (dLen dCap sLen sCap : Nat) (hd : a.eval d = .slice dp dLen dCap) (hs : a.eval s = .slice sp sLen sCap)
    (g off : Nat) (cur : List Value) (t : TypeId) (hg : w.heap[g]? = some (.cells cur.toArray t (0, 0))) (cs : List Value) (hn : cs.length = Nat.min sLen dLen)
    (hpos : 0 < cs.length → dp = some ⟨g, off, none⟩ ∧ ∃ ad, sp = some ad ∧ ∀ j v, cs[j]? = some v → w.cell? (ad.add j) = some v)
    (hfit : off + cs.length ≤ cur.length) (h1 : ∀ v ∈ cs, v.oneCell' = true) (vr : Value) (hvr : vr = goInt cs.length)
    (h : ∀ w', Hid (w'.heap[g]? = some (.cells (splice cur off cs).toArray t (0, 0))) → Fx [g] w w' → K (a.put o.dst vr) w') :
    if Region.wanted o (yielded ops a.tmps) = true then Oper.wp P o a w K Q else E := by
  subst hvr
  have hw : Region.wanted o (yielded ops a.tmps) = true := by simp [Region.wanted, hgd]
  rw [if_pos hw]
  by_cases h0 : cs.length = 0
  · obtain rfl : cs = [] := List.eq_nil_of_length_eq_zero h0
    have hrun := run_copy_none (P := P) w dT sT o.type elem dp sp dLen dCap sLen sCap hu hsz (by simpa using hn.symm)
    unfold Oper.wp
    simp [execOp, ho, resolve, invoke, builtin, hd, hs, hrun, Result.andThen]
    exact h w (show _ = _ by simpa [splice] using hg) (Fx.refl _ _)
  · obtain ⟨rfl, ad, rfl, hsrc⟩ := hpos (by omega)
    have hrun := run_copy_row (P := P) w dT sT o.type elem g off dLen dCap ad sLen sCap cur.toArray t cs hu hsz hg hn hsrc (by simpa using hfit) h1
    unfold Oper.wp
    simp [execOp, ho, resolve, invoke, builtin, hd, hs, hrun, Result.andThen]
    refine h _ (show _ = _ by simpa [splice] using setRow_heap w g _ _ t _ hg) ⟨rfl, rfl, rfl, by simp [World.setRow], fun k _ hk => setRow_other w g k _ (by simpa using hk)⟩
theorem splice_all (z : Value) (R : List Value) (n : Nat) (h : R.length = n) : splice (List.replicate n z) 0 R = R := by
  unfold splice
  simp [h]
section
variable {w : World} {B g n hi : Nat} {R l : List Value}
set_option maxHeartbeats 4000000 in
set_option maxRecDepth 100000 in
theorem iCopy_any (h : iSk w B g n hi R l) : Calls Tryz.prog 81 #[iP B] w fun e w' => ∃ B' g', e = .returned (iP B') ∧ iSk w' B' g' n hi R l ∧ w.heap.size ≤ B' ∧ w.heap.size ≤ g' ∧ Below w.heap.size w w' := by
  obtain ⟨i0, hi0, hz0, hz1, hz2⟩ := info_parts iinfo
  obtain ⟨-, c1, c3, c4⟩ := h.cells
  have hN := inone_any h
  have hm := h.m
  have hle := h.lle
  have hNE := h.ne
  have hsz : (Tryz.prog.info? 3).map (·.size) = some 1 := by rw [hi0]; simp [hz1]
  obtain ⟨ZZ, hZZ⟩ : ∃ Z : Array Value, Z = (List.replicate n (Value.int .i64 0)).toArray := ⟨_, rfl⟩
  have HZ : Hid (ZZ = (List.replicate n (Value.int .i64 0)).toArray) := hZZ
  clear hZZ
  have hmk : ∀ W : World, (Instr.makeSlice 65 (I n) (I n)).run Tryz.prog W = .ok (.slice (some ⟨W.heap.size, 0, none⟩) n n) (W.alloc (.cells ZZ 3)) := fun W => by
    have hmk := run_make (P := Tryz.prog) W 65 3 i0 (.int .i64 0) Tryz.underlying65 hi0 hz0 .i64 .i64 (n : Int) (n : Int) (by omega) (Int.le_refl _) (by rw [hz2]; omega) (by omega)
    rw [hz1, Int.toNat_natCast, show (Value.cells (.int .i64 0)) = #[.int .i64 0] from rfl, imade] at hmk
    rw [HZ.out]
    exact hmk
  go_enter Tryz.func81, Tryz.ntmps81
  go_wp2_with (first | (go_at_call 84; refine hN.mono ?_; rintro e w1 ⟨rfl, rfl⟩))
  go_region_held_law (fun w' => w'.cell? ⟨B, 1, none⟩ = some (.slice (some ⟨g, 0, none⟩) n n) ∧ w'.cell? ⟨B, 2, none⟩ = some (I l.length) ∧ w'.cell? ⟨B, 3, none⟩ = some (I hi))
    (first | exact ⟨c1, c3, c4⟩ | (go_keep; done))
    (fail)
  have b3 : Below w.heap.size w ((w.alloc (.cells ZZ 3)).alloc (.cells #[.bool true, .slice (some ⟨w.heap.size, 0, none⟩) n n, I l.length, I hi] 128)).drew := (((Below.refl _ w).alloc (Nat.le_refl _) _).alloc (by simp) _).drew
  have hb3 := heap_alloc_new (w.alloc (.cells ZZ 3)) (.cells #[.bool true, .slice (some ⟨w.heap.size, 0, none⟩) n n, I l.length, I hi] 128)
  have hg3 := heap_over (w.alloc (.cells ZZ 3)) (.cells #[.bool true, .slice (some ⟨w.heap.size, 0, none⟩) n n, I l.length, I hi] 128) (heap_alloc_new w (.cells ZZ 3))
  rw [World.size_alloc] at hb3
  have hg4 : ((w.alloc (.cells ZZ 3)).alloc (.cells #[.bool true, .slice (some ⟨w.heap.size, 0, none⟩) n n, I l.length, I hi] 128)).drew.heap[w.heap.size]? = some (.cells ZZ 3) := hg3
  have hb4 : ((w.alloc (.cells ZZ 3)).alloc (.cells #[.bool true, .slice (some ⟨w.heap.size, 0, none⟩) n n, I l.length, I hi] 128)).drew.heap[w.heap.size + 1]? = some (.cells #[.bool true, .slice (some ⟨w.heap.size, 0, none⟩) n n, I l.length, I hi] 128) := hb3
  clear hg3 hb3 c1 c3 c4 hN hmk
  generalize ((w.alloc (.cells ZZ 3)).alloc (.cells #[.bool true, .slice (some ⟨w.heap.size, 0, none⟩) n n, I l.length, I hi] 128)).drew = W at *
  have hlt := h.lts
  have h3 := h.below b3
  obtain ⟨-, c1, -, -⟩ := h3.cells
  have c1d : W.drew.cell? ⟨B, 1, none⟩ = some (.slice (some ⟨g, 0, none⟩) n n) := c1
  have k5 : W.cell? ⟨w.heap.size + 1, 1, none⟩ = some (.slice (some ⟨w.heap.size, 0, none⟩) n n) := by rw [cell_of_row W _ _ _ _ (0, 0) hb4]; rfl
  have k5d : W.drew.cell? ⟨w.heap.size + 1, 1, none⟩ = some (.slice (some ⟨w.heap.size, 0, none⟩) n n) := k5
  have HG6 : Hid (W.drew.heap[w.heap.size]? = some (.cells (List.replicate n (Value.int .i64 0)).toArray 3 (0, 0))) := HZ.out ▸ hg4
  have HB4 : Hid (W.drew.heap[w.heap.size + 1]? = some (.cells #[.bool true, .slice (some ⟨w.heap.size, 0, none⟩) n n, I l.length, I hi] 128)) := hb4
  have L1 : Hid (R.length = Nat.min n n) := by show _ = _; rw [h.k]; exact (Nat.min_self n).symm
  have ONE : Hid (∀ u ∈ R, u.oneCell' = true) := h.u
  have HPS : Hid (∀ (j : Nat) (v : Value), R[j]? = some v → W.drew.cell? ((⟨g, 0, none⟩ : Addr).add j) = some v) := fun j v hj => by rw [addr_add, Nat.zero_add]; exact h3.atR hj
  have FIT1 : Hid (0 + List.length R ≤ (List.replicate n (Value.int .i64 0)).length) := by show _ ≤ _; rw [List.length_replicate]; have := h.k; omega
  have RES1 : Hid (I n = goInt (List.length R)) := by show _ = _; rw [h.k]; rfl
  have HH : Hid (iSk w B g n hi R l) := h
  have hne1 : w.heap.size + 1 ∉ [w.heap.size] := by simp
  have hne2 : B ∉ [w.heap.size] := by simp; omega
  clear h h3 hg4 hb4
  go_wp2
  go_region_held_law (fun w' => w'.cell? ⟨w.heap.size + 1, 1, none⟩ = some (.slice (some ⟨w.heap.size, 0, none⟩) n n) ∧ w'.cell? ⟨B, 1, none⟩ = some (.slice (some ⟨g, 0, none⟩) n n))
    (first | exact ⟨k5, c1⟩ | exact ⟨k6, c6⟩ | exact ⟨k5d, c1d⟩ | (go_keep; done))
    (first
      | (refine step_copy_fx rfl (.tmp 25) (.tmp 29) 65 65 rfl 3 Tryz.underlying65 hsz (some ⟨w.heap.size, 0, none⟩) (some ⟨g, 0, none⟩) n n n n (by simp [Act.eval, Act.put]) (by simp [Act.eval, Act.put]) w.heap.size 0 (List.replicate n (Value.int .i64 0)) 3 HG6.out R L1.out (fun _ => ⟨rfl, _, rfl, HPS.out⟩) FIT1.out ONE.out (I n) RES1.out ?_; intro w6 hg6 F6; have k6 : w6.cell? ⟨w.heap.size + 1, 1, none⟩ = some (.slice (some ⟨w.heap.size, 0, none⟩) n n) := F6.cell k5d hne1; have c6 : w6.cell? ⟨B, 1, none⟩ = some (.slice (some ⟨g, 0, none⟩) n n) := F6.cell c1d hne2))
  go_wp2
  go_ret
  have h := HH.out
  have hg := hg6.out
  rw [splice_all _ R n h.k] at hg
  refine ⟨w.heap.size + 1, w.heap.size, rfl, ⟨F6.heap HB4.out hne1, hg, h.k, h.m, h.r, h.y, by omega, h.u⟩, by omega, Nat.le_refl _, b3.trans ?_⟩
  exact ((Fx.of_below (bs := [w.heap.size]) ((Below.refl W.heap.size W).drew)).trans F6).below (by have := b3.size; omega) (by simp)
end
end Go.Proofs.YtmllocfeflhjoaaGreat.St

namespace Go.Proofs.YtmllocfeflhjoaaGreat.St
open Go.RowKit
set_option linter.unusedVariables false
set_option linter.unusedSimpArgs false

/-! ### Stacks of int: their face -/
def iQ (w : World) (B g n hi : Nat) (xs : List Int) : Prop := ∃ R, iSk w B g n hi R (iV xs)
section
variable {w : World} {B g n hi : Nat} {xs : List Int}
theorem iQ.keptZ (h : iQ w B g n hi xs) {M : Nat → Prop} {w' : World} (hf : Fz M w w') (h1 : ¬ M B) (h2 : ¬ M g) : iQ w' B g n hi xs := by
  obtain ⟨R, h⟩ := h
  exact ⟨R, h.keptZ hf h1 h2⟩
theorem iQ.below (h : iQ w B g n hi xs) {w' : World} (hf : Below w.heap.size w w') : iQ w' B g n hi xs := h.keptZ (M := fun _ => False) (Fz.of_below hf) id id
theorem iQ.le (h : iQ w B g n hi xs) : xs.length ≤ n := by obtain ⟨R, h⟩ := h; have := h.lle; rwa [iV_len] at this
theorem iQ.hle (h : iQ w B g n hi xs) : xs.length ≤ hi ∧ hi ≤ n := by obtain ⟨R, h⟩ := h; have := h.y; rwa [iV_len] at this
theorem iQ.m (h : iQ w B g n hi xs) : n ≤ 1024 := by obtain ⟨R, h⟩ := h; exact h.m
theorem iQ.lts (h : iQ w B g n hi xs) : B < w.heap.size ∧ g < w.heap.size := by obtain ⟨R, h⟩ := h; exact h.lts
theorem iQ.ne (h : iQ w B g n hi xs) : B ≠ g := by obtain ⟨R, h⟩ := h; exact h.ne
theorem iQ.ty (h : iQ w B g n hi xs) : ∃ cs, w.heap[B]? = some (.cells cs 128) := by obtain ⟨R, h⟩ := h; exact ⟨_, h.o⟩
theorem iQ.tyg (h : iQ w B g n hi xs) : ∃ cs, w.heap[g]? = some (.cells cs 3) := by obtain ⟨R, h⟩ := h; exact ⟨_, h.q⟩
theorem iNewQ (w : World) (n : Nat) (hn : n ≤ 1024) : Calls Tryz.prog 123 #[I n] w fun e w' => e = .returned (.tuple #[iP (w.heap.size + 1), I 0]) ∧ iQ w' (w.heap.size + 1) w.heap.size n 0 [] ∧ Below w.heap.size w w' :=
  (iNew_ok w n hn).mono (fun e w' k => ⟨k.1, ⟨_, k.2.1⟩, k.2.2⟩)
theorem iPushQ (h : iQ w B g n hi xs) (hc : xs.length < n) (x : Int) : Calls Tryz.prog 40 #[iP B, (Value.int .i64 x)] w fun e w' => e = .returned (I 0) ∧ iQ w' B g n (max hi (xs.length + 1)) (xs ++ [x]) ∧ Fx [B, g] w w' := by
  obtain ⟨R, h⟩ := h
  refine (iPush_ok h (by rw [iV_len]; exact hc) x).mono ?_
  rintro e w' ⟨k, q, f⟩
  rw [iV_len, show iV xs ++ [(Value.int .i64 x)] = iV (xs ++ [x]) by simp [iV]] at q
  exact ⟨k, ⟨_, q⟩, f⟩
theorem iPushF (h : iQ w B g n hi xs) (hc : xs.length = n) (x : Int) : Calls Tryz.prog 40 #[iP B, (Value.int .i64 x)] w fun e w' => e = .returned (I 141) ∧ Below w.heap.size w w' := by
  obtain ⟨R, h⟩ := h
  exact iPush_full h (by rw [iV_len]; exact hc) x
theorem iPopQ (x : Int) (h : iQ w B g n hi (xs ++ [x])) : Calls Tryz.prog 57 #[iP B] w fun e w' => e = .returned (.tuple #[(Value.int .i64 x), I 0]) ∧ iQ w' B g n hi xs ∧ Fx [B, g] w w' := by
  obtain ⟨R, h⟩ := h
  rw [show iV (xs ++ [x]) = iV xs ++ [(Value.int .i64 x)] by simp [iV]] at h
  exact iPop_ok x h
theorem iPopN (h : iQ w B g n hi []) : Calls Tryz.prog 57 #[iP B] w fun e w' => e = .returned (.tuple #[(Value.int .i64 0), I 142]) ∧ w = w' := by
  obtain ⟨R, h⟩ := h
  exact iPop_no h
theorem iLenQ (h : iQ w B g n hi xs) : Calls Tryz.prog 59 #[iP B] w fun e w' => e = .returned (I xs.length) ∧ w = w' := by
  obtain ⟨R, h⟩ := h
  have := iLen_any h
  rwa [iV_len] at this
theorem iTopQ (x : Int) (h : iQ w B g n hi (xs ++ [x])) : Calls Tryz.prog 56 #[iP B] w fun e w' => e = .returned (.tuple #[I x, .bool true]) ∧ Below w.heap.size w w' := by
  obtain ⟨R, h⟩ := h
  rw [show iV (xs ++ [x]) = iV xs ++ [I x] by simp [iV]] at h
  exact iTop_ok x h
theorem iTopN (h : iQ w B g n hi []) : Calls Tryz.prog 56 #[iP B] w fun e w' => e = .returned (.tuple #[I 0, .bool false]) ∧ w = w' := by
  obtain ⟨R, h⟩ := h
  exact iTop_no h
theorem iCutN (h : iQ w B g n hi xs) (m : Int) (hm : m < 0) : Calls Tryz.prog 60 #[iP B, I m] w fun e w' => e = .returned (.tuple #[.slice none 0 0, I 2]) ∧ w = w' := by
  obtain ⟨R, h⟩ := h
  exact Cut_neg h m hm
theorem iCutO (h : iQ w B g n hi xs) (m : Int) (hm : (xs.length : Int) < m) : Calls Tryz.prog 60 #[iP B, I m] w fun e w' => e = .returned (.tuple #[.slice none 0 0, I 142]) ∧ w = w' := by
  obtain ⟨R, h⟩ := h
  exact Cut_over h m (by rw [iV_len]; exact hm)
theorem iCutQ (h : iQ w B g n hi xs) (m : Nat) (hm : m ≤ xs.length) : Calls Tryz.prog 60 #[iP B, I m] w fun e w' => ∃ X cap, e = .returned (.tuple #[.slice (some ⟨X, 0, none⟩) (xs.length - m) cap, I 0]) ∧ w'.ownsRow w.heap.size 3 1 (.slice (some ⟨X, 0, none⟩) (xs.length - m) cap) (xs.length - m) (iV (xs.drop m).reverse) ∧ iQ w' B g n hi (xs.take m) ∧ Fx [B, g] w w' := by
  obtain ⟨R, h⟩ := h
  exact Cut_ok h m hm
theorem iCopyQ (h : iQ w B g n hi xs) : Calls Tryz.prog 81 #[iP B] w fun e w' => ∃ B' g', e = .returned (iP B') ∧ iQ w' B' g' n hi xs ∧ w.heap.size ≤ B' ∧ w.heap.size ≤ g' ∧ Below w.heap.size w w' := by
  obtain ⟨R, h⟩ := h
  refine (iCopy_any h).mono ?_
  rintro e w' ⟨B', g', k1, k2, k3⟩
  exact ⟨B', g', k1, ⟨_, k2⟩, k3⟩
end
end Go.Proofs.YtmllocfeflhjoaaGreat.St

namespace Go.Proofs.YtmllocfeflhjoaaGreat
open Go.RowKit Go.Maps
open Go.Proofs.YtmllocfeflhjoaaGreat.St (Fx Fz iQ iP)
set_option linter.unusedVariables false
set_option linter.unusedSimpArgs false

/-! ### The map of the owners -/
def opV : Option Nat → Value
  | some q => .pointer (some ⟨q, 0, none⟩)
  | none => .pointer none
def opD : Option Nat → DataW Unit
  | some q => .lit (.int .i64 (q : Int))
  | none => .lit (.int .i64 (-1))
def Rp : Value → Option (DataW Unit × List MemPlace)
  | .pointer none => some (opD none, [])
  | .pointer (some ⟨q, 0, none⟩) => some (opD (some q), [])
  | _ => none
theorem Rp_op (q : Option Nat) : Rp (opV q) = some (opD q, []) := by cases q <;> rfl
theorem opD_inj {p q : Option Nat} (h : opD p = opD q) : p = q := by
  cases p <;> cases q <;> simp [opD] at h <;> first | rfl | omega | (congr 1; omega)
theorem Rp_inv {v : Value} {y : DataW Unit × List MemPlace} (h : Rp v = some y) : ∃ q, v = opV q ∧ y.1 = opD q := by
  unfold Rp at h
  split at h
  · cases h; exact ⟨none, rfl, rfl⟩
  · cases h; exact ⟨some _, rfl, rfl⟩
  · cases h
/-- The map in block b leads from each owner o to what p says. -/
def OwM (w : World) (b n : Nat) (p : Own → Option Nat) : Prop := ∃ D : DataW Unit, w.ownsMap Tryz.prog 23 Rp b n D ∧ (∀ o, o.wf → Maps.has D (kl o) = (p o).isSome ∧ ((p o).isSome = true → ∀ z, D.atKey (kl o) z = opD (p o)))
section
variable {w : World} {b n : Nat} {p : Own → Option Nat}
theorem OwM.made (w : World) (n : Nat) : OwM (w.alloc (.map #[] 0)) w.heap.size n (fun _ => none) :=
  ⟨.map [], (World.ownsMap_made _ _ _ _).mono (Nat.zero_le _), fun o _ => ⟨by simp [Maps.has], fun h => by cases h⟩⟩
theorem OwM.lt (h : OwM w b n p) : b < w.heap.size := by obtain ⟨D, h, _⟩ := h; exact h.lt
theorem OwM.kept {w' : World} (h : OwM w b n p) (hb : w'.heap[b]? = w.heap[b]?) : OwM w' b n p := by
  obtain ⟨D, ⟨es, clock, h1, h2⟩, h3⟩ := h
  exact ⟨D, ⟨es, clock, hb.trans h1, h2⟩, h3⟩
theorem zeroP (w : World) : (zeroValue 83).run Tryz.prog w = .ok (opV none) w := by kernel_rfl
theorem OwM.look (h : OwM w b n p) (o : Own) (ho : o.wf) : (Instr.lookup 29 (.map (some b)) (.agg #[.bool o.isr, I o.id]) true).run Tryz.prog w = .ok (.tuple #[opV (p o), .bool (p o).isSome]) w := by
  obtain ⟨D, hD, h2⟩ := h
  obtain ⟨v, ps, hrun, hv⟩ := hD.look_ok keyOwn Tryz.underlying29 (zeroP w) (Rp_op none) (key_own o ho)
  obtain ⟨q, rfl, hq⟩ := Rp_inv hv
  rw [(h2 o ho).1] at hrun
  have : q = p o := by
    cases hp : p o with
    | none =>
      have h3 := (h2 o ho).1
      rw [hp] at h3
      rw [Maps.atKey_of_not_has h3] at hq
      exact (opD_inj hq).symm
    | some r =>
      have h3 := (h2 o ho).2 (by rw [hp]; rfl)
      rw [h3, hp] at hq
      exact (opD_inj hq).symm
  rw [this] at hrun
  exact hrun
theorem OwM.put (h : OwM w b n p) (hn : n < 1048576) (o : Own) (ho : o.wf) (q : Nat) : ∃ w', (Instr.mapUpdate 29 (.map (some b)) (.agg #[.bool o.isr, I o.id]) (.pointer (some ⟨q, 0, none⟩))).run Tryz.prog w = .ok () w' ∧ OwM w' b (n + 1) (fun x => if x = o then some q else p x) ∧ w.grownBy w' (some b) := by
  obtain ⟨D, hD, h2⟩ := h
  obtain ⟨w', hrun, r1, r2⟩ := hD.update keyOwn Tryz.underlying29 (by unfold maxLen; omega) (key_own o ho) (Rp_op (some q))
  refine ⟨w', hrun, ⟨_, r1, fun x hx => ?_⟩, r2⟩
  dsimp only
  by_cases e : x = o
  · subst e
    rw [if_pos rfl]
    exact ⟨Maps.has_put_same hD.isMap (kl_lit x) _, fun _ z => Maps.atKey_put_same hD.isMap (kl_lit x) _ _⟩
  · rw [if_neg e, Maps.has_put_other (kl_ne hx ho e)]
    refine ⟨(h2 x hx).1, fun hp z => ?_⟩
    rw [Maps.atKey_put_other (kl_ne hx ho e)]
    exact (h2 x hx).2 hp z
end

/-! ### The takes -/
abbrev Tks := List (Own × Int)
def hld (L : Tks) (o : Own) : List Int := (L.filter fun t => decide (t.1 = o)).map (·.2)
def hdr (L : Tks) (r : Int) : Option Own := (L.find? fun t => decide (t.2 = r)).map (·.1)
def nodR (L : Tks) (r : Int) : Tks := L.filter fun t => decide (t.2 ≠ r)
theorem hdr_some {L : Tks} {r : Int} {o : Own} (h : hdr L r = some o) : (o, r) ∈ L := by
  unfold hdr at h
  rw [Option.map_eq_some_iff] at h
  obtain ⟨t, h1, rfl⟩ := h
  have h2 := List.find?_some h1
  have h3 := List.mem_of_find?_eq_some h1
  simp at h2
  rw [← h2]
  exact h3
theorem hdr_none {L : Tks} {r : Int} : hdr L r = none ↔ ∀ o, (o, r) ∉ L := by
  unfold hdr
  rw [Option.map_eq_none_iff, List.find?_eq_none]
  simp only [decide_eq_true_eq]
  exact ⟨fun h o hm => h _ hm rfl, fun h t ht e => h t.1 (by rw [← e]; exact ht)⟩
theorem hdr_mem {L : Tks} (hn : (L.map (·.2)).Nodup) {o : Own} {r : Int} (h : (o, r) ∈ L) : hdr L r = some o := by
  cases hh : hdr L r with
  | none => exact absurd h (hdr_none.1 hh o)
  | some o' =>
    have h' := hdr_some hh
    congr 1
    induction L with
    | nil => cases h
    | cons t L ih =>
      rw [List.map_cons, List.nodup_cons] at hn
      rcases List.mem_cons.1 h with rfl | h1 <;> rcases List.mem_cons.1 h' with h2 | h2
      · exact congrArg Prod.fst h2
      · exact absurd (List.mem_map.2 ⟨_, h2, rfl⟩) hn.1
      · rw [← h2] at hn; exact absurd (List.mem_map.2 ⟨_, h1, rfl⟩) hn.1
      · have : hdr L r = some o' := by
          cases h3 : hdr L r with
          | none => exact absurd h2 (hdr_none.1 h3 o')
          | some o'' =>
            unfold hdr at hh h3
            rw [List.find?_cons] at hh
            have h4 : decide (t.2 = r) = false := decide_eq_false (fun e => hn.1 (List.mem_map.2 ⟨_, h1, e.symm⟩))
            rw [h4] at hh
            simp only at hh
            rw [← hh, h3]
        exact ih hn.2 h1 this h2
theorem mem_hld {L : Tks} {o : Own} {r : Int} : r ∈ hld L o ↔ (o, r) ∈ L := by
  unfold hld
  rw [List.mem_map]
  constructor
  · rintro ⟨t, ht, rfl⟩
    rw [List.mem_filter] at ht
    have := ht.2
    simp at this
    rw [← this]
    exact ht.1
  · intro h
    exact ⟨(o, r), List.mem_filter.2 ⟨h, by simp⟩, rfl⟩
theorem hld_nodup {L : Tks} (hn : (L.map (·.2)).Nodup) (o : Own) : (hld L o).Nodup := by
  unfold hld
  exact hn.sublist (List.filter_sublist.map _)
theorem nod_len {L : Tks} (hn : (L.map (·.2)).Nodup) (r : Int) : (nodR L r).length + (if (hdr L r).isSome then 1 else 0) = L.length := by
  induction L with
  | nil => rfl
  | cons t L ih =>
    rw [List.map_cons, List.nodup_cons] at hn
    by_cases e : t.2 = r
    · have hz : nodR L r = L := List.filter_eq_self.2 (fun x hx => by
        simp only [decide_eq_true_eq]
        intro e2
        exact hn.1 (List.mem_map.2 ⟨x, hx, e2.trans e.symm⟩))
      have h1 : nodR (t :: L) r = nodR L r := by unfold nodR; rw [List.filter_cons, if_neg (by simp [e])]
      have h2 : hdr (t :: L) r = some t.1 := by unfold hdr; rw [List.find?_cons, decide_eq_true e]; rfl
      rw [h1, hz, h2]
      rfl
    · have h1 : nodR (t :: L) r = t :: nodR L r := by unfold nodR; rw [List.filter_cons, if_pos (by simp [e])]
      have h2 : hdr (t :: L) r = hdr L r := by unfold hdr; rw [List.find?_cons, decide_eq_false e]
      have := ih hn.2
      rw [h1, h2, List.length_cons, List.length_cons]
      omega
theorem hdr_nod {L : Tks} {r x : Int} : hdr (nodR L r) x = if x = r then none else hdr L x := by
  unfold hdr nodR
  rw [List.find?_filter]
  by_cases e : x = r
  · rw [if_pos e, Option.map_eq_none_iff, List.find?_eq_none]
    intro t _
    simp [e]
  · rw [if_neg e]
    congr 2
    funext t
    by_cases e2 : t.2 = x
    · simp [e2, e]
    · simp [e2]
theorem hdr_snoc {L : Tks} {o : Own} {r x : Int} : hdr (L ++ [(o, r)]) x = match hdr L x with | some y => some y | none => if x = r then some o else none := by
  unfold hdr
  rw [List.find?_append]
  cases h : List.find? (fun t => decide (t.2 = x)) L with
  | some t => simp
  | none =>
    by_cases e : x = r
    · simp [e]
    · have : ¬ r = x := fun k => e k.symm
      simp [e, this]
theorem hld_snoc {L : Tks} {o x : Own} {r : Int} : hld (L ++ [(o, r)]) x = if x = o then hld L o ++ [r] else hld L x := by
  unfold hld
  rw [List.filter_append, List.map_append]
  by_cases e : x = o
  · simp [e]
  · have : ¬ o = x := fun k => e k.symm
    simp [e, this]
theorem hld_nod {L : Tks} {x : Own} {r : Int} : hld (nodR L r) x = (hld L x).filter (fun y => decide (y ≠ r)) := by
  unfold hld nodR
  rw [List.filter_map, List.filter_filter, List.filter_filter]
  congr 1
  apply List.filter_congr
  intro t _
  simp [Bool.and_comm]

/-! ### The map of the holders -/
def ozV (o : Option Own) : Value := match o with | some x => ov x | none => ov ⟨false, 0⟩
def ozD (o : Own) : DataW Unit := .agg [.lit (.bool o.isr), .lit (.int .i64 o.id)]
def Ro (v : Value) : Option (DataW Unit × List MemPlace) := match v with
  | .agg ⟨[.bool x, .int .i64 i]⟩ => some (ozD ⟨x, i⟩, [])
  | _ => none
theorem Ro_ov (o : Own) : Ro (ov o) = some (ozD o, []) := rfl
theorem ozD_inj {a b : Own} (h : ozD a = ozD b) : a = b := by
  cases a; cases b
  simp [ozD] at h
  simp [h]
theorem Ro_inv {v : Value} {y : DataW Unit × List MemPlace} (h : Ro v = some y) : ∃ o, v = ov o ∧ y.1 = ozD o := by
  unfold Ro at h
  split at h
  · cases h; exact ⟨_, rfl, rfl⟩
  · cases h
theorem keyI9 : Keyed Tryz.prog 3 := int_keyed Tryz.underlying3
def HdM (w : World) (b : Nat) (L : Tks) : Prop := ∃ D : DataW Unit, w.ownsMap Tryz.prog 3 Ro b L.length D ∧ Maps.size D = L.length ∧ ∀ r, (Lit.int .i64 r).wf = true → Maps.has D (.int .i64 r) = (hdr L r).isSome ∧ ∀ o, hdr L r = some o → ∀ z, D.atKey (.int .i64 r) z = ozD o
section
variable {w : World} {b : Nat} {L : Tks}
theorem own_tight9 {H : Type} {w : World} {P : Program} {k : TypeId} {R : Value → Option (DataW H × List MemPlace)} {b n : Nat} {D : DataW H} (h : w.ownsMap P k R b n D) : w.ownsMap P k R b (Maps.size D) D := by
  obtain ⟨es, clock, hb, F, hs, rfl⟩ := h
  refine ⟨es, clock, hb, F, ?_, rfl⟩
  rw [Maps.size_eq, length_sorted]
  simp
theorem HdM.made (w : World) : HdM (w.alloc (.map #[] 0)) w.heap.size [] :=
  ⟨.map [], World.ownsMap_made _ _ _ _, rfl, fun r _ => ⟨by simp [Maps.has, hdr], fun o h => by simp [hdr] at h⟩⟩
theorem HdM.lt (h : HdM w b L) : b < w.heap.size := by obtain ⟨D, h, _⟩ := h; exact h.lt
theorem HdM.kept {w' : World} (h : HdM w b L) (hb : w'.heap[b]? = w.heap[b]?) : HdM w' b L := by
  obtain ⟨D, ⟨es, clock, h1, h2⟩, h3⟩ := h
  exact ⟨D, ⟨es, clock, hb.trans h1, h2⟩, h3⟩
theorem zeroO (w : World) : (zeroValue 23).run Tryz.prog w = .ok (ov ⟨false, 0⟩) w := by kernel_rfl
theorem HdM.look (h : HdM w b L) (r : Int) (hr : (Lit.int .i64 r).wf = true) : (Instr.lookup 30 (.map (some b)) (.int .i64 r) true).run Tryz.prog w = .ok (.tuple #[ozV (hdr L r), .bool (hdr L r).isSome]) w := by
  obtain ⟨D, hD, hs, h2⟩ := h
  obtain ⟨v, ps, hrun, hv⟩ := hD.look_ok keyI9 Tryz.underlying30 (zeroO w) (Ro_ov _) (keyOf_int_mk Tryz.underlying3 hr)
  obtain ⟨q, rfl, hq⟩ := Ro_inv hv
  rw [(h2 r hr).1] at hrun
  have : ov q = ozV (hdr L r) := by
    cases hp : hdr L r with
    | none =>
      have h3 := (h2 r hr).1
      rw [hp] at h3
      rw [Maps.atKey_of_not_has h3] at hq
      rw [← ozD_inj hq]
      rfl
    | some o =>
      have h3 := (h2 r hr).2 o hp
      rw [h3] at hq
      rw [← ozD_inj hq]
      rfl
  rw [this] at hrun
  exact hrun
theorem HdM.put (h : HdM w b L) (hn : L.length < 1048576) (o : Own) (r : Int) (hr : (Lit.int .i64 r).wf = true) (hf : hdr L r = none) : ∃ w', (Instr.mapUpdate 30 (.map (some b)) (.int .i64 r) (.agg #[.bool o.isr, I o.id])).run Tryz.prog w = .ok () w' ∧ HdM w' b (L ++ [(o, r)]) ∧ w.grownBy w' (some b) := by
  obtain ⟨D, hD, hs, h2⟩ := h
  have hT := hD.tidy keyI9
  have hkl : WideAt.IsKeyLit (.int .i64 r) := trivial
  obtain ⟨w', hrun, r1, r2⟩ := hD.update keyI9 Tryz.underlying30 (by unfold maxLen; omega) (keyOf_int_mk Tryz.underlying3 hr) (Ro_ov o)
  have hsz : Maps.size (D.put (.int .i64 r) (ozD o)) = (L ++ [(o, r)]).length := by
    rw [Maps.size_put hT, (h2 r hr).1, hf, hs]
    simp
  refine ⟨w', hrun, ⟨_, by rw [← hsz]; exact own_tight9 r1, hsz, fun x hx => ?_⟩, r2⟩
  rw [hdr_snoc]
  by_cases e : x = r
  · subst e
    rw [hf, Maps.has_put_same hD.isMap hkl]
    refine ⟨by simp, fun o' ho' z => ?_⟩
    simp at ho'
    rw [Maps.atKey_put_same hD.isMap hkl, ho']
  · have hne : (Lit.int .i64 x) ≠ .int .i64 r := fun k => e (by injection k)
    rw [Maps.has_put_other hne, if_neg e]
    have h3 := h2 x hx
    cases hp : hdr L x with
    | none => rw [hp] at h3; exact ⟨h3.1, fun o' ho' => by cases ho'⟩
    | some y =>
      rw [hp] at h3
      refine ⟨h3.1, fun o' ho' z => ?_⟩
      rw [Maps.atKey_put_other hne]
      exact h3.2 o' ho' z
theorem HdM.del (h : HdM w b L) (hnd : (L.map (·.2)).Nodup) (r : Int) (hr : (Lit.int .i64 r).wf = true) (ty : TypeId) : ∃ w', (Builtin.delete_ #[30, 3] ty #[.map (some b), .int .i64 r]).run Tryz.prog w = .ok (.tuple #[]) w' ∧ HdM w' b (nodR L r) ∧ w.grownBy w' (some b) := by
  obtain ⟨D, hD, hs, h2⟩ := h
  have hT := hD.tidy keyI9
  obtain ⟨w', hrun, r1, r2⟩ := hD.drop keyI9 Tryz.underlying30 (keyOf_int_mk Tryz.underlying3 hr) ty
  have hsz : Maps.size (D.del (.int .i64 r)) = (nodR L r).length := by
    have h3 := Maps.size_del hT (k := .int .i64 r)
    have h4 := nod_len hnd r
    rw [(h2 r hr).1, hs] at h3
    omega
  refine ⟨w', hrun, ⟨_, by rw [← hsz]; exact own_tight9 r1, hsz, fun x hx => ?_⟩, r2.grown⟩
  rw [hdr_nod]
  by_cases e : x = r
  · subst e
    rw [if_pos rfl, Maps.has_del_same]
    exact ⟨rfl, fun o ho => by cases ho⟩
  · have hne : (Lit.int .i64 x) ≠ .int .i64 r := fun k => e (by injection k)
    rw [if_neg e, Maps.has_del_other hne]
    refine ⟨(h2 x hx).1, fun o ho z => ?_⟩
    rw [Maps.atKey_del_other hne]
    exact (h2 x hx).2 o ho z
end
end Go.Proofs.YtmllocfeflhjoaaGreat

