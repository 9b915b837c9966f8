import Derived.Test.YtglnfifdjlgbcaaGreatDoorXZfi
import Derived.Laws.AppendOwnNone
import Derived.Maps.AppendAt
import Derived.RangeFuncNested
import Derived.RangeFuncBound
import Derived.RangeFuncCalls
import Derived.RangeFuncLeaves
import Derived.RangeFuncBox
import Derived.Shelf.Abstract
import Derived.Shelf.RegionOpen
import Derived.WalkKit
import Derived.OwnWalkIn
import Derived.TacticsInMore
import Derived.LoopNIn
import Derived.LoopIn
import Derived.Maps.OwnIn
namespace Go.Proofs.YtglnfifdjlgbcaaGreatDoor.St
open Go.RowKit
set_option linter.unusedVariables false
set_option linter.unusedSimpArgs false

/-! ### Stacks of ints: above, Cut, Copy -/
theorem own_some {w : World} {b E m : Nat} {v : Value} {xs : List Value} (h : w.ownsRow b E 1 v m xs) (hn : v ≠ .slice none 0 0) : ∃ X cap, v = .slice (some ⟨X, 0, none⟩) m cap := by
  rcases h.2 with ⟨h1, _⟩ | ⟨g, cap, cur, h1, _⟩
  · exact absurd h1 hn
  · exact ⟨g, cap, h1⟩
theorem take_rev (xs : List Int) (m : Nat) (hm : m ≤ xs.length) : xs.reverse.take (xs.length - m) = (xs.drop m).reverse := by
  rw [List.take_reverse, show xs.length - (xs.length - m) = m by omega]
section
variable {w : World} {B g n hi : Nat} {R l : List Value} {xs : List Int}
set_option maxHeartbeats 4000000 in
theorem above_any (h : iSk w B g n hi R (iV xs)) (m : Nat) (hm : m ≤ xs.length) : Calls Tryz.prog 173 #[iP B, I m] w fun e w' => ∃ X cap, e = .returned (.slice (some ⟨X, 0, none⟩) (xs.length - m) cap) ∧ w'.ownsRow w.heap.size 3 1 (.slice (some ⟨X, 0, none⟩) (xs.length - m) cap) (xs.length - m) (iV (xs.drop m).reverse) ∧ Below w.heap.size w w' := by
  obtain ⟨i0, hi0, hz0, hz1, hz2⟩ := info_parts iinfo
  have hle := h.lle
  have hn := h.m
  rw [iV_len] at hle
  have HF : Hid (∀ W, Below w.heap.size w W → W.cell? ⟨B, 1, none⟩ = some (.slice (some ⟨g, 0, none⟩) n n) ∧ W.cell? ⟨B, 2, none⟩ = some (I xs.length) ∧ ∀ (j : Nat) (x : Int), xs[j]? = some x → W.cell? ⟨g, j, none⟩ = some (I x)) := fun W hb => by
    have h1 := h.below hb
    obtain ⟨-, c1, c2, -⟩ := h1.cells
    rw [iV_len] at c2
    exact ⟨c1, c2, fun j x hj => h1.at (by simp [iV, hj])⟩
  obtain ⟨-, c2, -⟩ := HF.out w (Below.refl _ _)
  have hMK := run_make_own (P := Tryz.prog) w w.heap.size 31 3 i0 (.int .i64 0) 1 Tryz.underlying31 hi0 hz0 hz1 .i64 .i64 (xs.length - m) (by rw [hz2]; omega) (by unfold maxLen; omega) (Nat.le_refl _)
  obtain ⟨w2, hmk, hO2, hg2⟩ := hMK
  have b2 : Below w.heap.size w w2 := (Below.refl _ w).grown hg2 (Nat.le_refl _) (fun k e => by cases e)
  have HX : Hid (w2.ownsRow w.heap.size 3 1 (.slice (some ⟨w.heap.size, 0, none⟩) 0 (xs.length - m)) 0 (iV (xs.reverse.take 0)) ∧ Below w.heap.size w w2) := ⟨hO2, b2⟩
  have c22 := (HF.out w2 b2).2.1
  rw [show ((xs.length - m : Nat) : Int) = (xs.length : Int) - m by omega] at hmk
  clear h hg2 hO2 b2
  go_enter Tryz.func173, Tryz.ntmps173
  go_wp2
  go_loopw [5, 6] (fun v i wr => ∃ (X cap k : Nat), k ≤ xs.length - m ∧ v = .slice (some ⟨X, 0, none⟩) k cap ∧ i = .int .i64 ((xs.length : Int) - 1 - k) ∧ Hid (wr.ownsRow w.heap.size 3 1 (.slice (some ⟨X, 0, none⟩) k cap) k (iV (xs.reverse.take k)) ∧ Below w.heap.size w wr)) (fun _ i _ => (intOf i + 1 - m).toNat)
  case atStart => exact ⟨w.heap.size, xs.length - m, 0, by omega, rfl, by simp, HX.out⟩
  case round =>
    clear HX c22 hmk c2
    obtain ⟨X, cap, k, hk, rfl, rfl, HJ⟩ := hrel
    by_cases hlt : k < xs.length - m
    · obtain ⟨x, hx⟩ : ∃ x, xs[xs.length - 1 - k]? = some x := ⟨_, List.getElem?_eq_getElem (by omega)⟩
      have hrv : xs.reverse[k]? = some x := by rw [List.getElem?_reverse (by omega)]; exact hx
      have htk : Hid (iV (xs.reverse.take (k + 1)) = iV (xs.reverse.take k) ++ [I x]) := by
        show _ = _
        rw [List.take_add_one, hrv]
        simp [iV]
      obtain ⟨hO, hB⟩ := HJ.out
      obtain ⟨c1, c2, hc⟩ := HF.out wr hB
      have c3 := hc _ x hx
      clear hc hx hrv HJ
      have hp0 : ¬ ((xs.length : Int) - 1 - k) < 0 := by omega
      have hp1 : ((xs.length : Int) - 1 - k) < n := by omega
      have hge : (m : Int) ≤ (xs.length : Int) - 1 - k := by omega
      go_wp2_with (at_builtin; refine wpList_append_own _ rfl (.tmp 24) (.tmp 32) 31 rfl w.heap.size 3 i0 (.int .i64 0) 1 8 Tryz.underlying31 hi0 hz0 hz1 hz2 rfl (by decide) _ _ _ rfl (hO.alloc (.cells #[I x] 3)) ⟨wr.heap.size, 0, none⟩ 1 1 [I x] rfl rfl (cell_one_new _ _ _) (by intro u hu; simp at hu; subst hu; rfl) (by unfold maxLen; omega) (by omega) (by have := hB.size; simp; omega) ?_; intro v4 w4 h4 hg4 hn4; have b4 : Below w.heap.size w w4 := (hB.alloc (hB.size) (.cells #[I x] 3)).grown hg4 (by have := hB.size; simp; omega) (fun k e => ((hO.alloc (.cells #[I x] 3)).lt k e).1); have n4 : v4 ≠ .slice none 0 0 := (fun e => by have := (hn4.1 e).1; cases this); obtain ⟨X4, cap4, rfl⟩ := own_some h4 n4; have H9 : Hid (w4.ownsRow w.heap.size 3 1 (.slice (some ⟨X4, 0, none⟩) (k + 1) cap4) (k + 1) (iV (xs.reverse.take (k + 1))) ∧ Below w.heap.size w w4) := (by rw [htk.out]; exact ⟨h4, b4⟩); clear hg4 h4 hn4 n4 hO c1 c2 c3 htk b4)
      go_roundw
      case rel => exact ⟨X4, cap4, k + 1, by omega, rfl, congrArg (Value.int .i64) (by omega), H9.out⟩
      case measure => simp [intOf]; omega
    · obtain rfl : k = xs.length - m := by omega
      have hge : ¬ (m : Int) ≤ (xs.length : Int) - 1 - ((xs.length - m : Nat) : Int) := by omega
      obtain ⟨hO, hB⟩ := HJ.out
      rw [take_rev xs m hm] at hO
      go_wp2
      go_ret
      exact ⟨X, cap, rfl, hO, hB⟩
theorem Cut_neg (h : iSk w B g n hi R l) (m : Int) (hm : m < 0) : Calls Tryz.prog 92 #[iP B, I m] w fun e w' => e = .returned (.tuple #[.slice none 0 0, I 2]) ∧ w = w' := by
  have hN := inone_any h
  go_enter Tryz.func92, Tryz.ntmps92
  go_wp2_with (first | (go_at_call 130; refine hN.mono ?_; rintro e w1 ⟨rfl, rfl⟩))
  go_ret2
  exact ⟨rfl, rfl⟩
theorem Cut_over (h : iSk w B g n hi R l) (m : Int) (hm : (l.length : Int) < m) : Calls Tryz.prog 92 #[iP B, I m] w fun e w' => e = .returned (.tuple #[.slice none 0 0, I 142]) ∧ w = w' := by
  have hN := inone_any h
  obtain ⟨-, -, c2, -⟩ := h.cells
  have h0 : ¬ m < 0 := by omega
  go_enter Tryz.func92, Tryz.ntmps92
  go_wp2_with (first | (go_at_call 130; refine hN.mono ?_; rintro e w1 ⟨rfl, rfl⟩))
  go_ret2
  exact ⟨rfl, rfl⟩
theorem Cut_ok (h : iSk w B g n hi R (iV xs)) (m : Nat) (hm : m ≤ xs.length) : Calls Tryz.prog 92 #[iP B, I m] w fun e w' => ∃ X cap, e = .returned (.tuple #[.slice (some ⟨X, 0, none⟩) (xs.length - m) cap, I 0]) ∧ w'.ownsRow w.heap.size 3 1 (.slice (some ⟨X, 0, none⟩) (xs.length - m) cap) (xs.length - m) (iV (xs.drop m).reverse) ∧ (∃ R', iSk w' B g n hi R' (iV (xs.take m))) ∧ Fx [B, g] w w' := by
  have hN := inone_any h
  obtain ⟨-, -, c2, -⟩ := h.cells
  rw [iV_len] at c2
  have h0 : ¬ (m : Int) < 0 := by omega
  have h1 : ¬ (xs.length : Int) < m := by omega
  have hA := above_any h m hm
  have hlt := h.lts
  have hK := fun W (hb : Below w.heap.size w W) => ikeep_any (h.below hb) m (by rw [iV_len]; exact hm)
  clear h hm
  go_enter Tryz.func92, Tryz.ntmps92
  go_wp2_with (first
    | (go_at_call 130; refine hN.mono ?_; rintro e w1 ⟨rfl, rfl⟩)
    | (go_at_call 173; refine hA.mono ?_; rintro e w1 ⟨X, cap, rfl, ho1, b1⟩)
    | (go_at_call 184; refine (hK _ b1).mono ?_; rintro e w2 ⟨rfl, ⟨R2, k2⟩, f2⟩))
  go_ret2
  refine ⟨X, cap, rfl, f2.own ho1 (fun k e => ?_), ⟨R2, by rw [show (iV xs).take m = iV (xs.take m) by simp [iV, List.map_take]] at k2; exact k2⟩, (Fx.of_below b1).trans f2⟩
  have := (ho1.lt k e).1
  simp
  omega
end
end Go.Proofs.YtglnfifdjlgbcaaGreatDoor.St

namespace Go.Proofs.YtglnfifdjlgbcaaGreatDoor.St
open Go.RowKit
set_option linter.unusedVariables false
set_option linter.unusedSimpArgs false

/-! ### Stacks of ints: Copy -/
theorem step_copy_fx {P : Program} {ops : Array Oper} {o : Oper} {a : Act} {w : World} {K : Act → World → Prop} {Q : Exit → Act → World → Prop} {E : Prop} (hgd : o.guard = none) (d s : Operand) (dT sT : TypeId)
    (ho : o.op = .call { callee := .builtin .copy, args := #[d, s], argTypes := #[dT, sT] }) (elem : TypeId) (hu : P.underlying dT = some (.slice elem)) (hsz : (P.info? elem).map (·.size) = some 1)
    (dp sp : Option Addr) (dLen dCap sLen sCap : Nat) (hd : a.eval d = .slice dp dLen dCap) (hs : a.eval s = .slice sp sLen sCap)
    (g off : Nat) (cur : List Value) (t : TypeId) (hg : w.heap[g]? = some (.cells cur.toArray t (0, 0))) (cs : List Value) (hn : cs.length = Nat.min sLen dLen)
    (hpos : 0 < cs.length → dp = some ⟨g, off, none⟩ ∧ ∃ ad, sp = some ad ∧ ∀ j v, cs[j]? = some v → w.cell? (ad.add j) = some v)
    (hfit : off + cs.length ≤ cur.length) (h1 : ∀ v ∈ cs, v.oneCell' = true) (vr : Value) (hvr : vr = goInt cs.length)
    (h : ∀ w', Hid (w'.heap[g]? = some (.cells (splice cur off cs).toArray t (0, 0))) → Fx [g] w w' → K (a.put o.dst vr) w') :
    if Region.wanted o (yielded ops a.tmps) = true then Oper.wp P o a w K Q else E := by
  subst hvr
  have hw : Region.wanted o (yielded ops a.tmps) = true := by simp [Region.wanted, hgd]
  rw [if_pos hw]
  by_cases h0 : cs.length = 0
  · obtain rfl : cs = [] := List.eq_nil_of_length_eq_zero h0
    have hrun := run_copy_none (P := P) w dT sT o.type elem dp sp dLen dCap sLen sCap hu hsz (by simpa using hn.symm)
    unfold Oper.wp
    simp [execOp, ho, resolve, invoke, builtin, hd, hs, hrun, Result.andThen]
    exact h w (show _ = _ by simpa [splice] using hg) (Fx.refl _ _)
  · obtain ⟨rfl, ad, rfl, hsrc⟩ := hpos (by omega)
    have hrun := run_copy_row (P := P) w dT sT o.type elem g off dLen dCap ad sLen sCap cur.toArray t cs hu hsz hg hn hsrc (by simpa using hfit) h1
    unfold Oper.wp
    simp [execOp, ho, resolve, invoke, builtin, hd, hs, hrun, Result.andThen]
    refine h _ (show _ = _ by simpa [splice] using setRow_heap w g _ _ t _ hg) ⟨rfl, rfl, rfl, by simp [World.setRow], fun k _ hk => setRow_other w g k _ (by simpa using hk)⟩
theorem splice_all (z : Value) (R : List Value) (n : Nat) (h : R.length = n) : splice (List.replicate n z) 0 R = R := by
  unfold splice
  simp [h]
section
variable {w : World} {B g n hi : Nat} {R l : List Value}
set_option maxHeartbeats 4000000 in
set_option maxRecDepth 100000 in
theorem iCopy_any (h : iSk w B g n hi R l) : Calls Tryz.prog 84 #[iP B] w fun e w' => ∃ B' g', e = .returned (iP B') ∧ iSk w' B' g' n hi R l ∧ w.heap.size ≤ B' ∧ w.heap.size ≤ g' ∧ Below w.heap.size w w' := by
  obtain ⟨i0, hi0, hz0, hz1, hz2⟩ := info_parts iinfo
  obtain ⟨-, c1, c3, c4⟩ := h.cells
  have hN := inone_any h
  have hm := h.m
  have hle := h.lle
  have hNE := h.ne
  have hsz : (Tryz.prog.info? 3).map (·.size) = some 1 := by rw [hi0]; simp [hz1]
  obtain ⟨ZZ, hZZ⟩ : ∃ Z : Array Value, Z = (List.replicate n (Value.int .i64 0)).toArray := ⟨_, rfl⟩
  have HZ : Hid (ZZ = (List.replicate n (Value.int .i64 0)).toArray) := hZZ
  clear hZZ
  have hmk : ∀ W : World, (Instr.makeSlice 31 (I n) (I n)).run Tryz.prog W = .ok (.slice (some ⟨W.heap.size, 0, none⟩) n n) (W.alloc (.cells ZZ 3)) := fun W => by
    have hmk := run_make (P := Tryz.prog) W 31 3 i0 (.int .i64 0) Tryz.underlying31 hi0 hz0 .i64 .i64 (n : Int) (n : Int) (by omega) (Int.le_refl _) (by rw [hz2]; omega) (by omega)
    rw [hz1, Int.toNat_natCast, show (Value.cells (.int .i64 0)) = #[.int .i64 0] from rfl, imade] at hmk
    rw [HZ.out]
    exact hmk
  go_enter Tryz.func84, Tryz.ntmps84
  go_wp2_with (first | (go_at_call 130; refine hN.mono ?_; rintro e w1 ⟨rfl, rfl⟩))
  go_region_held_law (fun w' => w'.cell? ⟨B, 1, none⟩ = some (.slice (some ⟨g, 0, none⟩) n n) ∧ w'.cell? ⟨B, 2, none⟩ = some (I l.length) ∧ w'.cell? ⟨B, 3, none⟩ = some (I hi))
    (first | exact ⟨c1, c3, c4⟩ | (go_keep; done))
    (fail)
  have b3 : Below w.heap.size w ((w.alloc (.cells ZZ 3)).alloc (.cells #[.bool true, .slice (some ⟨w.heap.size, 0, none⟩) n n, I l.length, I hi] 195)).drew := (((Below.refl _ w).alloc (Nat.le_refl _) _).alloc (by simp) _).drew
  have hb3 := heap_alloc_new (w.alloc (.cells ZZ 3)) (.cells #[.bool true, .slice (some ⟨w.heap.size, 0, none⟩) n n, I l.length, I hi] 195)
  have hg3 := heap_over (w.alloc (.cells ZZ 3)) (.cells #[.bool true, .slice (some ⟨w.heap.size, 0, none⟩) n n, I l.length, I hi] 195) (heap_alloc_new w (.cells ZZ 3))
  rw [World.size_alloc] at hb3
  have hg4 : ((w.alloc (.cells ZZ 3)).alloc (.cells #[.bool true, .slice (some ⟨w.heap.size, 0, none⟩) n n, I l.length, I hi] 195)).drew.heap[w.heap.size]? = some (.cells ZZ 3) := hg3
  have hb4 : ((w.alloc (.cells ZZ 3)).alloc (.cells #[.bool true, .slice (some ⟨w.heap.size, 0, none⟩) n n, I l.length, I hi] 195)).drew.heap[w.heap.size + 1]? = some (.cells #[.bool true, .slice (some ⟨w.heap.size, 0, none⟩) n n, I l.length, I hi] 195) := hb3
  clear hg3 hb3 c1 c3 c4 hN hmk
  generalize ((w.alloc (.cells ZZ 3)).alloc (.cells #[.bool true, .slice (some ⟨w.heap.size, 0, none⟩) n n, I l.length, I hi] 195)).drew = W at *
  have hlt := h.lts
  have h3 := h.below b3
  obtain ⟨-, c1, -, -⟩ := h3.cells
  have c1d : W.drew.cell? ⟨B, 1, none⟩ = some (.slice (some ⟨g, 0, none⟩) n n) := c1
  have k5 : W.cell? ⟨w.heap.size + 1, 1, none⟩ = some (.slice (some ⟨w.heap.size, 0, none⟩) n n) := by rw [cell_of_row W _ _ _ _ (0, 0) hb4]; rfl
  have k5d : W.drew.cell? ⟨w.heap.size + 1, 1, none⟩ = some (.slice (some ⟨w.heap.size, 0, none⟩) n n) := k5
  have HG6 : Hid (W.drew.heap[w.heap.size]? = some (.cells (List.replicate n (Value.int .i64 0)).toArray 3 (0, 0))) := HZ.out ▸ hg4
  have HB4 : Hid (W.drew.heap[w.heap.size + 1]? = some (.cells #[.bool true, .slice (some ⟨w.heap.size, 0, none⟩) n n, I l.length, I hi] 195)) := hb4
  have L1 : Hid (R.length = Nat.min n n) := by show _ = _; rw [h.k]; exact (Nat.min_self n).symm
  have ONE : Hid (∀ u ∈ R, u.oneCell' = true) := h.u
  have HPS : Hid (∀ (j : Nat) (v : Value), R[j]? = some v → W.drew.cell? ((⟨g, 0, none⟩ : Addr).add j) = some v) := fun j v hj => by rw [addr_add, Nat.zero_add]; exact h3.atR hj
  have FIT1 : Hid (0 + List.length R ≤ (List.replicate n (Value.int .i64 0)).length) := by show _ ≤ _; rw [List.length_replicate]; have := h.k; omega
  have RES1 : Hid (I n = goInt (List.length R)) := by show _ = _; rw [h.k]; rfl
  have HH : Hid (iSk w B g n hi R l) := h
  have hne1 : w.heap.size + 1 ∉ [w.heap.size] := by simp
  have hne2 : B ∉ [w.heap.size] := by simp; omega
  clear h h3 hg4 hb4
  go_wp2
  go_region_held_law (fun w' => w'.cell? ⟨w.heap.size + 1, 1, none⟩ = some (.slice (some ⟨w.heap.size, 0, none⟩) n n) ∧ w'.cell? ⟨B, 1, none⟩ = some (.slice (some ⟨g, 0, none⟩) n n))
    (first | exact ⟨k5, c1⟩ | exact ⟨k6, c6⟩ | exact ⟨k5d, c1d⟩ | (go_keep; done))
    (first
      | (refine step_copy_fx rfl (.tmp 25) (.tmp 29) 31 31 rfl 3 Tryz.underlying31 hsz (some ⟨w.heap.size, 0, none⟩) (some ⟨g, 0, none⟩) n n n n (by simp [Act.eval, Act.put]) (by simp [Act.eval, Act.put]) w.heap.size 0 (List.replicate n (Value.int .i64 0)) 3 HG6.out R L1.out (fun _ => ⟨rfl, _, rfl, HPS.out⟩) FIT1.out ONE.out (I n) RES1.out ?_; intro w6 hg6 F6; have k6 : w6.cell? ⟨w.heap.size + 1, 1, none⟩ = some (.slice (some ⟨w.heap.size, 0, none⟩) n n) := F6.cell k5d hne1; have c6 : w6.cell? ⟨B, 1, none⟩ = some (.slice (some ⟨g, 0, none⟩) n n) := F6.cell c1d hne2))
  go_wp2
  go_ret
  have h := HH.out
  have hg := hg6.out
  rw [splice_all _ R n h.k] at hg
  refine ⟨w.heap.size + 1, w.heap.size, rfl, ⟨F6.heap HB4.out hne1, hg, h.k, h.m, h.r, h.y, by omega, h.u⟩, by omega, Nat.le_refl _, b3.trans ?_⟩
  exact ((Fx.of_below (bs := [w.heap.size]) ((Below.refl W.heap.size W).drew)).trans F6).below (by have := b3.size; omega) (by simp)
end
end Go.Proofs.YtglnfifdjlgbcaaGreatDoor.St

namespace Go.Proofs.YtglnfifdjlgbcaaGreatDoor.St
open Go.RowKit
set_option linter.unusedVariables false
set_option linter.unusedSimpArgs false

/-! ### Stacks of int: their face -/
def iQ (w : World) (B g n hi : Nat) (xs : List Int) : Prop := ∃ R, iSk w B g n hi R (iV xs)
section
variable {w : World} {B g n hi : Nat} {xs : List Int}
theorem iQ.keptZ (h : iQ w B g n hi xs) {M : Nat → Prop} {w' : World} (hf : Fz M w w') (h1 : ¬ M B) (h2 : ¬ M g) : iQ w' B g n hi xs := by
  obtain ⟨R, h⟩ := h
  exact ⟨R, h.keptZ hf h1 h2⟩
theorem iQ.below (h : iQ w B g n hi xs) {w' : World} (hf : Below w.heap.size w w') : iQ w' B g n hi xs := h.keptZ (M := fun _ => False) (Fz.of_below hf) id id
theorem iQ.le (h : iQ w B g n hi xs) : xs.length ≤ n := by obtain ⟨R, h⟩ := h; have := h.lle; rwa [iV_len] at this
theorem iQ.hle (h : iQ w B g n hi xs) : xs.length ≤ hi ∧ hi ≤ n := by obtain ⟨R, h⟩ := h; have := h.y; rwa [iV_len] at this
theorem iQ.m (h : iQ w B g n hi xs) : n ≤ 1024 := by obtain ⟨R, h⟩ := h; exact h.m
theorem iQ.lts (h : iQ w B g n hi xs) : B < w.heap.size ∧ g < w.heap.size := by obtain ⟨R, h⟩ := h; exact h.lts
theorem iQ.ne (h : iQ w B g n hi xs) : B ≠ g := by obtain ⟨R, h⟩ := h; exact h.ne
theorem iQ.ty (h : iQ w B g n hi xs) : ∃ cs, w.heap[B]? = some (.cells cs 195) := by obtain ⟨R, h⟩ := h; exact ⟨_, h.o⟩
theorem iQ.tyg (h : iQ w B g n hi xs) : ∃ cs, w.heap[g]? = some (.cells cs 3) := by obtain ⟨R, h⟩ := h; exact ⟨_, h.q⟩
theorem iNewQ (w : World) (n : Nat) (hn : n ≤ 1024) : Calls Tryz.prog 33 #[I n] w fun e w' => e = .returned (.tuple #[iP (w.heap.size + 1), I 0]) ∧ iQ w' (w.heap.size + 1) w.heap.size n 0 [] ∧ Below w.heap.size w w' :=
  (iNew_ok w n hn).mono (fun e w' k => ⟨k.1, ⟨_, k.2.1⟩, k.2.2⟩)
theorem iPushQ (h : iQ w B g n hi xs) (hc : xs.length < n) (x : Int) : Calls Tryz.prog 226 #[iP B, (Value.int .i64 x)] w fun e w' => e = .returned (I 0) ∧ iQ w' B g n (max hi (xs.length + 1)) (xs ++ [x]) ∧ Fx [B, g] w w' := by
  obtain ⟨R, h⟩ := h
  refine (iPush_ok h (by rw [iV_len]; exact hc) x).mono ?_
  rintro e w' ⟨k, q, f⟩
  rw [iV_len, show iV xs ++ [(Value.int .i64 x)] = iV (xs ++ [x]) by simp [iV]] at q
  exact ⟨k, ⟨_, q⟩, f⟩
theorem iPushF (h : iQ w B g n hi xs) (hc : xs.length = n) (x : Int) : Calls Tryz.prog 226 #[iP B, (Value.int .i64 x)] w fun e w' => e = .returned (I 141) ∧ Below w.heap.size w w' := by
  obtain ⟨R, h⟩ := h
  exact iPush_full h (by rw [iV_len]; exact hc) x
theorem iPopQ (x : Int) (h : iQ w B g n hi (xs ++ [x])) : Calls Tryz.prog 121 #[iP B] w fun e w' => e = .returned (.tuple #[(Value.int .i64 x), I 0]) ∧ iQ w' B g n hi xs ∧ Fx [B, g] w w' := by
  obtain ⟨R, h⟩ := h
  rw [show iV (xs ++ [x]) = iV xs ++ [(Value.int .i64 x)] by simp [iV]] at h
  exact iPop_ok x h
theorem iPopN (h : iQ w B g n hi []) : Calls Tryz.prog 121 #[iP B] w fun e w' => e = .returned (.tuple #[(Value.int .i64 0), I 142]) ∧ w = w' := by
  obtain ⟨R, h⟩ := h
  exact iPop_no h
theorem iLenQ (h : iQ w B g n hi xs) : Calls Tryz.prog 49 #[iP B] w fun e w' => e = .returned (I xs.length) ∧ w = w' := by
  obtain ⟨R, h⟩ := h
  have := iLen_any h
  rwa [iV_len] at this
theorem iTopQ (x : Int) (h : iQ w B g n hi (xs ++ [x])) : Calls Tryz.prog 119 #[iP B] w fun e w' => e = .returned (.tuple #[I x, .bool true]) ∧ Below w.heap.size w w' := by
  obtain ⟨R, h⟩ := h
  rw [show iV (xs ++ [x]) = iV xs ++ [I x] by simp [iV]] at h
  exact iTop_ok x h
theorem iTopN (h : iQ w B g n hi []) : Calls Tryz.prog 119 #[iP B] w fun e w' => e = .returned (.tuple #[I 0, .bool false]) ∧ w = w' := by
  obtain ⟨R, h⟩ := h
  exact iTop_no h
theorem iCutN (h : iQ w B g n hi xs) (m : Int) (hm : m < 0) : Calls Tryz.prog 92 #[iP B, I m] w fun e w' => e = .returned (.tuple #[.slice none 0 0, I 2]) ∧ w = w' := by
  obtain ⟨R, h⟩ := h
  exact Cut_neg h m hm
theorem iCutO (h : iQ w B g n hi xs) (m : Int) (hm : (xs.length : Int) < m) : Calls Tryz.prog 92 #[iP B, I m] w fun e w' => e = .returned (.tuple #[.slice none 0 0, I 142]) ∧ w = w' := by
  obtain ⟨R, h⟩ := h
  exact Cut_over h m (by rw [iV_len]; exact hm)
theorem iCutQ (h : iQ w B g n hi xs) (m : Nat) (hm : m ≤ xs.length) : Calls Tryz.prog 92 #[iP B, I m] w fun e w' => ∃ X cap, e = .returned (.tuple #[.slice (some ⟨X, 0, none⟩) (xs.length - m) cap, I 0]) ∧ w'.ownsRow w.heap.size 3 1 (.slice (some ⟨X, 0, none⟩) (xs.length - m) cap) (xs.length - m) (iV (xs.drop m).reverse) ∧ iQ w' B g n hi (xs.take m) ∧ Fx [B, g] w w' := by
  obtain ⟨R, h⟩ := h
  exact Cut_ok h m hm
theorem iCopyQ (h : iQ w B g n hi xs) : Calls Tryz.prog 84 #[iP B] w fun e w' => ∃ B' g', e = .returned (iP B') ∧ iQ w' B' g' n hi xs ∧ w.heap.size ≤ B' ∧ w.heap.size ≤ g' ∧ Below w.heap.size w w' := by
  obtain ⟨R, h⟩ := h
  refine (iCopy_any h).mono ?_
  rintro e w' ⟨B', g', k1, k2, k3⟩
  exact ⟨B', g', k1, ⟨_, k2⟩, k3⟩
end
end Go.Proofs.YtglnfifdjlgbcaaGreatDoor.St


namespace Go.Proofs.YtglnfifdjlgbcaaGreatDoor.St
open Go.RowKit Go.Shelf
set_option linter.unusedVariables false
set_option linter.unusedSimpArgs false
attribute [local go_sem] Oper.semAt_some

/-! ### Ranging over a ring of ints -/
/-- What a round keeps: cells that are none of M's; and none of them becomes M's. -/
structure Kq (M : World → Nat → Prop) (W W' : World) : Prop where
  size : W.heap.size ≤ W'.heap.size
  same : ∀ (b : Nat) (cs : Array Value) (ty : TypeId), ¬ M W b → W.heap[b]? = some (.cells cs ty) → W'.heap[b]? = some (.cells cs ty) ∧ ¬ M W' b
theorem Kq.trans {M : World → Nat → Prop} {A B C : World} (h : Kq M A B) (k : Kq M B C) : Kq M A C :=
  ⟨Nat.le_trans h.size k.size, fun b cs ty hm hb => k.same b cs ty (h.same b cs ty hm hb).2 (h.same b cs ty hm hb).1⟩
theorem Kq.refl (M : World → Nat → Prop) (A : World) : Kq M A A := ⟨Nat.le_refl _, fun b cs ty hm hb => ⟨hb, hm⟩⟩
theorem Kq.put {M : World → Nat → Prop} {w : World} (hM : ∀ W l o b, w.heap.size ≤ l → M (W.putObj l o) b → M W b) (W : World) (l : Nat) (o o' : Obj) (hl : w.heap.size ≤ l) (h : W.heap[l]? = some o) (hc : o.isCells = false) (_ : o.isWalk = false) : Kq M W (W.putObj l o') := by
  have hg := grownBy_putObj' W l o'
  refine ⟨hg.size, fun b cs ty hm hb => ⟨(hg.block b (heap_lt hb) (fun e => ?_)).trans hb, fun e => hm (hM W l o' b hl e)⟩⟩
  cases e
  rw [h] at hb
  cases hb
  cases hc
theorem All_any (B : Nat) (w : World) : Calls Tryz.prog 72 #[iP B] w fun e w' => e = .returned (.func (.func 172) #[] #[.pointer (some ⟨w.heap.size, 0, none⟩)]) ∧ w' = w.alloc (.cells #[iP B] 83) := by
  go_enter Tryz.func72, Tryz.ntmps72
  go_wp2
  go_ret
  exact ⟨rfl, rfl⟩
theorem list_any {w : World} {B g n hi : Nat} {xs : List Int} (h : iQ w B g n hi xs.reverse) : Calls Tryz.prog 173 #[iP B, I 0] w fun e w' => ∃ X cap, e = .returned (.slice (some ⟨X, 0, none⟩) xs.length cap) ∧ w'.ownsRow w.heap.size 3 1 (.slice (some ⟨X, 0, none⟩) xs.length cap) xs.length (iV xs) ∧ Below w.heap.size w w' := by
  obtain ⟨R, h⟩ := h
  have := above_any h 0 (Nat.zero_le _)
  simpa using this
set_option maxRecDepth 100000 in
set_option maxHeartbeats 4000000 in
/-- The iterator, for every loop body that keeps what is none of M's. -/
theorem All1_in (n : Nat) (hn : 1 ≤ n) (l Bn : Nat) (M : World → Nat → Prop) (xs : List Int) (B g m hi : Nat) (J Jx : List Int → World → Prop)
    (W : World) (hBn : W.cell? ⟨Bn, 0, none⟩ = some (iP B)) (hL : iQ W B g m hi xs.reverse) (hMW : ∀ W' b, Below W.heap.size W W' → M W' b → b < W.heap.size) (hJ : AbidesFrom W.heap.size J)
    (hY : ∀ pre x W, J pre W → pre.length < xs.length → YieldAt Fence.wide (n - 1) Tryz.prog l #[.int .i64 x] W fun e W' =>
      (e = .returned (.bool true) ∧ J (pre ++ [x]) W' ∧ Kq M W W') ∨ (e = .returned (.bool false) ∧ Jx (pre ++ [x]) W'))
    (h0 : J [] W) :
    CallsIn Fence.wide n Tryz.prog 172 #[.func (.yield l) #[] #[], .pointer (some ⟨Bn, 0, none⟩)] W fun e W' => (∃ v, e = .returned v) ∧
      ((∃ ys, ys = xs ∧ J ys W') ∨ (∃ pre, pre <+: xs ∧ Jx pre W')) := by
  have hLi := list_any hL
  have hle := hL.le
  rw [List.length_reverse] at hle
  obtain ⟨R, hR⟩ := hL
  have hN := inone_any hR
  have hm := hR.m
  refine callsIn_of_wp Tryz.func172 rfl trivial ?_ rfl
  simp only [Tryz.ntmps172, List.size_toArray, List.length_cons, List.length_nil, Nat.reduceAdd, Nat.reduceSub, Array.replicate_succ, Array.replicate_zero, List.push_toArray, List.append_toArray, List.nil_append, List.cons_append]
  gi_wp2_with (first
    | (refine ⟨trivial, ?_⟩; gi_at_call 130; refine (callsIn_wide.2 hN).mono ?_; rintro e w1 ⟨rfl, rfl⟩)
    | (refine ⟨trivial, ?_⟩; gi_at_call 173; refine (callsIn_wide.2 hLi).mono ?_; rintro e w1 ⟨X, cap, rfl, ho, hb⟩))
  have hX := ho.lt X rfl
  obtain ⟨cur, hcur⟩ : ∃ cur, w1.heap[X]? = some (.cells cur 3) := by
    rcases ho.2 with ⟨h1, _⟩ | ⟨g', cap', cur, h1, _, hh, _⟩
    · cases h1
    · cases h1; exact ⟨cur, hh⟩
  have hxs : ∀ k x, xs[k]? = some x → cur[k]? = some (I x) := fun k x hk => by
    have hkl := (List.getElem?_eq_some_iff.1 hk).1
    have := ho.cellAt k (by simp [iV]; exact hkl)
    rw [cell_of_row w1 X k _ _ (0, 0) hcur] at this
    rw [this]
    simp [iV, hk]
  have HR : Hid (J [] w1 ∧ w1.heap[X]? = some (.cells cur 3) ∧ ¬ M w1 X) := ⟨hJ [] W w1 none h0 (grown_of_below hb) (fun r e => by cases e), hcur, fun e => by have := hMW w1 X hb e; omega⟩
  clear hcur ho hLi hN hR h0
  gi_loopw [10] (fun i wr => ∃ k : Nat, k ≤ xs.length ∧ i = .int .i64 k ∧ Hid (J (xs.take k) wr ∧ wr.heap[X]? = some (.cells cur 3) ∧ ¬ M wr X))
    (fun i _ => xs.length - (intOf i).toNat)
  case atStart => exact ⟨0, Nat.zero_le _, rfl, HR.out⟩
  case round =>
    clear HR
    obtain ⟨k, hk, rfl, HJ⟩ := hrel
    obtain ⟨hJs, hcu, hMx⟩ := HJ.out
    by_cases hlt : k < xs.length
    · obtain ⟨x, hx⟩ : ∃ x, xs[k]? = some x := ⟨_, List.getElem?_eq_getElem hlt⟩
      have hltI : (k : Int) < xs.length := by omega
      obtain ⟨fn, tmps, assign, body, hy, hRR⟩ := hY _ x wr hJs (by simp; omega)
      have hcx : wr.cell? ⟨X, k, none⟩ = some (I x) := by rw [cell_of_row wr X k _ _ (0, 0) hcu]; exact hxs k x hx
      have htk : Hid (xs.take (k + 1) = xs.take k ++ [x]) := by
        show _ = _
        rw [List.take_add_one, hx]; rfl
      clear HJ
      gi_wp2
      refine hRR.mono ?_
      rintro e W3 (⟨rfl, hJ3, hk3⟩ | ⟨rfl, hJx3⟩)
      · have H9 : Hid (J (xs.take (k + 1)) W3 ∧ W3.heap[X]? = some (.cells cur 3) ∧ ¬ M W3 X) := by
          rw [htk.out]
          exact ⟨hJ3, hk3.same X _ _ hMx hcu⟩
        clear hJ3 hk3 hcu hMx hJs hcx htk
        gi_wp2
        go_roundw
        case rel => exact ⟨k + 1, by omega, by go_num, H9.out⟩
        case measure => simp [intOf]; omega
      · gi_wp2
        refine bodyPost_ret (results_none rfl _ _ _) rfl ?_
        exact ⟨⟨_, rfl⟩, .inr ⟨_, ⟨xs.drop (k + 1), by rw [← htk.out]; exact List.take_append_drop _ _⟩, hJx3⟩⟩
    · obtain rfl : k = xs.length := by omega
      have hge : ¬ ((xs.length : Int) < xs.length) := by omega
      gi_wp2
      go_end0
      rw [List.take_length] at hJs
      exact ⟨⟨_, rfl⟩, .inl (by simpa using hJs)⟩
/-- r.All() hands back a value that 'SeqStopsK'. -/
theorem All_stops (n : Nat) (hn : 1 ≤ n) (Bn : Nat) (M : World → Nat → Prop) (xs : List Int) (B g m hi : Nat) (w : World) (hBl : Bn < w.heap.size) (hBn : w.cell? ⟨Bn, 0, none⟩ = some (iP B)) (hL : iQ w B g m hi xs.reverse) (hMW : ∀ W' b, Below w.heap.size w W' → M W' b → b < w.heap.size) :
    SeqStopsK Fence.wide n Tryz.prog 172 #[.pointer (some ⟨Bn, 0, none⟩)] (fun x : Int => #[Value.int .i64 x]) (Kq M) (fun ys => ys = xs) (fun pre => pre <+: xs) xs.length w := fun l J Jx W hW hJ _ hY h0 =>
  All1_in n hn l Bn M xs B g m hi J Jx W ((hW.cell (p := ⟨Bn, 0, none⟩) hBl).trans hBn) (hL.below hW) (fun W' b hb hm => Nat.lt_of_lt_of_le (hMW W' b (hW.trans (hb.mono hW.size)) hm) hW.size) hJ hY h0
/-- M for a caller that appends to a row in a box: the box itself, and the row. -/
def Mbox (c : Nat) (W : World) (b : Nat) : Prop := b = c ∨ ∃ v, W.cell? ⟨c, 0, none⟩ = some v ∧ v.ownBlock = some b
theorem Mbox.app {W w1 : World} {c : Nat} {v v' : Value} {O : Obj} {t : TypeId} (hv : Boxed W c t v) (hv2 : Boxed (w1.setCell ⟨c, 0, none⟩ v') c t v') (hg : (W.alloc O).grownBy w1 v.ownBlock) (hat : v'.ownBlock = v.ownBlock ∨ v'.ownBlock = some (W.alloc O).heap.size) : Kq (Mbox c) W (w1.setCell ⟨c, 0, none⟩ v') := by
  have hs := hg.size
  rw [World.size_alloc] at hs
  refine ⟨by have := (grown_set w1 c 0 v').size; omega, fun b cs ty hm hb => ?_⟩
  have hlt := heap_lt hb
  have hbc : b ≠ c := fun e => hm (.inl e)
  have hbv : v.ownBlock ≠ some b := fun e => hm (.inr ⟨v, hv.cell, e⟩)
  refine ⟨?_, ?_⟩
  · rw [heap_setCell_other w1 ⟨c, 0, none⟩ b _ hbc, hg.block b (by simp; omega) (fun e => hbv e.symm)]
    exact heap_over _ _ hb
  · rintro (e | ⟨u, hu, e⟩)
    · exact hbc e
    · rw [hv2.cell] at hu
      cases hu
      rcases hat with h9 | h9
      · exact hbv (h9.symm.trans e)
      · rw [h9] at e
        simp at e
        omega
theorem seq_some (W : World) (f : Fn) (a b : Array Value) : (binOp .eql 133 (.func f a b) Value.nilFunc).run Tryz.prog W = .ok (.bool false) W := by kernel_rfl
end Go.Proofs.YtglnfifdjlgbcaaGreatDoor.St

