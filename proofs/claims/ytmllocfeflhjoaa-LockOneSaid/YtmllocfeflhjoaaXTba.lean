import Derived.Test.YtmllocfeflhjoaaXZfi
import Derived.Laws.AppendOwnNone
import Derived.Maps.AppendAt
import Derived.Test.YtmllocfeflhjoaaKba
namespace Go.Proofs.Ytmllocfeflhjoaa.St
open Go.RowKit
set_option linter.unusedVariables false
set_option linter.unusedSimpArgs false

/-! ### Stacks of ints: above, Cut, Copy -/
theorem own_some {w : World} {b E m : Nat} {v : Value} {xs : List Value} (h : w.ownsRow b E 1 v m xs) (hn : v ≠ .slice none 0 0) : ∃ X cap, v = .slice (some ⟨X, 0, none⟩) m cap := by
  rcases h.2 with ⟨h1, _⟩ | ⟨g, cap, cur, h1, _⟩
  · exact absurd h1 hn
  · exact ⟨g, cap, h1⟩
theorem take_rev (xs : List Int) (m : Nat) (hm : m ≤ xs.length) : xs.reverse.take (xs.length - m) = (xs.drop m).reverse := by
  rw [List.take_reverse, show xs.length - (xs.length - m) = m by omega]
section
variable {w : World} {B g n hi : Nat} {R l : List Value} {xs : List Int}
set_option maxHeartbeats 4000000 in
theorem above_any (h : iSk w B g n hi R (iV xs)) (m : Nat) (hm : m ≤ xs.length) : Calls Try.prog 43 #[iP B, I m] w fun e w' => ∃ X cap, e = .returned (.slice (some ⟨X, 0, none⟩) (xs.length - m) cap) ∧ w'.ownsRow w.heap.size 3 1 (.slice (some ⟨X, 0, none⟩) (xs.length - m) cap) (xs.length - m) (iV (xs.drop m).reverse) ∧ Below w.heap.size w w' := by
  obtain ⟨i0, hi0, hz0, hz1, hz2⟩ := info_parts iinfo
  have hle := h.lle
  have hn := h.m
  rw [iV_len] at hle
  have HF : Hid (∀ W, Below w.heap.size w W → W.cell? ⟨B, 1, none⟩ = some (.slice (some ⟨g, 0, none⟩) n n) ∧ W.cell? ⟨B, 2, none⟩ = some (I xs.length) ∧ ∀ (j : Nat) (x : Int), xs[j]? = some x → W.cell? ⟨g, j, none⟩ = some (I x)) := fun W hb => by
    have h1 := h.below hb
    obtain ⟨-, c1, c2, -⟩ := h1.cells
    rw [iV_len] at c2
    exact ⟨c1, c2, fun j x hj => h1.at (by simp [iV, hj])⟩
  obtain ⟨-, c2, -⟩ := HF.out w (Below.refl _ _)
  have hMK := run_make_own (P := Try.prog) w w.heap.size 47 3 i0 (.int .i64 0) 1 Try.underlying47 hi0 hz0 hz1 .i64 .i64 (xs.length - m) (by rw [hz2]; omega) (by unfold maxLen; omega) (Nat.le_refl _)
  obtain ⟨w2, hmk, hO2, hg2⟩ := hMK
  have b2 : Below w.heap.size w w2 := (Below.refl _ w).grown hg2 (Nat.le_refl _) (fun k e => by cases e)
  have HX : Hid (w2.ownsRow w.heap.size 3 1 (.slice (some ⟨w.heap.size, 0, none⟩) 0 (xs.length - m)) 0 (iV (xs.reverse.take 0)) ∧ Below w.heap.size w w2) := ⟨hO2, b2⟩
  have c22 := (HF.out w2 b2).2.1
  rw [show ((xs.length - m : Nat) : Int) = (xs.length : Int) - m by omega] at hmk
  clear h hg2 hO2 b2
  go_enter Try.func43, Try.ntmps43
  go_wp2
  go_loopw [5, 6] (fun v i wr => ∃ (X cap k : Nat), k ≤ xs.length - m ∧ v = .slice (some ⟨X, 0, none⟩) k cap ∧ i = .int .i64 ((xs.length : Int) - 1 - k) ∧ Hid (wr.ownsRow w.heap.size 3 1 (.slice (some ⟨X, 0, none⟩) k cap) k (iV (xs.reverse.take k)) ∧ Below w.heap.size w wr)) (fun _ i _ => (intOf i + 1 - m).toNat)
  case atStart => exact ⟨w.heap.size, xs.length - m, 0, by omega, rfl, by simp, HX.out⟩
  case round =>
    clear HX c22 hmk c2
    obtain ⟨X, cap, k, hk, rfl, rfl, HJ⟩ := hrel
    by_cases hlt : k < xs.length - m
    · obtain ⟨x, hx⟩ : ∃ x, xs[xs.length - 1 - k]? = some x := ⟨_, List.getElem?_eq_getElem (by omega)⟩
      have hrv : xs.reverse[k]? = some x := by rw [List.getElem?_reverse (by omega)]; exact hx
      have htk : Hid (iV (xs.reverse.take (k + 1)) = iV (xs.reverse.take k) ++ [I x]) := by
        show _ = _
        rw [List.take_add_one, hrv]
        simp [iV]
      obtain ⟨hO, hB⟩ := HJ.out
      obtain ⟨c1, c2, hc⟩ := HF.out wr hB
      have c3 := hc _ x hx
      clear hc hx hrv HJ
      have hp0 : ¬ ((xs.length : Int) - 1 - k) < 0 := by omega
      have hp1 : ((xs.length : Int) - 1 - k) < n := by omega
      have hge : (m : Int) ≤ (xs.length : Int) - 1 - k := by omega
      go_wp2_with (at_builtin; refine wpList_append_own _ rfl (.tmp 24) (.tmp 32) 47 rfl w.heap.size 3 i0 (.int .i64 0) 1 8 Try.underlying47 hi0 hz0 hz1 hz2 rfl (by decide) _ _ _ rfl (hO.alloc (.cells #[I x] 3)) ⟨wr.heap.size, 0, none⟩ 1 1 [I x] rfl rfl (cell_one_new _ _ _) (by intro u hu; simp at hu; subst hu; rfl) (by unfold maxLen; omega) (by omega) (by have := hB.size; simp; omega) ?_; intro v4 w4 h4 hg4 hn4; have b4 : Below w.heap.size w w4 := (hB.alloc (hB.size) (.cells #[I x] 3)).grown hg4 (by have := hB.size; simp; omega) (fun k e => ((hO.alloc (.cells #[I x] 3)).lt k e).1); have n4 : v4 ≠ .slice none 0 0 := (fun e => by have := (hn4.1 e).1; cases this); obtain ⟨X4, cap4, rfl⟩ := own_some h4 n4; have H9 : Hid (w4.ownsRow w.heap.size 3 1 (.slice (some ⟨X4, 0, none⟩) (k + 1) cap4) (k + 1) (iV (xs.reverse.take (k + 1))) ∧ Below w.heap.size w w4) := (by rw [htk.out]; exact ⟨h4, b4⟩); clear hg4 h4 hn4 n4 hO c1 c2 c3 htk b4)
      go_roundw
      case rel => exact ⟨X4, cap4, k + 1, by omega, rfl, congrArg (Value.int .i64) (by omega), H9.out⟩
      case measure => simp [intOf]; omega
    · obtain rfl : k = xs.length - m := by omega
      have hge : ¬ (m : Int) ≤ (xs.length : Int) - 1 - ((xs.length - m : Nat) : Int) := by omega
      obtain ⟨hO, hB⟩ := HJ.out
      rw [take_rev xs m hm] at hO
      go_wp2
      go_ret
      exact ⟨X, cap, rfl, hO, hB⟩
theorem Cut_neg (h : iSk w B g n hi R l) (m : Int) (hm : m < 0) : Calls Try.prog 39 #[iP B, I m] w fun e w' => e = .returned (.tuple #[.slice none 0 0, I 2]) ∧ w = w' := by
  have hN := inone_any h
  go_enter Try.func39, Try.ntmps39
  go_wp2_with (first | (go_at_call 40; refine hN.mono ?_; rintro e w1 ⟨rfl, rfl⟩))
  go_ret2
  exact ⟨rfl, rfl⟩
theorem Cut_over (h : iSk w B g n hi R l) (m : Int) (hm : (l.length : Int) < m) : Calls Try.prog 39 #[iP B, I m] w fun e w' => e = .returned (.tuple #[.slice none 0 0, I 142]) ∧ w = w' := by
  have hN := inone_any h
  obtain ⟨-, -, c2, -⟩ := h.cells
  have h0 : ¬ m < 0 := by omega
  go_enter Try.func39, Try.ntmps39
  go_wp2_with (first | (go_at_call 40; refine hN.mono ?_; rintro e w1 ⟨rfl, rfl⟩))
  go_ret2
  exact ⟨rfl, rfl⟩
theorem Cut_ok (h : iSk w B g n hi R (iV xs)) (m : Nat) (hm : m ≤ xs.length) : Calls Try.prog 39 #[iP B, I m] w fun e w' => ∃ X cap, e = .returned (.tuple #[.slice (some ⟨X, 0, none⟩) (xs.length - m) cap, I 0]) ∧ w'.ownsRow w.heap.size 3 1 (.slice (some ⟨X, 0, none⟩) (xs.length - m) cap) (xs.length - m) (iV (xs.drop m).reverse) ∧ (∃ R', iSk w' B g n hi R' (iV (xs.take m))) ∧ Fx [B, g] w w' := by
  have hN := inone_any h
  obtain ⟨-, -, c2, -⟩ := h.cells
  rw [iV_len] at c2
  have h0 : ¬ (m : Int) < 0 := by omega
  have h1 : ¬ (xs.length : Int) < m := by omega
  have hA := above_any h m hm
  have hlt := h.lts
  have hK := fun W (hb : Below w.heap.size w W) => ikeep_any (h.below hb) m (by rw [iV_len]; exact hm)
  clear h hm
  go_enter Try.func39, Try.ntmps39
  go_wp2_with (first
    | (go_at_call 40; refine hN.mono ?_; rintro e w1 ⟨rfl, rfl⟩)
    | (go_at_call 43; refine hA.mono ?_; rintro e w1 ⟨X, cap, rfl, ho1, b1⟩)
    | (go_at_call 41; refine (hK _ b1).mono ?_; rintro e w2 ⟨rfl, ⟨R2, k2⟩, f2⟩))
  go_ret2
  refine ⟨X, cap, rfl, f2.own ho1 (fun k e => ?_), ⟨R2, by rw [show (iV xs).take m = iV (xs.take m) by simp [iV, List.map_take]] at k2; exact k2⟩, (Fx.of_below b1).trans f2⟩
  have := (ho1.lt k e).1
  simp
  omega
end
end Go.Proofs.Ytmllocfeflhjoaa.St

namespace Go.Proofs.Ytmllocfeflhjoaa.St
open Go.RowKit
set_option linter.unusedVariables false
set_option linter.unusedSimpArgs false

/-! ### Stacks of ints: Copy -/
theorem step_copy_fx {P : Program} {ops : Array Oper} {o : Oper} {a : Act} {w : World} {K : Act → World → Prop} {Q : Exit → Act → World → Prop} {E : Prop} (hgd : o.guard = none) (d s : Operand) (dT sT : TypeId)
    (ho : o.op = .call { callee := .builtin .copy, args := #[d, s], argTypes := #[dT, sT] }) (elem : TypeId) (hu : P.underlying dT = some (.slice elem)) (hsz : (P.info? elem).map (·.size) = some 1)
    (dp sp : Option Addr) (dLen dCap sLen sCap : Nat) (hd : a.eval d = .slice dp dLen dCap) (hs : a.eval s = .slice sp sLen sCap)
    (g off : Nat) (cur : List Value) (t : TypeId) (hg : w.heap[g]? = some (.cells cur.toArray t (0, 0))) (cs : List Value) (hn : cs.length = Nat.min sLen dLen)
    (hpos : 0 < cs.length → dp = some ⟨g, off, none⟩ ∧ ∃ ad, sp = some ad ∧ ∀ j v, cs[j]? = some v → w.cell? (ad.add j) = some v)
    (hfit : off + cs.length ≤ cur.length) (h1 : ∀ v ∈ cs, v.oneCell' = true) (vr : Value) (hvr : vr = goInt cs.length)
    (h : ∀ w', Hid (w'.heap[g]? = some (.cells (splice cur off cs).toArray t (0, 0))) → Fx [g] w w' → K (a.put o.dst vr) w') :
    if Region.wanted o (yielded ops a.tmps) = true then Oper.wp P o a w K Q else E := by
  subst hvr
  have hw : Region.wanted o (yielded ops a.tmps) = true := by simp [Region.wanted, hgd]
  rw [if_pos hw]
  by_cases h0 : cs.length = 0
  · obtain rfl : cs = [] := List.eq_nil_of_length_eq_zero h0
    have hrun := run_copy_none (P := P) w dT sT o.type elem dp sp dLen dCap sLen sCap hu hsz (by simpa using hn.symm)
    unfold Oper.wp
    simp [execOp, ho, resolve, invoke, builtin, hd, hs, hrun, Result.andThen]
    exact h w (show _ = _ by simpa [splice] using hg) (Fx.refl _ _)
  · obtain ⟨rfl, ad, rfl, hsrc⟩ := hpos (by omega)
    have hrun := run_copy_row (P := P) w dT sT o.type elem g off dLen dCap ad sLen sCap cur.toArray t cs hu hsz hg hn hsrc (by simpa using hfit) h1
    unfold Oper.wp
    simp [execOp, ho, resolve, invoke, builtin, hd, hs, hrun, Result.andThen]
    refine h _ (show _ = _ by simpa [splice] using setRow_heap w g _ _ t _ hg) ⟨rfl, rfl, rfl, by simp [World.setRow], fun k _ hk => setRow_other w g k _ (by simpa using hk)⟩
theorem splice_all (z : Value) (R : List Value) (n : Nat) (h : R.length = n) : splice (List.replicate n z) 0 R = R := by
  unfold splice
  simp [h]
section
variable {w : World} {B g n hi : Nat} {R l : List Value}
end
end Go.Proofs.Ytmllocfeflhjoaa.St

namespace Go.Proofs.Ytmllocfeflhjoaa.St
open Go.RowKit
set_option linter.unusedVariables false
set_option linter.unusedSimpArgs false

/-! ### Stacks of int: their face -/
def iQ (w : World) (B g n hi : Nat) (xs : List Int) : Prop := ∃ R, iSk w B g n hi R (iV xs)
section
variable {w : World} {B g n hi : Nat} {xs : List Int}
theorem iQ.keptZ (h : iQ w B g n hi xs) {M : Nat → Prop} {w' : World} (hf : Fz M w w') (h1 : ¬ M B) (h2 : ¬ M g) : iQ w' B g n hi xs := by
  obtain ⟨R, h⟩ := h
  exact ⟨R, h.keptZ hf h1 h2⟩
theorem iQ.below (h : iQ w B g n hi xs) {w' : World} (hf : Below w.heap.size w w') : iQ w' B g n hi xs := h.keptZ (M := fun _ => False) (Fz.of_below hf) id id
theorem iQ.le (h : iQ w B g n hi xs) : xs.length ≤ n := by obtain ⟨R, h⟩ := h; have := h.lle; rwa [iV_len] at this
theorem iQ.hle (h : iQ w B g n hi xs) : xs.length ≤ hi ∧ hi ≤ n := by obtain ⟨R, h⟩ := h; have := h.y; rwa [iV_len] at this
theorem iQ.m (h : iQ w B g n hi xs) : n ≤ 1024 := by obtain ⟨R, h⟩ := h; exact h.m
theorem iQ.lts (h : iQ w B g n hi xs) : B < w.heap.size ∧ g < w.heap.size := by obtain ⟨R, h⟩ := h; exact h.lts
theorem iQ.ne (h : iQ w B g n hi xs) : B ≠ g := by obtain ⟨R, h⟩ := h; exact h.ne
theorem iQ.ty (h : iQ w B g n hi xs) : ∃ cs, w.heap[B]? = some (.cells cs 96) := by obtain ⟨R, h⟩ := h; exact ⟨_, h.o⟩
theorem iQ.tyg (h : iQ w B g n hi xs) : ∃ cs, w.heap[g]? = some (.cells cs 3) := by obtain ⟨R, h⟩ := h; exact ⟨_, h.q⟩
theorem iNewQ (w : World) (n : Nat) (hn : n ≤ 1024) : Calls Try.prog 75 #[I n] w fun e w' => e = .returned (.tuple #[iP (w.heap.size + 1), I 0]) ∧ iQ w' (w.heap.size + 1) w.heap.size n 0 [] ∧ Below w.heap.size w w' :=
  (iNew_ok w n hn).mono (fun e w' k => ⟨k.1, ⟨_, k.2.1⟩, k.2.2⟩)
theorem iPushQ (h : iQ w B g n hi xs) (hc : xs.length < n) (x : Int) : Calls Try.prog 24 #[iP B, (Value.int .i64 x)] w fun e w' => e = .returned (I 0) ∧ iQ w' B g n (max hi (xs.length + 1)) (xs ++ [x]) ∧ Fx [B, g] w w' := by
  obtain ⟨R, h⟩ := h
  refine (iPush_ok h (by rw [iV_len]; exact hc) x).mono ?_
  rintro e w' ⟨k, q, f⟩
  rw [iV_len, show iV xs ++ [(Value.int .i64 x)] = iV (xs ++ [x]) by simp [iV]] at q
  exact ⟨k, ⟨_, q⟩, f⟩
theorem iPushF (h : iQ w B g n hi xs) (hc : xs.length = n) (x : Int) : Calls Try.prog 24 #[iP B, (Value.int .i64 x)] w fun e w' => e = .returned (I 141) ∧ Below w.heap.size w w' := by
  obtain ⟨R, h⟩ := h
  exact iPush_full h (by rw [iV_len]; exact hc) x
theorem iPopQ (x : Int) (h : iQ w B g n hi (xs ++ [x])) : Calls Try.prog 19 #[iP B] w fun e w' => e = .returned (.tuple #[(Value.int .i64 x), I 0]) ∧ iQ w' B g n hi xs ∧ Fx [B, g] w w' := by
  obtain ⟨R, h⟩ := h
  rw [show iV (xs ++ [x]) = iV xs ++ [(Value.int .i64 x)] by simp [iV]] at h
  exact iPop_ok x h
theorem iPopN (h : iQ w B g n hi []) : Calls Try.prog 19 #[iP B] w fun e w' => e = .returned (.tuple #[(Value.int .i64 0), I 142]) ∧ w = w' := by
  obtain ⟨R, h⟩ := h
  exact iPop_no h
theorem iLenQ (h : iQ w B g n hi xs) : Calls Try.prog 38 #[iP B] w fun e w' => e = .returned (I xs.length) ∧ w = w' := by
  obtain ⟨R, h⟩ := h
  have := iLen_any h
  rwa [iV_len] at this
theorem iTopQ (x : Int) (h : iQ w B g n hi (xs ++ [x])) : Calls Try.prog 18 #[iP B] w fun e w' => e = .returned (.tuple #[I x, .bool true]) ∧ Below w.heap.size w w' := by
  obtain ⟨R, h⟩ := h
  rw [show iV (xs ++ [x]) = iV xs ++ [I x] by simp [iV]] at h
  exact iTop_ok x h
theorem iTopN (h : iQ w B g n hi []) : Calls Try.prog 18 #[iP B] w fun e w' => e = .returned (.tuple #[I 0, .bool false]) ∧ w = w' := by
  obtain ⟨R, h⟩ := h
  exact iTop_no h
theorem iCutN (h : iQ w B g n hi xs) (m : Int) (hm : m < 0) : Calls Try.prog 39 #[iP B, I m] w fun e w' => e = .returned (.tuple #[.slice none 0 0, I 2]) ∧ w = w' := by
  obtain ⟨R, h⟩ := h
  exact Cut_neg h m hm
theorem iCutO (h : iQ w B g n hi xs) (m : Int) (hm : (xs.length : Int) < m) : Calls Try.prog 39 #[iP B, I m] w fun e w' => e = .returned (.tuple #[.slice none 0 0, I 142]) ∧ w = w' := by
  obtain ⟨R, h⟩ := h
  exact Cut_over h m (by rw [iV_len]; exact hm)
theorem iCutQ (h : iQ w B g n hi xs) (m : Nat) (hm : m ≤ xs.length) : Calls Try.prog 39 #[iP B, I m] w fun e w' => ∃ X cap, e = .returned (.tuple #[.slice (some ⟨X, 0, none⟩) (xs.length - m) cap, I 0]) ∧ w'.ownsRow w.heap.size 3 1 (.slice (some ⟨X, 0, none⟩) (xs.length - m) cap) (xs.length - m) (iV (xs.drop m).reverse) ∧ iQ w' B g n hi (xs.take m) ∧ Fx [B, g] w w' := by
  obtain ⟨R, h⟩ := h
  exact Cut_ok h m hm
end
end Go.Proofs.Ytmllocfeflhjoaa.St

namespace Go.Proofs.Ytmllocfeflhjoaa
open Go.RowKit Go.Maps
open Go.Proofs.Ytmllocfeflhjoaa.St (Fx Fz iQ iP)
set_option linter.unusedVariables false
set_option linter.unusedSimpArgs false

/-! ### The map of the owners -/
def opV : Option Nat → Value
  | some q => .pointer (some ⟨q, 0, none⟩)
  | none => .pointer none
def opD : Option Nat → DataW Unit
  | some q => .lit (.int .i64 (q : Int))
  | none => .lit (.int .i64 (-1))
def Rp : Value → Option (DataW Unit × List MemPlace)
  | .pointer none => some (opD none, [])
  | .pointer (some ⟨q, 0, none⟩) => some (opD (some q), [])
  | _ => none
theorem Rp_op (q : Option Nat) : Rp (opV q) = some (opD q, []) := by cases q <;> rfl
theorem opD_inj {p q : Option Nat} (h : opD p = opD q) : p = q := by
  cases p <;> cases q <;> simp [opD] at h <;> first | rfl | omega | (congr 1; omega)
theorem Rp_inv {v : Value} {y : DataW Unit × List MemPlace} (h : Rp v = some y) : ∃ q, v = opV q ∧ y.1 = opD q := by
  unfold Rp at h
  split at h
  · cases h; exact ⟨none, rfl, rfl⟩
  · cases h; exact ⟨some _, rfl, rfl⟩
  · cases h
/-- The map in block b leads from each owner o to what p says. -/
def OwM (w : World) (b n : Nat) (p : Own → Option Nat) : Prop := ∃ D : DataW Unit, w.ownsMap Try.prog 38 Rp b n D ∧ (∀ o, o.wf → Maps.has D (kl o) = (p o).isSome ∧ ((p o).isSome = true → ∀ z, D.atKey (kl o) z = opD (p o)))
section
variable {w : World} {b n : Nat} {p : Own → Option Nat}
theorem OwM.made (w : World) (n : Nat) : OwM (w.alloc (.map #[] 0)) w.heap.size n (fun _ => none) :=
  ⟨.map [], (World.ownsMap_made _ _ _ _).mono (Nat.zero_le _), fun o _ => ⟨by simp [Maps.has], fun h => by cases h⟩⟩
theorem OwM.lt (h : OwM w b n p) : b < w.heap.size := by obtain ⟨D, h, _⟩ := h; exact h.lt
theorem OwM.kept {w' : World} (h : OwM w b n p) (hb : w'.heap[b]? = w.heap[b]?) : OwM w' b n p := by
  obtain ⟨D, ⟨es, clock, h1, h2⟩, h3⟩ := h
  exact ⟨D, ⟨es, clock, hb.trans h1, h2⟩, h3⟩
theorem zeroP (w : World) : (zeroValue 69).run Try.prog w = .ok (opV none) w := by kernel_rfl
theorem OwM.look (h : OwM w b n p) (o : Own) (ho : o.wf) : (Instr.lookup 61 (.map (some b)) (.agg #[.bool o.isr, I o.id]) true).run Try.prog w = .ok (.tuple #[opV (p o), .bool (p o).isSome]) w := by
  obtain ⟨D, hD, h2⟩ := h
  obtain ⟨v, ps, hrun, hv⟩ := hD.look_ok keyOwn Try.underlying61 (zeroP w) (Rp_op none) (key_own o ho)
  obtain ⟨q, rfl, hq⟩ := Rp_inv hv
  rw [(h2 o ho).1] at hrun
  have : q = p o := by
    cases hp : p o with
    | none =>
      have h3 := (h2 o ho).1
      rw [hp] at h3
      rw [Maps.atKey_of_not_has h3] at hq
      exact (opD_inj hq).symm
    | some r =>
      have h3 := (h2 o ho).2 (by rw [hp]; rfl)
      rw [h3, hp] at hq
      exact (opD_inj hq).symm
  rw [this] at hrun
  exact hrun
theorem OwM.put (h : OwM w b n p) (hn : n < 1048576) (o : Own) (ho : o.wf) (q : Nat) : ∃ w', (Instr.mapUpdate 61 (.map (some b)) (.agg #[.bool o.isr, I o.id]) (.pointer (some ⟨q, 0, none⟩))).run Try.prog w = .ok () w' ∧ OwM w' b (n + 1) (fun x => if x = o then some q else p x) ∧ w.grownBy w' (some b) := by
  obtain ⟨D, hD, h2⟩ := h
  obtain ⟨w', hrun, r1, r2⟩ := hD.update keyOwn Try.underlying61 (by unfold maxLen; omega) (key_own o ho) (Rp_op (some q))
  refine ⟨w', hrun, ⟨_, r1, fun x hx => ?_⟩, r2⟩
  dsimp only
  by_cases e : x = o
  · subst e
    rw [if_pos rfl]
    exact ⟨Maps.has_put_same hD.isMap (kl_lit x) _, fun _ z => Maps.atKey_put_same hD.isMap (kl_lit x) _ _⟩
  · rw [if_neg e, Maps.has_put_other (kl_ne hx ho e)]
    refine ⟨(h2 x hx).1, fun hp z => ?_⟩
    rw [Maps.atKey_put_other (kl_ne hx ho e)]
    exact (h2 x hx).2 hp z
end

/-! ### The takes -/
abbrev Tks := List (Own × Int)
def hld (L : Tks) (o : Own) : List Int := (L.filter fun t => decide (t.1 = o)).map (·.2)
def hdr (L : Tks) (r : Int) : Option Own := (L.find? fun t => decide (t.2 = r)).map (·.1)
def nodR (L : Tks) (r : Int) : Tks := L.filter fun t => decide (t.2 ≠ r)
theorem hdr_some {L : Tks} {r : Int} {o : Own} (h : hdr L r = some o) : (o, r) ∈ L := by
  unfold hdr at h
  rw [Option.map_eq_some_iff] at h
  obtain ⟨t, h1, rfl⟩ := h
  have h2 := List.find?_some h1
  have h3 := List.mem_of_find?_eq_some h1
  simp at h2
  rw [← h2]
  exact h3
theorem hdr_none {L : Tks} {r : Int} : hdr L r = none ↔ ∀ o, (o, r) ∉ L := by
  unfold hdr
  rw [Option.map_eq_none_iff, List.find?_eq_none]
  simp only [decide_eq_true_eq]
  exact ⟨fun h o hm => h _ hm rfl, fun h t ht e => h t.1 (by rw [← e]; exact ht)⟩
theorem hdr_mem {L : Tks} (hn : (L.map (·.2)).Nodup) {o : Own} {r : Int} (h : (o, r) ∈ L) : hdr L r = some o := by
  cases hh : hdr L r with
  | none => exact absurd h (hdr_none.1 hh o)
  | some o' =>
    have h' := hdr_some hh
    congr 1
    induction L with
    | nil => cases h
    | cons t L ih =>
      rw [List.map_cons, List.nodup_cons] at hn
      rcases List.mem_cons.1 h with rfl | h1 <;> rcases List.mem_cons.1 h' with h2 | h2
      · exact congrArg Prod.fst h2
      · exact absurd (List.mem_map.2 ⟨_, h2, rfl⟩) hn.1
      · rw [← h2] at hn; exact absurd (List.mem_map.2 ⟨_, h1, rfl⟩) hn.1
      · have : hdr L r = some o' := by
          cases h3 : hdr L r with
          | none => exact absurd h2 (hdr_none.1 h3 o')
          | some o'' =>
            unfold hdr at hh h3
            rw [List.find?_cons] at hh
            have h4 : decide (t.2 = r) = false := decide_eq_false (fun e => hn.1 (List.mem_map.2 ⟨_, h1, e.symm⟩))
            rw [h4] at hh
            simp only at hh
            rw [← hh, h3]
        exact ih hn.2 h1 this h2
theorem mem_hld {L : Tks} {o : Own} {r : Int} : r ∈ hld L o ↔ (o, r) ∈ L := by
  unfold hld
  rw [List.mem_map]
  constructor
  · rintro ⟨t, ht, rfl⟩
    rw [List.mem_filter] at ht
    have := ht.2
    simp at this
    rw [← this]
    exact ht.1
  · intro h
    exact ⟨(o, r), List.mem_filter.2 ⟨h, by simp⟩, rfl⟩
theorem hld_nodup {L : Tks} (hn : (L.map (·.2)).Nodup) (o : Own) : (hld L o).Nodup := by
  unfold hld
  exact hn.sublist (List.filter_sublist.map _)
theorem nod_len {L : Tks} (hn : (L.map (·.2)).Nodup) (r : Int) : (nodR L r).length + (if (hdr L r).isSome then 1 else 0) = L.length := by
  induction L with
  | nil => rfl
  | cons t L ih =>
    rw [List.map_cons, List.nodup_cons] at hn
    by_cases e : t.2 = r
    · have hz : nodR L r = L := List.filter_eq_self.2 (fun x hx => by
        simp only [decide_eq_true_eq]
        intro e2
        exact hn.1 (List.mem_map.2 ⟨x, hx, e2.trans e.symm⟩))
      have h1 : nodR (t :: L) r = nodR L r := by unfold nodR; rw [List.filter_cons, if_neg (by simp [e])]
      have h2 : hdr (t :: L) r = some t.1 := by unfold hdr; rw [List.find?_cons, decide_eq_true e]; rfl
      rw [h1, hz, h2]
      rfl
    · have h1 : nodR (t :: L) r = t :: nodR L r := by unfold nodR; rw [List.filter_cons, if_pos (by simp [e])]
      have h2 : hdr (t :: L) r = hdr L r := by unfold hdr; rw [List.find?_cons, decide_eq_false e]
      have := ih hn.2
      rw [h1, h2, List.length_cons, List.length_cons]
      omega
theorem hdr_nod {L : Tks} {r x : Int} : hdr (nodR L r) x = if x = r then none else hdr L x := by
  unfold hdr nodR
  rw [List.find?_filter]
  by_cases e : x = r
  · rw [if_pos e, Option.map_eq_none_iff, List.find?_eq_none]
    intro t _
    simp [e]
  · rw [if_neg e]
    congr 2
    funext t
    by_cases e2 : t.2 = x
    · simp [e2, e]
    · simp [e2]
theorem hdr_snoc {L : Tks} {o : Own} {r x : Int} : hdr (L ++ [(o, r)]) x = match hdr L x with | some y => some y | none => if x = r then some o else none := by
  unfold hdr
  rw [List.find?_append]
  cases h : List.find? (fun t => decide (t.2 = x)) L with
  | some t => simp
  | none =>
    by_cases e : x = r
    · simp [e]
    · have : ¬ r = x := fun k => e k.symm
      simp [e, this]
theorem hld_snoc {L : Tks} {o x : Own} {r : Int} : hld (L ++ [(o, r)]) x = if x = o then hld L o ++ [r] else hld L x := by
  unfold hld
  rw [List.filter_append, List.map_append]
  by_cases e : x = o
  · simp [e]
  · have : ¬ o = x := fun k => e k.symm
    simp [e, this]
theorem hld_nod {L : Tks} {x : Own} {r : Int} : hld (nodR L r) x = (hld L x).filter (fun y => decide (y ≠ r)) := by
  unfold hld nodR
  rw [List.filter_map, List.filter_filter, List.filter_filter]
  congr 1
  apply List.filter_congr
  intro t _
  simp [Bool.and_comm]

/-! ### The map of the holders -/
def ozV (o : Option Own) : Value := match o with | some x => ov x | none => ov ⟨false, 0⟩
def ozD (o : Own) : DataW Unit := .agg [.lit (.bool o.isr), .lit (.int .i64 o.id)]
def Ro (v : Value) : Option (DataW Unit × List MemPlace) := match v with
  | .agg ⟨[.bool x, .int .i64 i]⟩ => some (ozD ⟨x, i⟩, [])
  | _ => none
theorem Ro_ov (o : Own) : Ro (ov o) = some (ozD o, []) := rfl
theorem ozD_inj {a b : Own} (h : ozD a = ozD b) : a = b := by
  cases a; cases b
  simp [ozD] at h
  simp [h]
theorem Ro_inv {v : Value} {y : DataW Unit × List MemPlace} (h : Ro v = some y) : ∃ o, v = ov o ∧ y.1 = ozD o := by
  unfold Ro at h
  split at h
  · cases h; exact ⟨_, rfl, rfl⟩
  · cases h
theorem keyI9 : Keyed Try.prog 3 := int_keyed Try.underlying3
def HdM (w : World) (b : Nat) (L : Tks) : Prop := ∃ D : DataW Unit, w.ownsMap Try.prog 3 Ro b L.length D ∧ Maps.size D = L.length ∧ ∀ r, (Lit.int .i64 r).wf = true → Maps.has D (.int .i64 r) = (hdr L r).isSome ∧ ∀ o, hdr L r = some o → ∀ z, D.atKey (.int .i64 r) z = ozD o
section
variable {w : World} {b : Nat} {L : Tks}
theorem own_tight9 {H : Type} {w : World} {P : Program} {k : TypeId} {R : Value → Option (DataW H × List MemPlace)} {b n : Nat} {D : DataW H} (h : w.ownsMap P k R b n D) : w.ownsMap P k R b (Maps.size D) D := by
  obtain ⟨es, clock, hb, F, hs, rfl⟩ := h
  refine ⟨es, clock, hb, F, ?_, rfl⟩
  rw [Maps.size_eq, length_sorted]
  simp
theorem HdM.made (w : World) : HdM (w.alloc (.map #[] 0)) w.heap.size [] :=
  ⟨.map [], World.ownsMap_made _ _ _ _, rfl, fun r _ => ⟨by simp [Maps.has, hdr], fun o h => by simp [hdr] at h⟩⟩
theorem HdM.lt (h : HdM w b L) : b < w.heap.size := by obtain ⟨D, h, _⟩ := h; exact h.lt
theorem HdM.kept {w' : World} (h : HdM w b L) (hb : w'.heap[b]? = w.heap[b]?) : HdM w' b L := by
  obtain ⟨D, ⟨es, clock, h1, h2⟩, h3⟩ := h
  exact ⟨D, ⟨es, clock, hb.trans h1, h2⟩, h3⟩
theorem zeroO (w : World) : (zeroValue 38).run Try.prog w = .ok (ov ⟨false, 0⟩) w := by kernel_rfl
theorem HdM.look (h : HdM w b L) (r : Int) (hr : (Lit.int .i64 r).wf = true) : (Instr.lookup 63 (.map (some b)) (.int .i64 r) true).run Try.prog w = .ok (.tuple #[ozV (hdr L r), .bool (hdr L r).isSome]) w := by
  obtain ⟨D, hD, hs, h2⟩ := h
  obtain ⟨v, ps, hrun, hv⟩ := hD.look_ok keyI9 Try.underlying63 (zeroO w) (Ro_ov _) (keyOf_int_mk Try.underlying3 hr)
  obtain ⟨q, rfl, hq⟩ := Ro_inv hv
  rw [(h2 r hr).1] at hrun
  have : ov q = ozV (hdr L r) := by
    cases hp : hdr L r with
    | none =>
      have h3 := (h2 r hr).1
      rw [hp] at h3
      rw [Maps.atKey_of_not_has h3] at hq
      rw [← ozD_inj hq]
      rfl
    | some o =>
      have h3 := (h2 r hr).2 o hp
      rw [h3] at hq
      rw [← ozD_inj hq]
      rfl
  rw [this] at hrun
  exact hrun
theorem HdM.put (h : HdM w b L) (hn : L.length < 1048576) (o : Own) (r : Int) (hr : (Lit.int .i64 r).wf = true) (hf : hdr L r = none) : ∃ w', (Instr.mapUpdate 63 (.map (some b)) (.int .i64 r) (.agg #[.bool o.isr, I o.id])).run Try.prog w = .ok () w' ∧ HdM w' b (L ++ [(o, r)]) ∧ w.grownBy w' (some b) := by
  obtain ⟨D, hD, hs, h2⟩ := h
  have hT := hD.tidy keyI9
  have hkl : WideAt.IsKeyLit (.int .i64 r) := trivial
  obtain ⟨w', hrun, r1, r2⟩ := hD.update keyI9 Try.underlying63 (by unfold maxLen; omega) (keyOf_int_mk Try.underlying3 hr) (Ro_ov o)
  have hsz : Maps.size (D.put (.int .i64 r) (ozD o)) = (L ++ [(o, r)]).length := by
    rw [Maps.size_put hT, (h2 r hr).1, hf, hs]
    simp
  refine ⟨w', hrun, ⟨_, by rw [← hsz]; exact own_tight9 r1, hsz, fun x hx => ?_⟩, r2⟩
  rw [hdr_snoc]
  by_cases e : x = r
  · subst e
    rw [hf, Maps.has_put_same hD.isMap hkl]
    refine ⟨by simp, fun o' ho' z => ?_⟩
    simp at ho'
    rw [Maps.atKey_put_same hD.isMap hkl, ho']
  · have hne : (Lit.int .i64 x) ≠ .int .i64 r := fun k => e (by injection k)
    rw [Maps.has_put_other hne, if_neg e]
    have h3 := h2 x hx
    cases hp : hdr L x with
    | none => rw [hp] at h3; exact ⟨h3.1, fun o' ho' => by cases ho'⟩
    | some y =>
      rw [hp] at h3
      refine ⟨h3.1, fun o' ho' z => ?_⟩
      rw [Maps.atKey_put_other hne]
      exact h3.2 o' ho' z
theorem HdM.del (h : HdM w b L) (hnd : (L.map (·.2)).Nodup) (r : Int) (hr : (Lit.int .i64 r).wf = true) (ty : TypeId) : ∃ w', (Builtin.delete_ #[63, 3] ty #[.map (some b), .int .i64 r]).run Try.prog w = .ok (.tuple #[]) w' ∧ HdM w' b (nodR L r) ∧ w.grownBy w' (some b) := by
  obtain ⟨D, hD, hs, h2⟩ := h
  have hT := hD.tidy keyI9
  obtain ⟨w', hrun, r1, r2⟩ := hD.drop keyI9 Try.underlying63 (keyOf_int_mk Try.underlying3 hr) ty
  have hsz : Maps.size (D.del (.int .i64 r)) = (nodR L r).length := by
    have h3 := Maps.size_del hT (k := .int .i64 r)
    have h4 := nod_len hnd r
    rw [(h2 r hr).1, hs] at h3
    omega
  refine ⟨w', hrun, ⟨_, by rw [← hsz]; exact own_tight9 r1, hsz, fun x hx => ?_⟩, r2.grown⟩
  rw [hdr_nod]
  by_cases e : x = r
  · subst e
    rw [if_pos rfl, Maps.has_del_same]
    exact ⟨rfl, fun o ho => by cases ho⟩
  · have hne : (Lit.int .i64 x) ≠ .int .i64 r := fun k => e (by injection k)
    rw [if_neg e, Maps.has_del_other hne]
    refine ⟨(h2 x hx).1, fun o ho z => ?_⟩
    rw [Maps.atKey_del_other hne]
    exact (h2 x hx).2 o ho z
end
end Go.Proofs.Ytmllocfeflhjoaa

namespace Go.Proofs.Ytmllocfeflhjoaa
open Go.RowKit
set_option linter.unusedVariables false

/-! ### Tables in memory -/
structure TkR where
  prio : Int
  ring : Int
  full : Bool
  limit : Int
  mask : Nat
  inner : Int
  own : List Int
  auto : Nat
structure RgR where
  prio : Int
  cap : Int
  deriving DecidableEq
structure RsR where
  inner : Bool
  ceil : Int
structure CtR where
  max : Nat
  base : Nat
  min : Nat
structure AcR where
  kind : Int
  task : Int
  mask : Nat
structure AlR where
  ctr : Int
  ac : AcR
  auto : Nat
  time : Nat
  cycle : Nat
structure IsR where
  cat : Int
  prio : Int
  own : List Int
structure MsR where
  kind : Int
  len : Int
  frm : Int
  init : Nat
  queue : Int
  ac : AcR
structure Tb where
  uses : Int
  modes : Int
  tasks : List TkR
  rings : List RgR
  ress : List RsR
  ctrs : List CtR
  als : List AlR
  isrs : List IsR
  msgs : List MsR
  depth : Int
  frames : Int
  errors : Int
  calls : Int
structure Ts where
  t : Sl
  g : Sl
  r : Sl
  k : Sl
  a : Sl
  i : Sl
  s : Sl
abbrev slT (s : Sl) : Value := .slice s.a s.n s.c
def tbC (tb : Tb) (v : Ts) : Array Value := #[I tb.uses, I tb.modes, .slice v.t.a v.t.n v.t.c, .slice v.g.a v.g.n v.g.c, .slice v.r.a v.r.n v.r.c, .slice v.k.a v.k.n v.k.c, .slice v.a.a v.a.n v.a.c, .slice v.i.a v.i.n v.i.c, .slice v.s.a v.s.n v.s.c, I tb.depth, I tb.frames, I tb.errors, I tb.calls]
def tkrP (w : World) (x : TkR) (i : Nat) (u : Value) : Prop := match i with | 0 => u = I x.prio | 1 => u = I x.ring | 2 => u = .bool x.full | 3 => u = I x.limit | 4 => u = .int .u32 (x.mask : Int) | 5 => u = I x.inner | 6 => IntsV w x.own u | _ => u = .int .u32 (x.auto : Int)
def rgrP (x : RgR) (i : Nat) (u : Value) : Prop := match i with | 0 => u = I x.prio | _ => u = I x.cap
def rsrP (x : RsR) (i : Nat) (u : Value) : Prop := match i with | 0 => u = .bool x.inner | _ => u = I x.ceil
def ctrP (x : CtR) (i : Nat) (u : Value) : Prop := match i with | 0 => u = .int .u32 (x.max : Int) | 1 => u = .int .u32 (x.base : Int) | _ => u = .int .u32 (x.min : Int)
def alrP (x : AlR) (i : Nat) (u : Value) : Prop := match i with | 0 => u = I x.ctr | 1 => u = I x.ac.kind | 2 => u = I x.ac.task | 3 => u = .int .u32 (x.ac.mask : Int) | 4 => u = .int .u32 (x.auto : Int) | 5 => u = .int .u32 (x.time : Int) | _ => u = .int .u32 (x.cycle : Int)
def isrP (w : World) (x : IsR) (i : Nat) (u : Value) : Prop := match i with | 0 => u = I x.cat | 1 => u = I x.prio | _ => IntsV w x.own u
def msrP (x : MsR) (i : Nat) (u : Value) : Prop := match i with | 0 => u = I x.kind | 1 => u = I x.len | 2 => u = I x.frm | 3 => u = .int .u64 (x.init : Int) | 4 => u = I x.queue | 5 => u = I x.ac.kind | 6 => u = I x.ac.task | _ => u = .int .u32 (x.ac.mask : Int)
/-- Tables in memory. -/
structure TbAt (w : World) (tb : Tb) (v : Ts) : Prop where
  t : RowsAt w 8 (tkrP w) v.t tb.tasks
  g : RowsAt w 2 rgrP v.g tb.rings
  r : RowsAt w 2 rsrP v.r tb.ress
  k : RowsAt w 3 ctrP v.k tb.ctrs
  a : RowsAt w 7 alrP v.a tb.als
  i : RowsAt w 3 (isrP w) v.i tb.isrs
  s : RowsAt w 8 msrP v.s tb.msgs
theorem TbAt.below {w w' : World} {tb : Tb} {v : Ts} (h : TbAt w tb v) (hb : Below w.heap.size w w') : TbAt w' tb v := by
  refine ⟨h.t.below hb (fun x i u _ h => ?_), h.g.below hb (fun _ _ _ _ h => h), h.r.below hb (fun _ _ _ _ h => h), h.k.below hb (fun _ _ _ _ h => h), h.a.below hb (fun _ _ _ _ h => h), h.i.below hb (fun x i u _ h => ?_), h.s.below hb (fun _ _ _ _ h => h)⟩
  · unfold tkrP at h ⊢
    split at h <;> first | exact h | exact IntsV.below h hb
  · unfold isrP at h ⊢
    split at h <;> first | exact h | exact IntsV.below h hb
theorem tkr_at {w : World} {tb : Tb} {v : Ts} (h : TbAt w tb v) {j : Nat} {x : TkR} (hj : tb.tasks[j]? = some x) : ∃ (g off : Nat) (s6 : Sl), v.t.a = some ⟨g, off, none⟩ ∧ g < w.heap.size ∧ w.cell? ⟨g, off + j * 8, none⟩ = some (I x.prio) ∧ w.cell? ⟨g, off + j * 8 + 1, none⟩ = some (I x.ring) ∧ w.cell? ⟨g, off + j * 8 + 2, none⟩ = some (.bool x.full) ∧ w.cell? ⟨g, off + j * 8 + 3, none⟩ = some (I x.limit) ∧ w.cell? ⟨g, off + j * 8 + 4, none⟩ = some (.int .u32 (x.mask : Int)) ∧ w.cell? ⟨g, off + j * 8 + 5, none⟩ = some (I x.inner) ∧ w.cell? ⟨g, off + j * 8 + 6, none⟩ = some (.slice s6.a s6.n s6.c) ∧ w.cell? ⟨g, off + j * 8 + 7, none⟩ = some (.int .u32 (x.auto : Int)) ∧ RowsAt w 1 intP s6 x.own := by
  obtain ⟨g, off, e, hg, hr⟩ := h.t.row j x hj
  obtain ⟨u0, a0, b0⟩ := hr 0 (by omega)
  have e0 : u0 = I x.prio := b0
  rw [e0] at a0
  obtain ⟨u1, a1, b1⟩ := hr 1 (by omega)
  have e1 : u1 = I x.ring := b1
  rw [e1] at a1
  obtain ⟨u2, a2, b2⟩ := hr 2 (by omega)
  have e2 : u2 = .bool x.full := b2
  rw [e2] at a2
  obtain ⟨u3, a3, b3⟩ := hr 3 (by omega)
  have e3 : u3 = I x.limit := b3
  rw [e3] at a3
  obtain ⟨u4, a4, b4⟩ := hr 4 (by omega)
  have e4 : u4 = .int .u32 (x.mask : Int) := b4
  rw [e4] at a4
  obtain ⟨u5, a5, b5⟩ := hr 5 (by omega)
  have e5 : u5 = I x.inner := b5
  rw [e5] at a5
  obtain ⟨u6, a6, b6⟩ := hr 6 (by omega)
  obtain ⟨s6, e6, r6⟩ := (show IntsV w x.own u6 from b6)
  rw [e6] at a6
  obtain ⟨u7, a7, b7⟩ := hr 7 (by omega)
  have e7 : u7 = .int .u32 (x.auto : Int) := b7
  rw [e7] at a7
  rw [Nat.add_zero] at a0
  exact ⟨g, off, s6, e, hg, a0, a1, a2, a3, a4, a5, a6, a7, r6⟩
theorem rgr_at {w : World} {tb : Tb} {v : Ts} (h : TbAt w tb v) {j : Nat} {x : RgR} (hj : tb.rings[j]? = some x) : ∃ (g off : Nat), v.g.a = some ⟨g, off, none⟩ ∧ g < w.heap.size ∧ w.cell? ⟨g, off + j * 2, none⟩ = some (I x.prio) ∧ w.cell? ⟨g, off + j * 2 + 1, none⟩ = some (I x.cap) := by
  obtain ⟨g, off, e, hg, hr⟩ := h.g.row j x hj
  obtain ⟨u0, a0, b0⟩ := hr 0 (by omega)
  have e0 : u0 = I x.prio := b0
  rw [e0] at a0
  obtain ⟨u1, a1, b1⟩ := hr 1 (by omega)
  have e1 : u1 = I x.cap := b1
  rw [e1] at a1
  rw [Nat.add_zero] at a0
  exact ⟨g, off, e, hg, a0, a1⟩
theorem rsr_at {w : World} {tb : Tb} {v : Ts} (h : TbAt w tb v) {j : Nat} {x : RsR} (hj : tb.ress[j]? = some x) : ∃ (g off : Nat), v.r.a = some ⟨g, off, none⟩ ∧ g < w.heap.size ∧ w.cell? ⟨g, off + j * 2, none⟩ = some (.bool x.inner) ∧ w.cell? ⟨g, off + j * 2 + 1, none⟩ = some (I x.ceil) := by
  obtain ⟨g, off, e, hg, hr⟩ := h.r.row j x hj
  obtain ⟨u0, a0, b0⟩ := hr 0 (by omega)
  have e0 : u0 = .bool x.inner := b0
  rw [e0] at a0
  obtain ⟨u1, a1, b1⟩ := hr 1 (by omega)
  have e1 : u1 = I x.ceil := b1
  rw [e1] at a1
  rw [Nat.add_zero] at a0
  exact ⟨g, off, e, hg, a0, a1⟩
theorem ctr_at {w : World} {tb : Tb} {v : Ts} (h : TbAt w tb v) {j : Nat} {x : CtR} (hj : tb.ctrs[j]? = some x) : ∃ (g off : Nat), v.k.a = some ⟨g, off, none⟩ ∧ g < w.heap.size ∧ w.cell? ⟨g, off + j * 3, none⟩ = some (.int .u32 (x.max : Int)) ∧ w.cell? ⟨g, off + j * 3 + 1, none⟩ = some (.int .u32 (x.base : Int)) ∧ w.cell? ⟨g, off + j * 3 + 2, none⟩ = some (.int .u32 (x.min : Int)) := by
  obtain ⟨g, off, e, hg, hr⟩ := h.k.row j x hj
  obtain ⟨u0, a0, b0⟩ := hr 0 (by omega)
  have e0 : u0 = .int .u32 (x.max : Int) := b0
  rw [e0] at a0
  obtain ⟨u1, a1, b1⟩ := hr 1 (by omega)
  have e1 : u1 = .int .u32 (x.base : Int) := b1
  rw [e1] at a1
  obtain ⟨u2, a2, b2⟩ := hr 2 (by omega)
  have e2 : u2 = .int .u32 (x.min : Int) := b2
  rw [e2] at a2
  rw [Nat.add_zero] at a0
  exact ⟨g, off, e, hg, a0, a1, a2⟩
theorem alr_at {w : World} {tb : Tb} {v : Ts} (h : TbAt w tb v) {j : Nat} {x : AlR} (hj : tb.als[j]? = some x) : ∃ (g off : Nat), v.a.a = some ⟨g, off, none⟩ ∧ g < w.heap.size ∧ w.cell? ⟨g, off + j * 7, none⟩ = some (I x.ctr) ∧ w.cell? ⟨g, off + j * 7 + 1, none⟩ = some (I x.ac.kind) ∧ w.cell? ⟨g, off + j * 7 + 2, none⟩ = some (I x.ac.task) ∧ w.cell? ⟨g, off + j * 7 + 3, none⟩ = some (.int .u32 (x.ac.mask : Int)) ∧ w.cell? ⟨g, off + j * 7 + 4, none⟩ = some (.int .u32 (x.auto : Int)) ∧ w.cell? ⟨g, off + j * 7 + 5, none⟩ = some (.int .u32 (x.time : Int)) ∧ w.cell? ⟨g, off + j * 7 + 6, none⟩ = some (.int .u32 (x.cycle : Int)) := by
  obtain ⟨g, off, e, hg, hr⟩ := h.a.row j x hj
  obtain ⟨u0, a0, b0⟩ := hr 0 (by omega)
  have e0 : u0 = I x.ctr := b0
  rw [e0] at a0
  obtain ⟨u1, a1, b1⟩ := hr 1 (by omega)
  have e1 : u1 = I x.ac.kind := b1
  rw [e1] at a1
  obtain ⟨u2, a2, b2⟩ := hr 2 (by omega)
  have e2 : u2 = I x.ac.task := b2
  rw [e2] at a2
  obtain ⟨u3, a3, b3⟩ := hr 3 (by omega)
  have e3 : u3 = .int .u32 (x.ac.mask : Int) := b3
  rw [e3] at a3
  obtain ⟨u4, a4, b4⟩ := hr 4 (by omega)
  have e4 : u4 = .int .u32 (x.auto : Int) := b4
  rw [e4] at a4
  obtain ⟨u5, a5, b5⟩ := hr 5 (by omega)
  have e5 : u5 = .int .u32 (x.time : Int) := b5
  rw [e5] at a5
  obtain ⟨u6, a6, b6⟩ := hr 6 (by omega)
  have e6 : u6 = .int .u32 (x.cycle : Int) := b6
  rw [e6] at a6
  rw [Nat.add_zero] at a0
  exact ⟨g, off, e, hg, a0, a1, a2, a3, a4, a5, a6⟩
theorem isr_at {w : World} {tb : Tb} {v : Ts} (h : TbAt w tb v) {j : Nat} {x : IsR} (hj : tb.isrs[j]? = some x) : ∃ (g off : Nat) (s2 : Sl), v.i.a = some ⟨g, off, none⟩ ∧ g < w.heap.size ∧ w.cell? ⟨g, off + j * 3, none⟩ = some (I x.cat) ∧ w.cell? ⟨g, off + j * 3 + 1, none⟩ = some (I x.prio) ∧ w.cell? ⟨g, off + j * 3 + 2, none⟩ = some (.slice s2.a s2.n s2.c) ∧ RowsAt w 1 intP s2 x.own := by
  obtain ⟨g, off, e, hg, hr⟩ := h.i.row j x hj
  obtain ⟨u0, a0, b0⟩ := hr 0 (by omega)
  have e0 : u0 = I x.cat := b0
  rw [e0] at a0
  obtain ⟨u1, a1, b1⟩ := hr 1 (by omega)
  have e1 : u1 = I x.prio := b1
  rw [e1] at a1
  obtain ⟨u2, a2, b2⟩ := hr 2 (by omega)
  obtain ⟨s2, e2, r2⟩ := (show IntsV w x.own u2 from b2)
  rw [e2] at a2
  rw [Nat.add_zero] at a0
  exact ⟨g, off, s2, e, hg, a0, a1, a2, r2⟩
theorem msr_at {w : World} {tb : Tb} {v : Ts} (h : TbAt w tb v) {j : Nat} {x : MsR} (hj : tb.msgs[j]? = some x) : ∃ (g off : Nat), v.s.a = some ⟨g, off, none⟩ ∧ g < w.heap.size ∧ w.cell? ⟨g, off + j * 8, none⟩ = some (I x.kind) ∧ w.cell? ⟨g, off + j * 8 + 1, none⟩ = some (I x.len) ∧ w.cell? ⟨g, off + j * 8 + 2, none⟩ = some (I x.frm) ∧ w.cell? ⟨g, off + j * 8 + 3, none⟩ = some (.int .u64 (x.init : Int)) ∧ w.cell? ⟨g, off + j * 8 + 4, none⟩ = some (I x.queue) ∧ w.cell? ⟨g, off + j * 8 + 5, none⟩ = some (I x.ac.kind) ∧ w.cell? ⟨g, off + j * 8 + 6, none⟩ = some (I x.ac.task) ∧ w.cell? ⟨g, off + j * 8 + 7, none⟩ = some (.int .u32 (x.ac.mask : Int)) := by
  obtain ⟨g, off, e, hg, hr⟩ := h.s.row j x hj
  obtain ⟨u0, a0, b0⟩ := hr 0 (by omega)
  have e0 : u0 = I x.kind := b0
  rw [e0] at a0
  obtain ⟨u1, a1, b1⟩ := hr 1 (by omega)
  have e1 : u1 = I x.len := b1
  rw [e1] at a1
  obtain ⟨u2, a2, b2⟩ := hr 2 (by omega)
  have e2 : u2 = I x.frm := b2
  rw [e2] at a2
  obtain ⟨u3, a3, b3⟩ := hr 3 (by omega)
  have e3 : u3 = .int .u64 (x.init : Int) := b3
  rw [e3] at a3
  obtain ⟨u4, a4, b4⟩ := hr 4 (by omega)
  have e4 : u4 = I x.queue := b4
  rw [e4] at a4
  obtain ⟨u5, a5, b5⟩ := hr 5 (by omega)
  have e5 : u5 = I x.ac.kind := b5
  rw [e5] at a5
  obtain ⟨u6, a6, b6⟩ := hr 6 (by omega)
  have e6 : u6 = I x.ac.task := b6
  rw [e6] at a6
  obtain ⟨u7, a7, b7⟩ := hr 7 (by omega)
  have e7 : u7 = .int .u32 (x.ac.mask : Int) := b7
  rw [e7] at a7
  rw [Nat.add_zero] at a0
  exact ⟨g, off, e, hg, a0, a1, a2, a3, a4, a5, a6, a7⟩
theorem var13 {w : World} {b : Nat} {tb : Tb} {v : Ts} (h : w.heap[b]? = some (.cells (tbC tb v) 30 (0, 0))) :
    w.cell? ⟨b, 0, none⟩ = some (I tb.uses) ∧ w.cell? ⟨b, 1, none⟩ = some (I tb.modes) ∧ w.cell? ⟨b, 2, none⟩ = some (.slice v.t.a v.t.n v.t.c) ∧ w.cell? ⟨b, 3, none⟩ = some (.slice v.g.a v.g.n v.g.c) ∧ w.cell? ⟨b, 4, none⟩ = some (.slice v.r.a v.r.n v.r.c) ∧ w.cell? ⟨b, 5, none⟩ = some (.slice v.k.a v.k.n v.k.c) ∧ w.cell? ⟨b, 6, none⟩ = some (.slice v.a.a v.a.n v.a.c) ∧ w.cell? ⟨b, 7, none⟩ = some (.slice v.i.a v.i.n v.i.c) ∧ w.cell? ⟨b, 8, none⟩ = some (.slice v.s.a v.s.n v.s.c) ∧ w.cell? ⟨b, 9, none⟩ = some (I tb.depth) ∧ w.cell? ⟨b, 10, none⟩ = some (I tb.frames) ∧ w.cell? ⟨b, 11, none⟩ = some (I tb.errors) ∧ w.cell? ⟨b, 12, none⟩ = some (I tb.calls) := by
  have a1 := fun i => cell_of_row w b i _ _ (0, 0) h
  exact ⟨a1 0, a1 1, a1 2, a1 3, a1 4, a1 5, a1 6, a1 7, a1 8, a1 9, a1 10, a1 11, a1 12⟩
end Go.Proofs.Ytmllocfeflhjoaa

