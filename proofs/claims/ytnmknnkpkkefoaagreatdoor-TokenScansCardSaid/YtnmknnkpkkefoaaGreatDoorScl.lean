import Derived.Test.YtnmknnkpkkefoaaGreatDoorGos
import Derived.Test.YtnmknnkpkkefoaaGreatDoorSas
namespace Go.Proofs.YtnmknnkpkkefoaaGreatDoor
open Go.RowKit
set_option linter.unusedVariables false

set_option maxHeartbeats 4000000 in
set_option maxRecDepth 100000 in
theorem scans_bad (B0 : Nat) (p : Nat → Addr) (s : ByteArray) (w : World) (hE : Env B0 p w) (hF : EnvF B0 p w) (hT : EnvT w) (hs : s.size < 4611686018427387904) (c a : Nat) (hx : scanA s.data.toList = .inr (c, a)) :
    Calls Tryz.prog 3 #[.string s] w fun e w' => e = .returned (.bool true) ∧ Below w.heap.size w w' := by
  have c1 : ∀ W, Below w.heap.size w W → Calls Tryz.prog 4 #[.string s] W fun e w' => e = .returned (.tuple #[.slice none 0 0, .agg #[.int .i64 (c : Int), .int .i64 (a : Int), .int .i64 (lineN s.data.toList a : Int), .int .i64 (colN s.data.toList a : Int), .string ⟨#[]⟩]]) ∧ Below W.heap.size W w' := fun W hb => by
    have := Scan_any B0 p s W (hE.below (hb.mono hE.size)) (hF.below hE (hb.mono hE.size)) hs
    rw [hx] at this
    exact this
  have c2 : ∀ W, Calls Tryz.prog 5 #[.string s] W fun e w' => e = .returned (.tuple #[.slice none 0 0, .agg #[.int .i64 (c : Int), .int .i64 (a : Int), .int .i64 (lineN s.data.toList a : Int), .int .i64 (colN s.data.toList a : Int), .string ⟨#[]⟩]]) ∧ Below W.heap.size W w' := fun W => by
    have := rScan_any s W hs
    rw [hx] at this
    exact this
  have cz : ∀ W, Calls Tryz.prog 6 #[.slice none 0 0, .slice none 0 0] W fun e w' => e = .returned (.bool true) ∧ Below W.heap.size W w' := fun W => same_zero W none none 0 0
  have cal : ∀ W, Below w.heap.size w W → Calls Tryz.prog 7 #[] W fun e w' => e = .returned (.bool true) ∧ Below W.heap.size W w' := fun W hb => alive_any B0 p W (hE.below (hb.mono hE.size)) (hF.below hE (hb.mono hE.size)) (hT.below hb)
  generalize lineN s.data.toList a = ln at *
  generalize colN s.data.toList a = cl at *
  clear hx hE hF hT
  go_enter Tryz.func3, Tryz.ntmps3
  go_wp2_with fail
  refine (c1 _ (Below.refl _ _)).mono ?_
  rintro e w1 ⟨rfl, hb1⟩
  go_wp2_with fail
  have hva : (w1.alloc (.cells #[.int .i64 (c : Int), .int .i64 (a : Int), .int .i64 (ln : Int), .int .i64 (cl : Int), .string ⟨#[]⟩] 27)).heap[w1.heap.size]? = some (.cells #[.int .i64 (c : Int), .int .i64 (a : Int), .int .i64 (ln : Int), .int .i64 (cl : Int), .string ⟨#[]⟩] 27 (0, 0)) := push_at w1.heap _
  have hba := hb1.alloc hb1.size (.cells #[.int .i64 (c : Int), .int .i64 (a : Int), .int .i64 (ln : Int), .int .i64 (cl : Int), .string ⟨#[]⟩] 27)
  generalize (w1.alloc (.cells #[.int .i64 (c : Int), .int .i64 (a : Int), .int .i64 (ln : Int), .int .i64 (cl : Int), .string ⟨#[]⟩] 27)) = wa at *
  generalize w1.heap.size = b1 at *
  refine (c2 wa).mono ?_
  rintro e w2 ⟨rfl, hb2⟩
  have hv2 := (hb2.block _ (heap_lt hva)).trans hva
  have hbw2 := hba.trans (hb2.mono hba.size)
  have hvc : ∀ o, (w2.alloc o).heap[b1]? = some (.cells #[.int .i64 (c : Int), .int .i64 (a : Int), .int .i64 (ln : Int), .int .i64 (cl : Int), .string ⟨#[]⟩] 27 (0, 0)) := fun o => (((Below.refl w2.heap.size w2).alloc (Nat.le_refl _) o).block _ (heap_lt hv2)).trans hv2
  have f10 : ∀ o, (w2.alloc o).cell? ⟨b1, 0, none⟩ = some (.int .i64 (c : Int)) := fun o => cell_of_row _ b1 0 _ _ (0, 0) (hvc o)
  have f11 : ∀ o, (w2.alloc o).cell? ⟨b1, 1, none⟩ = some (.int .i64 (a : Int)) := fun o => cell_of_row _ b1 1 _ _ (0, 0) (hvc o)
  have f12 : ∀ o, (w2.alloc o).cell? ⟨b1, 2, none⟩ = some (.int .i64 (ln : Int)) := fun o => cell_of_row _ b1 2 _ _ (0, 0) (hvc o)
  have f13 : ∀ o, (w2.alloc o).cell? ⟨b1, 3, none⟩ = some (.int .i64 (cl : Int)) := fun o => cell_of_row _ b1 3 _ _ (0, 0) (hvc o)
  have f14 : ∀ o, (w2.alloc o).cell? ⟨b1, 4, none⟩ = some (.string ⟨#[]⟩) := fun o => cell_of_row _ b1 4 _ _ (0, 0) (hvc o)
  clear hb1 hb2 hba hva
  go_wp2_with fail
  have hvb : (w2.alloc (.cells #[.int .i64 (c : Int), .int .i64 (a : Int), .int .i64 (ln : Int), .int .i64 (cl : Int), .string ⟨#[]⟩] 27)).heap[w2.heap.size]? = some (.cells #[.int .i64 (c : Int), .int .i64 (a : Int), .int .i64 (ln : Int), .int .i64 (cl : Int), .string ⟨#[]⟩] 27 (0, 0)) := push_at w2.heap _
  have hbb := hbw2.alloc hbw2.size (.cells #[.int .i64 (c : Int), .int .i64 (a : Int), .int .i64 (ln : Int), .int .i64 (cl : Int), .string ⟨#[]⟩] 27)
  clear f10 f11 f12 f13 f14 hvc hv2 hbw2
  generalize (w2.alloc (.cells #[.int .i64 (c : Int), .int .i64 (a : Int), .int .i64 (ln : Int), .int .i64 (cl : Int), .string ⟨#[]⟩] 27)) = wb at *
  generalize w2.heap.size = b2 at *
  refine (cz wb).mono ?_
  rintro e w3 ⟨rfl, hb3⟩
  have hv3 := (hb3.block _ (heap_lt hvb)).trans hvb
  have hbw3 := hbb.trans (hb3.mono hbb.size)
  clear hvb hbb hb3
  go_wp2
  go_loopw [7] (fun i wr => i = .int .i64 0 ∧ Below w.heap.size w wr ∧ wr.heap[b2]? = some (.cells #[.int .i64 (c : Int), .int .i64 (a : Int), .int .i64 (ln : Int), .int .i64 (cl : Int), .string ⟨#[]⟩] 27 (0, 0))) (fun _ _ => 0)
  case atStart => exact ⟨rfl, hbw3, hv3⟩
  case round =>
    obtain ⟨rfl, hb, hv⟩ := hrel
    clear hv3 hbw3
    go_wp2_with fail
    refine (c1 _ hb).mono ?_
    rintro e w4 ⟨rfl, hb4⟩
    have hv4 := (hb4.block _ (heap_lt hv)).trans hv
    have hbw4 := hb.trans (hb4.mono hb.size)
    have hvc : ∀ o, (w4.alloc o).heap[b2]? = some (.cells #[.int .i64 (c : Int), .int .i64 (a : Int), .int .i64 (ln : Int), .int .i64 (cl : Int), .string ⟨#[]⟩] 27 (0, 0)) := fun o => (((Below.refl w4.heap.size w4).alloc (Nat.le_refl _) o).block _ (heap_lt hv4)).trans hv4
    have f10 : ∀ o, (w4.alloc o).cell? ⟨b2, 0, none⟩ = some (.int .i64 (c : Int)) := fun o => cell_of_row _ b2 0 _ _ (0, 0) (hvc o)
    have f11 : ∀ o, (w4.alloc o).cell? ⟨b2, 1, none⟩ = some (.int .i64 (a : Int)) := fun o => cell_of_row _ b2 1 _ _ (0, 0) (hvc o)
    have f12 : ∀ o, (w4.alloc o).cell? ⟨b2, 2, none⟩ = some (.int .i64 (ln : Int)) := fun o => cell_of_row _ b2 2 _ _ (0, 0) (hvc o)
    have f13 : ∀ o, (w4.alloc o).cell? ⟨b2, 3, none⟩ = some (.int .i64 (cl : Int)) := fun o => cell_of_row _ b2 3 _ _ (0, 0) (hvc o)
    have f14 : ∀ o, (w4.alloc o).cell? ⟨b2, 4, none⟩ = some (.string ⟨#[]⟩) := fun o => cell_of_row _ b2 4 _ _ (0, 0) (hvc o)
    clear hb hv hb4 hv4
    go_wp2_with fail
    have hbb := hbw4.alloc hbw4.size (.cells #[.int .i64 (c : Int), .int .i64 (a : Int), .int .i64 (ln : Int), .int .i64 (cl : Int), .string ⟨#[]⟩] 27)
    refine (cz _).mono ?_
    rintro e w5 ⟨rfl, hb5⟩
    have hbw5 := hbb.trans (hb5.mono hbb.size)
    clear hbb hb5 f10 f11 f12 f13 f14 hvc
    go_wp2_with fail
    refine (cal _ hbw5).mono ?_
    rintro e w6 ⟨rfl, hb6⟩
    have hbz := hbw5.trans (hb6.mono hbw5.size)
    clear hb6 cal
    go_wp2
    go_ret
    exact ⟨rfl, hbz⟩
/-- A row of tokens in a block of its own. -/
def RowG (w : World) (g n cap : Nat) (xs : List Tp) : Prop := ∃ cur : Array Value, w.heap[g]? = some (.cells cur 34 (0, 0)) ∧ n * 7 ≤ cur.size ∧ RowT w (.slice (some ⟨g, 0, none⟩) n cap) xs
theorem rowG_of {W w' : World} {e : Ending} {t : List UInt8} {ts : List (Tk × Nat)} {n : Nat} (h0 : 0 < n) (hn : ts.length = n) (h : SPost W t (.inl ts) e w') :
    ∃ g cap, e = .returned (.tuple #[.slice (some ⟨g, 0, none⟩) n cap, .agg #[.int .i64 0, .int .i64 0, .int .i64 0, .int .i64 0, .string ⟨#[]⟩]]) ∧ W.heap.size ≤ g ∧ RowG w' g n cap (ts.map (tpOf t)) ∧ Below W.heap.size W w' := by
  obtain ⟨v, he, hO, hb⟩ := h
  rw [tks_tps] at hO
  have hR := row_own hO (by rw [List.length_map])
  obtain ⟨hl, ⟨_, h1⟩ | ⟨g, cap, cur, rfl, hb1, hh, h1, h2, h3, h4⟩⟩ := hO
  · omega
  · subst hn
    refine ⟨g, cap, he, hb1, ⟨cur, hh, ?_, hR⟩, hb⟩
    rw [h3]
    exact Nat.mul_le_mul_right 7 h1
theorem rowG_below {w w' : World} {g n cap : Nat} {xs : List Tp} (h : RowG w g n cap xs) (hb : Below w.heap.size w w') : RowG w' g n cap xs := by
  obtain ⟨cur, hh, h1, h2⟩ := h
  exact ⟨cur, (hb.block _ (heap_lt hh)).trans hh, h1, rowT_below h2 hb⟩
theorem cell_grown {w w' : World} {g r i : Nat} (hg : w.grownBy w' (some r)) (hl : g < w.heap.size) (hne : g ≠ r) : w'.cell? ⟨g, i, none⟩ = w.cell? ⟨g, i, none⟩ := by
  have h := hg.block g hl (fun e => by cases e; exact hne rfl)
  simp only [World.cell?, h]
theorem rowG_grown {w w' : World} {g n cap r : Nat} {xs : List Tp} (h : RowG w g n cap xs) (hg : w.grownBy w' (some r)) (hne : g ≠ r) : RowG w' g n cap xs := by
  obtain ⟨cur, hh, h1, h2⟩ := h
  have hl := heap_lt hh
  refine ⟨cur, (hg.block g hl (fun e => by cases e; exact hne rfl)).trans hh, h1, ?_⟩
  cases h2 with
  | nil => exact .nil
  | some a b c => exact .some (Nat.lt_of_lt_of_le a hg.size) (fun j u hj => by rw [cell_grown hg a hne]; exact b j u hj) c
def Shp (w : World) (g m : Nat) : Prop := ∃ cur : Array Value, w.heap[g]? = some (.cells cur 34 (0, 0)) ∧ m ≤ cur.size
theorem shp_set {w : World} {g m : Nat} (h : Shp w g m) (i : Nat) (v : Value) : Shp (w.setCell ⟨g, i, none⟩ v) g m := by
  obtain ⟨cur, h1, h2⟩ := h
  exact ⟨_, heap_setCell_same _ g i _ _ _ h1, by simpa using h2⟩
set_option maxHeartbeats 4000000 in
set_option maxRecDepth 100000 in
theorem scans_good (B0 : Nat) (p : Nat → Addr) (s : ByteArray) (w : World) (hE : Env B0 p w) (hF : EnvF B0 p w) (hT : EnvT w) (hs : s.size < 4611686018427387904) (ts : List (Tk × Nat)) (hx : scanA s.data.toList = .inl ts) (hts : 0 < ts.length) (htl : ts.length < 4294967296) :
    Calls Tryz.prog 3 #[.string s] w fun e w' => e = .returned (.bool true) ∧ Below w.heap.size w w' := by
  obtain ⟨n, hn⟩ : ∃ n, ts.length = n := ⟨_, rfl⟩
  have c1 : ∀ W, Below w.heap.size w W → Calls Tryz.prog 4 #[.string s] W fun e w' => ∃ g cap, e = .returned (.tuple #[.slice (some ⟨g, 0, none⟩) n cap, .agg #[.int .i64 0, .int .i64 0, .int .i64 0, .int .i64 0, .string ⟨#[]⟩]]) ∧ W.heap.size ≤ g ∧ RowG w' g n cap (ts.map (tpOf s.data.toList)) ∧ Below W.heap.size W w' := fun W hb => by
    have := Scan_any B0 p s W (hE.below (hb.mono hE.size)) (hF.below hE (hb.mono hE.size)) hs
    rw [hx] at this
    exact this.mono fun e w' h => rowG_of (by rw [← hn]; exact hts) hn h
  have c2 : ∀ W, Calls Tryz.prog 5 #[.string s] W fun e w' => ∃ g cap, e = .returned (.tuple #[.slice (some ⟨g, 0, none⟩) n cap, .agg #[.int .i64 0, .int .i64 0, .int .i64 0, .int .i64 0, .string ⟨#[]⟩]]) ∧ W.heap.size ≤ g ∧ RowG w' g n cap (ts.map (tpOf s.data.toList)) ∧ Below W.heap.size W w' := fun W => by
    have := rScan_any s W hs
    rw [hx] at this
    exact this.mono fun e w' h => rowG_of (by rw [← hn]; exact hts) hn h
  have cs : ∀ W g1 cap1 g2 cap2, RowG W g1 n cap1 (ts.map (tpOf s.data.toList)) → RowG W g2 n cap2 (ts.map (tpOf s.data.toList)) → Calls Tryz.prog 6 #[.slice (some ⟨g1, 0, none⟩) n cap1, .slice (some ⟨g2, 0, none⟩) n cap2] W fun e w' => e = .returned (.bool true) ∧ Below W.heap.size W w' := fun W g1 cap1 g2 cap2 h1 h2 =>
    same_eq W g1 0 cap1 g2 0 cap2 n _ h1.choose_spec.2.2 h2.choose_spec.2.2 (by rw [List.length_map]; exact hn) (by rw [← hn]; exact htl) (by rw [← hn]; exact hts)
  have cal : ∀ W, Below w.heap.size w W → Calls Tryz.prog 7 #[] W fun e w' => e = .returned (.bool true) ∧ Below W.heap.size W w' := fun W hb => alive_any B0 p W (hE.below (hb.mono hE.size)) (hF.below hE (hb.mono hE.size)) (hT.below hb)
  have hn0 : 0 < n := by omega
  have hnm : n < 4294967296 := by omega
  generalize ts.map (tpOf s.data.toList) = xs at *
  clear hx hE hF hT hts htl hn
  go_enter Tryz.func3, Tryz.ntmps3
  go_wp2_with fail
  refine (c1 _ (Below.refl _ _)).mono ?_
  rintro e w1 ⟨g1, cap1, rfl, hg1, hR1, hb1⟩
  go_wp2_with fail
  have hva : (w1.alloc (.cells #[.int .i64 0, .int .i64 0, .int .i64 0, .int .i64 0, .string ⟨#[]⟩] 27)).heap[w1.heap.size]? = some (.cells #[.int .i64 0, .int .i64 0, .int .i64 0, .int .i64 0, .string ⟨#[]⟩] 27 (0, 0)) := push_at w1.heap _
  have hba := hb1.alloc hb1.size (.cells #[.int .i64 0, .int .i64 0, .int .i64 0, .int .i64 0, .string ⟨#[]⟩] 27)
  have hRa := rowG_below hR1 ((Below.refl w1.heap.size w1).alloc (Nat.le_refl _) (.cells #[.int .i64 0, .int .i64 0, .int .i64 0, .int .i64 0, .string ⟨#[]⟩] 27))
  have hga : g1 < (w1.alloc (.cells #[.int .i64 0, .int .i64 0, .int .i64 0, .int .i64 0, .string ⟨#[]⟩] 27)).heap.size := heap_lt hRa.choose_spec.1
  generalize (w1.alloc (.cells #[.int .i64 0, .int .i64 0, .int .i64 0, .int .i64 0, .string ⟨#[]⟩] 27)) = wa at *
  generalize w1.heap.size = b1 at *
  refine (c2 wa).mono ?_
  rintro e w2 ⟨g2, cap2, rfl, hg2, hR2, hb2⟩
  have hv2 := (hb2.block _ (heap_lt hva)).trans hva
  have hbw2 := hba.trans (hb2.mono hba.size)
  have hRb := rowG_below hRa hb2
  have hvc : ∀ o, (w2.alloc o).heap[b1]? = some (.cells #[.int .i64 0, .int .i64 0, .int .i64 0, .int .i64 0, .string ⟨#[]⟩] 27 (0, 0)) := fun o => (((Below.refl w2.heap.size w2).alloc (Nat.le_refl _) o).block _ (heap_lt hv2)).trans hv2
  have f10 : ∀ o, (w2.alloc o).cell? ⟨b1, 0, none⟩ = some (.int .i64 0) := fun o => cell_of_row _ b1 0 _ _ (0, 0) (hvc o)
  have f11 : ∀ o, (w2.alloc o).cell? ⟨b1, 1, none⟩ = some (.int .i64 0) := fun o => cell_of_row _ b1 1 _ _ (0, 0) (hvc o)
  have f12 : ∀ o, (w2.alloc o).cell? ⟨b1, 2, none⟩ = some (.int .i64 0) := fun o => cell_of_row _ b1 2 _ _ (0, 0) (hvc o)
  have f13 : ∀ o, (w2.alloc o).cell? ⟨b1, 3, none⟩ = some (.int .i64 0) := fun o => cell_of_row _ b1 3 _ _ (0, 0) (hvc o)
  have f14 : ∀ o, (w2.alloc o).cell? ⟨b1, 4, none⟩ = some (.string ⟨#[]⟩) := fun o => cell_of_row _ b1 4 _ _ (0, 0) (hvc o)
  clear hb1 hb2 hba hva hR1 hRa
  go_wp2_with fail
  have hvb : (w2.alloc (.cells #[.int .i64 0, .int .i64 0, .int .i64 0, .int .i64 0, .string ⟨#[]⟩] 27)).heap[w2.heap.size]? = some (.cells #[.int .i64 0, .int .i64 0, .int .i64 0, .int .i64 0, .string ⟨#[]⟩] 27 (0, 0)) := push_at w2.heap _
  have hbb := hbw2.alloc hbw2.size (.cells #[.int .i64 0, .int .i64 0, .int .i64 0, .int .i64 0, .string ⟨#[]⟩] 27)
  have hal := (Below.refl w2.heap.size w2).alloc (Nat.le_refl _) (.cells #[.int .i64 0, .int .i64 0, .int .i64 0, .int .i64 0, .string ⟨#[]⟩] 27)
  have hRc := rowG_below hRb hal
  have hRd := rowG_below hR2 hal
  have hg2b : g2 < w2.heap.size := heap_lt hR2.choose_spec.1
  clear f10 f11 f12 f13 f14 hvc hv2 hbw2 hRb hR2 hal
  generalize (w2.alloc (.cells #[.int .i64 0, .int .i64 0, .int .i64 0, .int .i64 0, .string ⟨#[]⟩] 27)) = wb at *
  generalize w2.heap.size = b2 at *
  refine (cs wb g1 cap1 g2 cap2 hRc hRd).mono ?_
  rintro e w3 ⟨rfl, hb3⟩
  have hv3 := (hb3.block _ (heap_lt hvb)).trans hvb
  have hbw3 := hbb.trans (hb3.mono hbb.size)
  have hRe := rowG_below hRc hb3
  have hRf := rowG_below hRd hb3
  clear hvb hbb hb3 hRc hRd
  go_wp2
  go_loopw [7] (fun i wr => ∃ j : Nat, j ≤ n ∧ i = .int .i64 (j : Int) ∧ Below w.heap.size w wr ∧ wr.heap[b2]? = some (.cells #[.int .i64 0, .int .i64 0, .int .i64 0, .int .i64 0, .string ⟨#[]⟩] 27 (0, 0)) ∧ RowG wr g2 n cap2 xs ∧ ∃ cur : Array Value, wr.heap[g1]? = some (.cells cur 34 (0, 0)) ∧ n * 7 ≤ cur.size) (fun i _ => n - (intOf i).toNat)
  case atStart => exact ⟨0, by omega, rfl, hbw3, hv3, hRf, by obtain ⟨cur, h1, h2, _⟩ := hRe; exact ⟨cur, h1, h2⟩⟩
  case round =>
    obtain ⟨j, hj, rfl, hb, hv, hR, cur, hc, hcs⟩ := hrel
    clear hv3 hbw3 hRe hRf
    by_cases hlt : j < n
    · have hlt' : (j : Int) < n := by omega
      have a1 : ∀ i, i < 7 → ∃ v, wr.cell? ⟨g1, j * 7 + i, none⟩ = some v := fun i hi => ⟨cur[j * 7 + i]'(by omega), by rw [cell_of_row wr g1 (j * 7 + i) _ _ (0, 0) hc]; exact Array.getElem?_eq_getElem _⟩
      obtain ⟨v0, x0⟩ := a1 0 (by omega); obtain ⟨v1, x1⟩ := a1 1 (by omega); obtain ⟨v2, x2⟩ := a1 2 (by omega); obtain ⟨v3, x3⟩ := a1 3 (by omega); obtain ⟨v4, x4⟩ := a1 4 (by omega); obtain ⟨v5, x5⟩ := a1 5 (by omega); obtain ⟨v6, x6⟩ := a1 6 (by omega)
      rw [Nat.add_zero] at x0
      have fz : ∀ i, wr.frozen? ⟨g1, i, none⟩ = false := fun i => frozen_of_row wr g1 i _ _ hc
      clear a1
      have hgr : ∀ u0 u1 u2 u3 u4 u5 u6, wr.grownBy (((((((wr.setCell ⟨g1, j * 7, none⟩ u0).setCell ⟨g1, j * 7 + 1, none⟩ u1).setCell ⟨g1, j * 7 + 2, none⟩ u2).setCell ⟨g1, j * 7 + 3, none⟩ u3).setCell ⟨g1, j * 7 + 4, none⟩ u4).setCell ⟨g1, j * 7 + 5, none⟩ u5).setCell ⟨g1, j * 7 + 6, none⟩ u6) (some g1) := fun u0 u1 u2 u3 u4 u5 u6 =>
        grown_trans (grown_set _ _ _ _) (grown_trans (grown_set _ _ _ _) (grown_trans (grown_set _ _ _ _) (grown_trans (grown_set _ _ _ _) (grown_trans (grown_set _ _ _ _) (grown_trans (grown_set _ _ _ _) (grown_set _ _ _ _))))))
      have hsh : ∀ u0 u1 u2 u3 u4 u5 u6, Shp (((((((wr.setCell ⟨g1, j * 7, none⟩ u0).setCell ⟨g1, j * 7 + 1, none⟩ u1).setCell ⟨g1, j * 7 + 2, none⟩ u2).setCell ⟨g1, j * 7 + 3, none⟩ u3).setCell ⟨g1, j * 7 + 4, none⟩ u4).setCell ⟨g1, j * 7 + 5, none⟩ u5).setCell ⟨g1, j * 7 + 6, none⟩ u6) g1 (n * 7) := fun u0 u1 u2 u3 u4 u5 u6 =>
        shp_set (shp_set (shp_set (shp_set (shp_set (shp_set (shp_set ⟨cur, hc, hcs⟩ _ _) _ _) _ _) _ _) _ _) _ _) _ _
      go_wp2
      go_roundw
      case rel =>
        refine ⟨j + 1, by omega, by go_num, ?_, ?_, ?_, hsh _ _ _ _ _ _ _⟩
        · exact hb.trans (below_of_grown (hgr _ _ _ _ _ _ _) hg1 hb.size)
        · exact ((hgr _ _ _ _ _ _ _).block b2 (heap_lt hv) (fun e => by cases e; omega)).trans hv
        · exact rowG_grown hR (hgr _ _ _ _ _ _ _) (by omega)
      case measure => simp [intOf]; omega
    · have hlt' : ¬ (j : Int) < n := by omega
      clear hc hcs
      go_wp2_with fail
      refine (c1 _ hb).mono ?_
      rintro e w4 ⟨g4, cap4, rfl, hg4, hR4, hb4⟩
      have hv4 := (hb4.block _ (heap_lt hv)).trans hv
      have hbw4 := hb.trans (hb4.mono hb.size)
      have hR5 := rowG_below hR hb4
      have hvc : ∀ o, (w4.alloc o).heap[b2]? = some (.cells #[.int .i64 0, .int .i64 0, .int .i64 0, .int .i64 0, .string ⟨#[]⟩] 27 (0, 0)) := fun o => (((Below.refl w4.heap.size w4).alloc (Nat.le_refl _) o).block _ (heap_lt hv4)).trans hv4
      have f10 : ∀ o, (w4.alloc o).cell? ⟨b2, 0, none⟩ = some (.int .i64 0) := fun o => cell_of_row _ b2 0 _ _ (0, 0) (hvc o)
      have f11 : ∀ o, (w4.alloc o).cell? ⟨b2, 1, none⟩ = some (.int .i64 0) := fun o => cell_of_row _ b2 1 _ _ (0, 0) (hvc o)
      have f12 : ∀ o, (w4.alloc o).cell? ⟨b2, 2, none⟩ = some (.int .i64 0) := fun o => cell_of_row _ b2 2 _ _ (0, 0) (hvc o)
      have f13 : ∀ o, (w4.alloc o).cell? ⟨b2, 3, none⟩ = some (.int .i64 0) := fun o => cell_of_row _ b2 3 _ _ (0, 0) (hvc o)
      have f14 : ∀ o, (w4.alloc o).cell? ⟨b2, 4, none⟩ = some (.string ⟨#[]⟩) := fun o => cell_of_row _ b2 4 _ _ (0, 0) (hvc o)
      clear hb hv hb4 hv4 hR
      go_wp2_with fail
      have hbb := hbw4.alloc hbw4.size (.cells #[.int .i64 0, .int .i64 0, .int .i64 0, .int .i64 0, .string ⟨#[]⟩] 27)
      have hal := (Below.refl w4.heap.size w4).alloc (Nat.le_refl _) (.cells #[.int .i64 0, .int .i64 0, .int .i64 0, .int .i64 0, .string ⟨#[]⟩] 27)
      refine (cs _ g4 cap4 g2 cap2 (rowG_below hR4 hal) (rowG_below hR5 hal)).mono ?_
      rintro e w5 ⟨rfl, hb5⟩
      have hbw5 := hbb.trans (hb5.mono hbb.size)
      clear hbb hb5 f10 f11 f12 f13 f14 hvc hal hR4 hR5
      go_wp2_with fail
      refine (cal _ hbw5).mono ?_
      rintro e w6 ⟨rfl, hb6⟩
      have hbz := hbw5.trans (hb6.mono hbw5.size)
      clear hb6 cal
      go_wp2
      go_ret
      exact ⟨rfl, hbz⟩
theorem good_len1 {t : List UInt8} {off : Nat} {ts : List (Tk × Nat)} (h : Good t off ts) : ts.length + off ≤ t.length + 1 := by
  induction h with
  | @fin off ho h1 h2 => simp; omega
  | @more off len o k ts ho h1 h2 h3 h4 h5 h6 hg ih => simp; omega
theorem scanA_len {t : List UInt8} {ts : List (Tk × Nat)} (h : scanA t = .inl ts) : 0 < ts.length ∧ ts.length < 4294967296 := by
  obtain ⟨hg, hl⟩ := scanA_good h
  have h1 := good_len1 hg
  refine ⟨?_, by omega⟩
  cases hg <;> simp
theorem scans_any (B0 : Nat) (p : Nat → Addr) (s : ByteArray) (w : World) (hE : Env B0 p w) (hF : EnvF B0 p w) (hT : EnvT w) (hs : s.size < 4611686018427387904) :
    Calls Tryz.prog 3 #[.string s] w fun e w' => e = .returned (.bool true) ∧ Below w.heap.size w w' := by
  cases hx : scanA s.data.toList with
  | inr ca => obtain ⟨c, a⟩ := ca; exact scans_bad B0 p s w hE hF hT hs c a hx
  | inl ts =>
    obtain ⟨h1, h2⟩ := scanA_len hx
    exact scans_good B0 p s w hE hF hT hs ts hx h1 h2
end Go.Proofs.YtnmknnkpkkefoaaGreatDoor
