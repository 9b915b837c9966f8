import Derived.Test.YtlbgppijeoonjaaGreatDoorTtX
import Derived.Test.YtlbgppijeoonjaaGreatDoorHdb
namespace Go.Proofs.YtlbgppijeoonjaaGreatDoor
open Go.RowKit
set_option linter.unusedVariables false

theorem tokens_c (w : World) (F : Nat → Prop) (t : Tr) (pv : Value) (hO : ObjsAt w F pv t.objs) (hM : (treeT t).length + 20 ≤ 1099511627776) (hol : t.objs.length ≤ 1099511627776) :
    Calls Tryz.prog 18 #[.agg (trC t pv)] w fun e w' => ∃ v, e = .returned v ∧ OwnT w' w.heap.size v (treeT t) ∧ Below w.heap.size w w' := by
  obtain ⟨tv, tc, tobs, tnd, tnt⟩ := t
  have hlen : (objsT tobs).length + 20 ≤ 1099511627776 := by
    unfold treeT at hM
    simp at hM
    omega
  have fin : ∀ (e : Ending) (w' : World), (∃ v, e = .returned v ∧ OwnT w' w.heap.size v ([zN oilV, zM 6, ⟨3, tv, 0, false⟩, zM 7, zN cpuW, zN tc, zM 4] ++ objsT tobs ++ [zM 5] ++ notedT tnd tnt) ∧ Below w.heap.size w w') → ∃ v, e = .returned v ∧ OwnT w' w.heap.size v (treeT ⟨tv, tc, tobs, tnd, tnt⟩) ∧ Below w.heap.size w w' := by
    rintro e w' ⟨v, e1, e2, e3⟩
    exact ⟨v, e1, own_eq (by unfold treeT; simp) e2, e3⟩
  dsimp only at hO hol
  unfold trC
  dsimp only
  generalize hl : tobs = l at *
  cases hO with
  | @nil a cap => exact (tokens_any w F tv tc tnd tnt a cap 0 [] rfl (fun j q h => by simp at h) (fun q h => by cases h) (by omega) (by simp [objsT])).mono fin
  | @row g off cap qs hFg hg hc hcap hA =>
    refine (tokens_any w F tv tc tnd tnt (some ⟨g, off, none⟩) cap qs.length qs rfl (fun j q hq => ⟨g, off, rfl, hg, fun i u hi hu => ?_⟩) hA (by simpa using hol) hlen).mono fin
    rw [Nat.add_assoc]
    exact hc _ _ ((rowsO_at qs j q hq i hi).trans hu)
/-- The k-th gap. -/
def gapAt (gaps : List Int) (j : Nat) : Nat := gapK (if gaps = [] then 0 else gaps.getD (j % gaps.length) 0)
theorem gap_len (k : Nat) : (gapL k).length ≤ 17 := by
  unfold gapL
  split
  · simp
  split
  · simp
  split
  · simp
  split
  · simp
  split <;> simp
theorem say_len (g : Nat → Nat) (xs : List Tz) (h : ∀ x, x ∈ xs → x.val < 4294967296) : ∀ i, (sayF g i xs).length ≤ xs.length * 529 := by
  induction xs with
  | nil => intro i; simp [sayF]
  | cons x r ih =>
    intro i
    have h1 := ih (fun y hy => h y (by simp [hy])) (i + 1)
    have h2 := gap_len (g i)
    have h3 : ((spz x).getD []).length ≤ 512 := by
      cases hs : spz x with
      | none => simp
      | some b => exact spz_len hs (h x (by simp))
    rw [sayF]
    simp
    omega
end Go.Proofs.YtlbgppijeoonjaaGreatDoor

namespace Go.Proofs.YtlbgppijeoonjaaGreatDoor
open Go.RowKit
set_option linter.unusedVariables false

theorem appz (a b : List UInt8) : (⟨a.toArray⟩ : ByteArray) ++ ⟨b.toArray⟩ = ⟨(a ++ b).toArray⟩ := (same_bytes _ _ (by simp [ByteArray.data_append])).symm
theorem say_step (g : Nat → Nat) (xs : List Tz) (j : Nat) (x : Tz) (b : List UInt8) (hx : xs[j]? = some x) (hb : spz x = some b) : sayF g 0 (xs.take (j + 1)) = sayF g 0 (xs.take j) ++ (b ++ gapL (g j)) := by
  have hj : j < xs.length := (List.getElem?_eq_some_iff.1 hx).1
  rw [List.take_add_one, hx]
  show sayF g 0 (xs.take j ++ [x]) = _
  rw [say_snoc, hb, Option.getD_some, Nat.zero_add, List.length_take, Nat.min_eq_left (by omega)]
theorem say_more {xs : List Tz} {j : Nat} {x : Tz} {b : List UInt8} (hx : xs[j]? = some x) (hb : spz x = some b) (h : Say (xs.take j)) : Say (xs.take (j + 1)) := by
  rw [List.take_add_one, hx]
  intro y hy
  rcases List.mem_append.1 hy with h1 | h1
  · exact h y h1
  · simp at h1
    subst h1
    rw [hb]
    exact fun h => by cases h
set_option maxHeartbeats 8000000 in
set_option maxRecDepth 100000 in
theorem reads_any (B0 : Nat) (p : Nat → Addr) (w : World) (hE : Env B0 p w) (hF : EnvF B0 p w) (t : Tr) (pv : Value) (hO : ObjsAt w (fun _ => True) pv t.objs) (hol : t.objs.length ≤ 1099511627776) (hfit : t.fits) (hof : ∀ o, o ∈ t.objs → o.fits ∧ NumB o.attrs) (hM : (treeT t).length + 20 ≤ 1099511627776)
    (gaps : List Int) (ga : Option Addr) (gc : Nat) (hgl : gaps.length ≤ 17592186043904) (hG : gaps ≠ [] → ∃ gp op, ga = some ⟨gp, op, none⟩ ∧ gp < w.heap.size ∧ ∀ k i, gaps[k]? = some i → w.cell? ⟨gp, op + k, none⟩ = some (.int .i64 i)) :
    Calls Tryz.prog 5 #[.agg (trC t pv), .slice ga gaps.length gc] w fun e w' => e = .returned (.bool true) ∧ Below w.heap.size w w' := by
  have ch : ∀ W, Below w.heap.size w W → Calls Tryz.prog 14 #[] W fun e w' => e = .returned (.bool true) ∧ Below W.heap.size W w' := fun W hW =>
    heads_any B0 p W (hE.below (hW.mono hE.size)) (hF.below hE (hW.mono hE.size))
  have cP : ∀ W (l : List UInt8), Below w.heap.size w W → l.length < 4611686018427387904 → Calls Tryz.prog 21 #[.string ⟨l.toArray⟩] W fun e w' => PsPost W (parseL l) e w' := fun W l hW hl => by
    have := Parse_any B0 p ⟨l.toArray⟩ W (hE.below (hW.mono hE.size)) (hF.below hE (hW.mono hE.size)) (by simpa [ByteArray.size] using hl)
    simpa using this
  have cT : ∀ W, Below w.heap.size w W → Calls Tryz.prog 18 #[.agg (trC t pv)] W fun e w' => ∃ v, e = .returned v ∧ OwnT w' W.heap.size v (treeT t) ∧ Below W.heap.size W w' := fun W hW =>
    tokens_c W (fun _ => True) t pv (objsAt_move hW.size (fun g hF hl => ⟨hW.block g hl, hF⟩) hO) hM hol
  have hkv := tree_kv t hfit hof
  have hne : treeT t ≠ [] := by unfold treeT; simp
  have cE : ∀ (t' : Tr) (W : World) (F' : Nat → Prop) (pv' : Value), SmT t t' → Below w.heap.size w W → ObjsAt W F' pv' t'.objs → Calls Tryz.prog 22 #[.agg (trC t pv), .agg (trC t' pv'), .bool false] W fun e w' => e = .returned (.bool true) ∧ Below W.heap.size W w' := fun t' W F' pv' hs hW h' =>
    same_any W false t t' pv pv' (fun _ => True) F' (objsAt_move hW.size (fun g hF hl => ⟨hW.block g hl, hF⟩) hO) h' hs.1 hs.2.1 hs.2.2.1 hs.2.2.2.1 hs.2.2.2.2.1 hs.2.2.2.2.2
  have cR : ∀ g : Nat → Nat, Say (treeT t) → (sayF g 0 (treeT t)).length ≤ 262144 → ∃ t', parseL (sayF g 0 (treeT t)) = .inl t' ∧ SmT t t' := fun g hS hl => reads_parse t g hS (fun x hx => ⟨(hkv x hx).1, (hkv x hx).2.1⟩) hl
  have hsl : ∀ (g : Nat → Nat) j, (sayF g 0 ((treeT t).take j)).length ≤ 600000000000000 := fun g j => by
    have := say_len g ((treeT t).take j) (fun x hx => by have := (hkv x (List.mem_of_mem_take hx)).2.1; omega) 0
    rw [List.length_take] at this
    omega
  obtain ⟨oa, on, oc, rfl⟩ := objsAt_shape hO
  clear hE hF hO hof hfit hol
  obtain ⟨n, hn⟩ : ∃ n, gaps.length = n := ⟨_, rfl⟩
  have HN : Hid (gaps.length = n) := hn
  rw [hn] at hgl ⊢
  clear hn
  have hM2 : (treeT t).length ≤ 1099511627776 := by omega
  clear hM
  generalize treeT t = xs at *
  obtain ⟨tv, tc, tobs, tnd, tnt⟩ := t
  unfold trC at cT cE ⊢
  dsimp only at cT cE ⊢
  go_enter Tryz.func5, Tryz.ntmps5
  go_wp2_with fail
  have hV0 := heap_alloc_new w (.cells #[.string ⟨tv.toArray⟩, .string ⟨tc.toArray⟩, .slice oa on oc, .bool tnd, .string ⟨tnt.toArray⟩] 24)
  have hB0 := (Below.refl w.heap.size w).alloc (Nat.le_refl _) (.cells #[.string ⟨tv.toArray⟩, .string ⟨tc.toArray⟩, .slice oa on oc, .bool tnd, .string ⟨tnt.toArray⟩] 24)
  generalize w.alloc (.cells #[.string ⟨tv.toArray⟩, .string ⟨tc.toArray⟩, .slice oa on oc, .bool tnd, .string ⟨tnt.toArray⟩] 24) = W0 at *
  refine (cT W0 hB0).mono ?_
  rintro e w1 ⟨tkv, rfl, hOwn, hb1⟩
  have hV1 := (hb1.block _ (heap_lt hV0)).trans hV0
  have hB1 := hB0.trans (hb1.mono hB0.size)
  rcases own_cells hOwn with ⟨_, h0⟩ | ⟨gg, cap, rfl, hc⟩
  · exact absurd h0 hne
  have hgg : gg < w1.heap.size := (hOwn.lt gg rfl).2
  have hcell : ∀ j x, xs[j]? = some x → ∀ i u, i < 7 → (tpL ⟨x, 0, 0, 0⟩)[i]? = some u → w1.cell? ⟨gg, j * 7 + i, none⟩ = some u := fun j x hx i u hi hu => by
    have h1 := tps_at (xs.map fun z => ⟨z, 0, 0, 0⟩) j ⟨x, 0, 0, 0⟩ (by rw [List.getElem?_map, hx]; rfl) i hi
    have h2 := hc (j * 7 + i) u (h1.trans hu)
    rw [Lib.add_plain, Nat.zero_add] at h2
    exact h2
  clear hOwn hc hb1 hV0 hB0 cT
  obtain ⟨M, hM⟩ : ∃ M, xs.length = M := ⟨_, rfl⟩
  have HM : Hid (xs.length = M) := hM
  rw [hM] at hM2
  rw [hM]
  have hM3 : (M : Int) ≤ 9223372036854775807 := by omega
  clear hM
  go_wp2
  go_loopw [7, 6] (fun i s wr => ∃ j : Nat, j ≤ M ∧ i = .int .i64 j ∧ s = .string ⟨(sayF (gapAt gaps) 0 (xs.take j)).toArray⟩ ∧ Say (xs.take j) ∧ Below w1.heap.size w1 wr) (fun i _ _ => M - (intOf i).toNat)
  case atStart => exact ⟨0, by omega, rfl, rfl, (fun x hx => by simp at hx), Below.refl _ _⟩
  case round =>
    obtain ⟨j, hj, rfl, rfl, hSy, hb⟩ := hrel
    have hBr := hB1.trans (hb.mono hB1.size)
    by_cases hlt : j < M
    · have hlt' : (j : Int) < M := by omega
      have hj0 : (0 : Int) ≤ j := by omega
      obtain ⟨x, hx⟩ : ∃ x, xs[j]? = some x := ⟨xs[j]'(by rw [HM.out]; exact hlt), List.getElem?_eq_getElem _⟩
      have hok := hkv x (List.mem_of_getElem? hx)
      have hxc : ∀ i u, i < 7 → (tpL ⟨x, 0, 0, 0⟩)[i]? = some u → wr.cell? ⟨gg, j * 7 + i, none⟩ = some u := fun i u hi hu => by
        rw [cell_below hb _ _ hgg]
        exact hcell j x hx i u hi hu
      have y0 : wr.cell? ⟨gg, j * 7, none⟩ = some (.int .i64 x.kind) := hxc 0 _ (by omega) rfl
      have y1 : wr.cell? ⟨gg, j * 7 + 1, none⟩ = some (.int .i64 0) := hxc 1 _ (by omega) rfl
      have y2 : wr.cell? ⟨gg, j * 7 + 2, none⟩ = some (.int .i64 0) := hxc 2 _ (by omega) rfl
      have y3 : wr.cell? ⟨gg, j * 7 + 3, none⟩ = some (.int .i64 0) := hxc 3 _ (by omega) rfl
      have y4 : wr.cell? ⟨gg, j * 7 + 4, none⟩ = some (.string ⟨x.text.toArray⟩) := hxc 4 _ (by omega) rfl
      have y5 : wr.cell? ⟨gg, j * 7 + 5, none⟩ = some (.int .u32 (x.val : Int)) := hxc 5 _ (by omega) rfl
      have y6 : wr.cell? ⟨gg, j * 7 + 6, none⟩ = some (.bool x.hex) := hxc 6 _ (by omega) rfl
      have cS := rSpell_any x 0 0 0 wr ⟨by have := hok.2.1; omega, hok.2.2⟩
      unfold tzV tzC spV2 at cS
      have hs1 := hsl (gapAt gaps) j
      cases hsp : spz x with
      | none =>
        rw [hsp] at cS
        dsimp only at cS
        clear hxc hcell hkv hx hok
        go_wp2_with (first | (go_at_call 19; refine cS.mono ?_; rintro e w2 ⟨rfl, hb2⟩; have hB2 := hBr.trans (hb2.mono hBr.size)) | (go_at_call 14; refine (ch _ hB2).mono ?_; rintro e w3 ⟨rfl, hb3⟩))
        go_ret
        exact ⟨rfl, hB2.trans (hb3.mono hB2.size)⟩
      | some b =>
        rw [hsp] at cS
        dsimp only at cS
        have HST : Hid (sayF (gapAt gaps) 0 (xs.take (j + 1)) = sayF (gapAt gaps) 0 (xs.take j) ++ (b ++ gapL (gapAt gaps j))) := say_step _ _ _ _ _ hx hsp
        have HSM : Hid (Say (xs.take (j + 1))) := say_more hx hsp hSy
        have hbl := spz_len hsp (by have := hok.2.1; omega)
        have hgpl := gap_len (gapAt gaps j)
        have HGA : Hid (gapAt gaps j = gapK (if gaps = [] then 0 else gaps.getD (j % gaps.length) 0)) := rfl
        clear hxc hcell hkv hx hok
        generalize sayF (gapAt gaps) 0 (xs.take j) = s0 at *
        have hl1 : ¬ 9223372036854775807 < s0.length + b.length := by omega
        have hl2 : ∀ k, ¬ 9223372036854775807 < s0.length + b.length + (gapL k).length := fun k => by have := gap_len k; omega
        have hl3 : ∀ k, ¬ 9223372036854775807 < s0.length + (b.length + (gapL k).length) := fun k => by have := gap_len k; omega
        have ha1 := appz s0 b
        have ha2 := fun k => appz (s0 ++ b) (gapL k)
        by_cases hg0 : gaps = []
        · have hn0 : ¬ (0 : Int) < n := by have := HN.out; rw [hg0] at this; simp at this; omega
          have HGB : Hid (gapAt gaps j = gapK 0) := by show _ = _; rw [HGA.out, if_pos hg0]
          clear hG HGA
          go_wp2_with (first | (go_at_call 19; refine cS.mono ?_; rintro e w2 ⟨rfl, hb2⟩; have hB2 := hb.trans (hb2.mono hb.size)) | (go_at_call 20; refine (gap_c _ _).mono ?_; rintro e w3 ⟨rfl, hb3⟩; have hB3 := hB2.trans (hb3.mono hB2.size)))
          go_roundw
          case rel => exact ⟨j + 1, by omega, by go_num, by rw [HST.out, HGB.out], HSM.out, hB3⟩
          case measure => simp [intOf]; omega
        · have hnp : 0 < n := by have := HN.out; have := List.length_pos_iff.2 hg0; omega
          have hn0 : (0 : Int) < n := by omega
          have hn1 : ¬ (n : Int) = 0 := by omega
          obtain ⟨gp, op, rfl, hgp, hgc⟩ := hG hg0
          obtain ⟨m, hm⟩ : ∃ m, m = j % n := ⟨_, rfl⟩
          have hmn : m < n := by rw [hm]; exact Nat.mod_lt _ hnp
          have hmod : (j : Int).tmod (n : Int) = (m : Int) := by rw [hm]; rfl
          have hm0 : (0 : Int) ≤ m := by omega
          have hmlt : (m : Int) < n := by omega
          have hnm : (n : Int) ≤ 17592186043904 := by omega
          obtain ⟨gi, hgi⟩ : ∃ gi, gaps[m]? = some gi := ⟨gaps[m]'(by rw [HN.out]; exact hmn), List.getElem?_eq_getElem _⟩
          have hgl2 : gp < w1.heap.size := Nat.lt_of_lt_of_le hgp hB1.size
          have hcg : wr.cell? ⟨gp, op + m, none⟩ = some (.int .i64 gi) := by
            rw [cell_below hb _ _ hgl2, cell_below hB1 _ _ hgp]
            exact hgc m gi hgi
          have HGB : Hid (gapAt gaps j = gapK gi) := by
            show _ = _
            rw [HGA.out, if_neg hg0, HN.out, ← hm, List.getD_eq_getElem?_getD, hgi]
            rfl
          have HMM : Hid (m = j % n) := hm
          clear hG HGA hm hgi hgc
          go_wp2_with (first | (go_at_call 19; refine cS.mono ?_; rintro e w2 ⟨rfl, hb2⟩; have hB2 := hb.trans (hb2.mono hb.size); have hcg := (cell_below hb2 _ _ (Nat.lt_of_lt_of_le hgl2 hb.size)).trans hcg) | (go_at_call 20; refine (gap_c _ _).mono ?_; rintro e w3 ⟨rfl, hb3⟩; have hB3 := hB2.trans (hb3.mono hB2.size)))
          go_roundw
          case rel => exact ⟨j + 1, by omega, by go_num, by rw [HST.out, HGB.out], HSM.out, hB3⟩
          case measure => simp [intOf]; omega
    · have hlt' : ¬ (j : Int) < M := by omega
      obtain rfl : j = M := by omega
      rw [List.take_of_length_le (by rw [HM.out]; exact Nat.le_refl _)] at hSy
      have hs1 := hsl (gapAt gaps) xs.length
      rw [List.take_length] at hs1
      rw [List.take_of_length_le (by rw [HM.out]; exact Nat.le_refl _)]
      have hpl := cP wr (sayF (gapAt gaps) 0 xs) hBr (by omega)
      have hrd := cR (gapAt gaps) hSy
      have hVr := (hb.block _ (heap_lt hV1)).trans hV1
      clear cR cP hSy hsl hkv hcell hG
      generalize sayF (gapAt gaps) 0 xs = s0 at *
      by_cases hlong : 262144 < s0.length
      · have hlong' : (262144 : Int) < s0.length := by omega
        have hbad : parseL s0 = .inr (24, 0, (lineN s0 0 : Int), (colN s0 0 : Int)) := by
          unfold parseL scanA
          rw [if_pos hlong]
          rfl
        rw [hbad] at hpl
        unfold PsPost at hpl
        dsimp only at hpl
        generalize (lineN s0 0 : Int) = ln at *
        generalize (colN s0 0 : Int) = cn at *
        unfold zeroT at hpl
        clear hrd hbad
        go_wp2_with (first | (go_at_call 21; refine hpl.mono ?_; rintro e w2 ⟨rfl, hb2⟩; have hB2 := hBr.trans (hb2.mono hBr.size)) | (go_at_call 14; refine (ch _ ((hB2.alloc hB2.size _).alloc (by simp; have := hB2.size; omega) _)).mono ?_; rintro e w3 ⟨rfl, hb3⟩))
        go_ret
        have hB3 := (hB2.alloc hB2.size (.cells #[.string ⟨#[]⟩, .string ⟨#[]⟩, .slice none 0 0, .bool false, .string ⟨#[]⟩] 24)).alloc (by simp; have := hB2.size; omega) (.cells #[.int .i64 24, .int .i64 0, .int .i64 ln, .int .i64 cn, .string ⟨#[]⟩] 60)
        exact ⟨rfl, hB3.trans (hb3.mono hB3.size)⟩
      · have hlong' : ¬ (262144 : Int) < s0.length := by omega
        obtain ⟨t', hp, hs⟩ := hrd (by omega)
        rw [hp] at hpl
        unfold PsPost at hpl
        dsimp only at hpl
        have cE2 := fun W F' pv' => cE t' W F' pv' hs
        clear hrd hp hs cE
        obtain ⟨tv2, tc2, tobs2, tnd2, tnt2⟩ := t'
        unfold trC zero5 at hpl
        dsimp only at hpl cE2
        go_wp2_with fail
        refine hpl.mono ?_
        rintro e w2 ⟨pv2, rfl, hO2, hb2⟩
        obtain ⟨pa2, pn2, pc2, rfl⟩ := objsAt_shape hO2
        have hB2 := hBr.trans (hb2.mono hBr.size)
        have hV2 := (hb2.block _ (heap_lt hVr)).trans hVr
        have hal := ((Below.refl w2.heap.size w2).alloc (Nat.le_refl _) (.cells #[.string ⟨tv2.toArray⟩, .string ⟨tc2.toArray⟩, .slice pa2 pn2 pc2, .bool tnd2, .string ⟨tnt2.toArray⟩] 24)).alloc (by simp) (.cells #[.int .i64 0, .int .i64 0, .int .i64 0, .int .i64 0, .string ⟨#[]⟩] 60)
        have hu3 := heap2_0' w2 (.cells #[.string ⟨tv2.toArray⟩, .string ⟨tc2.toArray⟩, .slice pa2 pn2 pc2, .bool tnd2, .string ⟨tnt2.toArray⟩] 24) (.cells #[.int .i64 0, .int .i64 0, .int .i64 0, .int .i64 0, .string ⟨#[]⟩] 60)
        have hf3 := heap2_1' w2 (.cells #[.string ⟨tv2.toArray⟩, .string ⟨tc2.toArray⟩, .slice pa2 pn2 pc2, .bool tnd2, .string ⟨tnt2.toArray⟩] 24) (.cells #[.int .i64 0, .int .i64 0, .int .i64 0, .int .i64 0, .string ⟨#[]⟩] 60)
        have hV3 := (hal.block _ (heap_lt hV2)).trans hV2
        have hO3 := objsAt_move hal.size (fun g hF hl => ⟨hal.block g hl, hF⟩) hO2
        have hB3 := hB2.trans (hal.mono hB2.size)
        clear hal hO2 hV2 hVr hb2 hpl
        obtain ⟨⟨a0, a1, a2, a3, a4⟩, _⟩ := var5 hV3
        obtain ⟨⟨b0, b1, b2, b3, b4⟩, _⟩ := var5 hu3
        go_wp2_with fail
        clear a0 a1 a2 a3 a4 b0 b1 b2 b3 b4
        generalize ((w2.alloc (.cells #[.string ⟨tv2.toArray⟩, .string ⟨tc2.toArray⟩, .slice pa2 pn2 pc2, .bool tnd2, .string ⟨tnt2.toArray⟩] 24)).alloc (.cells #[.int .i64 0, .int .i64 0, .int .i64 0, .int .i64 0, .string ⟨#[]⟩] 60)) = w3 at *
        refine (cE2 w3 _ _ hB3 hO3).mono ?_
        rintro e w4 ⟨rfl, hb4⟩
        have hf4 := (hb4.block _ (heap_lt hf3)).trans hf3
        have hB4 := hB3.trans (hb4.mono hB3.size)
        obtain ⟨⟨a0, a1, a2, a3, a4⟩, _⟩ := var5 hf4
        clear hb4 hB3 hf3 hu3 hV3 hO3 cE2
        go_wp2_with fail
        refine (ch w4 hB4).mono ?_
        rintro e w5 ⟨rfl, hb5⟩
        have hB5 := hB4.trans (hb5.mono hB4.size)
        clear hb5 hB4 a0 a1 a2 a3 a4 ch hf4
        go_wp2
        go_ret
        exact ⟨rfl, hB5⟩
end Go.Proofs.YtlbgppijeoonjaaGreatDoor

