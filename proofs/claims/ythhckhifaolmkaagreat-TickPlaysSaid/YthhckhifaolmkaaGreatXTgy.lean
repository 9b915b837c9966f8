import Derived.Test.YthhckhifaolmkaaGreatXTcu
import Derived.Test.YthhckhifaolmkaaGreatXTca
import Derived.Test.YthhckhifaolmkaaGreatXTce
import Derived.Maps.AppendAt
namespace Go.Proofs.YthhckhifaolmkaaGreat
open Go.RowKit Go.Shelf Go.Sort
set_option linter.unusedVariables false
set_option linter.unusedSimpArgs false

/-! ### Rows that grow: memory -/
structure RwX {α : Type} (k : Nat) (P : α → Nat → Value → Prop) (l : List α) (xs : List Value) : Prop where
  n : xs.length = l.length * k
  at' : ∀ j x, l[j]? = some x → ∀ i, i < k → ∃ u, xs[j * k + i]? = some u ∧ P x i u
theorem RwX.nil {α : Type} (k : Nat) (P : α → Nat → Value → Prop) : RwX k P [] [] := ⟨by simp, fun j x hj => by simp at hj⟩
theorem RwX.mono {α : Type} {k : Nat} {P Q : α → Nat → Value → Prop} {l : List α} {xs : List Value} (h : RwX k P l xs) (hPQ : ∀ x i u, P x i u → Q x i u) : RwX k Q l xs :=
  ⟨h.n, fun j x hj i hi => by obtain ⟨u, h1, h2⟩ := h.at' j x hj i hi; exact ⟨u, h1, hPQ x i u h2⟩⟩
theorem RwX.snoc {α : Type} {k : Nat} {P : α → Nat → Value → Prop} {l : List α} {xs : List Value} (h : RwX k P l xs) (x : α) (cs : List Value) (hc : cs.length = k) (hP : ∀ i, i < k → ∃ u, cs[i]? = some u ∧ P x i u) : RwX k P (l ++ [x]) (xs ++ cs) := by
  refine ⟨by rw [List.length_append, List.length_append, h.n, hc, Nat.add_mul]; simp, fun j y hj i hi => ?_⟩
  by_cases hjl : j < l.length
  · rw [List.getElem?_append_left hjl] at hj
    obtain ⟨u, h1, h2⟩ := h.at' j y hj i hi
    exact ⟨u, by rw [List.getElem?_append_left (List.getElem?_eq_some_iff.1 h1).1]; exact h1, h2⟩
  · have hje : j = l.length := by
      have := (List.getElem?_eq_some_iff.1 hj).1
      simp at this
      omega
    subst hje
    rw [List.getElem?_append_right (Nat.le_refl _), Nat.sub_self] at hj
    have hxy : x = y := by simpa using hj
    subst hxy
    obtain ⟨u, h1, h2⟩ := hP i hi
    refine ⟨u, ?_, h2⟩
    rw [List.getElem?_append_right (by rw [h.n]; omega), h.n]
    rw [show l.length * k + i - l.length * k = i by omega]
    exact h1
theorem RwX.rows {α : Type} {w : World} {base E k : Nat} {P : α → Nat → Value → Prop} {s : Sl} {l : List α} {xs : List Value} (ho : w.ownsRow base E k (.slice s.a s.n s.c) l.length xs) (h : RwX k P l xs) : RowsAt w k P s l := by
  rcases ho.2 with ⟨e, h0⟩ | ⟨g, cap, cur, e, hb, hg, hnc, hcm, hcs, htk⟩
  · injection e with e1 e2 e3
    exact ⟨by rw [e2, h0], by rw [e2]; exact Nat.zero_le _, by rw [e3]; exact Nat.zero_le _, fun j x hj => by have := (List.getElem?_eq_some_iff.1 hj).1; omega⟩
  · injection e with e1 e2 e3
    refine ⟨e2, by rw [e2, e3]; exact hnc, by rw [e3]; exact hcm, fun j x hj => ⟨g, 0, e1, heap_lt hg, fun i hi => ?_⟩⟩
    obtain ⟨u, h1, h2⟩ := h.at' j x hj i hi
    refine ⟨u, ?_, h2⟩
    rw [e1, e2, e3] at ho
    have hlt : j * k + i < l.length * k := by have := (List.getElem?_eq_some_iff.1 h1).1; rw [h.n] at this; exact this
    rw [show 0 + j * k + i = j * k + i by omega, ho.cellAt _ hlt]
    exact h1
theorem own_slk {w : World} {b E k n : Nat} {v : Value} {xs : List Value} (h : w.ownsRow b E k v n xs) : ∃ a cc, v = .slice a n cc := by
  rcases h.2 with ⟨h1, h0⟩ | ⟨g, cap, cur, h1, _⟩
  · exact ⟨none, 0, by rw [h0]; exact h1⟩
  · exact ⟨_, _, h1⟩
theorem cells_new9 (w : World) (cs : Array Value) (t : TypeId) : ∀ j u, cs.toList[j]? = some u → (w.alloc (.cells cs t)).cell? ((⟨w.heap.size, 0, none⟩ : Addr).add j) = some u := fun j u hj => by
  rw [Addr.add_mid9, Nat.zero_add, cell_of_row _ _ j _ _ (0, 0) (heap_alloc_new w _)]
  rw [← Array.getElem?_toList]
  exact hj
/-- A row that lies, over no growing but its own. -/
theorem RowsAt.grown9 {α : Type} {w w' : World} {k : Nat} {P : α → Nat → Value → Prop} {s : Sl} {l : List α} (h : RowsAt w k P s l) (hb : ∀ g, g < w.heap.size → (∃ off, s.a = some ⟨g, off, none⟩) → w'.heap[g]? = w.heap[g]?) (hs : w.heap.size ≤ w'.heap.size) : RowsAt w' k P s l := by
  refine ⟨h.n, h.c, h.m, fun j x hj => ?_⟩
  obtain ⟨g, off, e, hg, hr⟩ := h.row j x hj
  refine ⟨g, off, e, Nat.lt_of_lt_of_le hg hs, fun i hi => ?_⟩
  obtain ⟨u, h1, h2⟩ := hr i hi
  exact ⟨u, by rw [World.cell?_of_block (hb g hg ⟨off, e⟩)]; exact h1, h2⟩
end Go.Proofs.YthhckhifaolmkaaGreat

namespace Go.Proofs.YthhckhifaolmkaaGreat
open Go.RowKit Go.Shelf Go.Sort
set_option linter.unusedVariables false
set_option linter.unusedSimpArgs false

/-! ### The document's Rings -/
theorem rginfo : (Tryz.prog.info? 97).map (fun i => (i.zero, i.size, i.bytes)) = some (some (.agg #[I 0, I 0]), 2, 16) := by kernel_rfl
theorem cap_snoc (l : List TkR) (x : TkR) (p : Int) : capN (l ++ [x]) p = capN l p + if x.prio = p then x.limit else 0 := by
  induction l with
  | nil => simp [capN]
  | cons y r ih => rw [List.cons_append, capN, capN, ih]; omega
theorem cap_take {l : List TkR} {j : Nat} {x : TkR} (h : l[j]? = some x) (p : Int) : capN (l.take (j + 1)) p = capN (l.take j) p + if x.prio = p then x.limit else 0 := by
  rw [List.take_add_one, h, Option.toList_some, cap_snoc]
theorem ringsD_len (ts : List TkR) : ∀ n, (ringsD ts n).length ≤ n
  | 0 => by simp [ringsD]
  | n + 1 => by
    rw [ringsD]
    have := ringsD_len ts n
    split
    · simp; omega
    · omega
set_option maxHeartbeats 8000000 in
set_option maxRecDepth 100000 in
theorem rings_any9 (ts : List TkR) (sp sl : Sl) (w : World) (hp : RowsAt w 1 intP sp (ts.map fun x => x.prio)) (hl : RowsAt w 1 intP sl (ts.map fun x => x.limit)) (hb : ∀ x ∈ ts, 1 ≤ x.limit ∧ x.limit ≤ 255) (hn : ts.length ≤ 256) :
    Calls Tryz.prog 123 #[.slice sp.a sp.n sp.c, .slice sl.a sl.n sl.c] w fun e w' => ∃ s : Sl, e = .returned (.slice s.a s.n s.c) ∧ RowsAt w' 2 rgrP s (ringsD ts 64) ∧ Below w.heap.size w w' := by
  obtain ⟨im, him, hm0, hm1, hm2⟩ := info_parts rginfo
  have HPn : Hid (sp.n = ts.length) := by show _ = _; rw [hp.n, List.length_map]
  have HLn : Hid (sl.n = ts.length) := by show _ = _; rw [hl.n, List.length_map]
  have HSE : Hid (sl.n = sp.n) := HLn.out.trans HPn.out.symm
  have hn2 : sp.n ≤ 256 := by rw [HPn.out]; exact hn
  have hpc : sp.n ≤ sp.c := hp.c
  have hpm : sp.c ≤ maxLen := hp.m
  have hlc : sl.n ≤ sl.c := hl.c
  have hlm : sl.c ≤ maxLen := hl.m
  unfold maxLen at hpm hlm
  have HP : Hid (∀ W, Below w.heap.size w W → RowsAt W 1 intP sp (ts.map fun x => x.prio)) := fun W hW => hp.below hW (fun _ _ _ _ h => h)
  have HL : Hid (∀ W, Below w.heap.size w W → RowsAt W 1 intP sl (ts.map fun x => x.limit)) := fun W hW => hl.below hW (fun _ _ _ _ h => h)
  have HLI : Hid (∀ x ∈ ts, 1 ≤ x.limit ∧ x.limit ≤ 255) := hb
  clear hp hl hb hn
  go_enter Tryz.func123, Tryz.ntmps123
  go_wp2
  go_loopw [5, 6] (fun lv pv wr => ∃ (p : Int) (m : Nat) (a : Option Addr) (c : Nat), -1 ≤ p ∧ p ≤ 63 ∧ pv = .int .i64 p ∧ lv = .slice a m c ∧ Hid ((m : Int) + p ≤ 63 ∧ Below w.heap.size w wr ∧ ∃ L xs, m = L.length ∧ L ++ ringsD ts (p + 1).toNat = ringsD ts 64 ∧ wr.ownsRow w.heap.size 97 2 (.slice a m c) m xs ∧ RwX 2 rgrP L xs)) (fun _ pv _ => (intOf pv + 1).toNat)
  case atStart => exact ⟨63, 0, none, 0, by omega, by omega, rfl, rfl, by omega, Below.refl _ _, [], [], rfl, rfl, World.ownsRow_nil _ _ _ _, RwX.nil _ _⟩
  case round =>
    obtain ⟨p, m, a, c, hp0, hp1, rfl, rfl, HJ⟩ := hrel
    by_cases hlt : 0 ≤ p
    · have HBW : Hid (Below w.heap.size w wr) := HJ.out.2.1
      go_wp2
      go_loopw [7, 8] (fun nv iv wr2 => ∃ (i : Nat) (n : Int), i ≤ sp.n ∧ iv = .int .i64 i ∧ nv = .int .i64 n ∧ wr2 = wr ∧ 0 ≤ n ∧ n ≤ 255 * (i : Int) ∧ Hid (n = capN (ts.take i) p)) (fun _ iv _ => sp.n - (intOf iv).toNat)
      case atStart => exact ⟨0, 0, by omega, rfl, rfl, rfl, by omega, by omega, rfl⟩
      case round =>
        obtain ⟨i, n, hi, rfl, rfl, rfl, hn0, hn1, HI⟩ := hrel
        by_cases hl2 : i < sp.n
        · have hl2' : (i : Int) < sp.n := by omega
          have hl3 : i < sl.n := by rw [HSE.out]; exact hl2
          have hl3' : (i : Int) < sl.n := by omega
          obtain ⟨x, hx⟩ : ∃ x, ts[i]? = some x := ⟨_, List.getElem?_eq_getElem (by rw [← HPn.out]; exact hl2)⟩
          obtain ⟨g5, o5, e5, hg5, b5⟩ := ints_at9 (HP.out _ HBW.out) (j := i) (x := x.prio) (by rw [List.getElem?_map, hx]; rfl)
          obtain ⟨g6, o6, e6, hg6, b6⟩ := ints_at9 (HL.out _ HBW.out) (j := i) (x := x.limit) (by rw [List.getElem?_map, hx]; rfl)
          have HN := cap_take hx p
          rw [← HI.out] at HN
          have HN2 : Hid (capN (ts.take (i + 1)) p = n + if x.prio = p then x.limit else 0) := HN
          have hxl := HLI.out x (List.mem_of_getElem? hx)
          rw [e5, e6]
          clear hx e5 e6 HI HN
          generalize x.prio = xp at *
          generalize x.limit = xl at *
          obtain ⟨hx1, hx2⟩ := hxl
          cases he : (xp == p) with
          | false =>
            have HE : Hid (capN (ts.take (i + 1)) p = n) := by show _ = _; rw [HN2.out, if_neg (by simpa using he)]; omega
            go_wp2
            go_roundw
            case rel => exact ⟨i + 1, n, by omega, by go_num, rfl, trivial, by omega, by omega, HE.out.symm⟩
            case measure => simp [intOf]; omega
          | true =>
            have HE : Hid (capN (ts.take (i + 1)) p = n + xl) := by show _ = _; rw [HN2.out, if_pos (by simpa using he)]
            go_wp2
            go_roundw
            case rel => exact ⟨i + 1, n + xl, by omega, by go_num, by go_num, trivial, by omega, by omega, HE.out.symm⟩
            case measure => simp [intOf]; omega
        · obtain rfl : i = sp.n := by omega
          have hl2' : ¬ ((sp.n : Nat) : Int) < (sp.n : Nat) := by omega
          have HC : Hid (n = capN ts p) := by
            show _ = _
            have := HI.out
            rwa [List.take_of_length_le (by rw [HPn.out]; exact Nat.le_refl _)] at this
          clear HI
          have HPT : Hid ((p + 1).toNat = p.toNat + 1 ∧ ((p.toNat : Nat) : Int) = p ∧ (p - 1 + 1).toNat = p.toNat) := by refine ⟨?_, ?_, ?_⟩ <;> omega
          by_cases hn9 : 0 < n
          · obtain ⟨hmm, hbb, L, xs, hL1, hL2, hL3, hL4⟩ := HJ.out
            have HML : Hid (m = L.length ∧ L ++ ⟨p, n⟩ :: ringsD ts p.toNat = ringsD ts 64) := by
              refine ⟨hL1, ?_⟩
              rw [← hL2, HPT.out.1, ringsD, HPT.out.2.1, ← HC.out, if_pos hn9]
            have HMM : Hid ((m : Int) + p ≤ 63) := hmm
            have HX4 : Hid (RwX 2 rgrP L xs) := hL4
            have hm64 : m ≤ 64 := by omega
            have s7 := hbb.size
            clear HJ hL1 hL2 hL4 hmm
            go_wp2_with (first
              | (at_builtin; refine wpList_append_own _ rfl (.tmp 33) (.tmp 37) 30 rfl w.heap.size 97 im _ 2 16 Tryz.underlying30 him hm0 hm1 hm2 rfl (by decide) _ _ _ rfl (hL3.alloc _) ⟨wr.heap.size, 0, none⟩ 1 1 (#[I p, I n] : Array Value).toList rfl rfl (cells_new9 wr _ _) (fun uu hu => (by simp at hu; rcases hu with e | e <;> (subst e; rfl))) (by unfold maxLen; omega) (by omega) (by simp; omega) ?_))
            intro v8 w8 o8 g8 _
            obtain ⟨a8, k8, rfl⟩ := own_slk o8
            have H9 : Hid (((m + 1 : Nat) : Int) + (p - 1) ≤ 63 ∧ Below w.heap.size w w8 ∧ ∃ L xs, m + 1 = L.length ∧ L ++ ringsD ts (p - 1 + 1).toNat = ringsD ts 64 ∧ w8.ownsRow w.heap.size 97 2 (.slice a8 (m + 1) k8) (m + 1) xs ∧ RwX 2 rgrP L xs) := by
              refine ⟨by have := HMM.out; omega, (hbb.alloc hbb.size _).grown g8 (by simp; omega) (fun k e => (hL3.lt k e).1), L ++ [⟨p, n⟩], xs ++ [I p, I n], by rw [List.length_append, ← HML.out.1]; rfl, by rw [HPT.out.2.2, List.append_assoc]; exact HML.out.2, o8, HX4.out.snoc _ _ rfl (fun i hi => ?_)⟩
              rcases (by omega : i = 0 ∨ i = 1) with e | e <;> (subst e; exact ⟨_, rfl, rfl⟩)
            clear o8 g8 hL3 hbb
            go_wp2
            go_roundw
            case rel => exact ⟨p - 1, m + 1, a8, k8, by omega, by omega, by go_num, rfl, H9.out⟩
            case measure => simp [intOf]; omega
          · have H9 : Hid ((m : Int) + (p - 1) ≤ 63 ∧ Below w.heap.size w wr ∧ ∃ L xs, m = L.length ∧ L ++ ringsD ts (p - 1 + 1).toNat = ringsD ts 64 ∧ wr.ownsRow w.heap.size 97 2 (.slice a m c) m xs ∧ RwX 2 rgrP L xs) := by
              obtain ⟨hmm, hbb, L, xs, hL1, hL2, hL3, hL4⟩ := HJ.out
              refine ⟨by omega, hbb, L, xs, hL1, ?_, hL3, hL4⟩
              rw [← hL2, HPT.out.1, ringsD, HPT.out.2.1, ← HC.out, if_neg hn9, HPT.out.2.2]
            clear HJ
            go_wp2
            go_roundw
            case rel => exact ⟨p - 1, m, a, c, by omega, by omega, by go_num, rfl, H9.out⟩
            case measure => simp [intOf]; omega
    · obtain rfl : p = -1 := by omega
      have HE : Hid (Below w.heap.size w wr ∧ RowsAt wr 2 rgrP ⟨a, m, c⟩ (ringsD ts 64)) := by
        obtain ⟨hmm, hbb, L, xs, hL1, hL2, hL3, hL4⟩ := HJ.out
        have e0 : L = ringsD ts 64 := by rw [← hL2]; show L = L ++ ringsD ts 0; rw [ringsD, List.append_nil]
        subst hL1
        refine ⟨hbb, ?_⟩
        rw [← e0]
        exact hL4.rows hL3
      clear HJ
      go_wp2
      go_ret
      exact ⟨⟨a, m, c⟩, rfl, HE.out.2, HE.out.1⟩
end Go.Proofs.YthhckhifaolmkaaGreat

namespace Go.Proofs.YthhckhifaolmkaaGreat
open Go.RowKit Go.Shelf Go.Sort Go.Maps
set_option linter.unusedVariables false
set_option linter.unusedSimpArgs false

/-! ### Two rows that grow, apart -/
theorem iinfo9t : (Tryz.prog.info? 3).map (fun i => (i.zero, i.size, i.bytes)) = some (some (I 0), 1, 8) := by kernel_rfl
structure Two9 (B E k : Nat) (w : World) (u1 : Value) (n : Nat) (xs : List Value) (u2 : Value) (m : Nat) (ys : List Value) : Prop where
  o1 : w.ownsRow B E k u1 n xs
  o2 : w.ownsRow B E k u2 m ys
  ap : ∀ g, u1.ownBlock = some g → u2.ownBlock ≠ some g
theorem Two9.symm {B E k : Nat} {w : World} {u1 u2 : Value} {n m : Nat} {xs ys : List Value} (h : Two9 B E k w u1 n xs u2 m ys) : Two9 B E k w u2 m ys u1 n xs := ⟨h.o2, h.o1, fun g e e' => h.ap g e' e⟩
theorem Two9.below {B E k : Nat} {w w' : World} {u1 u2 : Value} {n m : Nat} {xs ys : List Value} (h : Two9 B E k w u1 n xs u2 m ys) (hb : Below w.heap.size w w') : Two9 B E k w' u1 n xs u2 m ys := ⟨own_below h.o1 hb, own_below h.o2 hb, h.ap⟩
theorem Two9.left {B E k : Nat} {w w' : World} {u1 u2 u3 : Value} {n m n' : Nat} {xs ys xs' : List Value} (h : Two9 B E k w u1 n xs u2 m ys) (o : w'.ownsRow B E k u3 n' xs') (g : w.grownBy w' u1.ownBlock) (ha : u3.ownBlock = u1.ownBlock ∨ u3.ownBlock = some w.heap.size) : Two9 B E k w' u3 n' xs' u2 m ys := by
  refine ⟨o, h.o2.kept g ?_, fun b e e' => ?_⟩
  · cases e : u2.ownBlock with
    | none => exact .inl rfl
    | some b => exact .inr (fun e' => h.ap b e'.symm e)
  · rcases ha with ha | ha
    · exact h.ap b (ha ▸ e) e'
    · rw [ha] at e
      cases e
      have := (h.o2.lt _ e').2
      omega
theorem Two9.nil {B E k : Nat} {w : World} : Two9 B E k w (.slice none 0 0) 0 [] (.slice none 0 0) 0 [] := ⟨World.ownsRow_nil _ _ _ _, World.ownsRow_nil _ _ _ _, fun g e => by cases e⟩
theorem grown_blk9 {a b : World} {r : Option Nat} (h : a.grownBy b r) {i : Nat} (hi : i < a.heap.size) (hr : some i ≠ r) : b.heap[i]? = a.heap[i]? := by
  obtain ⟨_, _, _, _, h5⟩ := h
  exact h5 i hi hr
theorem take_map9 {α β : Type} (f : α → β) {l : List α} {j : Nat} {x : α} (h : l[j]? = some x) : (l.take (j + 1)).map f = (l.take j).map f ++ [f x] := by
  rw [List.take_add_one, h, Option.toList_some, List.map_append]; rfl
theorem rows_ints9 {w : World} {base n : Nat} {s : Sl} {l : List Int} (hn : n = l.length) (ho : w.ownsRow base 3 1 (.slice s.a s.n s.c) n (l.map fun x => I x)) : RowsAt w 1 intP s l := by
  subst hn
  refine RwX.rows (P := intP) ho ⟨by simp, fun j x hj i hi => ⟨I x, ?_, rfl⟩⟩
  obtain rfl : i = 0 := by omega
  rw [Nat.mul_one, Nat.add_zero, List.getElem?_map, hj]
  rfl
end Go.Proofs.YthhckhifaolmkaaGreat

