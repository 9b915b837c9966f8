import Derived.Test.YtpoekphebmonnabUop
import Derived.Maps.AppendAt
namespace Go.Proofs.Ytpoekphebmonnab
open Go.RowKit Go.Shelf Go.Sort
set_option linter.unusedVariables false
set_option linter.unusedSimpArgs false

/-! ### Coming -/
theorem einfo : (Try.prog.info? 63).map (fun i => (i.zero, i.size, i.bytes)) = some (some (.agg #[.int .u64 0, .int .i64 0]), 2, 16) := by kernel_rfl
def flE : List (Nat × Nat) → List Value
  | [] => []
  | x :: r => Q x.1 :: I x.2 :: flE r
theorem flE_len (l : List (Nat × Nat)) : (flE l).length = l.length * 2 := by
  induction l with
  | nil => rfl
  | cons x r ih => simp only [flE, List.length_cons, ih]; omega
theorem flE_app (a b : List (Nat × Nat)) : flE (a ++ b) = flE a ++ flE b := by
  induction a with
  | nil => rfl
  | cons x r ih => simp only [List.cons_append, flE, ih]
theorem flE_take : ∀ (l : List (Nat × Nat)) (m : Nat), flE (l.take m) = (flE l).take (m * 2)
  | [], m => by simp [flE]
  | x :: r, 0 => by simp [flE]
  | x :: r, m + 1 => by rw [show (m + 1) * 2 = m * 2 + 2 by omega]; simp only [List.take_succ_cons, flE, flE_take r m]
theorem flE_at : ∀ {l : List (Nat × Nat)} {i : Nat} {x : Nat × Nat}, l[i]? = some x → (flE l)[i * 2]? = some (Q x.1) ∧ (flE l)[i * 2 + 1]? = some (I x.2)
  | [], i, x, h => by simp at h
  | y :: r, 0, x, h => by simp at h; subst h; exact ⟨rfl, rfl⟩
  | y :: r, i + 1, x, h => by
    rw [show (i + 1) * 2 = i * 2 + 2 by omega]
    exact flE_at (l := r) (by simpa using h)
theorem own_take {w : World} {b e k n m c : Nat} {a : Option Addr} {xs : List Value} (h : w.ownsRow b e k (.slice a n c) n xs) (hm : m ≤ n) : w.ownsRow b e k (.slice a m c) m (xs.take (m * k)) := by
  obtain ⟨hl, h0 | ⟨g, cap, cur, hv, hb1, hh, hnc, hcm, hcs, ht⟩⟩ := h
  · obtain ⟨h1, rfl⟩ := h0
    obtain rfl : m = 0 := by omega
    cases h1
    exact ⟨by simp, .inl ⟨rfl, rfl⟩⟩
  · cases hv
    have hmk : m * k ≤ n * k := Nat.mul_le_mul_right _ hm
    refine ⟨by rw [List.length_take, hl]; omega, .inr ⟨g, c, cur, rfl, hb1, hh, by omega, hcm, hcs, ?_⟩⟩
    rw [← ht, List.take_take, Nat.min_eq_left hmk]
theorem own_cap {w : World} {b e k n c : Nat} {a : Option Addr} {xs : List Value} (h : w.ownsRow b e k (.slice a n c) n xs) : n ≤ c := by
  rcases h.2 with ⟨h1, rfl⟩ | ⟨g, cap, cur, hv, _, _, hnc, _⟩
  · omega
  · cases hv; exact hnc
def posN (m : Int) : Nat := m.toNat
theorem max_zero (ats : Array TypeId) (ty : TypeId) (m : Int) : Builtin.max_ ats ty #[.int .i64 m, .int .i64 0] = pure (.int .i64 ((posN m : Nat) : Int)) := by
  show (do let s ← Builtin.max2 (.int .i64 m) (.int .i64 0); pure s : Sem Value) = _
  simp only [Builtin.max2]
  show (pure _ : Sem Value) = _
  congr 2
  unfold posN
  split <;> omega
theorem min_lit (ats : Array TypeId) (ty : TypeId) (k : IntKind) (a : Nat) : Builtin.min_ ats ty #[.int k (a : Int), .int k 65536] = pure (.int k ((mnN a 65536 : Nat) : Int)) := min_two ats ty k a 65536
attribute [local go_sem 5000] min_two max_zero
attribute [local go_sem 6000] min_lit
def slN : Value → Nat
  | .slice _ n _ => n
  | _ => 0
structure CmI (w wr : World) (n G N : Nat) (D0 : List Dal) (v5 : Value) (inn : Nat) (told : List (Nat × Nat)) (al : List Alm) : Prop where
  t : wr.ownsRow (w.heap.size + 1) 63 2 v5 told.length (flE told)
  a : wr.ownsRow w.heap.size 79 2 (.slice (some ⟨w.heap.size, 0, none⟩) n n) n (flP al)
  n : n = al.length
  x : AlOK G al
  b : Below w.heap.size w wr
  s : w.heap.size + 1 ≤ wr.heap.size
  d : ∃ D, AtT inn al D ∧ ∀ m, told.length ≤ m → dseq m D0 = told ++ dseq (m - told.length) D
  l : told.length ≤ N + 64
  i : inn ≤ told.length * 4294967296
  gb : G ≤ 2147483647
theorem CmI.below {w wr wz : World} {n G N inn : Nat} {D0 : List Dal} {v5 : Value} {told : List (Nat × Nat)} {al : List Alm} (h : CmI w wr n G N D0 v5 inn told al) (hb : Below wr.heap.size wr wz) : CmI w wz n G N D0 v5 inn told al :=
  ⟨own_below h.t hb, own_below h.a hb, h.n, h.x, h.b.trans (hb.mono h.b.size), Nat.le_trans h.s hb.size, h.d, h.l, h.i, h.gb⟩
theorem CmI.done {w wr : World} {n G N inn : Nat} {D0 : List Dal} {v5 : Value} {told : List (Nat × Nat)} {al : List Alm} (h : CmI w wr n G N D0 v5 inn told al) (hd : N ≤ told.length ∨ soonL al = nvr) : told.take (mnN told.length N) = dseq N D0 := by
  obtain ⟨D, h1, h2⟩ := h.d
  have hmn : mnN told.length N = min told.length N := rfl
  rw [hmn]
  by_cases hl : N ≤ told.length
  · rw [Nat.min_eq_right hl, ← dseq_take N told.length D0 hl, h2 told.length (Nat.le_refl _), Nat.sub_self]
    simp [dseq]
  · have hn : soonL al = nvr := by omega
    have hz : ∀ x ∈ al, x.1 = 0 := fun x hx => by
      by_cases h0 : x.1 = 0
      · exact h0
      · have h3 := soon_le x hx h0
        have h4 := h.x x hx
        rw [hn] at h3
        have hG : x.1 ≤ G + 1 := h4.1
        exact absurd h3 (by have := h.gb; unfold nvr; omega)
    rw [Nat.min_eq_left (by omega), List.take_length, h2 N (by omega), h1.nil hz]
    simp
theorem CmI.next {w wr w' : World} {n G N inn : Nat} {D0 : List Dal} {v5 v' : Value} {told : List (Nat × Nat)} {al : List Alm} (h : CmI w wr n G N D0 v5 inn told al) (hlt : told.length < N) (hs : soonL al ≠ nvr)
    (ht : w'.ownsRow (w.heap.size + 1) 63 2 v' (told ++ (dueF (soonL al) 0 al).map fun i => (inn + soonL al, i)).length (flE (told ++ (dueF (soonL al) 0 al).map fun i => (inn + soonL al, i))))
    (ha : w'.ownsRow w.heap.size 79 2 (.slice (some ⟨w.heap.size, 0, none⟩) n n) n (flP (al.map (psA (soonL al))))) (hb : Below w.heap.size w w') (hz : w.heap.size + 1 ≤ w'.heap.size) (hl : al.length ≤ 64) :
    CmI w w' n G N D0 v' (inn + soonL al) (told ++ (dueF (soonL al) 0 al).map fun i => (inn + soonL al, i)) (al.map (psA (soonL al))) ∧ told.length < (told ++ (dueF (soonL al) 0 al).map fun i => (inn + soonL al, i)).length := by
  obtain ⟨D, h1, h2⟩ := h.d
  obtain ⟨D', h3, h4⟩ := h1.run soon_pos soon_le
  obtain ⟨x, hx, hx0, hx1⟩ := soon_mem hs
  have hp := dueF_pos (t := soonL al) al 0 ⟨x, hx, hx0, hx1⟩
  have hpl : 1 ≤ (dueF (soonL al) 0 al).length := by
    cases hq : dueF (soonL al) 0 al with
    | nil => exact absurd hq hp
    | cons a r => simp
  have hdl := dueF_len (t := soonL al) al 0
  have hxG := (h.x x hx).1
  have hG := h.gb
  refine ⟨⟨ht, ha, by rw [List.length_map]; exact h.n, h.x.ps _, hb, hz, ⟨D', h3, fun m hm => ?_⟩, ?_, ?_, h.gb⟩, ?_⟩
  · rw [List.length_append, List.length_map] at hm
    rw [h2 m (by omega), h4, List.take_of_length_le (by rw [List.length_map]; omega), List.length_append, List.length_map, List.append_assoc]
    congr 3
    omega
  · rw [List.length_append, List.length_map]; omega
  · rw [List.length_append, List.length_map, Nat.add_mul]
    have := h.i
    omega
  · rw [List.length_append, List.length_map]; omega
theorem cell_two_new (w : World) (a b : Value) (t : TypeId) : ∀ (j : Nat) (u : Value), [a, b][j]? = some u → (w.alloc (.cells #[a, b] t)).cell? ((⟨w.heap.size, 0, none⟩ : Addr).add j) = some u := by
  intro j u hu
  rw [addr_add, cell_of_row _ _ _ _ _ (0, 0) (heap_alloc_new w _)]
  match j, hu with
  | 0, hu => cases hu; rfl
  | 1, hu => cases hu; rfl
set_option maxHeartbeats 16000000 in
set_option maxRecDepth 100000 in
theorem Coming_any {w : World} {B G L V : Nat} {v : Value} {al0 : List Alm} (h : Ck w B v G L V al0) (most : Int) : Calls Try.prog 27 #[cP B, I most] w fun e w' => ∃ a c, e = .returned (.slice a (dseq (mnN (posN most) 65536) (al0.map fun x => (decide (x.1 ≠ 0), x.1, x.2))).length c) ∧
    w'.ownsRow (w.heap.size + 1) 63 2 (.slice a (dseq (mnN (posN most) 65536) (al0.map fun x => (decide (x.1 ≠ 0), x.1, x.2))).length c) (dseq (mnN (posN most) 65536) (al0.map fun x => (decide (x.1 ≠ 0), x.1, x.2))).length (flE (dseq (mnN (posN most) 65536) (al0.map fun x => (decide (x.1 ≠ 0), x.1, x.2)))) ∧ Below w.heap.size w w' := by
  obtain ⟨i0, hi0, hz0, hz1, hz2⟩ := info_parts einfo
  obtain ⟨c0, c1, c2, c3⟩ := h.cells
  have hN := none_any h
  have hC := copied_any al0.length rfl h.n h.p
  have hb := h.b
  have hl64 := h.n
  have hG : G ≤ 2147483647 := hb.2.1
  have hN65 : mnN (posN most) 65536 ≤ 65536 := by unfold mnN; omega
  have HX : Hid (AlOK G al0) := h.x
  generalize hD0 : (al0.map fun x => (decide (x.1 ≠ 0), x.1, x.2)) = D0 at *
  have HD : Hid (AtT 0 al0 D0) := by rw [← hD0]; exact AtT.start al0
  obtain ⟨a3, cc3, rfl⟩ : ∃ a c, v = .slice a al0.length c := own_sl h.p
  clear hD0 h hb
  go_enter Try.func27, Try.ntmps27
  go_wp2_with (first
    | (go_at_call 33; refine hN.mono ?_; clear hN; rintro e w1 ⟨rfl, rfl⟩)
    | (go_at_call 34; refine hC.mono ?_; clear hC; rintro e w1 ⟨rfl, o1, b1⟩; have HI : Hid (CmI w w1 al0.length G (mnN (posN most) 65536) D0 (.slice none 0 0) 0 [] al0) := ⟨World.ownsRow_nil _ _ _ _, o1, rfl, HX.out, b1, (by have := (o1.lt w.heap.size rfl).2; omega), ⟨D0, HD.out, fun m _ => rfl⟩, Nat.zero_le _, Nat.zero_le _, hG⟩; clear o1 b1))
  clear c0 c1 c2 c3 HX HD
  generalize hNe : mnN (posN most) 65536 = N at *
  have HNe : Hid (mnN (posN most) 65536 = N) := hNe
  clear hNe
  generalize hn : al0.length = n at *
  clear hn
  go_loopw [5, 6] (fun v5 v6 wr => ∃ (a5 : Option Addr) (c5 inn : Nat) (told : List (Nat × Nat)) (al : List Alm), v5 = .slice a5 told.length c5 ∧ v6 = Q inn ∧ Hid (CmI w wr n G N D0 (.slice a5 told.length c5) inn told al)) (fun v5 _ _ => N - slN v5)
  case atStart => exact ⟨none, 0, 0, [], al0, rfl, rfl, HI.out⟩
  case round =>
    clear HI
    obtain ⟨a5, c5, inn, told, al, rfl, rfl, HJ⟩ := hrel
    have hal : al.length ≤ 64 := by rw [← HJ.out.n]; exact hl64
    by_cases hlt : told.length < N
    · have hltI : (told.length : Int) < N := by omega
      have hS := soonest_any wr w.heap.size w.heap.size n n al G HJ.out.a HJ.out.n hal hG HJ.out.x
      have hsb := soon_bound al
      by_cases hnv : soonL al = nvr
      · rw [hnv] at hS
        have hS2 : Calls Try.prog 47 #[.slice (some ⟨w.heap.size, 0, none⟩) n n] wr fun e w' => e = .returned (Q 18446744073709551615) ∧ Below wr.heap.size wr w' := hS
        clear hS
        go_upto_region 16 with (first | (go_at_call 47; refine hS2.mono ?_; clear hS2; rintro e wz ⟨rfl, bz⟩))
        replace HJ : Hid (CmI w wz n G N D0 (.slice a5 told.length c5) inn told al) := HJ.out.below bz
        clear bz
        have hmn : mnN told.length N = min told.length N := rfl
        have hle1 : mnN told.length N ≤ told.length := by rw [hmn]; omega
        have hcap : told.length ≤ c5 := own_cap HJ.out.t
        have hle2 : (mnN told.length N : Int) ≤ c5 := by omega
        have HT : Hid (told.take (mnN told.length N) = dseq N D0) := HJ.out.done (.inr hnv)
        have HR : Hid (wz.ownsRow (w.heap.size + 1) 63 2 (.slice a5 (mnN told.length N) c5) (mnN told.length N) (flE (told.take (mnN told.length N))) ∧ Below w.heap.size w wz) := ⟨by rw [flE_take]; exact own_take HJ.out.t hle1, HJ.out.b⟩
        have HL : Hid ((told.take (mnN told.length N)).length = mnN told.length N) := by show _ = _; rw [List.length_take]; omega
        clear hmn HJ
        go_wp2
        go_ret
        rw [HNe.out, ← HT.out, HL.out]
        exact ⟨a5, c5, rfl, HR.out.1, HR.out.2⟩
      · have hsl : soonL al ≤ 4294967296 := by
          obtain ⟨x, hx, _, hx1⟩ := soon_mem hnv
          have := (HJ.out.x x hx).1
          omega
        have hsn : ¬ ((soonL al : Int) = 18446744073709551615) := by omega
        have hil := HJ.out.i
        have htl := HJ.out.l
        have hP := fun W (hW : Below wr.heap.size wr W) => pass_any W w.heap.size w.heap.size n n al (soonL al) G (own_below HJ.out.a hW) HJ.out.n hal hG HJ.out.x soon_le
        have HNX : Hid (∀ (w' : World) (v' : Value), w'.ownsRow (w.heap.size + 1) 63 2 v' (told ++ (dueF (soonL al) 0 al).map fun i => (inn + soonL al, i)).length (flE (told ++ (dueF (soonL al) 0 al).map fun i => (inn + soonL al, i))) → w'.ownsRow w.heap.size 79 2 (.slice (some ⟨w.heap.size, 0, none⟩) n n) n (flP (al.map (psA (soonL al)))) → Below w.heap.size w w' → w.heap.size + 1 ≤ w'.heap.size → CmI w w' n G N D0 v' (inn + soonL al) (told ++ (dueF (soonL al) 0 al).map fun i => (inn + soonL al, i)) (al.map (psA (soonL al))) ∧ told.length < (told ++ (dueF (soonL al) 0 al).map fun i => (inn + soonL al, i)).length) := fun w' v' ht ha hb hz => HJ.out.next (w' := w') (v' := v') hlt hnv ht ha hb hz hal
        have hdl := dueF_len (t := soonL al) al 0
        clear hnv hsb
        generalize soonL al = sn at *
        generalize hde : dueF sn 0 al = due at *
        clear hde
        have hsumI : (0 : Int) ≤ (inn : Int) + sn := by omega
        have hinn : inn ≤ 65664 * 4294967296 := Nat.le_trans hil (Nat.mul_le_mul_right _ (by omega))
        go_upto_region 12 with (first
          | (go_at_call 47; refine hS.mono ?_; clear hS; rintro e w2 ⟨rfl, b2⟩)
          | (go_at_call 39; refine (hP _ b2).mono ?_; clear hP; rintro e w3 ⟨u, rfl, o3, p3, f3⟩; obtain ⟨au, cu, rfl⟩ := own_sl o3))
        have HK0 : Hid (w3.ownsRow (w.heap.size + 1) 63 2 (.slice a5 told.length c5) (told ++ (due.take 0).map fun i => (inn + sn, i)).length (flE (told ++ (due.take 0).map fun i => (inn + sn, i))) ∧ w3.ownsRow w2.heap.size 3 1 (.slice au due.length cu) due.length (inL due) ∧ w3.ownsRow w.heap.size 79 2 (.slice (some ⟨w.heap.size, 0, none⟩) n n) n (flP (al.map (psA sn))) ∧ Below w.heap.size w w3 ∧ w.heap.size + 1 ≤ w3.heap.size ∧ ∀ x, (Value.slice a5 told.length c5).ownBlock = some x → (Value.slice au due.length cu).ownBlock ≠ some x) := by
          have hJ2 := HJ.out.below b2
          refine ⟨?_, o3, p3, hJ2.b.trans (f3.below hJ2.b.size (by rintro x rfl; exact Nat.le_refl _)), Nat.le_trans hJ2.s f3.size, fun x e1 e2 => ?_⟩
          · rw [List.take_zero, List.map_nil, List.append_nil]
            exact f3.own hJ2.t (fun y e e2 => by have := (hJ2.t.lt y e).1; omega)
          · have q1 := (hJ2.t.lt x e1).2
            have q2 := (o3.lt x e2).1
            omega
        clear HJ b2 o3 p3 f3
        go_wp2
        go_loopw [5, 36] (fun v5 v36 wq => ∃ (k : Nat) (a : Option Addr) (c : Nat), k ≤ due.length ∧ v36 = I k ∧ v5 = .slice a (told.length + k) c ∧ Hid (wq.ownsRow (w.heap.size + 1) 63 2 (.slice a (told.length + k) c) (told ++ (due.take k).map fun i => (inn + sn, i)).length (flE (told ++ (due.take k).map fun i => (inn + sn, i))) ∧ wq.ownsRow w2.heap.size 3 1 (.slice au due.length cu) due.length (inL due) ∧ wq.ownsRow w.heap.size 79 2 (.slice (some ⟨w.heap.size, 0, none⟩) n n) n (flP (al.map (psA sn))) ∧ Below w.heap.size w wq ∧ w.heap.size + 1 ≤ wq.heap.size ∧ ∀ x, (Value.slice a (told.length + k) c).ownBlock = some x → (Value.slice au due.length cu).ownBlock ≠ some x)) (fun _ v36 _ => due.length - (intOf v36).toNat)
        case atStart => exact ⟨0, a5, c5, by omega, rfl, rfl, HK0.out⟩
        case round =>
          clear HK0
          obtain ⟨k, a, c, hk, rfl, rfl, HK⟩ := hrel
          by_cases hkl : k < due.length
          · have hklI : (k : Int) < due.length := by omega
            obtain ⟨r1, r2, r3, r4, r5, r6⟩ := HK.out
            obtain ⟨gu, cu2, e⟩ := own_some r2 (by omega)
            cases e
            obtain ⟨dk, hdk⟩ : ∃ dk, due[k]? = some dk := ⟨_, List.getElem?_eq_getElem hkl⟩
            have hcu : wr.cell? ⟨gu, k, none⟩ = some (I dk) := by
              rw [r2.cellAt k (by omega)]
              simp [inL, hdk]
            have hO2 := r1.alloc (.cells #[Q ((inn : Int) + sn), I dk] 63)
            have hln : (told ++ (due.take k).map fun i => (inn + sn, i)).length = told.length + k := by rw [List.length_append, List.length_map, List.length_take]; omega
            rw [hln] at hO2
            obtain ⟨FT, hFT⟩ : ∃ FT, FT = flE (told ++ (due.take k).map fun i => (inn + sn, i)) := ⟨_, rfl⟩
            rw [← hFT] at hO2
            have HFT : Hid (FT = flE (told ++ (due.take k).map fun i => (inn + sn, i))) := hFT
            clear hFT
            have HL : Hid (told ++ (due.take (k + 1)).map (fun i => (inn + sn, i)) = (told ++ (due.take k).map fun i => (inn + sn, i)) ++ [(inn + sn, dk)]) := by
              show _ = _
              rw [List.take_add_one, hdk, Option.toList_some, List.map_append, List.append_assoc]
              rfl
            have HLN : Hid ((told ++ (due.take k).map fun i => (inn + sn, i)).length = told.length + k) := hln
            have htk : told.length + k ≤ 65664 := by omega
            clear r1 r2 r3 r4 r6 hdk hln
            have hb9 : w.heap.size + 1 ≤ wr.heap.size := r5
            clear r5
            go_wp2_with (first
              | (at_builtin; refine wpList_append_own_at _ rfl (.tmp 40) (.tmp 44) 60 rfl (w.heap.size + 1) 63 i0 (.agg #[.int .u64 0, .int .i64 0]) 2 16 Try.underlying60 hi0 hz0 hz1 hz2 rfl (by decide) _ _ _ rfl hO2 ⟨wr.heap.size, 0, none⟩ 1 1 [Q ((inn : Int) + sn), I dk] rfl rfl (cell_two_new _ _ _ _) (by intro u hu; simp at hu; rcases hu with rfl | rfl <;> rfl) (by unfold maxLen; omega) (by omega) (by simp; omega) ?_))
            intro v6 w6 ho6 hg6 _ hat
            obtain ⟨a6, c6, rfl⟩ := own_sl ho6
            have H6 : Hid (w6.ownsRow (w.heap.size + 1) 63 2 (.slice a6 (told.length + k + 1) c6) (told ++ (due.take (k + 1)).map fun i => (inn + sn, i)).length (flE (told ++ (due.take (k + 1)).map fun i => (inn + sn, i))) ∧ w6.ownsRow w2.heap.size 3 1 (.slice (some ⟨gu, 0, none⟩) due.length cu) due.length (inL due) ∧ w6.ownsRow w.heap.size 79 2 (.slice (some ⟨w.heap.size, 0, none⟩) n n) n (flP (al.map (psA sn))) ∧ Below w.heap.size w w6 ∧ w.heap.size + 1 ≤ w6.heap.size ∧ ∀ x, (Value.slice a6 (told.length + k + 1) c6).ownBlock = some x → (Value.slice (some ⟨gu, 0, none⟩) due.length cu).ownBlock ≠ some x) := by
              obtain ⟨r1, r2, r3, r4, r5, r6⟩ := HK.out
              have hb := r4.trans ((below_alloc wr (.cells #[Q ((inn : Int) + sn), I dk] 63)).mono r4.size)
              have hs6 : wr.heap.size + 1 ≤ w6.heap.size := by have := hg6.size; simpa using this
              refine ⟨?_, (r2.alloc _).kept hg6 (.inr (fun e => r6 gu e.symm rfl)), (r3.alloc _).kept hg6 (.inr (fun e => by have := (r1.lt w.heap.size e.symm).1; omega)), hb.grown hg6 (by simp; omega) (fun x e => by have := (r1.lt x e).1; omega), by omega, fun x e1 e2 => ?_⟩
              · rw [HL.out, List.length_append, HLN.out, flE_app, ← HFT.out, show flE [(inn + sn, dk)] = [Q ((inn : Int) + sn), I dk] by simp only [flE, Int.natCast_add]]
                exact ho6
              · rcases hat with e3 | e3
                · exact r6 x (by rw [← e3]; exact e1) e2
                · rw [e3] at e1
                  have q := (r2.lt x e2).2
                  cases e1
                  omega
            clear ho6 hg6 hat hO2 HK HL HLN
            go_wp2
            go_roundw
            case rel => exact ⟨k + 1, a6, c6, by omega, by go_num, rfl, H6.out⟩
            case measure => simp [intOf]; omega
          · obtain rfl : k = due.length := by omega
            have hge : ¬ ((due.length : Int) < due.length) := by omega
            have H9 : Hid (CmI w wr n G N D0 (.slice a (told.length + due.length) c) (inn + sn) (told ++ due.map fun i => (inn + sn, i)) (al.map (psA sn)) ∧ told.length < (told ++ due.map fun i => (inn + sn, i)).length) := by
              obtain ⟨r1, r2, r3, r4, r5, r6⟩ := HK.out
              rw [List.take_of_length_le (Nat.le_refl _)] at r1
              exact HNX.out wr _ r1 r3 r4 r5
            clear HK HNX
            have hln : (told ++ due.map fun i => (inn + sn, i)).length = told.length + due.length := by simp
            have HLN : Hid ((told ++ due.map fun i => (inn + sn, i)).length = told.length + due.length) := hln
            clear hln
            go_wp2
            go_roundw
            case rel => exact ⟨a, c, inn + sn, _, _, by rw [HLN.out], by go_num, by rw [HLN.out]; exact H9.out.1⟩
            case measure =>
              have := H9.out.2
              rw [HLN.out] at this
              simp [slN]; omega
    · have hltI : ¬ (told.length : Int) < N := by omega
      go_upto_region 16 with (first | fail)
      have hmn : mnN told.length N = min told.length N := rfl
      have hle1 : mnN told.length N ≤ told.length := by rw [hmn]; omega
      have hcap : told.length ≤ c5 := own_cap HJ.out.t
      have hle2 : (mnN told.length N : Int) ≤ c5 := by omega
      have HT : Hid (told.take (mnN told.length N) = dseq N D0) := HJ.out.done (.inl (by omega))
      have HR : Hid (wr.ownsRow (w.heap.size + 1) 63 2 (.slice a5 (mnN told.length N) c5) (mnN told.length N) (flE (told.take (mnN told.length N))) ∧ Below w.heap.size w wr) := ⟨by rw [flE_take]; exact own_take HJ.out.t hle1, HJ.out.b⟩
      have HL : Hid ((told.take (mnN told.length N)).length = mnN told.length N) := by show _ = _; rw [List.length_take]; omega
      clear hmn HJ
      go_wp2
      go_ret
      rw [HNe.out, ← HT.out, HL.out]
      exact ⟨a5, c5, rfl, HR.out.1, HR.out.2⟩
end Go.Proofs.Ytpoekphebmonnab
