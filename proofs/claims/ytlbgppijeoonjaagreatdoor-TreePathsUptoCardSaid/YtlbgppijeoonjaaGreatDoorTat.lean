import Derived.Test.YtlbgppijeoonjaaGreatDoorSsX
import Derived.Deep.RegionHeldLaw
namespace Go.Proofs.YtlbgppijeoonjaaGreatDoor
open Go.RowKit
set_option linter.unusedVariables false

/-! ### The law's attrs -/
def CAts (d : Nat) (l : List At) : Prop := ∀ (w : World) (F : Nat → Prop) (pv : Value), AttrsAt w F pv l → Calls Tryz.prog 38 #[pv, .int .i64 (d : Int)] w fun e w' => ∃ v, e = .returned v ∧ OwnT w' w.heap.size v (attrsT d l) ∧ Below w.heap.size w w'
theorem attrsT_app (d : Nat) (a b : List At) : attrsT d (a ++ b) = attrsT d a ++ attrsT d b := by
  induction a with
  | nil => rw [List.nil_append, attrsT, List.nil_append]
  | cons x a ih => rw [List.cons_append, attrsT, attrsT, ih, List.append_assoc]
theorem attrsT_take (d : Nat) (l : List At) (j : Nat) (a : At) (h : l[j]? = some a) : attrsT d (l.take (j + 1)) = attrsT d (l.take j) ++ attrT d a := by
  rw [List.take_add_one, h, attrsT_app]
  show _ ++ attrsT d [a] = _
  rw [attrsT, attrsT, List.append_nil]
theorem attrsT_le (d : Nat) (l : List At) (j : Nat) : (attrsT d (l.take j)).length ≤ (attrsT d l).length := by
  conv => rhs; rw [← List.take_append_drop j l, attrsT_app, List.length_append]
  omega
theorem own_eq {w : World} {b : Nat} {v : Value} {xs ys : List Tz} (h : xs = ys) (hO : OwnT w b v ys) : OwnT w b v xs := by rw [h]; exact hO
theorem noted_len (nd : Bool) (nt : List UInt8) : (notedT nd nt).length ≤ 3 := by
  unfold notedT
  split
  · simp
  · split <;> simp
def At.br : At → Bool | .mk _ _ _ _ _ br _ _ _ => br
set_option maxHeartbeats 8000000 in
set_option maxRecDepth 100000 in
theorem attrs_row (d : Nat) (w : World) (F : Nat → Prop) (g off cap : Nat) (ps : List (At × Value)) (hg : g < w.heap.size) (hc : ∀ j u, (rowsA ps)[j]? = some u → w.cell? ⟨g, off + j, none⟩ = some u) (N : Nat) (hl : ps.length = N)
    (hA : ∀ p, p ∈ ps → AttrsAt w F p.2 p.1.params) (hI : ∀ p, p ∈ ps → p.1.br = true → CAts (d + 1) p.1.params) (hb1 : d + (attrsT d (ps.map Prod.fst)).length ≤ 1099511627776) (hN : N ≤ 1099511627776) (h4 : ¬ d = 4) :
    Calls Tryz.prog 38 #[.slice (some ⟨g, off, none⟩) N cap, .int .i64 (d : Int)] w fun e w' => ∃ v, e = .returned v ∧ OwnT w' w.heap.size v (attrsT d (ps.map Prod.fst)) ∧ Below w.heap.size w w' := by
  have HX : Hid (ps.length = N) := hl
  have hN2 : (N : Int) ≤ 9223372036854775807 := by omega
  clear hl
  go_enter Tryz.func38, Tryz.ntmps38
  go_wp2
  go_loopw [6, 5] (fun i v wr => ∃ j : Nat, j ≤ N ∧ i = .int .i64 j ∧ St w wr [] v (attrsT d ((ps.map Prod.fst).take j))) (fun i _ _ => N - (intOf i).toNat)
  case atStart => exact ⟨0, by omega, rfl, ⟨⟨by rfl, .inl ⟨rfl, rfl⟩⟩, Below.refl _ _, (fun g O h => by cases h)⟩⟩
  case round =>
    obtain ⟨j, hj, rfl, hSt⟩ := hrel
    by_cases hlt : j < N
    · have hlt' : (j : Int) < N := by omega
      have hj0 : (0 : Int) ≤ j := by omega
      obtain ⟨p, hp⟩ : ∃ x, ps[j]? = some x := ⟨ps[j]'(by rw [HX.out]; exact hlt), List.getElem?_eq_getElem _⟩
      have hAp := hA p (List.mem_of_getElem? hp)
      have hIp := hI p (List.mem_of_getElem? hp)
      have hbel := hSt.below
      have hx : ∀ i u, i < 12 → (atC p.1 p.2)[i]? = some u → wr.cell? ⟨g, off + j * 12 + i, none⟩ = some u := fun i u hi hu => by
        rw [cell_below hbel _ _ hg, Nat.add_assoc]
        exact hc _ _ ((rowsA_at ps j p hp i hi).trans hu)
      have hnext := attrsT_take d (ps.map Prod.fst) j p.1 (by rw [List.getElem?_map, hp]; rfl)
      have hle := attrsT_le d (ps.map Prod.fst) (j + 1)
      rw [hnext, List.length_append] at hle
      have HNX : Hid (attrsT d ((ps.map Prod.fst).take (j + 1)) = attrsT d ((ps.map Prod.fst).take j) ++ attrT d p.1) := hnext
      clear hnext
      generalize attrsT d ((ps.map Prod.fst).take j) = xs at *
      obtain ⟨a, pv⟩ := p
      obtain ⟨pa, pn, pc, rfl⟩ := attrsAt_shape hAp
      obtain ⟨name, ao, al, ac, ⟨vk, vt, vn, vh⟩, br, prm, nd, nt⟩ := a
      have x0 : wr.cell? ⟨g, off + j * 12, none⟩ = some (.string ⟨name.toArray⟩) := hx 0 _ (by omega) rfl
      have x1 : wr.cell? ⟨g, off + j * 12 + 1, none⟩ = some (.int .i64 ao) := hx 1 _ (by omega) rfl
      have x2 : wr.cell? ⟨g, off + j * 12 + 2, none⟩ = some (.int .i64 al) := hx 2 _ (by omega) rfl
      have x3 : wr.cell? ⟨g, off + j * 12 + 3, none⟩ = some (.int .i64 ac) := hx 3 _ (by omega) rfl
      have x4 : wr.cell? ⟨g, off + j * 12 + 4, none⟩ = some (.int .i64 vk) := hx 4 _ (by omega) rfl
      have x5 : wr.cell? ⟨g, off + j * 12 + 5, none⟩ = some (.string ⟨vt.toArray⟩) := hx 5 _ (by omega) rfl
      have x6 : wr.cell? ⟨g, off + j * 12 + 6, none⟩ = some (.int .u32 (vn : Int)) := hx 6 _ (by omega) rfl
      have x7 : wr.cell? ⟨g, off + j * 12 + 7, none⟩ = some (.bool vh) := hx 7 _ (by omega) rfl
      have x8 : wr.cell? ⟨g, off + j * 12 + 8, none⟩ = some (.bool br) := hx 8 _ (by omega) rfl
      have x9 : wr.cell? ⟨g, off + j * 12 + 9, none⟩ = some (.slice pa pn pc) := hx 9 _ (by omega) rfl
      have x10 : wr.cell? ⟨g, off + j * 12 + 10, none⟩ = some (.bool nd) := hx 10 _ (by omega) rfl
      have x11 : wr.cell? ⟨g, off + j * 12 + 11, none⟩ = some (.string ⟨nt.toArray⟩) := hx 11 _ (by omega) rfl
      obtain ⟨av, cv, rfl⟩ := own_shape7 hSt.own
      have HPN : Hid (pn = prm.length) := by obtain ⟨a', c', e⟩ := attrsAt_lenS hAp; exact (Value.slice.inj e).2.1
      have HD4 : Hid ((d : Int) + 1 = ((d + 1 : Nat) : Int)) := by show _ = _; omega
      have hdm : (d : Int) ≤ 1099511627776 := by omega
      have hd0 : (0 : Int) ≤ d := by omega
      have hX : xs.length ≤ 1099511627776 := by omega
      have hP : br = true → xs.length + (attrsT (d + 1) prm).length ≤ 1099511627776 := fun h => by subst h; rw [attrT] at hle; simp at hle; omega
      have hNl := noted_len nd nt
      clear hx hc hA hI hp HX
      go_wp2
      have hV0 := heap_alloc_new wr (.cells #[.string ⟨name.toArray⟩, .int .i64 ao, .int .i64 al, .int .i64 ac, .int .i64 vk, .string ⟨vt.toArray⟩, .int .u32 (vn : Int), .bool vh, .bool br, .slice pa pn pc, .bool nd, .string ⟨nt.toArray⟩] 34)
      have hal := (Below.refl wr.heap.size wr).alloc (Nat.le_refl _) (.cells #[.string ⟨name.toArray⟩, .int .i64 ao, .int .i64 al, .int .i64 ac, .int .i64 vk, .string ⟨vt.toArray⟩, .int .u32 (vn : Int), .bool vh, .bool br, .slice pa pn pc, .bool nd, .string ⟨nt.toArray⟩] 34)
      have hS0 : St w (wr.alloc (.cells #[.string ⟨name.toArray⟩, .int .i64 ao, .int .i64 al, .int .i64 ac, .int .i64 vk, .string ⟨vt.toArray⟩, .int .u32 (vn : Int), .bool vh, .bool br, .slice pa pn pc, .bool nd, .string ⟨nt.toArray⟩] 34)) [(wr.heap.size, .cells #[.string ⟨name.toArray⟩, .int .i64 ao, .int .i64 al, .int .i64 ac, .int .i64 vk, .string ⟨vt.toArray⟩, .int .u32 (vn : Int), .bool vh, .bool br, .slice pa pn pc, .bool nd, .string ⟨nt.toArray⟩] 34 (0, 0))] (.slice av xs.length cv) xs := by
        refine ⟨own_below hSt.own hal, hbel.trans (hal.mono hbel.size), fun g O h => ?_⟩
        simp at h
        obtain ⟨rfl, rfl⟩ := h
        exact ⟨hV0, fun e => by have := (hSt.own.lt _ e).2; omega⟩
      clear x0 x1 x2 x3 x4 x5 x6 x7 x8 x9 x10 x11 hV0 hal hbel hSt
      generalize wr.alloc (.cells #[.string ⟨name.toArray⟩, .int .i64 ao, .int .i64 al, .int .i64 ac, .int .i64 vk, .string ⟨vt.toArray⟩, .int .u32 (vn : Int), .bool vh, .bool br, .slice pa pn pc, .bool nd, .string ⟨nt.toArray⟩] 34) = W0 at *
      generalize wr.heap.size = b at *
      have hV0 := (hS0.keep _ _ (List.mem_singleton.2 rfl)).1
      have kS : ∀ W, Below W0.heap.size W0 W → W.cell? ⟨b, 0, none⟩ = some (.string ⟨name.toArray⟩) ∧ W.cell? ⟨b, 4, none⟩ = some (.int .i64 vk) ∧ W.cell? ⟨b, 5, none⟩ = some (.string ⟨vt.toArray⟩) ∧ W.cell? ⟨b, 6, none⟩ = some (.int .u32 (vn : Int)) ∧ W.cell? ⟨b, 7, none⟩ = some (.bool vh) := fun W hW => by
        obtain ⟨⟨q0, q1, q2, q3, q4, q5, q6, q7, q8, q9, q10, q11⟩, fq⟩ := var12 ((hW.block _ (heap_lt hV0)).trans hV0)
        exact ⟨q0, q4, q5, q6, q7⟩
      obtain ⟨b0, b4, b5, b6, b7⟩ := kS W0 (Below.refl _ _)
      go_region_held_law (fun w' => w'.cell? ⟨b, 0, none⟩ = some (.string ⟨name.toArray⟩) ∧ w'.cell? ⟨b, 4, none⟩ = some (.int .i64 vk) ∧ w'.cell? ⟨b, 5, none⟩ = some (.string ⟨vt.toArray⟩) ∧ w'.cell? ⟨b, 6, none⟩ = some (.int .u32 (vn : Int)) ∧ w'.cell? ⟨b, 7, none⟩ = some (.bool vh))
        (first | exact ⟨b0, b4, b5, b6, b7⟩ | exact kS4 | exact kS _ (hb3'.alloc hb3'.size _) | exact kS _ hb3' | exact kS _ hb2' | exact kS _ hb1' | exact kS _ (Below.refl W0.heap.size W0).drew | exact kS _ (below_drewN (Below.refl _ _) _) | (go_keep; done))
        (first
          | (go_at_call 36; refine (name_c _ _).mono ?_; rintro e w1 ⟨rfl, hb1x⟩; have hb1' : Below W0.heap.size W0 w1 := (Below.refl W0.heap.size W0).drew.trans hb1x)
          | (go_at_call 37; refine (mark_c _ _).mono ?_; rintro e w2 ⟨rfl, hb2x⟩; have hb2' := hb1'.trans (hb2x.mono hb1'.size))
          | (go_at_call 60; refine (value_c ⟨vk, vt, vn, vh⟩ _).mono ?_; rintro e w3 ⟨rfl, hb3x⟩; have hb3' := hb2'.trans (hb3x.mono hb2'.size); unfold tzC)
          | (refine step_app_lit rfl _ _ rfl (hS0.call hb3') rfl [zN name, zM 6, zV ⟨vk, vt, vn, vh⟩] _ rfl 3 rfl (by simp; omega) ?_; intro v4 w4 hS4; have hV4 := (hS4.keep _ _ (List.mem_singleton.2 rfl)).1; have kS4 := (fun (h : _ ∧ _) => (⟨h.1.1, h.1.2.2.2.2.1, h.1.2.2.2.2.2.1, h.1.2.2.2.2.2.2.1, h.1.2.2.2.2.2.2.2.1⟩ : w4.cell? ⟨b, 0, none⟩ = some (.string ⟨name.toArray⟩) ∧ w4.cell? ⟨b, 4, none⟩ = some (.int .i64 vk) ∧ w4.cell? ⟨b, 5, none⟩ = some (.string ⟨vt.toArray⟩) ∧ w4.cell? ⟨b, 6, none⟩ = some (.int .u32 (vn : Int)) ∧ w4.cell? ⟨b, 7, none⟩ = some (.bool vh))) (var12 hV4)))
      clear b0 b4 b5 b6 b7 kS kS4 hV4 hb1x hb2x hb3x hb1' hb2' hb3' hS0 hV0
      obtain ⟨⟨q0, q1, q2, q3, q4, q5, q6, q7, q8, q9, q10, q11⟩, fq⟩ := var12 (hS4.keep _ _ (List.mem_singleton.2 rfl)).1
      cases br with
      | true =>
        have hP' := hP rfl
        by_cases h5 : 4 < d
        · have e1 : (4 : Int) < d := by omega
          have e2 : ¬ (d : Int) = 4 := by omega
          go_wp2_with (first | (go_at_call 37; refine (mark_c _ _).mono ?_; rintro e u5 ⟨rfl, hu5⟩; have hT5 := hS4.call hu5) | (at_builtin; refine wpList_app_lit rfl _ _ rfl hT5 rfl [zM 4] _ rfl 1 rfl (by simp; omega) ?_))
          intro v5 w5 hS5
          clear q0 q1 q2 q3 q4 q5 q6 q7 q8 q9 q10 q11 fq hT5 hu5 hS4
          obtain ⟨⟨q0, q1, q2, q3, q4, q5, q6, q7, q8, q9, q10, q11⟩, fq⟩ := var12 (hS5.keep _ _ (List.mem_singleton.2 rfl)).1
          go_wp2_with (first | (go_at_call 38; try rw [HD4.out]; refine (hIp rfl _ F _ (attrsAt_below hS5.below hAp)).mono ?_; rintro e u6 ⟨pv6, rfl, hO6, hu6⟩; have hT6 := hS5.call hu6) | (at_builtin; refine wpList_app_own rfl _ _ rfl hT6 rfl (attrsT (d + 1) prm) _ hO6 rfl (by simp; omega) ?_))
          intro v6 w6 hS6
          clear q0 q1 q2 q3 q4 q5 q6 q7 q8 q9 q10 q11 fq hT6 hu6 hS5 hO6
          obtain ⟨⟨q0, q1, q2, q3, q4, q5, q6, q7, q8, q9, q10, q11⟩, fq⟩ := var12 (hS6.keep _ _ (List.mem_singleton.2 rfl)).1
          go_wp2_with (first | (go_at_call 37; refine (mark_c _ _).mono ?_; rintro e u7 ⟨rfl, hu7⟩; have hT7 := hS6.call hu7) | (at_builtin; refine wpList_app_lit rfl _ _ rfl hT7 rfl [zM 5] _ rfl 1 rfl (by simp; omega) ?_))
          intro v7 w7 hS7
          clear q0 q1 q2 q3 q4 q5 q6 q7 q8 q9 q10 q11 fq hT7 hu7 hS6
          obtain ⟨⟨q0, q1, q2, q3, q4, q5, q6, q7, q8, q9, q10, q11⟩, fq⟩ := var12 (hS7.keep _ _ (List.mem_singleton.2 rfl)).1
          go_wp2_with (first | (go_at_call 37; refine (mark_c _ _).mono ?_; rintro e u8 ⟨rfl, hu8⟩; have hT8 := hS7.call hu8) | (at_builtin; refine wpList_app_lit rfl _ _ rfl hT8 rfl [zM 99] _ rfl 1 rfl (by simp; omega) ?_))
          intro v8 w8 hS8
          clear q0 q1 q2 q3 q4 q5 q6 q7 q8 q9 q10 q11 fq hT8 hu8 hS7
          obtain ⟨⟨q0, q1, q2, q3, q4, q5, q6, q7, q8, q9, q10, q11⟩, fq⟩ := var12 (hS8.keep _ _ (List.mem_singleton.2 rfl)).1
          go_wp2_with (first | (go_at_call 39; refine (noted_c _ _ _).mono ?_; rintro e u9 ⟨pv9, rfl, hO9, hu9⟩; have hT9 := hS8.call hu9) | (at_builtin; refine wpList_app_own rfl _ _ rfl hT9 rfl (notedT nd nt) _ hO9 rfl (by simp; omega) ?_))
          intro v9 w9 hS9
          clear q0 q1 q2 q3 q4 q5 q6 q7 q8 q9 q10 q11 fq hT9 hu9 hS8 hO9
          go_wp2
          go_roundw
          case rel =>
            refine ⟨j + 1, by omega, by go_num, own_eq (by rw [HNX.out, attrT]; simp [h4, h5]) hS9.own, hS9.below, (fun g O h => by cases h)⟩
          case measure => simp [intOf]; omega
        · have e1 : ¬ (4 : Int) < d := by omega
          have e2 : ¬ (d : Int) = 4 := by omega
          go_wp2_with (first | (go_at_call 37; refine (mark_c _ _).mono ?_; rintro e u5 ⟨rfl, hu5⟩; have hT5 := hS4.call hu5) | (at_builtin; refine wpList_app_lit rfl _ _ rfl hT5 rfl [zM 4] _ rfl 1 rfl (by simp; omega) ?_))
          intro v5 w5 hS5
          clear q0 q1 q2 q3 q4 q5 q6 q7 q8 q9 q10 q11 fq hT5 hu5 hS4
          obtain ⟨⟨q0, q1, q2, q3, q4, q5, q6, q7, q8, q9, q10, q11⟩, fq⟩ := var12 (hS5.keep _ _ (List.mem_singleton.2 rfl)).1
          go_wp2_with (first | (go_at_call 38; try rw [HD4.out]; refine (hIp rfl _ F _ (attrsAt_below hS5.below hAp)).mono ?_; rintro e u6 ⟨pv6, rfl, hO6, hu6⟩; have hT6 := hS5.call hu6) | (at_builtin; refine wpList_app_own rfl _ _ rfl hT6 rfl (attrsT (d + 1) prm) _ hO6 rfl (by simp; omega) ?_))
          intro v6 w6 hS6
          clear q0 q1 q2 q3 q4 q5 q6 q7 q8 q9 q10 q11 fq hT6 hu6 hS5 hO6
          obtain ⟨⟨q0, q1, q2, q3, q4, q5, q6, q7, q8, q9, q10, q11⟩, fq⟩ := var12 (hS6.keep _ _ (List.mem_singleton.2 rfl)).1
          go_wp2_with (first | (go_at_call 37; refine (mark_c _ _).mono ?_; rintro e u7 ⟨rfl, hu7⟩; have hT7 := hS6.call hu7) | (at_builtin; refine wpList_app_lit rfl _ _ rfl hT7 rfl [zM 5] _ rfl 1 rfl (by simp; omega) ?_))
          intro v7 w7 hS7
          clear q0 q1 q2 q3 q4 q5 q6 q7 q8 q9 q10 q11 fq hT7 hu7 hS6
          obtain ⟨⟨q0, q1, q2, q3, q4, q5, q6, q7, q8, q9, q10, q11⟩, fq⟩ := var12 (hS7.keep _ _ (List.mem_singleton.2 rfl)).1
          go_wp2_with (first | (go_at_call 39; refine (noted_c _ _ _).mono ?_; rintro e u8 ⟨pv8, rfl, hO8, hu8⟩; have hT8 := hS7.call hu8) | (at_builtin; refine wpList_app_own rfl _ _ rfl hT8 rfl (notedT nd nt) _ hO8 rfl (by simp; omega) ?_))
          intro v8 w8 hS8
          clear q0 q1 q2 q3 q4 q5 q6 q7 q8 q9 q10 q11 fq hT8 hu8 hS7 hO8
          go_wp2
          go_roundw
          case rel =>
            refine ⟨j + 1, by omega, by go_num, own_eq (by rw [HNX.out, attrT]; simp [h4, h5]) hS8.own, hS8.below, (fun g O h => by cases h)⟩
          case measure => simp [intOf]; omega
      | false =>
        by_cases h5 : 4 < d
        · have e1 : (4 : Int) < d := by omega
          have e2 : ¬ (d : Int) = 4 := by omega
          go_wp2_with (first | (go_at_call 37; refine (mark_c _ _).mono ?_; rintro e u5 ⟨rfl, hu5⟩; have hT5 := hS4.call hu5) | (at_builtin; refine wpList_app_lit rfl _ _ rfl hT5 rfl [zM 99] _ rfl 1 rfl (by simp; omega) ?_))
          intro v5 w5 hS5
          clear q0 q1 q2 q3 q4 q5 q6 q7 q8 q9 q10 q11 fq hT5 hu5 hS4
          obtain ⟨⟨q0, q1, q2, q3, q4, q5, q6, q7, q8, q9, q10, q11⟩, fq⟩ := var12 (hS5.keep _ _ (List.mem_singleton.2 rfl)).1
          go_wp2_with (first | (go_at_call 39; refine (noted_c _ _ _).mono ?_; rintro e u6 ⟨pv6, rfl, hO6, hu6⟩; have hT6 := hS5.call hu6) | (at_builtin; refine wpList_app_own rfl _ _ rfl hT6 rfl (notedT nd nt) _ hO6 rfl (by simp; omega) ?_))
          intro v6 w6 hS6
          clear q0 q1 q2 q3 q4 q5 q6 q7 q8 q9 q10 q11 fq hT6 hu6 hS5 hO6
          go_wp2
          go_roundw
          case rel =>
            refine ⟨j + 1, by omega, by go_num, own_eq (by rw [HNX.out, attrT]; simp [h4, h5]) hS6.own, hS6.below, (fun g O h => by cases h)⟩
          case measure => simp [intOf]; omega
        · have e1 : ¬ (4 : Int) < d := by omega
          have e2 : ¬ (d : Int) = 4 := by omega
          by_cases h6 : 0 < pn
          · have e3 : (0 : Int) < pn := by omega
            have hne : prm ≠ [] := fun h => by have := HPN.out; rw [h] at this; simp at this; omega
            go_wp2_with (first | (go_at_call 37; refine (mark_c _ _).mono ?_; rintro e u5 ⟨rfl, hu5⟩; have hT5 := hS4.call hu5) | (at_builtin; refine wpList_app_lit rfl _ _ rfl hT5 rfl [zM 99] _ rfl 1 rfl (by simp; omega) ?_))
            intro v5 w5 hS5
            clear q0 q1 q2 q3 q4 q5 q6 q7 q8 q9 q10 q11 fq hT5 hu5 hS4
            obtain ⟨⟨q0, q1, q2, q3, q4, q5, q6, q7, q8, q9, q10, q11⟩, fq⟩ := var12 (hS5.keep _ _ (List.mem_singleton.2 rfl)).1
            go_wp2_with (first | (go_at_call 39; refine (noted_c _ _ _).mono ?_; rintro e u6 ⟨pv6, rfl, hO6, hu6⟩; have hT6 := hS5.call hu6) | (at_builtin; refine wpList_app_own rfl _ _ rfl hT6 rfl (notedT nd nt) _ hO6 rfl (by simp; omega) ?_))
            intro v6 w6 hS6
            clear q0 q1 q2 q3 q4 q5 q6 q7 q8 q9 q10 q11 fq hT6 hu6 hS5 hO6
            go_wp2
            go_roundw
            case rel =>
              refine ⟨j + 1, by omega, by go_num, own_eq (by rw [HNX.out, attrT]; simp [hne, h4]) hS6.own, hS6.below, (fun g O h => by cases h)⟩
            case measure => simp [intOf]; omega
          · have e3 : ¬ (0 : Int) < pn := by omega
            have hne : prm = [] := List.eq_nil_of_length_eq_zero (by have := HPN.out; omega)
            go_wp2_with (first | (go_at_call 39; refine (noted_c _ _ _).mono ?_; rintro e u5 ⟨pv5, rfl, hO5, hu5⟩; have hT5 := hS4.call hu5) | (at_builtin; refine wpList_app_own rfl _ _ rfl hT5 rfl (notedT nd nt) _ hO5 rfl (by simp; omega) ?_))
            intro v5 w5 hS5
            clear q0 q1 q2 q3 q4 q5 q6 q7 q8 q9 q10 q11 fq hT5 hu5 hS4 hO5
            go_wp2
            go_roundw
            case rel =>
              refine ⟨j + 1, by omega, by go_num, own_eq (by rw [HNX.out, attrT]; simp [hne, h5, h4]) hS5.own, hS5.below, (fun g O h => by cases h)⟩
            case measure => simp [intOf]; omega
    · have hlt' : ¬ (j : Int) < N := by omega
      obtain rfl : j = N := by omega
      go_wp2
      go_ret
      refine ⟨_, rfl, ?_, hSt.below⟩
      have := hSt.own
      rwa [List.take_of_length_le (by rw [List.length_map, HX.out]; exact Nat.le_refl _)] at this
set_option maxHeartbeats 8000000 in
set_option maxRecDepth 100000 in
theorem attrs_row4 (w : World) (F : Nat → Prop) (g off cap : Nat) (ps : List (At × Value)) (hg : g < w.heap.size) (hc : ∀ j u, (rowsA ps)[j]? = some u → w.cell? ⟨g, off + j, none⟩ = some u) (N : Nat) (hl : ps.length = N)
    (hA : ∀ p, p ∈ ps → AttrsAt w F p.2 p.1.params) (hI : ∀ p, p ∈ ps → p.1.br = true → CAts 5 p.1.params) (hb1 : 4 + (attrsT 4 (ps.map Prod.fst)).length ≤ 1099511627776) (hN : N ≤ 1099511627776) :
    Calls Tryz.prog 38 #[.slice (some ⟨g, off, none⟩) N cap, .int .i64 4] w fun e w' => ∃ v, e = .returned v ∧ OwnT w' w.heap.size v (attrsT 4 (ps.map Prod.fst)) ∧ Below w.heap.size w w' := by
  have HX : Hid (ps.length = N) := hl
  have hN2 : (N : Int) ≤ 9223372036854775807 := by omega
  clear hl
  go_enter Tryz.func38, Tryz.ntmps38
  go_wp2
  go_loopw [6, 5] (fun i v wr => ∃ j : Nat, j ≤ N ∧ i = .int .i64 j ∧ St w wr [] v (attrsT 4 ((ps.map Prod.fst).take j))) (fun i _ _ => N - (intOf i).toNat)
  case atStart => exact ⟨0, by omega, rfl, ⟨⟨by rfl, .inl ⟨rfl, rfl⟩⟩, Below.refl _ _, (fun g O h => by cases h)⟩⟩
  case round =>
    obtain ⟨j, hj, rfl, hSt⟩ := hrel
    by_cases hlt : j < N
    · have hlt' : (j : Int) < N := by omega
      have hj0 : (0 : Int) ≤ j := by omega
      obtain ⟨p, hp⟩ : ∃ x, ps[j]? = some x := ⟨ps[j]'(by rw [HX.out]; exact hlt), List.getElem?_eq_getElem _⟩
      have hAp := hA p (List.mem_of_getElem? hp)
      have hIp := hI p (List.mem_of_getElem? hp)
      have hbel := hSt.below
      have hx : ∀ i u, i < 12 → (atC p.1 p.2)[i]? = some u → wr.cell? ⟨g, off + j * 12 + i, none⟩ = some u := fun i u hi hu => by
        rw [cell_below hbel _ _ hg, Nat.add_assoc]
        exact hc _ _ ((rowsA_at ps j p hp i hi).trans hu)
      have hnext := attrsT_take 4 (ps.map Prod.fst) j p.1 (by rw [List.getElem?_map, hp]; rfl)
      have hle := attrsT_le 4 (ps.map Prod.fst) (j + 1)
      rw [hnext, List.length_append] at hle
      have HNX : Hid (attrsT 4 ((ps.map Prod.fst).take (j + 1)) = attrsT 4 ((ps.map Prod.fst).take j) ++ attrT 4 p.1) := hnext
      clear hnext
      generalize attrsT 4 ((ps.map Prod.fst).take j) = xs at *
      obtain ⟨a, pv⟩ := p
      obtain ⟨pa, pn, pc, rfl⟩ := attrsAt_shape hAp
      obtain ⟨name, ao, al, ac, ⟨vk, vt, vn, vh⟩, br, prm, nd, nt⟩ := a
      have x0 : wr.cell? ⟨g, off + j * 12, none⟩ = some (.string ⟨name.toArray⟩) := hx 0 _ (by omega) rfl
      have x1 : wr.cell? ⟨g, off + j * 12 + 1, none⟩ = some (.int .i64 ao) := hx 1 _ (by omega) rfl
      have x2 : wr.cell? ⟨g, off + j * 12 + 2, none⟩ = some (.int .i64 al) := hx 2 _ (by omega) rfl
      have x3 : wr.cell? ⟨g, off + j * 12 + 3, none⟩ = some (.int .i64 ac) := hx 3 _ (by omega) rfl
      have x4 : wr.cell? ⟨g, off + j * 12 + 4, none⟩ = some (.int .i64 vk) := hx 4 _ (by omega) rfl
      have x5 : wr.cell? ⟨g, off + j * 12 + 5, none⟩ = some (.string ⟨vt.toArray⟩) := hx 5 _ (by omega) rfl
      have x6 : wr.cell? ⟨g, off + j * 12 + 6, none⟩ = some (.int .u32 (vn : Int)) := hx 6 _ (by omega) rfl
      have x7 : wr.cell? ⟨g, off + j * 12 + 7, none⟩ = some (.bool vh) := hx 7 _ (by omega) rfl
      have x8 : wr.cell? ⟨g, off + j * 12 + 8, none⟩ = some (.bool br) := hx 8 _ (by omega) rfl
      have x9 : wr.cell? ⟨g, off + j * 12 + 9, none⟩ = some (.slice pa pn pc) := hx 9 _ (by omega) rfl
      have x10 : wr.cell? ⟨g, off + j * 12 + 10, none⟩ = some (.bool nd) := hx 10 _ (by omega) rfl
      have x11 : wr.cell? ⟨g, off + j * 12 + 11, none⟩ = some (.string ⟨nt.toArray⟩) := hx 11 _ (by omega) rfl
      obtain ⟨av, cv, rfl⟩ := own_shape7 hSt.own
      have HPN : Hid (pn = prm.length) := by obtain ⟨a', c', e⟩ := attrsAt_lenS hAp; exact (Value.slice.inj e).2.1
      have hX : xs.length ≤ 1099511627776 := by omega
      have hP : br = true → xs.length + (attrsT 5 prm).length ≤ 1099511627776 := fun h => by subst h; rw [attrT] at hle; simp at hle; omega
      have hNl := noted_len nd nt
      have c5' : br = true → ∀ W, Below w.heap.size w W → Calls Tryz.prog 38 #[.slice pa pn pc, .int .i64 5] W fun e w' => ∃ v, e = .returned v ∧ OwnT w' W.heap.size v (attrsT 5 prm) ∧ Below W.heap.size W w' := fun h W hW => hIp h W F _ (attrsAt_below hW hAp)
      clear hx hc hA hI hp HX
      go_wp2
      have hV0 := heap_alloc_new wr (.cells #[.string ⟨name.toArray⟩, .int .i64 ao, .int .i64 al, .int .i64 ac, .int .i64 vk, .string ⟨vt.toArray⟩, .int .u32 (vn : Int), .bool vh, .bool br, .slice pa pn pc, .bool nd, .string ⟨nt.toArray⟩] 34)
      have hal := (Below.refl wr.heap.size wr).alloc (Nat.le_refl _) (.cells #[.string ⟨name.toArray⟩, .int .i64 ao, .int .i64 al, .int .i64 ac, .int .i64 vk, .string ⟨vt.toArray⟩, .int .u32 (vn : Int), .bool vh, .bool br, .slice pa pn pc, .bool nd, .string ⟨nt.toArray⟩] 34)
      have hS0 : St w (wr.alloc (.cells #[.string ⟨name.toArray⟩, .int .i64 ao, .int .i64 al, .int .i64 ac, .int .i64 vk, .string ⟨vt.toArray⟩, .int .u32 (vn : Int), .bool vh, .bool br, .slice pa pn pc, .bool nd, .string ⟨nt.toArray⟩] 34)) [(wr.heap.size, .cells #[.string ⟨name.toArray⟩, .int .i64 ao, .int .i64 al, .int .i64 ac, .int .i64 vk, .string ⟨vt.toArray⟩, .int .u32 (vn : Int), .bool vh, .bool br, .slice pa pn pc, .bool nd, .string ⟨nt.toArray⟩] 34 (0, 0))] (.slice av xs.length cv) xs := by
        refine ⟨own_below hSt.own hal, hbel.trans (hal.mono hbel.size), fun g O h => ?_⟩
        simp at h
        obtain ⟨rfl, rfl⟩ := h
        exact ⟨hV0, fun e => by have := (hSt.own.lt _ e).2; omega⟩
      clear x0 x1 x2 x3 x4 x5 x6 x7 x8 x9 x10 x11 hV0 hal hbel hSt
      generalize wr.alloc (.cells #[.string ⟨name.toArray⟩, .int .i64 ao, .int .i64 al, .int .i64 ac, .int .i64 vk, .string ⟨vt.toArray⟩, .int .u32 (vn : Int), .bool vh, .bool br, .slice pa pn pc, .bool nd, .string ⟨nt.toArray⟩] 34) = W0 at *
      generalize wr.heap.size = b at *
      have hV0 := (hS0.keep _ _ (List.mem_singleton.2 rfl)).1
      have kS : ∀ W, Below W0.heap.size W0 W → W.cell? ⟨b, 0, none⟩ = some (.string ⟨name.toArray⟩) ∧ W.cell? ⟨b, 4, none⟩ = some (.int .i64 vk) ∧ W.cell? ⟨b, 5, none⟩ = some (.string ⟨vt.toArray⟩) ∧ W.cell? ⟨b, 6, none⟩ = some (.int .u32 (vn : Int)) ∧ W.cell? ⟨b, 7, none⟩ = some (.bool vh) := fun W hW => by
        obtain ⟨⟨q0, q1, q2, q3, q4, q5, q6, q7, q8, q9, q10, q11⟩, fq⟩ := var12 ((hW.block _ (heap_lt hV0)).trans hV0)
        exact ⟨q0, q4, q5, q6, q7⟩
      obtain ⟨b0, b4, b5, b6, b7⟩ := kS W0 (Below.refl _ _)
      go_region_held_law (fun w' => w'.cell? ⟨b, 0, none⟩ = some (.string ⟨name.toArray⟩) ∧ w'.cell? ⟨b, 4, none⟩ = some (.int .i64 vk) ∧ w'.cell? ⟨b, 5, none⟩ = some (.string ⟨vt.toArray⟩) ∧ w'.cell? ⟨b, 6, none⟩ = some (.int .u32 (vn : Int)) ∧ w'.cell? ⟨b, 7, none⟩ = some (.bool vh))
        (first | exact ⟨b0, b4, b5, b6, b7⟩ | exact kS4 | exact kS _ (hb3'.alloc hb3'.size _) | exact kS _ hb3' | exact kS _ hb2' | exact kS _ hb1' | exact kS _ (Below.refl W0.heap.size W0).drew | exact kS _ (below_drewN (Below.refl _ _) _) | (go_keep; done))
        (first
          | (go_at_call 36; refine (name_c _ _).mono ?_; rintro e w1 ⟨rfl, hb1x⟩; have hb1' : Below W0.heap.size W0 w1 := (Below.refl W0.heap.size W0).drew.trans hb1x)
          | (go_at_call 37; refine (mark_c _ _).mono ?_; rintro e w2 ⟨rfl, hb2x⟩; have hb2' := hb1'.trans (hb2x.mono hb1'.size))
          | (go_at_call 60; refine (value_c ⟨vk, vt, vn, vh⟩ _).mono ?_; rintro e w3 ⟨rfl, hb3x⟩; have hb3' := hb2'.trans (hb3x.mono hb2'.size); unfold tzC)
          | (refine step_app_lit rfl _ _ rfl (hS0.call hb3') rfl [zN name, zM 6, zV ⟨vk, vt, vn, vh⟩] _ rfl 3 rfl (by simp; omega) ?_; intro v4 w4 hS4; have hV4 := (hS4.keep _ _ (List.mem_singleton.2 rfl)).1; have kS4 := (fun (h : _ ∧ _) => (⟨h.1.1, h.1.2.2.2.2.1, h.1.2.2.2.2.2.1, h.1.2.2.2.2.2.2.1, h.1.2.2.2.2.2.2.2.1⟩ : w4.cell? ⟨b, 0, none⟩ = some (.string ⟨name.toArray⟩) ∧ w4.cell? ⟨b, 4, none⟩ = some (.int .i64 vk) ∧ w4.cell? ⟨b, 5, none⟩ = some (.string ⟨vt.toArray⟩) ∧ w4.cell? ⟨b, 6, none⟩ = some (.int .u32 (vn : Int)) ∧ w4.cell? ⟨b, 7, none⟩ = some (.bool vh))) (var12 hV4)))
      clear b0 b4 b5 b6 b7 kS kS4 hV4 hb1x hb2x hb3x hb1' hb2' hb3' hS0 hV0
      obtain ⟨⟨q0, q1, q2, q3, q4, q5, q6, q7, q8, q9, q10, q11⟩, fq⟩ := var12 (hS4.keep _ _ (List.mem_singleton.2 rfl)).1
      cases br with
      | true =>
        have hP' := hP rfl
        have c5 := c5' rfl
        go_wp2_with (first | (go_at_call 37; refine (mark_c _ _).mono ?_; rintro e u5 ⟨rfl, hu5⟩; have hT5 := hS4.call hu5) | (at_builtin; refine wpList_app_lit rfl _ _ rfl hT5 rfl [zM 4] _ rfl 1 rfl (by simp; omega) ?_))
        intro v5 w5 hS5
        clear q0 q1 q2 q3 q4 q5 q6 q7 q8 q9 q10 q11 fq hT5 hu5 hS4
        obtain ⟨⟨q0, q1, q2, q3, q4, q5, q6, q7, q8, q9, q10, q11⟩, fq⟩ := var12 (hS5.keep _ _ (List.mem_singleton.2 rfl)).1
        go_wp2_with (first | (go_at_call 38; refine (c5 _ hS5.below).mono ?_; rintro e u6 ⟨pv6, rfl, hO6, hu6⟩; have hT6 := hS5.call hu6) | (at_builtin; refine wpList_app_own rfl _ _ rfl hT6 rfl (attrsT 5 prm) _ hO6 rfl (by simp; omega) ?_))
        intro v6 w6 hS6
        clear q0 q1 q2 q3 q4 q5 q6 q7 q8 q9 q10 q11 fq hT6 hu6 hS5 hO6
        obtain ⟨⟨q0, q1, q2, q3, q4, q5, q6, q7, q8, q9, q10, q11⟩, fq⟩ := var12 (hS6.keep _ _ (List.mem_singleton.2 rfl)).1
        go_wp2_with (first | (go_at_call 37; refine (mark_c _ _).mono ?_; rintro e u7 ⟨rfl, hu7⟩; have hT7 := hS6.call hu7) | (at_builtin; refine wpList_app_lit rfl _ _ rfl hT7 rfl [zM 5] _ rfl 1 rfl (by simp; omega) ?_))
        intro v7 w7 hS7
        clear q0 q1 q2 q3 q4 q5 q6 q7 q8 q9 q10 q11 fq hT7 hu7 hS6
        obtain ⟨⟨q0, q1, q2, q3, q4, q5, q6, q7, q8, q9, q10, q11⟩, fq⟩ := var12 (hS7.keep _ _ (List.mem_singleton.2 rfl)).1
        go_wp2_with (first | (go_at_call 37; refine (mark_c _ _).mono ?_; rintro e u8 ⟨rfl, hu8⟩; have hT8 := hS7.call hu8) | (at_builtin; refine wpList_app_lit rfl _ _ rfl hT8 rfl [zM 99] _ rfl 1 rfl (by simp; omega) ?_))
        intro v8 w8 hS8
        clear q0 q1 q2 q3 q4 q5 q6 q7 q8 q9 q10 q11 fq hT8 hu8 hS7
        obtain ⟨⟨q0, q1, q2, q3, q4, q5, q6, q7, q8, q9, q10, q11⟩, fq⟩ := var12 (hS8.keep _ _ (List.mem_singleton.2 rfl)).1
        go_wp2_with (first | (go_at_call 39; refine (noted_c _ _ _).mono ?_; rintro e u9 ⟨pv9, rfl, hO9, hu9⟩; have hT9 := hS8.call hu9) | (at_builtin; refine wpList_app_own rfl _ _ rfl hT9 rfl (notedT nd nt) _ hO9 rfl (by simp; omega) ?_))
        intro v9 w9 hS9
        clear q0 q1 q2 q3 q4 q5 q6 q7 q8 q9 q10 q11 fq hT9 hu9 hS8 hO9
        go_wp2
        go_roundw
        case rel =>
          refine ⟨j + 1, by omega, by go_num, own_eq (by rw [HNX.out, attrT]; simp []) hS9.own, hS9.below, (fun g O h => by cases h)⟩
        case measure => simp [intOf]; omega
      | false =>
        by_cases h6 : 0 < pn
        · have e3 : (0 : Int) < pn := by omega
          have hne : prm ≠ [] := fun h => by have := HPN.out; rw [h] at this; simp at this; omega
          go_wp2_with (first | (go_at_call 37; refine (mark_c _ _).mono ?_; rintro e u5 ⟨rfl, hu5⟩; have hT5 := hS4.call hu5) | (at_builtin; refine wpList_app_lit rfl _ _ rfl hT5 rfl [zM 99] _ rfl 1 rfl (by simp; omega) ?_))
          intro v5 w5 hS5
          clear q0 q1 q2 q3 q4 q5 q6 q7 q8 q9 q10 q11 fq hT5 hu5 hS4
          obtain ⟨⟨q0, q1, q2, q3, q4, q5, q6, q7, q8, q9, q10, q11⟩, fq⟩ := var12 (hS5.keep _ _ (List.mem_singleton.2 rfl)).1
          go_wp2_with (first | (go_at_call 39; refine (noted_c _ _ _).mono ?_; rintro e u6 ⟨pv6, rfl, hO6, hu6⟩; have hT6 := hS5.call hu6) | (at_builtin; refine wpList_app_own rfl _ _ rfl hT6 rfl (notedT nd nt) _ hO6 rfl (by simp; omega) ?_))
          intro v6 w6 hS6
          clear q0 q1 q2 q3 q4 q5 q6 q7 q8 q9 q10 q11 fq hT6 hu6 hS5 hO6
          go_wp2
          go_roundw
          case rel =>
            refine ⟨j + 1, by omega, by go_num, own_eq (by rw [HNX.out, attrT]; simp [hne]) hS6.own, hS6.below, (fun g O h => by cases h)⟩
          case measure => simp [intOf]; omega
        · have e3 : ¬ (0 : Int) < pn := by omega
          have hne : prm = [] := List.eq_nil_of_length_eq_zero (by have := HPN.out; omega)
          go_wp2_with (first | (go_at_call 39; refine (noted_c _ _ _).mono ?_; rintro e u5 ⟨pv5, rfl, hO5, hu5⟩; have hT5 := hS4.call hu5) | (at_builtin; refine wpList_app_own rfl _ _ rfl hT5 rfl (notedT nd nt) _ hO5 rfl (by simp; omega) ?_))
          intro v5 w5 hS5
          clear q0 q1 q2 q3 q4 q5 q6 q7 q8 q9 q10 q11 fq hT5 hu5 hS4 hO5
          go_wp2
          go_roundw
          case rel =>
            refine ⟨j + 1, by omega, by go_num, own_eq (by rw [HNX.out, attrT]; simp [hne]) hS5.own, hS5.below, (fun g O h => by cases h)⟩
          case measure => simp [intOf]; omega
    · have hlt' : ¬ (j : Int) < N := by omega
      obtain rfl : j = N := by omega
      go_wp2
      go_ret
      refine ⟨_, rfl, ?_, hSt.below⟩
      have := hSt.own
      rwa [List.take_of_length_le (by rw [List.length_map, HX.out]; exact Nat.le_refl _)] at this
end Go.Proofs.YtlbgppijeoonjaaGreatDoor
