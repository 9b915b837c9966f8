import Derived.Test.YtlbgppijeoonjaaGreatDoorOspX
import Derived.Test.YtlbgppijeoonjaaGreatDoorOtp
import Derived.Test.YtlbgppijeoonjaaGreatDoorOaX
import Derived.Test.YtlbgppijeoonjaaGreatDoorRrh
import Derived.Test.YtlbgppijeoonjaaGreatDoorSmc
import Derived.Test.YtlbgppijeoonjaaGreatDoorHdb
namespace Go.Proofs.YtlbgppijeoonjaaGreatDoor.Own
open Go.RowKit
set_option linter.unusedVariables false

/-- The objects of a tree, whether there are any or not. -/
theorem objs_rows {w : World} {F : Nat → Prop} {v : Value} {l : List Ob} (h : ObjsAt w F v l) : ∃ (oa : Option Addr) (go n cap : Nat) (qs : List (Ob × Value)), v = .slice oa n cap ∧ qs.length = n ∧ l = qs.map Prod.fst ∧ n ≤ cap ∧
    (n ≠ 0 → oa = some ⟨go, 0, none⟩ ∧ F go ∧ Blk w 71 8 go cap ∧ cap ≤ maxLen) ∧ (∀ j u, (rowsO qs)[j]? = some u → w.cell? ⟨go, j, none⟩ = some u) ∧ (∀ q, q ∈ qs → AttrsAt w F q.2 q.1.attrs) := by
  cases h with
  | @nil a cap => exact ⟨a, 0, 0, cap, [], rfl, rfl, rfl, Nat.zero_le _, fun h => absurd rfl h, fun j u h => by simp [rowsO] at h, fun q hq => by cases hq⟩
  | @row g cap qs a b c d e => exact ⟨_, g, _, cap, qs, rfl, rfl, rfl, d.1, fun _ => ⟨rfl, a, b, d.2⟩, c, e⟩
theorem attrs_len {w : World} {F : Nat → Prop} {a : Option Addr} {n c : Nat} {l : List At} (h : AttrsAt w F (.slice a n c) l) : n = l.length := by
  cases h with
  | nil => rfl
  | row a b c d e => rw [List.length_map]
/-- A row that may be written, in new memory, and not in the block ga. -/
def RowW (W0 w : World) (pa : Option Addr) (n ga : Nat) : Prop := n ≠ 0 → ∃ g cap, pa = some ⟨g, 0, none⟩ ∧ W0.heap.size ≤ g ∧ g ≠ ga ∧ n ≤ cap ∧ cap ≤ maxLen ∧ Blk w 34 12 g cap
theorem attrs_row {W w : World} {base : Nat} {a : Option Addr} {n c : Nat} {l : List At} (h : AttrsAt w (fun g => base ≤ g) (.slice a n c) l) (hF : ∀ g, base ≤ g → W.heap.size ≤ g) : RowW W w a n w.heap.size := by
  intro hn
  cases h with
  | nil => exact absurd rfl hn
  | @row g cap ps x y z d e => exact ⟨g, c, rfl, hF g x, Nat.ne_of_lt y.lt, d.1, d.2, y⟩
theorem RowW.alloc {W w w' : World} {a : Option Addr} {n ga : Nat} (h : RowW W w a n ga) (hb : Below w.heap.size w w') : RowW W w' a n ga := by
  intro hn
  obtain ⟨g, cap, e, h1, h2, h3, h4, h5⟩ := h hn
  exact ⟨g, cap, e, h1, h2, h3, h4, h5.keep (hb.block _ h5.lt)⟩
set_option maxHeartbeats 40000000 in
set_option maxRecDepth 100000 in
theorem own_good (B0 : Nat) (p : Nat → Addr) (s : ByteArray) (w : World) (hE : Env B0 p w) (hF : EnvF B0 p w) (hs : s.size < 4611686018427387904) (tr : Tr) (hx : parseL s.data.toList = .inl tr) :
    Calls Tryz.prog 8 #[.string s] w fun e w' => e = .returned (.bool true) ∧ Below w.heap.size w w' := by
  have c1 := fun W (hW : Below w.heap.size w W) => Parse_any B0 p s W (hE.below (hW.mono hE.size)) (hF.below hE (hW.mono hE.size)) hs
  have c2 := fun W => rparse_any s W hs
  obtain ⟨hol, hLB⟩ := len_parse hx
  rw [hx] at c1 c2
  have ch : ∀ W, Below w.heap.size w W → Calls Tryz.prog 14 #[] W fun e w' => e = .returned (.bool true) ∧ Below W.heap.size W w' := fun W hW =>
    heads_any B0 p W (hE.below (hW.mono hE.size)) (hF.below hE (hW.mono hE.size))
  clear hE hF hx
  have cs : ∀ (W : World) (F F' : Nat → Prop) (pv pv' : Value), Go.Proofs.YtlbgppijeoonjaaGreatDoor.ObjsAt W F pv tr.objs → Go.Proofs.YtlbgppijeoonjaaGreatDoor.ObjsAt W F' pv' tr.objs → Calls Tryz.prog 22 #[.agg (trC tr pv), .agg (trC tr pv'), .bool true] W fun e w' => e = .returned (.bool true) ∧ Below W.heap.size W w' := fun W F F' pv pv' h h' =>
    same_any W true tr tr pv pv' F F' h h' rfl rfl rfl rfl rfl (fun j a a' ha ha' => by rw [ha] at ha'; cases ha'; exact smO_refl true a)
  go_enter Tryz.func8, Tryz.ntmps8
  go_wp2_with fail
  refine (c1 w (Below.refl _ _)).mono ?_
  rintro e w1 ⟨pv, rfl, hO1, hb1⟩
  obtain ⟨oa, go, on, oc, qs, rfl, hql, hqe, hnc, hoa, hc1, hA1⟩ := objs_rows (objsAt_move (Nat.le_refl _) (fun g hF hl => ⟨rfl, hF, hl⟩) hO1 : ObjsAt w1 (fun g => w.heap.size ≤ g ∧ g < w1.heap.size) pv tr.objs)
  unfold trC zero5
  go_wp2_with fail
  have hal := ((Below.refl w1.heap.size w1).alloc (Nat.le_refl _) (.cells #[.string ⟨tr.version.toArray⟩, .string ⟨tr.cpu.toArray⟩, .slice oa on oc, .bool tr.noted, .string ⟨tr.note.toArray⟩] 24)).alloc (by simp) (.cells #[.int .i64 0, .int .i64 0, .int .i64 0, .int .i64 0, .string ⟨#[]⟩] 60)
  have ht2 := heap2_0' w1 (.cells #[.string ⟨tr.version.toArray⟩, .string ⟨tr.cpu.toArray⟩, .slice oa on oc, .bool tr.noted, .string ⟨tr.note.toArray⟩] 24) (.cells #[.int .i64 0, .int .i64 0, .int .i64 0, .int .i64 0, .string ⟨#[]⟩] 60)
  have hO2 : ObjsAt _ (fun g => w.heap.size ≤ g ∧ g < w1.heap.size) (.slice oa on oc) tr.objs := objsAt_move hal.size (fun g hF hl => ⟨hal.block g hl, hF, hl⟩) hO1
  have hbw2 := hb1.trans (hal.mono hb1.size)
  have hbt := hb1.size
  have hst : w1.heap.size + 2 ≤ ((w1.alloc (.cells #[.string ⟨tr.version.toArray⟩, .string ⟨tr.cpu.toArray⟩, .slice oa on oc, .bool tr.noted, .string ⟨tr.note.toArray⟩] 24)).alloc (.cells #[.int .i64 0, .int .i64 0, .int .i64 0, .int .i64 0, .string ⟨#[]⟩] 60)).heap.size := by simp
  clear hal hO1 hb1 hc1 hA1 hoa
  generalize ((w1.alloc (.cells #[.string ⟨tr.version.toArray⟩, .string ⟨tr.cpu.toArray⟩, .slice oa on oc, .bool tr.noted, .string ⟨tr.note.toArray⟩] 24)).alloc (.cells #[.int .i64 0, .int .i64 0, .int .i64 0, .int .i64 0, .string ⟨#[]⟩] 60)) = w2 at *
  generalize w1.heap.size = bt at *
  refine (c1 w2 hbw2).mono ?_
  rintro e w3 ⟨pv, rfl, hP3', hb3⟩
  have hP3 := objsAt_of hP3'
  clear hP3'
  obtain ⟨ua, un, uc, rfl⟩ := Go.Proofs.YtlbgppijeoonjaaGreatDoor.objsAt_shape hP3
  have ht3 := (hb3.block _ (heap_lt ht2)).trans ht2
  have hO3 := objsAt_move hb3.size (fun g hF hl => ⟨hb3.block g hl, hF⟩) hO2
  have hbw3 := hbw2.trans (hb3.mono hbw2.size)
  have hs3 := hb3.size
  clear hb3 ht2 hO2 hbw2
  unfold trC zero5
  go_wp2_with fail
  have hal := ((Below.refl w3.heap.size w3).alloc (Nat.le_refl _) (.cells #[.string ⟨tr.version.toArray⟩, .string ⟨tr.cpu.toArray⟩, .slice ua un uc, .bool tr.noted, .string ⟨tr.note.toArray⟩] 24)).alloc (by simp) (.cells #[.int .i64 0, .int .i64 0, .int .i64 0, .int .i64 0, .string ⟨#[]⟩] 60)
  have hu4 := heap2_0' w3 (.cells #[.string ⟨tr.version.toArray⟩, .string ⟨tr.cpu.toArray⟩, .slice ua un uc, .bool tr.noted, .string ⟨tr.note.toArray⟩] 24) (.cells #[.int .i64 0, .int .i64 0, .int .i64 0, .int .i64 0, .string ⟨#[]⟩] 60)
  have ht4 := (hal.block _ (heap_lt ht3)).trans ht3
  have hO4 := objsAt_move hal.size (fun g hF hl => ⟨hal.block g hl, hF⟩) hO3
  have hP4 : Go.Proofs.YtlbgppijeoonjaaGreatDoor.ObjsAt _ (fun g => bt + 2 ≤ g) (.slice ua un uc) tr.objs := Go.Proofs.YtlbgppijeoonjaaGreatDoor.objsAt_move hal.size (fun g hF hl => ⟨hal.block g hl, by omega⟩) hP3
  have hbw4 := hbw3.trans (hal.mono hbw3.size)
  have hs4 : w3.heap.size + 2 ≤ ((w3.alloc (.cells #[.string ⟨tr.version.toArray⟩, .string ⟨tr.cpu.toArray⟩, .slice ua un uc, .bool tr.noted, .string ⟨tr.note.toArray⟩] 24)).alloc (.cells #[.int .i64 0, .int .i64 0, .int .i64 0, .int .i64 0, .string ⟨#[]⟩] 60)).heap.size := by simp
  clear hal ht3 hO3 hbw3 hP3
  generalize ((w3.alloc (.cells #[.string ⟨tr.version.toArray⟩, .string ⟨tr.cpu.toArray⟩, .slice ua un uc, .bool tr.noted, .string ⟨tr.note.toArray⟩] 24)).alloc (.cells #[.int .i64 0, .int .i64 0, .int .i64 0, .int .i64 0, .string ⟨#[]⟩] 60)) = w4 at *
  generalize w3.heap.size = bu at *
  have hbu : bt + 2 ≤ bu := by omega
  refine (c2 w4).mono ?_
  rintro e w5 ⟨pv, rfl, hV5, hb5⟩
  obtain ⟨va, vn, vc, rfl⟩ := Go.Proofs.YtlbgppijeoonjaaGreatDoor.objsAt_shape hV5
  have ht5 := (hb5.block _ (heap_lt ht4)).trans ht4
  have hu5 := (hb5.block _ (heap_lt hu4)).trans hu4
  have hO5 := objsAt_move hb5.size (fun g hF hl => ⟨hb5.block g hl, hF⟩) hO4
  have hP5 := Go.Proofs.YtlbgppijeoonjaaGreatDoor.objsAt_below hb5 hP4
  have hbw5 := hbw4.trans (hb5.mono hbw4.size)
  have hs5 := hb5.size
  clear hb5 ht4 hu4 hO4 hP4 hbw4 c2
  unfold trC zero5
  go_wp2_with fail
  have hal := ((Below.refl w5.heap.size w5).alloc (Nat.le_refl _) (.cells #[.string ⟨tr.version.toArray⟩, .string ⟨tr.cpu.toArray⟩, .slice va vn vc, .bool tr.noted, .string ⟨tr.note.toArray⟩] 24)).alloc (by simp) (.cells #[.int .i64 0, .int .i64 0, .int .i64 0, .int .i64 0, .string ⟨#[]⟩] 60)
  have hv6 := heap2_0' w5 (.cells #[.string ⟨tr.version.toArray⟩, .string ⟨tr.cpu.toArray⟩, .slice va vn vc, .bool tr.noted, .string ⟨tr.note.toArray⟩] 24) (.cells #[.int .i64 0, .int .i64 0, .int .i64 0, .int .i64 0, .string ⟨#[]⟩] 60)
  have ht6 := (hal.block _ (heap_lt ht5)).trans ht5
  have hu6 := (hal.block _ (heap_lt hu5)).trans hu5
  have hO6 := objsAt_move hal.size (fun g hF hl => ⟨hal.block g hl, hF⟩) hO5
  have hP6 := Go.Proofs.YtlbgppijeoonjaaGreatDoor.objsAt_below hal hP5
  have hV6 : Go.Proofs.YtlbgppijeoonjaaGreatDoor.ObjsAt _ (fun g => bt + 2 ≤ g) (.slice va vn vc) tr.objs := Go.Proofs.YtlbgppijeoonjaaGreatDoor.objsAt_move hal.size (fun g hF hl => ⟨hal.block g hl, by omega⟩) hV5
  have hbw6 := hbw5.trans (hal.mono hbw5.size)
  have hs6 : w5.heap.size + 2 ≤ ((w5.alloc (.cells #[.string ⟨tr.version.toArray⟩, .string ⟨tr.cpu.toArray⟩, .slice va vn vc, .bool tr.noted, .string ⟨tr.note.toArray⟩] 24)).alloc (.cells #[.int .i64 0, .int .i64 0, .int .i64 0, .int .i64 0, .string ⟨#[]⟩] 60)).heap.size := by simp
  clear hal ht5 hu5 hO5 hP5 hbw5 hV5
  have hbv : bu + 2 ≤ w5.heap.size := by omega
  generalize ((w5.alloc (.cells #[.string ⟨tr.version.toArray⟩, .string ⟨tr.cpu.toArray⟩, .slice va vn vc, .bool tr.noted, .string ⟨tr.note.toArray⟩] 24)).alloc (.cells #[.int .i64 0, .int .i64 0, .int .i64 0, .int .i64 0, .string ⟨#[]⟩] 60)) = W0 at *
  generalize w5.heap.size = bv at *
  clear hs3 hs4 hs5
  obtain ⟨oa2, go, on2, oc2, qs, he, hql, hqe, hnc, hoa, hc6, hA6⟩ := objs_rows hO6
  obtain ⟨rfl, rfl, rfl⟩ : oa = oa2 ∧ on = on2 ∧ oc = oc2 := by cases he; exact ⟨rfl, rfl, rfl⟩
  clear he
  have hol2 : on ≤ 1048576 := by rw [← hql, ← List.length_map (f := Prod.fst), ← hqe]; exact hol
  have HQ : Hid (qs.length = on) := hql
  have HE : Hid (tr.objs = qs.map Prod.fst) := hqe
  clear hql hqe hol
  have hon : (on : Int) ≤ 1048576 := by omega
  go_loopw [9] (fun iv wr => ∃ j : Nat, j ≤ on ∧ iv = .int .i64 j ∧ Hid (Below W0.heap.size W0 wr)) (fun iv _ => on - (intOf iv).toNat)
  case atStart => exact ⟨0, by omega, rfl, Below.refl _ _⟩
  case round =>
    obtain ⟨i, hi, rfl, HB⟩ := hrel
    have hBr := HB.out
    have htr := (hBr.block _ (heap_lt ht6)).trans ht6
    obtain ⟨⟨a0, a1, a2, a3, a4⟩, fa⟩ := var5 htr
    by_cases hlt : i < on
    · have hlt' : (i : Int) < on := by omega
      have hi0 : (0 : Int) ≤ i := by omega
      obtain ⟨rfl, hgF, hgB, hcm⟩ := hoa (by omega)
      obtain ⟨⟨ob, pv0⟩, hq⟩ : ∃ x, qs[i]? = some x := ⟨qs[i]'(by rw [HQ.out]; exact hlt), List.getElem?_eq_getElem _⟩
      have hAq := hA6 _ (List.mem_of_getElem? hq)
      have hLq : LenB 1048576 ob.attrs := hLB ob (by rw [HE.out]; exact List.mem_map_of_mem (f := Prod.fst) (List.mem_of_getElem? hq))
      obtain ⟨pa, pn, pc, rfl⟩ := attrsAt_shape hAq
      have hpn : pn = ob.attrs.length := attrs_len hAq
      have hpl := hLq.len
      have x5 : ∀ W, Below W0.heap.size W0 W → W.cell? ⟨go, i * 8 + 5, none⟩ = some (.slice pa pn pc) := fun W hW => by rw [cell_below hW _ _ hgB.lt]; exact hc6 _ _ (by rw [rowsO_at qs i _ hq 5 (by omega)]; rfl)
      have y5 := x5 wr hBr
      have HP : Hid (pn = ob.attrs.length) := hpn
      have hpn2 : (pn : Int) ≤ 1048576 := by omega
      clear hpn hpl
      go_wp2_with fail
      go_loopw [10] (fun kv wr2 => ∃ j : Nat, j ≤ pn ∧ kv = .int .i64 j ∧ Hid (Below W0.heap.size W0 wr2)) (fun kv _ => pn - (intOf kv).toNat)
      case atStart => exact ⟨0, by omega, rfl, hBr⟩
      case round =>
        clear a0 a1 a2 a3 a4 fa y5 htr hBr HB
        obtain ⟨k, hk, rfl, HB2⟩ := hrel
        have hB2 := HB2.out
        have htr := (hB2.block _ (heap_lt ht6)).trans ht6
        obtain ⟨⟨a0, a1, a2, a3, a4⟩, fa⟩ := var5 htr
        have y5 := x5 wr hB2
        by_cases hklt : k < pn
        · have hklt' : (k : Int) < pn := by omega
          have hk0 : (0 : Int) ≤ k := by omega
          obtain ⟨a, hak⟩ : ∃ a, ob.attrs[k]? = some a := ⟨ob.attrs[k]'(by rw [← HP.out]; exact hklt), List.getElem?_eq_getElem _⟩
          have hal := (Below.refl wr.heap.size wr).alloc (Nat.le_refl _) (.cells #[.int .i64 (i : Int), .int .i64 (k : Int)] 3)
          have hB3 := hB2.trans (hal.mono hB2.size)
          have hp7 := heap_alloc_new wr (.cells #[.int .i64 (i : Int), .int .i64 (k : Int)] 3)
          have q0 := cell_of_row _ wr.heap.size 0 _ _ (0, 0) hp7
          have q1 := cell_of_row _ wr.heap.size 1 _ _ (0, 0) hp7
          have ca := attr_ok (wr.alloc (.cells #[.int .i64 (i : Int), .int .i64 (k : Int)] 3)) (fun g => w.heap.size ≤ g ∧ g < bt) tr.version tr.cpu tr.noted tr.note go 0 oc qs on HQ.out (by unfold maxLen; omega) (Nat.lt_of_lt_of_le hgB.lt hB3.size)
            (fun j u hj => by rw [Nat.zero_add, cell_below hB3 _ _ hgB.lt]; exact hc6 j u hj) (fun q hq => attrsAt_of (attrsAt_move hB3.size (fun g hF hl => ⟨hB3.block g hl, hF⟩) (hA6 q hq)))
            wr.heap.size 0 1 2 i [k] rfl (by omega) (by omega) (by unfold maxLen; omega) (heap_lt hp7) q0 (fun j x hj => by
              cases j with
              | zero => simp at hj; subst hj; exact q1
              | succ j => simp at hj) ob _ hq a (.one hak) (copied_any (n := 1048576) (by omega) (hLq.par (List.mem_of_getElem? hak)))
          clear q0 q1 hp7 hal
          go_wp2_with fail
          refine ca.mono ?_
          rintro e w8 ⟨pv', rfl, hA8, hb8⟩
          obtain ⟨an, ao, al, ac, vv, abr, aps, ahd, ant⟩ := a
          obtain ⟨pa', pn', pc', rfl⟩ := attrsAt_shape hA8
          have hB8 := hB3.trans (hb8.mono hB3.size)
          have hbs := hB3.size
          have hW8 := attrs_row (W := W0) hA8 (fun g hg => Nat.le_trans hbs hg)
          clear ca hb8 hA8 a0 a1 a2 a3 a4 fa y5 htr hB2 HB2 hB3 hbs
          unfold atC
          have hal := (Below.refl w8.heap.size w8).alloc (Nat.le_refl _) (.cells #[.string ⟨an.toArray⟩, .int .i64 ao, .int .i64 al, .int .i64 ac, .int .i64 vv.kind, .string ⟨vv.text.toArray⟩, .int .u32 (vv.num : Int), .bool vv.hex, .bool abr, .slice pa' pn' pc', .bool ahd, .string ⟨ant.toArray⟩] 34)
          have hv9 := heap_alloc_new w8 (.cells #[.string ⟨an.toArray⟩, .int .i64 ao, .int .i64 al, .int .i64 ac, .int .i64 vv.kind, .string ⟨vv.text.toArray⟩, .int .u32 (vv.num : Int), .bool vv.hex, .bool abr, .slice pa' pn' pc', .bool ahd, .string ⟨ant.toArray⟩] 34)
          have hB9 := hB8.trans (hal.mono hB8.size)
          have hW9 := hW8.alloc hal
          go_wp2_with fail
          clear hal hW8
          generalize w8.alloc (.cells #[.string ⟨an.toArray⟩, .int .i64 ao, .int .i64 al, .int .i64 ac, .int .i64 vv.kind, .string ⟨vv.text.toArray⟩, .int .u32 (vv.num : Int), .bool vv.hex, .bool abr, .slice pa' pn' pc', .bool ahd, .string ⟨ant.toArray⟩] 34) = w9 at *
          generalize w8.heap.size = ga at *
          go_loopw [13] (fun jv wr3 => ∃ j : Nat, j ≤ pn' ∧ jv = .int .i64 j ∧ Hid (Below W0.heap.size W0 wr3 ∧ wr3.heap[ga]? = some (.cells #[.string ⟨an.toArray⟩, .int .i64 ao, .int .i64 al, .int .i64 ac, .int .i64 vv.kind, .string ⟨vv.text.toArray⟩, .int .u32 (vv.num : Int), .bool vv.hex, .bool abr, .slice pa' pn' pc', .bool ahd, .string ⟨ant.toArray⟩] 34 (0, 0)) ∧ RowW W0 wr3 pa' pn' ga)) (fun jv _ => pn' - (intOf jv).toNat)
          case atStart => exact ⟨0, by omega, rfl, hB9, hv9, hW9⟩
          case round =>
            clear hB9 hv9 hW9
            obtain ⟨j, hj, rfl, HB3⟩ := hrel
            obtain ⟨hB3, hv3, hW3⟩ := HB3.out
            obtain ⟨⟨r0, r1, r2, r3, r4, r5, r6, r7, r8, r9, r10, r11⟩, fr⟩ := var12 hv3
            clear r0 r1 r2 r3 r4 r5 r6 r7 r8 r10 r11 fr
            by_cases hjlt : j < pn'
            · have hjlt' : (j : Int) < pn' := by omega
              have hj0 : (0 : Int) ≤ j := by omega
              obtain ⟨g, cap, rfl, hgW, hga, hnc', hcm', hbl⟩ := hW3 (by omega)
              have hpm : (pn' : Int) ≤ 9223372036854775807 := by unfold maxLen at hcm'; omega
              obtain ⟨u, hu⟩ := hbl.cell (j := j * 12) (by have := Nat.mul_le_mul_right 12 (Nat.le_trans hjlt hnc'); omega)
              have hfz := hbl.fz (j * 12)
              have hg2 := grown_set wr g (j * 12) (.string ⟨#[109, 105, 110, 101]⟩)
              have hv4 := (hg2.block ga (heap_lt hv3) (fun e => by cases e; exact hga rfl)).trans hv3
              have hB4 := hB3.trans (below_of_grown hg2 hgW hB3.size)
              have hbl4 := blk_set (b := g) (i := j * 12) (.string ⟨#[109, 105, 110, 101]⟩) hbl
              have hW4 : RowW W0 (wr.setCell ⟨g, j * 12, none⟩ (.string ⟨#[109, 105, 110, 101]⟩)) (some ⟨g, 0, none⟩) pn' ga := fun _ => ⟨g, cap, rfl, hgW, hga, hnc', hcm', hbl4⟩
              clear hg2 hv3 hB3 hbl hbl4 hW3 HB3
              generalize hwn : wr.setCell ⟨g, j * 12, none⟩ (.string ⟨#[109, 105, 110, 101]⟩) = wn at hv4 hB4 hW4
              go_wp2
              go_roundw
              case rel => exact ⟨j + 1, by omega, by go_num, hB4, hv4, hW4⟩
              case measure => simp [intOf]; omega
            · have hjlt' : ¬ (j : Int) < pn' := by omega
              clear hW3 hv3
              go_wp2
              go_roundw
              case rel => exact ⟨k + 1, by omega, by go_num, hB3⟩
              case measure => simp [intOf]; omega
        · have hklt' : ¬ (k : Int) < pn := by omega
          go_wp2
          go_roundw
          case rel => exact ⟨i + 1, by omega, by go_num, hB2⟩
          case measure => simp [intOf]; omega
    · have hlt' : ¬ (i : Int) < on := by omega
      have hur := (hBr.block _ (heap_lt hu6)).trans hu6
      have hvr := (hBr.block _ (heap_lt hv6)).trans hv6
      have hTO := objsAt_of (objsAt_move hBr.size (fun g hF hl => ⟨hBr.block g hl, hF⟩) hO6)
      have hPr := Go.Proofs.YtlbgppijeoonjaaGreatDoor.objsAt_below hBr hP6
      have hVr := Go.Proofs.YtlbgppijeoonjaaGreatDoor.objsAt_below hBr hV6
      have hbwr := hbw6.trans (hBr.mono hbw6.size)
      have hgBr : on ≠ 0 → oa = some ⟨go, 0, none⟩ ∧ (w.heap.size ≤ go ∧ go < bt) ∧ Blk wr 71 8 go oc ∧ oc ≤ maxLen := fun h => ⟨(hoa h).1, (hoa h).2.1, (hoa h).2.2.1.keep (hBr.block _ (hoa h).2.2.1.lt), (hoa h).2.2.2⟩
      have hrow : ∀ j, j < on → ∃ v, wr.cell? ⟨go, j * 8 + 5, none⟩ = some v ∧ Sh wr (fun g => w.heap.size ≤ g ∧ g < bt) v := fun j hj => by
        obtain ⟨q, hq⟩ : ∃ x, qs[j]? = some x := ⟨qs[j]'(by rw [HQ.out]; exact hj), List.getElem?_eq_getElem _⟩
        refine ⟨q.2, ?_, sh_of (attrsAt_move hBr.size (fun g hF hl => ⟨hBr.block g hl, hF⟩) (hA6 _ (List.mem_of_getElem? hq))) (hLB q.1 (by rw [HE.out]; exact List.mem_map_of_mem (f := Prod.fst) (List.mem_of_getElem? hq)))⟩
        rw [cell_below hBr _ _ (hoa (by omega)).2.2.1.lt]
        exact hc6 _ _ (by rw [rowsO_at qs j _ hq 5 (by omega)]; rfl)
      have hszr := hBr.size
      clear ht6 hu6 hv6 hO6 hP6 hV6 hbw6 hoa hc6 hA6 HB hBr HQ HE hLB
      obtain ⟨⟨b0, b1, b2, b3, b4⟩, fb⟩ := var5 hvr
      have csr := cs wr _ _ _ _ hTO hVr
      clear hTO
      go_wp2_with fail
      unfold trC at csr
      refine csr.mono ?_
      rintro e W1 ⟨rfl, hB1⟩
      have ht1 := (hB1.block _ (heap_lt htr)).trans htr
      have hu1 := (hB1.block _ (heap_lt hur)).trans hur
      have hv1 := (hB1.block _ (heap_lt hvr)).trans hvr
      have hP1 := Go.Proofs.YtlbgppijeoonjaaGreatDoor.objsAt_below hB1 hPr
      have hV1 := Go.Proofs.YtlbgppijeoonjaaGreatDoor.objsAt_below hB1 hVr
      have hbw1 := hbwr.trans (hB1.mono hbwr.size)
      have hS1 := hB1.size
      have hSp0 : Sp W1 wr w.heap.size bt go oc on → True := fun _ => trivial
      have hSp : Sp W1 W1 w.heap.size bt go oc on := ⟨Below.refl _ _, hbt, Nat.le_refl _, fun _ _ _ => rfl, by omega, fun h => ⟨(hgBr h).2.1, (hgBr h).2.2.1.keep (hB1.block _ (hgBr h).2.2.1.lt)⟩, hnc, fun j hj => by
        obtain ⟨v, e1, e2⟩ := hrow j hj
        exact ⟨v, by rw [cell_below hB1 _ _ (World.block_lt_of_cell? wr _ e1)]; exact e1, sh_below hB1 e2⟩⟩
      have hoa : on ≠ 0 → oa = some ⟨go, 0, none⟩ ∧ oc ≤ maxLen := fun h => ⟨(hgBr h).1, (hgBr h).2.2.2⟩
      clear hSp0 htr hur hvr hPr hVr hbwr hgBr hrow hB1 csr a0 a1 a2 a3 a4 fa b0 b1 b2 b3 b4 fb
      have hszb : bv < W1.heap.size := by omega
      clear hS1 hszr hs6
      go_wp2_with fail
      go_loopw [15] (fun iv wr => ∃ j : Nat, j ≤ on ∧ iv = .int .i64 j ∧ Hid (Sp W1 wr w.heap.size bt go oc on)) (fun iv _ => on - (intOf iv).toNat)
      case atStart => exact ⟨0, by omega, rfl, hSp⟩
      case round =>
        clear hSp hlt hlt' hi
        obtain ⟨i, hi, rfl, HS⟩ := hrel
        have hSr := HS.out
        have htr := (hSr.keep bt (by omega) (by omega)).trans ht1
        obtain ⟨⟨a0, a1, a2, a3, a4⟩, fa⟩ := var5 htr
        by_cases hlt : i < on
        · have hlt' : (i : Int) < on := by omega
          have hi0 : (0 : Int) ≤ i := by omega
          have hn0 : on ≠ 0 := by omega
          obtain ⟨rfl, hcm⟩ := hoa hn0
          obtain ⟨v5, x5, hSh⟩ := hSr.row i hlt
          obtain ⟨la, ln, lc, rfl, hln⟩ := sh_shape hSh
          have hln2 : (ln : Int) ≤ 1048576 := by omega
          go_wp2_with fail
          go_loopw [17] (fun kv wr2 => ∃ j : Nat, j ≤ ln ∧ kv = .int .i64 j ∧ Hid (Sp W1 wr2 w.heap.size bt go oc on ∧ Sh wr2 (fun g => w.heap.size ≤ g ∧ g < bt) (.slice la ln lc))) (fun kv _ => ln - (intOf kv).toNat)
          case atStart => exact ⟨0, by omega, rfl, hSr, hSh⟩
          case round =>
            clear hSr hSh x5 a0 a1 a2 a3 a4 fa htr HS
            obtain ⟨k, hk, rfl, HK⟩ := hrel
            obtain ⟨hSr, hSh⟩ := HK.out
            clear HK
            by_cases hklt : k < ln
            · have hklt' : (k : Int) < ln := by omega
              have hk0 : (0 : Int) ≤ k := by omega
              obtain ⟨g, pv, rfl, hgF, hgB, hnc2, hcm2, h9, hSp9⟩ := sh_inv hSh hklt
              obtain ⟨ja, jn, jc, rfl, hjn⟩ := sh_shape hSp9
              have hjn2 : (jn : Int) ≤ 1048576 := by omega
              clear hgB
              go_wp2_with fail
              go_loopw [18] (fun jv wr3 => ∃ j : Nat, j ≤ jn ∧ jv = .int .i64 j ∧ wr3.cell? ⟨g, k * 12 + 9, none⟩ = some (.slice ja jn jc) ∧ Hid (Sp W1 wr3 w.heap.size bt go oc on ∧ Sh wr3 (fun g => w.heap.size ≤ g ∧ g < bt) (.slice (some ⟨g, 0, none⟩) ln lc) ∧ Sh wr3 (fun g => w.heap.size ≤ g ∧ g < bt) (.slice ja jn jc))) (fun jv _ => jn - (intOf jv).toNat)
              case atStart => exact ⟨0, by omega, rfl, h9, hSr, hSh, hSp9⟩
              case round =>
                clear h9 hSr hSh hSp9
                obtain ⟨j, hj, rfl, h9, HJ⟩ := hrel
                obtain ⟨hSr, hSh, hSp9⟩ := HJ.out
                clear HJ
                by_cases hjlt : j < jn
                · have hjlt' : (j : Int) < jn := by omega
                  have hj0 : (0 : Int) ≤ j := by omega
                  obtain ⟨g2, pv2, rfl, hgF2, hgB2, hnc3, hcm3, _, _⟩ := sh_inv hSp9 hjlt
                  obtain ⟨u, hu⟩ := hgB2.cell (j := j * 12) (by have := Nat.mul_le_mul_right 12 (Nat.le_trans hjlt hnc3); omega)
                  have hfz := hgB2.fz (j * 12)
                  have hS4 := hSr.name (.inl hgF2) j (.string ⟨#[115, 112, 111, 105, 108, 116]⟩)
                  have hSh4 := sh_name (b := g2) (j := j) (.string ⟨#[115, 112, 111, 105, 108, 116]⟩) hSh
                  have hSp4 := sh_name (b := g2) (j := j) (.string ⟨#[115, 112, 111, 105, 108, 116]⟩) hSp9
                  have h94 : (wr.setCell ⟨g2, j * 12, none⟩ (.string ⟨#[115, 112, 111, 105, 108, 116]⟩)).cell? ⟨g, k * 12 + 9, none⟩ = some (.slice (some ⟨g2, 0, none⟩) jn jc) := by
                    rw [World.cell?_setCell_other _ _ _ _ (fun e => by have := congrArg Addr.off e; simp at this; omega)]
                    exact h9
                  clear hSr hSh hSp9 hgB2
                  generalize hwn : wr.setCell ⟨g2, j * 12, none⟩ (.string ⟨#[115, 112, 111, 105, 108, 116]⟩) = wn at hS4 hSh4 hSp4 h94
                  go_wp2
                  go_roundw
                  case rel => exact ⟨j + 1, by omega, by go_num, h94, hS4, hSh4, hSp4⟩
                  case measure => simp [intOf]; omega
                · have hjlt' : ¬ (j : Int) < jn := by omega
                  obtain ⟨g', pv', e', _, hgB3, hnc3, hcm3, _, _⟩ := sh_inv hSh hklt
                  obtain rfl : g = g' := by cases e'; rfl
                  clear e'
                  obtain ⟨u, hu⟩ := hgB3.cell (j := k * 12) (by have := Nat.mul_le_mul_right 12 (Nat.le_trans hklt hnc3); omega)
                  have hfz := hgB3.fz (k * 12)
                  have hS4 := hSr.name (.inl hgF) k (.string ⟨#[115, 112, 111, 105, 108, 116]⟩)
                  have hSh4 := sh_name (b := g) (j := k) (.string ⟨#[115, 112, 111, 105, 108, 116]⟩) hSh
                  clear hSr hSh hSp9 hgB3
                  generalize hwn : wr.setCell ⟨g, k * 12, none⟩ (.string ⟨#[115, 112, 111, 105, 108, 116]⟩) = wn at hS4 hSh4
                  go_wp2
                  go_roundw
                  case rel => exact ⟨k + 1, by omega, by go_num, hS4, hSh4⟩
                  case measure => simp [intOf]; omega
            · have hklt' : ¬ (k : Int) < ln := by omega
              have hLr := lr_sh (W0 := W1) hSh
              clear hSh
              go_wp2_with fail
              go_loopw [19, 16] (fun kv lv wr2 => ∃ (j : Nat) (a : Option Addr) (n c : Nat), j ≤ 20 ∧ kv = .int .i64 j ∧ lv = .slice a n c ∧ Hid (n = ln + j ∧ Sp W1 wr2 w.heap.size bt go oc on ∧ Lr W1 wr2 w.heap.size bt (.slice a n c) n)) (fun kv _ _ => 20 - (intOf kv).toNat)
              case atStart => exact ⟨0, _, _, _, by omega, rfl, rfl, rfl, hSr, hLr⟩
              case round =>
                clear hSr hLr
                obtain ⟨j, a, n, c, hj, rfl, rfl, HJ⟩ := hrel
                obtain ⟨hn, hSr, hLr⟩ := HJ.out
                clear HJ
                by_cases hjlt : j < 20
                · have hjlt' : (j : Int) < 20 := by omega
                  have hn2 : n ≤ 1048576 + 20 := by omega
                  have HN : Hid (n = ln + j) := hn
                  clear hn
                  have hal := (Below.refl wr.heap.size wr).alloc (Nat.le_refl _) (.cells #[.string ⟨#[109, 111, 114, 101]⟩, .int .i64 0, .int .i64 0, .int .i64 0, .int .i64 0, .string ⟨#[]⟩, .int .u32 0, .bool false, .bool false, .slice none 0 0, .bool false, .string ⟨#[]⟩] 34)
                  have hnew := cell_new7 wr #[.string ⟨#[109, 111, 114, 101]⟩, .int .i64 0, .int .i64 0, .int .i64 0, .int .i64 0, .string ⟨#[]⟩, .int .u32 0, .bool false, .bool false, .slice none 0 0, .bool false, .string ⟨#[]⟩] 34
                  have hS2 := hSr.below hal
                  have hL2 := hLr.below hal
                  clear hSr hLr hal
                  go_wp2_with (at_builtin; refine wpList_app_lr rfl _ _ rfl hS2 hL2 hn2 (s := ⟨#[109, 111, 114, 101]⟩) rfl rfl hnew ?_)
                  intro v3 w3 hS3 hL3
                  obtain ⟨a3, c3, rfl⟩ := hL3.shape
                  clear hnew hS2 hL2
                  go_wp2
                  go_roundw
                  case rel => exact ⟨j + 1, _, _, _, by omega, by go_num, rfl, by rw [HN.out, Nat.add_assoc], hS3, hL3⟩
                  case measure => simp [intOf]; omega
                · have hjlt' : ¬ (j : Int) < 20 := by omega
                  clear hLr hn
                  have htr := (hSr.keep bt (by omega) (by omega)).trans ht1
                  obtain ⟨⟨a0, a1, a2, a3, a4⟩, fa⟩ := var5 htr
                  obtain ⟨hgo, hbo⟩ := hSr.blk hn0
                  obtain ⟨u, hu⟩ := hbo.cell (j := i * 8) (by have := Nat.mul_le_mul_right 8 (Nat.le_trans hlt hnc); omega)
                  have hfz := hbo.fz (i * 8)
                  have hS4 := hSr.kind hn0 i (.string ⟨#[115, 112, 111, 105, 108, 116]⟩)
                  clear hSr hbo
                  generalize hwn : wr.setCell ⟨go, i * 8, none⟩ (.string ⟨#[115, 112, 111, 105, 108, 116]⟩) = wn at hS4
                  go_wp2
                  go_roundw
                  case rel => exact ⟨i + 1, by omega, by go_num, hS4⟩
                  case measure => simp [intOf]; omega
        · have hlt' : ¬ (i : Int) < on := by omega
          have hur := (hSr.keep bu (by omega) (by omega)).trans hu1
          have hvr := (hSr.keep bv (by omega) (by omega)).trans hv1
          have hPr := Go.Proofs.YtlbgppijeoonjaaGreatDoor.objsAt_move hSr.size (fun g hF hl => ⟨hSr.keep g hl (by omega), hF⟩) hP1
          have hVr := Go.Proofs.YtlbgppijeoonjaaGreatDoor.objsAt_move hSr.size (fun g hF hl => ⟨hSr.keep g hl (by omega), hF⟩) hV1
          have hbwr := hbw1.trans hSr.bel
          clear hu1 hv1 ht1 hP1 hV1 hbw1 hSr HS
          obtain ⟨⟨d0, d1, d2, d3, d4⟩, fd⟩ := var5 hur
          obtain ⟨⟨b0, b1, b2, b3, b4⟩, fb⟩ := var5 hvr
          have csr := cs wr _ _ _ _ hPr hVr
          go_wp2_with fail
          unfold trC at csr
          refine csr.mono ?_
          rintro e w7 ⟨rfl, hB7⟩
          have hv7 := (hB7.block _ (heap_lt hvr)).trans hvr
          have hV7 := Go.Proofs.YtlbgppijeoonjaaGreatDoor.objsAt_below hB7 hVr
          have hbw7 := hbwr.trans (hB7.mono hbwr.size)
          clear hur hvr hPr hVr hbwr hB7 csr htr a0 a1 a2 a3 a4 fa d0 d1 d2 d3 d4 fd b0 b1 b2 b3 b4 fb
          go_wp2_with fail
          refine (c1 w7 hbw7).mono ?_
          rintro e w8 ⟨pv, rfl, hQ8', hb8⟩
          have hQ8 := objsAt_of hQ8'
          clear hQ8'
          obtain ⟨ka, kn, kc, rfl⟩ := Go.Proofs.YtlbgppijeoonjaaGreatDoor.objsAt_shape hQ8
          have hv8 := (hb8.block _ (heap_lt hv7)).trans hv7
          have hV8 := Go.Proofs.YtlbgppijeoonjaaGreatDoor.objsAt_below hb8 hV7
          have hbw8 := hbw7.trans (hb8.mono hbw7.size)
          clear hv7 hV7 hbw7 hb8 c1
          unfold trC zero5
          have hal := ((Below.refl w8.heap.size w8).alloc (Nat.le_refl _) (.cells #[.string ⟨tr.version.toArray⟩, .string ⟨tr.cpu.toArray⟩, .slice ka kn kc, .bool tr.noted, .string ⟨tr.note.toArray⟩] 24)).alloc (by simp) (.cells #[.int .i64 0, .int .i64 0, .int .i64 0, .int .i64 0, .string ⟨#[]⟩] 60)
          have hk9 := heap2_0' w8 (.cells #[.string ⟨tr.version.toArray⟩, .string ⟨tr.cpu.toArray⟩, .slice ka kn kc, .bool tr.noted, .string ⟨tr.note.toArray⟩] 24) (.cells #[.int .i64 0, .int .i64 0, .int .i64 0, .int .i64 0, .string ⟨#[]⟩] 60)
          have hv9 := (hal.block _ (heap_lt hv8)).trans hv8
          have hQ9 := Go.Proofs.YtlbgppijeoonjaaGreatDoor.objsAt_below hal hQ8
          have hV9 := Go.Proofs.YtlbgppijeoonjaaGreatDoor.objsAt_below hal hV8
          have hbw9 := hbw8.trans (hal.mono hbw8.size)
          clear hv8 hV8 hbw8 hal hQ8
          obtain ⟨⟨a0, a1, a2, a3, a4⟩, fa⟩ := var5 hk9
          obtain ⟨⟨b0, b1, b2, b3, b4⟩, fb⟩ := var5 hv9
          go_wp2_with fail
          clear a0 a1 a2 a3 a4 fa b0 b1 b2 b3 b4 fb hk9 hv9
          generalize ((w8.alloc (.cells #[.string ⟨tr.version.toArray⟩, .string ⟨tr.cpu.toArray⟩, .slice ka kn kc, .bool tr.noted, .string ⟨tr.note.toArray⟩] 24)).alloc (.cells #[.int .i64 0, .int .i64 0, .int .i64 0, .int .i64 0, .string ⟨#[]⟩] 60)) = w9 at *
          refine (cs w9 _ _ _ _ hQ9 hV9).mono ?_
          rintro e w10 ⟨rfl, hB10⟩
          have hbw10 := hbw9.trans (hB10.mono hbw9.size)
          clear hbw9 hB10 hQ9 hV9 cs
          go_wp2_with fail
          refine (ch w10 hbw10).mono ?_
          rintro e w11 ⟨rfl, hB11⟩
          have hbw11 := hbw10.trans (hB11.mono hbw10.size)
          clear hbw10 hB11 ch
          go_wp2
          go_ret
          exact ⟨rfl, hbw11⟩
end Go.Proofs.YtlbgppijeoonjaaGreatDoor.Own

namespace Go.Proofs.YtlbgppijeoonjaaGreatDoor.Own
open Go.RowKit
set_option linter.unusedVariables false

set_option maxHeartbeats 8000000 in
set_option maxRecDepth 100000 in
theorem own_bad (B0 : Nat) (p : Nat → Addr) (s : ByteArray) (w : World) (hE : Env B0 p w) (hF : EnvF B0 p w) (hs : s.size < 4611686018427387904) (c : Nat) (o l k : Int) (hx : parseL s.data.toList = .inr (c, o, l, k)) :
    Calls Tryz.prog 8 #[.string s] w fun e w' => e = .returned (.bool true) ∧ Below w.heap.size w w' := by
  have c1 := fun W (hW : Below w.heap.size w W) => Parse_any B0 p s W (hE.below (hW.mono hE.size)) (hF.below hE (hW.mono hE.size)) hs
  have c2 := fun W => rparse_any s W hs
  rw [hx] at c1 c2
  have ch : ∀ W, Below w.heap.size w W → Calls Tryz.prog 14 #[] W fun e w' => e = .returned (.bool true) ∧ Below W.heap.size W w' := fun W hW =>
    heads_any B0 p W (hE.below (hW.mono hE.size)) (hF.below hE (hW.mono hE.size))
  clear hE hF hx
  have cs : ∀ W : World, Calls Tryz.prog 22 #[.agg #[.string ⟨#[]⟩, .string ⟨#[]⟩, .slice none 0 0, .bool false, .string ⟨#[]⟩], .agg #[.string ⟨#[]⟩, .string ⟨#[]⟩, .slice none 0 0, .bool false, .string ⟨#[]⟩], .bool true] W fun e w' => e = .returned (.bool true) ∧ Below W.heap.size W w' := fun W => same_zero W true [] [] false [] none none 0 0
  go_enter Tryz.func8, Tryz.ntmps8
  go_wp2_with fail
  refine (c1 w (Below.refl _ _)).mono ?_
  rintro e w1a ⟨rfl, hb1⟩
  unfold zeroT
  have hbw1 := hb1
  go_wp2_with fail
  have hal := ((Below.refl w1a.heap.size w1a).alloc (Nat.le_refl _) (.cells #[.string ⟨#[]⟩, .string ⟨#[]⟩, .slice none 0 0, .bool false, .string ⟨#[]⟩] 24)).alloc (by simp) (.cells #[.int .i64 (c : Int), .int .i64 o, .int .i64 l, .int .i64 k, .string ⟨#[]⟩] 60)
  have ht1 := heap2_0' w1a (.cells #[.string ⟨#[]⟩, .string ⟨#[]⟩, .slice none 0 0, .bool false, .string ⟨#[]⟩] 24) (.cells #[.int .i64 (c : Int), .int .i64 o, .int .i64 l, .int .i64 k, .string ⟨#[]⟩] 60)
  have hbx1 := hbw1.trans (hal.mono hbw1.size)
  clear hal hb1 hbw1
  generalize ((w1a.alloc (.cells #[.string ⟨#[]⟩, .string ⟨#[]⟩, .slice none 0 0, .bool false, .string ⟨#[]⟩] 24)).alloc (.cells #[.int .i64 (c : Int), .int .i64 o, .int .i64 l, .int .i64 k, .string ⟨#[]⟩] 60)) = w1b at *
  generalize w1a.heap.size = bt at *
  go_wp2_with fail
  refine (c1 w1b hbx1).mono ?_
  rintro e w2a ⟨rfl, hb2⟩
  unfold zeroT
  have htm2 := (hb2.block _ (heap_lt ht1)).trans ht1
  clear ht1
  have hbw2 := hbx1.trans (hb2.mono hbx1.size)
  go_wp2_with fail
  have hal := ((Below.refl w2a.heap.size w2a).alloc (Nat.le_refl _) (.cells #[.string ⟨#[]⟩, .string ⟨#[]⟩, .slice none 0 0, .bool false, .string ⟨#[]⟩] 24)).alloc (by simp) (.cells #[.int .i64 (c : Int), .int .i64 o, .int .i64 l, .int .i64 k, .string ⟨#[]⟩] 60)
  have hu2 := heap2_0' w2a (.cells #[.string ⟨#[]⟩, .string ⟨#[]⟩, .slice none 0 0, .bool false, .string ⟨#[]⟩] 24) (.cells #[.int .i64 (c : Int), .int .i64 o, .int .i64 l, .int .i64 k, .string ⟨#[]⟩] 60)
  have ht2 := (hal.block _ (heap_lt htm2)).trans htm2
  clear htm2
  have hbx2 := hbw2.trans (hal.mono hbw2.size)
  clear hal hb2 hbw2
  generalize ((w2a.alloc (.cells #[.string ⟨#[]⟩, .string ⟨#[]⟩, .slice none 0 0, .bool false, .string ⟨#[]⟩] 24)).alloc (.cells #[.int .i64 (c : Int), .int .i64 o, .int .i64 l, .int .i64 k, .string ⟨#[]⟩] 60)) = w2b at *
  generalize w2a.heap.size = bu at *
  go_wp2_with fail
  refine (c2 w2b).mono ?_
  rintro e w3a ⟨rfl, hb3⟩
  unfold zeroT
  have htm3 := (hb3.block _ (heap_lt ht2)).trans ht2
  clear ht2
  have hum3 := (hb3.block _ (heap_lt hu2)).trans hu2
  clear hu2
  have hbw3 := hbx2.trans (hb3.mono hbx2.size)
  go_wp2_with fail
  have hal := ((Below.refl w3a.heap.size w3a).alloc (Nat.le_refl _) (.cells #[.string ⟨#[]⟩, .string ⟨#[]⟩, .slice none 0 0, .bool false, .string ⟨#[]⟩] 24)).alloc (by simp) (.cells #[.int .i64 (c : Int), .int .i64 o, .int .i64 l, .int .i64 k, .string ⟨#[]⟩] 60)
  have hv3 := heap2_0' w3a (.cells #[.string ⟨#[]⟩, .string ⟨#[]⟩, .slice none 0 0, .bool false, .string ⟨#[]⟩] 24) (.cells #[.int .i64 (c : Int), .int .i64 o, .int .i64 l, .int .i64 k, .string ⟨#[]⟩] 60)
  have ht3 := (hal.block _ (heap_lt htm3)).trans htm3
  clear htm3
  have hu3 := (hal.block _ (heap_lt hum3)).trans hum3
  clear hum3
  have hbx3 := hbw3.trans (hal.mono hbw3.size)
  clear hal hb3 hbw3
  generalize ((w3a.alloc (.cells #[.string ⟨#[]⟩, .string ⟨#[]⟩, .slice none 0 0, .bool false, .string ⟨#[]⟩] 24)).alloc (.cells #[.int .i64 (c : Int), .int .i64 o, .int .i64 l, .int .i64 k, .string ⟨#[]⟩] 60)) = w3b at *
  generalize w3a.heap.size = bv at *
  obtain ⟨⟨a0, a1, a2, a3, a4⟩, fa⟩ := var5 ht3
  obtain ⟨⟨b0, b1, b2, b3, b4⟩, fb⟩ := var5 hv3
  go_loopw [9] (fun iv wr => iv = .int .i64 0 ∧ Hid (wr = w3b)) (fun _ _ => 0)
  case atStart => exact ⟨rfl, rfl⟩
  case round =>
    obtain ⟨rfl, HB⟩ := hrel
    obtain rfl := HB.out
    go_wp2_with fail
    refine (cs wr).mono ?_
    rintro e w4 ⟨rfl, hb4⟩
    have ht4 := (hb4.block _ (heap_lt ht3)).trans ht3
    have hu4 := (hb4.block _ (heap_lt hu3)).trans hu3
    have hv4 := (hb4.block _ (heap_lt hv3)).trans hv3
    have hbx4 := hbx3.trans (hb4.mono hbx3.size)
    clear ht3 hu3 hv3 hbx3 hb4 a0 a1 a2 a3 a4 fa b0 b1 b2 b3 b4 fb HB
    obtain ⟨⟨a0, a1, a2, a3, a4⟩, fa⟩ := var5 ht4
    obtain ⟨⟨d0, d1, d2, d3, d4⟩, fd⟩ := var5 hu4
    obtain ⟨⟨b0, b1, b2, b3, b4⟩, fb⟩ := var5 hv4
    go_wp2_with fail
    go_loopw [15] (fun iv wr => iv = .int .i64 0 ∧ Hid (wr = w4)) (fun _ _ => 0)
    case atStart => exact ⟨rfl, rfl⟩
    case round =>
      obtain ⟨rfl, HB⟩ := hrel
      obtain rfl := HB.out
      go_wp2_with fail
      rename_i wq
      refine (cs _).mono ?_
      rintro e w5 ⟨rfl, hb5⟩
      have hv5 := (hb5.block _ (heap_lt hv4)).trans hv4
      have hbx5 := hbx4.trans (hb5.mono hbx4.size)
      clear ht4 hu4 hv4 hbx4 hb5 a0 a1 a2 a3 a4 fa b0 b1 b2 b3 b4 fb d0 d1 d2 d3 d4 fd HB
      go_wp2_with fail
      refine (c1 w5 hbx5).mono ?_
      rintro e w6 ⟨rfl, hb6⟩
      unfold zeroT
      have hv6 := (hb6.block _ (heap_lt hv5)).trans hv5
      have hbx6 := hbx5.trans (hb6.mono hbx5.size)
      have hal := ((Below.refl w6.heap.size w6).alloc (Nat.le_refl _) (.cells #[.string ⟨#[]⟩, .string ⟨#[]⟩, .slice none 0 0, .bool false, .string ⟨#[]⟩] 24)).alloc (by simp) (.cells #[.int .i64 (c : Int), .int .i64 o, .int .i64 l, .int .i64 k, .string ⟨#[]⟩] 60)
      have hk7 := heap2_0' w6 (.cells #[.string ⟨#[]⟩, .string ⟨#[]⟩, .slice none 0 0, .bool false, .string ⟨#[]⟩] 24) (.cells #[.int .i64 (c : Int), .int .i64 o, .int .i64 l, .int .i64 k, .string ⟨#[]⟩] 60)
      have hv7 := (hal.block _ (heap_lt hv6)).trans hv6
      have hbx7 := hbx6.trans (hal.mono hbx6.size)
      clear hv5 hv6 hbx5 hbx6 hal hb6
      obtain ⟨⟨a0, a1, a2, a3, a4⟩, fa⟩ := var5 hk7
      obtain ⟨⟨b0, b1, b2, b3, b4⟩, fb⟩ := var5 hv7
      go_wp2_with fail
      clear a0 a1 a2 a3 a4 fa b0 b1 b2 b3 b4 fb hk7 hv7
      generalize ((w6.alloc (.cells #[.string ⟨#[]⟩, .string ⟨#[]⟩, .slice none 0 0, .bool false, .string ⟨#[]⟩] 24)).alloc (.cells #[.int .i64 (c : Int), .int .i64 o, .int .i64 l, .int .i64 k, .string ⟨#[]⟩] 60)) = w7 at *
      refine (cs w7).mono ?_
      rintro e w8 ⟨rfl, hb8⟩
      have hbx8 := hbx7.trans (hb8.mono hbx7.size)
      clear hbx7 hb8
      go_wp2_with fail
      refine (ch w8 hbx8).mono ?_
      rintro e w9 ⟨rfl, hb9⟩
      have hbx9 := hbx8.trans (hb9.mono hbx8.size)
      clear hbx8 hb9 ch cs c1
      go_wp2
      go_ret
      exact ⟨rfl, hbx9⟩
theorem own_any (B0 : Nat) (p : Nat → Addr) (s : ByteArray) (w : World) (hE : Env B0 p w) (hF : EnvF B0 p w) (hs : s.size < 4611686018427387904) :
    Calls Tryz.prog 8 #[.string s] w fun e w' => e = .returned (.bool true) ∧ Below w.heap.size w w' := by
  cases hx : parseL s.data.toList with
  | inl tr => exact own_good B0 p s w hE hF hs tr hx
  | inr x => obtain ⟨c, o, l, k⟩ := x; exact own_bad B0 p s w hE hF hs c o l k hx
end Go.Proofs.YtlbgppijeoonjaaGreatDoor.Own

