import Derived.Test.YtlbgppijeoonjaaGreatDoorNub
namespace Go.Proofs.YtlbgppijeoonjaaGreatDoor
open Go.RowKit
set_option linter.unusedVariables false

def numT (l : List UInt8) : TR := match numL (l.take (wlen l)) with | none => .bad 21 0 | some (v, h) => .ok ⟨2, [], v, h⟩ (wlen l)
set_option maxHeartbeats 2000000 in
set_option maxRecDepth 100000 in
theorem number_any (B r off : Nat) (p : Nat → Addr) (s : ByteArray) (w : World) (hE : Env B p w) (h : Sc w r s off) (hr : B ≤ r) (ho : off ≤ s.size) (hw : 0 < wlen (s.data.toList.drop off)) (hs : s.size < 4294967281) :
    Calls Tryz.prog 99 #[.pointer (some ⟨r, 0, none⟩)] w fun e w' => TokPost p w r s off (numT (s.data.toList.drop off)) e w' := by
  obtain ⟨x, hx⟩ : ∃ x, x = numT (s.data.toList.drop off) := ⟨_, rfl⟩
  rw [← hx]
  have hrl := Sc4.lt h
  have hBs := hE.size
  have hwl := wlen_le (s.data.toList.drop off)
  rw [List.length_drop, len_all] at hwl
  have cw := fun w => wordLength_any (rst s off) w (by rw [rst_size]; omega)
  rw [rst_list] at cw
  have hsl : ∀ w, (Instr.slice 9 (.string (rst s off)) none (some (.int .i64 (wlen (s.data.toList.drop off) : Int))) none).run Tryz.prog w = .ok (.string ⟨((s.data.toList.drop off).take (wlen (s.data.toList.drop off))).toArray⟩) w := fun w => by
    have h1 : (0 : Int) ≤ (wlen (s.data.toList.drop off) : Int) ∧ (wlen (s.data.toList.drop off) : Int) ≤ (rst s off).size := by rw [rst_size]; omega
    rw [run_slice_string_to_if w _ _ _ _ Tryz.underlying9, if_pos h1]
    rw [same_bytes _ ((rst s off).extract 0 (wlen (s.data.toList.drop off) : Int).toNat) (by rw [Lib.extract_data, rst_list]; simp)]
  have htl : ((s.data.toList.drop off).take (wlen (s.data.toList.drop off))).length = wlen (s.data.toList.drop off) := by rw [List.length_take, List.length_drop, len_all]; omega
  have HX : Hid (x = match numL ((s.data.toList.drop off).take (wlen (s.data.toList.drop off))) with | none => .bad 21 0 | some (v, h) => .ok ⟨2, [], v, h⟩ (wlen (s.data.toList.drop off))) := hx
  clear hx
  generalize (s.data.toList.drop off).take (wlen (s.data.toList.drop off)) = tx at *
  generalize wlen (s.data.toList.drop off) = n at *
  have hE1 : ∀ {w1 : World}, Below (w.alloc (.cells zero7 57)).heap.size (w.alloc (.cells zero7 57)) w1 → Env B p w1 := fun hb => hE.below ((below_two _ hb).mono hBs)
  have hsz : (⟨tx.toArray⟩ : ByteArray).size = n := by show tx.toArray.size = n; rw [List.size_toArray, htl]
  clear htl
  go_enter Tryz.func99, Tryz.ntmps99
  go_wp2_with fail
  refine (rest_any r off _ _ s _ (Sc4.alloc h _) ho hs).mono ?_
  rintro e w1 ⟨rfl, hb1⟩
  have hS1 : Sc w1 r s off := Sc4.below (Sc4.alloc h _) hb1
  have hv1 := var_in w hb1
  have hb1' := below_two _ hb1
  have hs1 := hb1.size
  simp only [World.size_alloc] at hs1
  go_wp2_with (first
    | (go_at_call 111; refine (cw _).mono ?_; rintro e w2 ⟨rfl, rfl⟩))
  refine (rest_any r off _ _ s _ hS1 ho hs).mono ?_
  rintro e w2 ⟨rfl, hb2⟩
  have hS2 : Sc w2 r s off := Sc4.below hS1 hb2
  have hv2 : w2.heap[w.heap.size]? = _ := (hb2.block _ (heap_lt hv1)).trans hv1
  have hb2' := hb1'.trans (hb2.mono (by omega))
  have hs2 := hb2.size
  have hE2 : Env B p w2 := hE.below (hb2'.mono hBs)
  have cn := numberOf_any B p ⟨tx.toArray⟩ (by rw [hsz]; omega) (by rw [hsz]; exact hw) w2 hE2
  go_wp2_with fail
  refine cn.mono ?_
  rintro e w3 ⟨hP, hb3⟩
  have hS3 : Sc w3 r s off := Sc4.below hS2 hb3
  have hv3 : w3.heap[w.heap.size]? = _ := (hb3.block _ (heap_lt hv2)).trans hv2
  have hb3' := hb2'.trans (hb3.mono (by omega))
  have hs3 := hb3.size
  clear hb1 hb1' hb2 hb2' hv1 hv2 hS1 hS2 cn hE2
  unfold NoPost at hP
  have HX' : Hid (x = match numL tx with | none => .bad 21 0 | some (v, h) => .ok ⟨2, [], v, h⟩ n) := HX
  clear HX
  change (match numL tx with | some (v, h) => _ | none => _) at hP
  generalize numL tx = nl at *
  cases nl with
  | none =>
    have hP' : e = .returned (.tuple #[.int .u32 0, .bool false, .iface 224 (.pointer (some (p 21)))]) := hP
    subst hP'
    go_wp2_with fail
    refine (wrong_any r off s 0 _ hS3 (by omega) (fun i hi => absurd hi (Nat.not_lt_zero _)) _ _).mono ?_
    rintro e w4 ⟨q, rfl, hq, hErr, hb4⟩
    have hv4 : w4.heap[w.heap.size]? = _ := (hb4.block _ (heap_lt hv3)).trans hv3
    obtain ⟨y0, y1, y2, y3, y4, y5, y6, f⟩ := varF hv4
    have hg4 : w.grownBy w4 (some r) := grown_of_below (hb3'.trans (hb4.mono (by omega)))
    clear hv3 hS3 hb3 hb3'
    go_wp2
    rw [show x = .bad 21 0 from HX'.out]
    exact fin_bad Tryz.results99 p w w4 r s off 21 0 q _ hv4 hg4 (by omega) hErr rfl rfl
  | some vh =>
    obtain ⟨v, hx⟩ := vh
    have hP' : e = .returned (.tuple #[.int .u32 (v : Int), .bool hx, .nilIface]) := hP
    subst hP'
    have ct := take_any r off s n ⟨2, [], v, hx⟩ _ hS3 (by omega) hs
    unfold tkV tkC at ct
    simp only at ct
    go_wp2_with fail
    refine ct.mono ?_
    rintro e w4 ⟨rfl, hS4, hg4⟩
    have hv4 := var_grown hv3 hg4 (by omega)
    obtain ⟨y0, y1, y2, y3, y4, y5, y6, f⟩ := varF hv4
    have hg5 : w.grownBy w4 (some r) := grown_trans (grown_of_below hb3') hg4
    clear ct hv3 hS3 hb3 hb3'
    go_wp2
    rw [show x = .ok ⟨2, [], v, hx⟩ n from HX'.out]
    exact fin_ok Tryz.results99 p w w4 r s off n ⟨2, [], v, hx⟩ _ hv4 hg5 hrl hS4 rfl rfl
end Go.Proofs.YtlbgppijeoonjaaGreatDoor
