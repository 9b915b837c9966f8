import Derived.Test.YtlbgppijeoonjaaGreatDoorScaX
import Derived.Test.YtlbgppijeoonjaaGreatDoorNxX
namespace Go.Proofs.YtlbgppijeoonjaaGreatDoor
open Go.RowKit
set_option linter.unusedVariables false

/-- What scanning leaves. -/
def ScanPost (p : Nat → Addr) (w : World) (t : List UInt8) (x : (List (Tk × Nat)) ⊕ (Nat × Nat)) (e : Ending) (w' : World) : Prop :=
  match x with
  | .inl ts => ∃ v, e = .returned (.tuple #[v, .nilIface]) ∧ w'.ownsRow w.heap.size 57 7 v ts.length (tksL t ts) ∧ Below w.heap.size w w'
  | .inr (c, a) => ∃ q, e = .returned (.tuple #[.slice none 0 0, .iface 139 (.pointer (some ⟨q, 0, none⟩))]) ∧ w.heap.size ≤ q ∧ ErrAt w' q (.iface 224 (.pointer (some (p c)))) t a ∧ Below w.heap.size w w'
set_option maxHeartbeats 8000000 in
set_option maxRecDepth 100000 in
theorem scan_any (B0 : Nat) (p : Nat → Addr) (s : ByteArray) (w : World) (hE : Env B0 p w) (hs : s.size < 4611686018427387904) :
    Calls Tryz.prog 63 #[.string s] w fun e w' => ScanPost p w s.data.toList (scanA s.data.toList) e w' := by
  obtain ⟨x, hx⟩ : ∃ x, x = scanA s.data.toList := ⟨_, rfl⟩
  rw [← hx]
  have hBs := hE.size
  obtain ⟨i0, hi, hz0, hz1, hz2⟩ := info_parts Tryz.info57
  have hS0 : Sc (w.alloc (.cells #[.string s, .int .i64 0, .int .i64 1, .int .i64 0] 135)) w.heap.size s 0 := ⟨heap_alloc_new _ _⟩
  have hb0 : Below w.heap.size w (w.alloc (.cells #[.string s, .int .i64 0, .int .i64 1, .int .i64 0] 135)) := (Below.refl _ _).alloc (Nat.le_refl _) _
  by_cases hbig : 262144 < s.size
  · have hbig' : (262144 : Int) < s.size := by omega
    have HX : Hid (x = .inr (24, 0)) := by show x = _; rw [hx]; unfold scanA; rw [if_pos (by rw [len_all]; exact hbig)]
    have lg := (hE.below (hb0.mono hBs)).long
    clear hx
    go_enter Tryz.func63, Tryz.ntmps63
    go_wp2_with fail
    refine (wrong_any w.heap.size 0 s 0 _ hS0 (by omega) (fun i hi => absurd hi (Nat.not_lt_zero _)) _ _).mono ?_
    rintro e w3 ⟨q, rfl, hq, hErr, hb3⟩
    have hb4 := hb0.trans (hb3.mono hb0.size)
    have hsz := hb0.size
    clear hS0 lg hb0 hb3
    go_wp2
    go_ret2
    rw [HX.out]
    exact ⟨q, rfl, by omega, hErr, hb4⟩
  · have hbig' : ¬ (262144 : Int) < s.size := by omega
    have hs' : s.size < 4294967281 := by omega
    have HX : Hid (x = scanF s.data.toList (s.size + 1) 0) := by show x = _; rw [hx]; unfold scanA; rw [if_neg (by rw [len_all]; exact hbig), len_all]
    clear hx
    go_enter Tryz.func63, Tryz.ntmps63
    go_wp2
    go_loopw [5] (fun v wr => ∃ (off : Nat) (ts : List (Tk × Nat)), off ≤ s.size ∧ ts.length ≤ off ∧ Sc wr w.heap.size s off ∧ wr.ownsRow (w.heap.size + 1) 57 7 v ts.length (tksL s.data.toList ts) ∧ Below w.heap.size w wr ∧ Hid (x = preS ts (scanF s.data.toList (s.size + 1 - ts.length) off)))
      (fun _ wr => s.size - scOff wr w.heap.size)
    case atStart => exact ⟨0, [], by omega, by simp, hS0, World.ownsRow_nil _ _ _ _, hb0, (by show x = _; rw [HX.out]; cases scanF s.data.toList (s.size + 1 - ([] : List (Tk × Nat)).length) 0 <;> rfl)⟩
    case round =>
      obtain ⟨off, ts, hoff, hts, hS, hO, hb, hh⟩ := hrel
      clear hS0 hb0 HX
      have hsc := scOff_eq hS
      have HSC : Hid (scOff wr w.heap.size = off) := hsc
      have hEr := hE.below (hb.mono hBs)
      have hsz := hb.size
      have hrl := Sc4.lt hS
      obtain ⟨f, hf⟩ : ∃ f, s.size + 1 - ts.length = f + 1 := ⟨s.size - ts.length, by omega⟩
      have hh2 := hh.out
      rw [hf] at hh2
      obtain ⟨o, ho⟩ : ∃ o, off + (skipL (s.data.toList.drop off)).1 = o := ⟨_, rfl⟩
      obtain ⟨y, hy⟩ : ∃ y, nxT (s.data.toList.drop off) = y := ⟨_, rfl⟩
      have cn := next_any B0 w.heap.size off p s wr hEr hS hBs hoff hs'
      rw [ho, hy] at cn
      obtain ⟨av, cv, rfl⟩ := own_shape7 hO
      have hf' : f = s.size - ts.length := by omega
      cases y with
      | bad c a =>
        have HB : Hid (x = .inr (c, o + a)) := by show x = _; rw [hh2, scan_bad hy, ho]; rfl
        clear hh hh2 hy ho hf hf' hsc
        go_wp2_with fail
        refine cn.mono ?_
        rintro e w3 ⟨q, rfl, hq, hErr, hg3⟩
        have hb3 : Below w.heap.size w w3 := hb.trans (below_of_grown hg3 (Nat.le_refl _) hsz)
        have hlt := heap_lt hErr
        unfold zero7
        clear cn hO hS hg3
        go_wp2
        go_ret2
        rw [HB.out]
        exact ⟨q, rfl, by omega, ((((Below.refl w3.heap.size w3).alloc (Nat.le_refl _) _).block q hlt)).trans hErr, hb3.alloc hb3.size _⟩
      | ok k len =>
        have hnl := nx_len hy
        rw [List.length_drop, len_all] at hnl
        have HE0 : Hid (k.kind = 0 → x = .inl (ts ++ [(k, o)])) := fun hk => by rw [hh2, scan_end hy hk, ho]; rfl
        have HE1 : Hid (¬ k.kind = 0 → x = preS (ts ++ [(k, o)]) (scanF s.data.toList (s.size + 1 - (ts ++ [(k, o)]).length) (o + len))) := fun hk => by
          rw [hh2, scan_more hy hk, preS_pre, ho]
          rw [show s.size + 1 - (ts ++ [(k, o)]).length = f by rw [List.length_append]; simp; omega]
        have hol : o + len ≤ s.size := by omega
        have hol2 : k.kind ≠ 0 → off < o + len := fun h => by have := hnl.2 h; omega
        clear hh hh2 hy ho hf hf' hsc hnl
        obtain ⟨kk, kt, kv, kh⟩ := k
        unfold TokPost tkV tkC at cn
        simp only at cn HE0 HE1 hol2
        go_wp2_with fail
        refine cn.mono ?_
        rintro e w3 ⟨rfl, hS3, hg3⟩
        have hb3 : Below w.heap.size w w3 := hb.trans (below_of_grown hg3 (Nat.le_refl _) hsz)
        have hs3 := hb3.size
        have hO3 := own_grown hO hg3 (by omega)
        have hr3 := Sc4.lt hS3
        clear cn hO hS hg3 hEr hb
        have hlen : ts.length ≤ 262144 := by omega
        go_wp2_with (at_builtin; refine wpList_append_own _ rfl (.tmp 25) (.tmp 27) 51 rfl (w.heap.size + 1) 57 i0 (.agg zero7) 7 56 Tryz.underlying51 hi hz0 hz1 hz2 rfl (by decide) _ _ _ rfl ((hO3.alloc _).alloc _) ⟨w3.heap.size + 1, 0, none⟩ 1 1 [.int .i64 (kk : Int), .int .i64 (o : Int), .int .i64 (lineN s.data.toList o : Int), .int .i64 (colN s.data.toList o : Int), .string ⟨kt.toArray⟩, .int .u32 (kv : Int), .bool kh] rfl rfl (cell_new7' w3 _ #[.int .i64 (kk : Int), .int .i64 (o : Int), .int .i64 (lineN s.data.toList o : Int), .int .i64 (colN s.data.toList o : Int), .string ⟨kt.toArray⟩, .int .u32 (kv : Int), .bool kh] _) (one7 _ _ _ _ _ _ _) (by unfold maxLen; omega) (by omega) (by simp; omega) ?_)
        intro v6 w6 ho6 hg6 _
        have hg7 := grown_alloc (grown_alloc hg6)
        have hb6 : Below w.heap.size w w6 := hb3.grown hg7 hs3 (fun k e => by have := (hO3.lt k e).1; omega)
        have hS6 : Sc w6 w.heap.size s (o + len) := ⟨(hg7.block _ hr3 (fun e => by have := (hO3.lt _ e.symm).1; omega)).trans (Sc4.hheap hS3)⟩
        have kt6 : w6.heap[w3.heap.size]? = some (.cells #[.int .i64 (kk : Int), .int .i64 (o : Int), .int .i64 (lineN s.data.toList o : Int), .int .i64 (colN s.data.toList o : Int), .string ⟨kt.toArray⟩, .int .u32 (kv : Int), .bool kh] 57 (0, 0)) := (hg6.block w3.heap.size (by simp; omega) (fun e => by have := (hO3.lt _ e.symm).2; omega)).trans (heap2_0 w3 _ _)
        have ck : w6.cell? ⟨w3.heap.size, 0, none⟩ = some (.int .i64 (kk : Int)) := by rw [cell_of_row w6 w3.heap.size 0 _ _ (0, 0) kt6]; rfl
        have ho7 : w6.ownsRow (w.heap.size + 1) 57 7 v6 (ts ++ [((⟨kk, kt, kv, kh⟩ : Tk), o)]).length (tksL s.data.toList (ts ++ [((⟨kk, kt, kv, kh⟩ : Tk), o)])) := by
          rw [tksL_snoc, List.length_append]; exact ho6
        obtain ⟨av6, cv6, rfl⟩ := own_shape7 ho7
        clear ho6 hg6 hg7 kt6 hO3 hb3 hS3
        by_cases hk : kk = 0
        · have HK : Hid (x = .inl (ts ++ [((⟨kk, kt, kv, kh⟩ : Tk), o)])) := HE0.out hk
          have hk' : ((kk : Int) == 0) = true := by rw [hk]; rfl
          clear HE0 HE1 hk
          go_wp2
          go_ret2
          rw [HK.out]
          exact ⟨_, rfl, own_base ho7 (by omega), hb6⟩
        · have HK : Hid (x = _) := HE1.out hk
          have hk' : ((kk : Int) == 0) = false := by rw [beq_eq_false_iff_ne]; omega
          have hlt := hol2 hk
          clear HE0 HE1 hk hol2
          go_wp2
          go_roundw
          case rel => exact ⟨o + len, ts ++ [((⟨kk, kt, kv, kh⟩ : Tk), o)], hol, by simp; omega, hS6, ho7, hb6, HK.out⟩
          case measure =>
            have h1 := scOff_eq hS6
            rw [h1, HSC.out]
            omega
end Go.Proofs.YtlbgppijeoonjaaGreatDoor
