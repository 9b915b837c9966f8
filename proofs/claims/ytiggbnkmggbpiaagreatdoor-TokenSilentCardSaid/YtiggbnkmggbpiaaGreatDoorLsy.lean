import Derived.Test.YtiggbnkmggbpiaaGreatDoorLsu
namespace Go.Proofs.YtiggbnkmggbpiaaGreatDoor
open Go.RowKit
set_option linter.unusedVariables false

theorem good_len2 {t : List UInt8} {off : Nat} {ts : List (Tk × Nat)} (h : Good t off ts) : ts.length + off ≤ t.length + 1 := by
  induction h with
  | @fin off ho h1 h2 => simp; omega
  | @more off len o k ts ho h1 h2 h3 h4 h5 h6 hg ih => simp; omega
theorem rowT_lt {w : World} {g off n cap : Nat} {xs : List Tp} (h : RowT w (.slice (some ⟨g, off, none⟩) n cap) xs) (hn : 0 < n) : g < w.heap.size := by
  cases h with
  | nil => omega
  | some h _ _ => exact h
theorem appbb (a b : List UInt8) : (⟨a.toArray⟩ : ByteArray) ++ ⟨b.toArray⟩ = ⟨(a ++ b).toArray⟩ := (same_bytes _ _ (by simp [ByteArray.data_append])).symm
set_option maxHeartbeats 4000000 in
set_option maxRecDepth 100000 in
theorem silent_good (B0 : Nat) (p : Nat → Addr) (s : ByteArray) (am : Option Addr) (m cm : Nat) (f : Nat → Nat) (cut : Int) (w : World) (hE : Env B0 p w) (hF : EnvF B0 p w) (hT : EnvT w) (hs : s.size < 4611686018427387904) (hM : MkR w am m f) (ts : List (Tk × Nat)) (hx : scanA s.data.toList = .inl ts) :
    Calls Tryz.prog 6 #[.string s, .slice am m cm, .int .i64 cut] w fun e w' => e = .returned (.bool true) ∧ Below w.heap.size w w' := by
  have c1 := Scan_any B0 p s w hE hF hs
  rw [hx] at c1
  obtain ⟨hG, hl⟩ := scanA_good hx
  rw [len_all] at hl
  have hlen := good_len2 hG
  rw [len_all] at hlen
  have cal : ∀ W, Below w.heap.size w W → Calls Tryz.prog 12 #[] W fun e w' => e = .returned (.bool true) ∧ Below W.heap.size W w' := fun W hb => alive_any B0 p W (hE.below (hb.mono hE.size)) (hF.below hE (hb.mono hE.size)) (hT.below hb)
  go_enter Tryz.func6, Tryz.ntmps6
  go_wp2_with fail
  refine c1.mono ?_
  rintro e w1 ⟨v, rfl, hO, hb1⟩
  rw [tks_tps] at hO
  have hR := row_own hO (by simp)
  obtain ⟨g, cap, hv⟩ : ∃ g cap, v = .slice (some ⟨g, 0, none⟩) ts.length cap := by
    rcases hO.2 with ⟨_, h0⟩ | ⟨g, cap, cur, hv, _⟩
    · exact absurd (List.eq_nil_of_length_eq_zero h0) hG.ne
    · exact ⟨g, cap, hv⟩
  subst hv
  unfold zero5
  have hRa := rowT_below hR ((Below.refl w1.heap.size w1).alloc (Nat.le_refl _) (.cells #[.int .i64 0, .int .i64 0, .int .i64 0, .int .i64 0, .string ⟨#[]⟩] 27))
  have hba := hb1.alloc hb1.size (.cells #[.int .i64 0, .int .i64 0, .int .i64 0, .int .i64 0, .string ⟨#[]⟩] 27)
  clear c1 hO
  go_wp2_with fail
  generalize (w1.alloc (.cells #[.int .i64 0, .int .i64 0, .int .i64 0, .int .i64 0, .string ⟨#[]⟩] 27)) = wa at *
  obtain ⟨n, hn⟩ : ∃ n, n = ts.length := ⟨_, rfl⟩
  rw [← hn] at hRa ⊢
  have HN : Hid (n = ts.length) := hn
  have hnl : n ≤ 262145 := by omega
  have HS0 : Hid (SilI s.data.toList (preB m f) ts 0 [] 0) := ⟨rfl, fun _ _ _ => Nat.zero_le _, Nat.zero_le _⟩
  clear hn hR hlen hx
  go_loopw [9, 10, 11] (fun sv ev i wr => ∃ (j : Nat) (out : List UInt8) (en : Nat), j ≤ n ∧ i = .int .i64 j ∧ sv = .string ⟨out.toArray⟩ ∧ ev = .int .i64 (en : Int) ∧ en ≤ s.size ∧ Hid (SilI s.data.toList (preB m f) ts j out en) ∧ Below wa.heap.size wa wr) (fun _ _ i _ => n - (intOf i).toNat)
  case atStart => exact ⟨0, [], 0, by omega, rfl, rfl, rfl, by omega, HS0.out, Below.refl _ _⟩
  case round =>
    obtain ⟨j, out, en, hj, rfl, rfl, rfl, hen, hh, hb⟩ := hrel
    by_cases hlt : j < n
    · have hlt' : (j : Int) < n := by omega
      obtain ⟨⟨k, o⟩, hjo⟩ : ∃ x, ts[j]? = some x := ⟨ts[j]'(by rw [← HN.out]; exact hlt), List.getElem?_eq_getElem _⟩
      obtain ⟨o1, o2, o3, o4, o5, o6⟩ := hG.ord hjo
      rw [len_all] at o1 o2
      have hol := hh.out.len
      have hbeg := hh.out.beg k o hjo
      have hRr := rowT_below hRa hb
      have hoff : wr.cell? ⟨g, j * 7 + 1, none⟩ = some (.int .i64 (o : Int)) := by
        have := rowT_at hRr (j * 7 + 1) (.int .i64 (o : Int)) (by rw [tps_at _ j (tpOf s.data.toList (k, o)) (by rw [List.getElem?_map, hjo]; rfl) 1 (by omega)]; rfl)
        rwa [Nat.zero_add] at this
      have i1 : ¬ (o : Int) < en := by omega
      have i2 : ¬ (s.size : Int) < o := by omega
      have i3 : ¬ s.size < o := by omega
      have i4 : ¬ o < en := by omega
      by_cases hj1 : j + 1 < n
      · obtain ⟨⟨k', o'⟩, hjo'⟩ : ∃ x, ts[j + 1]? = some x := ⟨ts[j + 1]'(by rw [← HN.out]; exact hj1), List.getElem?_eq_getElem _⟩
        have hoo := o4 k' o' hjo'
        have hole := (hG.ord hjo').le
        rw [len_all] at hole
        have hoff' : wr.cell? ⟨g, (j + 1) * 7 + 1, none⟩ = some (.int .i64 (o' : Int)) := by
          have := rowT_at hRr ((j + 1) * 7 + 1) (.int .i64 (o' : Int)) (by rw [tps_at _ (j + 1) (tpOf s.data.toList (k', o')) (by rw [List.getElem?_map, hjo']; rfl) 1 (by omega)]; rfl)
          rwa [Nat.zero_add] at this
        have hj1' : (j : Int) + 1 < n := by omega
        have hj2' : (j : Int) < n - 1 := by omega
        have i5 : ¬ (o' : Int) < o := by omega
        have i6 : ¬ o' < o := by omega
        have HNXT := hh.out.more hjo hjo' hoo (by rw [len_all]; exact hole)
        have hcut := slice_run s o o' (by omega) hole
        have hpl : ((s.data.toList.drop o).take (o' - o)).length ≤ 262144 := by
          rw [List.length_take, List.length_drop, len_all]; omega
        by_cases hjm : j < m
        · have hjm' : (j : Int) < m := by omega
          obtain ⟨ga, oa, ham, hga, hgc⟩ := hM.at_ j hjm
          have hfl := hM.lt j hjm
          subst ham
          have hmc : wr.cell? ⟨ga, oa + j, none⟩ = some (.int .u8 (f j : Int)) := by
            rw [hb.cell (p := ⟨ga, oa + j, none⟩) (by show ga < wa.heap.size; have := hba.size; omega), hba.cell (p := ⟨ga, oa + j, none⟩) (by show ga < w.heap.size; exact hga)]
            exact hgc
          have hp0 : preB m f j = btw (f j) := by unfold preB; rw [if_pos hjm]
          have hbl := btw_len (f j)
          have cb := between_any (f j) hfl wr
          rw [hp0] at HNXT
          generalize btw (f j) = pb at *
          have HNX : Hid (SilI s.data.toList (preB m f) ts (j + 1) (out ++ pb ++ (s.data.toList.drop o).take (o' - o) ++ [10]) o') := HNXT
          generalize (s.data.toList.drop o).take (o' - o) = pc at *
          have q1 : ¬ 9223372036854775807 < out.length + pb.length := by omega
          have q2 : ¬ 9223372036854775807 < out.length + pb.length + pc.length := by omega
          have q3 : ¬ 9223372036854775807 < out.length + pb.length + pc.length + 1 := by omega
          clear HNXT hp0 hjm hbeg o2 o3 o4 o5 o6 hjo hjo' hgc
          go_wp2_with fail
          refine cb.mono ?_
          rintro e w2 ⟨rfl, hb2⟩
          have hgr := rowT_lt hRr (by omega)
          have hoff2 : w2.cell? ⟨g, j * 7 + 1, none⟩ = some (.int .i64 (o : Int)) := by rw [hb2.cell (p := ⟨g, j * 7 + 1, none⟩) hgr]; exact hoff
          have hbw2 := hb.trans (hb2.mono hb.size)
          clear hoff hoff' hmc cb hRr
          go_wp2
          refine ⟨⟨j + 1, out ++ pb ++ pc ++ [10], o', by omega, by simp, ?_, rfl, hole, HNX, hbw2⟩, by simp [intOf]; omega⟩
          rw [show (#[10] : Array UInt8) = [10].toArray from rfl, appbb, appbb, appbb]
        · have hjm' : ¬ (j : Int) < m := by omega
          have hp0 : preB m f j = [] := by unfold preB; rw [if_neg hjm]
          rw [hp0, List.append_nil] at HNXT
          have HNX : Hid (SilI s.data.toList (preB m f) ts (j + 1) (out ++ (s.data.toList.drop o).take (o' - o) ++ [10]) o') := HNXT
          generalize (s.data.toList.drop o).take (o' - o) = pc at *
          have q1 : ¬ 9223372036854775807 < out.length + pc.length := by omega
          have q2 : ¬ 9223372036854775807 < out.length + pc.length + 1 := by omega
          clear HNXT hp0 hjm hbeg o2 o3 o4 o5 o6 hjo hjo'
          go_wp2
          refine ⟨⟨j + 1, out ++ pc ++ [10], o', by omega, by simp, ?_, rfl, hole, HNX, hb⟩, by simp [intOf]; omega⟩
          rw [show (#[10] : Array UInt8) = [10].toArray from rfl, appbb, appbb]
      · have hj1' : ¬ (j : Int) + 1 < n := by omega
        have hj2' : ¬ (j : Int) < n - 1 := by omega
        have hos : o = s.size := by
          exact o2.2 (o3.2 (by rw [← HN.out]; omega))
        subst hos
        have i5 : ¬ (s.size : Int) < s.size := by omega
        have HLS := hh.out.last (by rw [len_all]; exact hjo) (by rw [← HN.out]; omega)
        rw [len_all] at HLS
        have hcut := slice_run s s.size s.size (by omega) (by omega)
        have hpe : (s.data.toList.drop s.size).take (s.size - s.size) = [] := by simp
        rw [hpe] at hcut
        by_cases hjm : j < m
        · have hjm' : (j : Int) < m := by omega
          obtain ⟨ga, oa, ham, hga, hgc⟩ := hM.at_ j hjm
          have hfl := hM.lt j hjm
          subst ham
          have hmc : wr.cell? ⟨ga, oa + j, none⟩ = some (.int .u8 (f j : Int)) := by
            rw [hb.cell (p := ⟨ga, oa + j, none⟩) (by show ga < wa.heap.size; have := hba.size; omega), hba.cell (p := ⟨ga, oa + j, none⟩) (by show ga < w.heap.size; exact hga)]
            exact hgc
          have hp0 : preB m f j = btw (f j) := by unfold preB; rw [if_pos hjm]
          have hbl := btw_len (f j)
          have cb := between_any (f j) hfl wr
          rw [hp0] at HLS
          generalize btw (f j) = pb at *
          have HNX : Hid (SilI s.data.toList (preB m f) ts (j + 1) (out ++ pb) s.size) := HLS
          have q1 : ¬ 9223372036854775807 < out.length + pb.length := by omega
          clear HLS hp0 hjm hbeg o2 o3 o4 o5 o6 hjo hgc hpe
          go_wp2_with fail
          refine cb.mono ?_
          rintro e w2 ⟨rfl, hb2⟩
          have hgr := rowT_lt hRr (by omega)
          have hoff2 : w2.cell? ⟨g, j * 7 + 1, none⟩ = some (.int .i64 (s.size : Int)) := by rw [hb2.cell (p := ⟨g, j * 7 + 1, none⟩) hgr]; exact hoff
          have hbw2 := hb.trans (hb2.mono hb.size)
          clear hoff hmc cb hRr
          go_wp2
          refine ⟨⟨j + 1, out ++ pb, s.size, by omega, by simp, ?_, rfl, by omega, HNX, hbw2⟩, by simp [intOf]; omega⟩
          rw [appbb out pb]
          first | rfl | (rw [appbb (out ++ pb) [], List.append_nil]) | (rw [show (#[] : Array UInt8) = [].toArray from rfl, appbb, List.append_nil])
        · have hjm' : ¬ (j : Int) < m := by omega
          have hp0 : preB m f j = [] := by unfold preB; rw [if_neg hjm]
          rw [hp0, List.append_nil] at HLS
          have HNX : Hid (SilI s.data.toList (preB m f) ts (j + 1) out s.size) := HLS
          have q1 : ¬ 9223372036854775807 < out.length := by omega
          clear HLS hp0 hjm hbeg o2 o3 o4 o5 o6 hjo hpe
          go_wp2
          refine ⟨⟨j + 1, out, s.size, by omega, by simp, ?_, rfl, by omega, HNX, hb⟩, by simp [intOf]; omega⟩
          first | rfl | (rw [show (#[] : Array UInt8) = [].toArray from rfl, appbb, List.append_nil])
    · have hje : j = n := by omega
      have hlt' : ¬ (j : Int) < n := by omega
      have hall : silT s.data.toList (preB m f) 0 ts = out := by
        have := hh.out.all
        rw [hje, HN.out, List.drop_length] at this
        rw [this]; simp [silT]
      subst hje
      have hK : scanK ts.length out = some (ts.map (·.1)) := by rw [← hall]; exact sil_scan _ _ (sil_pre m f) hG 0
      obtain ⟨ys, hGy, hyk⟩ : ∃ ys, Good out 0 ys ∧ ys.map (·.1) = ts.map (·.1) := K_good out ts.length 0 _ (Nat.zero_le _) (by rw [List.drop_zero]; exact hK)
      have hol := hh.out.len
      have HZ : Hid ((ts.map (tpOf s.data.toList)).map (·.z) = (ys.map (tpOf out)).map (·.z)) := by
        show _ = _
        rw [List.map_map, List.map_map]
        have e1 : ∀ t : List UInt8, ((fun x : Tp => x.z) ∘ tpOf t) = (fun k : Tk => (⟨k.kind, k.text, k.val, k.hex⟩ : Tz)) ∘ (fun x : Tk × Nat => x.1) := fun t => rfl
        rw [e1, e1, ← List.map_map, ← List.map_map, hyk]
      have hyl : ys.length = j := by
        have := congrArg List.length hyk
        simp at this
        rw [HN.out]; exact this
      have hbw := hba.trans (hb.mono hba.size)
      have hRr := rowT_below hRa hb
      clear hall hK hyk
      by_cases hob : out.length ≤ 262144
      · have hob' : (out.length : Int) ≤ 262144 := by omega
        have c2 := Scan_any B0 p ⟨out.toArray⟩ wr (hE.below (hbw.mono hE.size)) (hF.below hE (hbw.mono hE.size)) (by show out.toArray.size < _; simp; omega)
        rw [show (⟨out.toArray⟩ : ByteArray).data.toList = out from rfl, good_scanA hGy hob] at c2
        go_wp2_with fail
        refine c2.mono ?_
        rintro e w3 ⟨v3, rfl, hO3, hb3⟩
        rw [tks_tps] at hO3
        have hR3 := row_own hO3 (by simp)
        obtain ⟨g3, cap3, hv3⟩ : ∃ g cap, v3 = .slice (some ⟨g, 0, none⟩) ys.length cap := by
          rcases hO3.2 with ⟨_, h0⟩ | ⟨g, cap, cur, hv, _⟩
          · exact absurd (List.eq_nil_of_length_eq_zero h0) hGy.ne
          · exact ⟨g, cap, hv⟩
        subst hv3
        rw [hyl] at hR3 ⊢
        unfold zero5
        have bA : Below w3.heap.size w3 (w3.alloc (.cells #[.int .i64 0, .int .i64 0, .int .i64 0, .int .i64 0, .string ⟨#[]⟩] 27)) := (Below.refl w3.heap.size w3).alloc (Nat.le_refl _) _
        have hRy := rowT_below hR3 bA
        have hRl := rowT_below (rowT_below hRr hb3) bA
        have hb4 := (hbw.trans (hb3.mono hbw.size))
        have hb5 := hb4.trans (bA.mono hb4.size)
        clear bA hR3 hO3 c2 hRr hb3 hb4
        go_wp2_with fail
        generalize (w3.alloc (.cells #[.int .i64 0, .int .i64 0, .int .i64 0, .int .i64 0, .string ⟨#[]⟩] 27)) = w4 at *
        have ck := alike_eq w4 g 0 cap g3 0 cap3 j _ _ hRl hRy HZ.out (by simp; exact HN.out.symm) (by omega) (by rw [HN.out]; exact List.length_pos_iff.2 hG.ne)
        refine ck.mono ?_
        rintro e w7 ⟨rfl, hb7⟩
        have hRz := rowT_below hRl hb7
        have hb8 := hb5.trans (hb7.mono hb5.size)
        clear ck hRl hRy HZ hb5 hb7 hGy hyl
        by_cases hj2 : j < 2
        · have hj2' : (j : Int) < 2 := by omega
          go_wp2_with (go_at_call 12; refine (cal _ hb8).mono ?_; rintro e w9 ⟨rfl, hb9⟩)
          go_ret
          exact ⟨rfl, hb8.trans (hb9.mono hb8.size)⟩
        · have hj2' : ¬ (j : Int) < 2 := by omega
          obtain ⟨kk, hkj, hkr⟩ := tmod_abs cut j hj2
          obtain ⟨⟨k, o⟩, hko⟩ : ∃ x, ts[kk]? = some x := ⟨ts[kk]'(by rw [← HN.out]; omega), List.getElem?_eq_getElem _⟩
          have hole := (hG.ord hko).le
          rw [len_all] at hole
          obtain ⟨X, hX, c3⟩ := tail_spell B0 p hG hko (by rw [← HN.out]; omega) w hE hT
          obtain ⟨zs, hz1, hz2, c4⟩ := tail_scan B0 p hG (by rw [len_all]; exact hl) hko w hE hF
          have fC : ∀ W', Below W'.heap.size W' W' → RowT W' (.slice (some ⟨g, 0, none⟩) j cap) (ts.map (tpOf s.data.toList)) → ∀ i u, i < 7 → (tpL (tpOf s.data.toList (k, o)))[i]? = some u → W'.cell? ⟨g, kk * 7 + i, none⟩ = some u := by
            intro W' _ hR i u hi hu
            have := rowT_at hR (kk * 7 + i) u (by rw [tps_at _ kk (tpOf s.data.toList (k, o)) (by rw [List.getElem?_map, hko]; rfl) i hi]; exact hu)
            rwa [Nat.zero_add] at this
          have hcp := slice_pre s o hole
          have HZ : Hid ((zs.take kk).map (·.z) = ((ts.map (tpOf s.data.toList)).take kk).map (·.z)) := hz1
          have c5 : ∀ (W : World) (g4 cap4 : Nat), RowT W (.slice (some ⟨g4, 0, none⟩) (kk + 1) cap4) zs → RowT W (.slice (some ⟨g, 0, none⟩) j cap) (ts.map (tpOf s.data.toList)) → Calls Tryz.prog 15 #[.slice (some ⟨g4, 0, none⟩) kk cap4, .slice (some ⟨g, 0, none⟩) kk cap] W fun e w' => e = .returned (.bool true) ∧ Below W.heap.size W w' := fun W g4 cap4 h1 h2 => alike_pre W g4 cap4 g cap (kk + 1) j kk _ _ h1 h2 (by omega) (by omega) hz2 HZ.out (by omega)
          have f0 : w7.cell? ⟨g, kk * 7, none⟩ = some (.int .i64 (k.kind : Int)) := fC w7 (Below.refl _ _) hRz 0 _ (by omega) rfl
          have f1 : w7.cell? ⟨g, kk * 7 + 1, none⟩ = some (.int .i64 (o : Int)) := fC w7 (Below.refl _ _) hRz 1 _ (by omega) rfl
          obtain ⟨ln, f2⟩ : ∃ ln : Int, w7.cell? ⟨g, kk * 7 + 2, none⟩ = some (.int .i64 ln) := ⟨_, fC w7 (Below.refl _ _) hRz 2 _ (by omega) rfl⟩
          obtain ⟨cl, f3⟩ : ∃ cl : Int, w7.cell? ⟨g, kk * 7 + 3, none⟩ = some (.int .i64 cl) := ⟨_, fC w7 (Below.refl _ _) hRz 3 _ (by omega) rfl⟩
          have f4 : w7.cell? ⟨g, kk * 7 + 4, none⟩ = some (.string ⟨k.text.toArray⟩) := fC w7 (Below.refl _ _) hRz 4 _ (by omega) rfl
          have f5 : w7.cell? ⟨g, kk * 7 + 5, none⟩ = some (.int .u32 (k.val : Int)) := fC w7 (Below.refl _ _) hRz 5 _ (by omega) rfl
          have f6 : w7.cell? ⟨g, kk * 7 + 6, none⟩ = some (.bool k.hex) := fC w7 (Below.refl _ _) hRz 6 _ (by omega) rfl
          have hkl : (kk : Int) < j := by omega
          have hk0 : ¬ (kk : Int) < 0 := by omega
          have hcap := rowT_cap hRz
          have hkc : (kk : Int) ≤ cap := by omega
          clear hz1 hz2 hkj
          rcases hkr with hkr | ⟨hkn, hkr⟩
          all_goals
            go_wp2_with fail
            refine (c3 _ _ _ w7 hb8).mono ?_
            rintro e w9 ⟨rfl, hb9⟩
            have hbA := hb8.trans (hb9.mono hb8.size)
            have hRA := rowT_below hRz hb9
            have f1' : w9.cell? ⟨g, kk * 7 + 1, none⟩ = some (.int .i64 (o : Int)) := fC w9 (Below.refl _ _) hRA 1 _ (by omega) rfl
            clear f0 f1 f2 f3 f4 f5 f6 hRz
            go_wp2_with fail
            refine (c4 w9 hbA).mono ?_
            rintro e w10 ⟨g4, cap4, rfl, hR4, hb10⟩
            have hcap4 := rowT_cap hR4
            have hkc4 : (kk : Int) ≤ cap4 := by omega
            unfold zero5
            have bA : Below w10.heap.size w10 (w10.alloc (.cells #[.int .i64 0, .int .i64 0, .int .i64 0, .int .i64 0, .string ⟨#[]⟩] 27)) := (Below.refl w10.heap.size w10).alloc (Nat.le_refl _) _
            have hva : (w10.alloc (.cells #[.int .i64 0, .int .i64 0, .int .i64 0, .int .i64 0, .string ⟨#[]⟩] 27)).heap[w10.heap.size]? = some (.cells #[.int .i64 0, .int .i64 0, .int .i64 0, .int .i64 0, .string ⟨#[]⟩] 27 (0, 0)) := push_at w10.heap _
            have hRp := rowT_below hR4 bA
            have hRl := rowT_below (rowT_below hRA hb10) bA
            have hbB := hbA.trans (hb10.mono hbA.size)
            have hbC := hbB.trans (bA.mono hbB.size)
            clear c3 c4 hR4 hRA bA hb10 f1' fC
            go_wp2_with fail
            generalize (w10.alloc (.cells #[.int .i64 0, .int .i64 0, .int .i64 0, .int .i64 0, .string ⟨#[]⟩] 27)) = wb at *
            have hlb := heap_lt hva
            have fv := fun i => cell_of_row wb w10.heap.size i _ _ (0, 0) hva
            have b0 : wb.cell? ⟨w10.heap.size, 0, none⟩ = some (.int .i64 0) := fv 0
            have b1 : wb.cell? ⟨w10.heap.size, 1, none⟩ = some (.int .i64 0) := fv 1
            have b2 : wb.cell? ⟨w10.heap.size, 2, none⟩ = some (.int .i64 0) := fv 2
            have b3 : wb.cell? ⟨w10.heap.size, 3, none⟩ = some (.int .i64 0) := fv 3
            have b4 : wb.cell? ⟨w10.heap.size, 4, none⟩ = some (.string ⟨#[]⟩) := fv 4
            have c6 : ∀ W, Below wb.heap.size wb W → Calls Tryz.prog 15 #[.slice (some ⟨g4, 0, none⟩) kk cap4, .slice (some ⟨g, 0, none⟩) kk cap] W fun e w' => e = .returned (.bool true) ∧ Below W.heap.size W w' := fun W hW => c5 W g4 cap4 (rowT_below hRp hW) (rowT_below hRl hW)
            have kS : ∀ W, Below wb.heap.size wb W → (fun w' => w'.cell? ⟨w10.heap.size, 0, none⟩ = some (.int .i64 0) ∧ w'.cell? ⟨w10.heap.size, 1, none⟩ = some (.int .i64 0) ∧ w'.cell? ⟨w10.heap.size, 2, none⟩ = some (.int .i64 0) ∧ w'.cell? ⟨w10.heap.size, 3, none⟩ = some (.int .i64 0) ∧ w'.cell? ⟨w10.heap.size, 4, none⟩ = some (.string ⟨#[]⟩)) W := fun W hW => ⟨(cell_below hW _ _ hlb).trans b0, (cell_below hW _ _ hlb).trans b1, (cell_below hW _ _ hlb).trans b2, (cell_below hW _ _ hlb).trans b3, (cell_below hW _ _ hlb).trans b4⟩
            have hw1 : IntKind.i64.wrap ((kk : Int) + 1) = (kk : Int) + 1 := by rw [IntKind.wrap_i64]; omega
            have hX1 : X.toList.isEmpty = false := by
              rw [ByteArray.toList_eq]
              obtain ⟨⟨d⟩⟩ := X
              cases d with
              | nil => exact absurd rfl hX
              | cons c r => rfl
            clear fv hva c5 hRp hRl hko hcp HZ HN hkr hcap hcap4 hole
            go_region_held_law (fun w' => w'.cell? ⟨w10.heap.size, 0, none⟩ = some (.int .i64 0) ∧ w'.cell? ⟨w10.heap.size, 1, none⟩ = some (.int .i64 0) ∧ w'.cell? ⟨w10.heap.size, 2, none⟩ = some (.int .i64 0) ∧ w'.cell? ⟨w10.heap.size, 3, none⟩ = some (.int .i64 0) ∧ w'.cell? ⟨w10.heap.size, 4, none⟩ = some (.string ⟨#[]⟩))
              (first | exact ⟨b0, b1, b2, b3, b4⟩ | exact kS _ hb15' | exact kS _ hb14' | exact kS _ (below_drewN (Below.refl _ _) _) | (go_keep; done))
              (first
                | (go_at_call 11; refine (num_c _ _).mono ?_; rintro e w12 ⟨rfl, rfl⟩)
                | (go_at_call 15; refine (c6 _ (below_drewN (Below.refl _ _) _)).mono ?_; rintro e w14 ⟨rfl, hb14⟩; have hb14' : Below wb.heap.size wb w14 := (below_drewN (Below.refl _ _) _).trans (hb14.mono (by rw [World.heap_drewN]; exact Nat.le_refl _)); have hbD := hbC.trans (hb14'.mono hbC.size))
                | (go_at_call 12; refine (cal _ hbD).mono ?_; rintro e w15 ⟨rfl, hb15⟩; have hb15' := hb14'.trans (hb15.mono hb14'.size)))
            first | go_ret | (go_wp2; go_ret)
            exact ⟨rfl, hbD.trans (hb15.mono hbD.size)⟩
      · have hob' : ¬ (out.length : Int) ≤ 262144 := by omega
        have hRz := hRr
        have hb8 := hbw
        clear HZ hGy hyl hRr hbw
        by_cases hj2 : j < 2
        · have hj2' : (j : Int) < 2 := by omega
          go_wp2_with (go_at_call 12; refine (cal _ hb8).mono ?_; rintro e w9 ⟨rfl, hb9⟩)
          go_ret
          exact ⟨rfl, hb8.trans (hb9.mono hb8.size)⟩
        · have hj2' : ¬ (j : Int) < 2 := by omega
          obtain ⟨kk, hkj, hkr⟩ := tmod_abs cut j hj2
          obtain ⟨⟨k, o⟩, hko⟩ : ∃ x, ts[kk]? = some x := ⟨ts[kk]'(by rw [← HN.out]; omega), List.getElem?_eq_getElem _⟩
          have hole := (hG.ord hko).le
          rw [len_all] at hole
          obtain ⟨X, hX, c3⟩ := tail_spell B0 p hG hko (by rw [← HN.out]; omega) w hE hT
          obtain ⟨zs, hz1, hz2, c4⟩ := tail_scan B0 p hG (by rw [len_all]; exact hl) hko w hE hF
          have fC : ∀ W', Below W'.heap.size W' W' → RowT W' (.slice (some ⟨g, 0, none⟩) j cap) (ts.map (tpOf s.data.toList)) → ∀ i u, i < 7 → (tpL (tpOf s.data.toList (k, o)))[i]? = some u → W'.cell? ⟨g, kk * 7 + i, none⟩ = some u := by
            intro W' _ hR i u hi hu
            have := rowT_at hR (kk * 7 + i) u (by rw [tps_at _ kk (tpOf s.data.toList (k, o)) (by rw [List.getElem?_map, hko]; rfl) i hi]; exact hu)
            rwa [Nat.zero_add] at this
          have hcp := slice_pre s o hole
          have HZ : Hid ((zs.take kk).map (·.z) = ((ts.map (tpOf s.data.toList)).take kk).map (·.z)) := hz1
          have c5 : ∀ (W : World) (g4 cap4 : Nat), RowT W (.slice (some ⟨g4, 0, none⟩) (kk + 1) cap4) zs → RowT W (.slice (some ⟨g, 0, none⟩) j cap) (ts.map (tpOf s.data.toList)) → Calls Tryz.prog 15 #[.slice (some ⟨g4, 0, none⟩) kk cap4, .slice (some ⟨g, 0, none⟩) kk cap] W fun e w' => e = .returned (.bool true) ∧ Below W.heap.size W w' := fun W g4 cap4 h1 h2 => alike_pre W g4 cap4 g cap (kk + 1) j kk _ _ h1 h2 (by omega) (by omega) hz2 HZ.out (by omega)
          have f0 : wr.cell? ⟨g, kk * 7, none⟩ = some (.int .i64 (k.kind : Int)) := fC wr (Below.refl _ _) hRz 0 _ (by omega) rfl
          have f1 : wr.cell? ⟨g, kk * 7 + 1, none⟩ = some (.int .i64 (o : Int)) := fC wr (Below.refl _ _) hRz 1 _ (by omega) rfl
          obtain ⟨ln, f2⟩ : ∃ ln : Int, wr.cell? ⟨g, kk * 7 + 2, none⟩ = some (.int .i64 ln) := ⟨_, fC wr (Below.refl _ _) hRz 2 _ (by omega) rfl⟩
          obtain ⟨cl, f3⟩ : ∃ cl : Int, wr.cell? ⟨g, kk * 7 + 3, none⟩ = some (.int .i64 cl) := ⟨_, fC wr (Below.refl _ _) hRz 3 _ (by omega) rfl⟩
          have f4 : wr.cell? ⟨g, kk * 7 + 4, none⟩ = some (.string ⟨k.text.toArray⟩) := fC wr (Below.refl _ _) hRz 4 _ (by omega) rfl
          have f5 : wr.cell? ⟨g, kk * 7 + 5, none⟩ = some (.int .u32 (k.val : Int)) := fC wr (Below.refl _ _) hRz 5 _ (by omega) rfl
          have f6 : wr.cell? ⟨g, kk * 7 + 6, none⟩ = some (.bool k.hex) := fC wr (Below.refl _ _) hRz 6 _ (by omega) rfl
          have hkl : (kk : Int) < j := by omega
          have hk0 : ¬ (kk : Int) < 0 := by omega
          have hcap := rowT_cap hRz
          have hkc : (kk : Int) ≤ cap := by omega
          clear hz1 hz2 hkj
          rcases hkr with hkr | ⟨hkn, hkr⟩
          all_goals
            go_wp2_with fail
            refine (c3 _ _ _ wr hb8).mono ?_
            rintro e w9 ⟨rfl, hb9⟩
            have hbA := hb8.trans (hb9.mono hb8.size)
            have hRA := rowT_below hRz hb9
            have f1' : w9.cell? ⟨g, kk * 7 + 1, none⟩ = some (.int .i64 (o : Int)) := fC w9 (Below.refl _ _) hRA 1 _ (by omega) rfl
            clear f0 f1 f2 f3 f4 f5 f6 hRz
            go_wp2_with fail
            refine (c4 w9 hbA).mono ?_
            rintro e w10 ⟨g4, cap4, rfl, hR4, hb10⟩
            have hcap4 := rowT_cap hR4
            have hkc4 : (kk : Int) ≤ cap4 := by omega
            unfold zero5
            have bA : Below w10.heap.size w10 (w10.alloc (.cells #[.int .i64 0, .int .i64 0, .int .i64 0, .int .i64 0, .string ⟨#[]⟩] 27)) := (Below.refl w10.heap.size w10).alloc (Nat.le_refl _) _
            have hva : (w10.alloc (.cells #[.int .i64 0, .int .i64 0, .int .i64 0, .int .i64 0, .string ⟨#[]⟩] 27)).heap[w10.heap.size]? = some (.cells #[.int .i64 0, .int .i64 0, .int .i64 0, .int .i64 0, .string ⟨#[]⟩] 27 (0, 0)) := push_at w10.heap _
            have hRp := rowT_below hR4 bA
            have hRl := rowT_below (rowT_below hRA hb10) bA
            have hbB := hbA.trans (hb10.mono hbA.size)
            have hbC := hbB.trans (bA.mono hbB.size)
            clear c3 c4 hR4 hRA bA hb10 f1' fC
            go_wp2_with fail
            generalize (w10.alloc (.cells #[.int .i64 0, .int .i64 0, .int .i64 0, .int .i64 0, .string ⟨#[]⟩] 27)) = wb at *
            have hlb := heap_lt hva
            have fv := fun i => cell_of_row wb w10.heap.size i _ _ (0, 0) hva
            have b0 : wb.cell? ⟨w10.heap.size, 0, none⟩ = some (.int .i64 0) := fv 0
            have b1 : wb.cell? ⟨w10.heap.size, 1, none⟩ = some (.int .i64 0) := fv 1
            have b2 : wb.cell? ⟨w10.heap.size, 2, none⟩ = some (.int .i64 0) := fv 2
            have b3 : wb.cell? ⟨w10.heap.size, 3, none⟩ = some (.int .i64 0) := fv 3
            have b4 : wb.cell? ⟨w10.heap.size, 4, none⟩ = some (.string ⟨#[]⟩) := fv 4
            have c6 : ∀ W, Below wb.heap.size wb W → Calls Tryz.prog 15 #[.slice (some ⟨g4, 0, none⟩) kk cap4, .slice (some ⟨g, 0, none⟩) kk cap] W fun e w' => e = .returned (.bool true) ∧ Below W.heap.size W w' := fun W hW => c5 W g4 cap4 (rowT_below hRp hW) (rowT_below hRl hW)
            have kS : ∀ W, Below wb.heap.size wb W → (fun w' => w'.cell? ⟨w10.heap.size, 0, none⟩ = some (.int .i64 0) ∧ w'.cell? ⟨w10.heap.size, 1, none⟩ = some (.int .i64 0) ∧ w'.cell? ⟨w10.heap.size, 2, none⟩ = some (.int .i64 0) ∧ w'.cell? ⟨w10.heap.size, 3, none⟩ = some (.int .i64 0) ∧ w'.cell? ⟨w10.heap.size, 4, none⟩ = some (.string ⟨#[]⟩)) W := fun W hW => ⟨(cell_below hW _ _ hlb).trans b0, (cell_below hW _ _ hlb).trans b1, (cell_below hW _ _ hlb).trans b2, (cell_below hW _ _ hlb).trans b3, (cell_below hW _ _ hlb).trans b4⟩
            have hw1 : IntKind.i64.wrap ((kk : Int) + 1) = (kk : Int) + 1 := by rw [IntKind.wrap_i64]; omega
            have hX1 : X.toList.isEmpty = false := by
              rw [ByteArray.toList_eq]
              obtain ⟨⟨d⟩⟩ := X
              cases d with
              | nil => exact absurd rfl hX
              | cons c r => rfl
            clear fv hva c5 hRp hRl hko hcp HZ HN hkr hcap hcap4 hole
            go_region_held_law (fun w' => w'.cell? ⟨w10.heap.size, 0, none⟩ = some (.int .i64 0) ∧ w'.cell? ⟨w10.heap.size, 1, none⟩ = some (.int .i64 0) ∧ w'.cell? ⟨w10.heap.size, 2, none⟩ = some (.int .i64 0) ∧ w'.cell? ⟨w10.heap.size, 3, none⟩ = some (.int .i64 0) ∧ w'.cell? ⟨w10.heap.size, 4, none⟩ = some (.string ⟨#[]⟩))
              (first | exact ⟨b0, b1, b2, b3, b4⟩ | exact kS _ hb15' | exact kS _ hb14' | exact kS _ (below_drewN (Below.refl _ _) _) | (go_keep; done))
              (first
                | (go_at_call 11; refine (num_c _ _).mono ?_; rintro e w12 ⟨rfl, rfl⟩)
                | (go_at_call 15; refine (c6 _ (below_drewN (Below.refl _ _) _)).mono ?_; rintro e w14 ⟨rfl, hb14⟩; have hb14' : Below wb.heap.size wb w14 := (below_drewN (Below.refl _ _) _).trans (hb14.mono (by rw [World.heap_drewN]; exact Nat.le_refl _)); have hbD := hbC.trans (hb14'.mono hbC.size))
                | (go_at_call 12; refine (cal _ hbD).mono ?_; rintro e w15 ⟨rfl, hb15⟩; have hb15' := hb14'.trans (hb15.mono hb14'.size)))
            first | go_ret | (go_wp2; go_ret)
            exact ⟨rfl, hbD.trans (hb15.mono hbD.size)⟩
end Go.Proofs.YtiggbnkmggbpiaaGreatDoor
