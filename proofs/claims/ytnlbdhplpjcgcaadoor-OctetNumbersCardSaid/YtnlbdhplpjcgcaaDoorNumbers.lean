import Derived.Test.YtnlbdhplpjcgcaaDoorNumD
namespace Go.Proofs.YtnlbdhplpjcgcaaDoor
open Go.RowKit
set_option linter.unusedVariables false

theorem pow_below {w w' : World} (h : PowIs w) (hb : Below w.heap.size w w') : PowIs w' := Lib.tabBelow_of_tabIs h w' hb
set_option maxHeartbeats 2000000 in
theorem numbers_any (v m : Nat) (s : ByteArray) (w : World) (hv : v < 18446744073709551616) (hm : m < 18446744073709551616) (hs : s.size < 9223372036854775807) (htab : PowIs w) :
    Calls Tryd.prog 3 #[.int .u64 v, .string s, .int .u64 m] w fun e w' => e = .returned (.bool true) ∧ Below w.heap.size w w' := by
  obtain ⟨d1, d2⟩ := dg_yes (okD_dec v 18446744073709551615 (by omega))
  rw [(dec_all v).2.1] at d1
  have hlen := dec_len v hv
  have hcd := digits_any ⟨(Lib.decDigits v).toArray⟩ 18446744073709551615 (by omega)
  simp only at hcd
  rw [d1, d2] at hcd
  have hsz : (⟨(Lib.decDigits v).toArray⟩ : ByteArray).size < 9223372036854775807 := by
    show (Lib.decDigits v).toArray.size < _
    simp only [List.size_toArray]
    omega
  have c1 := digits_any s m hm
  have c2 := refdigits_any s m hm
  have c3 := decimal_u v hv
  have c4 := refdec_any v hv
  generalize (⟨(Lib.decDigits v).toArray⟩ : ByteArray) = D at *
  generalize dgV s.data.toList m = X at *
  generalize dgE s.data.toList m = Y at *
  clear d1 d2 hlen
  go_enter Tryd.func3, Tryd.ntmps3
  go_wp2_with fail
  refine (c1 _ hs).mono ?_
  rintro e w1 ⟨rfl, hb1⟩
  have t1 := pow_below htab hb1
  have s1 := hb1.size
  go_wp2_with fail
  refine (c2 _ hs).mono ?_
  rintro e w2 ⟨rfl, hb2⟩
  have t2 := pow_below t1 hb2
  have s2 := hb2.size
  go_wp2_with fail
  refine (c3 _ t2).mono ?_
  rintro e w3 ⟨rfl, hb3⟩
  have t3 := pow_below t2 hb3
  have s3 := hb3.size
  go_wp2_with fail
  refine (hcd _ hsz).mono ?_
  rintro e w4 ⟨rfl, hb4⟩
  have t4 := pow_below t3 hb4
  have s4 := hb4.size
  go_wp2_with fail
  refine (c3 _ t4).mono ?_
  rintro e w5 ⟨rfl, hb5⟩
  have s5 := hb5.size
  go_wp2_with fail
  refine (c4 _).mono ?_
  rintro e w6 ⟨rfl, hb6⟩
  have s6 := hb6.size
  go_wp2_with fail
  refine (heads_any _).mono ?_
  rintro e w7 ⟨rfl, hb7⟩
  go_wp2_with fail
  go_ret
  exact ⟨rfl, hb1.trans ((hb2.trans ((hb3.trans ((hb4.trans ((hb5.trans ((hb6.trans (hb7.mono s6)).mono s5)).mono s4)).mono s3)).mono s2)).mono s1)⟩
end Go.Proofs.YtnlbdhplpjcgcaaDoor
