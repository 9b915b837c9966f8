import Derived.Test.YtlbgppijeoonjaaGreatDoorGoX
namespace Go.Proofs.YtlbgppijeoonjaaGreatDoor
open Go.RowKit
set_option linter.unusedVariables false

theorem same_bytes1 (l : List UInt8) (s : ByteArray) (h : l = s.data.toList) : (⟨l.toArray⟩ : ByteArray) = s := by
  subst h; cases s; simp
theorem results_tmp4 {fn : Func} {t u v x : Tmp} (h : fn.results = #[.tmp t, .tmp u, .tmp v, .tmp x]) (tmps : Array Value) (P : Program) (w : World) :
    (results fn tmps).run P w = .ok (.tuple #[tmps.getD t undef, tmps.getD u undef, tmps.getD v undef, tmps.getD x undef]) w := by
  simp [results, h]
/-- From the string's beginning to a place within it. -/
def QTo (t : List UInt8) (i k : Nat) (says : List UInt8) : Prop := quoL (t.drop (i + 1)) [] 0 = quoL (t.drop k) says (k - (i + 1))
theorem quo_done1 (t said : List UInt8) (i : Nat) : quoL (34 :: t) said i = .done said i := by rw [quoL.eq_def]; rfl
theorem quo_bad1 {c : UInt8} (t said : List UInt8) (i : Nat) (h1 : c ≠ 34) (h2 : sayB c = false) : quoL (c :: t) said i = .bad (1 + i) := by
  rw [quoL.eq_def]
  simp only
  rw [if_neg h1, if_pos h2]
theorem quo_esc0 (said : List UInt8) (i : Nat) : quoL [92] said i = .bad (1 + i) := by
  rw [quoL.eq_def]; rfl
theorem quo_esc1 {d : UInt8} (t said : List UInt8) (i : Nat) (h : escB d = true) : quoL (92 :: d :: t) said i = quoL t (said ++ [d]) (i + 2) := by
  rw [quoL.eq_def]
  simp only
  rw [if_neg (by decide), if_neg (by decide), if_pos trivial, if_pos h]
theorem quo_escb {d : UInt8} (t said : List UInt8) (i : Nat) (h : escB d = false) : quoL (92 :: d :: t) said i = .bad (1 + i) := by
  rw [quoL.eq_def]
  simp only
  rw [if_neg (by decide), if_neg (by decide), if_pos trivial, if_neg (by rw [h]; decide)]
theorem quo_more {c : UInt8} (t said : List UInt8) (i : Nat) (h1 : c ≠ 34) (h2 : sayB c = true) (h3 : c ≠ 92) : quoL (c :: t) said i = quoL t (said ++ [c]) (i + 1) := by
  rw [quoL.eq_def]
  simp only
  rw [if_neg h1, if_neg (by rw [h2]; decide), if_neg h3]
theorem quo_nil (said : List UInt8) (i : Nat) : quoL [] said i = .open_ := by rw [quoL.eq_def]
def quV (i : Nat) (x : TR) : Value := match x with | .ok k len => .tuple #[.string ⟨k.text.toArray⟩, .int .i64 ((i + len : Nat) : Int), .int .i64 0, .int .i64 0] | .bad c a => .tuple #[.string ⟨#[]⟩, .int .i64 0, .int .i64 (c : Int), .int .i64 ((i + a : Nat) : Int)]
theorem appl1 (l : List UInt8) (c : UInt8) : (⟨l.toArray⟩ : ByteArray) ++ ⟨#[c]⟩ = ⟨(l ++ [c]).toArray⟩ := (same_bytes1 _ _ (by simp [ByteArray.data_append])).symm
theorem cut_at (s : ByteArray) (j : Nat) (x : UInt8) (h : j < s.size) (hx : s.data.toList[j]? = some x) (w : World) (y z : Int) (hy : y = (j : Int)) (hz : z = (j : Int) + 1) : (Instr.slice 9 (.string s) (some (.int .i64 y)) (some (.int .i64 z)) none).run Tryz.prog w = .ok (.string ⟨#[x]⟩) w := by
  subst hz
  subst hy
  have h1 : s.extract j (j + 1) = ⟨#[x]⟩ := (same_bytes1 [x] _ (by
    rw [Lib.extract_data]
    obtain ⟨q1, q2⟩ := List.getElem?_eq_some_iff.1 hx
    rw [List.drop_eq_getElem_cons q1, q2, show j + 1 - j = 1 by omega]
    rfl)).symm
  have h2 : (0 : Int) ≤ j ∧ (j : Int) ≤ (j : Int) + 1 ∧ (j : Int) + 1 ≤ s.size := by omega
  have h3 : ((j : Int) + 1).toNat = j + 1 := by omega
  simp [go_sem, h2, h3, h1]
set_option maxHeartbeats 8000000 in
set_option maxRecDepth 100000 in
theorem rquoted_any (s : ByteArray) (i : Nat) (w : World) (hs : s.size < 4294967281) (hi : i < s.size) :
    Calls Tryz.prog 75 #[.string s, .int .i64 (i : Int)] w fun e w' => e = .returned (quV i (quoT (quoL (s.data.toList.drop (i + 1)) [] 0))) ∧ w' = w := by
  have HL : Hid (s.data.toList.length = s.size) := len_all s
  obtain ⟨r, hr⟩ : ∃ r, quoL (s.data.toList.drop (i + 1)) [] 0 = r := ⟨_, rfl⟩
  rw [hr]
  have HR : Hid (quoL (s.data.toList.drop (i + 1)) [] 0 = r) := hr
  clear hr
  go_enter Tryz.func75, Tryz.ntmps75
  go_wp2
  go_loop [8, 9] (fun q v => ∃ (k : Nat) (l : List UInt8), i + 1 ≤ k ∧ k ≤ s.size ∧ v = .int .i64 (k : Int) ∧ q = .string ⟨l.toArray⟩ ∧ l.length ≤ k ∧ Hid (r = quoL (s.data.toList.drop k) l (k - (i + 1)))) (fun _ v => s.size - (intOf v).toNat)
  case atStart => exact ⟨i + 1, [], Nat.le_refl _, hi, by go_num, rfl, by simp, by show r = _; rw [← HR.out, Nat.sub_self]⟩
  case round =>
    obtain ⟨k, l, hik, hks, rfl, rfl, hl, hh⟩ := hrel
    by_cases hlt : k < s.size
    · have hlt' : (k : Int) < s.size := by omega
      obtain ⟨x, hx0, hix⟩ := at_some hlt
      have hd := drop_cons1 hx0
      have hcut := fun w => cut_at s k x hlt hx0 w (k : Int) ((k : Int) + 1) rfl rfl
      by_cases h34 : x = 34
      · subst h34
        have hix' : ∀ w, (Instr.index 9 (.string s) (.int .i64 (k : Int))).run Tryz.prog w = .ok (.int .u8 34) w := hix
        have HN : Hid (r = .done l (k - (i + 1))) := by show r = _; rw [hh.out, hd, quo_done1]
        clear hix hh hd hcut hx0
        by_cases h255 : 255 < l.length
        · have h255' : (255 : Int) < l.length := by omega
          go_wp2
          ((try simp only [Exit.inBlock, Exit.then]); refine bodyPost_ret (results_tmp4 rfl _ _ _) rfl ?_)
          refine ⟨?_, rfl⟩
          rw [HN.out]
          unfold quoT
          simp only
          rw [if_pos h255]
          rfl
        · have h255' : ¬ (255 : Int) < l.length := by omega
          go_wp2
          ((try simp only [Exit.inBlock, Exit.then]); refine bodyPost_ret (results_tmp4 rfl _ _ _) rfl ?_)
          refine ⟨?_, rfl⟩
          rw [HN.out]
          unfold quoT
          simp only
          rw [if_neg h255]
          show _ = Ending.returned (.tuple #[.string ⟨l.toArray⟩, .int .i64 ((i + (k - (i + 1) + 2) : Nat) : Int), .int .i64 0, .int .i64 0])
          rw [show ((i + (k - (i + 1) + 2) : Nat) : Int) = (k : Int) + 1 by omega]
          rfl
      · have e34 : ((x.toNat : Int) == 34) = false := u8_ne h34
        cases hS : sayB x with
        | false =>
          have HN : Hid (r = .bad (1 + (k - (i + 1)))) := by show r = _; rw [hh.out, hd, quo_bad1 _ _ _ h34 hS]
          have hS' : ¬ (32 ≤ x.toNat ∧ x.toNat ≤ 126) := of_decide_eq_false hS
          have q : (x.toNat : Int) < 32 ∨ 126 < (x.toNat : Int) := by omega
          have HV : Hid (quV i (quoT r) = .tuple #[.string ⟨#[]⟩, .int .i64 0, .int .i64 22, .int .i64 (k : Int)]) := by
            show _ = _
            rw [HN.out]
            show Value.tuple #[.string ⟨#[]⟩, .int .i64 0, .int .i64 22, .int .i64 ((i + (1 + (k - (i + 1))) : Nat) : Int)] = _
            rw [show i + (1 + (k - (i + 1))) = k by omega]
          clear hh hd hcut hx0 h34 hS hS' HN
          rcases q with q | q
          · go_wp2
            ((try simp only [Exit.inBlock, Exit.then]); refine bodyPost_ret (results_tmp4 rfl _ _ _) rfl ?_)
            exact ⟨by rw [HV.out]; rfl, rfl⟩
          · have q2 : ¬ (x.toNat : Int) < 32 := by omega
            go_wp2
            ((try simp only [Exit.inBlock, Exit.then]); refine bodyPost_ret (results_tmp4 rfl _ _ _) rfl ?_)
            exact ⟨by rw [HV.out]; rfl, rfl⟩
        | true =>
          obtain ⟨s1, s2⟩ := of_decide_eq_true hS
          have i1 : ¬ (x.toNat : Int) < 32 := by omega
          have i2 : ¬ (126 : Int) < (x.toNat : Int) := by omega
          by_cases h92 : x = 92
          · subst h92
            have hix' : ∀ w, (Instr.index 9 (.string s) (.int .i64 (k : Int))).run Tryz.prog w = .ok (.int .u8 92) w := hix
            clear hix hcut i1 i2 e34 s1 s2 hS
            by_cases h1 : k + 1 < s.size
            · have h1' : ¬ (s.size : Int) ≤ (k : Int) + 1 := by omega
              obtain ⟨y, hy0, hiy⟩ := at_some1 h1
              have hd2 := drop_cons1 hy0
              have hcut := fun w => cut_at s (k + 1) y h1 hy0 w ((k : Int) + 1) ((k : Int) + 2) (by simp) (by simp; omega)
              cases hE : escB y with
              | true =>
                have HN : Hid (r = quoL (s.data.toList.drop (k + 2)) (l ++ [y]) (k + 2 - (i + 1))) := by
                  show r = _
                  rw [hh.out, hd, hd2, quo_esc1 _ _ _ hE, show k - (i + 1) + 2 = k + 2 - (i + 1) by omega]
                have a1 := appl1 l y
                have hw1 : ¬ 9223372036854775807 < l.length + 1 := by omega
                have hcc : y = 34 ∨ y = 92 := of_decide_eq_true hE
                clear hh hd hd2 hx0 hy0 hE h34
                rcases hcc with rfl | rfl
                · have hiy' : ∀ w, (Instr.index 9 (.string s) (.int .i64 ((k : Int) + 1))).run Tryz.prog w = .ok (.int .u8 34) w := hiy
                  clear hiy
                  go_wp2
                  go_round
                  case rel => exact ⟨k + 2, l ++ [34], by omega, by omega, by go_num, (by simp), by simp; omega, HN⟩
                  case measure => simp [intOf]; omega
                · have hiy' : ∀ w, (Instr.index 9 (.string s) (.int .i64 ((k : Int) + 1))).run Tryz.prog w = .ok (.int .u8 92) w := hiy
                  clear hiy
                  go_wp2
                  go_round
                  case rel => exact ⟨k + 2, l ++ [92], by omega, by omega, by go_num, (by simp), by simp; omega, HN⟩
                  case measure => simp [intOf]; omega
              | false =>
                have hE' : ¬ (y = 34 ∨ y = 92) := of_decide_eq_false hE
                have f1 : ((y.toNat : Int) == 34) = false := u8_ne (fun e => hE' (Or.inl e))
                have f2 : ((y.toNat : Int) == 92) = false := u8_ne (fun e => hE' (Or.inr e))
                have HV : Hid (quV i (quoT r) = .tuple #[.string ⟨#[]⟩, .int .i64 0, .int .i64 22, .int .i64 (k : Int)]) := by
                  show _ = _
                  rw [hh.out, hd, hd2, quo_escb _ _ _ hE]
                  show Value.tuple #[.string ⟨#[]⟩, .int .i64 0, .int .i64 22, .int .i64 ((i + (1 + (k - (i + 1))) : Nat) : Int)] = _
                  rw [show i + (1 + (k - (i + 1))) = k by omega]
                have g1 : ((y.toNat : Int) != 34) = true := by unfold bne; rw [f1]; rfl
                have g2 : ((y.toNat : Int) != 92) = true := by unfold bne; rw [f2]; rfl
                clear hh hd hd2 hcut hx0 hy0 h34 hE hE' f1 f2
                go_wp2
                ((try simp only [Exit.inBlock, Exit.then]); refine bodyPost_ret (results_tmp4 rfl _ _ _) rfl ?_)
                exact ⟨by rw [HV.out]; rfl, rfl⟩
            · have h1' : (s.size : Int) ≤ (k : Int) + 1 := by omega
              have HV : Hid (quV i (quoT r) = .tuple #[.string ⟨#[]⟩, .int .i64 0, .int .i64 22, .int .i64 (k : Int)]) := by
                show _ = _
                rw [hh.out, hd, List.drop_eq_nil_of_le (by rw [HL.out]; omega), quo_esc0]
                show Value.tuple #[.string ⟨#[]⟩, .int .i64 0, .int .i64 22, .int .i64 ((i + (1 + (k - (i + 1))) : Nat) : Int)] = _
                rw [show i + (1 + (k - (i + 1))) = k by omega]
              clear hh hd hx0 h34
              go_wp2
              ((try simp only [Exit.inBlock, Exit.then]); refine bodyPost_ret (results_tmp4 rfl _ _ _) rfl ?_)
              exact ⟨by rw [HV.out]; rfl, rfl⟩
          · have e92 : ((x.toNat : Int) == 92) = false := u8_ne h92
            have HN : Hid (r = quoL (s.data.toList.drop (k + 1)) (l ++ [x]) (k + 1 - (i + 1))) := by
              show r = _
              rw [hh.out, hd, quo_more _ _ _ h34 hS h92, show k - (i + 1) + 1 = k + 1 - (i + 1) by omega]
            have a1 := appl1 l x
            have hw1 : ¬ 9223372036854775807 < l.length + 1 := by omega
            clear hh hd hx0 h34 hS h92 s1 s2
            go_wp2
            go_round
            case rel => exact ⟨k + 1, l ++ [x], by omega, by omega, by go_num, (by simp), by simp; omega, HN⟩
            case measure => simp [intOf]; omega
    · have hlt' : ¬ (k : Int) < s.size := by omega
      have HV : Hid (quV i (quoT r) = .tuple #[.string ⟨#[]⟩, .int .i64 0, .int .i64 22, .int .i64 (i : Int)]) := by
        show _ = _
        rw [hh.out, List.drop_eq_nil_of_le (by rw [HL.out]; omega), quo_nil]
        rfl
      clear hh
      go_wp2
      ((try simp only [Exit.inBlock, Exit.then]); refine bodyPost_ret (results_tmp4 rfl _ _ _) rfl ?_)
      exact ⟨by rw [HV.out]; rfl, rfl⟩
end Go.Proofs.YtlbgppijeoonjaaGreatDoor
