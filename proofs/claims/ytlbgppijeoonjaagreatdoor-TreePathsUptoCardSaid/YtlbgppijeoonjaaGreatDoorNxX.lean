import Derived.Test.YtlbgppijeoonjaaGreatDoorQuo
import Derived.Test.YtlbgppijeoonjaaGreatDoorNuX
import Derived.ScopeJumps
import Derived.WalkMore
namespace Go.Proofs.YtlbgppijeoonjaaGreatDoor
open Go.RowKit
set_option linter.unusedVariables false

/-- Where the scanner at r stands. -/
def scOff (w : World) (r : Nat) : Nat := match w.cell? ⟨r, 1, none⟩ with | some (.int _ q) => q.toNat | _ => 0
theorem scOff_eq {w : World} {r : Nat} {s : ByteArray} {off : Nat} (h : Sc w r s off) : scOff w r = off := by
  unfold scOff; rw [Sc4.c1 h]; simp
/-- What holds where the next token begins. -/
structure NJ (B0 : Nat) (p : Nat → Addr) (w : World) (r : Nat) (s : ByteArray) (off n : Nat) (w' : World) : Prop where
  sc : Sc w' r s (off + n)
  le : off + n ≤ s.size
  gr : w.grownBy w' (some r)
  va : w'.heap[w.heap.size]? = some (.cells zero7 57 (0, 0))
  sk : skipL (s.data.toList.drop off) = (n + (skipL (s.data.toList.drop (off + n))).1, (skipL (s.data.toList.drop (off + n))).2)

/-- The frame of the walk: nothing but the scanner has changed, and the result's variable is as it was. -/
structure KV (w : World) (r : Nat) (wk : World) : Prop where
  gr : w.grownBy wk (some r)
  va : wk.heap[w.heap.size]? = some (.cells zero7 57 (0, 0))
theorem KV.grown {w wk wl : World} {r : Nat} (h : KV w r wk) (hr : r < w.heap.size) (hg : wk.grownBy wl (some r)) : KV w r wl :=
  ⟨grown_trans h.gr hg, var_grown h.va hg (by omega)⟩
theorem KV.below {w wk wl : World} {r : Nat} (h : KV w r wk) (hr : r < w.heap.size) (hb : Below wk.heap.size wk wl) : KV w r wl := h.grown hr (grown_of_below hb)
theorem KV.env {w wk : World} {r B0 : Nat} {p : Nat → Addr} (h : KV w r wk) (hE : Env B0 p w) (hr : B0 ≤ r) : Env B0 p wk := hE.below (below_of_grown h.gr hr hE.size)
theorem jump_mono {l : Nat} {J J' : Act → World → Prop} {Q : Exit → Act → World → Prop} (h : ∀ a w, J a w → J' a w) : ∀ e a w, Exit.jump l J Q e a w → Exit.jump l J' Q e a w := by
  intro e a w hq
  cases e with
  | goto l' => exact ⟨hq.1, h _ _ hq.2⟩
  | normal => exact hq
  | exit id => exact hq
  | ret => exact hq
  | panic ch => exact hq
  | outgrown => exact hq
def nxJ (B0 : Nat) (p : Nat → Addr) (w : World) (r : Nat) (s : ByteArray) (off : Nat) (a' : Act) (w' : World) : Prop :=
  ∃ (n : Nat) (u4 u5 u6 u7 u8 u9 u10 u11 u12 u13 u14 u15 u16 u17 u18 u19 u20 u21 u22 u23 u24 u25 u26 u27 u28 u29 u30 u31 u32 u33 u34 u35 u36 u37 u38 u39 u40 u41 u42 u43 u44 u45 u46 u47 u48 u49 u50 u51 u52 u53 u54 u55 u56 u57 u58 u59 u60 u61 u62 u63 u64 u65 u66 u67 u68 u69 u70 u71 u72 : Value), NJ B0 p w r s off n w' ∧ a' = { tmps := #[.pointer (some ⟨r, 0, none⟩), undef, .pointer (some ⟨w.heap.size, 0, none⟩), .nilIface, u4, u5, u6, u7, u8, u9, u10, u11, u12, u13, u14, u15, u16, u17, u18, u19, u20, u21, u22, u23, u24, u25, u26, u27, u28, u29, u30, u31, u32, u33, u34, u35, u36, u37, u38, u39, u40, u41, u42, u43, u44, u45, u46, u47, u48, u49, u50, u51, u52, u53, u54, u55, u56, u57, u58, u59, u60, u61, u62, u63, u64, u65, u66, u67, u68, u69, u70, u71, u72], defers := [] }
def nxM (s : ByteArray) (r : Nat) (_ : Act) (w' : World) : Nat := s.size - scOff w' r
def oV : Option Nat → Int
  | some n => (n : Int)
  | none => 0
theorem cV_eq (l : List UInt8) : cV l = oV (clen l) := by
  unfold cV
  cases clen l <;> rfl
def scopeRest : Option Code → Code
  | some (.seq _ (.scope (.seq _ r))) => r
  | _ => .skip
noncomputable def nxRest : Code := scopeRest Tryz.f81.body
set_option maxHeartbeats 8000000 in
set_option maxRecDepth 100000 in
theorem next_pass (B0 r off o : Nat) (p : Nat → Addr) (s : ByteArray) (x : TR) (w : World) (hE : Env B0 p w) (hrl : r < w.heap.size) (hr : B0 ≤ r) (hs : s.size < 4294967281)
    (HX : Hid (x = nxT (s.data.toList.drop off))) (HO : Hid (o = off + (skipL (s.data.toList.drop off)).1)) (a' : Act) (w' : World) (hnj : nxJ B0 p w r s off a' w') :
    Code.wp Tryz.prog nxRest (Exit.jump 0 (fun a2 w2 => nxJ B0 p w r s off a2 w2 ∧ nxM s r a2 w2 < nxM s r a' w') (bodyPost Tryz.prog Tryz.f81 (fun e w' => TokPost p w r s o x e w'))) a' w' := by
  obtain ⟨n, u4, u5, u6, u7, u8, u9, u10, u11, u12, u13, u14, u15, u16, u17, u18, u19, u20, u21, u22, u23, u24, u25, u26, u27, u28, u29, u30, u31, u32, u33, u34, u35, u36, u37, u38, u39, u40, u41, u42, u43, u44, u45, u46, u47, u48, u49, u50, u51, u52, u53, u54, u55, u56, u57, u58, u59, u60, u61, u62, u63, u64, u65, u66, u67, u68, u69, u70, u71, u72, hJ, rfl⟩ := hnj
  have hBs := hE.size
  unfold nxRest
  simp only [scopeRest, Tryz.f81]
  obtain ⟨q, hq⟩ : ∃ q, off + n = q := ⟨_, rfl⟩
  obtain ⟨hS, hle, hgr, hva, hsk⟩ := hJ
  rw [hq] at hS hle hsk
  have HSK : Hid (skipL (s.data.toList.drop off) = (n + (skipL (s.data.toList.drop q)).1, (skipL (s.data.toList.drop q)).2)) := hsk
  have HQ : Hid (off + n = q) := hq
  clear hsk hq
  have hK : KV w r w' := ⟨hgr, hva⟩
  have HQO : Hid (scOff w' r = q) := scOff_eq hS
  obtain ⟨bl, hbd⟩ : ∃ bl, blen (s.data.toList.drop q) = bl := ⟨_, rfl⟩
  have hbl := blen_le (s.data.toList.drop q)
  rw [List.length_drop, len_all, hbd] at hbl
  have HBD : Hid (blen (s.data.toList.drop q) = bl) := hbd
  have cb := fun w1 => blanks_any (rst s q) w1 (by rw [rst_size]; omega)
  rw [rst_list, hbd] at cb
  clear hbd hgr hva
  go_wp2_with fail
  refine (rest_any r q _ _ s _ hS hle hs).mono ?_
  rintro e w1 ⟨rfl, hb1⟩
  go_wp2_with fail
  refine (cb w1).mono ?_
  rintro e w2 ⟨rfl, hb2⟩
  have hb12 := hb1.trans (hb2.mono hb1.size)
  have cp := pass_any r q bl s w2 (Sc4.below hS hb12) (by omega) hs
  go_wp2_with fail
  refine cp.mono ?_
  rintro e w3 ⟨rfl, hS3, hg3⟩
  have hK3 : KV w r w3 := (hK.below hrl hb12).grown hrl hg3
  obtain ⟨q3, hq3e⟩ : ∃ q3, q + bl = q3 := ⟨_, rfl⟩
  have hq3 : q3 ≤ s.size := by omega
  rw [hq3e] at hS3
  have HDD : Hid ((s.data.toList.drop q).drop bl = s.data.toList.drop q3) := by show _ = _; rw [List.drop_drop, hq3e]
  have HQ3 : Hid (q + bl = q3) := hq3e
  clear cb cp hb1 hb2 hb12 hg3 hS hK hq3e
  have hsz3 := heap_lt hK3.va
  -- what the comment says of the skipping
  have HC0 : Hid (isC (s.data.toList.drop q3) = true → clen (s.data.toList.drop q3) = none → o = q3 ∧ x = .bad 23 0) := fun hc hn => by
    have hsk' := HSK.out
    have hqq := HQ.out
    have hqq3 := HQ3.out
    have e := skip_open (l := s.data.toList.drop q) (by rw [HBD.out, HDD.out]; exact hc) (by rw [HBD.out, HDD.out]; exact hn)
    rw [HBD.out] at e
    rw [e] at hsk'
    have e1 : (skipL (s.data.toList.drop off)).1 = n + bl := by rw [hsk']
    have e2 : (skipL (s.data.toList.drop off)).2 = false := by rw [hsk']
    exact ⟨by rw [HO.out, e1]; omega, by rw [HX.out]; unfold nxT; rw [e2]; rfl⟩
  have HC1 : Hid (∀ m, isC (s.data.toList.drop q3) = true → clen (s.data.toList.drop q3) = some m → q3 + m ≤ s.size ∧ 2 ≤ m ∧ skipL (s.data.toList.drop off) = (n + bl + m + (skipL (s.data.toList.drop (q3 + m))).1, (skipL (s.data.toList.drop (q3 + m))).2)) := fun m hc hn => by
    have hsk' := HSK.out
    have hqq := HQ.out
    have hqq3 := HQ3.out
    have hcl := clen_le hc hn
    rw [List.length_drop, len_all] at hcl
    have e := skip_more (l := s.data.toList.drop q) (m := m) (by rw [HBD.out, HDD.out]; exact hc) (by rw [HBD.out, HDD.out]; exact hn)
    rw [HBD.out, List.drop_drop, ← Nat.add_assoc, HQ3.out] at e
    refine ⟨by omega, hcl.1, ?_⟩
    rw [hsk', e]
    simp only [Prod.mk.injEq, and_true]
    omega
  have HC2 : Hid (isC (s.data.toList.drop q3) = false → o = q3 ∧ x = tokL (s.data.toList.drop q3)) := fun hc => by
    have hsk' := HSK.out
    have hqq := HQ.out
    have hqq3 := HQ3.out
    have e := skip_none (l := s.data.toList.drop q) (by rw [HBD.out, HDD.out]; exact hc)
    rw [HBD.out] at e
    rw [e] at hsk'
    have e1 : (skipL (s.data.toList.drop off)).1 = n + bl := by rw [hsk']
    have e2 : (skipL (s.data.toList.drop off)).2 = true := by rw [hsk']
    exact ⟨by rw [HO.out, e1]; omega, by rw [HX.out]; unfold nxT; rw [e2, e1, if_pos rfl, List.drop_drop]; congr 2; omega⟩
  clear HSK HX HO HDD
  have HCV : Hid (isC (s.data.toList.drop q3) = (Lib.hasPrefix (s.data.toList.drop q3) [47, 47] || Lib.hasPrefix (s.data.toList.drop q3) [47, 42])) := rfl
  have k1 := comes_any r q3 _ _ s ⟨#[47, 47]⟩ w3 hS3 hq3 hs
  change Calls _ _ _ _ (fun e w' => e = .returned (.bool (Lib.hasPrefix (s.data.toList.drop q3) [47, 47])) ∧ Below w3.heap.size w3 w') at k1
  have k2 := fun w4 (h4 : Sc w4 r s q3) => comes_any r q3 _ _ s ⟨#[47, 42]⟩ w4 h4 hq3 hs
  change ∀ w4, Sc w4 r s q3 → Calls _ _ _ _ (fun e w' => e = .returned (.bool (Lib.hasPrefix (s.data.toList.drop q3) [47, 42])) ∧ Below w4.heap.size w4 w') at k2
  generalize Lib.hasPrefix (s.data.toList.drop q3) [47, 47] = v1 at *
  generalize Lib.hasPrefix (s.data.toList.drop q3) [47, 42] = v2 at *
  cases v1 with
  | true =>
    have hIC : isC (s.data.toList.drop q3) = true := HCV.out
    go_wp2_with fail
    refine k1.mono ?_
    rintro e wW ⟨rfl, hbW⟩
    have hSW : Sc wW r s q3 := Sc4.below hS3 hbW
    have hKW : KV w r wW := hK3.below hrl hbW
    clear k1 k2 hbW hS3 hK3 hsz3 HCV
    have hEW := hKW.env hE hr
    go_wp2_with fail
    refine (rest_any r q3 _ _ s _ hSW hq3 hs).mono ?_
    rintro e wA ⟨rfl, hbA⟩
    have hSA : Sc wA r s q3 := Sc4.below hSW hbA
    have hKA : KV w r wA := hKW.below hrl hbA
    have hEA := hKA.env hE hr
    have cc := commentLength_any B0 p (rst s q3) wA hEA (by rw [rst_size]; omega) (by rw [rst_list]; exact hIC)
    rw [rst_list] at cc
    have HIC : Hid (isC (s.data.toList.drop q3) = true) := hIC
    obtain ⟨ocl, hocl⟩ : ∃ ocl, clen (s.data.toList.drop q3) = ocl := ⟨_, rfl⟩
    have HCL : Hid (clen (s.data.toList.drop q3) = ocl) := hocl
    have e5 : cV (s.data.toList.drop q3) = oV ocl := by rw [cV_eq, hocl]
    have e6 : cO (s.data.toList.drop q3) = ocl.isSome := by unfold cO; rw [hocl]
    rw [e5, e6] at cc
    clear hIC hocl e5 e6 hSW hKW hEW hbA
    cases ocl with
    | none =>
      have cc' : Calls Tryz.prog 94 #[.string (rst s q3)] wA fun e w' => e = .returned (.tuple #[.int .i64 0, .bool false]) ∧ w' = wA := cc
      clear cc
      have lg := hEA.comment
      obtain ⟨ho3, hx3⟩ := HC0.out HIC.out HCL.out
      have HO3 : Hid (o = q3) := ho3
      have HX3 : Hid (x = .bad 23 0) := hx3
      clear ho3 hx3 HC0 HC1 HC2
      go_wp2_with (go_at_call 94; refine cc'.mono ?_; rintro e w' ⟨rfl, hww⟩; obtain rfl := hww.symm)
      refine (wrong_any r q3 s 0 _ hSA (by omega) (fun i hi => absurd hi (Nat.not_lt_zero _)) _ _).mono ?_
      rintro e wB ⟨qe, rfl, hqe, hErr, hbB⟩
      have hKB : KV w r wB := hKA.below hrl hbB
      have hqe2 : w.heap.size < qe := Nat.lt_of_lt_of_le (heap_lt hKA.va) hqe
      obtain ⟨y0, y1, y2, y3, y4, y5, y6, f⟩ := varF hKB.va
      clear hSA hKA hEA lg hbB cc'
      go_wp2
      rw [HX3.out, HO3.out]
      exact fin_bad Tryz.results81 p w wB r s q3 23 0 qe _ hKB.va hKB.gr hqe2 hErr rfl rfl
    | some m =>
      have cc' : Calls Tryz.prog 94 #[.string (rst s q3)] wA fun e w' => e = .returned (.tuple #[.int .i64 (m : Int), .bool true]) ∧ w' = wA := cc
      clear cc
      obtain ⟨hm1, hm2, hm3⟩ := HC1.out m HIC.out HCL.out
      have HM3 : Hid (_ = _) := hm3
      have cpm := pass_any r q3 m s wA hSA hm1 hs
      clear hm3 HC0 HC1 HC2
      go_wp2_with (go_at_call 94; refine cc'.mono ?_; rintro e w' ⟨rfl, hww⟩; obtain rfl := hww.symm)
      refine cpm.mono ?_
      rintro e wB ⟨rfl, hSB, hgB⟩
      have hKB : KV w r wB := hKA.grown hrl hgB
      clear cpm hSA hKA hEA hgB cc'
      go_wp2
      go_step3
      refine ⟨rfl, ⟨n + bl + m, _, _, _, _, _, _, _, _, _, _, _, _, _, _, _, _, _, _, _, _, _, _, _, _, _, _, _, _, _, _, _, _, _, _, _, _, _, _, _, _, _, _, _, _, _, _, _, _, _, _, _, _, _, _, _, _, _, _, _, _, _, _, _, _, _, _, _, _, _, ⟨?_, ?_, hKB.gr, hKB.va, ?_⟩, rfl⟩, ?_⟩
      · have := HQ.out; have := HQ3.out
        rw [show off + (n + bl + m) = q3 + m by omega]; exact hSB
      · have := HQ.out; have := HQ3.out
        omega
      · have := HQ.out; have := HQ3.out
        rw [show off + (n + bl + m) = q3 + m by omega]; exact HM3.out
      · have h1 := scOff_eq hSB
        have h2 := HQO.out
        have := HQ3.out
        unfold nxM
        rw [h1, h2]
        omega
  | false =>
    go_wp2_with fail
    refine k1.mono ?_
    rintro e wV ⟨rfl, hbV⟩
    have hSV : Sc wV r s q3 := Sc4.below hS3 hbV
    have hKV : KV w r wV := hK3.below hrl hbV
    clear k1 hbV hS3 hK3 hsz3
    go_wp2_with fail
    refine (k2 wV hSV).mono ?_
    rintro e wW ⟨rfl, hbW⟩
    have hSW : Sc wW r s q3 := Sc4.below hSV hbW
    have hKW : KV w r wW := hKV.below hrl hbW
    clear k2 hbW hSV hKV
    cases v2 with
    | true =>
      have hIC : isC (s.data.toList.drop q3) = true := HCV.out
      clear HCV
      have hEW := hKW.env hE hr
      go_wp2_with fail
      refine (rest_any r q3 _ _ s _ hSW hq3 hs).mono ?_
      rintro e wA ⟨rfl, hbA⟩
      have hSA : Sc wA r s q3 := Sc4.below hSW hbA
      have hKA : KV w r wA := hKW.below hrl hbA
      have hEA := hKA.env hE hr
      have cc := commentLength_any B0 p (rst s q3) wA hEA (by rw [rst_size]; omega) (by rw [rst_list]; exact hIC)
      rw [rst_list] at cc
      have HIC : Hid (isC (s.data.toList.drop q3) = true) := hIC
      obtain ⟨ocl, hocl⟩ : ∃ ocl, clen (s.data.toList.drop q3) = ocl := ⟨_, rfl⟩
      have HCL : Hid (clen (s.data.toList.drop q3) = ocl) := hocl
      have e5 : cV (s.data.toList.drop q3) = oV ocl := by rw [cV_eq, hocl]
      have e6 : cO (s.data.toList.drop q3) = ocl.isSome := by unfold cO; rw [hocl]
      rw [e5, e6] at cc
      clear hIC hocl e5 e6 hSW hKW hEW hbA
      cases ocl with
      | none =>
        have cc' : Calls Tryz.prog 94 #[.string (rst s q3)] wA fun e w' => e = .returned (.tuple #[.int .i64 0, .bool false]) ∧ w' = wA := cc
        clear cc
        have lg := hEA.comment
        obtain ⟨ho3, hx3⟩ := HC0.out HIC.out HCL.out
        have HO3 : Hid (o = q3) := ho3
        have HX3 : Hid (x = .bad 23 0) := hx3
        clear ho3 hx3 HC0 HC1 HC2
        go_wp2_with (go_at_call 94; refine cc'.mono ?_; rintro e w' ⟨rfl, hww⟩; obtain rfl := hww.symm)
        refine (wrong_any r q3 s 0 _ hSA (by omega) (fun i hi => absurd hi (Nat.not_lt_zero _)) _ _).mono ?_
        rintro e wB ⟨qe, rfl, hqe, hErr, hbB⟩
        have hKB : KV w r wB := hKA.below hrl hbB
        have hqe2 : w.heap.size < qe := Nat.lt_of_lt_of_le (heap_lt hKA.va) hqe
        obtain ⟨y0, y1, y2, y3, y4, y5, y6, f⟩ := varF hKB.va
        clear hSA hKA hEA lg hbB cc'
        go_wp2
        rw [HX3.out, HO3.out]
        exact fin_bad Tryz.results81 p w wB r s q3 23 0 qe _ hKB.va hKB.gr hqe2 hErr rfl rfl
      | some m =>
        have cc' : Calls Tryz.prog 94 #[.string (rst s q3)] wA fun e w' => e = .returned (.tuple #[.int .i64 (m : Int), .bool true]) ∧ w' = wA := cc
        clear cc
        obtain ⟨hm1, hm2, hm3⟩ := HC1.out m HIC.out HCL.out
        have HM3 : Hid (_ = _) := hm3
        have cpm := pass_any r q3 m s wA hSA hm1 hs
        clear hm3 HC0 HC1 HC2
        go_wp2_with (go_at_call 94; refine cc'.mono ?_; rintro e w' ⟨rfl, hww⟩; obtain rfl := hww.symm)
        refine cpm.mono ?_
        rintro e wB ⟨rfl, hSB, hgB⟩
        have hKB : KV w r wB := hKA.grown hrl hgB
        clear cpm hSA hKA hEA hgB cc'
        go_wp2
        go_step3
        refine ⟨rfl, ⟨n + bl + m, _, _, _, _, _, _, _, _, _, _, _, _, _, _, _, _, _, _, _, _, _, _, _, _, _, _, _, _, _, _, _, _, _, _, _, _, _, _, _, _, _, _, _, _, _, _, _, _, _, _, _, _, _, _, _, _, _, _, _, _, _, _, _, _, _, _, _, _, _, ⟨?_, ?_, hKB.gr, hKB.va, ?_⟩, rfl⟩, ?_⟩
        · have := HQ.out; have := HQ3.out
          rw [show off + (n + bl + m) = q3 + m by omega]; exact hSB
        · have := HQ.out; have := HQ3.out
          omega
        · have := HQ.out; have := HQ3.out
          rw [show off + (n + bl + m) = q3 + m by omega]; exact HM3.out
        · have h1 := scOff_eq hSB
          have h2 := HQO.out
          have := HQ3.out
          unfold nxM
          rw [h1, h2]
          omega

    | false =>
      have hIC : isC (s.data.toList.drop q3) = false := HCV.out
      clear HCV
      obtain ⟨ho3, hx3⟩ := HC2.out hIC
      have HO3 : Hid (o = q3) := ho3
      have HX3 : Hid (x = tokL (s.data.toList.drop q3)) := hx3
      clear ho3 hx3 HC0 HC1 HC2 hIC
      go_wp2_with fail
      refine (rest_any r q3 _ _ s _ hSW hq3 hs).mono ?_
      rintro e wA ⟨rfl, hbA⟩
      have hSA : Sc wA r s q3 := Sc4.below hSW hbA
      have hKA : KV w r wA := hKW.below hrl hbA
      clear hSW hKW hbA
      by_cases hend : q3 = s.size
      · have hie : (rst s q3).toList.isEmpty = true := by rw [ByteArray.toList_eq, rst_list, List.drop_eq_nil_of_le (by rw [len_all]; omega)]; rfl
        have HXE : Hid (x = .ok tk0 0) := by show x = _; rw [HX3.out, List.drop_eq_nil_of_le (by rw [len_all]; omega)]; rfl
        have ct := take_any r q3 s 0 tk0 wA hSA (by omega) hs
        unfold tkV tkC tk0 at ct
        simp only at ct
        clear hend HX3
        have ct' : Calls Tryz.prog 95 #[.pointer (some ⟨r, 0, none⟩), .agg #[.int .i64 0, .int .i64 0, .int .i64 0, .int .i64 0, .string ⟨#[]⟩, .int .u32 0, .bool false], .int .i64 0] wA _ := ct
        clear ct
        go_wp2_with fail
        refine ct'.mono ?_
        rintro e wB ⟨rfl, hSB, hgB⟩
        have hKB : KV w r wB := hKA.grown hrl hgB
        obtain ⟨y0, y1, y2, y3, y4, y5, y6, f⟩ := varF hKB.va
        clear hSA hKA hgB ct'
        go_wp2
        rw [HXE.out, HO3.out]
        exact fin_ok Tryz.results81 p w wB r s q3 0 tk0 _ hKB.va hKB.gr hrl hSB rfl rfl
      · have hie : (rst s q3).toList.isEmpty = false := by
          rw [ByteArray.toList_eq, List.isEmpty_eq_false_iff]
          intro e2
          have h2 := len_all (rst s q3)
          rw [e2, rst_size] at h2
          simp at h2
          omega
        have hq4 : q3 < s.size := by omega
        obtain ⟨c, hc⟩ : ∃ c, s[q3] = c := ⟨_, rfl⟩
        have hdc : s.data.toList.drop q3 = c :: s.data.toList.drop (q3 + 1) := drop_cons _ _ _ (by rw [snoc_all s q3 hq4, hc])
        have hix : ∀ w, (Instr.index 9 (.string s) (.int .i64 (q3 : Int))).run Tryz.prog w = .ok (.int .u8 (c.toNat : Int)) w := fun w => by
          rw [← hc]; exact index_at s q3 _ w hq4 rfl
        have c0 := Sc4.c0 hSA
        have c1 := Sc4.c1 hSA
        have HDC : Hid (_ = _) := hdc
        have HCC : Hid (s[q3] = c) := hc
        clear hdc hc hend
        go_wp2
        go_quiet (fail)
        have hSM : Sc (wA.drewN nq) r s q3 := Sc4.below hSA (below_drewN (Below.refl _ _) _)
        have hKM : KV w r (wA.drewN nq) := hKA.below hrl (below_drewN (Below.refl _ _) _)
        have hEM := hKM.env hE hr
        generalize wA.drewN nq = wM at *
        clear c0 c1 hSA hKA hix hie
        have cl : ∀ w, Calls Tryz.prog 96 #[.int .u8 c.toNat] w fun e w' => e = .returned (.bool (isL c)) ∧ w = w' := fun w => (letter_any c w).mono fun e w' ⟨a, b⟩ => ⟨a, b.symm⟩
        have cd : ∀ w, Calls Tryz.prog 98 #[.int .u8 c.toNat] w fun e w' => e = .returned (.bool (isG c)) ∧ w = w' := fun w => (digit_any c w).mono fun e w' ⟨a, b⟩ => ⟨a, b.symm⟩
        have hwl : isG c = true → 0 < wlen (s.data.toList.drop q3) := fun h => by
          rw [HDC.out]; unfold wlen isW; simp [h]
        by_cases hL : isL c = true
        · have HXT : Hid (x = if 63 < wlen (s.data.toList.drop q3) then .bad 24 0 else .ok ⟨1, (s.data.toList.drop q3).take (wlen (s.data.toList.drop q3)), 0, false⟩ (wlen (s.data.toList.drop q3))) := by
            show x = _
            rw [HX3.out]
            conv => lhs; rw [HDC.out]
            unfold tokL
            simp only
            rw [if_pos hL, ← HDC.out]
          rw [hL] at cl
          clear cd HX3 HDC HCC hwl hL
          go_wp2_with (first | (go_at_call 96; refine (cl _).mono ?_; rintro e w' ⟨rfl, rfl⟩) | (go_at_call 98; refine (cd _).mono ?_; rintro e w' ⟨rfl, rfl⟩))
          refine (name_any B0 r q3 p s wM hEM hSM hr hq3 hs).mono ?_
          intro e wN hN
          have hN : TokPost p wM r s q3 x e wN := by rw [HXT.out]; exact hN
          cases x with
          | ok k len =>
            obtain ⟨rfl, hSN, hgN⟩ := hN
            have hKN : KV w r wN := hKM.grown hrl hgN
            obtain ⟨y0, y1, y2, y3, y4, y5, y6, f⟩ := varF hKN.va
            unfold tkV tkC
            clear hKM hEM hSM hgN HXT
            go_wp2
            rw [HO3.out]
            exact fin_ok Tryz.results81 p w wN r s q3 len k _ hKN.va hKN.gr hrl hSN rfl rfl
          | bad c2 at2 =>
            obtain ⟨qe, rfl, hqe, hErr, hgN⟩ := hN
            have hKN : KV w r wN := hKM.grown hrl hgN
            have hqe2 : w.heap.size < qe := Nat.lt_of_lt_of_le (heap_lt hKM.va) hqe
            obtain ⟨y0, y1, y2, y3, y4, y5, y6, f⟩ := varF hKN.va
            unfold zero7
            clear hKM hEM hSM hgN HXT
            go_wp2
            rw [HO3.out]
            exact fin_bad Tryz.results81 p w wN r s q3 c2 at2 qe _ hKN.va hKN.gr hqe2 hErr rfl rfl

        · have hL' : isL c = false := by simpa using hL
          rw [hL'] at cl
          by_cases hG : isG c = true
          · have HXT : Hid (x = numT (s.data.toList.drop q3)) := by
              show x = _
              rw [HX3.out]
              conv => lhs; rw [HDC.out]
              unfold tokL
              simp only
              rw [if_neg hL, if_pos hG, ← HDC.out]
              rfl
            rw [hG] at cd
            have hwl' := hwl hG
            clear HX3 HDC HCC hwl hL hL' hG
            go_wp2_with (first | (go_at_call 96; refine (cl _).mono ?_; rintro e w' ⟨rfl, rfl⟩) | (go_at_call 98; refine (cd _).mono ?_; rintro e w' ⟨rfl, rfl⟩))
            refine (number_any B0 r q3 p s wM hEM hSM hr hq3 hwl' hs).mono ?_
            intro e wN hN
            have hN : TokPost p wM r s q3 x e wN := by rw [HXT.out]; exact hN
            cases x with
            | ok k len =>
              obtain ⟨rfl, hSN, hgN⟩ := hN
              have hKN : KV w r wN := hKM.grown hrl hgN
              obtain ⟨y0, y1, y2, y3, y4, y5, y6, f⟩ := varF hKN.va
              unfold tkV tkC
              clear hKM hEM hSM hgN HXT
              go_wp2
              rw [HO3.out]
              exact fin_ok Tryz.results81 p w wN r s q3 len k _ hKN.va hKN.gr hrl hSN rfl rfl
            | bad c2 at2 =>
              obtain ⟨qe, rfl, hqe, hErr, hgN⟩ := hN
              have hKN : KV w r wN := hKM.grown hrl hgN
              have hqe2 : w.heap.size < qe := Nat.lt_of_lt_of_le (heap_lt hKM.va) hqe
              obtain ⟨y0, y1, y2, y3, y4, y5, y6, f⟩ := varF hKN.va
              unfold zero7
              clear hKM hEM hSM hgN HXT
              go_wp2
              rw [HO3.out]
              exact fin_bad Tryz.results81 p w wN r s q3 c2 at2 qe _ hKN.va hKN.gr hqe2 hErr rfl rfl

          · have hG' : isG c = false := by simpa using hG
            rw [hG'] at cd
            by_cases h34 : c = 34
            · have HXT : Hid (x = quoT (quoL (s.data.toList.drop (q3 + 1)) [] 0)) := by
                show x = _
                rw [HX3.out, HDC.out]
                unfold tokL
                simp only
                rw [if_neg hL, if_neg hG, if_pos h34]
              have h34' : ((c.toNat : Int) == 34) = true := by rw [h34]; rfl
              have HC34 : Hid (s[q3] = 34) := HCC.out.trans h34
              clear HX3 HDC HCC hwl hL hL' hG hG' h34
              go_wp2_with (first | (go_at_call 96; refine (cl _).mono ?_; rintro e w' ⟨rfl, rfl⟩) | (go_at_call 98; refine (cd _).mono ?_; rintro e w' ⟨rfl, rfl⟩))
              refine (quoted_any B0 r q3 p s wM hEM hSM hr hq4 HC34.out hs).mono ?_
              intro e wN hN
              have hN : TokPost p wM r s q3 x e wN := by rw [HXT.out]; exact hN
              cases x with
              | ok k len =>
                obtain ⟨rfl, hSN, hgN⟩ := hN
                have hKN : KV w r wN := hKM.grown hrl hgN
                obtain ⟨y0, y1, y2, y3, y4, y5, y6, f⟩ := varF hKN.va
                unfold tkV tkC
                clear hKM hEM hSM hgN HXT
                go_wp2
                rw [HO3.out]
                exact fin_ok Tryz.results81 p w wN r s q3 len k _ hKN.va hKN.gr hrl hSN rfl rfl
              | bad c2 at2 =>
                obtain ⟨qe, rfl, hqe, hErr, hgN⟩ := hN
                have hKN : KV w r wN := hKM.grown hrl hgN
                have hqe2 : w.heap.size < qe := Nat.lt_of_lt_of_le (heap_lt hKM.va) hqe
                obtain ⟨y0, y1, y2, y3, y4, y5, y6, f⟩ := varF hKN.va
                unfold zero7
                clear hKM hEM hSM hgN HXT
                go_wp2
                rw [HO3.out]
                exact fin_bad Tryz.results81 p w wN r s q3 c2 at2 qe _ hKN.va hKN.gr hqe2 hErr rfl rfl

            · have HXT : Hid (x = if mrk c = 0 then .bad 20 0 else .ok ⟨mrk c, [], 0, false⟩ 1) := by
                show x = _
                rw [HX3.out, HDC.out]
                unfold tokL
                simp only
                rw [if_neg hL, if_neg hG, if_neg h34]
              have h34' : ((c.toNat : Int) == 34) = false := by rw [beq_eq_false_iff_ne]; intro e2; exact h34 (UInt8.toNat_inj.1 (by show c.toNat = 34; omega))
              clear HX3 HDC hwl hL hL' hG hG' h34
              go_wp2_with (first | (go_at_call 96; refine (cl _).mono ?_; rintro e w' ⟨rfl, rfl⟩) | (go_at_call 98; refine (cd _).mono ?_; rintro e w' ⟨rfl, rfl⟩))
              refine (mark_any B0 r q3 p s c wM hEM hSM hr hq4 HCC.out hs _ rfl).mono ?_
              intro e wN hN
              have hN : TokPost p wM r s q3 x e wN := by rw [HXT.out]; exact hN
              cases x with
              | ok k len =>
                obtain ⟨rfl, hSN, hgN⟩ := hN
                have hKN : KV w r wN := hKM.grown hrl hgN
                obtain ⟨y0, y1, y2, y3, y4, y5, y6, f⟩ := varF hKN.va
                unfold tkV tkC
                clear hKM hEM hSM hgN HXT
                go_wp2
                rw [HO3.out]
                exact fin_ok Tryz.results81 p w wN r s q3 len k _ hKN.va hKN.gr hrl hSN rfl rfl
              | bad c2 at2 =>
                obtain ⟨qe, rfl, hqe, hErr, hgN⟩ := hN
                have hKN : KV w r wN := hKM.grown hrl hgN
                have hqe2 : w.heap.size < qe := Nat.lt_of_lt_of_le (heap_lt hKM.va) hqe
                obtain ⟨y0, y1, y2, y3, y4, y5, y6, f⟩ := varF hKN.va
                unfold zero7
                clear hKM hEM hSM hgN HXT
                go_wp2
                rw [HO3.out]
                exact fin_bad Tryz.results81 p w wN r s q3 c2 at2 qe _ hKN.va hKN.gr hqe2 hErr rfl rfl

end Go.Proofs.YtlbgppijeoonjaaGreatDoor

namespace Go.Proofs.YtlbgppijeoonjaaGreatDoor
open Go.RowKit
set_option linter.unusedVariables false
set_option maxHeartbeats 8000000 in
set_option maxRecDepth 100000 in
theorem next_any (B0 r off : Nat) (p : Nat → Addr) (s : ByteArray) (w : World) (hE : Env B0 p w) (h : Sc w r s off) (hr : B0 ≤ r) (ho : off ≤ s.size) (hs : s.size < 4294967281) :
    Calls Tryz.prog 81 #[.pointer (some ⟨r, 0, none⟩)] w fun e w' => TokPost p w r s (off + (skipL (s.data.toList.drop off)).1) (nxT (s.data.toList.drop off)) e w' := by
  have hrl := Sc4.lt h
  have key := next_pass B0 r off (off + (skipL (s.data.toList.drop off)).1) p s (nxT (s.data.toList.drop off)) w hE hrl hr hs rfl rfl
  have hJ0 : NJ B0 p w r s off 0 (w.alloc (.cells zero7 57)) := ⟨Sc4.alloc h _, ho, grown_of_below ((Below.refl _ _).alloc (Nat.le_refl _) _), heap_alloc_new _ _, by simp⟩
  generalize nxT (s.data.toList.drop off) = x at *
  generalize off + (skipL (s.data.toList.drop off)).1 = o at *
  go_enter Tryz.func81, Tryz.ntmps81
  go_wp2
  refine wp_scope_jumps 0 (nxJ B0 p w r s off) (nxM s r) rfl ?first ?pass
  case first =>
    refine wp_seq ?_
    go_step3
    show Code.wp Tryz.prog nxRest _ _ _
    refine Code.wp_mono ?_ (key _ _ ⟨0, _, _, _, _, _, _, _, _, _, _, _, _, _, _, _, _, _, _, _, _, _, _, _, _, _, _, _, _, _, _, _, _, _, _, _, _, _, _, _, _, _, _, _, _, _, _, _, _, _, _, _, _, _, _, _, _, _, _, _, _, _, _, _, _, _, _, _, _, _, hJ0, rfl⟩)
    exact jump_mono (fun _ _ h => h.1)
  case pass =>
    intro a1 w1 hJ
    refine wp_seq (wp_skip ?_)
    show Code.wp Tryz.prog nxRest _ _ _
    exact key a1 w1 hJ
end Go.Proofs.YtlbgppijeoonjaaGreatDoor

