import Derived.Test.YtpbnpmeigdjfdaaGreatDoorKop
import Derived.Test.YtpbnpmeigdjfdaaGreatDoorXKvd
namespace Go.Proofs.YtpbnpmeigdjfdaaGreatDoor
open Go.ChangeShapes Go.RowKit Go.WideShapes
set_option linter.unusedSimpArgs false
set_option linter.unusedVariables false
set_option maxHeartbeats 16000000
set_option maxRecDepth 100000
theorem array18 {α : Type} {l : Array α} (h : l.size = 18) : ∃ c0 c1 c2 c3 c4 c5 c6 c7 c8 c9 c10 c11 c12 c13 c14 c15 c16 c17, l = #[c0, c1, c2, c3, c4, c5, c6, c7, c8, c9, c10, c11, c12, c13, c14, c15, c16, c17] := by
 obtain ⟨l⟩ := l
 obtain ⟨c0, c1, c2, c3, c4, c5, c6, c7, c8, c9, c10, c11, c12, c13, c14, c15, c16, c17, e⟩ := list18 (l := l) (by simpa using h)
 exact ⟨c0, c1, c2, c3, c4, c5, c6, c7, c8, c9, c10, c11, c12, c13, c14, c15, c16, c17, by rw [e]⟩
theorem p_Cf : Tryz.prog.cellsOf 33 = 18 := by kernel_rfl
theorem b_t : Tryz.prog.bytesOf 79 = 136 := by kernel_rfl
theorem q_t : Tryz.prog.cellsOf 79 = 8 := by kernel_rfl
theorem b_r : Tryz.prog.bytesOf 82 = 32 := by kernel_rfl
theorem q_r : Tryz.prog.cellsOf 82 = 3 := by kernel_rfl
theorem b_e : Tryz.prog.bytesOf 163 = 24 := by kernel_rfl
theorem q_e : Tryz.prog.cellsOf 163 = 3 := by kernel_rfl
theorem b_k : Tryz.prog.bytesOf 165 = 32 := by kernel_rfl
theorem q_k : Tryz.prog.cellsOf 165 = 4 := by kernel_rfl
theorem b_a : Tryz.prog.bytesOf 170 = 96 := by kernel_rfl
theorem q_a : Tryz.prog.cellsOf 170 = 9 := by kernel_rfl
theorem b_i : Tryz.prog.bytesOf 103 = 80 := by kernel_rfl
theorem q_i : Tryz.prog.cellsOf 103 = 5 := by kernel_rfl
theorem b_s : Tryz.prog.bytesOf 173 = 96 := by kernel_rfl
theorem q_s : Tryz.prog.cellsOf 173 = 10 := by kernel_rfl
theorem config_open {H : Type} {enc : TypeId × Value → H} {w : World} {spare : Nat → Bool} {held : Bool} {r : Reach} {b0 : Nat} {v : Value} {d : DataW H} {p : List MemPlace}
  (hv : Value.okWide Tryz.prog w r b0 33 v) (h : DataW.Trod enc Tryz.prog w 0 spare held 33 v d p) (hd : Sized (d.weights Tryz.prog 33)) :
  ∃ (c : Cf) (vv : Vs), v = .agg (cfC c vv) ∧ CfAt w c vv ∧ LensOK c ∧ ∀ x ∈ c.evs, x.mask < 4294967296 := by
 obtain ⟨cs, rfl, hsz⟩ := okWide_struct Tryz.underlying33 hv
 rw [p_Cf] at hsz
 obtain ⟨c0, c1, c2, c3, c4, c5, c6, c7, c8, c9, c10, c11, c12, c13, c14, c15, c16, c17, rfl⟩ := array18 hsz
 obtain ⟨fuel, hf⟩ := h
 obtain ⟨xs, n, hn, hx, hl, hlen, hfs⟩ := DataW.trod_struct Tryz.underlying33 hf
 match xs, hlen with
 | [y0, y1, y2, y3, y4, y5, y6, y7, y8, y9], _ =>
  have h0 := hfs 0 _ rfl
  have h1 := hfs 1 _ rfl
  have h2 := hfs 2 _ rfl
  have h3 := hfs 3 _ rfl
  have h4 := hfs 4 _ rfl
  have h5 := hfs 5 _ rfl
  have h6 := hfs 6 _ rfl
  have h7 := hfs 7 _ rfl
  have h8 := hfs 8 _ rfl
  have h9 := hfs 9 _ rfl
  simp [p_string, p_apiOs, p_Lstring, p_LapiTask, p_LapiResource, p_LapiEvent, p_LapiCounter, p_LapiAlarm, p_LapiIsr, p_LapiMessage, Value.cells] at h0 h1 h2 h3 h4 h5 h6 h7 h8 h9
  have hd2 : d = .agg [y0.1, y1.1, y2.1, y3.1, y4.1, y5.1, y6.1, y7.1, y8.1, y9.1] := congrArg Prod.fst hx
  rw [hd2] at hd
  obtain ⟨cpu, e0, _, _⟩ := DataW.trod_string Tryz.underlying9 h0
  obtain ⟨ys, m, _, _, _, ylen, yfs⟩ := DataW.trod_struct Tryz.underlying23 h1
  match ys, ylen with
  | [z0, z1, z2, z3, z4, z5, z6, z7, z8], _ =>
   have g0 := yfs 0 _ rfl
   have g1 := yfs 1 _ rfl
   have g2 := yfs 2 _ rfl
   have g3 := yfs 3 _ rfl
   have g4 := yfs 4 _ rfl
   have g5 := yfs 5 _ rfl
   have g6 := yfs 6 _ rfl
   have g7 := yfs 7 _ rfl
   have g8 := yfs 8 _ rfl
   simp [p_string, p_bool] at g0 g1 g2 g3 g4 g5 g6 g7 g8
   obtain ⟨osn, k0, _, _⟩ := DataW.trod_string Tryz.underlying9 g0
   obtain ⟨o1, k1, _⟩ := DataW.trod_bool Tryz.underlying4 g1
   obtain ⟨o2, k2, _⟩ := DataW.trod_bool Tryz.underlying4 g2
   obtain ⟨o3, k3, _⟩ := DataW.trod_bool Tryz.underlying4 g3
   obtain ⟨o4, k4, _⟩ := DataW.trod_bool Tryz.underlying4 g4
   obtain ⟨o5, k5, _⟩ := DataW.trod_bool Tryz.underlying4 g5
   obtain ⟨o6, k6, _⟩ := DataW.trod_bool Tryz.underlying4 g6
   obtain ⟨o7, k7, _⟩ := DataW.trod_bool Tryz.underlying4 g7
   obtain ⟨o8, k8, _⟩ := DataW.trod_bool Tryz.underlying4 g8
   simp at e0 k0 k1 k2 k3 k4 k5 k6 k7 k8
   subst e0 k0 k1 k2 k3 k4 k5 k6 k7 k8
   obtain ⟨sm, lm, rfl, rm, _⟩ := rows_open ⟨[]⟩ (by omega) Tryz.underlying24 p_string h2 one_str
   obtain ⟨st, lt, rfl, rt, wt⟩ := rows_open ⟨(⟨[], 0, false, 0, [], [], [], []⟩ : Tk)⟩ (by omega) Tryz.underlying25 q_t h3 one_tk
   have ut := wt (sized_field Tryz.underlying33 hd (j := 3) rfl rfl)
   rw [b_t] at ut
   unfold reachBytes at ut
   obtain ⟨sr, lr, rfl, rr, wr⟩ := rows_open ⟨(⟨[], 0, 0⟩ : Rs)⟩ (by omega) Tryz.underlying26 q_r h4 one_rs
   have ur := wr (sized_field Tryz.underlying33 hd (j := 4) rfl rfl)
   rw [b_r] at ur
   unfold reachBytes at ur
   obtain ⟨se, le, rfl, re, we⟩ := rows_open ⟨(⟨[], 0, false⟩ : Ev)⟩ (by omega) Tryz.underlying27 q_e h5 one_ev
   have ue := we (sized_field Tryz.underlying33 hd (j := 5) rfl rfl)
   rw [b_e] at ue
   unfold reachBytes at ue
   obtain ⟨sk, lk, rfl, rk, wk⟩ := rows_open ⟨(⟨[], 0, 0, 0⟩ : Ct)⟩ (by omega) Tryz.underlying28 q_k h6 one_ct
   have uk := wk (sized_field Tryz.underlying33 hd (j := 6) rfl rfl)
   rw [b_k] at uk
   unfold reachBytes at uk
   obtain ⟨sa, la, rfl, ra, wa⟩ := rows_open ⟨(⟨[], 0, ⟨0, 0, 0, []⟩, [], 0, 0⟩ : Al)⟩ (by omega) Tryz.underlying29 q_a h7 one_al
   have ua := wa (sized_field Tryz.underlying33 hd (j := 7) rfl rfl)
   rw [b_a] at ua
   unfold reachBytes at ua
   obtain ⟨si, li, rfl, ri, wi⟩ := rows_open ⟨(⟨[], 0, 0, [], []⟩ : Is)⟩ (by omega) Tryz.underlying30 q_i h8 one_is
   have ui := wi (sized_field Tryz.underlying33 hd (j := 8) rfl rfl)
   rw [b_i] at ui
   unfold reachBytes at ui
   obtain ⟨ss, ls, rfl, rs, ws⟩ := rows_open ⟨(⟨[], 0, 0, 0, 0, 0, ⟨0, 0, 0, []⟩⟩ : Ms)⟩ (by omega) Tryz.underlying31 q_s h9 one_ms
   have us := ws (sized_field Tryz.underlying33 hd (j := 9) rfl rfl)
   rw [b_s] at us
   unfold reachBytes at us
   refine ⟨⟨cpu.data.toList, osn.data.toList, o1, o2, o3, o4, o5, o6, o7, o8, lm, lt, lr, le, lk, la, li, ls⟩, ⟨sm, st, sr, se, sk, sa, si, ss⟩, ?_, ⟨rm, rt, rr, re.below (Below.refl _ _) (fun _ _ _ _ h => h.1), rk, ra, ri, rs⟩, ⟨by show lt.length ≤ _; omega, by show lr.length ≤ _; omega, by show le.length ≤ _; omega, by show lk.length ≤ _; omega, by show la.length ≤ _; omega, by show li.length ≤ _; omega, by show ls.length ≤ _; omega⟩, fun x hx => ?_⟩
   ·simp [cfC]
   ·obtain ⟨j, hj⟩ := List.getElem?_of_mem hx
    obtain ⟨_, _, _, _, hr⟩ := re.row j x hj
    obtain ⟨_, _, hb⟩ := hr 0 (by omega)
    exact hb.2
end Go.Proofs.YtpbnpmeigdjfdaaGreatDoor
