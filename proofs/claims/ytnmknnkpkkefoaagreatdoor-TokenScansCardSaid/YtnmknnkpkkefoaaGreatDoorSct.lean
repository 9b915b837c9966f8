import Derived.Test.YtnmknnkpkkefoaaGreatDoorFav
import Derived.Test.YtnmknnkpkkefoaaGreatDoorAtr
import Derived.Test.YtnmknnkpkkefoaaGreatDoorLsX
namespace Go.Proofs.YtnmknnkpkkefoaaGreatDoor
open Go.RowKit
set_option linter.unusedVariables false

theorem res_scan {fn : Func} (hf : fn.results = #[.tmp 2, .cell 3 27]) (tmps : Array Value) (b : Nat) (e : Value) (w : World) (v0 v1 v2 v3 v4 : Value)
    (h2 : tmps[2]? = some e) (h3 : tmps[3]? = some (.pointer (some ⟨b, 0, none⟩))) (hk : w.heap[b]? = some (.cells #[v0, v1, v2, v3, v4] 27 (0, 0))) :
    (results fn tmps).run Tryz.prog w = .ok (.tuple #[e, .agg #[v0, v1, v2, v3, v4]]) w := by
  have a1 := fun i => cell_of_row w b i _ _ (0, 0) hk
  have z0 := a1 0; have z1 := a1 1; have z2 := a1 2; have z3 := a1 3; have z4 := a1 4
  simp at z0 z1 z2 z3 z4
  simp [results, hf, go_sem, h2, h3, z0, z1, z2, z3, z4]
set_option maxHeartbeats 1000000 in
theorem Scan_any (B0 : Nat) (p : Nat → Addr) (s : ByteArray) (w : World) (hE : Env B0 p w) (hF : EnvF B0 p w) (hs : s.size < 4611686018427387904) :
    Calls Tryz.prog 4 #[.string s] w fun e w' => SPost w s.data.toList (scanA s.data.toList) e w' := by
  have ba : Below w.heap.size w (w.alloc (.cells zero5 27)) := (Below.refl _ _).alloc (Nat.le_refl _) _
  have cs := scan_any B0 p s (w.alloc (.cells zero5 27)) (hE.below (ba.mono hE.size)) hs
  have hv0 : (w.alloc (.cells zero5 27)).heap[w.heap.size]? = some (.cells zero5 27 (0, 0)) := push_at w.heap _
  have hz0 : (w.alloc (.cells zero5 27)).heap.size = w.heap.size + 1 := by simp
  obtain ⟨x, hx⟩ : ∃ x, x = scanA s.data.toList := ⟨_, rfl⟩
  have hxr : ∀ c a, x = .inr (c, a) → 20 ≤ c ∧ c ≤ 24 := fun c a e => by rw [hx] at e; have := scanA_bad e; omega
  rw [← hx] at cs ⊢
  clear hx
  go_enter Tryz.func4, Tryz.ntmps4
  go_wp2_with fail
  cases x with
  | inl ts =>
    refine cs.mono ?_
    rintro e w1 ⟨v, rfl, hO, hb1⟩
    obtain ⟨av, cv, rfl⟩ := own_shape7 hO
    have hv1 := (hb1.block _ (by rw [hz0]; omega)).trans hv0
    have hbw := ba.trans (hb1.mono ba.size)
    rw [hz0] at hO
    have cf := fault_nil w1
    clear cs hb1 hv0 hxr
    go_wp2_with (go_at_call 9; refine cf.mono ?_; rintro e w2 ⟨rfl, hb2⟩; have hv2 := (hb2.block _ (heap_lt hv1)).trans hv1; obtain ⟨y0, y1, y2, y3, y4, fz⟩ := varG hv2)
    have hk := set5_at w2 w.heap.size _ _ _ _ _ _ (.int .i64 0) (.int .i64 0) (.int .i64 0) (.int .i64 0) (.string ⟨#[]⟩) hv2
    have hg := set5_grown w2 w.heap.size (.int .i64 0) (.int .i64 0) (.int .i64 0) (.int .i64 0) (.string ⟨#[]⟩)
    refine bodyPost_ret (res_scan Tryz.results4 _ w.heap.size _ _ _ _ _ _ _ rfl rfl hk) rfl ⟨_, rfl, ?_, ?_⟩
    · exact own_base (own_grown (own_below hO hb2) hg (Nat.lt_succ_self _)) (Nat.le_succ _)
    · exact (hbw.trans (hb2.mono hbw.size)).trans (below_of_grown hg (Nat.le_refl _) (Nat.le_trans hbw.size hb2.size))
  | inr ca =>
    obtain ⟨c, a⟩ := ca
    refine cs.mono ?_
    rintro e w1 ⟨q, rfl, hq, hErr, hb1⟩
    have hv1 := (hb1.block _ (by rw [hz0]; omega)).trans hv0
    have hbw := ba.trans (hb1.mono ba.size)
    have cf := fault_err (hE.below (hbw.mono hE.size)) (hF.below hE (hbw.mono hE.size)) (hxr c a rfl) hErr
    clear cs hb1 hv0 hxr
    go_wp2_with (go_at_call 9; refine cf.mono ?_; rintro e w2 ⟨rfl, hb2⟩; have hv2 := (hb2.block _ (heap_lt hv1)).trans hv1; obtain ⟨y0, y1, y2, y3, y4, fz⟩ := varG hv2)
    have hk := set5_at w2 w.heap.size _ _ _ _ _ _ (.int .i64 (c : Int)) (.int .i64 (a : Int)) (.int .i64 (lineN s.data.toList a : Int)) (.int .i64 (colN s.data.toList a : Int)) (.string ⟨#[]⟩) hv2
    have hg := set5_grown w2 w.heap.size (.int .i64 (c : Int)) (.int .i64 (a : Int)) (.int .i64 (lineN s.data.toList a : Int)) (.int .i64 (colN s.data.toList a : Int)) (.string ⟨#[]⟩)
    refine bodyPost_ret (res_scan Tryz.results4 _ w.heap.size _ _ _ _ _ _ _ rfl rfl hk) rfl ⟨rfl, ?_⟩
    exact (hbw.trans (hb2.mono hbw.size)).trans (below_of_grown hg (Nat.le_refl _) (Nat.le_trans hbw.size hb2.size))
end Go.Proofs.YtnmknnkpkkefoaaGreatDoor
