import Derived.Test.YtlbgppijeoonjaaGreatDoorPkX
import Derived.Laws.EntriesVeiled
namespace Go.Proofs.YtlbgppijeoonjaaGreatDoor
open Go.RowKit Go.Shelf
set_option linter.unusedVariables false
set_option linter.unusedSimpArgs false
attribute [local go_sem] Oper.semAt_some

/-! ### tree.Paths -/
theorem paths_any (tv tc : List UInt8) (oa : Option Addr) (N ocap : Nat) (tnd : Bool) (tnt : List UInt8) (w : World) : Calls Tryz.prog 16 #[.agg #[.string ⟨tv.toArray⟩, .string ⟨tc.toArray⟩, .slice oa N ocap, .bool tnd, .string ⟨tnt.toArray⟩]] w fun e w' =>
    e = .returned (.func (.func 33) #[] #[.pointer (some ⟨w.heap.size, 0, none⟩)]) ∧ w' = w.alloc (.cells #[.string ⟨tv.toArray⟩, .string ⟨tc.toArray⟩, .slice oa N ocap, .bool tnd, .string ⟨tnt.toArray⟩] 24) := by
  go_enter Tryz.func16, Tryz.ntmps16
  go_wp2
  go_ret
  exact ⟨rfl, rfl⟩
set_option maxHeartbeats 8000000 in
set_option maxRecDepth 100000 in
theorem paths1_in (n : Nat) (W1 : World) (Bt : Nat) (Mp : Nat → Prop) (hMp : ∀ b, Mp b → b < W1.heap.size) (tv tc : List UInt8) (tnd : Bool) (tnt : List UInt8) (oa : Option Addr) (ocap N : Nat) (qs : List (Ob × Value)) (hl : qs.length = N)
    (hT : W1.heap[Bt]? = some (.cells #[.string ⟨tv.toArray⟩, .string ⟨tc.toArray⟩, .slice oa N ocap, .bool tnd, .string ⟨tnt.toArray⟩] 24 (0, 0))) (hMt : Mp Bt)
    (hrow : ∀ j q, qs[j]? = some q → ∃ g off, oa = some ⟨g, off, none⟩ ∧ Mp g ∧ ∀ i u, i < 8 → (obC q.1 q.2)[i]? = some u → W1.cell? ⟨g, off + j * 8 + i, none⟩ = some u)
    (hA : ∀ q, q ∈ qs → AttrsAt W1 Mp q.2 q.1.attrs) (hN : N ≤ 1099511627776) (hb : (pathsO 0 (qs.map Prod.fst)).length + 20 ≤ 1099511627776) :
    SeqG Fence.wide n Tryz.prog 33 #[.pointer (some ⟨Bt, 0, none⟩)] yE (Hd W1.heap.size (pathsO 0 (qs.map Prod.fst))) (fun y => Kz (fun b => (Mp b ∨ W1.heap.size ≤ b) ∧ ¬ y.1 = b)) (fun xs => xs = pathsO 0 (qs.map Prod.fst)) (fun p => p <+: pathsO 0 (qs.map Prod.fst)) W1 := by
  intro l J Jx hJ hJx hY h0
  have hYY : HYield W1.heap.size l Mp (pathsO 0 (qs.map Prod.fst)) J Jx := fun m pre x y A hj hh => yield_any m (hY pre x y A hj hh)
  have hwk := fun (ahead : List Int) (l' : List At) h => walk_c W1.heap.size l W1.heap.size (W1.heap.size + 1) (W1.heap.size + 1 + 1) Mp hMp (pathsO 0 (qs.map Prod.fst)) J Jx hJ hYY ahead l' h
  have HX : Hid (qs.length = N) := hl
  have hN2 : (N : Int) ≤ 9223372036854775807 := by omega
  have hb1 := (Below.refl W1.heap.size W1).alloc (Nat.le_refl _) (.cells #[.func (.yield l) #[] #[]] 79)
  have z2 : (((W1.alloc (.cells #[.func (.yield l) #[] #[]] 79)).alloc (.cells #[.slice none 0 0] 25)).alloc (.cells #[Value.nilFunc] 80)).heap[W1.heap.size + 1 + 1]? = some (.cells #[Value.nilFunc] 80 (0, 0)) := by
    have := World.alloc_heap_new ((W1.alloc (.cells #[.func (.yield l) #[] #[]] 79)).alloc (.cells #[.slice none 0 0] 25)) (.cells #[Value.nilFunc] 80)
    simpa using this
  have hS : Pq W1.heap.size l W1.heap.size (W1.heap.size + 1) (W1.heap.size + 1 + 1) ((((W1.alloc (.cells #[.func (.yield l) #[] #[]] 79)).alloc (.cells #[.slice none 0 0] 25)).alloc (.cells #[Value.nilFunc] 80)).setCell ⟨W1.heap.size + 1 + 1, 0, none⟩ (.func (.func 34) #[] #[.pointer (some ⟨W1.heap.size + 1, 0, none⟩), .pointer (some ⟨W1.heap.size, 0, none⟩), .pointer (some ⟨W1.heap.size + 1 + 1, 0, none⟩)])) (.slice none 0 0) [] := by
    have e0 : (W1.alloc (.cells #[.func (.yield l) #[] #[]] 79)).heap[W1.heap.size]? = some (.cells #[.func (.yield l) #[] #[]] 79 (0, 0)) := World.alloc_heap_new W1 _
    have e1 : ((W1.alloc (.cells #[.func (.yield l) #[] #[]] 79)).alloc (.cells #[.slice none 0 0] 25)).heap[W1.heap.size + 1]? = some (.cells #[.slice none 0 0] 25 (0, 0)) := by
      have := World.alloc_heap_new (W1.alloc (.cells #[.func (.yield l) #[] #[]] 79)) (.cells #[.slice none 0 0] 25)
      simpa using this
    refine ⟨(Below.heap_setCell _ ⟨W1.heap.size + 1 + 1, 0, none⟩ _ _ (by simp)).trans ((Below.heap_alloc _ _ _ (by simp)).trans e1), (Below.heap_setCell _ ⟨W1.heap.size + 1 + 1, 0, none⟩ _ _ (by simp; omega)).trans ((Below.heap_alloc _ _ _ (by simp; omega)).trans ((Below.heap_alloc _ _ _ (by simp)).trans e0)), Boxed.set _ z2, ⟨rfl, .inl ⟨rfl, rfl⟩⟩, by omega, Nat.le_refl _, by omega⟩
  have hbS : Below W1.heap.size W1 ((((W1.alloc (.cells #[.func (.yield l) #[] #[]] 79)).alloc (.cells #[.slice none 0 0] 25)).alloc (.cells #[Value.nilFunc] 80)).setCell ⟨W1.heap.size + 1 + 1, 0, none⟩ (.func (.func 34) #[] #[.pointer (some ⟨W1.heap.size + 1, 0, none⟩), .pointer (some ⟨W1.heap.size, 0, none⟩), .pointer (some ⟨W1.heap.size + 1 + 1, 0, none⟩)])) := (((hb1.alloc (by simp) _).alloc (by simp; omega) _)).setCell (p := ⟨W1.heap.size + 1 + 1, 0, none⟩) (by simp; omega) _
  have cN := Boxed.cell z2
  have fN := Boxed.frozen z2
  clear hl hY hYY z2 hb1
  have hdd : ∀ k : Nat, (Fence.wide.depth.isSome = true → 1 ≤ k) := fun k h => by cases h
  refine callsIn_of_wp Tryz.func33 rfl trivial ?_ rfl
  simp only [Tryz.ntmps33, List.size_toArray, List.length_cons, List.length_nil, Nat.reduceAdd, Nat.reduceSub, Array.replicate_succ, Array.replicate_zero, List.push_toArray, List.append_toArray, List.nil_append, List.cons_append]
  gi_upto_region 3 with (fail)
  obtain ⟨Bw, hBw⟩ : ∃ Bw, Bw = W1.heap.size + 1 + 1 := ⟨_, rfl⟩
  obtain ⟨Bp, hBp⟩ : ∃ Bp, Bp = W1.heap.size + 1 := ⟨_, rfl⟩
  rw [← hBw, ← hBp] at hS hbS hwk ⊢
  rw [← hBw] at cN fN
  have HBp : Hid (W1.heap.size ≤ Bp) := by show _ ≤ _; omega
  clear hBw hBp
  have HS0 : Hid (Pq W1.heap.size l W1.heap.size Bp Bw ((((W1.alloc (.cells #[.func (.yield l) #[] #[]] 79)).alloc (.cells #[.slice none 0 0] 25)).alloc (.cells #[Value.nilFunc] 80)).setCell ⟨Bw, 0, none⟩ (.func (.func 34) #[] #[.pointer (some ⟨Bp, 0, none⟩), .pointer (some ⟨W1.heap.size, 0, none⟩), .pointer (some ⟨Bw, 0, none⟩)])) (.slice none 0 0) [] ∧ Below W1.heap.size W1 ((((W1.alloc (.cells #[.func (.yield l) #[] #[]] 79)).alloc (.cells #[.slice none 0 0] 25)).alloc (.cells #[Value.nilFunc] 80)).setCell ⟨Bw, 0, none⟩ (.func (.func 34) #[] #[.pointer (some ⟨Bp, 0, none⟩), .pointer (some ⟨W1.heap.size, 0, none⟩), .pointer (some ⟨Bw, 0, none⟩)]))) := ⟨hS, hbS⟩
  clear hS hbS
  generalize ((W1.alloc (.cells #[.func (.yield l) #[] #[]] 79)).alloc (.cells #[.slice none 0 0] 25)).alloc (.cells #[Value.nilFunc] 80) = WC at *
  gi_upto_region 4 with (fail)
  have HS := HS0
  clear HS0 cN fN
  generalize WC.setCell ⟨Bw, 0, none⟩ (.func (.func 34) #[] #[.pointer (some ⟨Bp, 0, none⟩), .pointer (some ⟨W1.heap.size, 0, none⟩), .pointer (some ⟨Bw, 0, none⟩)]) = WS at *
  obtain ⟨hS, hbS⟩ := HS.out
  clear HS
  obtain ⟨⟨k0, k1, k2, k3, k4⟩, fk⟩ := var5 ((hbS.block Bt (hMp Bt hMt)).trans hT)
  have HJ0 : Hid (Pq W1.heap.size l W1.heap.size Bp Bw WS (.slice none 0 0) [] ∧ J [] WS ∧ Kz Mp W1 WS) := ⟨hS, hJ _ _ _ h0 hbS, Kz.of_below hMp hbS⟩
  clear hS hbS h0
  gi_wp2
  clear k0 k1 k2 k3 k4 fk
  gi_loopw [11] (fun i wr => ∃ (j : Nat) (v : Value) (ah : List Int), j ≤ N ∧ i = .int .i64 j ∧ Hid (Pq W1.heap.size l W1.heap.size Bp Bw wr v ah ∧ J (pathsO 0 ((qs.map Prod.fst).take j)) wr ∧ Kz Mp W1 wr)) (fun i _ => N - (intOf i).toNat)
  case atStart => exact ⟨0, _, _, by omega, rfl, by simpa [pathsO] using HJ0⟩
  case round =>
    clear HJ0
    obtain ⟨j, v, ah, hj, rfl, HS⟩ := hrel
    by_cases hlt : j < N
    · have hlt' : (j : Int) < N := by omega
      have hj0 : ¬ (j : Int) < 0 := by omega
      obtain ⟨hP, hJs, hK⟩ := HS.out
      obtain ⟨q, hq⟩ : ∃ x, qs[j]? = some x := ⟨qs[j]'(by rw [HX.out]; exact hlt), List.getElem?_eq_getElem _⟩
      have hAq := hA q (List.mem_of_getElem? hq)
      obtain ⟨g, off, rfl, hMg, hc⟩ := hrow j q hq
      have hcp : ∀ (i : Nat) (u : Value), i < 8 → (obC q.1 q.2)[i]? = some u → wr.cell? ⟨g, off + j * 8 + i, none⟩ = some u := fun i u hi hu => by
        rw [World.cell?_of_block (hK.same g hMg (hMp g hMg))]
        exact hc i u hi hu
      have hnext := pathsO_take (qs.map Prod.fst) j q.1 (by rw [List.getElem?_map, hq]; rfl)
      have hpre := pathsO_pre (qs.map Prod.fst) (j + 1)
      have hle := pathsO_le (qs.map Prod.fst) (j + 1)
      rw [hnext] at hpre hle
      rw [List.length_append] at hle
      have HAL : Hid (pathsO 0 ((qs.map Prod.fst).take j) ++ pathsL [(j : Int)] 0 q.1.attrs <+: pathsO 0 (qs.map Prod.fst)) := hpre
      have HNX : Hid (pathsO 0 ((qs.map Prod.fst).take (j + 1)) = pathsO 0 ((qs.map Prod.fst).take j) ++ pathsL [(j : Int)] 0 q.1.attrs) := hnext
      have hW2 := hwk [(j : Int)] q.1.attrs (by simp; omega)
      clear hnext hpre HS hq hc hle
      generalize pathsO 0 ((qs.map Prod.fst).take j) = xs at *
      obtain ⟨⟨ok, onm, oo, ol, ocl, oat, ond, ont⟩, pv⟩ := q
      obtain ⟨pa, pn, pc, rfl⟩ := attrsAt_shape hAq
      dsimp only at hAq HAL HNX hW2
      simp only [obC] at hcp
      have x0 := hcp 0 _ (by omega) rfl
      have x1 := hcp 1 _ (by omega) rfl
      have x2 := hcp 2 _ (by omega) rfl
      have x3 := hcp 3 _ (by omega) rfl
      have x4 := hcp 4 _ (by omega) rfl
      have x5 := hcp 5 _ (by omega) rfl
      have x6 := hcp 6 _ (by omega) rfl
      have x7 := hcp 7 _ (by omega) rfl
      rw [Nat.add_zero] at x0
      have hst := run_storeCells_new (P := Tryz.prog) wr 71 zero8 #[.string ⟨ok.toArray⟩, .string ⟨onm.toArray⟩, .int .i64 oo, .int .i64 ol, .int .i64 ocl, .slice pa pn pc, .bool ond, .string ⟨ont.toArray⟩] (by kernel_rfl) rfl (by simp [Value.oneCell'])
      unfold zero8 at hst
      have hbO := (Below.refl wr.heap.size wr).alloc (Nat.le_refl _) (.cells #[.string ⟨ok.toArray⟩, .string ⟨onm.toArray⟩, .int .i64 oo, .int .i64 ol, .int .i64 ocl, .slice pa pn pc, .bool ond, .string ⟨ont.toArray⟩] 71)
      have hnO := heap_alloc_new wr (.cells #[.string ⟨ok.toArray⟩, .string ⟨onm.toArray⟩, .int .i64 oo, .int .i64 ol, .int .i64 ocl, .slice pa pn pc, .bool ond, .string ⟨ont.toArray⟩] 71)
      have hPO := hP.below hbO
      have hn0 : W1.heap.size ≤ wr.heap.size := hP.n
      clear hcp
      gi_upto_region 7 with (fail)
      have HO : Hid (Pq W1.heap.size l W1.heap.size Bp Bw (wr.alloc (.cells #[.string ⟨ok.toArray⟩, .string ⟨onm.toArray⟩, .int .i64 oo, .int .i64 ol, .int .i64 ocl, .slice pa pn pc, .bool ond, .string ⟨ont.toArray⟩] 71)) v ah ∧ Below W1.heap.size wr (wr.alloc (.cells #[.string ⟨ok.toArray⟩, .string ⟨onm.toArray⟩, .int .i64 oo, .int .i64 ol, .int .i64 ocl, .slice pa pn pc, .bool ond, .string ⟨ont.toArray⟩] 71))) := ⟨hPO, hbO.mono hn0⟩
      obtain ⟨BO, hBO⟩ : ∃ BO, BO = wr.heap.size := ⟨_, rfl⟩
      clear hst x0 x1 x2 x3 x4 x5 x6 x7 hPO hbO hP
      rw [← hBO] at hnO ⊢
      clear hBO
      generalize wr.alloc (.cells #[.string ⟨ok.toArray⟩, .string ⟨onm.toArray⟩, .int .i64 oo, .int .i64 ol, .int .i64 ocl, .slice pa pn pc, .bool ond, .string ⟨ont.toArray⟩] 71) = WO at *
      obtain ⟨hPO, hbO⟩ := HO.out
      clear HO
      have hl1 : Below WO.heap.size WO (WO.alloc (.cells #[.int .i64 (j : Int)] 3)) := (Below.refl WO.heap.size WO).alloc (Nat.le_refl _) _
      have hPl := hPO.below hl1
      have cPl := Boxed.cell hPl.pth
      have fPl := Boxed.frozen hPl.pth
      have hn1 : W1.heap.size ≤ WO.heap.size := hPO.n
      have hP8 := hPl.store (v' := .slice (some ⟨WO.heap.size, 0, none⟩) 1 1) (a' := [(j : Int)]) (World.ownsRow_lit WO #[.int .i64 (j : Int)] 1 hn1 (by unfold maxLen; omega) rfl)
      have hb8 : Below W1.heap.size wr ((WO.alloc (.cells #[.int .i64 (j : Int)] 3)).setCell ⟨Bp, 0, none⟩ (.slice (some ⟨WO.heap.size, 0, none⟩) 1 1)) := (hbO.trans (hl1.mono hn1)).trans (below_setR _ _ HBp.out)
      have hO8 : ((WO.alloc (.cells #[.int .i64 (j : Int)] 3)).setCell ⟨Bp, 0, none⟩ (.slice (some ⟨WO.heap.size, 0, none⟩) 1 1)).heap[BO]? = some (.cells #[.string ⟨ok.toArray⟩, .string ⟨onm.toArray⟩, .int .i64 oo, .int .i64 ol, .int .i64 ocl, .slice pa pn pc, .bool ond, .string ⟨ont.toArray⟩] 71 (0, 0)) := by
        refine (Below.heap_setCell _ ⟨Bp, 0, none⟩ _ BO (fun e => ?_)).trans ((hl1.block BO (heap_lt hnO)).trans hnO)
        have e' : BO = Bp := e
        rw [e'] at hnO
        have := hPO.pth.symm.trans hnO
        cases this
      gi_upto_region 8 with (fail)
      have H8 : Hid (Pq W1.heap.size l W1.heap.size Bp Bw ((WO.alloc (.cells #[.int .i64 (j : Int)] 3)).setCell ⟨Bp, 0, none⟩ (.slice (some ⟨WO.heap.size, 0, none⟩) 1 1)) (.slice (some ⟨WO.heap.size, 0, none⟩) 1 1) [(j : Int)] ∧ Below W1.heap.size wr ((WO.alloc (.cells #[.int .i64 (j : Int)] 3)).setCell ⟨Bp, 0, none⟩ (.slice (some ⟨WO.heap.size, 0, none⟩) 1 1)) ∧ ((WO.alloc (.cells #[.int .i64 (j : Int)] 3)).setCell ⟨Bp, 0, none⟩ (.slice (some ⟨WO.heap.size, 0, none⟩) 1 1)).heap[BO]? = some (.cells #[.string ⟨ok.toArray⟩, .string ⟨onm.toArray⟩, .int .i64 oo, .int .i64 ol, .int .i64 ocl, .slice pa pn pc, .bool ond, .string ⟨ont.toArray⟩] 71 (0, 0))) := ⟨hP8, hb8, hO8⟩
      clear hP8 hb8 hO8 cPl fPl hPl hl1 hPO hbO hnO
      generalize (WO.alloc (.cells #[.int .i64 (j : Int)] 3)).setCell ⟨Bp, 0, none⟩ (.slice (some ⟨WO.heap.size, 0, none⟩) 1 1) = W8 at *
      obtain ⟨hP8, hb8, hO8⟩ := H8.out
      clear H8
      have hJ8 := hJ _ _ _ hJs hb8
      have hK8 := hK.trans (Kz.of_below hMp hb8)
      have hC := fun m => hW2 m W8 _ (.slice pa pn pc) xs hP8 (attrsAt_keep hK8.size (fun g hF hl => hK8.same g hF hl) hAq) hJ8 HAL.out
      have cW8 := Boxed.cell hP8.wlk
      have c58 : W8.cell? ⟨BO, 5, none⟩ = some (.slice pa pn pc) := by simp [World.cell?, hO8]
      clear hP8 hb8 hO8 hJ8 hAq hW2 hJs hK hwk
      gi_wp2
      refine ⟨trivial, hdd _, ?_⟩
      refine (hC _).mono ?_
      rintro e W9 (⟨rfl, ⟨v9, hP9⟩, hJ9, hK9⟩ | ⟨rfl, q9, hq9, hx9⟩)
      · gi_wp2
        go_roundw
        case rel => exact ⟨j + 1, v9, [(j : Int)], by omega, by go_num, hP9, by rw [HNX.out]; exact hJ9, hK8.trans hK9⟩
        case measure => simp [intOf]; omega
      · gi_wp2
        refine bodyPost_ret (results_none rfl _ _ _) rfl ?_
        exact ⟨⟨_, rfl⟩, .inr ⟨q9, hq9, hx9⟩⟩
    · have hlt' : ¬ (j : Int) < N := by omega
      obtain rfl : j = N := by omega
      obtain ⟨hP, hJs, hK⟩ := HS.out
      rw [List.take_of_length_le (by rw [List.length_map, HX.out]; exact Nat.le_refl _)] at hJs
      gi_wp2
      go_end0
      exact ⟨⟨_, rfl⟩, .inl (by simpa using hJs)⟩
end Go.Proofs.YtlbgppijeoonjaaGreatDoor
