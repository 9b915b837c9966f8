import Derived.Test.YtmidaeljeoifdaaGreatDoorTcs
import Derived.Test.YtmidaeljeoifdaaGreatDoorTct
import Derived.Test.YtmidaeljeoifdaaGreatDoorTcu
import Derived.Deep.RegionHeldLaw
namespace Go.Proofs.YtmidaeljeoifdaaGreatDoor
set_option maxRecDepth 100000
set_option maxHeartbeats 16000000
open Go.RowKit Go.Shelf Go.Sort
set_option linter.unusedVariables false
set_option linter.unusedSimpArgs false
theorem sumZ_filter {α : Type} (p : α → Bool) (h : α → Int) (hh : ∀ x, h x = if p x then 1 else 0) : ∀ l : List α, sumZ h l = ((l.filter p).length : Int)
 | [] => rfl
 | x :: l => by
  rw [sumZ, sumZ_filter p h hh l, hh, List.filter_cons]
  cases p x <;> simp
  omega
structure RoomOK (tb : Tb) : Prop where
 a : ∀ x ∈ tb.als, 0 ≤ x.ctr ∧ x.ctr < (tb.ctrs.length : Int)
 s : ∀ x ∈ tb.msgs, x.kind ≠ 1 → 0 ≤ x.frm ∧ x.frm < (tb.msgs.length : Int)
 l : tb.ctrs.length ≤ 16 ∧ tb.als.length ≤ 64 ∧ tb.msgs.length ≤ 64 ∧ tb.isrs.length ≤ 32
def rmC (tb : Tb) : Array Value := #[I tb.rings.length, I ((tb.isrs.length : Int) + 4), I ((max 2 (max (crowdL (tb.als.map fun x => x.ctr)) (crowdL (rcvL tb))) : Nat) : Int), I (callsN tb)]
def mx3 (a b c : Int) : Int := max a (max b c)
theorem max_three9 (ats : Array TypeId) (ty : TypeId) (a b c : Int) : Builtin.max_ ats ty #[.int .i64 a, .int .i64 b, .int .i64 c] = pure (.int .i64 (mx3 a b c)) := by
 show (do let s ← Builtin.max2 (.int .i64 a) (.int .i64 b); let s ← Builtin.max2 s (.int .i64 c); pure s : Sem Value) = _
 simp only [Builtin.max2]
 show (pure _ : Sem Value) = _
 congr 2
 unfold mx3
 split <;> split <;> omega
attribute [local go_sem 5000] max_three9
theorem room_facts9 {w : World} {g : Nat} {t : TypeId} {o0 o1 o2 o3 : Value} (h : w.heap[g]? = some (.cells #[o0, o1, o2, o3] t)) : w.cell? ⟨g, 0, none⟩ = some o0 ∧ w.cell? ⟨g, 1, none⟩ = some o1 ∧ w.cell? ⟨g, 2, none⟩ = some o2 ∧ w.cell? ⟨g, 3, none⟩ = some o3 ∧ w.frozen? ⟨g, 0, none⟩ = false ∧ w.frozen? ⟨g, 1, none⟩ = false ∧ w.frozen? ⟨g, 2, none⟩ = false ∧ w.frozen? ⟨g, 3, none⟩ = false :=
 ⟨by rw [cell_of_row w g 0 _ _ (0, 0) h]; rfl, by rw [cell_of_row w g 1 _ _ (0, 0) h]; rfl, by rw [cell_of_row w g 2 _ _ (0, 0) h]; rfl, by rw [cell_of_row w g 3 _ _ (0, 0) h]; rfl, frozen_of_row w g 0 _ _ h, frozen_of_row w g 1 _ _ h, frozen_of_row w g 2 _ _ h, frozen_of_row w g 3 _ _ h⟩
theorem set4_at9 (w : World) (b : Nat) (t : TypeId) (o0 o1 o2 o3 v0 v1 v2 v3 : Value) (k : w.heap[b]? = some (.cells #[o0, o1, o2, o3] t (0, 0))) :
  ((((w.setCell ⟨b, 0, none⟩ v0).setCell ⟨b, 1, none⟩ v1).setCell ⟨b, 2, none⟩ v2).setCell ⟨b, 3, none⟩ v3).heap[b]? = some (.cells #[v0, v1, v2, v3] t (0, 0)) := by
 have h0 : (w.setCell ⟨b, 0, none⟩ v0).heap[b]? = some (.cells #[v0, o1, o2, o3] t (0, 0)) := heap_setCell_same _ b 0 _ t _ k
 generalize w.setCell ⟨b, 0, none⟩ v0 = w0 at *
 have h1 : (w0.setCell ⟨b, 1, none⟩ v1).heap[b]? = some (.cells #[v0, v1, o2, o3] t (0, 0)) := heap_setCell_same _ b 1 _ t _ h0
 generalize w0.setCell ⟨b, 1, none⟩ v1 = w1 at *
 have h2 : (w1.setCell ⟨b, 2, none⟩ v2).heap[b]? = some (.cells #[v0, v1, v2, o3] t (0, 0)) := heap_setCell_same _ b 2 _ t _ h1
 generalize w1.setCell ⟨b, 2, none⟩ v2 = w2 at *
 exact heap_setCell_same _ b 3 _ t _ h2
theorem res_room9 {fn : Func} {n : Nat} (hf : fn.results = #[.cell n 144]) (tmps : Array Value) (b : Nat) (w : World) (v0 v1 v2 v3 : Value)
  (h2 : tmps[n]? = some (.pointer (some ⟨b, 0, none⟩))) (hk : w.heap[b]? = some (.cells #[v0, v1, v2, v3] 144 (0, 0))) :
  (results fn tmps).run Tryz.prog w = .ok (.agg #[v0, v1, v2, v3]) w := by
 have a1 := fun i => cell_of_row w b i _ _ (0, 0) hk
 have z0 := a1 0; have z1 := a1 1; have z2 := a1 2; have z3 := a1 3
 simp at z0 z1 z2 z3
 simp [results, hf, go_sem, h2, z0, z1, z2, z3]
theorem cell_ne9 {w : World} {b g i k : Nat} {v : Value} (h : b ≠ g) : (w.setCell ⟨g, k, none⟩ v).cell? ⟨b, i, none⟩ = w.cell? ⟨b, i, none⟩ := World.cell?_of_block (heap_setCell_other w ⟨g, k, none⟩ b v h)
theorem reckon_any9 (tb : Tb) (v : Ts) (w : World) (h : TbAt w tb v) (hr : RoomOK tb) : Calls Tryz.prog 73 #[.agg (tbC tb v)] w fun e w' => e = .returned (.agg (rmC tb)) ∧ Below w.heap.size w w' := by
 have hb : Below w.heap.size w ((w.alloc (.cells (tbC tb v) 30)).alloc (.cells #[I 0, I 0, I 0, I 0] 144)) := (below_alloc w _).trans ((below_alloc _ _).mono (by simp))
 have hV0 : ((w.alloc (.cells (tbC tb v) 30)).alloc (.cells #[I 0, I 0, I 0, I 0] 144)).heap[w.heap.size]? = some (.cells (tbC tb v) 30) := by
  rw [heap_alloc_old _ _ (by simp)]; exact heap_alloc_new w _
 have hR0 : ((w.alloc (.cells (tbC tb v) 30)).alloc (.cells #[I 0, I 0, I 0, I 0] 144)).heap[w.heap.size + 1]? = some (.cells #[I 0, I 0, I 0, I 0] 144) := by
  have := heap_alloc_new (w.alloc (.cells (tbC tb v) 30)) (.cells #[I 0, I 0, I 0, I 0] 144)
  rw [World.size_alloc] at this
  exact this
 have hT0 := h.below hb
 have HB0 : Hid (Below w.heap.size w ((w.alloc (.cells (tbC tb v) 30)).alloc (.cells #[I 0, I 0, I 0, I 0] 144))) := hb
 have hgn : v.g.n = tb.rings.length := h.g.n
 have hin : v.i.n = tb.isrs.length := h.i.n
 have hgm : v.g.n ≤ 9223372036854775807 := by have := h.g.c; have h2 := h.g.m; unfold maxLen at h2; omega
 have him : v.i.n ≤ 32 := by have := hr.l; omega
 have HF : Hid (rmC tb = #[I (v.g.n : Int), I ((v.i.n : Int) + 4), I ((max 2 (max (crowdL (tb.als.map fun x => x.ctr)) (crowdL (rcvL tb))) : Nat) : Int), I (((tb.als.filter fun x => x.ac.kind == 3).length : Int) + ((tb.msgs.filter fun x => x.ac.kind == 3).length : Int))]) := by
  show _ = _
  rw [hgn, hin]
  unfold rmC callsN
  simp
 have HL : Hid (tb.ctrs.length ≤ 16 ∧ tb.als.length ≤ 64 ∧ tb.msgs.length ≤ 64 ∧ tb.isrs.length ≤ 32) := hr.l
 clear hgn hin
 have hA1 : crowdL (tb.als.map fun x => x.ctr) ≤ 64 := by have := crowd_le (tb.als.map fun x => x.ctr); rw [List.length_map] at this; have := hr.l; omega
 have hA2 : crowdL (rcvL tb) ≤ 64 := by
  have h1 := crowd_le (rcvL tb)
  have h2 := List.length_filter_le (fun x : MsR => x.kind != 1) tb.msgs
  have h3 : (rcvL tb).length = (tb.msgs.filter fun x => x.kind != 1).length := by unfold rcvL; rw [List.length_map]
  have := hr.l
  omega
 have hS1 : (tb.als.filter fun x => x.ac.kind == 3).length ≤ 64 := by have := List.length_filter_le (fun x : AlR => x.ac.kind == 3) tb.als; have := hr.l; omega
 have hS2 : (tb.msgs.filter fun x => x.ac.kind == 3).length ≤ 64 := by have := List.length_filter_le (fun x : MsR => x.ac.kind == 3) tb.msgs; have := hr.l; omega
 obtain ⟨Z, hZ⟩ : ∃ Z, Z = rmC tb := ⟨_, rfl⟩
 rw [← hZ] at HF ⊢
 clear hZ h hb
 have HRk : Hid (RoomOK tb) := hr
 have HA12 : Hid (crowdL (tb.als.map fun x => x.ctr) ≤ 64 ∧ crowdL (rcvL tb) ≤ 64 ∧ (tb.als.filter fun x => x.ac.kind == 3).length ≤ 64 ∧ (tb.msgs.filter fun x => x.ac.kind == 3).length ≤ 64) := ⟨hA1, hA2, hS1, hS2⟩
 clear hr hA1 hA2 hS1 hS2
 unfold tbC at *
 go_enter Tryz.func73, Tryz.ntmps73
 go_upto_region 1 with fail
 generalize ((w.alloc (.cells #[I tb.uses, I tb.modes, .slice v.t.a v.t.n v.t.c, .slice v.g.a v.g.n v.g.c, .slice v.r.a v.r.n v.r.c, .slice v.k.a v.k.n v.k.c, .slice v.a.a v.a.n v.a.c, .slice v.i.a v.i.n v.i.c, .slice v.s.a v.s.n v.s.c, I tb.depth, I tb.frames, I tb.errors, I tb.calls] 30)).alloc (.cells #[I 0, I 0, I 0, I 0] 144)) = W0 at *
 have hr := HRk.out
 obtain ⟨hA1, hA2, hS1, hS2⟩ := HA12.out
 clear HA12
 have kA : ∀ W, Below W0.heap.size W0 W → Calls Tryz.prog 112 #[.slice v.a.a v.a.n v.a.c, .func (.func 113) #[] #[]] W fun e w' => e = .returned (I (crowdL (tb.als.map fun x => x.ctr))) ∧ Below W.heap.size W w' := fun W hW =>
  crowd_alr W v.a tb.als (fun W2 hW2 => ((hT0.below hW).below hW2).a) 113 #[] (enters_of Tryz.func113 (by kernel_rfl) rfl) (fun x => x.ctr) tb.ctrs.length hr.a (by have := hr.l; omega) (by have := hr.l; omega) (fun W2 hW2 x hx => counterOf_any x W2)
 have kT : ∀ W, Below W0.heap.size W0 W → Calls Tryz.prog 115 #[.slice v.s.a v.s.n v.s.c, .func (.func 116) #[] #[]] W fun e w' => (∃ a c, e = .returned (.slice a (tb.msgs.filter fun x => x.kind != 1).length c) ∧ RowsAt w' 8 msrP ⟨a, (tb.msgs.filter fun x => x.kind != 1).length, c⟩ (tb.msgs.filter fun x => x.kind != 1)) ∧ Below W.heap.size W w' := fun W hW =>
  those_msr W v.s tb.msgs (fun W2 hW2 => ((hT0.below hW).below hW2).s) (by have := hr.l; omega) 116 #[] (enters_of Tryz.func116 (by kernel_rfl) rfl) (fun x => x.kind != 1) (fun W2 hW2 x hx => isReceived_any x W2)
 have hfl : (tb.msgs.filter fun x => x.kind != 1).length ≤ 1048576 := by
  have h1 := List.length_filter_le (fun x : MsR => x.kind != 1) tb.msgs
  have h2 := hr.l.2.2.1
  exact Nat.le_trans h1 (Nat.le_trans h2 (by decide))
 have hfp : ∀ x ∈ (tb.msgs.filter fun x => x.kind != 1), 0 ≤ x.frm ∧ x.frm < (tb.msgs.length : Int) := fun x hx => hr.s x (List.mem_filter.1 hx).1 (by have := (List.mem_filter.1 hx).2; simpa using this)
 have hfn : tb.msgs.length ≤ 1048576 := Nat.le_trans hr.l.2.2.1 (by decide)
 have kM : ∀ W a c, RowsAt W 8 msrP ⟨a, (tb.msgs.filter fun x => x.kind != 1).length, c⟩ (tb.msgs.filter fun x => x.kind != 1) → Calls Tryz.prog 114 #[.slice a (tb.msgs.filter fun x => x.kind != 1).length c, .func (.func 117) #[] #[]] W fun e w' => e = .returned (I (crowdL (rcvL tb))) ∧ Below W.heap.size W w' := by
  unfold rcvL
  generalize (tb.msgs.filter fun x => x.kind != 1) = fl at *
  intro W a c hrow
  exact crowd_msr W ⟨a, fl.length, c⟩ fl (fun W2 hW2 => hrow.below hW2 (fun _ _ _ _ h => h)) 117 #[] (enters_of Tryz.func117 (by kernel_rfl) rfl) (fun x => x.frm) tb.msgs.length hfp hfn hfl (fun W2 hW2 x hx => senderOf_any x W2)
 clear hfl hfp hfn
 have kS1 : ∀ W, Below W0.heap.size W0 W → Calls Tryz.prog 118 #[.slice v.a.a v.a.n v.a.c, .func (.func 119) #[] #[]] W fun e w' => e = .returned (I ((tb.als.filter fun x => x.ac.kind == 3).length : Int)) ∧ Below W.heap.size W w' := fun W hW => by
  have := sum_alr W v.a tb.als (fun W2 hW2 => ((hT0.below hW).below hW2).a) 119 #[] (enters_of Tryz.func119 (by kernel_rfl) rfl) (fun x => if x.ac.kind = 3 then 1 else 0) (fun W2 hW2 x hx => callsAl_any x W2)
  rw [sumZ_filter (fun x : AlR => x.ac.kind == 3) _ (fun x => by simp), wrap_id (by omega) (by omega)] at this
  exact this
 have kS2 : ∀ W, Below W0.heap.size W0 W → Calls Tryz.prog 120 #[.slice v.s.a v.s.n v.s.c, .func (.func 121) #[] #[]] W fun e w' => e = .returned (I ((tb.msgs.filter fun x => x.ac.kind == 3).length : Int)) ∧ Below W.heap.size W w' := fun W hW => by
  have := sum_msr W v.s tb.msgs (fun W2 hW2 => ((hT0.below hW).below hW2).s) 121 #[] (enters_of Tryz.func121 (by kernel_rfl) rfl) (fun x => if x.ac.kind = 3 then 1 else 0) (fun W2 hW2 x hx => callsMs_any x W2)
  rw [sumZ_filter (fun x : MsR => x.ac.kind == 3) _ (fun x => by simp), wrap_id (by omega) (by omega)] at this
  exact this
 generalize crowdL (tb.als.map fun x => x.ctr) = A1 at *
 generalize crowdL (rcvL tb) = A2 at *
 generalize (tb.als.filter fun x => x.ac.kind == 3).length = S1 at *
 generalize (tb.msgs.filter fun x => x.ac.kind == 3).length = S2 at *
 have HS : Hid (∀ W, Below W0.heap.size W0 W → W.cell? ⟨w.heap.size, 3, none⟩ = some (.slice v.g.a v.g.n v.g.c) ∧ W.cell? ⟨w.heap.size, 6, none⟩ = some (.slice v.a.a v.a.n v.a.c) ∧ W.cell? ⟨w.heap.size, 7, none⟩ = some (.slice v.i.a v.i.n v.i.c) ∧ W.cell? ⟨w.heap.size, 8, none⟩ = some (.slice v.s.a v.s.n v.s.c)) := fun W hW => by
  obtain ⟨d0, d1, d2, d3, d4, d5, d6, d7, d8, d9, d10, d11, d12⟩ := var13 ((hW.block w.heap.size (heap_lt hV0)).trans hV0)
  exact ⟨d3, d6, d7, d8⟩
 have HRR : Hid (∀ W, Below W0.heap.size W0 W → W.heap[w.heap.size + 1]? = some (.cells #[I 0, I 0, I 0, I 0] 144)) := fun W hW => (hW.block (w.heap.size + 1) (heap_lt hR0)).trans hR0
 have b0 : Below W0.heap.size W0 W0.drew := (Below.refl _ _).drew
 obtain ⟨s3, s6, s7, s8⟩ := HS.out W0 (Below.refl _ _)
 clear hT0 hr hV0 hR0
 have HM : Hid (((max 2 (max A1 A2) : Nat) : Int) = mx3 2 A1 A2) := by show _ = _; unfold mx3; omega
 go_wp2
 go_region_held_law (fun w' => w'.cell? ⟨w.heap.size, 3, none⟩ = some (.slice v.g.a v.g.n v.g.c) ∧ w'.cell? ⟨w.heap.size, 6, none⟩ = some (.slice v.a.a v.a.n v.a.c) ∧ w'.cell? ⟨w.heap.size, 7, none⟩ = some (.slice v.i.a v.i.n v.i.c) ∧ w'.cell? ⟨w.heap.size, 8, none⟩ = some (.slice v.s.a v.s.n v.s.c))
  (first | with_reducible exact ⟨s3, s6, s7, s8⟩ | with_reducible exact HS.out _ b0 | with_reducible exact m1 | with_reducible exact m2 | with_reducible exact m3 | with_reducible exact m4 | with_reducible exact m5 | (refine ⟨?_, ?_, ?_, ?_⟩ <;> (repeat rw [cell_ne9 (Nat.ne_of_lt (Nat.lt_succ_self w.heap.size))]) <;> first | with_reducible exact m5.1 | with_reducible exact m5.2.1 | with_reducible exact m5.2.2.1 | with_reducible exact m5.2.2.2) | (trace_state; fail "keep"))
  (first
   | (go_at_call 112; refine (kA _ b0).mono ?_; clear kA; rintro e w1 ⟨rfl, q1⟩; have b1 := b0.trans (q1.mono b0.size); have m1 := HS.out w1 b1)
   | (go_at_call 115; refine (kT _ b1).mono ?_; clear kT; rintro e w2 ⟨⟨a2, c2, rfl, r2⟩, q2⟩; have b2 := b1.trans (q2.mono b1.size); have m2 := HS.out w2 b2)
   | (go_at_call 114; refine (kM _ a2 c2 r2).mono ?_; clear kM; rintro e w3 ⟨rfl, q3⟩; have b3 := b2.trans (q3.mono b2.size); have m3 := HS.out w3 b3)
   | (go_at_call 118; refine (kS1 _ b3).mono ?_; clear kS1; rintro e w4 ⟨rfl, q4⟩; have b4 := b3.trans (q4.mono b3.size); have m4 := HS.out w4 b4)
   | (go_at_call 120; refine (kS2 _ b4).mono ?_; clear kS2; rintro e w5 ⟨rfl, q5⟩; have b5 := b4.trans (q5.mono b4.size); have m5 := HS.out w5 b5; have hR5 := HRR.out w5 b5; obtain ⟨n0, n1, n2, n3, f0, f1, f2, f3⟩ := room_facts9 hR5; clear hR5))
 all_goals
  have HR : Hid (w5.heap[w.heap.size + 1]? = some (.cells #[I 0, I 0, I 0, I 0] 144)) := HRR.out w5 b5
  have HBz : Hid (Below w.heap.size w w5) := HB0.out.trans (b5.mono HB0.out.size)
  clear m1 m2 m3 m4 m5 n0 n1 n2 n3 f0 f1 f2 f3 s3 s6 s7 s8 r2 q1 q2 q3 q4 q5 b0 b1 b2 b3 b4 b5 HRR HS
  rename_i hHeld
  clear hHeld
  go_wp2
  refine bodyPost_ret (res_room9 Tryz.results73 _ (w.heap.size + 1) _ _ _ _ _ rfl (set4_at9 _ _ _ _ _ _ _ _ _ _ _ HR.out)) rfl ⟨?_, ?_⟩
  ·rw [HF.out, HM.out, wrap_id (v := (v.i.n : Int) + 4) (by omega) (by omega), wrap_id (v := (S1 : Int) + S2) (by omega) (by omega)]
  ·exact (((HBz.out.setCell (Nat.le_succ _) _).setCell (Nat.le_succ _) _).setCell (Nat.le_succ _) _).setCell (Nat.le_succ _) _
end Go.Proofs.YtmidaeljeoifdaaGreatDoor
