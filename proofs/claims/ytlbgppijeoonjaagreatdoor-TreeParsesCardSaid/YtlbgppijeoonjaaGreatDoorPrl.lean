import Derived.Test.YtlbgppijeoonjaaGreatDoorRrh
import Derived.Test.YtlbgppijeoonjaaGreatDoorHdb
namespace Go.Proofs.YtlbgppijeoonjaaGreatDoor
open Go.RowKit
set_option linter.unusedVariables false

set_option maxHeartbeats 8000000 in
set_option maxRecDepth 100000 in
theorem parses_good (B0 : Nat) (p : Nat → Addr) (s : ByteArray) (w : World) (hE : Env B0 p w) (hF : EnvF B0 p w) (hs : s.size < 4611686018427387904) (tr : Tr) (hx : parseL s.data.toList = .inl tr) :
    Calls Tryz.prog 7 #[.string s] w fun e w' => e = .returned (.bool true) ∧ Below w.heap.size w w' := by
  have c1 := Parse_any B0 p s w hE hF hs
  have c2 := fun W => rparse_any s W hs
  rw [hx] at c1 c2
  have ch : ∀ W, Below w.heap.size w W → Calls Tryz.prog 14 #[] W fun e w' => e = .returned (.bool true) ∧ Below W.heap.size W w' := fun W hW =>
    heads_any B0 p W (hE.below (hW.mono hE.size)) (hF.below hE (hW.mono hE.size))
  clear hE hF hx
  have cs : ∀ (W : World) (F F' : Nat → Prop) (pv pv' : Value), ObjsAt W F pv tr.objs → ObjsAt W F' pv' tr.objs → Calls Tryz.prog 22 #[.agg (trC tr pv), .agg (trC tr pv'), .bool true] W fun e w' => e = .returned (.bool true) ∧ Below W.heap.size W w' := fun W F F' pv pv' h h' =>
    same_any W true tr tr pv pv' F F' h h' rfl rfl rfl rfl rfl (fun j a a' ha ha' => by rw [ha] at ha'; cases ha'; exact smO_refl true a)
  go_enter Tryz.func7, Tryz.ntmps7
  go_wp2_with fail
  refine c1.mono ?_
  rintro e w1 ⟨pv, rfl, hO1, hb1⟩
  obtain ⟨oa, on, oc, rfl⟩ := objsAt_shape hO1
  unfold trC zero5
  clear c1
  go_wp2_with fail
  have hal := ((Below.refl w1.heap.size w1).alloc (Nat.le_refl _) (.cells #[.string ⟨tr.version.toArray⟩, .string ⟨tr.cpu.toArray⟩, .slice oa on oc, .bool tr.noted, .string ⟨tr.note.toArray⟩] 24)).alloc (by simp) (.cells #[.int .i64 0, .int .i64 0, .int .i64 0, .int .i64 0, .string ⟨#[]⟩] 60)
  have ht2 := heap2_0' w1 (.cells #[.string ⟨tr.version.toArray⟩, .string ⟨tr.cpu.toArray⟩, .slice oa on oc, .bool tr.noted, .string ⟨tr.note.toArray⟩] 24) (.cells #[.int .i64 0, .int .i64 0, .int .i64 0, .int .i64 0, .string ⟨#[]⟩] 60)
  have hf2 := heap2_1' w1 (.cells #[.string ⟨tr.version.toArray⟩, .string ⟨tr.cpu.toArray⟩, .slice oa on oc, .bool tr.noted, .string ⟨tr.note.toArray⟩] 24) (.cells #[.int .i64 0, .int .i64 0, .int .i64 0, .int .i64 0, .string ⟨#[]⟩] 60)
  have hO2 := objsAt_below hal hO1
  have hbw2 := hb1.trans (hal.mono hb1.size)
  clear hal hO1 hb1
  generalize ((w1.alloc (.cells #[.string ⟨tr.version.toArray⟩, .string ⟨tr.cpu.toArray⟩, .slice oa on oc, .bool tr.noted, .string ⟨tr.note.toArray⟩] 24)).alloc (.cells #[.int .i64 0, .int .i64 0, .int .i64 0, .int .i64 0, .string ⟨#[]⟩] 60)) = w2 at *
  generalize w1.heap.size = bt at *
  refine (c2 w2).mono ?_
  rintro e w3 ⟨pv', rfl, hP3, hb3⟩
  obtain ⟨pa, pn, pc, rfl⟩ := objsAt_shape hP3
  have ht3 := (hb3.block _ (heap_lt ht2)).trans ht2
  have hf3 := (hb3.block _ (heap_lt hf2)).trans hf2
  have hO3 := objsAt_below hb3 hO2
  have hbw3 := hbw2.trans (hb3.mono hbw2.size)
  clear hb3 ht2 hf2 hO2 hbw2 c2
  unfold trC zero5
  have hal := ((Below.refl w3.heap.size w3).alloc (Nat.le_refl _) (.cells #[.string ⟨tr.version.toArray⟩, .string ⟨tr.cpu.toArray⟩, .slice pa pn pc, .bool tr.noted, .string ⟨tr.note.toArray⟩] 24)).alloc (by simp) (.cells #[.int .i64 0, .int .i64 0, .int .i64 0, .int .i64 0, .string ⟨#[]⟩] 60)
  have hu4 := heap2_0' w3 (.cells #[.string ⟨tr.version.toArray⟩, .string ⟨tr.cpu.toArray⟩, .slice pa pn pc, .bool tr.noted, .string ⟨tr.note.toArray⟩] 24) (.cells #[.int .i64 0, .int .i64 0, .int .i64 0, .int .i64 0, .string ⟨#[]⟩] 60)
  have hg4 := heap2_1' w3 (.cells #[.string ⟨tr.version.toArray⟩, .string ⟨tr.cpu.toArray⟩, .slice pa pn pc, .bool tr.noted, .string ⟨tr.note.toArray⟩] 24) (.cells #[.int .i64 0, .int .i64 0, .int .i64 0, .int .i64 0, .string ⟨#[]⟩] 60)
  have ht4 := (hal.block _ (heap_lt ht3)).trans ht3
  have hf4 := (hal.block _ (heap_lt hf3)).trans hf3
  have hO4 := objsAt_below hal hO3
  have hP4 := objsAt_below hal hP3
  have hbw4 := hbw3.trans (hal.mono hbw3.size)
  clear hal ht3 hf3 hO3 hP3 hbw3
  obtain ⟨⟨a0, a1, a2, a3, a4⟩, _⟩ := var5 ht4
  obtain ⟨⟨b0, b1, b2, b3, b4⟩, _⟩ := var5 hu4
  go_wp2_with fail
  clear a0 a1 a2 a3 a4 b0 b1 b2 b3 b4
  generalize ((w3.alloc (.cells #[.string ⟨tr.version.toArray⟩, .string ⟨tr.cpu.toArray⟩, .slice pa pn pc, .bool tr.noted, .string ⟨tr.note.toArray⟩] 24)).alloc (.cells #[.int .i64 0, .int .i64 0, .int .i64 0, .int .i64 0, .string ⟨#[]⟩] 60)) = w4 at *
  refine (cs w4 _ _ _ _ hO4 hP4).mono ?_
  rintro e w5 ⟨rfl, hb5⟩
  have hf5 := (hb5.block _ (heap_lt hf4)).trans hf4
  have hg5 := (hb5.block _ (heap_lt hg4)).trans hg4
  have hbw5 := hbw4.trans (hb5.mono hbw4.size)
  obtain ⟨⟨a0, a1, a2, a3, a4⟩, _⟩ := var5 hf5
  obtain ⟨⟨b0, b1, b2, b3, b4⟩, _⟩ := var5 hg5
  clear hb5 hbw4 hf4 hg4 ht4 hu4 hO4 hP4 cs
  go_wp2_with fail
  refine (ch w5 hbw5).mono ?_
  rintro e w6 ⟨rfl, hb6⟩
  have hbw6 := hbw5.trans (hb6.mono hbw5.size)
  clear hb6 hbw5 a0 a1 a2 a3 a4 b0 b1 b2 b3 b4 ch hf5 hg5
  go_wp2
  go_ret
  exact ⟨rfl, hbw6⟩
set_option maxHeartbeats 8000000 in
set_option maxRecDepth 100000 in
theorem parses_bad (B0 : Nat) (p : Nat → Addr) (s : ByteArray) (w : World) (hE : Env B0 p w) (hF : EnvF B0 p w) (hs : s.size < 4611686018427387904) (c : Nat) (o l k : Int) (hx : parseL s.data.toList = .inr (c, o, l, k)) :
    Calls Tryz.prog 7 #[.string s] w fun e w' => e = .returned (.bool true) ∧ Below w.heap.size w w' := by
  have c1 := Parse_any B0 p s w hE hF hs
  have c2 := fun W => rparse_any s W hs
  rw [hx] at c1 c2
  have ch : ∀ W, Below w.heap.size w W → Calls Tryz.prog 14 #[] W fun e w' => e = .returned (.bool true) ∧ Below W.heap.size W w' := fun W hW =>
    heads_any B0 p W (hE.below (hW.mono hE.size)) (hF.below hE (hW.mono hE.size))
  clear hE hF hx
  have cs : ∀ W : World, Calls Tryz.prog 22 #[.agg #[.string ⟨#[]⟩, .string ⟨#[]⟩, .slice none 0 0, .bool false, .string ⟨#[]⟩], .agg #[.string ⟨#[]⟩, .string ⟨#[]⟩, .slice none 0 0, .bool false, .string ⟨#[]⟩], .bool true] W fun e w' => e = .returned (.bool true) ∧ Below W.heap.size W w' := fun W => same_zero W true [] [] false [] none none 0 0
  go_enter Tryz.func7, Tryz.ntmps7
  go_wp2_with fail
  refine c1.mono ?_
  rintro e w1 ⟨rfl, hb1⟩
  unfold zeroT
  clear c1
  go_wp2_with fail
  have hal := ((Below.refl w1.heap.size w1).alloc (Nat.le_refl _) (.cells #[.string ⟨#[]⟩, .string ⟨#[]⟩, .slice none 0 0, .bool false, .string ⟨#[]⟩] 24)).alloc (by simp) (.cells #[.int .i64 (c : Int), .int .i64 o, .int .i64 l, .int .i64 k, .string ⟨#[]⟩] 60)
  have ht2 := heap2_0' w1 (.cells #[.string ⟨#[]⟩, .string ⟨#[]⟩, .slice none 0 0, .bool false, .string ⟨#[]⟩] 24) (.cells #[.int .i64 (c : Int), .int .i64 o, .int .i64 l, .int .i64 k, .string ⟨#[]⟩] 60)
  have hf2 := heap2_1' w1 (.cells #[.string ⟨#[]⟩, .string ⟨#[]⟩, .slice none 0 0, .bool false, .string ⟨#[]⟩] 24) (.cells #[.int .i64 (c : Int), .int .i64 o, .int .i64 l, .int .i64 k, .string ⟨#[]⟩] 60)
  have hbw2 := hb1.trans (hal.mono hb1.size)
  clear hal hb1
  generalize ((w1.alloc (.cells #[.string ⟨#[]⟩, .string ⟨#[]⟩, .slice none 0 0, .bool false, .string ⟨#[]⟩] 24)).alloc (.cells #[.int .i64 (c : Int), .int .i64 o, .int .i64 l, .int .i64 k, .string ⟨#[]⟩] 60)) = w2 at *
  generalize w1.heap.size = bt at *
  refine (c2 w2).mono ?_
  rintro e w3 ⟨rfl, hb3⟩
  have ht3 := (hb3.block _ (heap_lt ht2)).trans ht2
  have hf3 := (hb3.block _ (heap_lt hf2)).trans hf2
  have hbw3 := hbw2.trans (hb3.mono hbw2.size)
  clear hb3 ht2 hf2 hbw2 c2
  unfold zeroT
  have hal := ((Below.refl w3.heap.size w3).alloc (Nat.le_refl _) (.cells #[.string ⟨#[]⟩, .string ⟨#[]⟩, .slice none 0 0, .bool false, .string ⟨#[]⟩] 24)).alloc (by simp) (.cells #[.int .i64 (c : Int), .int .i64 o, .int .i64 l, .int .i64 k, .string ⟨#[]⟩] 60)
  have hu4 := heap2_0' w3 (.cells #[.string ⟨#[]⟩, .string ⟨#[]⟩, .slice none 0 0, .bool false, .string ⟨#[]⟩] 24) (.cells #[.int .i64 (c : Int), .int .i64 o, .int .i64 l, .int .i64 k, .string ⟨#[]⟩] 60)
  have hg4 := heap2_1' w3 (.cells #[.string ⟨#[]⟩, .string ⟨#[]⟩, .slice none 0 0, .bool false, .string ⟨#[]⟩] 24) (.cells #[.int .i64 (c : Int), .int .i64 o, .int .i64 l, .int .i64 k, .string ⟨#[]⟩] 60)
  have ht4 := (hal.block _ (heap_lt ht3)).trans ht3
  have hf4 := (hal.block _ (heap_lt hf3)).trans hf3
  have hbw4 := hbw3.trans (hal.mono hbw3.size)
  clear hal ht3 hf3 hbw3
  obtain ⟨⟨a0, a1, a2, a3, a4⟩, _⟩ := var5 ht4
  obtain ⟨⟨b0, b1, b2, b3, b4⟩, _⟩ := var5 hu4
  go_wp2_with fail
  clear a0 a1 a2 a3 a4 b0 b1 b2 b3 b4
  generalize ((w3.alloc (.cells #[.string ⟨#[]⟩, .string ⟨#[]⟩, .slice none 0 0, .bool false, .string ⟨#[]⟩] 24)).alloc (.cells #[.int .i64 (c : Int), .int .i64 o, .int .i64 l, .int .i64 k, .string ⟨#[]⟩] 60)) = w4 at *
  refine (cs w4).mono ?_
  rintro e w5 ⟨rfl, hb5⟩
  have hf5 := (hb5.block _ (heap_lt hf4)).trans hf4
  have hg5 := (hb5.block _ (heap_lt hg4)).trans hg4
  have hbw5 := hbw4.trans (hb5.mono hbw4.size)
  obtain ⟨⟨a0, a1, a2, a3, a4⟩, _⟩ := var5 hf5
  obtain ⟨⟨b0, b1, b2, b3, b4⟩, _⟩ := var5 hg5
  clear hb5 hbw4 hf4 hg4 ht4 hu4 cs
  go_wp2_with fail
  refine (ch w5 hbw5).mono ?_
  rintro e w6 ⟨rfl, hb6⟩
  have hbw6 := hbw5.trans (hb6.mono hbw5.size)
  clear hb6 hbw5 a0 a1 a2 a3 a4 b0 b1 b2 b3 b4 ch hf5 hg5
  go_wp2
  go_ret
  exact ⟨rfl, hbw6⟩
theorem parses_any (B0 : Nat) (p : Nat → Addr) (s : ByteArray) (w : World) (hE : Env B0 p w) (hF : EnvF B0 p w) (hs : s.size < 4611686018427387904) :
    Calls Tryz.prog 7 #[.string s] w fun e w' => e = .returned (.bool true) ∧ Below w.heap.size w w' := by
  cases hx : parseL s.data.toList with
  | inl tr => exact parses_good B0 p s w hE hF hs tr hx
  | inr x => obtain ⟨c, o, l, k⟩ := x; exact parses_bad B0 p s w hE hF hs c o l k hx
end Go.Proofs.YtlbgppijeoonjaaGreatDoor
