import Derived.Test.YtckmdkdhnhkdhaaZls0
import Derived.Deep.Cut
namespace Go.Proofs.Ytckmdkdhnhkdhaa
open Go.RowKit Go.Shelf
set_option linter.unusedVariables false
set_option linter.unusedSimpArgs false
theorem leave0 {fn : Func} {tmps : Array Value} {p A : Nat} {W w : World} (hr : fn.results = #[.cell p 4]) (hp : tmps.getD p undef = .pointer (some ⟨A, 0, none⟩)) (hA : Boxed w A 4 (.bool true)) (hb : Below W.heap.size W w) :
    LeavesInM Fence.wide 3 Try.prog fn tmps (fun e w' => e = .returned (.bool true) ∧ Below W.heap.size W w') [] .returning w := by
  have hc := hA.cell
  have hp' : tmps[p]?.getD undef = .pointer (some ⟨A, 0, none⟩) := by simpa using hp
  refine ⟨.bool true, ?_, rfl, hb⟩
  simp only [results, hr]
  go_simp
set_option maxHeartbeats 1000000 in
set_option maxRecDepth 100000 in
theorem seen_no (W : World) (room : Int) (hr : room < 0 ∨ 1024 < room) (s1 s2 : Sl) (lv : Int) : Calls Try.prog 6 #[I room, .slice s1.a s1.n s1.c, .slice s2.a s2.n s2.c, I lv] W fun e w' => e = .returned (.bool true) ∧ Below W.heap.size W w' := by
  obtain ⟨a1, n1, c1⟩ := s1
  obtain ⟨a2, n2, c2⟩ := s2
  refine (callsIn_wide (n := 3)).1 ?_
  refine callsIn_of_wp_marks Try.func6 rfl trivial ?_ rfl
  simp only [Try.ntmps6, List.size_toArray, List.length_cons, List.length_nil, Nat.reduceAdd, Nat.reduceSub, Array.replicate_succ, Array.replicate_zero, List.push_toArray, List.append_toArray, List.nil_append, List.cons_append]
  refine wpIn_wide.2 ?_
  go_upto_region 3 with (first
    | (go_at_call 9; refine (iNew_no _ room hr).mono ?_; rintro e w1 ⟨rfl, rfl⟩)
    | (go_at_call 18; refine (dNew_no _ room hr).mono ?_; rintro e w2 ⟨rfl, hc2, b2⟩))
  have hs4 : ((((W.alloc (.cells #[.slice a2 n2 c2] 37)).alloc (.cells #[I lv] 3)).alloc (.cells #[.bool false] 4)).alloc (.cells #[.pointer none] 23)).heap.size = W.heap.size + 1 + 1 + 1 + 1 := by simp
  have x8 : Boxed ((((W.alloc (.cells #[.slice a2 n2 c2] 37)).alloc (.cells #[I lv] 3)).alloc (.cells #[.bool false] 4)).alloc (.cells #[.pointer none] 23)) (W.heap.size + 1 + 1) 4 (.bool false) := by
    have := (Boxed.new ((W.alloc (.cells #[.slice a2 n2 c2] 37)).alloc (.cells #[I lv] 3)) 4 (.bool false)).alloc (.cells #[.pointer none] 23)
    simpa using this
  have x9 : Boxed ((((W.alloc (.cells #[.slice a2 n2 c2] 37)).alloc (.cells #[I lv] 3)).alloc (.cells #[.bool false] 4)).alloc (.cells #[.pointer none] 23)) (W.heap.size + 1 + 1 + 1) 23 (.pointer none) := by
    have := Boxed.new (((W.alloc (.cells #[.slice a2 n2 c2] 37)).alloc (.cells #[I lv] 3)).alloc (.cells #[.bool false] 4)) 23 (.pointer none)
    simpa using this
  have bW : Below W.heap.size W ((((W.alloc (.cells #[.slice a2 n2 c2] 37)).alloc (.cells #[I lv] 3)).alloc (.cells #[.bool false] 4)).alloc (.cells #[.pointer none] 23)) := ((((Below.refl _ W).alloc (Nat.le_refl _) _).alloc (by simp) _).alloc (by simp; omega) _).alloc (by simp; omega) _
  generalize ((((W.alloc (.cells #[.slice a2 n2 c2] 37)).alloc (.cells #[I lv] 3)).alloc (.cells #[.bool false] 4)).alloc (.cells #[.pointer none] 23)) = W4 at *
  rw [hs4] at hc2 b2
  have c3 : Below w2.heap.size w2 (w2.alloc (.cells #[.pointer (some ⟨W.heap.size + 1 + 1 + 1 + 1, 0, none⟩)] 43)) := below_alloc _ _
  have hs2 := b2.size
  rw [hs4] at hs2
  have f42 : Below (W.heap.size + 1 + 1 + 1 + 1) W4 (w2.alloc (.cells #[.pointer (some ⟨W.heap.size + 1 + 1 + 1 + 1, 0, none⟩)] 43)) := b2.trans (c3.mono hs2)
  have z8 := (f42.block _ (by omega)).trans x8
  have z9 : Boxed (w2.alloc (.cells #[.pointer (some ⟨W.heap.size + 1 + 1 + 1 + 1, 0, none⟩)] 43)) (W.heap.size + 1 + 1 + 1) 23 (.pointer none) := (f42.block _ (by omega)).trans x9
  have y9 := z9.cell
  have x11 := Boxed.new w2 43 (dP (W.heap.size + 1 + 1 + 1 + 1))
  have y11 := x11.cell
  have hD0 : (w2.alloc (.cells #[.pointer (some ⟨W.heap.size + 1 + 1 + 1 + 1, 0, none⟩)] 43)).cell? ⟨W.heap.size + 1 + 1 + 1 + 1, 0, none⟩ = some (.bool false) := by rw [World.cell?_alloc_some _ _ _ (by rw [hc2]; rfl)]; exact hc2
  have HZ8 : Hid (Boxed (w2.alloc (.cells #[.pointer (some ⟨W.heap.size + 1 + 1 + 1 + 1, 0, none⟩)] 43)) (W.heap.size + 1 + 1) 4 (.bool false)) := z8
  have HB : Hid (Below W.heap.size W (w2.alloc (.cells #[.pointer (some ⟨W.heap.size + 1 + 1 + 1 + 1, 0, none⟩)] 43))) := bW.trans (f42.mono (by omega))
  clear z8 z9 x11 f42 c3 b2 hc2 hs2 hs4 x8 x9 bW
  generalize (w2.alloc (.cells #[.pointer (some ⟨W.heap.size + 1 + 1 + 1 + 1, 0, none⟩)] 43)) = W5 at *
  go_wp2_with (first
    | (go_at_call 16; refine (alive_any _).mono ?_; rintro e w8 ⟨rfl, b8⟩; have x8 : Boxed w8 (W.heap.size + 1 + 1) 4 (.bool false) := (b8.block _ HZ8.out.lt).trans HZ8.out; have y8 := x8.cell; have yz8 := x8.frozen))
  have f8 : Fx [W.heap.size + 1 + 1] w8 (w8.setCell ⟨W.heap.size + 1 + 1, 0, none⟩ (.bool true)) := (Fx.refl _ _).set (b := W.heap.size + 1 + 1) (.inl (by simp)) _ _
  have b08 : Below W.heap.size W w8 := HB.out.trans (b8.mono HB.out.size)
  exact leave0 (p := 8) rfl rfl (x8.set _) (b08.trans (f8.below b08.size (by simp; omega)))
end Go.Proofs.Ytckmdkdhnhkdhaa
