import Derived.Test.YtmidaeljeoifdaaGreatDoorTii
import Derived.Deep.DeepAppendWide
namespace Go.Proofs.YtmidaeljeoifdaaGreatDoor
open Go.RowKit Go.Shelf Go.Sort Go.Maps
set_option linter.unusedVariables false
set_option linter.unusedSimpArgs false
set_option maxHeartbeats 8000000
set_option maxRecDepth 100000
theorem addr_add9 (g off j : Nat) : (⟨g, off, none⟩ : Addr).add j = ⟨g, off + j, none⟩ := by unfold Addr.add; split <;> simp_all
theorem clone_any9 (w : World) (s : Sl) (l : List Int) (hl : RowsAt w 1 intP s l) (hll : l.length ≤ 1048576) : Calls Tryz.prog 157 #[.slice s.a s.n s.c] w fun e w' => ∃ so : Sl, e = .returned (.slice so.a so.n so.c) ∧ IntsO9 w' w.heap.size l (.slice so.a so.n so.c) ∧ Below w.heap.size w w' := by
 have hq : ∀ (w : World) (a : Option Addr) (n c n' c' : Nat), (binOp .eql 54 (.slice a n c) (.slice none n' c')).run Tryz.prog w = .ok (.bool a.isNone) w := fun w a n c n' c' => Lib.run_eql_slice_nil w _ _ a n c n' c' Tryz.underlying54
 obtain ⟨i0, hi0, hz0, hz1, hz2⟩ := info_parts iinfo9
 obtain ⟨a, n, c⟩ := s
 have hn : n = l.length := hl.n
 subst hn
 cases a with
 | none =>
  have h0 : l = [] := by
   cases l with
   | nil => rfl
   | cons x r => obtain ⟨g, off, e, _⟩ := hl.row 0 x rfl; cases e
  subst h0
  clear hl
  go_enter Tryz.func157, Tryz.ntmps157
  go_wp2
  go_ret
  exact ⟨⟨none, 0, 0⟩, rfl, World.ownsRow_nil _ _ _ _, Below.refl _ _⟩
 | some ad =>
  have hown := World.ownsRow_lit (base := w.heap.size) (e := 3) (size := 1) w #[] 0 (Nat.le_refl _) (Nat.zero_le _) rfl
  have HNL : Hid ((l.map fun x => I x).length = l.length * 1) := by show _ = _; simp
  have hcl : ∀ j u, (l.map fun x => I x)[j]? = some u → (w.alloc (.cells #[] 3)).cell? (ad.add j) = some u := fun j u hj => by
   rw [List.getElem?_map] at hj
   cases e : l[j]? with
   | none => rw [e] at hj; cases hj
   | some i =>
    rw [e] at hj
    cases hj
    obtain ⟨g, off, e2, hg, b5⟩ := ints_at9 hl e
    cases e2
    rw [addr_add9, World.cell?_of_block ((below_alloc w _).block g hg)]
    exact b5
  have ho : ∀ u ∈ (l.map fun x => I x), u.oneCell' = true := fun u hu => by obtain ⟨i, _, rfl⟩ := List.mem_map.1 hu; rfl
  clear hl
  go_enter Tryz.func157, Tryz.ntmps157
  go_wp2_with (at_builtin; refine wpList_append_own _ rfl _ _ 54 rfl w.heap.size 3 i0 (.int .i64 0) 1 8 Tryz.underlying54 hi0 hz0 hz1 hz2 rfl (by decide) _ 0 _ rfl hown ad l.length c (l.map fun x => I x) rfl HNL.out hcl ho (by unfold maxLen; omega) (by omega) (by simp) ?_)
  intro v6 w6 ho6 hg6 _
  have hb6 : Below w.heap.size w w6 := ((Below.refl w.heap.size w).alloc (Nat.le_refl _) _).grown hg6 (by simp) (fun k e => by simp [Value.ownBlock] at e; omega)
  obtain ⟨a6, k6, rfl⟩ := own_slk ho6
  have HO : Hid (w6.ownsRow w.heap.size 3 1 (.slice a6 l.length k6) l.length (l.map fun x => I x) ∧ Below w.heap.size w w6) := ⟨ho6, hb6⟩
  clear ho6 hg6 hown hcl ho hb6
  go_wp2
  go_ret
  exact ⟨⟨a6, l.length, k6⟩, rfl, HO.out.1, HO.out.2⟩
def mkA (c : Cf) (x : Al) : AlR := ⟨x.ctr, ⟨x.ac.kind, x.ac.task, actM c x.ac⟩, bitN x.auto, x.time, x.cycle⟩
def mkS (c : Cf) (x : Ms) : MsR := ⟨x.kind, x.len, x.frm, x.init, x.queue, ⟨x.ac.kind, x.ac.task, actM c x.ac⟩⟩
def mkK (x : Ct) : CtR := ⟨x.max, x.base, x.min⟩
theorem al_any (w : World) (c : Cf) (v : Vs) (h : CfAt w c v) (ok : MkOK c) : Calls Tryz.prog 89 #[.agg (cfC c v)] w fun e w' => (∃ a k, e = .returned (.slice a c.als.length k) ∧ RA w.heap.size w' (c.als.map (mkA c)) (.slice a c.als.length k)) ∧ Below w.heap.size w w' := by
 have hb := below_alloc w (.cells (cfC c v) 47)
 have hV := heap_alloc_new w (.cells (cfC c v) 47)
 have q : (w.alloc (.cells (cfC c v) 47)).cell? ⟨w.heap.size, 15, none⟩ = some (.slice v.a.a v.a.n v.a.c) := by rw [cell_of_row _ _ 15 _ _ (0, 0) hV]; rfl
 have k1 := rows_Alarm_AlarmRow (w.alloc (.cells (cfC c v) 47)) v.a c.als (h.below hb).a ok.n.2.2.2.1 155 #[.pointer (some ⟨w.heap.size, 0, none⟩)] (enters_of Tryz.func155 (by kernel_rfl) rfl) (mkA c) (fun W hW x hx s6 r6 => by
  have hbW := hb.trans (hW.mono hb.size)
  obtain ⟨l6, d6, d7⟩ := ok.a x hx
  exact alarm1_any W x s6 _ _ w.heap.size (cfC c v) rfl ((hW.block _ (heap_lt hV)).trans hV)
   (fun W' hW' => actRow_any9 W' c v ((h.below hbW).below hW') x.ac d7)
   (fun W' hW' => (bits_any W' s6 x.auto (r6.below hW' (fun _ _ _ _ h => h)) l6 d6).mono (fun e w' h => ⟨h.1, by rw [h.2]; exact Below.refl _ _⟩)))
 have HB : Hid _ := hb
 clear hV h hb
 generalize hCC : cfC c v = C at *
 clear hCC
 go_enter Tryz.func89, Tryz.ntmps89
 go_wp2_with (first | (go_at_call 154; refine k1.mono ?_; clear k1; rintro e w1 ⟨⟨a1, c1, xs, rfl, o1, x1⟩, b1⟩))
 go_ret
 refine ⟨⟨a1, c1, rfl, xs, ?_, x1⟩, HB.out.trans (b1.mono HB.out.size)⟩
 rw [List.length_map]
 exact own_mono9 o1 (by simp)
theorem ms_any (w : World) (c : Cf) (v : Vs) (h : CfAt w c v) (ok : MkOK c) : Calls Tryz.prog 92 #[.agg (cfC c v)] w fun e w' => (∃ a k, e = .returned (.slice a c.msgs.length k) ∧ RM w.heap.size w' (c.msgs.map (mkS c)) (.slice a c.msgs.length k)) ∧ Below w.heap.size w w' := by
 have hb := below_alloc w (.cells (cfC c v) 47)
 have hV := heap_alloc_new w (.cells (cfC c v) 47)
 have q : (w.alloc (.cells (cfC c v) 47)).cell? ⟨w.heap.size, 17, none⟩ = some (.slice v.s.a v.s.n v.s.c) := by rw [cell_of_row _ _ 17 _ _ (0, 0) hV]; rfl
 have k1 := rows_Message_MessageRow (w.alloc (.cells (cfC c v) 47)) v.s c.msgs (h.below hb).s ok.n.2.2.2.2.2 159 #[.pointer (some ⟨w.heap.size, 0, none⟩)] (enters_of Tryz.func159 (by kernel_rfl) rfl) (mkS c) (fun W hW x hx => by
  have hbW := hb.trans (hW.mono hb.size)
  exact message1_any W x _ w.heap.size (cfC c v) rfl ((hW.block _ (heap_lt hV)).trans hV)
   (fun W' hW' => actRow_any9 W' c v ((h.below hbW).below hW') x.ac (ok.s x hx)))
 have HB : Hid _ := hb
 clear hV h hb
 generalize hCC : cfC c v = C at *
 clear hCC
 go_enter Tryz.func92, Tryz.ntmps92
 go_wp2_with (first | (go_at_call 158; refine k1.mono ?_; clear k1; rintro e w1 ⟨⟨a1, c1, xs, rfl, o1, x1⟩, b1⟩))
 go_ret
 refine ⟨⟨a1, c1, rfl, xs, ?_, x1⟩, HB.out.trans (b1.mono HB.out.size)⟩
 rw [List.length_map]
 exact own_mono9 o1 (by simp)
theorem ct_any (w : World) (c : Cf) (v : Vs) (h : CfAt w c v) (ok : MkOK c) : Calls Tryz.prog 87 #[.slice v.k.a v.k.n v.k.c, .func (.func 88) #[] #[]] w fun e w' => (∃ a k, e = .returned (.slice a c.ctrs.length k) ∧ RK w.heap.size w' (c.ctrs.map mkK) (.slice a c.ctrs.length k)) ∧ Below w.heap.size w w' :=
 (rows_Counter_CounterRow w v.k c.ctrs h.k ok.n.2.2.1 88 #[] (enters_of Tryz.func88 (by kernel_rfl) rfl) mkK (fun W hW x hx => counterRow_any W x)).mono (fun e w' h => by
  obtain ⟨⟨a1, c1, xs, h1, h2, h3⟩, hb⟩ := h
  exact ⟨⟨a1, c1, h1, xs, by rw [List.length_map]; exact h2, h3⟩, hb⟩)
end Go.Proofs.YtmidaeljeoifdaaGreatDoor
