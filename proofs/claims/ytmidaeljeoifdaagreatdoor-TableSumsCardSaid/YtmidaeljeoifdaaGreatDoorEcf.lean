import Derived.Test.YtmidaeljeoifdaaGreatDoorEat
import Derived.Test.YtmidaeljeoifdaaGreatDoorEcm
namespace Go.Proofs.YtmidaeljeoifdaaGreatDoor.Ce
open Go.RowKit
set_option linter.unusedVariables false
structure Keeps (w w' : World) : Prop where
 size : w.heap.size ≤ w'.heap.size
 cell : ∀ g i u, w.cell? ⟨g, i, none⟩ = some u → w'.cell? ⟨g, i, none⟩ = some u
theorem Keeps.refl (w : World) : Keeps w w := ⟨Nat.le_refl _, fun _ _ _ h => h⟩
theorem Keeps.trans {a b d : World} (h : Keeps a b) (k : Keeps b d) : Keeps a d := ⟨Nat.le_trans h.size k.size, fun g i u e => k.cell g i u (h.cell g i u e)⟩
theorem Below.keeps {w w' : World} (h : Below w.heap.size w w') : Keeps w w' := ⟨h.size, fun g i u e => by rw [cell_below h g i (World.block_lt_of_cell? w _ e)]; exact e⟩
theorem keeps_map {w w' : World} {b n : Nat} {ks : List Nat} {f : Nat → Int} (h : MapOf w b n ks f) (hg : w.grownBy w' (some b)) : Keeps w w' := by
 obtain ⟨D, ⟨es, clock, hb, _⟩, _⟩ := h.ex
 refine ⟨hg.size, fun g i u e => hg.cell e (fun q => ?_)⟩
 have q2 : g = b := Option.some.inj q
 subst q2
 simp [World.cell?, hb] at e
theorem _root_.Go.Proofs.YtmidaeljeoifdaaGreatDoor.RowsAt.keeps {α : Type} {w w' : World} {k : Nat} {P Q : α → Nat → Value → Prop} {s : Sl} {l : List α} (h : RowsAt w k P s l) (hb : Keeps w w') (hPQ : ∀ x i u, x ∈ l → P x i u → Q x i u) : RowsAt w' k Q s l := by
 refine ⟨h.n, h.c, h.m, fun j x hj => ?_⟩
 obtain ⟨g, off, e, hg, hr⟩ := h.row j x hj
 refine ⟨g, off, e, Nat.lt_of_lt_of_le hg hb.size, fun i hi => ?_⟩
 obtain ⟨u, h1, h2⟩ := hr i hi
 exact ⟨u, hb.cell _ _ _ h1, hPQ x i u (List.mem_of_getElem? hj) h2⟩
theorem _root_.Go.Proofs.YtmidaeljeoifdaaGreatDoor.IntsV.keeps {w w' : World} {l : List Int} {u : Value} (h : IntsV w l u) (hb : Keeps w w') : IntsV w' l u := by
 obtain ⟨s, e, h⟩ := h
 exact ⟨s, e, h.keeps hb (fun _ _ _ _ h => h)⟩
theorem _root_.Go.Proofs.YtmidaeljeoifdaaGreatDoor.CfAt.keeps {w w' : World} {c : Cf} {v : Vs} (h : CfAt w c v) (hb : Keeps w w') : CfAt w' c v := by
 refine ⟨h.m.keeps hb (fun _ _ _ _ h => h), h.t.keeps hb (fun x i u _ h => ?_), h.r.keeps hb (fun _ _ _ _ h => h), h.e.keeps hb (fun _ _ _ _ h => h), h.k.keeps hb (fun _ _ _ _ h => h), h.a.keeps hb (fun x i u _ h => ?_), h.i.keeps hb (fun x i u _ h => ?_), h.s.keeps hb (fun _ _ _ _ h => h)⟩
 ·unfold tkP at h ⊢
  split at h <;> first | exact h | exact IntsV.keeps h hb
 ·unfold alP at h ⊢
  split at h <;> first | exact h | exact IntsV.keeps h hb
 ·unfold isP at h ⊢
  split at h <;> first | exact h | exact IntsV.keeps h hb
theorem rows_ints {w : World} {b n : Nat} {u : Value} {xs : List Value} {l : List Int} (h : w.ownsRow b 3 1 u n xs) (hx : xs = l.map fun x => I x) (hn : n = l.length) : ∃ s : Sl, u = .slice s.a s.n s.c ∧ RowsAt w 1 intP s l := by
 rcases h.2 with ⟨rfl, rfl⟩ | ⟨g, cap, cur, rfl, hb, hg, hc, hm, hs, ht⟩
 ·refine ⟨⟨none, 0, 0⟩, rfl, hn, Nat.le_refl _, Nat.zero_le _, fun j x hj => ?_⟩
  have := (List.getElem?_eq_some_iff.1 hj).1
  omega
 ·refine ⟨⟨some ⟨g, 0, none⟩, n, cap⟩, rfl, hn, hc, hm, fun j x hj => ⟨g, 0, rfl, (h.lt g rfl).2, fun i hi => ?_⟩⟩
  obtain rfl : i = 0 := by omega
  refine ⟨I x, ?_, rfl⟩
  have hc2 := h.cells (g := g) rfl j (I x) (by rw [hx, List.getElem?_map, hj]; rfl)
  have hadd : (⟨g, 0, none⟩ : Addr).add j = ⟨g, j, none⟩ := by unfold Addr.add; split <;> simp_all
  rw [hadd] at hc2
  rw [show 0 + j * 1 + 0 = j by omega]
  exact hc2
theorem Tryz.infoInt : (Tryz.prog.info? 3).map (fun i => (i.zero, i.size, i.bytes)) = some (some (.int .i64 0), 1, 8) := by kernel_rfl
end Go.Proofs.YtmidaeljeoifdaaGreatDoor.Ce
