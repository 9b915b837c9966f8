import Derived.Test.YtmidaeljeoifdaaGreatDoorXKrv
import Derived.Test.YtmidaeljeoifdaaGreatDoorXKve
import Derived.Test.YtmidaeljeoifdaaGreatDoorXKri
import Derived.Test.YtmidaeljeoifdaaGreatDoorXKrr
namespace Go.Proofs.YtmidaeljeoifdaaGreatDoor
open Go.RowKit
set_option linter.unusedSimpArgs false
set_option linter.unusedVariables false
set_option maxHeartbeats 16000000
set_option maxRecDepth 100000
theorem qc9 {w : World} {b n : Nat} {u : Value} {xs : List Value} {l : List (List UInt8)} (h : w.ownsRow b 9 1 u n xs) (hx : xs = l.map fun x => S x) (hn : n = l.length) : ∃ s : Sl,u = .slice s.a s.n s.c ∧ RowsAt w 1 strP s l := by
 have h2 := h
 rcases h.2 with ⟨rfl,rfl⟩ | ⟨g,cap,cur,rfl,hb,hg,hc,hm,hs,ht⟩
 ·refine ⟨⟨none,0,0⟩,rfl,hn,Nat.le_refl _,Nat.zero_le _,fun j x hj => ?_⟩
  have := (List.getElem?_eq_some_iff.1 hj).1
  omega
 ·refine ⟨⟨some ⟨g,0,none⟩,n,cap⟩,rfl,hn,hc,hm,fun j x hj => ⟨g,0,rfl,(h.lt g rfl).2,fun i hi => ?_⟩⟩
  obtain rfl : i = 0 := by omega
  refine ⟨S x, ?_,rfl⟩
  have hc2 := h.cells (g := g) rfl j (S x) (by rw [hx,List.getElem?_map,hj]; rfl)
  have hadd : (⟨g,0,none⟩ : Addr).add j = ⟨g,j,none⟩ := by unfold Addr.add; split <;> simp_all
  rw [hadd] at hc2
  rw [show 0 + j * 1 + 0 = j by omega]
  exact hc2
theorem qnj (w : World) (c : Cf) (v : Vs) : Calls Tryz.prog 95 #[.agg (cfC c v), .string ⟨#[67,80,85]⟩] w fun e w' => qaa w [c.cpu] e w' := by
 have hb := qa0 w
 have hb2 := fun o o' => (hb o).trans ((qa0 (w.alloc o) o').mono (hb o).size)
 have hh := qaj w
 have f0 : ∀ h : 0 < (cfC c v).size,(cfC c v)[0] = S c.cpu := fun _ => rfl
 have hs18 : (cfC c v).size = 18 := rfl
 generalize cfC c v = C at *
 replace f0 := f0 (by omega)
 go_enter Tryz.func95,Tryz.ntmps95
 go_wp2
 go_ret
 exact ⟨⟨some ⟨w.heap.size + 1,0,none⟩,1,1⟩,rfl,qdl (hh _ _),hb2 _ _⟩
theorem qpb (w : World) (c : Cf) (v : Vs) : Calls Tryz.prog 95 #[.agg (cfC c v), .string ⟨#[79,83]⟩] w fun e w' => qaa w [c.osn] e w' := by
 have hb := qa0 w
 have hb2 := fun o o' => (hb o).trans ((qa0 (w.alloc o) o').mono (hb o).size)
 have hh := qaj w
 have f0 : ∀ h : 1 < (cfC c v).size,(cfC c v)[1] = S c.osn := fun _ => rfl
 have hs18 : (cfC c v).size = 18 := rfl
 generalize cfC c v = C at *
 replace f0 := f0 (by omega)
 go_enter Tryz.func95,Tryz.ntmps95
 go_wp2
 go_ret
 exact ⟨⟨some ⟨w.heap.size + 1,0,none⟩,1,1⟩,rfl,qdl (hh _ _),hb2 _ _⟩
theorem qkj (w : World) (c : Cf) (v : Vs) (h : CfAt w c v) : Calls Tryz.prog 95 #[.agg (cfC c v), .string ⟨#[65,80,80,77,79,68,69]⟩] w fun e w' => qaa w c.modes e w' := by
 have hb := qa0 w
 have hR := fun o => h.m.below (hb o) (fun _ _ _ _ h => h)
 have f10 : ∀ h : 10 < (cfC c v).size,(cfC c v)[10] = .slice v.m.a v.m.n v.m.c := fun _ => rfl
 have hs18 : (cfC c v).size = 18 := rfl
 generalize cfC c v = C at *
 replace f10 := f10 (by omega)
 go_enter Tryz.func95,Tryz.ntmps95
 go_wp2
 go_ret
 exact ⟨v.m,rfl,hR _,hb _⟩
theorem qm8 (w : World) (c : Cf) (v : Vs) (h : CfAt w c v) (hl : c.ress.length ≤ 8796093022208) : Calls Tryz.prog 95 #[.agg (cfC c v), .string ⟨#[82,69,83,79,85,82,67,69]⟩] w fun e w' => qaa w (c.ress.map fun x => x.name) e w' := by
 obtain ⟨i0,hi0,hz0,hz1,hz2⟩ := info_parts Tryz.infoStr
 have HN : Hid (v.r.n = c.ress.length) := h.r.n
 have hn40 : v.r.n ≤ 8796093022208 := by have := h.r.n; omega
 have hb := qa0 w
 have fC : ∀ h : 12 < (cfC c v).size,(cfC c v)[12] = .slice v.r.a v.r.n v.r.c := fun _ => rfl
 have hs18 : (cfC c v).size = 18 := rfl
 have hV0 := heap_alloc_new w (.cells (cfC c v) 47)
 have hcv : ∀ W : World,W.heap[w.heap.size]? = some (.cells (cfC c v) 47 (0,0)) → W.cell? ⟨w.heap.size,12,none⟩ = some (.slice v.r.a v.r.n v.r.c) := fun W hW => by
  obtain ⟨_,h10,h11,h12,h13,h14,h15,h16,h17⟩ := qao hW
  exact h12
 generalize cfC c v = C at *
 replace fC := fC (by omega)
 have hs1 : (w.alloc (.cells C 47)).heap.size = w.heap.size + 1 := by simp
 have hbw := hb (.cells C 47)
 have HF : Hid (∀ W,Below (w.heap.size + 1) (w.alloc (.cells C 47)) W → W.cell? ⟨w.heap.size,12,none⟩ = some (.slice v.r.a v.r.n v.r.c) ∧ CfAt W c v ∧ Below w.heap.size w W ∧ w.heap.size + 1 ≤ W.heap.size) := fun W hW => by
  have hs := hW.size
  refine ⟨hcv W ((hW.block _ (by omega)).trans hV0), ?_, ?_,by omega⟩
  ·exact h.below (hbw.trans (hW.mono (by omega)))
  ·exact hbw.trans (hW.mono (by omega))
 clear hb hV0 hcv h hbw
 go_enter Tryz.func95,Tryz.ntmps95
 go_wp2
 clear fC
 go_loopw [5,6] (fun lv kv wr => ∃ k : Nat,k ≤ v.r.n ∧ kv = .int .i64 k ∧ Hid (wr.ownsRow (w.heap.size + 1) 9 1 lv k ((c.ress.take k).map fun x => S x.name) ∧ Below (w.heap.size + 1) (w.alloc (.cells C 47)) wr)) (fun _ kv _ => v.r.n - (intOf kv).toNat)
 case atStart => exact ⟨0,by omega,rfl,World.ownsRow_nil _ _ _ _,Below.refl _ _⟩
 case round =>
  obtain ⟨k,hk,rfl,HK⟩ := hrel
  obtain ⟨hO,hB⟩ := HK.out
  obtain ⟨cc,hCf,hbw,hsw⟩ := HF.out _ hB
  by_cases hlt : k < v.r.n
  ·have hlt' : (k : Int) < v.r.n := by omega
   have hkl : k < c.ress.length := by rw [← HN.out]; exact hlt
   obtain ⟨x,hx⟩ : ∃ x,c.ress[k]? = some x := ⟨_,List.getElem?_eq_getElem hkl⟩
   obtain ⟨g,off,e,hg,a0,a1,a2⟩ := qb5 hCf hx
   have HT : Hid ((c.ress.take (k + 1)).map (fun x => S x.name) = (c.ress.take k).map (fun x => S x.name) ++ [S x.name]) := by
    show _ = _
    rw [List.take_add_one,hx,Option.toList_some,List.map_append]
    rfl
   have HB : Hid (Below (w.heap.size + 1) (w.alloc (.cells C 47)) wr) := hB
   have hO2 := hO.alloc (.cells #[S x.name] 9)
   rw [e] at cc
   clear hx hkl hCf hbw HK hB e HF
   go_wp2_with (at_builtin; refine wpList_append_own _ rfl (.tmp 38) (.tmp 45) 38 rfl (w.heap.size + 1) 9 i0 (.string ⟨#[]⟩) 1 16 Tryz.underlying38 hi0 hz0 hz1 hz2 rfl (by decide) _ _ _ rfl hO2 ⟨wr.heap.size,0,none⟩ 1 1 [S x.name] rfl rfl (cell_one_new _ _ _) (by intro u hu; simp at hu; subst hu; rfl) (by unfold maxLen; omega) (by omega) (by simp; omega) ?_)
   intro v6 w6 ho6 hg6 _
   have HB6 : Hid (Below (w.heap.size + 1) (w.alloc (.cells C 47)) w6) := by
    have b1 := HB.out.trans ((qa0 wr (.cells #[S x.name] 9)).mono hsw)
    exact b1.grown hg6 (by simp; omega) (fun k e => (hO.lt k e).1)
   have HO6 : Hid (w6.ownsRow (w.heap.size + 1) 9 1 v6 (k + 1) ((c.ress.take (k + 1)).map fun x => S x.name)) := by
    have h7 := ho6
    rw [← List.map_take, ← HT.out] at h7
    exact h7
   clear ho6 hg6 hO hO2 HB
   go_wp2
   go_roundw
   case rel => exact ⟨k + 1,by omega,by go_num,HO6.out,HB6.out⟩
   case measure => simp [intOf]; omega
  ·obtain rfl : k = v.r.n := by omega
   have hlt' : ¬ ((v.r.n : Nat) : Int) < (v.r.n : Nat) := by omega
   obtain ⟨s,rfl,hR⟩ := qc9 hO (l := c.ress.map fun x => x.name) (by rw [List.take_of_length_le (by rw [HN.out]; exact Nat.le_refl _),List.map_map]; rfl) (by rw [List.length_map]; exact HN.out)
   clear hO HK hB hCf HF
   go_wp2
   go_ret
   exact ⟨s,rfl,hR,hbw⟩
theorem qnk (w : World) (c : Cf) (v : Vs) (h : CfAt w c v) (hl : c.evs.length ≤ 8796093022208) : Calls Tryz.prog 95 #[.agg (cfC c v), .string ⟨#[69,86,69,78,84]⟩] w fun e w' => qaa w (c.evs.map fun x => x.name) e w' := by
 obtain ⟨i0,hi0,hz0,hz1,hz2⟩ := info_parts Tryz.infoStr
 have HN : Hid (v.e.n = c.evs.length) := h.e.n
 have hn40 : v.e.n ≤ 8796093022208 := by have := h.e.n; omega
 have hb := qa0 w
 have fC : ∀ h : 13 < (cfC c v).size,(cfC c v)[13] = .slice v.e.a v.e.n v.e.c := fun _ => rfl
 have hs18 : (cfC c v).size = 18 := rfl
 have hV0 := heap_alloc_new w (.cells (cfC c v) 47)
 have hcv : ∀ W : World,W.heap[w.heap.size]? = some (.cells (cfC c v) 47 (0,0)) → W.cell? ⟨w.heap.size,13,none⟩ = some (.slice v.e.a v.e.n v.e.c) := fun W hW => by
  obtain ⟨_,h10,h11,h12,h13,h14,h15,h16,h17⟩ := qao hW
  exact h13
 generalize cfC c v = C at *
 replace fC := fC (by omega)
 have hs1 : (w.alloc (.cells C 47)).heap.size = w.heap.size + 1 := by simp
 have hbw := hb (.cells C 47)
 have HF : Hid (∀ W,Below (w.heap.size + 1) (w.alloc (.cells C 47)) W → W.cell? ⟨w.heap.size,13,none⟩ = some (.slice v.e.a v.e.n v.e.c) ∧ CfAt W c v ∧ Below w.heap.size w W ∧ w.heap.size + 1 ≤ W.heap.size) := fun W hW => by
  have hs := hW.size
  refine ⟨hcv W ((hW.block _ (by omega)).trans hV0), ?_, ?_,by omega⟩
  ·exact h.below (hbw.trans (hW.mono (by omega)))
  ·exact hbw.trans (hW.mono (by omega))
 clear hb hV0 hcv h hbw
 go_enter Tryz.func95,Tryz.ntmps95
 go_wp2
 clear fC
 go_loopw [5,7] (fun lv kv wr => ∃ k : Nat,k ≤ v.e.n ∧ kv = .int .i64 k ∧ Hid (wr.ownsRow (w.heap.size + 1) 9 1 lv k ((c.evs.take k).map fun x => S x.name) ∧ Below (w.heap.size + 1) (w.alloc (.cells C 47)) wr)) (fun _ kv _ => v.e.n - (intOf kv).toNat)
 case atStart => exact ⟨0,by omega,rfl,World.ownsRow_nil _ _ _ _,Below.refl _ _⟩
 case round =>
  obtain ⟨k,hk,rfl,HK⟩ := hrel
  obtain ⟨hO,hB⟩ := HK.out
  obtain ⟨cc,hCf,hbw,hsw⟩ := HF.out _ hB
  by_cases hlt : k < v.e.n
  ·have hlt' : (k : Int) < v.e.n := by omega
   have hkl : k < c.evs.length := by rw [← HN.out]; exact hlt
   obtain ⟨x,hx⟩ : ∃ x,c.evs[k]? = some x := ⟨_,List.getElem?_eq_getElem hkl⟩
   obtain ⟨g,off,e,hg,a0,a1,a2⟩ := qds hCf hx
   have HT : Hid ((c.evs.take (k + 1)).map (fun x => S x.name) = (c.evs.take k).map (fun x => S x.name) ++ [S x.name]) := by
    show _ = _
    rw [List.take_add_one,hx,Option.toList_some,List.map_append]
    rfl
   have HB : Hid (Below (w.heap.size + 1) (w.alloc (.cells C 47)) wr) := hB
   have hO2 := hO.alloc (.cells #[S x.name] 9)
   rw [e] at cc
   clear hx hkl hCf hbw HK hB e HF
   go_wp2_with (at_builtin; refine wpList_append_own _ rfl (.tmp 56) (.tmp 63) 38 rfl (w.heap.size + 1) 9 i0 (.string ⟨#[]⟩) 1 16 Tryz.underlying38 hi0 hz0 hz1 hz2 rfl (by decide) _ _ _ rfl hO2 ⟨wr.heap.size,0,none⟩ 1 1 [S x.name] rfl rfl (cell_one_new _ _ _) (by intro u hu; simp at hu; subst hu; rfl) (by unfold maxLen; omega) (by omega) (by simp; omega) ?_)
   intro v6 w6 ho6 hg6 _
   have HB6 : Hid (Below (w.heap.size + 1) (w.alloc (.cells C 47)) w6) := by
    have b1 := HB.out.trans ((qa0 wr (.cells #[S x.name] 9)).mono hsw)
    exact b1.grown hg6 (by simp; omega) (fun k e => (hO.lt k e).1)
   have HO6 : Hid (w6.ownsRow (w.heap.size + 1) 9 1 v6 (k + 1) ((c.evs.take (k + 1)).map fun x => S x.name)) := by
    have h7 := ho6
    rw [← List.map_take, ← HT.out] at h7
    exact h7
   clear ho6 hg6 hO hO2 HB
   go_wp2
   go_roundw
   case rel => exact ⟨k + 1,by omega,by go_num,HO6.out,HB6.out⟩
   case measure => simp [intOf]; omega
  ·obtain rfl : k = v.e.n := by omega
   have hlt' : ¬ ((v.e.n : Nat) : Int) < (v.e.n : Nat) := by omega
   obtain ⟨s,rfl,hR⟩ := qc9 hO (l := c.evs.map fun x => x.name) (by rw [List.take_of_length_le (by rw [HN.out]; exact Nat.le_refl _),List.map_map]; rfl) (by rw [List.length_map]; exact HN.out)
   clear hO HK hB hCf HF
   go_wp2
   go_ret
   exact ⟨s,rfl,hR,hbw⟩
theorem qkk (w : World) (c : Cf) (v : Vs) (h : CfAt w c v) (hl : c.tasks.length ≤ 8796093022208) : Calls Tryz.prog 95 #[.agg (cfC c v), .string ⟨#[84,65,83,75]⟩] w fun e w' => qaa w (c.tasks.map fun x => x.name) e w' := by
 obtain ⟨i0,hi0,hz0,hz1,hz2⟩ := info_parts Tryz.infoStr
 have HN : Hid (v.t.n = c.tasks.length) := h.t.n
 have hn40 : v.t.n ≤ 8796093022208 := by have := h.t.n; omega
 have hb := qa0 w
 have fC : ∀ h : 11 < (cfC c v).size,(cfC c v)[11] = .slice v.t.a v.t.n v.t.c := fun _ => rfl
 have hs18 : (cfC c v).size = 18 := rfl
 have hV0 := heap_alloc_new w (.cells (cfC c v) 47)
 have hcv : ∀ W : World,W.heap[w.heap.size]? = some (.cells (cfC c v) 47 (0,0)) → W.cell? ⟨w.heap.size,11,none⟩ = some (.slice v.t.a v.t.n v.t.c) := fun W hW => by
  obtain ⟨_,h10,h11,h12,h13,h14,h15,h16,h17⟩ := qao hW
  exact h11
 generalize cfC c v = C at *
 replace fC := fC (by omega)
 have hs1 : (w.alloc (.cells C 47)).heap.size = w.heap.size + 1 := by simp
 have hbw := hb (.cells C 47)
 have HF : Hid (∀ W,Below (w.heap.size + 1) (w.alloc (.cells C 47)) W → W.cell? ⟨w.heap.size,11,none⟩ = some (.slice v.t.a v.t.n v.t.c) ∧ CfAt W c v ∧ Below w.heap.size w W ∧ w.heap.size + 1 ≤ W.heap.size) := fun W hW => by
  have hs := hW.size
  refine ⟨hcv W ((hW.block _ (by omega)).trans hV0), ?_, ?_,by omega⟩
  ·exact h.below (hbw.trans (hW.mono (by omega)))
  ·exact hbw.trans (hW.mono (by omega))
 clear hb hV0 hcv h hbw
 go_enter Tryz.func95,Tryz.ntmps95
 go_wp2
 clear fC
 go_loopw [5,8] (fun lv kv wr => ∃ k : Nat,k ≤ v.t.n ∧ kv = .int .i64 k ∧ Hid (wr.ownsRow (w.heap.size + 1) 9 1 lv k ((c.tasks.take k).map fun x => S x.name) ∧ Below (w.heap.size + 1) (w.alloc (.cells C 47)) wr)) (fun _ kv _ => v.t.n - (intOf kv).toNat)
 case atStart => exact ⟨0,by omega,rfl,World.ownsRow_nil _ _ _ _,Below.refl _ _⟩
 case round =>
  obtain ⟨k,hk,rfl,HK⟩ := hrel
  obtain ⟨hO,hB⟩ := HK.out
  obtain ⟨cc,hCf,hbw,hsw⟩ := HF.out _ hB
  by_cases hlt : k < v.t.n
  ·have hlt' : (k : Int) < v.t.n := by omega
   have hkl : k < c.tasks.length := by rw [← HN.out]; exact hlt
   obtain ⟨x,hx⟩ : ∃ x,c.tasks[k]? = some x := ⟨_,List.getElem?_eq_getElem hkl⟩
   obtain ⟨g,off,s4,s5,s6,s7,e,hg,a0,a1,a2,a3,a4,a5,a6,a7,r4,r5,r6,r7⟩ := qbj hCf hx
   have HT : Hid ((c.tasks.take (k + 1)).map (fun x => S x.name) = (c.tasks.take k).map (fun x => S x.name) ++ [S x.name]) := by
    show _ = _
    rw [List.take_add_one,hx,Option.toList_some,List.map_append]
    rfl
   have HB : Hid (Below (w.heap.size + 1) (w.alloc (.cells C 47)) wr) := hB
   have hO2 := hO.alloc (.cells #[S x.name] 9)
   rw [e] at cc
   clear hx hkl hCf hbw HK hB e HF
   go_wp2_with (at_builtin; refine wpList_append_own _ rfl (.tmp 74) (.tmp 81) 38 rfl (w.heap.size + 1) 9 i0 (.string ⟨#[]⟩) 1 16 Tryz.underlying38 hi0 hz0 hz1 hz2 rfl (by decide) _ _ _ rfl hO2 ⟨wr.heap.size,0,none⟩ 1 1 [S x.name] rfl rfl (cell_one_new _ _ _) (by intro u hu; simp at hu; subst hu; rfl) (by unfold maxLen; omega) (by omega) (by simp; omega) ?_)
   intro v6 w6 ho6 hg6 _
   have HB6 : Hid (Below (w.heap.size + 1) (w.alloc (.cells C 47)) w6) := by
    have b1 := HB.out.trans ((qa0 wr (.cells #[S x.name] 9)).mono hsw)
    exact b1.grown hg6 (by simp; omega) (fun k e => (hO.lt k e).1)
   have HO6 : Hid (w6.ownsRow (w.heap.size + 1) 9 1 v6 (k + 1) ((c.tasks.take (k + 1)).map fun x => S x.name)) := by
    have h7 := ho6
    rw [← List.map_take, ← HT.out] at h7
    exact h7
   clear ho6 hg6 hO hO2 HB
   go_wp2
   go_roundw
   case rel => exact ⟨k + 1,by omega,by go_num,HO6.out,HB6.out⟩
   case measure => simp [intOf]; omega
  ·obtain rfl : k = v.t.n := by omega
   have hlt' : ¬ ((v.t.n : Nat) : Int) < (v.t.n : Nat) := by omega
   obtain ⟨s,rfl,hR⟩ := qc9 hO (l := c.tasks.map fun x => x.name) (by rw [List.take_of_length_le (by rw [HN.out]; exact Nat.le_refl _),List.map_map]; rfl) (by rw [List.length_map]; exact HN.out)
   clear hO HK hB hCf HF
   go_wp2
   go_ret
   exact ⟨s,rfl,hR,hbw⟩
theorem qm9 (w : World) (c : Cf) (v : Vs) (h : CfAt w c v) (hl : c.ctrs.length ≤ 8796093022208) : Calls Tryz.prog 95 #[.agg (cfC c v), .string ⟨#[67,79,85,78,84,69,82]⟩] w fun e w' => qaa w (c.ctrs.map fun x => x.name) e w' := by
 obtain ⟨i0,hi0,hz0,hz1,hz2⟩ := info_parts Tryz.infoStr
 have HN : Hid (v.k.n = c.ctrs.length) := h.k.n
 have hn40 : v.k.n ≤ 8796093022208 := by have := h.k.n; omega
 have hb := qa0 w
 have fC : ∀ h : 14 < (cfC c v).size,(cfC c v)[14] = .slice v.k.a v.k.n v.k.c := fun _ => rfl
 have hs18 : (cfC c v).size = 18 := rfl
 have hV0 := heap_alloc_new w (.cells (cfC c v) 47)
 have hcv : ∀ W : World,W.heap[w.heap.size]? = some (.cells (cfC c v) 47 (0,0)) → W.cell? ⟨w.heap.size,14,none⟩ = some (.slice v.k.a v.k.n v.k.c) := fun W hW => by
  obtain ⟨_,h10,h11,h12,h13,h14,h15,h16,h17⟩ := qao hW
  exact h14
 generalize cfC c v = C at *
 replace fC := fC (by omega)
 have hs1 : (w.alloc (.cells C 47)).heap.size = w.heap.size + 1 := by simp
 have hbw := hb (.cells C 47)
 have HF : Hid (∀ W,Below (w.heap.size + 1) (w.alloc (.cells C 47)) W → W.cell? ⟨w.heap.size,14,none⟩ = some (.slice v.k.a v.k.n v.k.c) ∧ CfAt W c v ∧ Below w.heap.size w W ∧ w.heap.size + 1 ≤ W.heap.size) := fun W hW => by
  have hs := hW.size
  refine ⟨hcv W ((hW.block _ (by omega)).trans hV0), ?_, ?_,by omega⟩
  ·exact h.below (hbw.trans (hW.mono (by omega)))
  ·exact hbw.trans (hW.mono (by omega))
 clear hb hV0 hcv h hbw
 go_enter Tryz.func95,Tryz.ntmps95
 go_wp2
 clear fC
 go_loopw [5,9] (fun lv kv wr => ∃ k : Nat,k ≤ v.k.n ∧ kv = .int .i64 k ∧ Hid (wr.ownsRow (w.heap.size + 1) 9 1 lv k ((c.ctrs.take k).map fun x => S x.name) ∧ Below (w.heap.size + 1) (w.alloc (.cells C 47)) wr)) (fun _ kv _ => v.k.n - (intOf kv).toNat)
 case atStart => exact ⟨0,by omega,rfl,World.ownsRow_nil _ _ _ _,Below.refl _ _⟩
 case round =>
  obtain ⟨k,hk,rfl,HK⟩ := hrel
  obtain ⟨hO,hB⟩ := HK.out
  obtain ⟨cc,hCf,hbw,hsw⟩ := HF.out _ hB
  by_cases hlt : k < v.k.n
  ·have hlt' : (k : Int) < v.k.n := by omega
   have hkl : k < c.ctrs.length := by rw [← HN.out]; exact hlt
   obtain ⟨x,hx⟩ : ∃ x,c.ctrs[k]? = some x := ⟨_,List.getElem?_eq_getElem hkl⟩
   obtain ⟨g,off,e,hg,a0,a1,a2,a3⟩ := qfm hCf hx
   have HT : Hid ((c.ctrs.take (k + 1)).map (fun x => S x.name) = (c.ctrs.take k).map (fun x => S x.name) ++ [S x.name]) := by
    show _ = _
    rw [List.take_add_one,hx,Option.toList_some,List.map_append]
    rfl
   have HB : Hid (Below (w.heap.size + 1) (w.alloc (.cells C 47)) wr) := hB
   have hO2 := hO.alloc (.cells #[S x.name] 9)
   rw [e] at cc
   clear hx hkl hCf hbw HK hB e HF
   go_wp2_with (at_builtin; refine wpList_append_own _ rfl (.tmp 92) (.tmp 99) 38 rfl (w.heap.size + 1) 9 i0 (.string ⟨#[]⟩) 1 16 Tryz.underlying38 hi0 hz0 hz1 hz2 rfl (by decide) _ _ _ rfl hO2 ⟨wr.heap.size,0,none⟩ 1 1 [S x.name] rfl rfl (cell_one_new _ _ _) (by intro u hu; simp at hu; subst hu; rfl) (by unfold maxLen; omega) (by omega) (by simp; omega) ?_)
   intro v6 w6 ho6 hg6 _
   have HB6 : Hid (Below (w.heap.size + 1) (w.alloc (.cells C 47)) w6) := by
    have b1 := HB.out.trans ((qa0 wr (.cells #[S x.name] 9)).mono hsw)
    exact b1.grown hg6 (by simp; omega) (fun k e => (hO.lt k e).1)
   have HO6 : Hid (w6.ownsRow (w.heap.size + 1) 9 1 v6 (k + 1) ((c.ctrs.take (k + 1)).map fun x => S x.name)) := by
    have h7 := ho6
    rw [← List.map_take, ← HT.out] at h7
    exact h7
   clear ho6 hg6 hO hO2 HB
   go_wp2
   go_roundw
   case rel => exact ⟨k + 1,by omega,by go_num,HO6.out,HB6.out⟩
   case measure => simp [intOf]; omega
  ·obtain rfl : k = v.k.n := by omega
   have hlt' : ¬ ((v.k.n : Nat) : Int) < (v.k.n : Nat) := by omega
   obtain ⟨s,rfl,hR⟩ := qc9 hO (l := c.ctrs.map fun x => x.name) (by rw [List.take_of_length_le (by rw [HN.out]; exact Nat.le_refl _),List.map_map]; rfl) (by rw [List.length_map]; exact HN.out)
   clear hO HK hB hCf HF
   go_wp2
   go_ret
   exact ⟨s,rfl,hR,hbw⟩
theorem qnl (w : World) (c : Cf) (v : Vs) (h : CfAt w c v) (hl : c.als.length ≤ 8796093022208) : Calls Tryz.prog 95 #[.agg (cfC c v), .string ⟨#[65,76,65,82,77]⟩] w fun e w' => qaa w (c.als.map fun x => x.name) e w' := by
 obtain ⟨i0,hi0,hz0,hz1,hz2⟩ := info_parts Tryz.infoStr
 have HN : Hid (v.a.n = c.als.length) := h.a.n
 have hn40 : v.a.n ≤ 8796093022208 := by have := h.a.n; omega
 have hb := qa0 w
 have fC : ∀ h : 15 < (cfC c v).size,(cfC c v)[15] = .slice v.a.a v.a.n v.a.c := fun _ => rfl
 have hs18 : (cfC c v).size = 18 := rfl
 have hV0 := heap_alloc_new w (.cells (cfC c v) 47)
 have hcv : ∀ W : World,W.heap[w.heap.size]? = some (.cells (cfC c v) 47 (0,0)) → W.cell? ⟨w.heap.size,15,none⟩ = some (.slice v.a.a v.a.n v.a.c) := fun W hW => by
  obtain ⟨_,h10,h11,h12,h13,h14,h15,h16,h17⟩ := qao hW
  exact h15
 generalize cfC c v = C at *
 replace fC := fC (by omega)
 have hs1 : (w.alloc (.cells C 47)).heap.size = w.heap.size + 1 := by simp
 have hbw := hb (.cells C 47)
 have HF : Hid (∀ W,Below (w.heap.size + 1) (w.alloc (.cells C 47)) W → W.cell? ⟨w.heap.size,15,none⟩ = some (.slice v.a.a v.a.n v.a.c) ∧ CfAt W c v ∧ Below w.heap.size w W ∧ w.heap.size + 1 ≤ W.heap.size) := fun W hW => by
  have hs := hW.size
  refine ⟨hcv W ((hW.block _ (by omega)).trans hV0), ?_, ?_,by omega⟩
  ·exact h.below (hbw.trans (hW.mono (by omega)))
  ·exact hbw.trans (hW.mono (by omega))
 clear hb hV0 hcv h hbw
 go_enter Tryz.func95,Tryz.ntmps95
 go_wp2
 clear fC
 go_loopw [5,10] (fun lv kv wr => ∃ k : Nat,k ≤ v.a.n ∧ kv = .int .i64 k ∧ Hid (wr.ownsRow (w.heap.size + 1) 9 1 lv k ((c.als.take k).map fun x => S x.name) ∧ Below (w.heap.size + 1) (w.alloc (.cells C 47)) wr)) (fun _ kv _ => v.a.n - (intOf kv).toNat)
 case atStart => exact ⟨0,by omega,rfl,World.ownsRow_nil _ _ _ _,Below.refl _ _⟩
 case round =>
  obtain ⟨k,hk,rfl,HK⟩ := hrel
  obtain ⟨hO,hB⟩ := HK.out
  obtain ⟨cc,hCf,hbw,hsw⟩ := HF.out _ hB
  by_cases hlt : k < v.a.n
  ·have hlt' : (k : Int) < v.a.n := by omega
   have hkl : k < c.als.length := by rw [← HN.out]; exact hlt
   obtain ⟨x,hx⟩ : ∃ x,c.als[k]? = some x := ⟨_,List.getElem?_eq_getElem hkl⟩
   obtain ⟨g,off,s6,e,hg,a0,a1,a2,a3,a4,a5,a6,a7,a8,r6⟩ := qea hCf hx
   have HT : Hid ((c.als.take (k + 1)).map (fun x => S x.name) = (c.als.take k).map (fun x => S x.name) ++ [S x.name]) := by
    show _ = _
    rw [List.take_add_one,hx,Option.toList_some,List.map_append]
    rfl
   have HB : Hid (Below (w.heap.size + 1) (w.alloc (.cells C 47)) wr) := hB
   have hO2 := hO.alloc (.cells #[S x.name] 9)
   rw [e] at cc
   clear hx hkl hCf hbw HK hB e HF
   go_wp2_with (at_builtin; refine wpList_append_own _ rfl (.tmp 110) (.tmp 117) 38 rfl (w.heap.size + 1) 9 i0 (.string ⟨#[]⟩) 1 16 Tryz.underlying38 hi0 hz0 hz1 hz2 rfl (by decide) _ _ _ rfl hO2 ⟨wr.heap.size,0,none⟩ 1 1 [S x.name] rfl rfl (cell_one_new _ _ _) (by intro u hu; simp at hu; subst hu; rfl) (by unfold maxLen; omega) (by omega) (by simp; omega) ?_)
   intro v6 w6 ho6 hg6 _
   have HB6 : Hid (Below (w.heap.size + 1) (w.alloc (.cells C 47)) w6) := by
    have b1 := HB.out.trans ((qa0 wr (.cells #[S x.name] 9)).mono hsw)
    exact b1.grown hg6 (by simp; omega) (fun k e => (hO.lt k e).1)
   have HO6 : Hid (w6.ownsRow (w.heap.size + 1) 9 1 v6 (k + 1) ((c.als.take (k + 1)).map fun x => S x.name)) := by
    have h7 := ho6
    rw [← List.map_take, ← HT.out] at h7
    exact h7
   clear ho6 hg6 hO hO2 HB
   go_wp2
   go_roundw
   case rel => exact ⟨k + 1,by omega,by go_num,HO6.out,HB6.out⟩
   case measure => simp [intOf]; omega
  ·obtain rfl : k = v.a.n := by omega
   have hlt' : ¬ ((v.a.n : Nat) : Int) < (v.a.n : Nat) := by omega
   obtain ⟨s,rfl,hR⟩ := qc9 hO (l := c.als.map fun x => x.name) (by rw [List.take_of_length_le (by rw [HN.out]; exact Nat.le_refl _),List.map_map]; rfl) (by rw [List.length_map]; exact HN.out)
   clear hO HK hB hCf HF
   go_wp2
   go_ret
   exact ⟨s,rfl,hR,hbw⟩
theorem qma (w : World) (c : Cf) (v : Vs) (h : CfAt w c v) (hl : c.isrs.length ≤ 8796093022208) : Calls Tryz.prog 95 #[.agg (cfC c v), .string ⟨#[73,83,82]⟩] w fun e w' => qaa w (c.isrs.map fun x => x.name) e w' := by
 obtain ⟨i0,hi0,hz0,hz1,hz2⟩ := info_parts Tryz.infoStr
 have HN : Hid (v.i.n = c.isrs.length) := h.i.n
 have hn40 : v.i.n ≤ 8796093022208 := by have := h.i.n; omega
 have hb := qa0 w
 have fC : ∀ h : 16 < (cfC c v).size,(cfC c v)[16] = .slice v.i.a v.i.n v.i.c := fun _ => rfl
 have hs18 : (cfC c v).size = 18 := rfl
 have hV0 := heap_alloc_new w (.cells (cfC c v) 47)
 have hcv : ∀ W : World,W.heap[w.heap.size]? = some (.cells (cfC c v) 47 (0,0)) → W.cell? ⟨w.heap.size,16,none⟩ = some (.slice v.i.a v.i.n v.i.c) := fun W hW => by
  obtain ⟨_,h10,h11,h12,h13,h14,h15,h16,h17⟩ := qao hW
  exact h16
 generalize cfC c v = C at *
 replace fC := fC (by omega)
 have hs1 : (w.alloc (.cells C 47)).heap.size = w.heap.size + 1 := by simp
 have hbw := hb (.cells C 47)
 have HF : Hid (∀ W,Below (w.heap.size + 1) (w.alloc (.cells C 47)) W → W.cell? ⟨w.heap.size,16,none⟩ = some (.slice v.i.a v.i.n v.i.c) ∧ CfAt W c v ∧ Below w.heap.size w W ∧ w.heap.size + 1 ≤ W.heap.size) := fun W hW => by
  have hs := hW.size
  refine ⟨hcv W ((hW.block _ (by omega)).trans hV0), ?_, ?_,by omega⟩
  ·exact h.below (hbw.trans (hW.mono (by omega)))
  ·exact hbw.trans (hW.mono (by omega))
 clear hb hV0 hcv h hbw
 go_enter Tryz.func95,Tryz.ntmps95
 go_wp2
 clear fC
 go_loopw [5,11] (fun lv kv wr => ∃ k : Nat,k ≤ v.i.n ∧ kv = .int .i64 k ∧ Hid (wr.ownsRow (w.heap.size + 1) 9 1 lv k ((c.isrs.take k).map fun x => S x.name) ∧ Below (w.heap.size + 1) (w.alloc (.cells C 47)) wr)) (fun _ kv _ => v.i.n - (intOf kv).toNat)
 case atStart => exact ⟨0,by omega,rfl,World.ownsRow_nil _ _ _ _,Below.refl _ _⟩
 case round =>
  obtain ⟨k,hk,rfl,HK⟩ := hrel
  obtain ⟨hO,hB⟩ := HK.out
  obtain ⟨cc,hCf,hbw,hsw⟩ := HF.out _ hB
  by_cases hlt : k < v.i.n
  ·have hlt' : (k : Int) < v.i.n := by omega
   have hkl : k < c.isrs.length := by rw [← HN.out]; exact hlt
   obtain ⟨x,hx⟩ : ∃ x,c.isrs[k]? = some x := ⟨_,List.getElem?_eq_getElem hkl⟩
   obtain ⟨g,off,s3,s4,e,hg,a0,a1,a2,a3,a4,r3,r4⟩ := qcm hCf hx
   have HT : Hid ((c.isrs.take (k + 1)).map (fun x => S x.name) = (c.isrs.take k).map (fun x => S x.name) ++ [S x.name]) := by
    show _ = _
    rw [List.take_add_one,hx,Option.toList_some,List.map_append]
    rfl
   have HB : Hid (Below (w.heap.size + 1) (w.alloc (.cells C 47)) wr) := hB
   have hO2 := hO.alloc (.cells #[S x.name] 9)
   rw [e] at cc
   clear hx hkl hCf hbw HK hB e HF
   go_wp2_with (at_builtin; refine wpList_append_own _ rfl (.tmp 128) (.tmp 135) 38 rfl (w.heap.size + 1) 9 i0 (.string ⟨#[]⟩) 1 16 Tryz.underlying38 hi0 hz0 hz1 hz2 rfl (by decide) _ _ _ rfl hO2 ⟨wr.heap.size,0,none⟩ 1 1 [S x.name] rfl rfl (cell_one_new _ _ _) (by intro u hu; simp at hu; subst hu; rfl) (by unfold maxLen; omega) (by omega) (by simp; omega) ?_)
   intro v6 w6 ho6 hg6 _
   have HB6 : Hid (Below (w.heap.size + 1) (w.alloc (.cells C 47)) w6) := by
    have b1 := HB.out.trans ((qa0 wr (.cells #[S x.name] 9)).mono hsw)
    exact b1.grown hg6 (by simp; omega) (fun k e => (hO.lt k e).1)
   have HO6 : Hid (w6.ownsRow (w.heap.size + 1) 9 1 v6 (k + 1) ((c.isrs.take (k + 1)).map fun x => S x.name)) := by
    have h7 := ho6
    rw [← List.map_take, ← HT.out] at h7
    exact h7
   clear ho6 hg6 hO hO2 HB
   go_wp2
   go_roundw
   case rel => exact ⟨k + 1,by omega,by go_num,HO6.out,HB6.out⟩
   case measure => simp [intOf]; omega
  ·obtain rfl : k = v.i.n := by omega
   have hlt' : ¬ ((v.i.n : Nat) : Int) < (v.i.n : Nat) := by omega
   obtain ⟨s,rfl,hR⟩ := qc9 hO (l := c.isrs.map fun x => x.name) (by rw [List.take_of_length_le (by rw [HN.out]; exact Nat.le_refl _),List.map_map]; rfl) (by rw [List.length_map]; exact HN.out)
   clear hO HK hB hCf HF
   go_wp2
   go_ret
   exact ⟨s,rfl,hR,hbw⟩
theorem qmb (w : World) (c : Cf) (v : Vs) (h : CfAt w c v) (hl : c.msgs.length ≤ 8796093022208) : Calls Tryz.prog 95 #[.agg (cfC c v), .string ⟨#[77,69,83,83,65,71,69]⟩] w fun e w' => qaa w (c.msgs.map fun x => x.name) e w' := by
 obtain ⟨i0,hi0,hz0,hz1,hz2⟩ := info_parts Tryz.infoStr
 have HN : Hid (v.s.n = c.msgs.length) := h.s.n
 have hn40 : v.s.n ≤ 8796093022208 := by have := h.s.n; omega
 have hb := qa0 w
 have fC : ∀ h : 17 < (cfC c v).size,(cfC c v)[17] = .slice v.s.a v.s.n v.s.c := fun _ => rfl
 have hs18 : (cfC c v).size = 18 := rfl
 have hV0 := heap_alloc_new w (.cells (cfC c v) 47)
 have hcv : ∀ W : World,W.heap[w.heap.size]? = some (.cells (cfC c v) 47 (0,0)) → W.cell? ⟨w.heap.size,17,none⟩ = some (.slice v.s.a v.s.n v.s.c) := fun W hW => by
  obtain ⟨_,h10,h11,h12,h13,h14,h15,h16,h17⟩ := qao hW
  exact h17
 generalize cfC c v = C at *
 replace fC := fC (by omega)
 have hs1 : (w.alloc (.cells C 47)).heap.size = w.heap.size + 1 := by simp
 have hbw := hb (.cells C 47)
 have HF : Hid (∀ W,Below (w.heap.size + 1) (w.alloc (.cells C 47)) W → W.cell? ⟨w.heap.size,17,none⟩ = some (.slice v.s.a v.s.n v.s.c) ∧ CfAt W c v ∧ Below w.heap.size w W ∧ w.heap.size + 1 ≤ W.heap.size) := fun W hW => by
  have hs := hW.size
  refine ⟨hcv W ((hW.block _ (by omega)).trans hV0), ?_, ?_,by omega⟩
  ·exact h.below (hbw.trans (hW.mono (by omega)))
  ·exact hbw.trans (hW.mono (by omega))
 clear hb hV0 hcv h hbw
 go_enter Tryz.func95,Tryz.ntmps95
 go_wp2
 clear fC
 go_loopw [5,12] (fun lv kv wr => ∃ k : Nat,k ≤ v.s.n ∧ kv = .int .i64 k ∧ Hid (wr.ownsRow (w.heap.size + 1) 9 1 lv k ((c.msgs.take k).map fun x => S x.name) ∧ Below (w.heap.size + 1) (w.alloc (.cells C 47)) wr)) (fun _ kv _ => v.s.n - (intOf kv).toNat)
 case atStart => exact ⟨0,by omega,rfl,World.ownsRow_nil _ _ _ _,Below.refl _ _⟩
 case round =>
  obtain ⟨k,hk,rfl,HK⟩ := hrel
  obtain ⟨hO,hB⟩ := HK.out
  obtain ⟨cc,hCf,hbw,hsw⟩ := HF.out _ hB
  by_cases hlt : k < v.s.n
  ·have hlt' : (k : Int) < v.s.n := by omega
   have hkl : k < c.msgs.length := by rw [← HN.out]; exact hlt
   obtain ⟨x,hx⟩ : ∃ x,c.msgs[k]? = some x := ⟨_,List.getElem?_eq_getElem hkl⟩
   obtain ⟨g,off,e,hg,a0,a1,a2,a3,a4,a5,a6,a7,a8,a9⟩ := qbz hCf hx
   have HT : Hid ((c.msgs.take (k + 1)).map (fun x => S x.name) = (c.msgs.take k).map (fun x => S x.name) ++ [S x.name]) := by
    show _ = _
    rw [List.take_add_one,hx,Option.toList_some,List.map_append]
    rfl
   have HB : Hid (Below (w.heap.size + 1) (w.alloc (.cells C 47)) wr) := hB
   have hO2 := hO.alloc (.cells #[S x.name] 9)
   rw [e] at cc
   clear hx hkl hCf hbw HK hB e HF
   go_wp2_with (at_builtin; refine wpList_append_own _ rfl (.tmp 146) (.tmp 153) 38 rfl (w.heap.size + 1) 9 i0 (.string ⟨#[]⟩) 1 16 Tryz.underlying38 hi0 hz0 hz1 hz2 rfl (by decide) _ _ _ rfl hO2 ⟨wr.heap.size,0,none⟩ 1 1 [S x.name] rfl rfl (cell_one_new _ _ _) (by intro u hu; simp at hu; subst hu; rfl) (by unfold maxLen; omega) (by omega) (by simp; omega) ?_)
   intro v6 w6 ho6 hg6 _
   have HB6 : Hid (Below (w.heap.size + 1) (w.alloc (.cells C 47)) w6) := by
    have b1 := HB.out.trans ((qa0 wr (.cells #[S x.name] 9)).mono hsw)
    exact b1.grown hg6 (by simp; omega) (fun k e => (hO.lt k e).1)
   have HO6 : Hid (w6.ownsRow (w.heap.size + 1) 9 1 v6 (k + 1) ((c.msgs.take (k + 1)).map fun x => S x.name)) := by
    have h7 := ho6
    rw [← List.map_take, ← HT.out] at h7
    exact h7
   clear ho6 hg6 hO hO2 HB
   go_wp2
   go_roundw
   case rel => exact ⟨k + 1,by omega,by go_num,HO6.out,HB6.out⟩
   case measure => simp [intOf]; omega
  ·obtain rfl : k = v.s.n := by omega
   have hlt' : ¬ ((v.s.n : Nat) : Int) < (v.s.n : Nat) := by omega
   obtain ⟨s,rfl,hR⟩ := qc9 hO (l := c.msgs.map fun x => x.name) (by rw [List.take_of_length_le (by rw [HN.out]; exact Nat.le_refl _),List.map_map]; rfl) (by rw [List.length_map]; exact HN.out)
   clear hO HK hB hCf HF
   go_wp2
   go_ret
   exact ⟨s,rfl,hR,hbw⟩
theorem qpc (w : World) (c : Cf) (v : Vs) (h : CfAt w c v) (hl : c.ress.length ≤ 8796093022208) (r : Int) :
  Calls Tryz.prog 209 #[.agg (cfC c v),I r] w fun e w' => e = .returned (I (rootF c (c.ress.length + 1) r)) ∧ Below w.heap.size w w' := by
 have hc : v.r.n ≤ v.r.c := h.r.c
 have hm : v.r.c ≤ maxLen := h.r.m
 unfold maxLen at hm
 have hn40 : v.r.n ≤ 8796093022208 := by have := h.r.n; omega
 have HN : Hid (v.r.n = c.ress.length) := h.r.n
 have hb := qa0 w
 have f12 : ∀ h : 12 < (cfC c v).size,(cfC c v)[12] = .slice v.r.a v.r.n v.r.c := fun _ => rfl
 have hs18 : (cfC c v).size = 18 := rfl
 generalize cfC c v = C at *
 replace f12 := f12 (by omega)
 go_enter Tryz.func209,Tryz.ntmps209
 go_wp2
 go_loop [5,6] (fun r5 i => ∃ (j : Nat) (ρ : Int),j ≤ v.r.n + 1 ∧ i = .int .i64 j ∧ r5 = .int .i64 ρ ∧ Hid (rootF c (c.ress.length + 1) r = rootF c (v.r.n + 1 - j) ρ)) (fun _ i => v.r.n + 1 - (intOf i).toNat)
 case atStart => exact ⟨0,r,by omega,rfl,rfl,by show _ = _; rw [Nat.sub_zero,HN.out]⟩
 case round =>
  obtain ⟨j, ρ,hj,rfl,rfl,HR⟩ := hrel
  by_cases hlt : j ≤ v.r.n
  ·have hlt' : (j : Int) ≤ v.r.n := by omega
   have HE : Hid (rootF c (c.ress.length + 1) r = if isId ρ v.r.n = true then (if rkind c ρ = 2 then rootF c (v.r.n + 1 - (j + 1)) (rlink c ρ) else ρ) else -1) := by
    show _ = _
    rw [HR.out,show v.r.n + 1 - j = (v.r.n + 1 - (j + 1)) + 1 by omega,rootF,HN.out]
   clear HR
   by_cases h0 : ρ < 0
   ·have HE2 : Hid (rootF c (c.ress.length + 1) r = -1) := by show _ = _; rw [HE.out,if_neg (by simp [isId]; omega)]
    clear HE
    go_wp2
    go_ret
    exact ⟨qa3 HE2.out.symm,hb _⟩
   ·by_cases h1 : (v.r.n : Int) ≤ ρ
    ·have HE2 : Hid (rootF c (c.ress.length + 1) r = -1) := by show _ = _; rw [HE.out,if_neg (by simp [isId]; omega)]
     clear HE
     go_wp2
     go_ret
     exact ⟨qa3 HE2.out.symm,hb _⟩
    ·obtain ⟨q,rfl⟩ := Int.eq_ofNat_of_zero_le (show 0 ≤ ρ by omega)
     have hql : q < c.ress.length := by rw [← HN.out]; omega
     obtain ⟨x,hx⟩ : ∃ x,c.ress[q]? = some x := ⟨_,List.getElem?_eq_getElem hql⟩
     obtain ⟨g,off,e,hg,a0,a1,a2⟩ := qb5 h hx
     have hne : g ≠ w.heap.size := by omega
     have hq' : (q : Int) < v.r.n := by omega
     have HE1 : Hid (rootF c (c.ress.length + 1) r = if x.kind = 2 then rootF c (v.r.n + 1 - (j + 1)) x.link else q) := by
      show _ = _
      rw [HE.out,if_pos (by simp [isId]; omega)]
      simp [rkind,rlink,hx]
     rw [e] at f12
     clear hx hql HE
     cases hk : x.kind == 2 with
     | true =>
      have HE2 : Hid (rootF c (c.ress.length + 1) r = rootF c (v.r.n + 1 - (j + 1)) x.link) := by show _ = _; rw [HE1.out,if_pos (by simpa using hk)]
      clear HE1
      go_wp2
      go_round
      case rel => exact ⟨j + 1,x.link,by omega,by go_num,rfl,HE2⟩
      case measure => simp [intOf]; omega
     | false =>
      have HE2 : Hid (rootF c (c.ress.length + 1) r = q) := by show _ = _; rw [HE1.out,if_neg (by simpa using hk)]
      clear HE1
      go_wp2
      go_ret
      exact ⟨qa3 HE2.out.symm,hb _⟩
  ·obtain rfl : j = v.r.n + 1 := by omega
   have hlt' : ¬ ((v.r.n + 1 : Nat) : Int) ≤ v.r.n := by omega
   have HE2 : Hid (rootF c (c.ress.length + 1) r = -1) := by show _ = _; rw [HR.out,Nat.sub_self,rootF]
   go_wp2
   go_ret
   exact ⟨qa3 HE2.out.symm,hb _⟩
theorem qbv (w : World) (s : Sl) (l : List Int) (h : RowsAt w 1 intP s l) (n : Int) : Calls Tryz.prog 210 #[.slice s.a s.n s.c,I n] w fun e w' => e = .returned (.bool (risF (-1) l n)) ∧ Below w.heap.size w w' := by
 obtain ⟨sa,sn,sc⟩ := s
 have HN : Hid (sn = l.length) := h.n
 have hc : sn ≤ sc := h.c
 have hm : sc ≤ maxLen := h.m
 dsimp only
 unfold maxLen at hm
 go_enter Tryz.func210,Tryz.ntmps210
 go_wp2
 go_loopw [5] (fun i wr => ∃ (j : Nat) (a : Int),j ≤ sn ∧ i = .int .i64 j ∧ Hid (Below w.heap.size w wr ∧ risF (-1) l n = risF a (l.drop j) n ∧ ((j = 0 ∧ a = -1) ∨ (0 < j ∧ l[j - 1]? = some a)))) (fun i _ => sn - (intOf i).toNat)
 case atStart => exact ⟨0, -1,by omega,rfl,Below.refl _ _,rfl, .inl ⟨rfl,rfl⟩⟩
 case round =>
  obtain ⟨j,a,hj,rfl,HJ⟩ := hrel
  obtain ⟨hB,hR,hA⟩ := HJ.out
  have HR : Hid (risF (-1) l n = risF a (l.drop j) n) := hR
  clear HJ hR
  by_cases hlt : j < sn
  ·have hlt' : (j : Int) < sn := by omega
   have hjl : j < l.length := by rw [← HN.out]; exact hlt
   obtain ⟨x,hx⟩ : ∃ x,l[j]? = some x := ⟨l[j],List.getElem?_eq_getElem hjl⟩
   obtain ⟨g,off,e,hg,hcx⟩ := qau (h.below hB (fun _ _ _ _ h => h)) hx
   dsimp only at e
   subst e
   have HE : Hid (risF (-1) l n = (isId x n && decide (a < x) && risF x (l.drop (j + 1)) n)) := by
    show _ = _
    rw [HR.out,List.drop_eq_getElem_cons hjl,risF]
    rw [List.getElem?_eq_getElem hjl] at hx
    rw [Option.some.inj hx]
   have HA2 : Hid (l[j + 1 - 1]? = some x) := hx
   clear hjl HR
   by_cases h0 : x < 0
   ·have HF : Hid (risF (-1) l n = false) := by show _ = _; rw [HE.out,isId,decide_eq_false (show ¬ 0 ≤ x by omega)]; rfl
    clear HE hA hx
    go_wp2
    go_quiet (fail)
    go_wp2
    go_ret
    exact ⟨qa4 HF.out.symm,below_drewN hB _⟩
   ·have h0x : Hid (0 ≤ x) := by show _ ≤ _; omega
    by_cases h1 : n ≤ x
    ·have HF : Hid (risF (-1) l n = false) := by show _ = _; rw [HE.out,isId,decide_eq_false (show ¬ x < n by omega),Bool.and_false]; rfl
     clear HE hA hx
     go_wp2
     have d0 : ¬ x < 0 := by omega
     go_quiet (fail)
     go_wp2
     go_ret
     exact ⟨qa4 HF.out.symm,below_drewN hB _⟩
    ·have HE1 : Hid (risF (-1) l n = (decide (a < x) && risF x (l.drop (j + 1)) n)) := by show _ = _; rw [HE.out,isId,decide_eq_true h0x.out,decide_eq_true (show x < n by omega)]; rfl
     clear HE
     rcases hA with ⟨rfl,rfl⟩ | ⟨hj0,hA⟩
     ·have hcx0 : wr.cell? ⟨g,off,none⟩ = some (I x) := hcx
      have hl0 : (0 : Int) < sn := by omega
      have HG : Hid (risF (-1) l n = risF x (l.drop (0 + 1)) n) := by show _ = _; rw [HE1.out,decide_eq_true (by omega)]; rfl
      clear HE1 hx
      go_wp2
      have d0 : ¬ x < 0 := by omega
      have d1 : ¬ n ≤ x := by omega
      go_quiet (fail)
      go_wp2
      go_roundw
      case rel => exact ⟨_ + 1,x,by omega,by go_num,below_drewN hB _,HG.out, .inr ⟨by omega,HA2.out⟩⟩
      case measure => simp [intOf]; omega
     ·obtain ⟨k,rfl⟩ : ∃ k,j = k + 1 := ⟨j - 1,by omega⟩
      obtain ⟨g',off',e',hg',hcy⟩ := qau (h.below hB (fun _ _ _ _ h => h)) (show l[k]? = some a from hA)
      dsimp only at e'
      obtain ⟨rfl,rfl⟩ : g = g' ∧ off = off' := by cases e'; exact ⟨rfl,rfl⟩
      have hk0 : (0 : Int) ≤ k := by omega
      by_cases hax : x ≤ a
      ·have HF : Hid (risF (-1) l n = false) := by show _ = _; rw [HE1.out,decide_eq_false (by omega)]; rfl
       clear HE1 hx hA e'
       go_wp2
       have d0 : ¬ x < 0 := by omega
       have d1 : ¬ n ≤ x := by omega
       have d2 : (0 : Int) < (k : Int) + 1 := by omega
       have d3 : x ≤ a := by omega
       go_quiet (fail)
       go_wp2
       go_ret
       exact ⟨qa4 HF.out.symm,below_drewN hB _⟩
      ·have HG : Hid (risF (-1) l n = risF x (l.drop (k + 1 + 1)) n) := by show _ = _; rw [HE1.out,decide_eq_true (by omega)]; rfl
       clear HE1 hx hA e'
       go_wp2
       have d0 : ¬ x < 0 := by omega
       have d1 : ¬ n ≤ x := by omega
       have d2 : (0 : Int) < (k : Int) + 1 := by omega
       have d3 : ¬ x ≤ a := by omega
       go_quiet (fail)
       go_wp2
       go_roundw
       case rel => exact ⟨_ + 1,x,by omega,by go_num,below_drewN hB _,HG.out, .inr ⟨by omega,HA2.out⟩⟩
       case measure => simp [intOf]; omega
  ·obtain rfl : j = sn := by omega
   have hlt' : ¬ (j : Int) < j := by omega
   have HF : Hid (risF (-1) l n = true) := by show _ = _; rw [HR.out,List.drop_eq_nil_of_le (by rw [← HN.out]; exact Nat.le_refl _),risF]
   clear hA
   go_wp2
   go_ret
   exact ⟨qa4 HF.out.symm,hB⟩
theorem qpd (s : ByteArray) (w : World) (hs : s.size < 9223372036854775808) : Calls Tryz.prog 160 #[.string s] w fun e w' => e = .returned (.bool (isNm s.data.toList)) ∧ w' = w := by
 have HL : Hid (s.data.toList.length = s.size) := by show _ = _; simp
 go_enter Tryz.func160,Tryz.ntmps160
 go_wp2
 go_loop [3,4,5] (fun i _ _ => ∃ j : Nat,j ≤ s.size ∧ i = .int .i64 j ∧ Hid (∀ (k : Nat) (c : UInt8),k < j → s.data.toList[k]? = some c → (isLt c || isDg c) = true) ∧ Hid (0 < j → ∀ c : UInt8,s.data.toList[0]? = some c → isLt c = true)) (fun i _ _ => s.size - (intOf i).toNat)
 case atStart => exact ⟨0,by omega,rfl,(fun k c h => absurd h (Nat.not_lt_zero _)),fun h => absurd h (Nat.lt_irrefl _)⟩
 case round =>
  obtain ⟨j,hj,rfl,HJ,H0⟩ := hrel
  by_cases hlt : j < s.size
  ·have hlt' : (j : Int) < s.size := by omega
   obtain ⟨y,hy⟩ : ∃ c,s[j]'hlt = c := ⟨_,rfl⟩
   have hiy : ∀ w,(Instr.index 9 (.string s) (.int .i64 (j : Int))).run Tryz.prog w = .ok (.int .u8 (y.toNat : Int)) w := fun w => by
    rw [← hy]; exact qgc s j _ w hlt rfl
   have HY : Hid (s.data.toList[j]? = some y) := by show _ = _; rw [← hy,List.getElem?_eq_getElem (by rw [HL.out]; exact hlt)]; rfl
   have HK : Hid ((isLt y || isDg y) = true → ∀ (k : Nat) (c : UInt8),k < j + 1 → s.data.toList[k]? = some c → (isLt c || isDg c) = true) := fun h k c hk hc => by
    by_cases e : k < j
    ·exact HJ.out k c e hc
    ·obtain rfl : k = j := by omega
     rw [HY.out] at hc
     cases hc
     exact h
   have HK0 : Hid (isLt y = true → ∀ c : UInt8,s.data.toList[0]? = some c → isLt c = true) := fun h c hc => by
    by_cases e : 0 < j
    ·exact H0.out e c hc
    ·obtain rfl : j = 0 := by omega
     rw [HY.out] at hc
     cases hc
     exact h
   clear hy
   generalize hyn : (y.toNat : Int) = z at *
   by_cases ha : 97 ≤ z ∧ z ≤ 122
   ·have d1 := ha.1
    have d2 := ha.2
    have HLt : Hid (isLt y = true) := by show _ = _; simp [isLt,inR,hyn,d1,d2]
    clear ha hyn
    go_wp2
    go_round
    case rel => exact ⟨j + 1,by omega,by go_num,HK.out (by rw [HLt.out]; rfl),fun _ => HK0.out HLt.out⟩
    case measure => simp [intOf]; omega
   ·by_cases hb : 97 ≤ z
    ·have hz1 : ¬ z ≤ 122 := by omega
     clear ha
     have f1 : 65 ≤ z := by omega
     have f2 : ¬ z ≤ 90 := by omega
     have e95 : (z == 95) = false := by rw [beq_eq_false_iff_ne]; omega
     have f3 : ¬ z < 48 := by omega
     have f4 : 57 < z := by omega
     have HLt : Hid (isLt y = false) := by show _ = _; simp only [isLt,inR,hyn]; simp; omega
     have HDg : Hid (isDg y = false) := by show _ = _; simp only [isDg,inR,hyn]; simp; omega
     have HF : Hid (isNm s.data.toList = false) := qf0 _ j y HY.out (by rw [HLt.out,HDg.out]; rfl)
     clear hyn HK HK0
     cases hj0 : ((j : Int) == 0) with
     | true => go_wp2; go_ret; exact ⟨qa4 HF.out.symm,rfl⟩
     | false => go_wp2; go_ret; exact ⟨qa4 HF.out.symm,rfl⟩
    ·clear ha
     by_cases hc : 65 ≤ z
     ·by_cases hd : z ≤ 90
      ·skip
       have HLt : Hid (isLt y = true) := by show _ = _; simp only [isLt,inR,hyn]; simp; omega
       clear hyn
       go_wp2
       go_round
       case rel => exact ⟨j + 1,by omega,by go_num,HK.out (by rw [HLt.out]; rfl),fun _ => HK0.out HLt.out⟩
       case measure => simp [intOf]; omega
      ·by_cases he : z = 95
       ·have e95 : (z == 95) = true := by simpa using he
        have HLt : Hid (isLt y = true) := by show _ = _; simp only [isLt,inR,hyn]; simp [he]
        clear hyn he
        go_wp2
        go_round
        case rel => exact ⟨j + 1,by omega,by go_num,HK.out (by rw [HLt.out]; rfl),fun _ => HK0.out HLt.out⟩
        case measure => simp [intOf]; omega
       ·skip
        have e95 : (z == 95) = false := by rw [beq_eq_false_iff_ne]; omega
        have f3 : ¬ z < 48 := by omega
        have f4 : 57 < z := by omega
        have HLt : Hid (isLt y = false) := by show _ = _; simp only [isLt,inR,hyn]; simp; omega
        have HDg : Hid (isDg y = false) := by show _ = _; simp only [isDg,inR,hyn]; simp; omega
        have HF : Hid (isNm s.data.toList = false) := qf0 _ j y HY.out (by rw [HLt.out,HDg.out]; rfl)
        clear hyn HK HK0 he
        cases hj0 : ((j : Int) == 0) with
        | true => go_wp2; go_ret; exact ⟨qa4 HF.out.symm,rfl⟩
        | false => go_wp2; go_ret; exact ⟨qa4 HF.out.symm,rfl⟩
     ·by_cases hd : z < 48
      ·skip
       have e95 : (z == 95) = false := by rw [beq_eq_false_iff_ne]; omega
       have HLt : Hid (isLt y = false) := by show _ = _; simp only [isLt,inR,hyn]; simp; omega
       have HDg : Hid (isDg y = false) := by show _ = _; simp only [isDg,inR,hyn]; simp; omega
       have HF : Hid (isNm s.data.toList = false) := qf0 _ j y HY.out (by rw [HLt.out,HDg.out]; rfl)
       clear hyn HK HK0
       cases hj0 : ((j : Int) == 0) with
       | true => go_wp2; go_ret; exact ⟨qa4 HF.out.symm,rfl⟩
       | false => go_wp2; go_ret; exact ⟨qa4 HF.out.symm,rfl⟩
      ·by_cases he : 57 < z
       ·skip
        have e95 : (z == 95) = false := by rw [beq_eq_false_iff_ne]; omega
        have HLt : Hid (isLt y = false) := by show _ = _; simp only [isLt,inR,hyn]; simp; omega
        have HDg : Hid (isDg y = false) := by show _ = _; simp only [isDg,inR,hyn]; simp; omega
        have HF : Hid (isNm s.data.toList = false) := qf0 _ j y HY.out (by rw [HLt.out,HDg.out]; rfl)
        clear hyn HK HK0
        cases hj0 : ((j : Int) == 0) with
        | true => go_wp2; go_ret; exact ⟨qa4 HF.out.symm,rfl⟩
        | false => go_wp2; go_ret; exact ⟨qa4 HF.out.symm,rfl⟩
       ·skip
        have e95 : (z == 95) = false := by rw [beq_eq_false_iff_ne]; omega
        have HLt : Hid (isLt y = false) := by show _ = _; simp only [isLt,inR,hyn]; simp; omega
        have HDg : Hid (isDg y = true) := by show _ = _; simp only [isDg,inR,hyn]; simp; omega
        clear hyn HK0
        cases hj0 : ((j : Int) == 0) with
        | true =>
         have hz : j = 0 := by simpa using hj0
         have HF : Hid (isNm s.data.toList = false) := by
          have h0 := HY.out
          rw [hz] at h0
          show _ = _
          cases hd : s.data.toList with
          | nil => rw [hd] at h0; simp at h0
          | cons a b => rw [hd] at h0; simp at h0; subst h0; exact qjo _ b HLt.out
         clear hz HK
         go_wp2
         go_ret
         exact ⟨qa4 HF.out.symm,rfl⟩
        | false =>
         have hz : Hid (0 < j) := by show 0 < j; have : ¬ j = 0 := (by simpa using hj0); omega
         go_wp2
         go_round
         case rel => exact ⟨j + 1,by omega,by go_num,HK.out (by rw [HDg.out,Bool.or_true]),fun _ => H0.out hz.out⟩
         case measure => simp [intOf]; omega
  ·obtain rfl : j = s.size := by omega
   have hlt' : ¬ ((s.size : Nat) : Int) < (s.size : Nat) := by omega
   have HT : Hid (isNm s.data.toList = (decide (1 ≤ (s.size : Int)) && decide ((s.size : Int) ≤ 63))) := by
    show _ = _
    by_cases h1 : 1 ≤ s.size
    ·by_cases h63 : s.size ≤ 63
     ·rw [decide_eq_true (by omega),decide_eq_true (by omega)]
      exact qov _ (by rw [HL.out]; exact h63) (fun c hc => H0.out (by omega) c hc) (fun e => by have := HL.out; rw [e] at this; simp at this; omega) (fun k c hk => HJ.out k c (by have := (List.getElem?_eq_some_iff.1 hk).1; rw [HL.out] at this; exact this) hk)
     ·rw [decide_eq_true (by omega),decide_eq_false (by omega)]
      exact qmr _ (by rw [HL.out]; omega)
    ·rw [decide_eq_false (by omega)]
     have h0 : s.data.toList = [] := List.eq_nil_of_length_eq_zero (by rw [HL.out]; omega)
     rw [h0]
     rfl
   clear HJ H0
   by_cases h1 : 1 ≤ (s.size : Int)
   ·go_wp2
    go_ret
    exact ⟨qa4 (by rw [HT.out,decide_eq_true h1]; simp),rfl⟩
   ·go_wp2
    go_ret
    exact ⟨qa4 (by rw [HT.out,decide_eq_false (by omega)]; rfl),rfl⟩
end Go.Proofs.YtmidaeljeoifdaaGreatDoor
