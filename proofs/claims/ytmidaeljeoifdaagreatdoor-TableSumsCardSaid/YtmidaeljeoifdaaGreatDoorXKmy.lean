import Derived.Test.YtmidaeljeoifdaaGreatDoorXKon
import Derived.Test.YtmidaeljeoifdaaGreatDoorXKri
import Derived.Deep.RegionHeldLaw
import Derived.Test.YtmidaeljeoifdaaGreatDoorXKvi
import Derived.Test.YtmidaeljeoifdaaGreatDoorXKvl
import Derived.Test.YtmidaeljeoifdaaGreatDoorXKsc
namespace Go.Proofs.YtmidaeljeoifdaaGreatDoor
open Go.RowKit Go.Sort
set_option linter.unusedSimpArgs false
set_option linter.unusedVariables false
set_option maxHeartbeats 16000000
set_option maxRecDepth 100000
theorem yieldsIf_load_row {P : Program} {ops : Array Oper} {S : World → Prop} {a : Act} {o : Oper} (hgd : Region.wanted o (yielded ops a.tmps) = true) (ty : TypeId) (x : Operand) (ho : o.op = .load ty x)
  (g : Nat) (hx : a.eval x = .pointer (some ⟨g,0,none⟩)) (t : TypeId) (cs : Array Value) (fr : Nat × Nat) (d : TypeDesc) (hg : ∀ w,S w → w.heap[g]? = some (.cells cs t fr))
  (hu : P.underlying ty = some d) (hd : (match d with | .struct _ | .array _ _ => true | _ => false) = true) (hi : (P.info? ty).map (·.size) = some cs.size) : YieldsIf P ops S o (.agg cs) a :=
 .inl ⟨hgd,fun w hw => by
  unfold execOp
  simp only [ho,hx,Instr.loadAt,Instr.sureAddr,Sem.run_bind,Sem.run_pure,Result.andThen_ok,run_loadVar_row w g t ty cs fr d (hg w hw) hu hd hi]⟩
theorem qsa (k : Nat) (wd : List UInt8) (h : qhb[k]? = some wd) : (#[.string ⟨#[67,80,85]⟩, .string ⟨#[79,83]⟩, .string ⟨#[65,80,80,77,79,68,69]⟩, .string ⟨#[82,69,83,79,85,82,67,69]⟩, .string ⟨#[69,86,69,78,84]⟩, .string ⟨#[84,65,83,75]⟩, .string ⟨#[67,79,85,78,84,69,82]⟩, .string ⟨#[65,76,65,82,77]⟩, .string ⟨#[73,83,82]⟩, .string ⟨#[77,69,83,83,65,71,69]⟩] : Array Value)[k]? = some (S wd) := by
 rcases k with _ | _ | _ | _ | _ | _ | _ | _ | _ | _ | k
 all_goals first | (obtain rfl := Option.some.inj h; rfl) | (simp [qhb] at h)
theorem qsb (k : Nat) (n : Int) (h : qhc[k]? = some n) : (#[.int .i64 0, .int .i64 0, .int .i64 1, .int .i64 0, .int .i64 0, .int .i64 1, .int .i64 0, .int .i64 0, .int .i64 0, .int .i64 0] : Array Value)[k]? = some (I n) := by
 rcases k with _ | _ | _ | _ | _ | _ | _ | _ | _ | _ | k
 all_goals first | (obtain rfl := Option.some.inj h; rfl) | (simp [qhc] at h)
theorem qu0 (k : Nat) (n : Int) (h : qjm[k]? = some n) : (#[.int .i64 1, .int .i64 1, .int .i64 8, .int .i64 64, .int .i64 256, .int .i64 256, .int .i64 16, .int .i64 64, .int .i64 32, .int .i64 64] : Array Value)[k]? = some (I n) := by
 rcases k with _ | _ | _ | _ | _ | _ | _ | _ | _ | _ | k
 all_goals first | (obtain rfl := Option.some.inj h; rfl) | (simp [qjm] at h)
theorem qad (w : World) (o : Obj) {g : Nat} {x : Obj} (h : w.heap[g]? = some x) : (w.alloc o).heap[g]? = some x := by rw [heap_alloc_old w o (qa1 h)]; exact h
theorem qnt {E : Nat → Option Int} {m j : Nat} (h : j < m) : qaw E (m - j) j = match E j with | some c => some (c,(j : Int)) | none => qaw E (m - (j + 1)) (j + 1) := by
 rw [show m - j = (m - (j + 1)) + 1 by omega,qaw]
 cases E j <;> rfl
theorem qmd {l : List Dk} {j : Nat} {d : Dk} (h : l[j]? = some d) : qcc (l.drop j) = qfp d.word (qcc (l.drop (j + 1))) (qb7 d) := by
 obtain ⟨hj,e⟩ := List.getElem?_eq_some_iff.1 h
 rw [List.drop_eq_getElem_cons hj,e]
 rfl
theorem qnu (w : World) (c : Cf) (v : Vs) (h : CfAt w c v) (hl : LensOK c) (hz : NamesOK c) : Calls Tryz.prog 35 #[.agg (cfC c v)] w fun e w' => qfa w (allF c) e w' := by
 rw [← qpn c]
 have hi18 : (Tryz.prog.info? 47).map (·.size) = some (cfC c v).size := by rw [show (cfC c v).size = 18 from rfl]; kernel_rfl
 have hT0 := fun j d hj => qpm w c v h hl hz j d hj
 obtain ⟨R,hR⟩ : ∃ R,R = qcc (tenD c) := ⟨_,rfl⟩
 rw [← hR]
 have hlen : (tenD c).length = 10 := rfl
 generalize cfC c v = C at *
 generalize tenD c = D at *
 have HT : Hid (∀ (j : Nat) (d : Dk),D[j]? = some d → (∀ W,Below w.heap.size w W → Calls Tryz.prog 95 #[.agg C,S d.word] W fun e w' => qaa W d.names e w') ∧
  (∀ i,i < d.names.length → ∀ W,Below w.heap.size w W → Calls Tryz.prog 97 #[.agg C,S d.word,I i] W fun e w' => e = .returned (I (d.E i)) ∧ Below W.heap.size W w') ∧
  (∀ x ∈ d.names,x.length < 9223372036854775808) ∧ qhb[j]? = some d.word ∧ qhc[j]? = some d.lo ∧ qjm[j]? = some d.hi) := hT0
 have HR : Hid (R = qcc D) := hR
 have HL : Hid (D.length = 10) := hlen
 clear hT0 hR hlen h hl hz
 have hb0 : Below w.heap.size w (((((w.alloc (.cells C 47)).alloc (.cells #[.int .i64 0, .string ⟨#[]⟩, .int .i64 0] 79)).alloc (.cells #[.string ⟨#[67,80,85]⟩, .string ⟨#[79,83]⟩, .string ⟨#[65,80,80,77,79,68,69]⟩, .string ⟨#[82,69,83,79,85,82,67,69]⟩, .string ⟨#[69,86,69,78,84]⟩, .string ⟨#[84,65,83,75]⟩, .string ⟨#[67,79,85,78,84,69,82]⟩, .string ⟨#[65,76,65,82,77]⟩, .string ⟨#[73,83,82]⟩, .string ⟨#[77,69,83,83,65,71,69]⟩] 9)).alloc (.cells #[.int .i64 0, .int .i64 0, .int .i64 1, .int .i64 0, .int .i64 0, .int .i64 1, .int .i64 0, .int .i64 0, .int .i64 0, .int .i64 0] 3)).alloc (.cells #[.int .i64 1, .int .i64 1, .int .i64 8, .int .i64 64, .int .i64 256, .int .i64 256, .int .i64 16, .int .i64 64, .int .i64 32, .int .i64 64] 3)) := ((((Below.refl w.heap.size w).alloc (Nat.le_refl _) _).alloc (by simp) _).alloc (by simp; omega) _).alloc (by simp; omega) _ |>.alloc (by simp; omega) _
 have q0 := qad _ (.cells #[.int .i64 1, .int .i64 1, .int .i64 8, .int .i64 64, .int .i64 256, .int .i64 256, .int .i64 16, .int .i64 64, .int .i64 32, .int .i64 64] 3) (qad _ (.cells #[.int .i64 0, .int .i64 0, .int .i64 1, .int .i64 0, .int .i64 0, .int .i64 1, .int .i64 0, .int .i64 0, .int .i64 0, .int .i64 0] 3) (qad _ (.cells #[.string ⟨#[67,80,85]⟩, .string ⟨#[79,83]⟩, .string ⟨#[65,80,80,77,79,68,69]⟩, .string ⟨#[82,69,83,79,85,82,67,69]⟩, .string ⟨#[69,86,69,78,84]⟩, .string ⟨#[84,65,83,75]⟩, .string ⟨#[67,79,85,78,84,69,82]⟩, .string ⟨#[65,76,65,82,77]⟩, .string ⟨#[73,83,82]⟩, .string ⟨#[77,69,83,83,65,71,69]⟩] 9) (qar w (.cells C 47) (.cells #[.int .i64 0, .string ⟨#[]⟩, .int .i64 0] 79))))
 have q1 := qad _ (.cells #[.int .i64 1, .int .i64 1, .int .i64 8, .int .i64 64, .int .i64 256, .int .i64 256, .int .i64 16, .int .i64 64, .int .i64 32, .int .i64 64] 3) (qad _ (.cells #[.int .i64 0, .int .i64 0, .int .i64 1, .int .i64 0, .int .i64 0, .int .i64 1, .int .i64 0, .int .i64 0, .int .i64 0, .int .i64 0] 3) (qad _ (.cells #[.string ⟨#[67,80,85]⟩, .string ⟨#[79,83]⟩, .string ⟨#[65,80,80,77,79,68,69]⟩, .string ⟨#[82,69,83,79,85,82,67,69]⟩, .string ⟨#[69,86,69,78,84]⟩, .string ⟨#[84,65,83,75]⟩, .string ⟨#[67,79,85,78,84,69,82]⟩, .string ⟨#[65,76,65,82,77]⟩, .string ⟨#[73,83,82]⟩, .string ⟨#[77,69,83,83,65,71,69]⟩] 9) (qaj w (.cells C 47) (.cells #[.int .i64 0, .string ⟨#[]⟩, .int .i64 0] 79))))
 have q2 := qad _ (.cells #[.int .i64 1, .int .i64 1, .int .i64 8, .int .i64 64, .int .i64 256, .int .i64 256, .int .i64 16, .int .i64 64, .int .i64 32, .int .i64 64] 3) (qad _ (.cells #[.int .i64 0, .int .i64 0, .int .i64 1, .int .i64 0, .int .i64 0, .int .i64 1, .int .i64 0, .int .i64 0, .int .i64 0, .int .i64 0] 3) (heap_alloc_new ((w.alloc (.cells C 47)).alloc (.cells #[.int .i64 0, .string ⟨#[]⟩, .int .i64 0] 79)) (.cells #[.string ⟨#[67,80,85]⟩, .string ⟨#[79,83]⟩, .string ⟨#[65,80,80,77,79,68,69]⟩, .string ⟨#[82,69,83,79,85,82,67,69]⟩, .string ⟨#[69,86,69,78,84]⟩, .string ⟨#[84,65,83,75]⟩, .string ⟨#[67,79,85,78,84,69,82]⟩, .string ⟨#[65,76,65,82,77]⟩, .string ⟨#[73,83,82]⟩, .string ⟨#[77,69,83,83,65,71,69]⟩] 9)))
 have q3 := qad _ (.cells #[.int .i64 1, .int .i64 1, .int .i64 8, .int .i64 64, .int .i64 256, .int .i64 256, .int .i64 16, .int .i64 64, .int .i64 32, .int .i64 64] 3) (heap_alloc_new (((w.alloc (.cells C 47)).alloc (.cells #[.int .i64 0, .string ⟨#[]⟩, .int .i64 0] 79)).alloc (.cells #[.string ⟨#[67,80,85]⟩, .string ⟨#[79,83]⟩, .string ⟨#[65,80,80,77,79,68,69]⟩, .string ⟨#[82,69,83,79,85,82,67,69]⟩, .string ⟨#[69,86,69,78,84]⟩, .string ⟨#[84,65,83,75]⟩, .string ⟨#[67,79,85,78,84,69,82]⟩, .string ⟨#[65,76,65,82,77]⟩, .string ⟨#[73,83,82]⟩, .string ⟨#[77,69,83,83,65,71,69]⟩] 9)) (.cells #[.int .i64 0, .int .i64 0, .int .i64 1, .int .i64 0, .int .i64 0, .int .i64 1, .int .i64 0, .int .i64 0, .int .i64 0, .int .i64 0] 3))
 have q4 := heap_alloc_new ((((w.alloc (.cells C 47)).alloc (.cells #[.int .i64 0, .string ⟨#[]⟩, .int .i64 0] 79)).alloc (.cells #[.string ⟨#[67,80,85]⟩, .string ⟨#[79,83]⟩, .string ⟨#[65,80,80,77,79,68,69]⟩, .string ⟨#[82,69,83,79,85,82,67,69]⟩, .string ⟨#[69,86,69,78,84]⟩, .string ⟨#[84,65,83,75]⟩, .string ⟨#[67,79,85,78,84,69,82]⟩, .string ⟨#[65,76,65,82,77]⟩, .string ⟨#[73,83,82]⟩, .string ⟨#[77,69,83,83,65,71,69]⟩] 9)).alloc (.cells #[.int .i64 0, .int .i64 0, .int .i64 1, .int .i64 0, .int .i64 0, .int .i64 1, .int .i64 0, .int .i64 0, .int .i64 0, .int .i64 0] 3)) (.cells #[.int .i64 1, .int .i64 1, .int .i64 8, .int .i64 64, .int .i64 256, .int .i64 256, .int .i64 16, .int .i64 64, .int .i64 32, .int .i64 64] 3)
 simp only [World.size_alloc] at q2 q3 q4
 go_enter Tryz.func35,Tryz.ntmps35
 go_wp2
 generalize (((((w.alloc (.cells C 47)).alloc (.cells #[.int .i64 0, .string ⟨#[]⟩, .int .i64 0] 79)).alloc (.cells #[.string ⟨#[67,80,85]⟩, .string ⟨#[79,83]⟩, .string ⟨#[65,80,80,77,79,68,69]⟩, .string ⟨#[82,69,83,79,85,82,67,69]⟩, .string ⟨#[69,86,69,78,84]⟩, .string ⟨#[84,65,83,75]⟩, .string ⟨#[67,79,85,78,84,69,82]⟩, .string ⟨#[65,76,65,82,77]⟩, .string ⟨#[73,83,82]⟩, .string ⟨#[77,69,83,83,65,71,69]⟩] 9)).alloc (.cells #[.int .i64 0, .int .i64 0, .int .i64 1, .int .i64 0, .int .i64 0, .int .i64 1, .int .i64 0, .int .i64 0, .int .i64 0, .int .i64 0] 3)).alloc (.cells #[.int .i64 1, .int .i64 1, .int .i64 8, .int .i64 64, .int .i64 256, .int .i64 256, .int .i64 16, .int .i64 64, .int .i64 32, .int .i64 64] 3)) = W at *
 have HF : Hid (∀ W',Below W.heap.size W W' → W'.heap[w.heap.size]? = some (.cells C 47 (0,0)) ∧ W'.heap[w.heap.size + 1]? = some (.cells qax 79 (0,0)) ∧ (∀ (k : Nat) (d : Dk),D[k]? = some d → W'.cell? ⟨w.heap.size + 1 + 1,k,none⟩ = some (S d.word) ∧ W'.cell? ⟨w.heap.size + 1 + 1 + 1,k,none⟩ = some (I d.lo) ∧ W'.cell? ⟨w.heap.size + 1 + 1 + 1 + 1,k,none⟩ = some (I d.hi)) ∧ Below w.heap.size w W') := fun W' hW => by
  have f := fun {g : Nat} {x : Obj} (hg : W.heap[g]? = some x) => (hW.block _ (qa1 hg)).trans hg
  refine ⟨f q0,f q1,fun k d hd => ?_,hb0.trans (hW.mono hb0.size)⟩
  obtain ⟨_,_,_,h1,h2,h3⟩ := HT.out k d hd
  refine ⟨?_, ?_, ?_⟩
  ·rw [cell_of_row W' _ k _ _ (0,0) (f q2)]; exact qsa k _ h1
  ·rw [cell_of_row W' _ k _ _ (0,0) (f q3)]; exact qsb k _ h2
  ·rw [cell_of_row W' _ k _ _ (0,0) (f q4)]; exact qu0 k _ h3
 clear q0 q1 q2 q3 q4 hb0
 go_loopw [6,7,8,9] (fun kv _ _ _ wr => ∃ k : Nat,k ≤ 10 ∧ kv = .int .i64 k ∧ Hid (Below W.heap.size W wr ∧ R = qcc (D.drop k))) (fun kv _ _ _ _ => 10 - (intOf kv).toNat)
 case atStart => exact ⟨0,by omega,rfl,Below.refl _ _,HR.out⟩
 case round =>
  obtain ⟨k,hk,rfl,HK⟩ := hrel
  obtain ⟨hB,hRk⟩ := HK.out
  have HRk : Hid (R = qcc (D.drop k)) := hRk
  have HB : Hid (Below W.heap.size W wr) := hB
  obtain ⟨hV,hZ,hc,hbw⟩ := HF.out _ hB
  clear HK hRk HR
  by_cases hlt : k < 10
  ·have hlt' : (k : Int) < 10 := by omega
   obtain ⟨d,hd⟩ : ∃ d,D[k]? = some d := ⟨_,List.getElem?_eq_getElem (by rw [HL.out]; exact hlt)⟩
   obtain ⟨hNm,hOne,hsz,_,_,_⟩ := HT.out k d hd
   have HNm : Hid (∀ W,Below w.heap.size w W → Calls Tryz.prog 95 #[.agg C,S d.word] W fun e w' => qaa W d.names e w') := hNm
   have HOne : Hid (∀ i,i < d.names.length → ∀ W,Below w.heap.size w W → Calls Tryz.prog 97 #[.agg C,S d.word,I i] W fun e w' => e = .returned (I (d.E i)) ∧ Below W.heap.size W w') := hOne
   have Hsz : Hid (∀ x ∈ d.names,x.length < 9223372036854775808) := hsz
   have HD : Hid (R = qfp d.word (qcc (D.drop (k + 1))) (qb7 d)) := by show _ = _; rw [HRk.out]; exact qmd hd
   have HF2 : Hid (∀ W',Below W.heap.size W W' → W'.heap[w.heap.size]? = some (.cells C 47 (0,0)) ∧ W'.heap[w.heap.size + 1]? = some (.cells qax 79 (0,0)) ∧ (W'.cell? ⟨w.heap.size + 1 + 1,k,none⟩ = some (S d.word) ∧ W'.cell? ⟨w.heap.size + 1 + 1 + 1,k,none⟩ = some (I d.lo) ∧ W'.cell? ⟨w.heap.size + 1 + 1 + 1 + 1,k,none⟩ = some (I d.hi)) ∧ Below w.heap.size w W') := fun W' hW => by
    obtain ⟨z1,z2,z3,z4⟩ := HF.out W' hW
    exact ⟨z1,z2,z3 k d hd,z4⟩
   obtain ⟨c2,c3,c4⟩ := hc k d hd
   clear hNm hOne hsz hc HF HRk HT hd HL
   go_wp2
   refine wp_region_held_drew (S := fun W' => W'.heap[w.heap.size]? = some (.cells C 47 (0,0)) ∧ W'.cell? ⟨w.heap.size + 1 + 1,k,none⟩ = some (S d.word)) (by kernel_rfl) ⟨hV,c2⟩ (fun hHeld => ?_)
   refine wpAnyH_take (i := 0) (v := .agg C) rfl (by kernel_rfl) (by kernel_rfl) (by kernel_rfl) (fun _ _ _ h => h) (yieldsIf_load_row rfl 47 _ rfl w.heap.size rfl 47 C (0,0) _ (fun _ hw => hw.1) Tryz.underlying47 rfl hi18) hHeld ?_
   simp only [Act.put,q7d,q7e,q7f]
   refine wpAnyH_take (i := 1) (v := .slice (some ⟨w.heap.size + 1 + 1,0,none⟩) 10 10) rfl (by kernel_rfl) (by kernel_rfl) (by kernel_rfl) (fun _ _ _ h => h) (Or.inl ⟨by rfl,fun w' hSw => by go_simp⟩) hHeld ?_
   simp only [Act.put,q7d,q7e,q7f]
   refine wpAnyH_take (i := 2) (v := .int .i64 k) rfl (by kernel_rfl) (by kernel_rfl) (by kernel_rfl) (fun _ _ _ h => h) (Or.inl ⟨by rfl,fun w' hSw => by go_simp⟩) hHeld ?_
   simp only [Act.put,q7d,q7e,q7f]
   refine wpAnyH_take (i := 3) (v := .pointer (some ⟨w.heap.size + 1 + 1,k,none⟩)) rfl (by kernel_rfl) (by kernel_rfl) (by kernel_rfl) (fun _ _ _ h => h) (Or.inl ⟨by rfl,fun w' hSw => by go_simp⟩) hHeld ?_
   simp only [Act.put,q7d,q7e,q7f]
   refine wpAnyH_take (i := 4) (v := S d.word) rfl (by kernel_rfl) (by kernel_rfl) (by kernel_rfl) (fun _ _ _ h => h) (Or.inl ⟨by rfl,fun w' hSw => by obtain ⟨_,hS2⟩ := hSw; go_simp⟩) hHeld ?_
   simp only [Act.put,q7d,q7e,q7f]
   refine wpAnyH_ready (rs := [5]) (by kernel_rfl) (by simp) ?_
   refine AllReadyH.cons rfl (fun K hK => ?_) AllReadyH.nil
   go_simp
   have hbd : Below w.heap.size w wr.drew := ⟨hbw.os,hbw.tape,hbw.output,hbw.size,hbw.block⟩
   have hBd : Below W.heap.size W wr.drew := ⟨HB.out.os,HB.out.tape,HB.out.output,HB.out.size,HB.out.block⟩
   go_wp2_with (go_at_call 95; refine (HNm.out _ hbd).mono ?_; rintro e w2 ⟨s,rfl,hR2,hb2⟩)
   have hB2 : Below W.heap.size W w2 := hBd.trans (hb2.mono hBd.size)
   obtain ⟨hV2,hZ2,⟨e2,e3,e4⟩,hbw2⟩ := HF2.out _ hB2
   refine hK.out _ _ ⟨hV2,e2⟩ (fun hHeld => ?_)
   clear hK K
   refine wpAnyH_take (i := 6) (v := .slice s.a s.n s.c) rfl (by kernel_rfl) (by kernel_rfl) (by kernel_rfl) (fun _ _ _ h => h) (Or.inl ⟨by rfl,fun w' hSw => by go_simp⟩) hHeld ?_
   refine wpAnyH_done (by kernel_rfl) ?_ _
   have HNn : Hid (s.n = d.names.length) := hR2.n
   have HR2 : Hid (RowsAt w2 1 strP s d.names) := hR2
   have hsc : s.n ≤ s.c := hR2.c
   have hsm : s.c ≤ maxLen := hR2.m
   unfold maxLen at hsm
   have Hbw2 : Hid (Below w.heap.size w w2) := hbw2
   have HB2 : Hid (Below W.heap.size W w2) := hB2
   have HZ2 : Hid (w2.heap[w.heap.size + 1]? = some (.cells qax 79 (0,0))) := hZ2
   have hsp : (s.n : Int) < d.lo ∨ (¬ (s.n : Int) < d.lo ∧ (s.n : Int) > d.hi) ∨ (¬ (s.n : Int) < d.lo ∧ ¬ (s.n : Int) > d.hi) := by omega
   clear hHeld hR2 hB2 hb2 hBd hbd hbw HB HNm hV2 hB hbw2 hV hZ c2 c3 c4
   rcases hsp with p1 | ⟨p1,p2⟩ | ⟨p1,p2⟩
   ·have HE : Hid (R = some (71,d.word,0)) := by show _ = _; rw [HD.out,qb7,if_neg (by rw [← HNn.out]; simp [inR]; omega)]; rfl
    obtain ⟨y0,y1,y2,fz⟩ := varV hZ2
    clear HD hZ2
    go_wp2
    rw [HE.out]
    exact qcy Tryz.results35 w w2 (some (71,d.word,0)) _ _ _ rfl (w.heap.size + 1) (by omega) _ HZ2.out Hbw2.out rfl
   ·have HE : Hid (R = some (71,d.word,0)) := by show _ = _; rw [HD.out,qb7,if_neg (by rw [← HNn.out]; simp [inR]; omega)]; rfl
    obtain ⟨y0,y1,y2,fz⟩ := varV hZ2
    clear HD hZ2
    go_wp2
    rw [HE.out]
    exact qcy Tryz.results35 w w2 (some (71,d.word,0)) _ _ _ rfl (w.heap.size + 1) (by omega) _ HZ2.out Hbw2.out rfl
   ·have HD2 : Hid (qb7 d = qaw (objD d) s.n 0) := by show _ = _; rw [qb7,if_pos (by rw [← HNn.out]; simp [inR]; omega),HNn.out]
    clear hZ2
    go_wp2
    clear e2 e3 e4 p1 p2
    go_loopw [8,9] (fun iv _ wq => ∃ i : Nat,i ≤ s.n ∧ iv = .int .i64 i ∧ Hid (Below w2.heap.size w2 wq ∧ qb7 d = qaw (objD d) (s.n - i) i)) (fun iv _ _ => s.n - (intOf iv).toNat)
    case atStart => exact ⟨0,by omega,rfl,Below.refl _ _,HD2.out⟩
    case round =>
     obtain ⟨i,hi,rfl,HJ⟩ := hrel
     obtain ⟨hBi,hLi⟩ := HJ.out
     have HLi : Hid (qb7 d = qaw (objD d) (s.n - i) i) := hLi
     have HBi : Hid (Below w2.heap.size w2 wr) := hBi
     clear HJ hLi HD2
     by_cases hil : i < s.n
     ·have hil' : (i : Int) < s.n := by omega
      have hil2 : i < d.names.length := by rw [← HNn.out]; exact hil
      obtain ⟨nm,hnm⟩ : ∃ nm,d.names[i]? = some nm := ⟨_,List.getElem?_eq_getElem hil2⟩
      have kn := qnm wr s d.names (HR2.out.below hBi (fun _ _ _ _ h => h)) i nm hnm (Hsz.out nm (List.mem_of_getElem? hnm))
      have HL2 : Hid (qb7 d = match objD d i with | some c => some (c,(i : Int)) | none => qaw (objD d) (s.n - (i + 1)) (i + 1)) := by show _ = _; rw [HLi.out]; exact qnt hil
      have HO : Hid (objD d i = if (!isNm nm || hasS (d.names.take i) nm) = true then some 72 else qbr (d.E i)) := by show _ = _; unfold objD; rw [hnm]
      have HG : Hid (∀ w3,Below wr.heap.size wr w3 → w3.heap[w.heap.size]? = some (.cells C 47 (0,0)) ∧ w3.heap[w.heap.size + 1]? = some (.cells qax 79 (0,0)) ∧ w3.cell? ⟨w.heap.size + 1 + 1,k,none⟩ = some (S d.word) ∧ Below w.heap.size w w3 ∧ Below w2.heap.size w2 w3) := fun w3 h3 => by
       have b1 := HBi.out.trans (h3.mono HBi.out.size)
       obtain ⟨z1,z2,⟨z3,_,_⟩,z4⟩ := HF2.out w3 (HB2.out.trans (b1.mono HB2.out.size))
       exact ⟨z1,z2,z3,z4,b1⟩
      have HO1 : Hid (∀ W,Below w.heap.size w W → Calls Tryz.prog 97 #[.agg C,S d.word,I i] W fun e w' => e = .returned (I (d.E i)) ∧ Below W.heap.size W w') := HOne.out i hil2
      clear hnm hil2 HLi hBi HBi HOne HF2 HR2 Hsz HZ2 Hbw2 HB2
      cases hb : (!isNm nm || hasS (d.names.take i) nm) with
      | true =>
       have HE : Hid (R = some (72,d.word,(i : Int))) := by show _ = _; rw [HD.out,HL2.out,HO.out,hb]; rfl
       rw [hb,if_pos rfl] at kn
       clear HD HL2 HO hb HO1
       go_wp2_with (go_at_call 96; refine kn.mono ?_; clear kn; rintro e w3 ⟨rfl,hb3⟩; obtain ⟨hV3,hZ3,g2,hbw3,hb32⟩ := HG.out _ hb3; obtain ⟨y0,y1,y2,fz⟩ := varV hZ3; have HZ3 : Hid (w3.heap[w.heap.size + 1]? = some (.cells qax 79 (0,0))) := hZ3; have Hbw3 : Hid (Below w.heap.size w w3) := hbw3; clear hZ3 hbw3 hb32 hb3 hV3 HG)
       rw [HE.out]
       exact qcy Tryz.results35 w w3 (some (72,d.word,(i : Int))) _ _ _ rfl (w.heap.size + 1) (by omega) _ HZ3.out Hbw3.out rfl
      | false =>
       have HO2 : Hid (objD d i = qbr (d.E i)) := by show _ = _; rw [HO.out,hb]; rfl
       rw [hb,if_neg (by decide)] at kn
       generalize d.E i = ev at *
       clear HO hb
       go_wp2_with (go_at_call 96; refine kn.mono ?_; clear kn; rintro e w3 ⟨rfl,hb3⟩; obtain ⟨hV3,hZ3,g2,hbw3,hb32⟩ := HG.out _ hb3; have HZ3 : Hid (w3.heap[w.heap.size + 1]? = some (.cells qax 79 (0,0))) := hZ3; have Hbw3 : Hid (Below w.heap.size w w3) := hbw3; have Hb32 : Hid (Below w2.heap.size w2 w3) := hb32; clear hZ3 hbw3 hb32 hb3)
       have cr := cell_regrown g2
       have c1 : ∀ d' os,Calls Tryz.prog 97 #[.agg C,S d.word,I i] (grow (redrawn w3 d') os) fun e w'' => e = .returned (I ev) ∧ ∃ p : Regrown,w'' = grow (redrawn w3 p.d) p.os := fun d' os => Calls.regrown_of (HO1.out _ (Hbw3.out.trans ((below_regrown _ d' os).mono Hbw3.out.size)))
       refine wp_region_quiet_below (by kernel_rfl) (by kernel_rfl) ?_
       refine qb1 rfl 47 _ rfl w.heap.size rfl 47 _ (0,0) _ (qbh hV3) Tryz.underlying47 rfl hi18 ?_
       quiet_step (fail)
       repeat (go_big_quiet_step (first | exact c1 _ _))
       refine wpQuiet_nil ?_
       rintro _ ⟨⟨dq,osq⟩,rfl⟩
       dsimp only
       have hb4 := below_regrown w3 dq osq
       have Hb42 : Hid (Below w2.heap.size w2 (grow (redrawn w3 dq) osq)) := Hb32.out.trans (hb4.mono Hb32.out.size)
       have Hbw4 : Hid (Below w.heap.size w (grow (redrawn w3 dq) osq)) := Hbw3.out.trans (hb4.mono Hbw3.out.size)
       have hZ4 := (hb4.block _ (qa1 HZ3.out)).trans HZ3.out
       have g4 := cr dq osq
       clear c1 cr hb4 HO1 HG HZ3 Hbw3 Hb32 g2 hV3
       generalize grow (redrawn w3 dq) osq = w4 at *
       cases he : ev == 0 with
       | true =>
        have he' : (ev != 0) = false := by simp only [bne,he]; rfl
        have HL3 : Hid (qb7 d = qaw (objD d) (s.n - (i + 1)) (i + 1)) := by show _ = _; rw [HL2.out,HO2.out,qbr,if_pos (by simpa using he)]
        clear HL2 HO2 hZ4 g4
        go_wp2
        go_roundw
        case rel => exact ⟨i + 1,by omega,by go_num,Hb42.out,HL3.out⟩
        case measure => simp [intOf]; omega
       | false =>
        have he' : (ev != 0) = true := by simp only [bne,he]; rfl
        have HE : Hid (R = some (ev,d.word,(i : Int))) := by show _ = _; rw [HD.out,HL2.out,HO2.out,qbr,if_neg (by simpa using he)]; rfl
        obtain ⟨y0,y1,y2,fz⟩ := varV hZ4
        have HZ4 : Hid (w4.heap[w.heap.size + 1]? = some (.cells qax 79 (0,0))) := hZ4
        clear HL2 HO2 HD hZ4
        go_wp2
        rw [HE.out]
        exact qcy Tryz.results35 w w4 (some (ev,d.word,(i : Int))) _ _ _ rfl (w.heap.size + 1) (by omega) _ HZ4.out Hbw4.out rfl
     ·obtain rfl : i = s.n := by omega
      have hil' : ¬ ((s.n : Nat) : Int) < (s.n : Nat) := by omega
      have HE : Hid (R = qcc (D.drop (k + 1))) := by show _ = _; rw [HD.out,HLi.out,Nat.sub_self]; rfl
      have HB3 : Hid (Below W.heap.size W wr) := HB2.out.trans (hBi.mono HB2.out.size)
      clear hBi HBi HLi HD
      go_wp2
      go_roundw
      case rel => exact ⟨k + 1,by omega,by go_num,HB3.out,HE.out⟩
      case measure => simp [intOf]; omega
  ·obtain rfl : k = 10 := by omega
   have hlt' : ¬ ((10 : Nat) : Int) < 10 := by omega
   have HE : Hid (R = none) := by show _ = _; rw [HRk.out,List.drop_eq_nil_of_le (by rw [HL.out]; exact Nat.le_refl _)]; rfl
   obtain ⟨y0,y1,y2,fz⟩ := varV hZ
   clear hc HF HRk
   go_wp2
   rw [HE.out]
   exact qcy Tryz.results35 w wr none _ _ _ rfl (w.heap.size + 1) (by omega) _ hZ hbw rfl
theorem qkp (w : World) (c : Cf) (v : Vs) (h : CfAt w c v) (hl : LensOK c) (hz : NamesOK c) : Calls Tryz.prog 12 #[.agg (cfC c v)] w fun e w' => Ans w (allF c).isNone e w' := by
 have hi18 : (Tryz.prog.info? 47).map (·.size) = some (cfC c v).size := by rw [show (cfC c v).size = 18 from rfl]; kernel_rfl
 have hV0 := heap_alloc_new w (.cells (cfC c v) 47)
 have hb := qa0 w (.cells (cfC c v) 47)
 have k1 := qnu _ c v (h.below hb) hl hz
 generalize cfC c v = C at *
 clear h hl hz
 cases ho : allF c with
 | none =>
  rw [ho] at k1
  clear ho
  go_enter Tryz.func12,Tryz.ntmps12
  go_wp2_with (first | (refine wpList_load_row rfl 47 _ rfl w.heap.size rfl 47 _ (0,0) _ hV0 Tryz.underlying47 rfl hi18 ?_) | (go_at_call 35; refine k1.mono ?_; clear k1; rintro e w1 ⟨he,hb1⟩; obtain rfl : e = .returned (.agg #[I 0,S [],I 0]) := he))
  go_ret
  exact ⟨rfl,hb.trans (hb1.mono hb.size)⟩
 | some p =>
  obtain ⟨cd,wd,ix⟩ := p
  have hcd : (cd == 0) = false := by simpa using qif ho
  rw [ho] at k1
  clear ho
  go_enter Tryz.func12,Tryz.ntmps12
  go_wp2_with (first | (refine wpList_load_row rfl 47 _ rfl w.heap.size rfl 47 _ (0,0) _ hV0 Tryz.underlying47 rfl hi18 ?_) | (go_at_call 35; refine k1.mono ?_; clear k1; rintro e w1 ⟨he,hb1⟩; obtain rfl : e = .returned (.agg #[I cd,S wd,I ix]) := he))
  go_ret
  exact ⟨rfl,hb.trans (hb1.mono hb.size)⟩
end Go.Proofs.YtmidaeljeoifdaaGreatDoor
