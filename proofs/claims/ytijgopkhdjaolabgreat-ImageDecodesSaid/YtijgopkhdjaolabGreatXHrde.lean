import Derived.Test.YtijgopkhdjaolabGreatRows
import Derived.Test.YtijgopkhdjaolabGreatXI6
import Derived.ProofKit
import Derived.OpenShut
import Derived.ShutString
import Derived.ChangeOld
import Derived.SizedLaws
import Derived.Test.YtijgopkhdjaolabGreatXHy32
import Derived.Test.YtijgopkhdjaolabGreatXThnl
set_option linter.unusedSimpArgs false
set_option linter.unusedVariables false
set_option maxHeartbeats 16000000
set_option maxRecDepth 100000
namespace Go.Proofs.YtijgopkhdjaolabGreat
open Go.ChangeAt Go.ChangeShapes Go.RowKit Go.WideShapes
theorem qph : Tryz.prog.cellsOf 5 = 1 := by kernel_rfl
theorem qra {W : World} {x : Addr} {len cap : Nat} {zs : List Int} (hl : len ≤ cap) (hz : zs.length = cap) (hs : cap ≤ 140737488351232)
  (hcell : ∀ i,i < zs.length → W.cell? (x.add i) = some (.int .u8 (zs.getD i 0))) (hwz : ∀ n ∈ zs,(Lit.int .u8 n).wf = true) :
  Ob.Rd W (some x) len cap ((zs.take len).map fun z => UInt8.ofNat z.toNat) := by
 refine ⟨by simp; omega,hl,by omega,(fun e => by cases e),fun hp => ?_⟩;obtain ⟨b,off,spot⟩ := x;have hc := hcell 0 (by omega);have hspot : spot = none := by simpa [Addr.add] using World.cell?_spot hc
 subst hspot;have hb : b < W.heap.size := by
  have h0 : W.cell? ⟨b,off,none⟩ = some (.int .u8 (zs.getD 0 0)) := by simpa [Addr.add] using hc
  exact World.block_lt_of_cell? W _ h0
 refine ⟨b,off,rfl,hb,fun i y hy => ?_⟩;rw [List.getElem?_map] at hy;cases hzi : (zs.take len)[i]? with
 | none => rw [hzi] at hy; cases hy
 | some z =>
  rw [hzi] at hy;simp only [Option.map_some,Option.some.injEq] at hy;rw [List.getElem?_take] at hzi;split at hzi
  ·have hi : i < zs.length := (List.getElem?_eq_some_iff.mp hzi).1
   have hci := hcell i hi;have hg : zs.getD i 0 = z := by rw [List.getD_eq_getElem?_getD,hzi]; rfl
   rw [hg] at hci;obtain ⟨hw1,hw2⟩ := bounds_u8 (hwz z (List.mem_of_getElem? hzi));have hyz : ((y.toNat : Nat) : Int) = z := by rw [← hy,UInt8.toNat_ofNat_of_lt' (show z.toNat < 256 by omega)]; omega
   rw [hyz];by_cases h0 : i = 0
   ·subst h0; simpa [Addr.add] using hci
   ·simpa [Addr.add,h0] using hci
  ·cases hzi
theorem qrb {H : Type} {enc : TypeId × Value → H} {W : World} {a : Option Addr} {len cap : Nat} {d : DataW H} {p : List MemPlace}
  (h : DataW.Trod enc Tryz.prog W 0 (fun _ => true) true 22 (.slice a len cap) d p)
  (hs : ∀ elems spare,d = .slice elems spare → elems.length + spare.length ≤ 140737488351232) : ∃ l,Ob.Rd W a len cap l := by
 obtain ⟨fuel,hf⟩ := h;rcases open_ints Tryz.underlying22 Tryz.underlying5 qph hf with ⟨hcs,_⟩ | ⟨x,l,c,zs,hcs,_,hl,hm,hz,hx,hcell,hwz⟩
 ·simp [Value.cells] at hcs
  obtain ⟨rfl,rfl,rfl⟩ := hcs;exact ⟨[],rfl,Nat.le_refl _,by omega,fun _ => ⟨rfl,rfl⟩,fun h => by omega⟩
 ·simp [Value.cells] at hcs
  obtain ⟨rfl,rfl,rfl⟩ := hcs;simp only [if_true] at hz;have hd : d = .slice (lits .u8 (zs.take len)) (lits .u8 (zs.drop len)) := congrArg Prod.fst hx;have := hs _ _ hd;simp only [lits,List.length_map,List.length_take,List.length_drop] at this;exact ⟨_,qra hl hz (by omega) hcell hwz⟩
theorem qrc : ownKnob Tryz.prog.godebug = none := by kernel_rfl
theorem qkk : laidOutB Tryz.prog = true := by kernel_rfl
theorem qfs (os : Os) (started : os.Started) (H : Type) (enc : TypeId × Value → H) :
  ReturnsInHanded {} Tryz.checked os 3 .any (Rows.imageDecodesSpec.pre6 enc Tryz.prog Tryz.f3 Rows.imageDecodesRow.domain false) (Rows.imageDecodesSpec.post enc Tryz.prog Tryz.f3 false true false false) := by
 refine returnsInHanded_of_change_sized (C := Tryz.checked) qrc started (by kernel_rfl) Tryz.func3
  (ChangeSpec.witness6 (enc := enc) (C := Tryz.checked) false ⟨#[],#[qZ], []⟩ 8 (by kernel_rfl) (by kernel_rfl) (by kernel_rfl) (by kernel_rfl)) ?_
 intro W base args ds gs before hval0 hW hcnd hsz0 _;have hval : ∀ (j : Nat) t v,Tryz.f3.params[j]? = some t → args[j]? = some v → Value.okWide Tryz.prog W .any base t v := hval0
 have hsz : (DataW.weightsEach Tryz.prog (Tryz.f3.params.toList ++ Rows.imageDecodesSpec.plain.varTypes Tryz.prog) (ds ++ gs)).all (· ≤ reachBytes) = true := hsz0;have hW' := hW;obtain ⟨p,q,hA0,hV,rfl,hfz,hnd⟩ := hW;have hA : DataW.TrodAll enc Tryz.prog W 0 (fun _ => true) true Tryz.f3.params.toList args.toList ds p := hA0;rw [Tryz.params3] at hA hval hsz;obtain ⟨v0,vs0,d0,ds0,p0,q0,hargs,rfl,rfl,h0,r0⟩ := trodAll_cons hA;obtain ⟨rfl,rfl,rfl⟩ := trodAll_nil r0;obtain rfl : args = #[v0] := by cases args; simp_all
 obtain ⟨rfl,rfl⟩ := trodVars_none hV;have k0 := h0;have lt0 : ∀ x ∈ p0,x.block < W.heap.size := by obtain ⟨m,hm⟩ := k0; exact DataW.trod_lt m _ _ _ hm
 obtain ⟨aa0,nn0,cc0,rfl⟩ := okWide_slice Tryz.underlying22 (hval 0 22 v0 rfl rfl);obtain ⟨l0,hl0⟩ : ∃ l,Ob.Rd W aa0 nn0 cc0 l := qrb h0 (fun elems spare e => by
  subst e;have := sized_slice hsz (j := 0) (t := 22) (e := 5) rfl rfl Tryz.underlying22;rw [show Tryz.prog.bytesOf 5 = 1 by kernel_rfl,Nat.mul_one] at this;exact this)
 clear hA0 hval0;refine (qgs W aa0 nn0 cc0 l0 hl0).mono fun e W' ⟨he,bel⟩ => ?_
 subst he;exact ⟨_,rfl,_,_,_, [],_, [],hW',trodAll_mk1 (shut_bool Tryz.underlying4 _),(trodAll_cons_mk (Below.trod qkk (by kernel_rfl) (of_decide_eq_true (by kernel_rfl)) k0 bel lt0) trodAll_mk0),rfl,bel.frame _,fun h => by cases h⟩
theorem qgd : Rows.imageDecodesRow.holds Tryz.pinned (OpenSpec.ofChange Rows.imageDecodesSpec) :=
 OpenClaim.holds_of_wide 3 Tryz.f3 rfl rfl rfl rfl rfl rfl rfl ⟨rfl,rfl,rfl,rfl,rfl⟩ rfl rfl rfl rfl rfl (by kernel_rfl) Tryz.func3 (by kernel_rfl)
  (of_decide_eq_true (by kernel_rfl)) (by unfold Func.isWrapper; first | (rw [if_pos (by decide +kernel)]; kernel_rfl) | (rw [if_neg (by decide +kernel)]; exact ⟨rfl,rfl⟩))
  (fun os started H enc _ => qfs os started H enc)
theorem imageDecodes_holds : Rows.ImageDecodesSaid := qgd
end Go.Proofs.YtijgopkhdjaolabGreat
