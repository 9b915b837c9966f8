import Derived.Test.YtijgopkhdjaolaaGreatRows
import Derived.Test.YtijgopkhdjaolaaGreatXI7
import Derived.ProofKit
import Derived.OpenShut
import Derived.ShutString
import Derived.ChangeOld
import Derived.SizedLaws
namespace Go.Proofs.YtijgopkhdjaolaaGreat
open Go.ChangeAt Go.ChangeShapes Go.RowKit Go.WideShapes
set_option linter.unusedSimpArgs false
set_option linter.unusedVariables false
set_option maxHeartbeats 16000000
set_option maxRecDepth 100000
theorem qhw : Tryz.prog.cellsOf 5 = 1 := by kernel_rfl
theorem qj1 {W : World} {x : Addr} {len cap : Nat} {zs : List Int} (hl : len ≤ cap) (hz : zs.length = cap) (hs : cap ≤ 140737488351232)
  (hcell : ∀ i,i < zs.length → W.cell? (x.add i) = some (.int .u8 (zs.getD i 0))) (hwz : ∀ n ∈ zs,(Lit.int .u8 n).wf = true) :
  Ob.Rd W (some x) len cap ((zs.take len).map fun z => UInt8.ofNat z.toNat) := by
 refine ⟨by simp; omega,hl,by omega,(fun e => by cases e),fun hp => ?_⟩
 obtain ⟨b,off,spot⟩ := x
 have hc := hcell 0 (by omega)
 have hspot : spot = none := by simpa [Addr.add] using World.cell?_spot hc
 subst hspot
 have hb : b < W.heap.size := by
  have h0 : W.cell? ⟨b,off,none⟩ = some (.int .u8 (zs.getD 0 0)) := by simpa [Addr.add] using hc
  exact World.block_lt_of_cell? W _ h0
 refine ⟨b,off,rfl,hb,fun i y hy => ?_⟩
 rw [List.getElem?_map] at hy
 cases hzi : (zs.take len)[i]? with
 | none => rw [hzi] at hy; cases hy
 | some z =>
  rw [hzi] at hy
  simp only [Option.map_some,Option.some.injEq] at hy
  rw [List.getElem?_take] at hzi
  split at hzi
  ·have hi : i < zs.length := (List.getElem?_eq_some_iff.mp hzi).1
   have hci := hcell i hi
   have hg : zs.getD i 0 = z := by rw [List.getD_eq_getElem?_getD,hzi]; rfl
   rw [hg] at hci
   obtain ⟨hw1,hw2⟩ := bounds_u8 (hwz z (List.mem_of_getElem? hzi))
   have hyz : ((y.toNat : Nat) : Int) = z := by rw [← hy,UInt8.toNat_ofNat_of_lt' (show z.toNat < 256 by omega)]; omega
   rw [hyz]
   by_cases h0 : i = 0
   ·subst h0; simpa [Addr.add] using hci
   ·simpa [Addr.add,h0] using hci
  ·cases hzi
theorem qnu {H : Type} {enc : TypeId × Value → H} {W : World} {a : Option Addr} {len cap : Nat} {d : DataW H} {p : List MemPlace}
  (h : DataW.Trod enc Tryz.prog W 0 (fun _ => true) true 31 (.slice a len cap) d p)
  (hs : ∀ elems spare,d = .slice elems spare → elems.length + spare.length ≤ 140737488351232) : ∃ l,Ob.Rd W a len cap l := by
 obtain ⟨fuel,hf⟩ := h
 rcases open_ints Tryz.underlying31 Tryz.underlying5 qhw hf with ⟨hcs,_⟩ | ⟨x,l,c,zs,hcs,_,hl,hm,hz,hx,hcell,hwz⟩
 ·simp [Value.cells] at hcs
  obtain ⟨rfl,rfl,rfl⟩ := hcs
  exact ⟨[],rfl,Nat.le_refl _,by omega,fun _ => ⟨rfl,rfl⟩,fun h => by omega⟩
 ·simp [Value.cells] at hcs
  obtain ⟨rfl,rfl,rfl⟩ := hcs
  simp only [if_true] at hz
  have hd : d = .slice (lits .u8 (zs.take len)) (lits .u8 (zs.drop len)) := congrArg Prod.fst hx
  have := hs _ _ hd
  simp only [lits,List.length_map,List.length_take,List.length_drop] at this
  exact ⟨_,qj1 hl hz (by omega) hcell hwz⟩
end Go.Proofs.YtijgopkhdjaolaaGreat
