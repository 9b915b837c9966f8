import Derived.Test.YtijgopkhdjaolaaGreatRows
import Derived.Test.YtijgopkhdjaolaaGreatHt4
import Derived.ProofKit
import Derived.OpenShut
import Derived.ShutString
import Derived.ChangeOld
import Derived.SizedLaws
import Derived.Test.YtijgopkhdjaolaaGreatThnl
import Derived.Test.YtijgopkhdjaolaaGreatHop
namespace Go.Proofs.YtijgopkhdjaolaaGreat
open Go.ChangeAt Go.ChangeShapes Go.Deep Go.RowKit Go.WideShapes
set_option linter.unusedSimpArgs false
set_option linter.unusedVariables false
set_option maxHeartbeats 16000000
set_option maxRecDepth 100000
theorem qny : ownKnob Tryz.prog.godebug = none := by kernel_rfl
theorem qer : laidOutB Tryz.prog = true := by kernel_rfl
theorem qgt (w : World) (tb : Tb) (v : Ts) (h : TbAt w tb v) (hw : WfT tb) (at0 : Int) (m : Nat) (hm : m < 256) (ma : Option Addr) (mn mc : Nat) (ml : List UInt8) (hmr : Ob.Rd w ma mn mc ml) (hmn : mn ≤ 1048576) : Calls Tryz.prog 5 #[.agg (tbC tb v),I at0, .int .u8 (m : Int), .slice ma mn mc] w fun e w' => e = .returned (.bool true) ∧ Below w.heap.size w w' := by
 cases hc : chkP tb with
 | false => exact qhx w tb v h hw hc at0 m _
 | true => exact qgs w tb v h hw hc at0 m hm ma mn mc ml hmr hmn
theorem qld {H : Type} (k : IntKind) (zs : List Int) : Rows.uptoBulkAll (lits (H := H) k zs) = zs.length := by
 induction zs with
 | nil => rfl
 | cons z zs ih =>
  show Rows.uptoBulkAll (DataW.lit (.int k z) :: lits k zs) = _
  simp only [Rows.uptoBulkAll,Rows.uptoBulk,ih,List.length_cons]; omega
theorem qhy {H : Type} {enc : TypeId × Value → H} {W : World} {fuel : Nat} {v : Value} {d : DataW H} {p : List MemPlace}
  (hf : DataW.trod enc Tryz.prog W 0 (fun _ => true) true fuel 31 [v] = some (d,p)) (hs : Rows.uptoBulk d ≤ 1048576) :
  ∃ l a n c,v = .slice a n c ∧ Ob.Rd W a n c l ∧ l.length ≤ Rows.uptoBulk d := by
 rcases open_ints Tryz.underlying31 Tryz.underlying5 qhw hf with ⟨hcs,_⟩ | ⟨x,len,c,zs,hcs,_,hl,hm,hz,hx,hcell,hwz⟩
 ·simp only [List.cons.injEq,and_true] at hcs
  exact ⟨[],none,0,0,hcs,⟨rfl,Nat.le_refl _,by omega,fun _ => ⟨rfl,rfl⟩,fun h => by omega⟩,by simp⟩
 ·simp only [List.cons.injEq,and_true] at hcs
  simp only [if_true] at hz
  have hd : d = .slice (lits .u8 (zs.take len)) (lits .u8 (zs.drop len)) := congrArg Prod.fst hx
  have hb : Rows.uptoBulk d = (zs.take len).length + (zs.drop len).length + 1 := by
   rw [hd]; simp only [Rows.uptoBulk,qld]
  have hb2 : (zs.take len).length + (zs.drop len).length = zs.length := by simp; omega
  refine ⟨_,some x,len,c,hcs,qj1 hl hz (by omega) hcell hwz, ?_⟩
  simp; simp at hb; omega
theorem qeg (H : Type) (enc : TypeId × Value → H) (W : World) (base : Nat) (args : Array Value) (ds gs : List (DataW H)) (before : List MemPlace)
  (hval : ∀ (j : Nat) t v,Tryz.f5.params[j]? = some t → args[j]? = some v → Value.okWide Tryz.prog W .any base t v)
  (hW : DataW.Whole enc Tryz.prog Tryz.f5.params.toList Rows.imageFlipSpec.vars false W args.toList ds gs before) (hk : Rows.uptoSmall H (ds ++ gs) = true) :
  Calls Tryz.prog 5 args W fun e W' => ∃ v,e = .returned v ∧ Rows.imageFlipSpec.post enc Tryz.prog Tryz.f5 false true false false W args v W' := by
 have hW' := hW
 obtain ⟨p,q,hA0,hV,rfl,hfz,hnd⟩ := hW
 have hA : DataW.TrodAll enc Tryz.prog W 0 (fun _ => true) true Tryz.f5.params.toList args.toList ds p := hA0
 rw [Tryz.params5] at hA hval
 obtain ⟨v0,vs0,d0,ds0,p0,q0,hargs,rfl,rfl,h0,r0⟩ := trodAll_cons hA
 obtain ⟨v1,vs1,d1,ds1,p1,q1,rfl,rfl,rfl,h1,r1⟩ := trodAll_cons r0
 obtain ⟨v2,vs2,d2,ds2,p2,q2,rfl,rfl,rfl,h2,r2⟩ := trodAll_cons r1
 obtain ⟨v3,vs3,d3,ds3,p3,q3,rfl,rfl,rfl,h3,r3⟩ := trodAll_cons r2
 obtain ⟨rfl,rfl,rfl⟩ := trodAll_nil r3
 obtain rfl : args = #[v0,v1,v2,v3] := by cases args; simp_all
 obtain ⟨rfl,rfl⟩ := trodVars_none hV
 have k0 := h0
 have lt0 : ∀ x ∈ p0,x.block < W.heap.size := by obtain ⟨m,hm⟩ := k0; exact DataW.trod_lt m _ _ _ hm
 obtain ⟨tb0,tv0,rfl,ht0,hw0⟩ := qdi (hval 0 30 v0 rfl rfl) h0
 obtain ⟨a1,rfl,rfl,rfl,w1⟩ := open_int Tryz.underlying3 (hval 1 3 v1 rfl rfl) h1
 obtain ⟨a2,rfl,rfl,rfl,w2⟩ := open_int Tryz.underlying5 (hval 2 5 v2 rfl rfl) h2
 have wb2 := w2
 obtain ⟨m2,rfl⟩ := Int.eq_ofNat_of_zero_le (bounds_u8 wb2).1
 have hb2 : m2 < 256 := by have := (bounds_u8 wb2).2; omega
 have k3 := h3
 have lt3 : ∀ x ∈ p3,x.block < W.heap.size := by obtain ⟨m,hm⟩ := k3; exact DataW.trod_lt m _ _ _ hm
 obtain ⟨aa3,nn3,cc3,rfl⟩ := okWide_slice Tryz.underlying31 (hval 3 31 v3 rfl rfl)
 have hb : Rows.uptoBulkAll _ ≤ 1048576 := of_decide_eq_true hk
 simp only [List.append_nil,Rows.uptoBulkAll,Nat.add_zero] at hb
 obtain ⟨l3,hl3,hn3⟩ : ∃ l,Ob.Rd W aa3 nn3 cc3 l ∧ nn3 ≤ 1048576 := by
  obtain ⟨fuel,hf⟩ := h3
  obtain ⟨l,a,n,c,e,hr,hlen⟩ := qhy hf (by omega)
  simp only [Value.slice.injEq] at e
  obtain ⟨rfl,rfl,rfl⟩ := e
  exact ⟨l,hr,by have := hr.hlen; omega⟩
 clear hA0
 refine (qgt W tb0 tv0 ht0 hw0 a1 m2 hb2 aa3 nn3 cc3 l3 hl3 hn3).mono fun e W' ⟨he,bel⟩ => ?_
 subst he
 exact ⟨_,rfl,_,_,_, [],_, [],hW',trodAll_mk1 (shut_bool Tryz.underlying4 _),(trodAll_cons_mk (Below.trod qer (by kernel_rfl) (of_decide_eq_true (by kernel_rfl)) k0 bel lt0) (trodAll_cons_mk (shut_int Tryz.underlying3 w1) (trodAll_cons_mk (shut_int Tryz.underlying5 w2) (trodAll_cons_mk (Below.trod qer (by kernel_rfl) (of_decide_eq_true (by kernel_rfl)) k3 bel lt3) trodAll_mk0)))),rfl,bel.frame _,fun h => by cases h⟩
theorem qf4 (os : Os) (started : os.Started) (H : Type) (enc : TypeId × Value → H) (F : Stop.Interp) :
  ReturnsInHanded {} Tryz.checked os 5 .any ((Rows.OpenSpec.upto Rows.imageFlipSpec).pre6 enc Tryz.prog Tryz.f5 Rows.imageFlipUptoRow.domain false) (((Rows.OpenSpec.upto Rows.imageFlipSpec).at F).post enc Tryz.prog Tryz.f5 false true false false) := by
 refine returnsInHanded_of_cond (C := Tryz.checked) (s := Rows.OpenSpec.upto Rows.imageFlipSpec) (k := Rows.uptoSmall) rfl qny started (by kernel_rfl) Tryz.func5
  (OpenSpec.witness (enc := enc) (C := Tryz.checked) (s := Rows.OpenSpec.upto Rows.imageFlipSpec) (k := Rows.uptoSmall) rfl false ⟨#[],#[.agg #[.int .i64 0, .int .i64 0, .slice none 0 0, .slice none 0 0, .slice none 0 0, .slice none 0 0, .slice none 0 0, .slice none 0 0, .slice none 0 0, .int .i64 0, .int .i64 0, .int .i64 0, .int .i64 0], .int .i64 0, .int .u8 0, .slice none 0 0], []⟩ 8 (by kernel_rfl) (by kernel_rfl) (by kernel_rfl)
   (x := ([.agg [.lit (.int .i64 0), .lit (.int .i64 0), .nil, .nil, .nil, .nil, .nil, .nil, .nil, .lit (.int .i64 0), .lit (.int .i64 0), .lit (.int .i64 0), .lit (.int .i64 0)], .lit (.int .i64 0), .lit (.int .u8 0), .nil], [], [])) (by kernel_rfl) rfl (by kernel_rfl)) ?_
 intro W base args ds gs before hval hW _ hk _
 exact qeg H enc W base args ds gs before hval hW hk
theorem imageFlip_holds : Rows.ImageFlipUptoSaid :=
 OpenClaim.holds_of_cond 5 Tryz.f5 rfl rfl rfl rfl rfl rfl rfl ⟨rfl,rfl,rfl,rfl,rfl⟩ rfl rfl rfl rfl rfl (by kernel_rfl) Tryz.func5 (by kernel_rfl)
  (of_decide_eq_true (by kernel_rfl)) (by unfold Func.isWrapper; first | (rw [if_pos (by decide +kernel)]; kernel_rfl) | (rw [if_neg (by decide +kernel)]; exact ⟨rfl,rfl⟩))
  (fun os started H enc _ F => qf4 os started H enc F)
end Go.Proofs.YtijgopkhdjaolaaGreat
