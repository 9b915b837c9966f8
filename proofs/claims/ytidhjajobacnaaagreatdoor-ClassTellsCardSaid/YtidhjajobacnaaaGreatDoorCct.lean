import Derived.Test.YtidhjajobacnaaaGreatDoorRct
namespace Go.Proofs.YtidhjajobacnaaaGreatDoor
set_option linter.unusedVariables false

theorem classTells_holds : Rows.ClassTellsCardSaid :=
  Claim7.holds_tied_plain_at .later [] [.handle] true _ true
    classTells_over (fun _ h => by cases h) (by kernel_rfl) (fun _ h => by cases h) classTells_row_tie rfl ⟨rfl, rfl⟩ (by kernel_rfl) rfl
    (fun f fn hf hfn => by
      obtain rfl : f = 6 := Option.some.inj ((show Tryz.prog.funcNamed "tappet/tappetlaw07.ClassTells" = some 6 by kernel_rfl).symm.trans hf) |>.symm
      obtain rfl : fn = Tryz.f6 := (Option.some.inj (Tryz.func6.symm.trans hfn)).symm
      exact ⟨by kernel_rfl, fun j t ht => by
        rw [Tryz.params6] at ht
        have hm : t ∈ [33, 3] := by simpa using Array.mem_of_getElem? ht
        have hall : ([33, 3].all fun u => !Tryz.prog.wantsStandIn u) = true := by kernel_rfl
        exact (show Tryz.prog.wantsStandIn t = false by simpa using List.all_eq_true.1 hall t hm)⟩)
    (by kernel_rfl)
#print axioms classTells_holds
end Go.Proofs.YtidhjajobacnaaaGreatDoor
