/- WorldStands, the given card: for all worlds, in whatever memory in which the listed library variables hold what the program's text lays, the law returns true, and all arguments read as they did. No other condition. -/
import Derived.Test.YtnpdhopjpjickaaGreatDoorWStW
import Derived.Test.YtnpdhopjpjickaaGreatDoorWStC
import Derived.SizedLaws
import Derived.Deep.DeepHandedRow
import Derived.LaidMore
import Derived.Deep.DeepWitnessRowRef
import Derived.Deep.DeepLaidRun
import Derived.LaidSub
import Derived.LaidLaws
set_option linter.all false
set_option maxRecDepth 100000
namespace Go.Proofs.YtnpdhopjpjickaaGreatDoor
open Go.ChangeShapes Go.WideShapes Go.ChangeAt Go.RowKit Go.Deep
theorem worldStands_said : Rows.WorldStandsSaid :=
  OpenClaim.holds_of_cond 4 Tryz.f4 rfl rfl rfl rfl rfl rfl rfl ⟨rfl, rfl, rfl, rfl, rfl⟩ rfl rfl rfl rfl rfl (by as_aux_lemma => kernel_rfl) Tryz.func4 wst_closed
    (of_decide_eq_true (by kernel_rfl)) (by unfold Func.isWrapper; first | (rw [if_pos (by decide +kernel)]; kernel_rfl) | (rw [if_neg (by decide +kernel)]; exact ⟨rfl, rfl⟩))
    (fun c a H b _ F => by rw [OpenClaim.pre_eq_preRow]; exact wst_lifted c a H b F)
theorem wst_plain (f : FuncId) (a : Func) (d : Tryz.pinned.checked.prog.funcNamed Rows.worldStandsRow.func = some f) (b : Tryz.pinned.checked.prog.funcs[f]? = some a) :
    true = Tryz.pinned.checked.prog.looks [] ∧ ∀ (j : Nat) t, a.params[j]? = some t → Tryz.pinned.checked.prog.wantsStandIn t = false := by
  obtain rfl : f = 4 := Option.some.inj ((show Tryz.prog.funcNamed Rows.worldStandsRow.func = some 4 by kernel_rfl).symm.trans d) |>.symm
  obtain rfl : a = Tryz.f4 := (Option.some.inj (Tryz.func4.symm.trans b)).symm
  refine ⟨by kernel_rfl, fun j t c => ?_⟩
  rw [Tryz.params4] at c
  have := Array.mem_of_getElem? c
  simp at this
  subst this
  exact (show Tryz.prog.wantsStandIn 27 = false by kernel_rfl)
theorem worldStands_holds : Rows.WorldStandsCardSaid :=
  Claim7.holds_tied_plain_at .later [] _ _ _ _ worldStands_said (fun _ h => by cases h) (by kernel_rfl) (fun _ h => by cases h) worldStands_row_tie rfl ⟨rfl, rfl⟩ (by kernel_rfl) rfl wst_plain (by kernel_rfl)
#print axioms worldStands_holds
end Go.Proofs.YtnpdhopjpjickaaGreatDoor
