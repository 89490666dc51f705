/- WorldTight, the given card: for all scripts, sessions and calls, in whatever memory in which the listed library variables hold what the program's text lays, the law returns true, and all arguments read as they did. No other condition. -/
import Derived.Test.YtnpdhopjpjickaaGreatDoorWTiW
import Derived.Test.YtnpdhopjpjickaaGreatDoorWTiC
import Derived.SizedLaws
import Derived.Deep.DeepHandedRow
import Derived.LaidMore
import Derived.Deep.DeepWitnessRowRef
import Derived.Deep.DeepLaidRun
import Derived.LaidSub
import Derived.LaidLaws
set_option linter.all false
set_option maxRecDepth 100000
namespace Go.Proofs.YtnpdhopjpjickaaGreatDoor
open Go.ChangeShapes Go.WideShapes Go.ChangeAt Go.RowKit Go.Deep
theorem worldTight_said : Rows.WorldTightSaid :=
  OpenClaim.holds_of_cond 8 Tryz.f8 rfl rfl rfl rfl rfl rfl rfl ⟨rfl, rfl, rfl, rfl, rfl⟩ rfl rfl rfl rfl rfl (by as_aux_lemma => kernel_rfl) Tryz.func8 wti_closed
    (of_decide_eq_true (by kernel_rfl)) (by unfold Func.isWrapper; first | (rw [if_pos (by decide +kernel)]; kernel_rfl) | (rw [if_neg (by decide +kernel)]; exact ⟨rfl, rfl⟩))
    (fun c a H b _ F => by rw [OpenClaim.pre_eq_preRow]; exact wti_lifted c a H b F)
theorem wti_plain (f : FuncId) (a : Func) (d : Tryz.pinned.checked.prog.funcNamed Rows.worldTightRow.func = some f) (b : Tryz.pinned.checked.prog.funcs[f]? = some a) :
    true = Tryz.pinned.checked.prog.looks [] ∧ ∀ (j : Nat) t, a.params[j]? = some t → Tryz.pinned.checked.prog.wantsStandIn t = false := by
  obtain rfl : f = 8 := Option.some.inj ((show Tryz.prog.funcNamed Rows.worldTightRow.func = some 8 by kernel_rfl).symm.trans d) |>.symm
  obtain rfl : a = Tryz.f8 := (Option.some.inj (Tryz.func8.symm.trans b)).symm
  refine ⟨by kernel_rfl, fun j t c => ?_⟩
  rw [Tryz.params8] at c
  have := Array.mem_of_getElem? c
  simp at this
  rcases this with rfl | rfl | rfl <;> first | exact (show Tryz.prog.wantsStandIn 52 = false by kernel_rfl) | exact (show Tryz.prog.wantsStandIn 3 = false by kernel_rfl) | exact (show Tryz.prog.wantsStandIn 34 = false by kernel_rfl)
theorem worldTight_holds : Rows.WorldTightCardSaid :=
  Claim7.holds_tied_plain_at .later [] _ _ _ _ worldTight_said (fun _ h => by cases h) (by kernel_rfl) (fun _ h => by cases h) worldTight_row_tie rfl ⟨rfl, rfl⟩ (by kernel_rfl) rfl wti_plain (by kernel_rfl)
#print axioms worldTight_holds
end Go.Proofs.YtnpdhopjpjickaaGreatDoor
