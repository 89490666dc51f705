/- WorldParts, the given card: for all worlds, scripts and places in them, in whatever memory in which the listed library variables hold what the program's text lays, the law returns true, and all arguments read as they did. No other condition. -/
import Derived.Test.YtnpdhopjpjickaaGreatDoorWPaW
import Derived.Test.YtnpdhopjpjickaaGreatDoorWPaC
import Derived.SizedLaws
import Derived.Deep.DeepHandedRow
import Derived.LaidMore
import Derived.Deep.DeepWitnessRowRef
import Derived.Deep.DeepLaidRun
import Derived.LaidSub
import Derived.LaidLaws
set_option linter.all false
set_option maxRecDepth 100000
namespace Go.Proofs.YtnpdhopjpjickaaGreatDoor
open Go.ChangeShapes Go.WideShapes Go.ChangeAt Go.RowKit Go.Deep
theorem worldParts_said : Rows.WorldPartsSaid :=
  OpenClaim.holds_of_cond 7 Tryz.f7 rfl rfl rfl rfl rfl rfl rfl ⟨rfl, rfl, rfl, rfl, rfl⟩ rfl rfl rfl rfl rfl (by as_aux_lemma => kernel_rfl) Tryz.func7 wpa_closed
    (of_decide_eq_true (by kernel_rfl)) (by unfold Func.isWrapper; first | (rw [if_pos (by decide +kernel)]; kernel_rfl) | (rw [if_neg (by decide +kernel)]; exact ⟨rfl, rfl⟩))
    (fun c a H b _ F => by rw [OpenClaim.pre_eq_preRow]; exact wpa_lifted c a H b F)
theorem wpa_plain (f : FuncId) (a : Func) (d : Tryz.pinned.checked.prog.funcNamed Rows.worldPartsRow.func = some f) (b : Tryz.pinned.checked.prog.funcs[f]? = some a) :
    true = Tryz.pinned.checked.prog.looks [] ∧ ∀ (j : Nat) t, a.params[j]? = some t → Tryz.pinned.checked.prog.wantsStandIn t = false := by
  obtain rfl : f = 7 := Option.some.inj ((show Tryz.prog.funcNamed Rows.worldPartsRow.func = some 7 by kernel_rfl).symm.trans d) |>.symm
  obtain rfl : a = Tryz.f7 := (Option.some.inj (Tryz.func7.symm.trans b)).symm
  refine ⟨by kernel_rfl, fun j t c => ?_⟩
  rw [Tryz.params7] at c
  have := Array.mem_of_getElem? c
  simp at this
  rcases this with rfl | rfl | rfl <;> first | exact (show Tryz.prog.wantsStandIn 27 = false by kernel_rfl) | exact (show Tryz.prog.wantsStandIn 52 = false by kernel_rfl) | exact (show Tryz.prog.wantsStandIn 3 = false by kernel_rfl)
theorem worldParts_holds : Rows.WorldPartsCardSaid :=
  Claim7.holds_tied_plain_at .later [] _ _ _ _ worldParts_said (fun _ h => by cases h) (by kernel_rfl) (fun _ h => by cases h) worldParts_row_tie rfl ⟨rfl, rfl⟩ (by kernel_rfl) rfl wpa_plain (by kernel_rfl)
#print axioms worldParts_holds
end Go.Proofs.YtnpdhopjpjickaaGreatDoor
