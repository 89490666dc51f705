/- KeeperMeans, the given card: for all lists of records and calls, in whatever memory in which the listed library variables hold what the program's text lays, the law returns true, and all arguments read as they did. No other condition. -/
import Derived.Test.YtbdlojnigflanacGreatDoorKMnW
import Derived.Test.YtbdlojnigflanacGreatDoorKMnC
import Derived.SizedLaws
import Derived.Deep.DeepHandedRow
import Derived.LaidMore
import Derived.Deep.DeepWitnessRowRef
import Derived.Deep.DeepLaidRun
import Derived.LaidSub
import Derived.LaidLaws
set_option linter.all false
set_option maxRecDepth 100000
namespace Go.Proofs.YtbdlojnigflanacGreatDoor
open Go.ChangeShapes Go.WideShapes Go.ChangeAt Go.RowKit Go.Deep

theorem keeperMeans_said : Rows.KeeperMeansSaid :=
  OpenClaim.holds_of_cond 10 Tryz.f10 rfl rfl rfl rfl rfl rfl rfl ⟨rfl, rfl, rfl, rfl, rfl⟩ rfl rfl rfl rfl rfl (by as_aux_lemma => kernel_rfl) Tryz.func10 kmn_closed
    (of_decide_eq_true (by kernel_rfl)) (by unfold Func.isWrapper; first | (rw [if_pos (by decide +kernel)]; kernel_rfl) | (rw [if_neg (by decide +kernel)]; exact ⟨rfl, rfl⟩))
    (fun os started H enc _ F => by rw [OpenClaim.pre_eq_preRow]; exact kmn_lifted os started H enc F)

theorem kmn_plain (f : FuncId) (fn : Func) (hf : Tryz.pinned.checked.prog.funcNamed Rows.keeperMeansRow.func = some f) (hfn : Tryz.pinned.checked.prog.funcs[f]? = some fn) :
    true = Tryz.pinned.checked.prog.looks [] ∧ ∀ (j : Nat) t, fn.params[j]? = some t → Tryz.pinned.checked.prog.wantsStandIn t = false := by
  obtain rfl : f = 10 := Option.some.inj ((show Tryz.prog.funcNamed Rows.keeperMeansRow.func = some 10 by kernel_rfl).symm.trans hf) |>.symm
  obtain rfl : fn = Tryz.f10 := (Option.some.inj (Tryz.func10.symm.trans hfn)).symm
  refine ⟨by kernel_rfl, fun j t ht => ?_⟩
  rw [Tryz.params10] at ht
  have := Array.mem_of_getElem? ht
  simp at this
  rcases this with rfl | rfl <;> first | exact (show Tryz.prog.wantsStandIn 53 = false by kernel_rfl) | exact (show Tryz.prog.wantsStandIn 26 = false by kernel_rfl)

/-- The card. -/
theorem keeperMeans_holds : Rows.KeeperMeansCardSaid :=
  Claim7.holds_tied_plain_at .later [] _ _ _ _ keeperMeans_said (fun _ h => by cases h) (by kernel_rfl) (fun _ h => by cases h) keeperMeans_row_tie rfl ⟨rfl, rfl⟩ (by kernel_rfl) rfl kmn_plain (by kernel_rfl)
#print axioms keeperMeans_holds
end Go.Proofs.YtbdlojnigflanacGreatDoor
