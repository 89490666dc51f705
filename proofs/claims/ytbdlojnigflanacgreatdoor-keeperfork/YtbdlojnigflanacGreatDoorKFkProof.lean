/- KeeperFork, the given card: for all lists of records, numbers of sessions and calls, in whatever memory in which the listed library variables hold what the program's text lays, the law returns true, and all arguments read as they did. No other condition. -/
import Derived.Test.YtbdlojnigflanacGreatDoorKFkW
import Derived.Test.YtbdlojnigflanacGreatDoorKFkC
import Derived.SizedLaws
import Derived.Deep.DeepHandedRow
import Derived.LaidMore
import Derived.Deep.DeepWitnessRowRef
import Derived.Deep.DeepLaidRun
import Derived.LaidSub
import Derived.LaidLaws
set_option linter.all false
set_option maxRecDepth 100000
namespace Go.Proofs.YtbdlojnigflanacGreatDoor
open Go.ChangeShapes Go.WideShapes Go.ChangeAt Go.RowKit Go.Deep

theorem keeperFork_said : Rows.KeeperForkSaid :=
  OpenClaim.holds_of_cond 12 Tryz.f12 rfl rfl rfl rfl rfl rfl rfl ⟨rfl, rfl, rfl, rfl, rfl⟩ rfl rfl rfl rfl rfl (by as_aux_lemma => kernel_rfl) Tryz.func12 kfk_closed
    (of_decide_eq_true (by kernel_rfl)) (by unfold Func.isWrapper; first | (rw [if_pos (by decide +kernel)]; kernel_rfl) | (rw [if_neg (by decide +kernel)]; exact ⟨rfl, rfl⟩))
    (fun os started H enc _ F => by rw [OpenClaim.pre_eq_preRow]; exact kfk_lifted os started H enc F)

theorem kfk_plain (f : FuncId) (fn : Func) (hf : Tryz.pinned.checked.prog.funcNamed Rows.keeperForkRow.func = some f) (hfn : Tryz.pinned.checked.prog.funcs[f]? = some fn) :
    true = Tryz.pinned.checked.prog.looks [] ∧ ∀ (j : Nat) t, fn.params[j]? = some t → Tryz.pinned.checked.prog.wantsStandIn t = false := by
  obtain rfl : f = 12 := Option.some.inj ((show Tryz.prog.funcNamed Rows.keeperForkRow.func = some 12 by kernel_rfl).symm.trans hf) |>.symm
  obtain rfl : fn = Tryz.f12 := (Option.some.inj (Tryz.func12.symm.trans hfn)).symm
  refine ⟨by kernel_rfl, fun j t ht => ?_⟩
  rw [Tryz.params12] at ht
  have := Array.mem_of_getElem? ht
  simp at this
  rcases this with rfl | rfl | rfl | rfl <;> first | exact (show Tryz.prog.wantsStandIn 53 = false by kernel_rfl) | exact (show Tryz.prog.wantsStandIn 3 = false by kernel_rfl) | exact (show Tryz.prog.wantsStandIn 26 = false by kernel_rfl)

/-- The card. -/
theorem keeperFork_holds : Rows.KeeperForkCardSaid :=
  Claim7.holds_tied_plain_at .later [] _ _ _ _ keeperFork_said (fun _ h => by cases h) (by kernel_rfl) (fun _ h => by cases h) keeperFork_row_tie rfl ⟨rfl, rfl⟩ (by kernel_rfl) rfl kfk_plain (by kernel_rfl)
#print axioms keeperFork_holds
end Go.Proofs.YtbdlojnigflanacGreatDoor
