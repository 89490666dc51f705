/- KeeperTight, the given card: for all lists of records and calls, in whatever memory in which the listed library variables hold what the program's text lays, the law returns true, and all arguments read as they did. No other condition. -/
import Derived.Test.YtbdlojnigflanacGreatDoorKTiW
import Derived.Test.YtbdlojnigflanacGreatDoorKTiC
import Derived.SizedLaws
import Derived.Deep.DeepHandedRow
import Derived.LaidMore
import Derived.Deep.DeepWitnessRowRef
import Derived.Deep.DeepLaidRun
import Derived.LaidSub
import Derived.LaidLaws
set_option linter.all false
set_option maxRecDepth 100000
namespace Go.Proofs.YtbdlojnigflanacGreatDoor
open Go.ChangeShapes Go.WideShapes Go.ChangeAt Go.RowKit Go.Deep

theorem keeperTight_said : Rows.KeeperTightSaid :=
  OpenClaim.holds_of_cond 11 Tryz.f11 rfl rfl rfl rfl rfl rfl rfl ⟨rfl, rfl, rfl, rfl, rfl⟩ rfl rfl rfl rfl rfl (by as_aux_lemma => kernel_rfl) Tryz.func11 kti_closed
    (of_decide_eq_true (by kernel_rfl)) (by unfold Func.isWrapper; first | (rw [if_pos (by decide +kernel)]; kernel_rfl) | (rw [if_neg (by decide +kernel)]; exact ⟨rfl, rfl⟩))
    (fun os started H enc _ F => by rw [OpenClaim.pre_eq_preRow]; exact kti_lifted os started H enc F)

theorem kti_plain (f : FuncId) (fn : Func) (hf : Tryz.pinned.checked.prog.funcNamed Rows.keeperTightRow.func = some f) (hfn : Tryz.pinned.checked.prog.funcs[f]? = some fn) :
    true = Tryz.pinned.checked.prog.looks [] ∧ ∀ (j : Nat) t, fn.params[j]? = some t → Tryz.pinned.checked.prog.wantsStandIn t = false := by
  obtain rfl : f = 11 := Option.some.inj ((show Tryz.prog.funcNamed Rows.keeperTightRow.func = some 11 by kernel_rfl).symm.trans hf) |>.symm
  obtain rfl : fn = Tryz.f11 := (Option.some.inj (Tryz.func11.symm.trans hfn)).symm
  refine ⟨by kernel_rfl, fun j t ht => ?_⟩
  rw [Tryz.params11] at ht
  have := Array.mem_of_getElem? ht
  simp at this
  rcases this with rfl | rfl <;> first | exact (show Tryz.prog.wantsStandIn 53 = false by kernel_rfl) | exact (show Tryz.prog.wantsStandIn 26 = false by kernel_rfl)

/-- The card. -/
theorem keeperTight_holds : Rows.KeeperTightCardSaid :=
  Claim7.holds_tied_plain_at .later [] _ _ _ _ keeperTight_said (fun _ h => by cases h) (by kernel_rfl) (fun _ h => by cases h) keeperTight_row_tie rfl ⟨rfl, rfl⟩ (by kernel_rfl) rfl kti_plain (by kernel_rfl)
#print axioms keeperTight_holds
end Go.Proofs.YtbdlojnigflanacGreatDoor
