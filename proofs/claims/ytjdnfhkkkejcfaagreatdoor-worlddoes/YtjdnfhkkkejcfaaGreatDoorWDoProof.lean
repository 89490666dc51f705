/- WorldDoes, the given card: for all arguments, in whatever memory in which the listed library variables hold what the program's text lays, the law returns true, and all arguments read as they did. No other condition. -/
import Derived.Test.YtjdnfhkkkejcfaaGreatDoorHx
import Derived.Test.YtjdnfhkkkejcfaaGreatDoorWDoW
import Derived.Test.YtjdnfhkkkejcfaaGreatDoorWDoC
import Derived.SizedLaws
import Derived.Deep.DeepHandedRow
import Derived.LaidMore
import Derived.Deep.DeepWitnessRowRef
import Derived.Deep.DeepLaidRun
import Derived.LaidSub
import Derived.LaidLaws
set_option linter.all false
set_option maxRecDepth 100000
namespace Go.Proofs.YtjdnfhkkkejcfaaGreatDoor
open Go.ChangeShapes Go.WideShapes Go.ChangeAt Go.RowKit Go.Deep Go.Proofs.Tryz
theorem worldDoes_said:Rows.WorldDoesSaid:=
 OpenClaim.holds_of_cond 3 Tryz.f3 rfl rfl rfl rfl rfl rfl rfl ⟨rfl,rfl,rfl,rfl,rfl⟩ rfl rfl rfl rfl rfl (by as_aux_lemma=>kernel_rfl) func3 wdo_closed
  (of_decide_eq_true (by kernel_rfl)) (by unfold Func.isWrapper;first|(rw[Io (by decide +kernel)];kernel_rfl)|(rw[iO (by decide +kernel)];exact⟨rfl,rfl⟩))
  (λc a H b _ F=>by rw[OpenClaim.pre_eq_preRow];exact wdo_lifted c a H b F)
theorem wdo_plain(f:FuncId)(a:Func)(d:Tryz.pinned.checked.prog.funcNamed Rows.worldDoesRow.func=some f)(b:Tryz.pinned.checked.prog.funcs[f]?=some a):
  true=Tryz.pinned.checked.prog.looks []/\∀ (j:Nat) t,a.params[j]?=some t->Tryz.pinned.checked.prog.wantsStandIn t=false:=by
 obtain rfl:f=3:=KG ((show prog.funcNamed Rows.worldDoesRow.func=some 3 by kernel_rfl).symm.trans d) |>.symm
 obtain rfl:a=Tryz.f3:=(KG (func3.symm.trans b)).symm;refine⟨by kernel_rfl,λj t c=>?_⟩;rw[Tryz.params3] at c;have:=Array.mem_of_getElem? c;simp at this
 rcases this with rfl|rfl|rfl|rfl|rfl<;>first|exact(show prog.wantsStandIn 27=false by kernel_rfl)|exact(show prog.wantsStandIn 32=false by kernel_rfl)|exact(show prog.wantsStandIn 3=false by kernel_rfl)|exact(show prog.wantsStandIn 34=false by kernel_rfl)
theorem worldDoes_holds:Rows.WorldDoesCardSaid:=
 Claim7.holds_tied_plain_at .later [] _ _ _ _ worldDoes_said (λ_ h=>by cases h) (by kernel_rfl) (λ_ h=>by cases h) worldDoes_row_tie rfl ⟨rfl,rfl⟩ (by kernel_rfl) rfl wdo_plain (by kernel_rfl)
#print axioms worldDoes_holds
end Go.Proofs.YtjdnfhkkkejcfaaGreatDoor
