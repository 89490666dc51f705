import Derived.Test.YtffnfdfjojidfaaGreatDoorHx
import Derived.Test.YtffnfdfjojidfaaGreatDoorCards
import Derived.Test.YtffnfdfjojidfaaGreatDoorTie
import Derived.SizedLaws
import Derived.Deep.DeepHandedRow
import Derived.LaidMore
import Derived.Deep.DeepWitnessRowRef
import Derived.Deep.DeepLaidRun
import Derived.LaidSub
import Derived.LaidLaws
set_option linter.all false
set_option maxRecDepth 100000
namespace Go.Proofs.YtffnfdfjojidfaaGreatDoor
open Go.ChangeShapes Go.WideShapes Go.ChangeAt Go.Proofs.Tryz
set_option maxHeartbeats 8000000 in
theorem wru_closed:joinedFacts Tryz.pinned.checked.prog 4 Tryz.f4 (OpenSpec.ofChange Rows.worldRunsSpec).bare Rows.worldRunsRow=true:=by
 unfold joinedFacts;simp only[KU];repeat' (refine And.intro ?_ ?_)
 all_goals (as_aux_lemma=>kernel_rfl)
end Go.Proofs.YtffnfdfjojidfaaGreatDoor
