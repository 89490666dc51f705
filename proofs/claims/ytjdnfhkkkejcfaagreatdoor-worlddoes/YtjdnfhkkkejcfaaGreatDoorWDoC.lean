import Derived.Test.YtjdnfhkkkejcfaaGreatDoorHx
import Derived.Test.YtjdnfhkkkejcfaaGreatDoorCards
import Derived.Test.YtjdnfhkkkejcfaaGreatDoorTie
import Derived.SizedLaws
import Derived.Deep.DeepHandedRow
import Derived.LaidMore
import Derived.Deep.DeepWitnessRowRef
import Derived.Deep.DeepLaidRun
import Derived.LaidSub
import Derived.LaidLaws
set_option linter.all false
set_option maxRecDepth 100000
namespace Go.Proofs.YtjdnfhkkkejcfaaGreatDoor
open Go.ChangeShapes Go.WideShapes Go.ChangeAt Go.Proofs.Tryz
set_option maxHeartbeats 8000000 in
theorem wdo_closed:joinedFacts Tryz.pinned.checked.prog 3 Tryz.f3 (OpenSpec.ofChange Rows.worldDoesSpec).bare Rows.worldDoesRow=true:=by
 unfold joinedFacts;simp only[KU];repeat' (refine And.intro ?_ ?_)
 all_goals (as_aux_lemma=>kernel_rfl)
end Go.Proofs.YtjdnfhkkkejcfaaGreatDoor
