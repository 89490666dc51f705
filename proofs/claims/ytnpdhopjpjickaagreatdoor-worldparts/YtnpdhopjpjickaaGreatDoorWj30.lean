import Derived.Test.YtnpdhopjpjickaaGreatDoorWj16
import Derived.Test.YtnpdhopjpjickaaGreatDoorWj01
set_option linter.all false
set_option maxRecDepth 100000
namespace Go.Proofs.YtnpdhopjpjickaaGreatDoor
open Go.RowKit Go.Maps
end Go.Proofs.YtnpdhopjpjickaaGreatDoor
