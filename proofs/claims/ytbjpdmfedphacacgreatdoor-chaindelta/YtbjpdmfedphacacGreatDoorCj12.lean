/- What the counterpart's CutsOf says: the walk. -/
import Derived.Test.YtbjpdmfedphacacGreatDoorCj11
import Derived.Test.YtbjpdmfedphacacGreatDoorShelf
import Derived.Sort.OwnSortedInts
import Derived.Lib.AppendZerosOnto
import Derived.Lib.AppendZeros
set_option linter.all false
set_option maxRecDepth 100000
namespace Go.Proofs.YtbjpdmfedphacacGreatDoor
open Go.RowKit Go.Maps Go.Sort

end Go.Proofs.YtbjpdmfedphacacGreatDoor
