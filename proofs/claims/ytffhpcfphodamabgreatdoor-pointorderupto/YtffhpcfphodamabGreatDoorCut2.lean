/- What the counterpart's CutsOf says: the walk. -/
import Derived.Test.YtffhpcfphodamabGreatDoorCut1b
import Derived.Test.YtffhpcfphodamabGreatDoorShelf
import Derived.Sort.OwnSortedInts
import Derived.Lib.AppendZerosOnto
import Derived.Lib.AppendZeros
set_option linter.all false
set_option maxRecDepth 100000
namespace Go.Proofs.YtffhpcfphodamabGreatDoor
open Go.RowKit Go.Maps Go.Sort

end Go.Proofs.YtffhpcfphodamabGreatDoor
