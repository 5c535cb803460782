/- The contracts of the program's isRun, isMapOf and CtlOk. -/
import Derived.Test.YtibkjnfbpgohbaaCtlM
import Derived.Test.YtibkjnfbpgohbaaILow
namespace Go.Proofs.Ytibkjnfbpgohbaa
open Go.RowKit

end Go.Proofs.Ytibkjnfbpgohbaa
