/- The oracle: Len, Input of one that keeps texts. -/
import Derived.Test.YtaopmiocompibaaDoorOrE
namespace Go.Proofs.YtaopmiocompibaaDoor
open Go.RowKit Go.Deep Go.Maps
set_option linter.unusedVariables false
set_option linter.unusedSimpArgs false
end Go.Proofs.YtaopmiocompibaaDoor
