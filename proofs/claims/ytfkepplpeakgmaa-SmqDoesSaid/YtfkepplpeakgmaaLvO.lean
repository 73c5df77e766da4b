/- Package level: Copy. -/
import Derived.Test.YtfkepplpeakgmaaLvN
import Derived.Laws.Tables
import Derived.Laws.Rows
import Derived.Laws.CopyOwn
namespace Go.Proofs.Ytfkepplpeakgmaa
open Go.RowKit Go.Deep
set_option linter.unusedVariables false
set_option linter.unusedSimpArgs false
theorem q_info : (Try.prog.info? 71).map (·.size) = some 57 := by kernel_rfl
end Go.Proofs.Ytfkepplpeakgmaa
