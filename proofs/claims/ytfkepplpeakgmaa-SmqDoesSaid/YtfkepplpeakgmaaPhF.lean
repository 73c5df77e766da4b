/- Contracts (cellaret): squares, products, weights added, the beat; what must come at any rate. -/
import Derived.Test.YtfkepplpeakgmaaPhE
namespace Go.Proofs.Ytfkepplpeakgmaa
open Go.RowKit
set_option linter.unusedVariables false
attribute [local go_sem] unary_negf run_store_complex run_store_float
attribute [local go_sem ↓] Go.wp_at_zero Go.wp_at_succ

end Go.Proofs.Ytfkepplpeakgmaa
