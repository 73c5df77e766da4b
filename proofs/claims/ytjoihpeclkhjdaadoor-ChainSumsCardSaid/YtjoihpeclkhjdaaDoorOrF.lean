/- The oracle: Len, Input of one that keeps texts. -/
import Derived.Test.YtjoihpeclkhjdaaDoorOrE
namespace Go.Proofs.YtjoihpeclkhjdaaDoor
open Go.RowKit Go.Deep Go.Maps
set_option linter.unusedVariables false
set_option linter.unusedSimpArgs false
set_option maxRecDepth 100000 in
set_option maxHeartbeats 1000000 in
theorem orLen_any (base g : Nat) (l : List (List UInt8)) (tv sv : Value) (b : Nat) (D : DataW Unit) (w : World) (hP : OrP base w g l tv sv b D) : Calls Tryd.prog 17 #[.pointer (some ⟨g, 0, none⟩)] w fun e w' => e = .returned (.int .i64 (l.length : Int)) ∧ w = w' := by
  have c0 := cell_of_row w g 0 _ _ _ hP.hg
  obtain ⟨ta, tc, rfl, _, _⟩ := own_sl hP.ht
  clear hP
  generalize l.length = n at *
  go_enter Tryd.func17, Tryd.ntmps17
  go_wp2
  go_ret
  exact ⟨rfl, rfl⟩
end Go.Proofs.YtjoihpeclkhjdaaDoor
