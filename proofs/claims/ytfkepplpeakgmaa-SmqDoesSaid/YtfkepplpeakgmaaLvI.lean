/- Package level: Touch, Front by rows. -/
import Derived.Test.YtfkepplpeakgmaaLvH
namespace Go.Proofs.Ytfkepplpeakgmaa
open Go.RowKit Go.Deep
set_option linter.unusedVariables false
set_option linter.unusedSimpArgs false
set_option maxRecDepth 100000 in
theorem touch_any (B g n : Nat) (R : Nat → List Nat) (i : Int) (w : World) (h : QR w g n R) (hB : B ≤ g) : Calls Try.prog 32 #[.pointer (some ⟨g, 0, none⟩), .int .i64 i] w fun e w' => e = .returned (.int .i64 (misA R n i)) ∧ QR w' g n (if misA R n i = 0 then movA R i.toNat 0 else R) ∧ Kq B [g] w w' := by
  have PM := Lib.hid (move_any B g n R i 0 w h hB)
  clear h
  generalize (if misA R n i = 0 then movA R i.toNat 0 else R) = R' at *
  generalize misA R n i = z at *
  go_enter Try.func32, Try.ntmps32
  go_wp2_with fail
  refine PM.out.mono ?_
  rintro e w' ⟨rfl, q1, kk⟩
  have HZ := Lib.hid (⟨q1, kk⟩ : _ ∧ _)
  clear q1 kk
  go_wp2_with fail
  go_ret
  exact ⟨rfl, HZ.out.1, HZ.out.2⟩
/-- The first thing of a level. -/
def froA (R : Nat → List Nat) (l : Int) : Value := if 0 ≤ l ∧ l < 4 ∧ R l.toNat ≠ [] then .tuple #[.int .i64 (hdO (R l.toNat) 0), .bool true] else .tuple #[.int .i64 0, .bool false]
theorem hdO_any {L : List Nat} (h : L ≠ []) (p q : Int) : hdO L p = hdO L q := by
  cases L with
  | nil => exact absurd rfl h
  | cons x xs => rfl
end Go.Proofs.Ytfkepplpeakgmaa
