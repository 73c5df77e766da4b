/- Package plan: block. -/
import Derived.Test.YtnlgkhggokloeaaPlE
namespace Go.Proofs.Ytnlgkhggokloeaa
open Go.RowKit Go.Deep
set_option linter.unusedVariables false
set_option linter.unusedSimpArgs false
/-- A block of an image. -/
def blkP (s : ByteArray) (i : Nat) : ByteArray := s.extract (i * 64) ((i + 1) * 64)
set_option maxRecDepth 100000 in
set_option maxHeartbeats 2000000 in
theorem block_any (s : ByteArray) (i : Nat) (w : World) (hs : s.size = 18432) (hi : i < 288) : Calls Try.prog 29 #[.string s, .int .i64 (i : Int)] w fun e w' => e = .returned (.string (blkP s i)) ∧ w = w' := by
  have e1 : ((i : Int) * 64).toNat = i * 64 := by omega
  have e2 : (((i : Int) + 1) * 64).toNat = (i + 1) * 64 := by omega
  have HE : Hid (s.extract ((i : Int) * 64).toNat (((i : Int) + 1) * 64).toNat = blkP s i) := Lib.hid (by rw [e1, e2]; rfl)
  have h0 : (0 : Int) ≤ (i : Int) * 64 := by omega
  have h1 : (i : Int) * 64 ≤ ((i : Int) + 1) * 64 := by omega
  have h2 : ((i : Int) + 1) * 64 ≤ (s.size : Int) := by omega
  clear e1 e2
  go_enter Try.func29, Try.ntmps29
  go_wp2_with fail
  go_ret
  exact ⟨by rw [← HE.out]; rfl, rfl⟩
end Go.Proofs.Ytnlgkhggokloeaa
