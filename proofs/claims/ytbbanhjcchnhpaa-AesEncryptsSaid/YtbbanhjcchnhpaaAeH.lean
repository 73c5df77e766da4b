/- Package aes (cellaret): refused, forth, back. -/
import Derived.Test.YtbbanhjcchnhpaaAeF
namespace Go.Proofs.Ytbbanhjcchnhpaa
open Go.RowKit Go.Deep
set_option linter.unusedVariables false
set_option linter.unusedSimpArgs false
theorem refused_nil (s : ByteArray) (w : World) :
    Calls Try.prog 53 #[.pointer none, .string s] w fun e w' => e = .returned (.int .i64 1) ∧ w = w' := by
  go_enter Try.func53, Try.ntmps53
  go_wp2
  go_ret
  exact ⟨rfl, rfl⟩
theorem refused_len (g : Nat) (s : ByteArray) (w : World) (hs : s.size ≠ 16) :
    Calls Try.prog 53 #[.pointer (some ⟨g, 0, none⟩), .string s] w fun e w' => e = .returned (.int .i64 6) ∧ w = w' := by
  have h : ((s.size : Int) == 16) = false := by rw [beq_eq_false_iff_ne]; omega
  go_enter Try.func53, Try.ntmps53
  go_wp2
  go_ret
  exact ⟨rfl, rfl⟩
theorem refused_ok (g : Nat) (s : ByteArray) (w : World) (hs : s.size = 16) :
    Calls Try.prog 53 #[.pointer (some ⟨g, 0, none⟩), .string s] w fun e w' => e = .returned (.int .i64 0) ∧ w = w' := by
  have h : ((s.size : Int) == 16) = true := by rw [beq_iff_eq]; omega
  go_enter Try.func53, Try.ntmps53
  go_wp2
  go_ret
  exact ⟨rfl, rfl⟩
theorem forth_any (g : Nat) (b : UInt8) (W : Nat → UInt32) (w : World) (hK : KeyAt w g W) :
    Calls Try.prog 56 #[.pointer (some ⟨g, 0, none⟩), .int .u8 (b.toNat : Int)] w fun e w' => e = .returned (.int .u8 ((bx b).toNat : Int)) ∧ w = w' := by
  have hb := b.toNat_lt
  have hbi : (b.toNat : Int) < 256 := by omega
  have hc := hK.box b
  go_enter Try.func56, Try.ntmps56
  go_wp2
  go_ret
  exact ⟨rfl, rfl⟩
theorem back_any (g : Nat) (b : UInt8) (W : Nat → UInt32) (w : World) (hK : KeyAt w g W) :
    Calls Try.prog 64 #[.pointer (some ⟨g, 0, none⟩), .int .u8 (b.toNat : Int)] w fun e w' => e = .returned (.int .u8 ((ux b).toNat : Int)) ∧ w = w' := by
  have hb := b.toNat_lt
  have hbi : (b.toNat : Int) < 256 := by omega
  have hc := hK.un b
  go_enter Try.func64, Try.ntmps64
  go_wp2
  go_ret
  exact ⟨rfl, rfl⟩
end Go.Proofs.Ytbbanhjcchnhpaa
