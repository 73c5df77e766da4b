/- Laws of package dev (cellaret): DevNone. -/
import Derived.Test.YtefbfpolfbdfgaaDvF
import Derived.OpenShut
import Derived.ChangeArms
namespace Go.Proofs.Ytefbfpolfbdfgaa
open Go.RowKit Go.Deep Go.ChangeShapes Go.WideShapes
set_option linter.unusedVariables false
set_option linter.unusedSimpArgs false
theorem refusedText_nil (i : Int) (s : ByteArray) (w : World) : Calls Try.prog 27 #[.pointer none, .int .i64 i, .string s] w fun e w' => e = .returned (.int .i64 1) ∧ w = w' := by
  go_enter Try.func27, Try.ntmps27
  go_wp2_with fail
  refine (refused_nilD i _).mono ?_
  rintro e w' ⟨rfl, rfl⟩
  go_wp2_with fail
  go_ret
  exact ⟨rfl, rfl⟩
theorem write_nilD (i : Int) (s : ByteArray) (w : World) : Calls Try.prog 11 #[.pointer none, .int .i64 i, .string s] w fun e w' => e = .returned (.int .i64 1) ∧ w = w' := by
  go_enter Try.func11, Try.ntmps11
  go_wp2_with fail
  refine (refusedText_nil i s _).mono ?_
  rintro e w' ⟨rfl, rfl⟩
  go_wp2_with fail
  go_ret
  exact ⟨rfl, rfl⟩
theorem tamper_nilD (i : Int) (s : ByteArray) (w : World) : Calls Try.prog 14 #[.pointer none, .int .i64 i, .string s] w fun e w' => e = .returned (.int .i64 1) ∧ w = w' := by
  go_enter Try.func14, Try.ntmps14
  go_wp2_with fail
  refine (refusedText_nil i s _).mono ?_
  rintro e w' ⟨rfl, rfl⟩
  go_wp2_with fail
  go_ret
  exact ⟨rfl, rfl⟩
theorem crash_nilD (x y z : Value) (w : World) : Calls Try.prog 15 #[.pointer none, .agg #[x, y, z]] w fun e w' => e = .returned (.int .i64 1) ∧ Below w.heap.size w w' := by
  go_enter Try.func15, Try.ntmps15
  go_wp2_with fail
  go_ret
  exact ⟨rfl, (Below.refl _ _).alloc (Nat.le_refl _) _⟩
theorem blocks_nilD (w : World) : Calls Try.prog 16 #[.pointer none] w fun e w' => e = .returned (.int .i64 0) ∧ w = w' := by
  go_enter Try.func16, Try.ntmps16
  go_wp2_with fail
  go_ret
  exact ⟨rfl, rfl⟩
theorem image_nilD (w : World) : Calls Try.prog 8 #[.pointer none] w fun e w' => e = .returned (.string ⟨#[]⟩) ∧ w = w' := by
  go_enter Try.func8, Try.ntmps8
  go_wp2_with fail
  go_ret
  exact ⟨rfl, rfl⟩
theorem copy_nilD (w : World) : Calls Try.prog 17 #[.pointer none] w fun e w' => e = .returned (.pointer none) ∧ w = w' := by
  go_enter Try.func17, Try.ntmps17
  go_wp2_with fail
  go_ret
  exact ⟨rfl, rfl⟩
theorem few_any (k i : Int) (s : ByteArray) (raw : Bool) (x y z : Value) (w : World) : Calls Try.prog 10 #[.agg #[.int .i64 k, .int .i64 i, .string s, .bool raw, x, y, z]] w fun e w' => e = .returned (.bool (decide ((s.size : Int) < 300))) ∧ Below w.heap.size w w' := by
  go_enter Try.func10, Try.ntmps10
  go_wp2_with fail
  go_ret
  exact ⟨rfl, (Below.refl _ _).alloc (Nat.le_refl _) _⟩
set_option maxRecDepth 100000 in
set_option maxHeartbeats 1000000 in
theorem text_anyD (k i : Int) (s : ByteArray) (raw : Bool) (x y z : Value) (w : World) (hs : s.size < 300) : Calls Try.prog 12 #[.agg #[.int .i64 k, .int .i64 i, .string s, .bool raw, x, y, z]] w fun e w' => ∃ u, e = .returned (.string u) ∧ Below w.heap.size w w' := by
  have B0 : Below w.heap.size w (w.alloc (.cells #[.int .i64 k, .int .i64 i, .string s, .bool raw, x, y, z] 37)) := (Below.refl _ _).alloc (Nat.le_refl _) _
  cases raw with
  | true =>
    go_enter Try.func12, Try.ntmps12
    go_wp2_with fail
    go_ret
    exact ⟨_, rfl, B0⟩
  | false =>
    by_cases h : 64 < s.size
    · have h1 : (64 : Int) < s.size := by omega
      go_enter Try.func12, Try.ntmps12
      go_wp2_with fail
      go_ret
      exact ⟨_, rfl, B0⟩
    · have h1 : ¬ (64 : Int) < s.size := by omega
      have CF := Lib.hid (fun w => full_any s 64 w (by omega) (by omega))
      rw [show ((64 : Nat) : Int) = 64 from rfl] at CF
      go_enter Try.func12, Try.ntmps12
      go_wp2_with fail
      refine (CF.out _).mono ?_
      rintro e w1 ⟨rfl, b1⟩
      go_wp2_with fail
      go_ret
      exact ⟨_, rfl, B0.trans (b1.mono (by simp))⟩
end Go.Proofs.Ytefbfpolfbdfgaa
