/- The reference's constants (layer 3): primes, digits, times. -/
import Derived.Test.YtndhegdhkoileaaDoorShE
namespace Go.Proofs.YtndhegdhkoileaaDoor
open Go.RowKit Go.Deep
set_option linter.unusedVariables false
set_option linter.unusedSimpArgs false
def primeB (n : Nat) : Bool := decide (2 ≤ n) && (List.range n).all fun d => decide (d < 2) || decide (n < d * d) || decide (n % d ≠ 0)
theorem prime_no (n d : Nat) (h1 : 2 ≤ d) (h2 : d * d ≤ n) (h3 : n % d = 0) : primeB n = false := by
  have hd : d < n := by
    have : d * 2 ≤ d * d := Nat.mul_le_mul_left d h1
    omega
  unfold primeB
  have : ((List.range n).all fun d => decide (d < 2) || decide (n < d * d) || decide (n % d ≠ 0)) = false := by
    rw [List.all_eq_false]
    exact ⟨d, List.mem_range.2 hd, by simp [h3]; omega⟩
  rw [this, Bool.and_false]
theorem prime_yes (n d : Nat) (h2 : n < d * d) (h : ∀ d', 2 ≤ d' → d' < d → n % d' ≠ 0) : primeB n = decide (2 ≤ n) := by
  unfold primeB
  have : ((List.range n).all fun d => decide (d < 2) || decide (n < d * d) || decide (n % d ≠ 0)) = true := by
    rw [List.all_eq_true]
    intro x _
    by_cases q1 : x < 2
    · simp [q1]
    · by_cases q2 : x < d
      · have := h x (by omega) q2
        simp [this]
      · have : d * d ≤ x * x := Nat.mul_le_mul (by omega) (by omega)
        have : n < x * x := by omega
        simp [this]
  rw [this, Bool.and_true]
theorem sq_nn (d : Nat) : 0 ≤ (d : Int) * (d : Int) := by
  have : ((d * d : Nat) : Int) = (d : Int) * (d : Int) := by push_cast; rfl
  omega
set_option maxRecDepth 100000 in
set_option maxHeartbeats 1000000 in
theorem prime_any (n : Nat) (hn : n ≤ 1000) (w : World) : Calls Tryd.prog 30 #[.int .i64 (n : Int)] w fun e w' => e = .returned (.bool (primeB n)) ∧ w = w' := by
  have hn2 : (n : Int) ≤ 1000 := by omega
  have HY := Lib.hid (prime_yes n)
  have HN := Lib.hid (prime_no n)
  generalize hp : primeB n = pb at *
  have HP := Lib.hid hp
  clear hp
  go_enter Tryd.func30, Tryd.ntmps30
  go_wp2_with fail
  go_loopw [3] (fun x wi => ∃ d : Nat, x = .int .i64 d ∧ 2 ≤ d ∧ d ≤ 33 ∧ Hid (∀ d', 2 ≤ d' → d' < d → n % d' ≠ 0) ∧ w = wi) (fun x _ => 40 - (intOf x).toNat)
  case atStart => exact ⟨2, rfl, by omega, by omega, Lib.hid (fun d' h1 h2 => by omega), rfl⟩
  case round =>
    obtain ⟨d, rfl, hd, hd2, HD, rfl⟩ := hrel
    have hdd : d * d ≤ 33 * 33 := Nat.mul_le_mul hd2 hd2
    by_cases hlt : d * d ≤ n
    · have hli : (d : Int) * (d : Int) ≤ (n : Int) := by exact_mod_cast hlt
      have hd3 : d ≤ 31 := by
        rcases Nat.lt_or_ge d 32 with h | h
        · omega
        · have : 32 * 32 ≤ d * d := Nat.mul_le_mul h h
          omega
      have q1 : (d : Int) * (d : Int) ≤ 1000 := by omega
      have q2 : 0 ≤ (d : Int) * (d : Int) := sq_nn d
      have q3 : ¬ ((d : Int) = 0) := by omega
      have q4 : (n : Int) % (d : Int) = ((n % d : Nat) : Int) := by push_cast; rfl
      have HQ := Lib.hid q4
      clear q4
      by_cases hz : n % d = 0
      · have q5 : (n : Int) % (d : Int) = 0 := by rw [HQ.out, hz]; rfl
        have HF := HN.out d hd hlt hz
        go_wp2_with fail
        go_ret
        exact ⟨by rw [HF]; rfl, rfl⟩
      · have q5 : ¬ ((n : Int) % (d : Int) = 0) := by rw [HQ.out]; omega
        go_wp2_with fail
        go_roundw
        case rel => exact ⟨d + 1, by go_num, by omega, by omega, Lib.hid (fun d' h1 h2 => by
            by_cases e : d' = d
            · rw [e]; exact hz
            · exact HD.out d' h1 (by omega)), trivial⟩
        case measure => simp [intOf]; omega
    · have hli : ¬ ((d : Int) * (d : Int) ≤ (n : Int)) := by
        intro h
        exact hlt (by exact_mod_cast h)
      have q1 : (d : Int) * (d : Int) ≤ 1089 := by exact_mod_cast hdd
      have q2 : 0 ≤ (d : Int) * (d : Int) := sq_nn d
      have HF := HY.out d (by omega) HD.out
      go_wp2_with fail
      go_ret
      refine ⟨?_, rfl⟩
      show Ending.returned (Value.bool (decide ((2 : Int) ≤ (n : Int)))) = _
      rw [show decide ((2 : Int) ≤ (n : Int)) = decide (2 ≤ n) from decide_eq_decide.2 (by omega)]
end Go.Proofs.YtndhegdhkoileaaDoor
