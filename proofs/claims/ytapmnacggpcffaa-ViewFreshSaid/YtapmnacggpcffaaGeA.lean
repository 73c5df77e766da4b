/- Contracts of package geom (cellaret): places; the laws GeomPlaces, GeomWhat. -/
import Derived.Test.YtapmnacggpcffaaProg
import Derived.Test.YtapmnacggpcffaaLib
import Derived.WalkLawsBesides
import Derived.Handy
import Derived.Lib.Hide
import Derived.RegionTactic
import Derived.Deep.QuietTactic
import Derived.BigQuiet
import Derived.OpenShut
namespace Go.Proofs.Ytapmnacggpcffaa
open Go.RowKit Go.Deep
set_option linter.unusedVariables false

theorem below_trans {w w1 w2 : World} (h1 : Below w.heap.size w w1) (h2 : Below w1.heap.size w1 w2) : Below w.heap.size w w2 := h1.trans (h2.mono h1.size)

def whatK (b : Int) : Int := if b < 1 then 0 else if b < 81 then 1 else if b < 161 then 2 else if b < 224 then 3 else 4
def whatI (b : Int) : Int := if b < 1 then 0 else if b < 81 then b - 1 else if b < 161 then b - 1 - 80 else if b < 224 then b - 161 else b - 224
theorem what_ok (b : Int) (w : World) (h : 0 ≤ b ∧ b < 288) :
    Calls Try.prog 22 #[.int .i64 b] w fun e w' => e = .returned (.tuple #[.int .i64 (whatK b), .int .i64 (whatI b), .int .i64 0]) ∧ w = w' := by
  obtain ⟨h0, h1⟩ := h
  have hor : b < 1 ∨ (1 ≤ b ∧ b < 81) ∨ (81 ≤ b ∧ b < 161) ∨ (161 ≤ b ∧ b < 224) ∨ 224 ≤ b := by omega
  rcases hor with h | ⟨h, h'⟩ | ⟨h, h'⟩ | ⟨h, h'⟩ | h
  · rw [show whatK b = 0 from if_pos h, show whatI b = 0 from if_pos h]
    go_enter Try.func22, Try.ntmps22
    go_wp2
    go_ret3
    exact ⟨rfl, rfl⟩
  · rw [show whatK b = 1 from by unfold whatK; rw [if_neg (by omega), if_pos (by omega)], show whatI b = b - 1 from by unfold whatI; rw [if_neg (by omega), if_pos (by omega)]]
    go_enter Try.func22, Try.ntmps22
    go_wp2
    go_ret3
    exact ⟨rfl, rfl⟩
  · rw [show whatK b = 2 from by unfold whatK; rw [if_neg (by omega), if_neg (by omega), if_pos (by omega)], show whatI b = b - 1 - 80 from by unfold whatI; rw [if_neg (by omega), if_neg (by omega), if_pos (by omega)]]
    go_enter Try.func22, Try.ntmps22
    go_wp2
    go_ret3
    exact ⟨rfl, rfl⟩
  · rw [show whatK b = 3 from by unfold whatK; rw [if_neg (by omega), if_neg (by omega), if_neg (by omega), if_pos (by omega)], show whatI b = b - 161 from by unfold whatI; rw [if_neg (by omega), if_neg (by omega), if_neg (by omega), if_pos (by omega)]]
    go_enter Try.func22, Try.ntmps22
    go_wp2
    go_ret3
    exact ⟨rfl, rfl⟩
  · rw [show whatK b = 4 from by unfold whatK; rw [if_neg (by omega), if_neg (by omega), if_neg (by omega), if_neg (by omega)], show whatI b = b - 224 from by unfold whatI; rw [if_neg (by omega), if_neg (by omega), if_neg (by omega), if_neg (by omega)]]
    go_enter Try.func22, Try.ntmps22
    go_wp2
    go_ret3
    exact ⟨rfl, rfl⟩
theorem what_no (b : Int) (w : World) (h : b < 0 ∨ (0 ≤ b ∧ 288 ≤ b)) :
    Calls Try.prog 22 #[.int .i64 b] w fun e w' => e = .returned (.tuple #[.int .i64 0, .int .i64 0, .int .i64 3]) ∧ w = w' := by
  rcases h with h | ⟨h, h'⟩
  all_goals
    go_enter Try.func22, Try.ntmps22
    go_wp2
    go_ret3
    exact ⟨rfl, rfl⟩
end Go.Proofs.Ytapmnacggpcffaa
