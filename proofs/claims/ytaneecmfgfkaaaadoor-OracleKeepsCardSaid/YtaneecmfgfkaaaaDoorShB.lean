/- Contracts (cellaret): sha.turn. -/
import Derived.Test.YtaneecmfgfkaaaaDoorProg
import Derived.Test.YtaneecmfgfkaaaaDoorShA
import Derived.WalkLawsBesides
import Derived.Handy
import Derived.Lib.Hide
import Derived.Outline
namespace Go.Proofs.YtaneecmfgfkaaaaDoor
open Go.RowKit Go.Deep
set_option linter.unusedVariables false
def Tn (n : Nat) : Prop := n = 2 ∨ n = 3 ∨ n = 6 ∨ n = 7 ∨ n = 10 ∨ n = 11 ∨ n = 13 ∨ n = 17 ∨ n = 18 ∨ n = 19 ∨ n = 22 ∨ n = 25
set_option maxHeartbeats 400000 in
theorem rot_gen (x : UInt32) (n s : Nat) (w : World) (h1 : 1 ≤ n) (hs : n + s = 32) (h2 : 1 ≤ s) (he : bits BinOp.and IntKind.u64 (IntKind.u64.wrap (-(n : Int))) 31 = (s : Int)) :
    Calls Tryd.prog 64 #[.int .u32 (x.toNat : Int), .int .i64 (-(n : Int))] w fun e w' => e = .returned (.int .u32 ((rr x n).toNat : Int)) ∧ w = w' := by
  have hb := x.toNat_lt
  have hlt : (x.toNat : Int) < 4294967296 := by omega
  have hs1 : (s : Int) < 32 := by omega
  have hs2 : (0 : Int) ≤ 32 - s := by omega
  go_enter Tryd.func64, Tryd.ntmps64
  go_wp2
  go_ret
  refine ⟨?_, rfl⟩
  rw [w_shl x s (by omega), show 32 - s = n from by omega, w_div x n (by omega), w_or]
  unfold rr
  rw [show 32 - n = s from by omega]
  rfl
theorem rot_any (x : UInt32) (n : Nat) (w : World) (h : Tn n) :
    Calls Tryd.prog 64 #[.int .u32 (x.toNat : Int), .int .i64 (-(n : Int))] w fun e w' => e = .returned (.int .u32 ((rr x n).toNat : Int)) ∧ w = w' := by
  rcases h with rfl | rfl | rfl | rfl | rfl | rfl | rfl | rfl | rfl | rfl | rfl | rfl
  · exact rot_gen x 2 30 w (by decide) (by decide) (by decide) (by decide +kernel)
  · exact rot_gen x 3 29 w (by decide) (by decide) (by decide) (by decide +kernel)
  · exact rot_gen x 6 26 w (by decide) (by decide) (by decide) (by decide +kernel)
  · exact rot_gen x 7 25 w (by decide) (by decide) (by decide) (by decide +kernel)
  · exact rot_gen x 10 22 w (by decide) (by decide) (by decide) (by decide +kernel)
  · exact rot_gen x 11 21 w (by decide) (by decide) (by decide) (by decide +kernel)
  · exact rot_gen x 13 19 w (by decide) (by decide) (by decide) (by decide +kernel)
  · exact rot_gen x 17 15 w (by decide) (by decide) (by decide) (by decide +kernel)
  · exact rot_gen x 18 14 w (by decide) (by decide) (by decide) (by decide +kernel)
  · exact rot_gen x 19 13 w (by decide) (by decide) (by decide) (by decide +kernel)
  · exact rot_gen x 22 10 w (by decide) (by decide) (by decide) (by decide +kernel)
  · exact rot_gen x 25 7 w (by decide) (by decide) (by decide) (by decide +kernel)
set_option maxHeartbeats 400000 in
theorem turn_any (x : UInt32) (n : Nat) (w : World) (h : Tn n) :
    Calls Tryd.prog 59 #[.int .u32 (x.toNat : Int), .int .i64 (n : Int)] w fun e w' => e = .returned (.int .u32 ((rr x n).toNat : Int)) ∧ w = w' := by
  have hn : (n : Int) ≤ 25 := by unfold Tn at h; omega
  have HR := Lib.hid (fun w => rot_any x n w h)
  clear h
  go_enter Tryd.func59, Tryd.ntmps59
  go_wp2_with fail
  refine (HR.out _).mono ?_
  rintro e w' ⟨rfl, rfl⟩
  go_wp2
  go_ret
  exact ⟨rfl, rfl⟩
theorem turn_lit (x : UInt32) (n : Nat) (m : Int) (w : World) (h : Tn n) (hm : (n : Int) = m) :
    Calls Tryd.prog 59 #[.int .u32 (x.toNat : Int), .int .i64 m] w fun e w' => e = .returned (.int .u32 ((rr x n).toNat : Int)) ∧ w = w' := by
  subst hm
  exact turn_any x n w h
end Go.Proofs.YtaneecmfgfkaaaaDoor
