/- Package aes (cellaret): a key's words, as numbers. -/
import Derived.Test.YtbbanhjcchnhpaaAeF0
namespace Go.Proofs.Ytbbanhjcchnhpaa
open Go.RowKit Go.Deep
set_option linter.unusedVariables false
set_option linter.unusedSimpArgs false
/-- A word turned by eight bits. -/
def rolW (x : UInt32) : UInt32 := (x <<< UInt32.ofNat 8) ||| (x >>> UInt32.ofNat 24)
theorem rolW_walk (x : UInt32) : bits BinOp.or .u32 ((x.toNat : Int) * 256 % 4294967296) ((x.toNat : Int) / 16777216) = ((rolW x).toNat : Int) := by
  rw [show (256 : Int) = 2 ^ 8 from rfl, show (16777216 : Int) = 2 ^ 24 from rfl, w_shl x 8 (by omega), w_div x 24 (by omega), w_or]
  rfl
/-- What is added to the word eight ahead. -/
def tW (W : Nat → UInt32) (p i : Nat) : UInt32 := if i % 8 = 0 then imgW (rolW (W (i - 1))) ^^^ (UInt32.ofNat p <<< UInt32.ofNat 24) else if i % 8 = 4 then imgW (W (i - 1)) else W (i - 1)
def nextW (W : Nat → UInt32) (p i : Nat) : UInt32 := W (i - 8) ^^^ tW W p i
/-- The powers of two at word n + 8. -/
def pwE : Nat → Nat
  | 0 => 1
  | n + 1 => if (n + 8) % 8 = 0 then tw (pwE n) else pwE n
def wE (l : List UInt8) : Nat → Nat → UInt32
  | 0 => wK l 8
  | n + 1 => fun t => if t = n + 8 then nextW (wE l n) (pwE n) (n + 8) else wE l n t
def pwI (i : Nat) : Nat := pwE (i - 8)
def wI (l : List UInt8) (i : Nat) : Nat → UInt32 := wE l (i - 8)
theorem pwI_lt (i : Nat) : pwI i < 256 := by
  unfold pwI
  generalize i - 8 = n
  induction n with
  | zero => decide
  | succ n ih =>
    unfold pwE
    split
    · exact tw_lt _ ih
    · exact ih
theorem pwI_step (i : Nat) (hi : 8 ≤ i) : pwI (i + 1) = if i % 8 = 0 then tw (pwI i) else pwI i := by
  unfold pwI
  rw [show i + 1 - 8 = (i - 8) + 1 by omega, pwE, show i - 8 + 8 = i by omega]
theorem wI_step (l : List UInt8) (i : Nat) (hi : 8 ≤ i) : wI l (i + 1) = fun t => if t = i then nextW (wI l i) (pwI i) i else wI l i t := by
  unfold wI pwI
  rw [show i + 1 - 8 = (i - 8) + 1 by omega, wE, show i - 8 + 8 = i by omega]
theorem pow_walk (p : Nat) (hp : p < 256) : (p : Int) * 16777216 % 4294967296 = ((UInt32.ofNat p <<< UInt32.ofNat 24).toNat : Int) := by
  rw [show (16777216 : Int) = 2 ^ 24 from rfl, ← w_shl (UInt32.ofNat p) 24 (by omega), UInt32.toNat_ofNat']
  rw [Nat.mod_eq_of_lt (show p < 2 ^ 32 by omega)]
end Go.Proofs.Ytbbanhjcchnhpaa
