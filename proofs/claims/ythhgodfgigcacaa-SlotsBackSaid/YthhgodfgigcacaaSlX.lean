/- Package slots: slot. -/
import Derived.Test.YthhgodfgigcacaaSlW
namespace Go.Proofs.Ythhgodfgigcacaa
open Go.RowKit Go.Deep
set_option linter.unusedVariables false
set_option linter.unusedSimpArgs false
def tb (m i : Nat) : Bool := decide (m / 2 ^ i % 2 = 1)
/-- A slot of three bytes. -/
def pS (b0 b1 b2 : Nat) : Sl := ⟨(b0 : Int) - 1, tb b1 4, tb b1 5, tb b1 6, tb b1 7, tb b1 0, tb b1 1, tb b1 2, tb b1 3, (b2 : Int)⟩
def dvB (m : Nat) : Bool := (!tb m 0 || tb m 4) && (!tb m 1 || tb m 5) && (!tb m 2 || tb m 6) && (!tb m 3 || tb m 7)
def okP (b0 b1 b2 b3 : Nat) : Bool := dvB b1 && decide (b3 = 0) && decide (b0 ≤ 16) && decide (b2 < 4) && (decide (b0 ≠ 0) || decide (pS b0 b1 b2 = frS))
theorem and_tb (m j : Nat) (hm : m < 256) (hj : j < 8) : (bits .and .i64 (m : Int) ((2 ^ j : Nat) : Int) != 0) = tb m j := by
  have hp : 2 ^ j < 4294967296 := by
    rcases (show j = 0 ∨ j = 1 ∨ j = 2 ∨ j = 3 ∨ j = 4 ∨ j = 5 ∨ j = 6 ∨ j = 7 by omega) with rfl | rfl | rfl | rfl | rfl | rfl | rfl | rfl <;> decide
  have key : ∀ m, m < 256 → ∀ j, j < 8 → ((m &&& 2 ^ j) != 0) = decide (m / 2 ^ j % 2 = 1) := by decide +kernel
  rw [and64 m (2 ^ j) (by omega) hp]
  unfold tb
  rw [← key m hm j hj]
  generalize m &&& 2 ^ j = x
  cases x <;> simp <;> omega
theorem bitN_pS (b0 b1 b2 : Nat) (h : b1 < 256) : bitN (pS b0 b1 b2) 4 = b1 := by
  have key : ∀ m, m < 256 → bitN (pS 0 m 0) 4 = m := by decide +kernel
  exact key b1 h
def bt (s : ByteArray) (i : Nat) : Nat := (s.data.toList[i]?.getD 0).toNat
theorem bt_lt (s : ByteArray) (i : Nat) : bt s i < 256 := UInt8.toNat_lt _
theorem ext_one (s : ByteArray) (k : Nat) (h : k < s.size) : (s.extract k (k + 1)).data.toList = [s.data.toList[k]?.getD 0] := by
  have hk : k < s.data.toList.length := by rw [← Lib.size_eq]; exact h
  rw [ByteArray.data_extract, Array.toList_extract]
  simp only [List.extract, Nat.add_sub_cancel_left]
  rw [List.drop_eq_getElem_cons hk, List.take_succ_cons, List.take_zero, List.getElem?_eq_getElem hk]
  rfl
theorem beV_one (b : UInt8) : beV [b] = (b.toNat : Int) := by simp [beV]
theorem num1_any (b k : Nat) (w : World) (s : ByteArray) (h : Rd w b s (k : Int)) (hs : s.size = 48) (hk : k + 1 ≤ 48) : Calls Try.prog 47 #[.pointer (some ⟨b, 0, none⟩), .int .i64 1] w fun e w' => e = .returned (.tuple #[.int .i64 (bt s k : Int), .int .i64 0]) ∧ Rd w' b s ((k + 1 : Nat) : Int) ∧ w.grownBy w' (some b) := by
  have := num_ok 1 b w s k h (by omega) (by omega) (by omega) (by omega)
  rw [Int.toNat_natCast, show ((k : Int) + 1).toNat = k + 1 from by omega, ext_one s k (by omega)] at this
  have hE : getE [s.data.toList[k]?.getD 0] = 0 := rfl
  have hV : getV [s.data.toList[k]?.getD 0] = (bt s k : Int) := by
    unfold getV
    rw [if_pos hE, beV_one]
    rfl
  rw [hE, hV, numAt_ok] at this
  exact this
theorem Kt.of_grown {B b : Nat} {w w' : World} (g : w.grownBy w' (some b)) (hB : B ≤ b) (hw : B ≤ w.heap.size) : Kt B b w w' :=
  ⟨⟨g.os, g.tape, g.output, g.size, fun k hk => g.block k (by omega) (by simp; omega)⟩, fun k hk hn => g.block k hk (by simpa using hn)⟩
def pSi (b0 b1 b2 i : Nat) : Sl := ⟨(b0 : Int) - 1, decide (0 < i) && tb b1 4, decide (1 < i) && tb b1 5, decide (2 < i) && tb b1 6, decide (3 < i) && tb b1 7, decide (0 < i) && tb b1 0, decide (1 < i) && tb b1 1, decide (2 < i) && tb b1 2, decide (3 < i) && tb b1 3, (b2 : Int)⟩
theorem pSi_four (b0 b1 b2 : Nat) : pSi b0 b1 b2 4 = pS b0 b1 b2 := rfl
end Go.Proofs.Ythhgodfgigcacaa
