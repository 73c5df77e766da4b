/- Package aes (cellaret): a state as a value. -/
import Derived.Test.YtbbanhjcchnhpaaAeH
namespace Go.Proofs.Ytbbanhjcchnhpaa
open Go.RowKit Go.Deep
set_option linter.unusedVariables false
set_option linter.unusedSimpArgs false
/-- A state's cells. -/
def st16 (f : Nat → UInt8) : Array Value := ((List.range 16).map fun j => Value.int .u8 ((f j).toNat : Int)).toArray
theorem st16_size (f : Nat → UInt8) : (st16 f).size = 16 := by
  unfold st16
  rw [List.size_toArray, List.length_map, List.length_range]
theorem st16_get (f : Nat → UInt8) (i : Nat) (hi : i < 16) : (st16 f)[i]? = some (.int .u8 ((f i).toNat : Int)) := by
  unfold st16
  rw [List.getElem?_toArray, List.getElem?_map, List.getElem?_range hi]
  rfl
theorem st16_row {w : World} {g : Nat} {t : TypeId} {f : Nat → UInt8} (h : w.rowIs g t 16 (fun j => .int .u8 ((f j).toNat : Int))) : w.heap[g]? = some (.cells (st16 f) t (0, 0)) := by
  obtain ⟨c, h1, h2, h3⟩ := h
  have hc : c = st16 f := by
    apply Array.ext_getElem?
    intro i
    by_cases hi : i < 16
    · rw [h3 i hi, st16_get f i hi]
    · rw [Array.getElem?_eq_none (by omega), Array.getElem?_eq_none (by rw [st16_size]; omega)]
  rw [← hc]; exact h1
theorem st16_one (f : Nat → UInt8) : (st16 f).all (·.oneCell') = true := by
  rw [Array.all_eq_true_iff_forall_mem]
  intro x hx
  unfold st16 at hx
  simp only [List.mem_toArray, List.mem_map] at hx
  obtain ⟨j, _, rfl⟩ := hx
  rfl
end Go.Proofs.Ytbbanhjcchnhpaa
