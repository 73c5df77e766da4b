/- Package aes (cellaret): contracts of word and bytesOf. -/
import Derived.Test.YtbbanhjcchnhpaaAeB
import Derived.Test.YtbbanhjcchnhpaaShC
import Derived.Deep.RegionWith
import Derived.Laws.Rows
import Derived.Laws.NewBlocks
namespace Go.Proofs.Ytbbanhjcchnhpaa
open Go.RowKit Go.Deep
set_option linter.unusedVariables false
set_option linter.unusedSimpArgs false
theorem be4_nat (a b c d : UInt8) : (be4 a b c d).toNat = a.toNat * 16777216 + b.toNat * 65536 + c.toNat * 256 + d.toNat := by
  have h1 := a.toNat_lt
  have h2 := b.toNat_lt
  have h3 := c.toNat_lt
  have h4 := d.toNat_lt
  unfold be4
  rw [UInt32.toNat_ofNat']
  omega
/-- Four bytes as a value. -/
@[reducible] def b4v (a b c d : UInt8) : Value := .agg #[.int .u8 (a.toNat : Int), .int .u8 (b.toNat : Int), .int .u8 (c.toNat : Int), .int .u8 (d.toNat : Int)]
/-- A word's bytes, from the greatest. -/
def byW (x : UInt32) (i : Nat) : UInt8 := UInt8.ofNat (x.toNat / 256 ^ (3 - i))
theorem be4_byW (x : UInt32) : be4 (byW x 0) (byW x 1) (byW x 2) (byW x 3) = x := by
  have hx := x.toNat_lt
  rw [← UInt32.toNat_inj, be4_nat]
  unfold byW
  simp only [UInt8.toNat_ofNat']
  omega
theorem byW_be4 (a b c d : UInt8) : byW (be4 a b c d) 0 = a ∧ byW (be4 a b c d) 1 = b ∧ byW (be4 a b c d) 2 = c ∧ byW (be4 a b c d) 3 = d := by
  have h1 := a.toNat_lt
  have h2 := b.toNat_lt
  have h3 := c.toNat_lt
  have h4 := d.toNat_lt
  refine ⟨?_, ?_, ?_, ?_⟩ <;> rw [← UInt8.toNat_inj] <;> unfold byW <;> rw [UInt8.toNat_ofNat', be4_nat] <;> simp <;> omega
set_option maxHeartbeats 1000000 in
theorem word_any (a b c d : UInt8) (w : World) :
    Calls Try.prog 49 #[b4v a b c d] w fun e w' => e = .returned (wv (be4 a b c d)) ∧ Below w.heap.size w w' := by
  have hw := be4_walk a b c d
  simp only [IntKind.wrap_u32'] at hw
  have HW := Lib.hid hw
  clear hw
  go_enter Try.func49, Try.ntmps49
  go_wp2
  go_ret
  refine ⟨?_, ?_⟩
  · exact congrArg (fun z => Ending.returned (Value.int .u32 z)) HW.out
  · exact (Below.refl _ _).alloc (Nat.le_refl _) _
theorem byW_int (x : UInt32) : ((byW x 0).toNat : Int) = (x.toNat : Int) / 16777216 ∧ ((byW x 1).toNat : Int) = (x.toNat : Int) / 65536 % 256 ∧ ((byW x 2).toNat : Int) = (x.toNat : Int) / 256 % 256 ∧ ((byW x 3).toNat : Int) = (x.toNat : Int) % 256 := by
  have hx := x.toNat_lt
  unfold byW
  simp only [UInt8.toNat_ofNat']
  refine ⟨?_, ?_, ?_, ?_⟩ <;> simp <;> omega
set_option maxHeartbeats 1000000 in
theorem bytesOf_any (x : UInt32) (w : World) :
    Calls Try.prog 76 #[wv x] w fun e w' => e = .returned (b4v (byW x 0) (byW x 1) (byW x 2) (byW x 3)) ∧ Below w.heap.size w w' := by
  have hx := x.toNat_lt
  have HE := Lib.hid (byW_int x)
  go_enter Try.func76, Try.ntmps76
  go_wp2
  obtain ⟨e0, e1, e2, e3⟩ := HE.out
  rw [← e0, ← e1, ← e2, ← e3]
  refine bodyPost_ret_by (results_cell_row rfl _ _ w.heap.size 76 _ (0, 0) _ rfl (heap_alloc_new _ _) Try.underlying76 rfl (by kernel_rfl)) rfl ⟨rfl, (Below.refl _ _).alloc (Nat.le_refl _) _⟩
end Go.Proofs.Ytbbanhjcchnhpaa
