/- Contracts of package be (cellaret): Xor, readers. -/
import Derived.Test.YtbbanhjcchnhpaaProg
import Derived.Test.YtbbanhjcchnhpaaLibB
import Derived.Test.YtbbanhjcchnhpaaBeA
import Derived.WalkLawsBesides
import Derived.Handy
import Derived.Lib.Hide
import Derived.RegionTactic
import Derived.Deep.QuietTactic
import Derived.BigQuiet
namespace Go.Proofs.Ytbbanhjcchnhpaa
open Go.RowKit Go.Deep

set_option maxRecDepth 100000 in
set_option maxHeartbeats 400000 in
theorem xor_ok (a b : ByteArray) (w : World) (h : Hid (a.size = b.size)) (hm : a.size ≤ 140737488351232) :
    Calls Try.prog 67 #[.string a, .string b] w fun e w' => e = .returned (.tuple #[.string ⟨(xorL a.data.toList b.data.toList).toArray⟩, .int .i64 0]) ∧ Below w.heap.size w w' := by
  have hne : ((a.size : Int) != (b.size : Int)) = false := by rw [h.out]; simp
  have hmk := run_make_row' (P := Try.prog) 77 5 (.int .u8 0) 1 Try.underlying77 Try.info_u8 rfl .i64 .i64 a.size (by omega) (by omega)
  go_enter Try.func67, Try.ntmps67
  go_wp2
  go_goals
  go_loopw [18] (fun i wr => ∃ k : Nat, k ≤ a.size ∧ i = .int .i64 k ∧ wr.rowIs w.heap.size 5 a.size (fun j => .int .u8 ((if j < k then xorAt a.data.toList b.data.toList j else 0).toNat : Int)) ∧ Below w.heap.size w wr)
      (fun i _ => a.size - (intOf i).toNat)
  case atStart =>
    refine ⟨0, by omega, rfl, ?_, ?_⟩
    · exact World.rowIs_made w _ _ _
    · exact (Below.refl _ _).alloc (Nat.le_refl _) _
  case round =>
    obtain ⟨k, hk, rfl, hrow, hbel⟩ := hrel
    by_cases hlt : k < a.size
    · have hlb : k < b.size := by rw [← h.out]; exact hlt
      have hcell := hrow.cell (i := k) (by omega)
      have hfz := hrow.frozen k
      have hr2 := Lib.hid hrow
      clear hrow
      go_wp2
      go_region
      all_goals
        go_wp2
        go_roundw
        case rel =>
          refine ⟨k + 1, by omega, by go_num, ?_, (hbel.setCell (by simp) _).drew⟩
          refine (((hr2.out).set k _).congr ?_).drew
          intro j hj
          by_cases e : j = k
          · subst e
            rw [if_pos rfl, if_pos (by omega), xor_val]
            unfold xorAt
            rw [byte_getD _ _ hlt, byte_getD _ _ hlb]
          · rw [if_neg e]
            by_cases e2 : j < k
            · rw [if_pos e2, if_pos (by omega)]
            · rw [if_neg e2, if_neg (by omega)]
        case measure => simp [intOf]; omega
    · have hcv := conv_row (P := Try.prog) (cap := a.size) (W := a.size) (dst := 9) Try.underlying77 Try.underlying5 Try.underlying9 hrow (Nat.le_refl _)
      clear hrow
      go_wp2
      go_ret2
      refine ⟨ret_two ?_ rfl, hbel⟩
      unfold xorL
      rw [← Lib.size_eq]
      apply List.map_congr_left
      intro j hj
      simp at hj
      first | rfl | rw [if_pos (by omega)]

set_option maxRecDepth 100000 in
set_option maxHeartbeats 400000 in
theorem xor_no (a b : ByteArray) (w : World) (h : Hid (a.size ≠ b.size)) :
    Calls Try.prog 67 #[.string a, .string b] w fun e w' => e = .returned (.tuple #[.string ⟨[].toArray⟩, .int .i64 6]) ∧ w = w' := by
  have hne : ((a.size : Int) != (b.size : Int)) = true := by rw [bne_iff_ne]; have := h.out; omega
  go_enter Try.func67, Try.ntmps67
  go_wp2
  go_ret2
  exact ⟨rfl, rfl⟩

end Go.Proofs.Ytbbanhjcchnhpaa
