/- Package aes (cellaret): New, what its walk needs; a key that is none. -/
import Derived.Test.YtbbanhjcchnhpaaAeE
import Derived.Test.YtbbanhjcchnhpaaLin
import Derived.Deep.Cut
import Derived.Lib.ConvBytes
namespace Go.Proofs.Ytbbanhjcchnhpaa
open Go.RowKit Go.Deep
set_option linter.unusedVariables false
set_option linter.unusedSimpArgs false
theorem new_no (s : ByteArray) (w : World) (hs : s.size ≠ 32) :
    Calls Try.prog 18 #[.string s] w fun e w' => e = .returned (.tuple #[.pointer none, .int .i64 2]) ∧ w = w' := by
  have h : ((s.size : Int) == 32) = false := by rw [beq_eq_false_iff_ne]; omega
  go_enter Try.func18, Try.ntmps18
  go_wp2
  go_ret2
  exact ⟨rfl, rfl⟩
theorem zeroKey : Try.zeroCells74 = R0k := by kernel_rfl
theorem row_newkey (w : World) : ∃ w2, Hid (w.alloc (.cells Try.zeroCells74 74) = w2) ∧ Hid (w2.rowIs w.heap.size 74 572 (kvF (fun _ => 0) 0)) ∧ Below w.heap.size w w2 ∧ w2.heap.size = w.heap.size + 1 :=
  ⟨_, Lib.hid rfl, Lib.hid ⟨R0k, by rw [zeroKey]; exact heap_alloc_new _ _, R0k_size, R0k_get⟩, (Below.refl _ _).alloc (Nat.le_refl _) _, by simp⟩
theorem conv_sbA (s : ByteArray) (w : World) (hs : s.size ≤ 1125899906842624) : ∃ cap w', Hid ((convert 9 77 (.string s)).run Try.prog w = .ok (.slice (some ⟨w.heap.size, 0, none⟩) s.size cap) w') ∧ s.size ≤ cap ∧ cap ≤ 9223372036854775807 ∧ w'.rangeAt w.heap.size 0 (bv s.data.toList) ∧ Below w.heap.size w w' ∧ w'.heap.size = w.heap.size + 1 := by
  refine ⟨_, _, Lib.hid (Lib.run_convert_string_bytes (P := Try.prog) w 9 77 5 s Try.underlying9 Try.underlying77 Try.underlying5), grownCap_ge _ _ _ _, ?_, ?_, ?_, Lib.bytesWorld_size _ _ _⟩
  · have := grownCap_le_maxLen w s.size 0 5 (by unfold maxLen; omega)
    unfold maxLen at this
    omega
  · intro j u hu
    have hj : j < s.size := by
      have := (List.getElem?_eq_some_iff.1 hu).1
      rw [Lib.size_eq]
      simpa [bv] using this
    rw [Nat.zero_add, Lib.bytesWorld_cell w 5 s j hj, ← hu]
    unfold bv
    have hj' : j < s.data.toList.length := by rw [← Lib.size_eq]; exact hj
    rw [List.getElem?_map, List.getElem?_eq_getElem hj', List.getD_eq_getElem?_getD, List.getElem?_eq_getElem hj']
    rfl
  · exact ⟨rfl, rfl, rfl, by rw [Lib.bytesWorld_size]; omega, fun k hk => Lib.bytesWorld_at_old w _ s k hk⟩
theorem ext4 (s : ByteArray) (k : Nat) (hk : k < 8) (hs : s.size = 32) : (s.extract (4 * k) (4 * k + 4)).data.toList = [bAt s.data.toList (4 * k), bAt s.data.toList (4 * k + 1), bAt s.data.toList (4 * k + 2), bAt s.data.toList (4 * k + 3)] := by
  have hl : s.data.toList.length = 32 := hs
  rw [show (s.extract (4 * k) (4 * k + 4)).data.toList = (s.data.toList.drop (4 * k)).take 4 by simp [ByteArray.data_extract]]
  generalize s.data.toList = l at *
  apply List.ext_getElem
  · simp; omega
  · intro i h1 h2
    simp only [List.length_cons, List.length_nil] at h2
    rw [List.getElem_take, List.getElem_drop]
    unfold bAt
    rcases (show i = 0 ∨ i = 1 ∨ i = 2 ∨ i = 3 by omega) with rfl | rfl | rfl | rfl <;> simp [List.getElem?_eq_getElem (show 4 * k + 0 < l.length by omega), List.getElem?_eq_getElem (show 4 * k + 1 < l.length by omega), List.getElem?_eq_getElem (show 4 * k + 2 < l.length by omega), List.getElem?_eq_getElem (show 4 * k + 3 < l.length by omega), List.getElem?_eq_getElem (show 4 * k < l.length by omega)]
theorem array_at4 (g cap : Nat) (w : World) : (Instr.arrayAt 76 (.slice (some ⟨g, 0, none⟩) 4 cap)).run Try.prog w = .ok (.pointer (some ⟨g, 0, none⟩)) w := by kernel_rfl
/-- A key's own word t. -/
def kw (l : List UInt8) (t : Nat) : UInt32 := be4 (bAt l (4 * t)) (bAt l (4 * t + 1)) (bAt l (4 * t + 2)) (bAt l (4 * t + 3))
def wK (l : List UInt8) (k t : Nat) : UInt32 := if t < k then kw l t else 0
theorem wK_step (l : List UInt8) (k : Nat) : wK l (k + 1) = fun t => if t = k then kw l k else wK l k t := by
  funext t
  unfold wK
  by_cases e : t = k
  · subst e; rw [if_pos (show t < t + 1 by omega), if_pos rfl]
  · rw [if_neg e]
    by_cases h : t < k
    · rw [if_pos h, if_pos (show t < k + 1 by omega)]
    · rw [if_neg h, if_neg (show ¬ t < k + 1 by omega)]
theorem wK_zero (l : List UInt8) : wK l 0 = fun _ => 0 := rfl
end Go.Proofs.Ytbbanhjcchnhpaa
