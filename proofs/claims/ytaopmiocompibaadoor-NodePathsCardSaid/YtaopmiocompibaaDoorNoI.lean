/- The law NodePaths. -/
import Derived.Test.YtaopmiocompibaaDoorNoF
import Derived.Test.YtaopmiocompibaaDoorNoG
import Derived.Test.YtaopmiocompibaaDoorNoH
namespace Go.Proofs.YtaopmiocompibaaDoor
open Go.RowKit Go.Deep
set_option linter.unusedVariables false
attribute [local irreducible] nd pathL sdv
/-- What n and side come to. -/
theorem node_class (n side : Int) : n < 0 ∨ 63 ≤ n ∨ (0 ≤ n ∧ n < 63 ∧ side ≠ 0 ∧ side ≠ 1) ∨ ∃ N : Nat, n = (N : Int) ∧ (N : Int) < 63 ∧ 0 ≤ (N : Int) ∧ ((side = 0 ∧ 2 * (N : Int) + 1 < 63) ∨ (side = 0 ∧ ¬ 2 * (N : Int) + 1 < 63) ∨ (side = 1 ∧ 2 * (N : Int) + 1 + 1 < 63) ∨ (side = 1 ∧ ¬ 2 * (N : Int) + 1 + 1 < 63)) := by
  by_cases h1 : n < 0
  · exact Or.inl h1
  · by_cases h2 : 63 ≤ n
    · exact Or.inr (Or.inl h2)
    · by_cases h3 : side = 0 ∨ side = 1
      · refine Or.inr (Or.inr (Or.inr ⟨n.toNat, by omega, by omega, by omega, ?_⟩))
        omega
      · exact Or.inr (Or.inr (Or.inl ⟨by omega, by omega, fun e => h3 (Or.inl e), fun e => h3 (Or.inr e)⟩))
theorem nodePaths_walk (leaf n side : Int) (w : World) (hl : (Lit.int .i64 leaf).wf = true) (hn : (Lit.int .i64 n).wf = true) (hs : (Lit.int .i64 side).wf = true) (hG : Gl w) :
    Calls Tryd.prog 3 #[.int .i64 leaf, .int .i64 n, .int .i64 side] w fun e w' => e = .returned (.bool true) ∧ Below w.heap.size w w' := by
  by_cases h1 : leaf < 0
  · rcases node_class n side with h | h | ⟨q0, q1, q2, q3⟩ | ⟨N, rfl, b1, b0, ⟨rfl, c⟩ | ⟨rfl, c⟩ | ⟨rfl, c⟩ | ⟨rfl, c⟩⟩
    · exact npL1_c1 leaf n side w hG h h1
    · exact npL1_c2 leaf n side w hG h h1
    · exact npL1_c3 leaf n side w hG q0 q1 q2 q3 h1
    · exact npL1_c4 leaf N _ w hG b1 b0 c (Lib.hid rfl) h1
    · exact npL1_c5 leaf N _ w hG b1 b0 c (Lib.hid rfl) h1
    · exact npL1_c6 leaf N _ w hG b1 b0 c (Lib.hid rfl) h1
    · exact npL1_c7 leaf N _ w hG b1 b0 c (Lib.hid rfl) h1
  · by_cases h2 : 63 < leaf
    · rcases node_class n side with h | h | ⟨q0, q1, q2, q3⟩ | ⟨N, rfl, b1, b0, ⟨rfl, c⟩ | ⟨rfl, c⟩ | ⟨rfl, c⟩ | ⟨rfl, c⟩⟩
      · exact npL2_c1 leaf n side w hG h h2
      · exact npL2_c2 leaf n side w hG h h2
      · exact npL2_c3 leaf n side w hG q0 q1 q2 q3 h2
      · exact npL2_c4 leaf N _ w hG b1 b0 c (Lib.hid rfl) h2
      · exact npL2_c5 leaf N _ w hG b1 b0 c (Lib.hid rfl) h2
      · exact npL2_c6 leaf N _ w hG b1 b0 c (Lib.hid rfl) h2
      · exact npL2_c7 leaf N _ w hG b1 b0 c (Lib.hid rfl) h2
    · obtain ⟨L, rfl⟩ := Int.eq_ofNat_of_zero_le (show 0 ≤ leaf by omega)
      have hL : L < 64 := by omega
      by_cases hh : ∃ j, j < 6 ∧ (nd L (j + 1) : Int) = n
      · obtain ⟨j, hj, hjn⟩ := hh
        have hlt := (nd_two L j hL hj).1
        have e1 : ∀ N : Nat, (N : Int) = n → Hid (∀ i, i = j → nd L (i + 1) = N) := fun N e => Lib.hid (fun i e2 => by rw [e2]; omega)
        have e2 : ∀ N : Nat, (N : Int) = n → Hid (∀ i, i < 6 → i ≠ j → nd L (i + 1) ≠ N) := fun N e => Lib.hid (fun i hi hne e3 => nd_ne L i j hL hi hj hne (by omega))
        rcases node_class n side with h | h | ⟨q0, q1, q2, q3⟩ | ⟨N, rfl, b1, b0, ⟨rfl, c⟩ | ⟨rfl, c⟩ | ⟨rfl, c⟩ | ⟨rfl, c⟩⟩
        · exfalso; omega
        · exfalso; omega
        · obtain ⟨N, rfl⟩ := Int.eq_ofNat_of_zero_le q0
          exact npH_c3 L j N side w hG q0 q1 q2 q3 hL hj (e1 N rfl) (e2 N rfl)
        · exact npH_c4 L j N _ w hG b1 b0 c (Lib.hid rfl) hL hj (e1 N rfl) (e2 N rfl)
        · exact npH_c5 L j N _ w hG b1 b0 c (Lib.hid rfl) hL hj (e1 N rfl) (e2 N rfl)
        · exact npH_c6 L j N _ w hG b1 b0 c (Lib.hid rfl) hL hj (e1 N rfl) (e2 N rfl)
        · exact npH_c7 L j N _ w hG b1 b0 c (Lib.hid rfl) hL hj (e1 N rfl) (e2 N rfl)
      · have HNE : Hid (∀ i, i < 6 → (nd L (i + 1) : Int) ≠ n) := Lib.hid (fun i hi e => hh ⟨i, hi, e⟩)
        rcases node_class n side with h | h | ⟨q0, q1, q2, q3⟩ | ⟨N, rfl, b1, b0, ⟨rfl, c⟩ | ⟨rfl, c⟩ | ⟨rfl, c⟩ | ⟨rfl, c⟩⟩
        · exact npM_c1 L n side w hG h hL HNE
        · exact npM_c2 L n side w hG h hL HNE
        · exact npM_c3 L n side w hG q0 q1 q2 q3 hL HNE
        · exact npM_c4 L N _ w hG b1 b0 c (Lib.hid rfl) hL HNE
        · exact npM_c5 L N _ w hG b1 b0 c (Lib.hid rfl) hL HNE
        · exact npM_c6 L N _ w hG b1 b0 c (Lib.hid rfl) hL HNE
        · exact npM_c7 L N _ w hG b1 b0 c (Lib.hid rfl) hL HNE
end Go.Proofs.YtaopmiocompibaaDoor
