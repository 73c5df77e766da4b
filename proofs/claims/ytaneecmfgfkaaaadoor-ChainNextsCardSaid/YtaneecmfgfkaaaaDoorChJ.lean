/- The law ChainSums: starts that are refused (made by genchj.py). -/
import Derived.Test.YtaneecmfgfkaaaaDoorChI
import Derived.Test.YtaneecmfgfkaaaaDoorLdA
namespace Go.Proofs.YtaneecmfgfkaaaaDoor
open Go.RowKit Go.Deep Go.Maps Go.ChangeShapes Go.WideShapes
set_option linter.unusedVariables false
set_option linter.unusedSimpArgs false
theorem neq_z32 (w : World) : (binOp .neq 34 (.agg z32) (.agg z32)).run Tryd.prog w = .ok (.bool false) w := by kernel_rfl
/-- What Check tells of any key. -/
def chkC (k : ByteArray) : ByteArray := if k.size = 32 then sB (sumL (keyT k)) else ⟨#[]⟩
def chkE (k : ByteArray) : Int := if k.size = 32 then 0 else 2
theorem chk_yes (k : ByteArray) (h : k.size = 32) : chkC k = sB (sumL (keyT k)) ∧ chkE k = 0 := by unfold chkC chkE; rw [if_pos h, if_pos h]; exact ⟨rfl, rfl⟩
theorem chk_no (k : ByteArray) (h : k.size ≠ 32) : chkC k = ⟨#[]⟩ ∧ chkE k = 2 := by unfold chkC chkE; rw [if_neg h, if_neg h]; exact ⟨rfl, rfl⟩
theorem key_sum (k : ByteArray) (h : k.size = 32) (w : World) (hG : Gl w) : Calls Tryd.prog 14 #[.string (sB (keyT k))] w fun e w' => e = .returned (.agg (digA (sumL (keyT k)))) ∧ Below w.heap.size w w' := by
  have h1 := sum_any (sB (keyT k)) w (by rw [← keyT_eq, ByteArray.size_append, kyB_size, h]; omega) hG
  rw [sB_list' (keyT k)] at h1
  exact h1
theorem key_add (k : ByteArray) (h : k.size = 32) (V : World) : (Op.stringOp .add (⟨#[107, 101, 121]⟩ : ByteArray) k).run Tryd.prog V = .ok (.string (sB (keyT k))) V := by rw [← keyT_eq]; exact run_string_add_sum V kyB k (by rw [kyB_size, h]; omega)
theorem conv_dg (l : List UInt8) (h : l.length = 32) : ∀ (w2 : World) (q : Nat), w2.heap[q]? = some (.cells (digA l) 34 (0, 0)) → (convert 65 9 (.slice (some ⟨q, 0, none⟩) 32 32)).run Tryd.prog w2 = .ok (.string (sB l)) w2 := fun w2 q hh => conv_dig hh h
theorem new_y (w : World) : Calls Tryd.prog 9 #[] w fun e w' => ∃ o X, e = .returned (.pointer o) ∧ OrX w.heap.size w' o X ∧ FewX X 0 ∧ Below w.heap.size w w' :=
  (new_x w.heap.size w (Nat.le_refl _)).mono fun e w' ⟨h1, h2, h3⟩ => ⟨_, _, h1, h2, FewX.zero w _ _ _ _ _, h3⟩
theorem OrX.weak {base base' : Nat} {w : World} {o : Option Addr} {X : Option OrS} (h : OrX base w o X) (hb : base' ≤ base) : OrX base' w o X := by
  match o, X, h with
  | .none, .none, h => exact Nat.le_trans hb h
  | Option.some a, Option.some S, h => exact ⟨h.1, Nat.le_trans hb h.2.hb, h.2.hg, own_weak h.2.ht hb, own_weak h.2.hs hb, h.2.hm, Nat.le_trans hb h.2.hbb, h.2.ix, h.2.nd⟩
attribute [local irreducible] digA sumL z32 sB startT keyT chkC chkE kyB
end Go.Proofs.YtaneecmfgfkaaaaDoor
