/- The law NodeApart. -/
import Derived.Test.YtaneecmfgfkaaaaDoorNoQ
import Derived.Test.YtaneecmfgfkaaaaDoorNoK
import Derived.Test.YtaneecmfgfkaaaaDoorNeD
namespace Go.Proofs.YtaneecmfgfkaaaaDoor
open Go.RowKit Go.Deep Go.Maps Go.ChangeShapes Go.WideShapes
set_option linter.unusedVariables false
set_option linter.unusedSimpArgs false
theorem RowD.digAt {w : World} {g c : Nat} {L : List (List UInt8)} (h : RowD w g c 64 (dg L)) (hL : L.length = 64) : DigAt w (some ⟨g, 0, none⟩) L := fun _ => ⟨g, 0, rfl, h.lt, fun i hi => by
  have := h.range i (by omega)
  rw [dg_at L i hi] at this
  rw [Nat.zero_add]
  exact this⟩
theorem txs_len6 (L : List (List UInt8)) : (txs L 6 0).length = 63 := rfl
def smB (L M : List (List UInt8)) (k : Nat) : Bool := (List.range k).all fun i => dg L i == dg M i
theorem smB_step (L M : List (List UInt8)) (k : Nat) : smB L M (k + 1) = (smB L M k && (dg L k == dg M k)) := by
  unfold smB
  rw [List.range_succ, List.all_append]
  simp
theorem smB_yes (L M : List (List UInt8)) (h : L = M) (k : Nat) : smB L M k = true := by
  subst h
  unfold smB
  rw [List.all_eq_true]
  intro i _
  simp
theorem smB_no (L M : List (List UInt8)) (hl : L.length = 64) (hm : M.length = 64) (h : L ≠ M) : smB L M 64 = false := by
  cases q : smB L M 64 with
  | false => rfl
  | true =>
    exfalso
    apply h
    apply dg_ext L M (by rw [hl, hm])
    intro i hi
    unfold smB at q
    rw [List.all_eq_true] at q
    simpa using q i (List.mem_range.2 (by omega))
theorem OrX.some {base : Nat} {w : World} {a : Addr} {X : Option OrS} (h : OrX base w (some a) X) : ∃ S, X = some S ∧ a = ⟨S.g, 0, none⟩ ∧ OrP base w S.g S.l S.tv S.sv S.b S.D := by
  match X, h with
  | Option.some S, h => exact ⟨S, rfl, h.1, h.2⟩
theorem loadedA_d {w : World} {g : Nat} {l : List UInt8} (hl : l.length = 32) (h : w.heap[g]? = some (.cells (digA l) 34 (0, 0))) : LoadedA Tryd.prog 34 w g (digA l) := ⟨_, _, _, _, h, Tryd.underlying34, by rw [digA_size, hl]; kernel_rfl⟩
attribute [local irreducible] digA sumL z32 sB bv txs lv smB rootD sumsL
section
variable {H : Type} {enc : TypeId × Value → H}
end
end Go.Proofs.YtaneecmfgfkaaaaDoor
