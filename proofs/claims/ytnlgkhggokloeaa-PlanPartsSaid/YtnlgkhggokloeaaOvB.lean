/- Package over: Get, Drop, Len, Clear; the nil sheet. -/
import Derived.Test.YtnlgkhggokloeaaOvA
namespace Go.Proofs.Ytnlgkhggokloeaa
open Go.RowKit Go.Deep
set_option linter.unusedVariables false
set_option linter.unusedSimpArgs false
def noB : ByteArray := ⟨#[]⟩
def gotV (L : List Pu) (a : Int) : Value := match findL L a with | some p => .tuple #[.string p.2, .bool true] | none => .tuple #[.string ⟨#[]⟩, .bool false]
theorem zero_put : ∀ w, (zeroValue 48).run Try.prog w = .ok (.agg #[.int .i64 0, .string ⟨#[]⟩]) w := fun w => by kernel_rfl
theorem map_has2 (L : List Pu) (a : Int) : Maps.has (mapD L) (keyL a) = (findL L a).isSome := by rw [map_has, any_find]
section
variable {w w' : World} {B p b : Nat} {L : List Pu}
end
end Go.Proofs.Ytnlgkhggokloeaa
