/- The reference's queue: Len, Least. -/
import Derived.Test.YtdoeaepfjdjmmaaLvQ
namespace Go.Proofs.Ytdoeaepfjdjmmaa
open Go.RowKit Go.Deep
set_option linter.unusedVariables false
set_option linter.unusedSimpArgs false
set_option maxRecDepth 100000 in
set_option maxHeartbeats 2000000 in
theorem rlen_any (B h : Nat) (X : Nat → List Nat) (w : World) (hX : XqAt w B h X) (hl : ∀ l, l < 4 → (X l).length ≤ 16) : Calls Try.prog 29 #[.pointer (some ⟨h, 0, none⟩)] w fun e w' => e = .returned (.int .i64 (lenS X 4 : Int)) ∧ Below w.heap.size w w' := by
  obtain ⟨_, s, hs, ho⟩ := hX
  obtain ⟨a0, k0, e0, _⟩ := own_zi (ho 0 (by omega))
  obtain ⟨a1, k1, e1, _⟩ := own_zi (ho 1 (by omega))
  obtain ⟨a2, k2, e2, _⟩ := own_zi (ho 2 (by omega))
  obtain ⟨a3, k3, e3, _⟩ := own_zi (ho 3 (by omega))
  have c0 := World.rowIs.cell hs (i := 0) (by omega)
  have c1 := World.rowIs.cell hs (i := 1) (by omega)
  have c2 := World.rowIs.cell hs (i := 2) (by omega)
  have c3 := World.rowIs.cell hs (i := 3) (by omega)
  rw [e0] at c0
  rw [e1] at c1
  rw [e2] at c2
  rw [e3] at c3
  have l0 := hl 0 (by omega)
  have l1 := hl 1 (by omega)
  have l2 := hl 2 (by omega)
  have l3 := hl 3 (by omega)
  have HV : Hid (lenS X 4 = (X 0).length + (X 1).length + (X 2).length + (X 3).length) := Lib.hid (by unfold lenS lenS lenS lenS lenS; omega)
  rw [HV.out]
  clear hs ho hl e0 e1 e2 e3 HV
  generalize (X 0).length = n0 at *
  generalize (X 1).length = n1 at *
  generalize (X 2).length = n2 at *
  generalize (X 3).length = n3 at *
  have w1 : wrap64 ((n0 : Int) + (n1 : Int)) = (n0 : Int) + (n1 : Int) := by unfold wrap64; omega
  have w2 : wrap64 ((n0 : Int) + (n1 : Int) + (n2 : Int)) = (n0 : Int) + (n1 : Int) + (n2 : Int) := by unfold wrap64; omega
  have w3 : wrap64 ((n0 : Int) + (n1 : Int) + (n2 : Int) + (n3 : Int)) = (n0 : Int) + (n1 : Int) + (n2 : Int) + (n3 : Int) := by unfold wrap64; omega
  go_enter Try.func29, Try.ntmps29
  go_upto_region 1 with fail
  go_quiet (fail)
  go_wp2_with fail
  go_ret
  exact ⟨by simp, (Kq.drewN (B := w.heap.size) (L := []) w _).below⟩
/-- The first thing of the lowest level, or -1. -/
def lesI (X : Nat → List Nat) : Int := if X 0 ≠ [] then hdO (X 0) (-1) else if X 1 ≠ [] then hdO (X 1) (-1) else if X 2 ≠ [] then hdO (X 2) (-1) else hdO (X 3) (-1)
end Go.Proofs.Ytdoeaepfjdjmmaa
