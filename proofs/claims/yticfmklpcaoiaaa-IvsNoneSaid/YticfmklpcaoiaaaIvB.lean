/- Contracts of package ivs (cellaret): copies, nil rows, what must come at any rate. -/
import Derived.Test.YticfmklpcaoiaaaIvA
namespace Go.Proofs.Yticfmklpcaoiaaa
open Go.RowKit Go.Deep
set_option linter.unusedVariables false

set_option maxRecDepth 100000 in
set_option maxHeartbeats 400000 in
theorem ivsCopy_any (b : Nat) (w : World) (n t m : Int) (h : Tri w b n t m) :
    Calls Try.prog 16 #[.pointer (some ⟨b, 0, none⟩)] w fun e w' => e = .returned (.pointer (some ⟨w.heap.size, 0, none⟩)) ∧ w.alloc (.cells #[.int .i64 n, .int .i64 t, .int .i64 m] 48) = w' := by
  have k0 := h.c0
  have k1 := h.c1
  have k2 := h.c2
  have l1 := h.lt
  go_enter Try.func16, Try.ntmps16
  go_wp2
  go_ret
  exact ⟨rfl, rfl⟩
set_option maxRecDepth 100000 in
set_option maxHeartbeats 400000 in
theorem ivs_nil (w : World) :
    (Calls Try.prog 16 #[.pointer none] w fun e w' => e = .returned (.pointer none) ∧ w = w') ∧
    (Calls Try.prog 11 #[.pointer none] w fun e w' => e = .returned (.int .i64 0) ∧ w = w') ∧
    (Calls Try.prog 12 #[.pointer none] w fun e w' => e = .returned (.int .i64 0) ∧ w = w') ∧
    (∀ u, Calls Try.prog 14 #[.pointer none, .int .i64 u] w fun e w' => e = .returned (.int .i64 1) ∧ w = w') ∧
    (Calls Try.prog 13 #[.pointer none] w fun e w' => e = .returned (.tuple #[.int .i64 0, .bool false]) ∧ w = w') ∧
    (Calls Try.prog 15 #[.pointer none] w fun e w' => e = .returned (.tuple #[.int .i64 0, .int .i64 1]) ∧ w = w') := by
  refine ⟨?_, ?_, ?_, fun u => ?_, ?_, ?_⟩
  · go_enter Try.func16, Try.ntmps16
    go_wp2
    go_ret
    exact ⟨rfl, rfl⟩
  · go_enter Try.func11, Try.ntmps11
    go_wp2
    go_ret
    exact ⟨rfl, rfl⟩
  · go_enter Try.func12, Try.ntmps12
    go_wp2
    go_ret
    exact ⟨rfl, rfl⟩
  · go_enter Try.func14, Try.ntmps14
    go_wp2
    go_ret
    exact ⟨rfl, rfl⟩
  · go_enter Try.func13, Try.ntmps13
    go_wp2
    go_ret2
    exact ⟨rfl, rfl⟩
  · go_enter Try.func15, Try.ntmps15
    go_wp2
    go_ret2
    exact ⟨rfl, rfl⟩

set_option maxRecDepth 100000 in
set_option maxHeartbeats 400000 in
theorem awake20 (w : World) : Calls Try.prog 9 #[] w fun e w' => e = .returned (.bool true) ∧ Below w.heap.size w w' := by
  go_enter Try.func9, Try.ntmps9
  go_wp2_with fail
  refine (ivsNew_ok 5 30 w (by omega) (by omega) (by omega) (by omega)).mono ?_
  rintro e w' ⟨rfl, rfl⟩
  have B0 : Below w.heap.size w (w.alloc (.cells #[.int .i64 5, .int .i64 5, .int .i64 30] 48)) := (Below.refl _ _).alloc (Nat.le_refl _) _
  have T0 := Tri.new w 48 5 5 30 (by omega) (by omega) (by omega) (by omega)
  generalize w.alloc (.cells #[.int .i64 5, .int .i64 5, .int .i64 30] 48) = w0 at B0 T0 ⊢
  go_wp2_with fail
  refine (need_yes _ w0 5 5 30 T0 (by omega) (by omega)).mono ?_
  rintro e w1 ⟨rfl, hb1⟩
  rw [show needV 5 30 = 21 from by decide]
  have T1 := T0.below hb1
  have B1 := below_trans B0 hb1
  go_wp2_with fail
  refine (raise_ok _ w1 5 5 30 21 T1 (by omega) (by omega)).mono ?_
  rintro e w2 ⟨rfl, T2, g2⟩
  have B2 := B1.grown g2 B1.size (fun k e => by cases e; exact Nat.le_refl _)
  go_wp2_with fail
  refine (take_ok _ w2 5 21 30 T2 (by omega)).mono ?_
  rintro e w3 ⟨rfl, T3, g3⟩
  have B3 := B2.grown g3 B2.size (fun k e => by cases e; exact Nat.le_refl _)
  go_wp2_with fail
  refine (ivsLeft_any _ w3 _ 21 30 T3).mono ?_
  rintro e w' ⟨rfl, rfl⟩
  go_wp2_with fail
  refine (ivsTop_any _ _ _ 21 30 T3.drew).mono ?_
  rintro e w' ⟨rfl, rfl⟩
  go_wp2
  go_ret
  exact ⟨rfl, B3.drew⟩
end Go.Proofs.Yticfmklpcaoiaaa
