/- The law ShaSums. -/
import Derived.Test.YtndhegdhkoileaaDoorSiG
import Derived.Test.YtndhegdhkoileaaDoorSiI
namespace Go.Proofs.YtndhegdhkoileaaDoor
open Go.RowKit Go.Deep
set_option linter.unusedVariables false
set_option linter.unusedSimpArgs false
attribute [local irreducible] work layV padL digA sumL padB
set_option maxRecDepth 100000 in
set_option maxHeartbeats 1000000 in
theorem shaSums_walk (s : ByteArray) (w : World) (hs : s.size ≤ 140737488351232) (hG : Gl w) : Calls Tryd.prog 3 #[.string s] w fun e w' => e = .returned (.bool true) ∧ Below w.heap.size w w' := by
  by_cases h : s.size ≤ 300
  · have h' : ¬ (300 : Int) < (s.size : Int) := by omega
    have H1 := Lib.hid (fun w hw => sum_any s w (by omega) hw)
    have H2 := Lib.hid (fun w => sumR_any s w h)
    have H3 := Lib.hid (fun w => pad_any s w (by omega))
    have H4 := Lib.hid (fun w => padded_any s w h)
    have hed := eql_dig (sumL s.data.toList) (sumL_len _)
    generalize digA (sumL s.data.toList) = D at *
    generalize padB s = P at *
    go_enter Tryd.func3, Tryd.ntmps3
    go_wp2_with fail
    refine (awake_any _ hG).mono ?_
    rintro e w1 ⟨rfl, B1⟩
    have G1 := hG.below B1
    go_wp2_with fail
    refine (H1.out _ G1).mono ?_
    rintro e w2 ⟨rfl, b2⟩
    have B2 := B1.trans (b2.mono B1.size)
    clear b2 B1 G1
    go_wp2_with fail
    refine (H2.out _).mono ?_
    rintro e w3 ⟨rfl, b3⟩
    have B3 := B2.trans (b3.mono B2.size)
    clear b3 B2
    go_wp2_with fail
    refine (H3.out _).mono ?_
    rintro e w4 ⟨rfl, b4⟩
    have B4 := B3.trans (b4.mono B3.size)
    clear b4 B3
    go_wp2_with fail
    refine (H4.out _).mono ?_
    rintro e w5 ⟨rfl, b5⟩
    have B5 := B4.trans (b5.mono B4.size)
    clear b5 B4
    go_wp2_with fail
    go_ret
    exact ⟨rfl, B5⟩
  · have h' : (300 : Int) < (s.size : Int) := by omega
    go_enter Tryd.func3, Tryd.ntmps3
    go_wp2_with fail
    refine (awake_any _ hG).mono ?_
    rintro e w1 ⟨rfl, B1⟩
    go_wp2_with fail
    go_ret
    exact ⟨rfl, B1⟩
end Go.Proofs.YtndhegdhkoileaaDoor
