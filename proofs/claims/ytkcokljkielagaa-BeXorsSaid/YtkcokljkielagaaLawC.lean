/- The laws of layer 1: BeXors: walk. -/
import Derived.Test.YtkcokljkielagaaLawA
import Derived.Test.YtkcokljkielagaaRefB
namespace Go.Proofs.Ytkcokljkielagaa
open Go.RowKit Go.Deep

set_option maxRecDepth 100000 in
set_option maxHeartbeats 400000 in
theorem beXors_no (a b : ByteArray) (w : World) (h : Hid (a.size ≠ b.size)) :
    Calls Try.prog 5 #[.string a, .string b] w fun e w' => e = .returned (.bool true) ∧ Below w.heap.size w w' := by
  have hne : ((a.size : Int) != (b.size : Int)) = true := by rw [bne_iff_ne]; have := h.out; omega
  have HX := Lib.hid (fun w => xor_no (w := w) a b h)
  go_enter Try.func5, Try.ntmps5
  go_wp2_with fail
  refine (HX.out _).mono ?_
  rintro e w' ⟨rfl, rfl⟩
  go_wp2_with fail
  refine (awake01 _).mono ?_
  rintro e w3 ⟨rfl, hb3⟩
  go_wp2
  go_ret
  exact ⟨rfl, hb3⟩

set_option maxRecDepth 100000 in
set_option maxHeartbeats 400000 in
theorem beXors_yes (a b : ByteArray) (w : World) (h : Hid (a.size = b.size)) (hm : a.size ≤ 140737488351232) :
    Calls Try.prog 5 #[.string a, .string b] w fun e w' => e = .returned (.bool true) ∧ Below w.heap.size w w' := by
  have hne : ((a.size : Int) != (b.size : Int)) = false := by rw [h.out]; simp
  have hx := fun w => xor_ok a b w h hm
  have hl : (⟨(xorL a.data.toList b.data.toList).toArray⟩ : ByteArray).size = a.size := by rw [bytes_size, xorL_length, Lib.size_eq]
  have hy := fun w => xor_ok ⟨(xorL a.data.toList b.data.toList).toArray⟩ b w (Lib.hid (by rw [hl, h.out])) (by rw [hl]; exact hm)
  have hr := fun w => r01xor_any a b w (by rw [h.out]; omega) hm
  have hba : (⟨(xorL (⟨(xorL a.data.toList b.data.toList).toArray⟩ : ByteArray).data.toList b.data.toList).toArray⟩ : ByteArray) = a := by
    rw [show (⟨(xorL a.data.toList b.data.toList).toArray⟩ : ByteArray).data.toList = xorL a.data.toList b.data.toList from rfl, xorL_back _ _ (by rw [← Lib.size_eq, ← Lib.size_eq, h.out]), Lib.mk_data]
  rw [hba] at hy
  have HX := Lib.hid hx
  have HY := Lib.hid hy
  have HR := Lib.hid hr
  clear hx hy hr hl hba
  generalize (⟨(xorL a.data.toList b.data.toList).toArray⟩ : ByteArray) = x at HX HY HR
  go_enter Try.func5, Try.ntmps5
  go_wp2_with fail
  refine (HX.out _).mono ?_
  rintro e w1 ⟨rfl, hb1⟩
  go_wp2_with fail
  refine (HY.out _).mono ?_
  rintro e w2 ⟨rfl, hb2⟩
  go_wp2_with fail
  refine (awake01 _).mono ?_
  rintro e w3 ⟨rfl, hb3⟩
  go_wp2_with fail
  refine (HR.out _).mono ?_
  rintro e w4 ⟨rfl, hb4⟩
  go_wp2
  go_ret
  exact ⟨rfl, below_trans (below_trans (below_trans hb1 hb2) hb3) hb4⟩

theorem beXors_walk (a b : ByteArray) (w : World) (ha : a.size ≤ 140737488351232) (_hb : b.size ≤ 140737488351232) :
    Calls Try.prog 5 #[.string a, .string b] w fun e w' => e = .returned (.bool true) ∧ Below w.heap.size w w' := by
  by_cases h : a.size = b.size
  · exact beXors_yes a b w (Lib.hid h) ha
  · exact beXors_no a b w (Lib.hid h)
end Go.Proofs.Ytkcokljkielagaa
