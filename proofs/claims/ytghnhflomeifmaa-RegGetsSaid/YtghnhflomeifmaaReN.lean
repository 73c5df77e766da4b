/- Contracts (cellaret): the reference's Get of a register. -/
import Derived.Test.YtghnhflomeifmaaReO
import Derived.Test.YtghnhflomeifmaaReK
namespace Go.Proofs.Ytghnhflomeifmaa
open Go.RowKit Go.Deep
set_option linter.unusedVariables false
set_option linter.unusedSimpArgs false
def RX0 (s : ByteArray) (i : Nat) : Rg := ⟨fun j => if j < i then by_ s j else 0, fun j => if j < i then by_ s (32 + j) else 0, 0, 0, 0, 0, 0, 0, 0, 0, false⟩
def RX1 (s : ByteArray) (i : Nat) : Rg := ⟨fun j => if j < i + 1 then by_ s j else 0, fun j => if j < i then by_ s (32 + j) else 0, 0, 0, 0, 0, 0, 0, 0, 0, false⟩
theorem RX0_zero (s : ByteArray) : RX0 s 0 = R0 := by simp [RX0, R0]
theorem RX1_upd (s : ByteArray) (i : Nat) (hi : i < 32) : ∀ j, j < 73 → rcell (RX1 s i) j = if j = i then .int .u8 ((by_ s i).toNat : Int) else rcell (RX0 s i) j := by
  intro j hj
  by_cases h : j = i
  · subst h; simp [rcell, RX1, hi]
  · rw [if_neg h]
    by_cases q0 : j < 32
    · simp only [rcell, if_pos q0, RX1, RX0]
      by_cases q : j < i
      · rw [if_pos q, if_pos (by omega)]
      · rw [if_neg q, if_neg (by omega)]
    · simp only [rcell, if_neg q0]
      rfl
theorem RX0_upd (s : ByteArray) (i : Nat) (hi : i < 32) : ∀ j, j < 73 → rcell (RX0 s (i + 1)) j = if j = 32 + i then .int .u8 ((by_ s (32 + i)).toNat : Int) else rcell (RX1 s i) j := by
  intro j hj
  by_cases h : j = 32 + i
  · subst h
    have h1 : ¬ 32 + i < 32 := by omega
    have h2 : 32 + i < 64 := by omega
    simp [rcell, RX0, h1, h2]
  · rw [if_neg h]
    by_cases q0 : j < 32
    · simp only [rcell, if_pos q0]
      rfl
    · by_cases q1 : j < 64
      · simp only [rcell, if_neg q0, if_pos q1, RX1, RX0]
        by_cases q : j - 32 < i
        · rw [if_pos q, if_pos (by omega)]
        · rw [if_neg q, if_neg (by omega)]
      · simp only [rcell, if_neg q0, if_neg q1]
        rfl
theorem RX_alk (s : ByteArray) : Alk { RX0 s 32 with ep := num s 64 4, iv := num s 68 8, a0 := ((by_ s 76).toNat : Int), a1 := ((by_ s 78).toNat : Int), u0 := ((by_ s 77).toNat : Int), u1 := ((by_ s 79).toNat : Int), di := ((by_ s 80).toNat : Int), mo := ((by_ s 81).toNat : Int), at_ := ((by_ s 82).toNat : Int) == 1 } (RX s) :=
  ⟨fun j hj => by simp [RX0, RX, hj], fun j hj => by simp [RX0, RX, hj], rfl, rfl, rfl, rfl, rfl, rfl, rfl, rfl, rfl⟩
attribute [local irreducible] num by_ RX RX0 RX1 rcells zz96
set_option maxRecDepth 100000 in
set_option maxHeartbeats 800000 in
theorem r11get_len (s : ByteArray) (w : World) (h : s.size ≠ 96) : Calls Try.prog 12 #[.string s] w fun e w' => e = .returned (.tuple #[.agg (rcells R0), .int .i64 6]) ∧ Below w.heap.size w w' := by
  obtain ⟨w0, HE, HR0, B0⟩ := box_reg w R0
  have hG : w0.heap[w.heap.size]? = some (.cells (rcells R0) 27 (0, 0)) := HR0
  have hzv := zero_reg
  have ht : ((s.size : Int) != 96) = true := by simp; omega
  go_enter Try.func12, Try.ntmps12
  go_upto_region 1 with fail
  rw [HE.out]
  clear HE
  go_wp2_with (refine wpList_store_row rfl _ _ _ rfl w.heap.size (rcells R0) rfl rfl 27 _ hG (by rw [rcells_size]; kernel_rfl) (by rw [rcells_size]) (rcells_one _) ?_)
  refine bodyPost_ret_by (results_ct rfl _ _ w.heap.size 27 (rcells R0) (0, 0) _ rfl (setRow_heap _ _ _ (rcells R0) 27 (0, 0) hG) Try.underlying27 rfl (by rw [rcells_size]; kernel_rfl)) rfl ⟨rfl, ?_⟩
  exact below_setRow B0 (Nat.le_refl _) _
theorem zeros96 : Hid (∀ w, Calls Try.prog 15 #[.int .i64 96] w fun e w' => e = .returned (.string zz96) ∧ Below w.heap.size w w') := Lib.hid (fun w => by have := zeros_any 96 w (by omega); rw [show (⟨(List.replicate 96 (0 : UInt8)).toArray⟩ : ByteArray) = zz96 from by with_unfolding_all rfl] at this; exact this)
set_option maxRecDepth 100000 in
set_option maxHeartbeats 800000 in
theorem r11get_zero (w : World) : Calls Try.prog 12 #[.string zz96] w fun e w' => e = .returned (.tuple #[.agg (rcells R0), .int .i64 19]) ∧ Below w.heap.size w w' := by
  obtain ⟨w0, HE, HR0, B0⟩ := box_reg w R0
  have hzv := zero_reg
  have HZ := zeros96
  have hs := zz96_size
  go_enter Try.func12, Try.ntmps12
  go_upto_region 1 with fail
  rw [HE.out]
  clear HE
  go_wp2_with fail
  refine (HZ.out _).mono ?_
  rintro e w1 ⟨rfl, b1⟩
  have HR1 := HR0.below b1 HR0.lt
  have hG : w1.heap[w.heap.size]? = some (.cells (rcells R0) 27 (0, 0)) := HR1
  have B1 := B0.trans (b1.mono B0.size)
  go_wp2_with (refine wpList_store_row rfl _ _ _ rfl w.heap.size (rcells R0) rfl rfl 27 _ hG (by rw [rcells_size]; kernel_rfl) (by rw [rcells_size]) (rcells_one _) ?_)
  refine bodyPost_ret_by (results_ct rfl _ _ w.heap.size 27 (rcells R0) (0, 0) _ rfl (setRow_heap _ _ _ (rcells R0) 27 (0, 0) hG) Try.underlying27 rfl (by rw [rcells_size]; kernel_rfl)) rfl ⟨rfl, ?_⟩
  exact below_setRow B1 (Nat.le_refl _) _
end Go.Proofs.Ytghnhflomeifmaa
