/- Contracts of package be (cellaret): Pad; the reference's Zeros and Full. -/
import Derived.Test.YthhgodfgigcacaaBeD
import Derived.Test.YthhgodfgigcacaaLibC
import Derived.Test.YthhgodfgigcacaaCpy
namespace Go.Proofs.Ythhgodfgigcacaa
open Go.RowKit Go.Deep
set_option linter.unusedVariables false

/-- A text, and zeros behind it. -/
def zpadL (l : List UInt8) (W : Nat) : List UInt8 := l ++ List.replicate (W - l.length) 0
theorem zpadL_eq (l : List UInt8) (W : Nat) (h : l.length ≤ W) : (List.range W).map (fun j => if j < l.length then l[j]?.getD 0 else 0) = zpadL l W := by
  apply List.ext_getElem?
  intro i
  unfold zpadL
  by_cases hi : i < W
  · by_cases hl : i < l.length
    · rw [List.getElem?_append_left hl]
      simp [hi, hl]
    · rw [List.getElem?_append_right (by omega), List.getElem?_replicate]
      simp [hi, hl]
      omega
  · simp [hi]; omega

theorem Try.size_u8 : (Try.prog.info? 5).map (·.size) = some 1 := by kernel_rfl

theorem conv_padded {w : World} {b cap W : Nat} {s : ByteArray} (h : w.rowIs b 5 W (fun j => if j < s.size then .int .u8 ((s.data.toList[j]?.getD 0).toNat : Int) else .int .u8 0)) (hs : s.size ≤ W) :
    (convert 73 9 (.slice (some ⟨b, 0, none⟩) W cap)).run Try.prog w = .ok (.string ⟨(zpadL s.data.toList W).toArray⟩) w := by
  have := conv_row (P := Try.prog) (cap := cap) (W := W) (dst := 9) (f := fun j => if j < s.data.toList.length then s.data.toList[j]?.getD 0 else 0) Try.underlying73 Try.underlying5 Try.underlying9 (h.congr (fun i hi => by
    show (if i < s.size then _ else _) = _
    rw [← Lib.size_eq]
    by_cases hl : i < s.size
    · rw [if_pos hl, if_pos hl]
    · rw [if_neg hl, if_neg hl]; rfl)) (Nat.le_refl _)
  rw [zpadL_eq _ _ (by rw [← Lib.size_eq]; exact hs)] at this
  exact this

theorem replicate_map (n : Nat) : (List.range n).map (fun _ => (0 : UInt8)) = List.replicate n 0 := by
  apply List.ext_getElem?
  intro i
  by_cases h : i < n <;> simp [h]
set_option maxRecDepth 100000 in
set_option maxHeartbeats 400000 in
theorem zeros_any (n : Nat) (w : World) (h : n ≤ 140737488351232) :
    Calls Try.prog 46 #[.int .i64 n] w fun e w' => e = .returned (.string ⟨(List.replicate n 0).toArray⟩) ∧ Below w.heap.size w w' := by
  have hmk := run_make_row' (P := Try.prog) 73 5 (.int .u8 0) 1 Try.underlying73 Try.info_u8 rfl .i64 .i64 n (by omega) (by omega)
  have hcv := conv_row (P := Try.prog) (cap := n) (W := n) (dst := 9) (f := fun _ => 0) Try.underlying73 Try.underlying5 Try.underlying9 (World.rowIs_made w (.int .u8 0) n 5) (Nat.le_refl _)
  rw [replicate_map] at hcv
  generalize List.replicate n (0 : UInt8) = l at hcv ⊢
  go_enter Try.func46, Try.ntmps46
  go_wp2
  go_ret
  exact ⟨rfl, (Below.refl _ _).alloc (Nat.le_refl _) _⟩
set_option maxRecDepth 100000 in
set_option maxHeartbeats 400000 in
theorem full_any (s : ByteArray) (W : Nat) (w : World) (h : W ≤ 140737488351232) (hs : s.size ≤ 1000000000000000) :
    Calls Try.prog 26 #[.string s, .int .i64 W] w fun e w' => e = .returned (.string ⟨(zpadL s.data.toList W).toArray⟩) ∧ Below w.heap.size w w' := by
  by_cases hb : W ≤ s.size
  · have e1 : (⟨(zpadL s.data.toList W).toArray⟩ : ByteArray) = s := by
      have : zpadL s.data.toList W = s.data.toList := by
        unfold zpadL
        rw [show W - s.data.toList.length = 0 from by rw [← Lib.size_eq]; omega]
        simp
      rw [this, Lib.mk_data]
    rw [e1]
    clear e1
    go_enter Try.func26, Try.ntmps26
    go_wp2
    go_ret
    exact ⟨rfl, Below.refl _ _⟩
  · have hz := fun w => zeros_any (W - s.size) w (by omega)
    have hsz : (⟨(List.replicate (W - s.size) (0 : UInt8)).toArray⟩ : ByteArray).size = W - s.size := by rw [bytes_size]; simp
    have hc : s ++ (⟨(List.replicate (W - s.size) (0 : UInt8)).toArray⟩ : ByteArray) = ⟨(zpadL s.data.toList W).toArray⟩ := by
      unfold zpadL
      rw [← bytes_add, Lib.mk_data, Lib.size_eq]
    have HZ := Lib.hid hz
    have HSZ := Lib.hid hsz
    have HC := Lib.hid hc
    clear hz hsz hc
    generalize (⟨(List.replicate (W - s.size) (0 : UInt8)).toArray⟩ : ByteArray) = z at HZ HSZ HC
    have hadd : ∀ V : World, (Op.stringOp .add s z).run Try.prog V = .ok (.string (s ++ z)) V := fun V => run_string_add_sum V s z (by rw [HSZ.out]; omega)
    rw [← HC.out]
    clear HC
    have hlt : s.size < W := by omega
    clear hb
    go_enter Try.func26, Try.ntmps26
    go_wp2_with fail
    rw [show ((W : Int) - (s.size : Int)) = ((W - s.size : Nat) : Int) from by omega]
    refine (HZ.out _).mono ?_
    rintro e w1 ⟨rfl, hb1⟩
    go_wp2
    go_ret
    exact ⟨rfl, hb1⟩
end Go.Proofs.Ythhgodfgigcacaa
