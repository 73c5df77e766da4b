/- The reference's Zeros and Full, for seats that sum; numbers compared. -/
import Derived.Test.YtaneecmfgfkaaaaDoorSpC
import Derived.Laws.Concat
import Derived.Deep.QuietTactic
import Derived.BigQuiet
namespace Go.Proofs.YtaneecmfgfkaaaaDoor
open Go.RowKit Go.Deep
set_option linter.unusedVariables false
set_option linter.unusedSimpArgs false
theorem info_u8z : (Tryd.prog.info? 5).map (fun i => (i.zero, i.size, i.bytes)) = some (some (.int .u8 0), 1, 1) := by kernel_rfl
theorem replicate_mapz (n : Nat) : (List.range n).map (fun _ => (0 : UInt8)) = List.replicate n 0 := by
  apply List.ext_getElem?
  intro i
  by_cases h : i < n <;> simp [h]
set_option maxRecDepth 100000 in
set_option maxHeartbeats 400000 in
theorem zeros_anyz (n : Nat) (w : World) (h : n ≤ 140737488351232) :
    Calls Tryd.prog 30 #[.int .i64 n] w fun e w' => e = .returned (.string ⟨(List.replicate n 0).toArray⟩) ∧ Below w.heap.size w w' := by
  have hmk := run_make_row' (P := Tryd.prog) 65 5 (.int .u8 0) 1 Tryd.underlying65 info_u8z rfl .i64 .i64 n (by omega) (by omega)
  have hcv := conv_row (P := Tryd.prog) (cap := n) (W := n) (dst := 9) (f := fun _ => 0) Tryd.underlying65 Tryd.underlying5 Tryd.underlying9 (World.rowIs_made w (.int .u8 0) n 5) (Nat.le_refl _)
  rw [replicate_mapz] at hcv
  generalize List.replicate n (0 : UInt8) = l at hcv ⊢
  go_enter Tryd.func30, Tryd.ntmps30
  go_wp2
  go_ret
  exact ⟨rfl, (Below.refl _ _).alloc (Nat.le_refl _) _⟩
/-- A text, and bytes 0 behind it. -/
def fullL (l : List UInt8) (W : Nat) : List UInt8 := l ++ List.replicate (W - l.length) 0
theorem fullL_len (l : List UInt8) (W : Nat) (h : l.length ≤ W) : (fullL l W).length = W := by unfold fullL; simp; omega
set_option maxRecDepth 100000 in
set_option maxHeartbeats 400000 in
theorem full_anyz (s : ByteArray) (W : Nat) (w : World) (h : W ≤ 140737488351232) (hs : s.size ≤ 1000000000000000) :
    Calls Tryd.prog 36 #[.string s, .int .i64 W] w fun e w' => e = .returned (.string ⟨(fullL s.data.toList W).toArray⟩) ∧ Below w.heap.size w w' := by
  by_cases hb : W ≤ s.size
  · have e1 : (⟨(fullL s.data.toList W).toArray⟩ : ByteArray) = s := by
      have : fullL s.data.toList W = s.data.toList := by
        unfold fullL
        rw [show W - s.data.toList.length = 0 from by rw [← Lib.size_eq]; omega]
        simp
      rw [this, Lib.mk_data]
    rw [e1]
    clear e1
    go_enter Tryd.func36, Tryd.ntmps36
    go_wp2
    go_ret
    exact ⟨rfl, Below.refl _ _⟩
  · have hz := fun w => zeros_anyz (W - s.size) w (by omega)
    have hsz : (⟨(List.replicate (W - s.size) (0 : UInt8)).toArray⟩ : ByteArray).size = W - s.size := by rw [bytes_size]; simp
    have hc : s ++ (⟨(List.replicate (W - s.size) (0 : UInt8)).toArray⟩ : ByteArray) = ⟨(fullL s.data.toList W).toArray⟩ := by
      unfold fullL
      rw [← bytes_add, Lib.mk_data, Lib.size_eq]
    have HZ := Lib.hid hz
    have HSZ := Lib.hid hsz
    have HC := Lib.hid hc
    clear hz hsz hc
    generalize (⟨(List.replicate (W - s.size) (0 : UInt8)).toArray⟩ : ByteArray) = z at HZ HSZ HC
    have hadd : ∀ V : World, (Op.stringOp .add s z).run Tryd.prog V = .ok (.string (s ++ z)) V := fun V => run_string_add_sum V s z (by rw [HSZ.out]; omega)
    rw [← HC.out]
    clear HC
    have hlt : s.size < W := by omega
    clear hb
    go_enter Tryd.func36, Tryd.ntmps36
    go_wp2_with fail
    rw [show ((W : Int) - (s.size : Int)) = ((W - s.size : Nat) : Int) from by omega]
    refine (HZ.out _).mono ?_
    rintro e w1 ⟨rfl, hb1⟩
    go_wp2
    go_ret
    exact ⟨rfl, hb1⟩
set_option maxRecDepth 100000 in
set_option maxHeartbeats 1000000 in
theorem ints_same (L : List Nat) (g1 g2 c d : Nat) (w : World) (h1 : NAt w g1 L) (h2 : NAt w g2 L) (hl : L.length ≤ 1000) :
    Calls Tryd.prog 45 #[.slice (some ⟨g1, 0, none⟩) L.length c, .slice (some ⟨g2, 0, none⟩) L.length d] w fun e w' => e = .returned (.bool true) ∧ Below w.heap.size w w' := by
  have HA := Lib.hid h1
  have HB := Lib.hid h2
  clear h1 h2
  generalize hm : L.length = m at *
  have HM := Lib.hid hm
  clear hm
  go_enter Tryd.func45, Tryd.ntmps45
  go_wp2
  go_loopw [5] (fun x wi => ∃ i : Nat, x = .int .i64 i ∧ i ≤ m ∧ ∃ q, wi = w.drewN q) (fun x _ => m - (intOf x).toNat)
  case atStart => exact ⟨0, rfl, by omega, 0, rfl⟩
  case round =>
    obtain ⟨i, rfl, hi, q, rfl⟩ := hrel
    by_cases hlt : i < m
    · have c1 : (w.drewN q).cell? ⟨g1, i, none⟩ = _ := HA.out.cell i (by rw [HM.out]; exact hlt)
      have c2 : (w.drewN q).cell? ⟨g2, i, none⟩ = _ := HB.out.cell i (by rw [HM.out]; exact hlt)
      generalize lget L i = y at c1 c2
      generalize hwq : w.drewN q = wq at c1 c2 ⊢
      have HW := Lib.hid hwq
      clear hwq
      go_wp2
      go_quiet (fail)
      go_wp2
      go_roundw
      case rel => exact ⟨i + 1, by go_num, by omega, _, by rw [← HW.out]; exact (World.drewN_drewN _ _ _)⟩
      case measure => simp [intOf]; omega
    · obtain rfl : i = m := by omega
      have hbq : Below w.heap.size w (w.drewN q) := below_drewN (Below.refl _ _) _
      go_wp2
      go_ret
      exact ⟨rfl, hbq⟩
end Go.Proofs.YtaneecmfgfkaaaaDoor
