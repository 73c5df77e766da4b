/- Contracts (cellaret): sha.tail, sha.Pad. -/
import Derived.Test.YtaneecmfgfkaaaaDoorShF
namespace Go.Proofs.YtaneecmfgfkaaaaDoor
open Go.RowKit Go.Deep
set_option linter.unusedVariables false
set_option linter.unusedSimpArgs false
theorem info_u8' : (Tryd.prog.info? 5).map (fun i => (i.zero, i.size, i.bytes)) = some (some (.int .u8 0), 1, 1) := by kernel_rfl
def tlen (n : Nat) : Nat := 9 + nz n
/-- Byte j of a tail of which k numbers are set. -/
def tb (n k j : Nat) : UInt8 := if tlen n - k ≤ j then UInt8.ofNat (8 * n / 256 ^ (tlen n - 1 - j) % 256) else if j = 0 then 128 else 0
theorem tb_all (n : Nat) : (List.range (tlen n)).map (tb n 8) = tailL n := by
  unfold tlen tailL
  apply List.ext_getElem?
  intro i
  by_cases h : i < 9 + nz n
  · rw [List.getElem?_map, List.getElem?_range h]
    simp only [Option.map_some]
    cases i with
    | zero =>
      have h1 : ¬ tlen n - 8 ≤ 0 := by unfold tlen; omega
      simp only [tb, if_neg h1, if_pos, List.getElem?_cons_zero]
    | succ i =>
      rw [List.getElem?_cons_succ]
      by_cases hz : i < nz n
      · rw [List.getElem?_append_left (by simpa using hz), List.getElem?_replicate, if_pos hz]
        have h1 : ¬ tlen n - 8 ≤ i + 1 := by unfold tlen; omega
        simp only [tb, if_neg h1]
        simp
      · rw [List.getElem?_append_right (by simpa using (Nat.le_of_not_lt hz)), List.length_replicate, List.getElem?_map, List.getElem?_range (by omega)]
        have h1 : tlen n - 8 ≤ i + 1 := by unfold tlen; omega
        simp only [tb, if_pos h1, Option.map_some]
        congr 3
        congr 2
        unfold tlen
        omega
  · rw [List.getElem?_eq_none (by simp; omega), List.getElem?_eq_none (by simp; omega)]
theorem tb_step (n k : Nat) (hk : k < 8) (j : Nat) (hj : j < tlen n) : tb n (k + 1) j = if j = tlen n - 1 - k then UInt8.ofNat (8 * n / 256 ^ k % 256) else tb n k j := by
  unfold tb
  have hl : 9 ≤ tlen n := by unfold tlen; omega
  by_cases e : j = tlen n - 1 - k
  · rw [if_pos e, if_pos (by omega), show tlen n - 1 - j = k from by omega]
  · rw [if_neg e]
    by_cases h : tlen n - k ≤ j
    · rw [if_pos h, if_pos (by omega)]
    · rw [if_neg h, if_neg (by omega)]
theorem tb_zero (n j : Nat) (hj : j < tlen n) : tb n 0 j = if j = 0 then 128 else 0 := by
  unfold tb
  rw [if_neg (by omega)]
theorem t_byte (n k : Nat) (hk : k < 8) : (n : Int) * 8 / (2 : Int) ^ (8 * k) % 256 = ((UInt8.ofNat (8 * n / 256 ^ k % 256)).toNat : Int) := by
  have h1 : ((8 * n : Nat) : Int) / (2 : Int) ^ (8 * k) = ((8 * n / 256 ^ k : Nat) : Int) := by
    rw [Int.natCast_ediv]
    congr 1
    rw [show (256 : Nat) = 2 ^ 8 from rfl, ← Nat.pow_mul]
    simp
  rw [show (n : Int) * 8 = ((8 * n : Nat) : Int) from by omega, h1, UInt8.toNat_ofNat']
  omega
set_option maxRecDepth 100000 in
set_option maxHeartbeats 1000000 in
theorem tail_any (n : Nat) (w : World) (hn : n ≤ 1125899906842624) :
    Calls Tryd.prog 49 #[.int .i64 (n : Int)] w fun e w' => e = .returned (.slice (some ⟨w.heap.size, 0, none⟩) (tlen n) (tlen n)) ∧ w'.rowIs w.heap.size 5 (tlen n) (fun j => .int .u8 ((tb n 8 j).toNat : Int)) ∧ Below w.heap.size w w' := by
  have hmk := run_make_row' (P := Tryd.prog) 65 5 (.int .u8 0) 1 Tryd.underlying65 info_u8' rfl .i64 .i64 (tlen n) (by unfold tlen nz; omega) (by unfold tlen nz; omega)
  have e1 : (120 - ((n : Int) + 1) % 64) % 64 = (nz n : Int) := by unfold nz; omega
  have e2 : (1 : Int) + (nz n : Int) + 8 = (tlen n : Int) := by unfold tlen; omega
  have hz : nz n ≤ 63 := by unfold nz; omega
  have hl : 9 ≤ tlen n := by unfold tlen; omega
  have hl2 : tlen n ≤ 72 := by unfold tlen; omega
  have hr0 : (w.alloc (.cells (madeCells #[.int .u8 0] (tlen n)) 5)).rowIs w.heap.size 5 (tlen n) (fun _ => .int .u8 0) := World.rowIs_made w _ _ _
  have d0 := hr0.cell (i := 0) (by omega)
  have f0 := hr0.frozen 0
  have HR0 := Lib.hid hr0
  clear hr0
  generalize hL : tlen n = L at *
  have HL := Lib.hid hL
  clear hL
  generalize hZ : nz n = Z at *
  clear hZ
  go_enter Tryd.func49, Tryd.ntmps49
  go_wp2_with fail
  have hr1 : (w.alloc (.cells ((madeCells #[.int .u8 0] L).setIfInBounds 0 (.int .u8 128)) 5)).rowIs w.heap.size 5 L (fun j => .int .u8 ((tb n 0 j).toNat : Int)) := by
    obtain ⟨c, h1, h2, h3⟩ := HR0.out
    have hc : c = madeCells #[.int .u8 0] L := by
      have := (heap_alloc_new w (.cells (madeCells #[.int .u8 0] L) 5)).symm.trans h1
      simp at this
      exact this.symm
    subst hc
    refine ⟨_, heap_alloc_new _ _, by rw [Array.size_setIfInBounds]; exact h2, fun i hi => ?_⟩
    show _ = some (Value.int .u8 ((tb n 0 i).toNat : Int))
    rw [Array.getElem?_setIfInBounds, tb_zero n i (by rw [HL.out]; exact hi)]
    by_cases e : i = 0
    · subst e; rw [if_pos rfl, if_pos (by omega), if_pos rfl]; rfl
    · rw [if_neg (Ne.symm e), if_neg e, h3 i hi]; rfl
  have B1 : Below w.heap.size w (w.alloc (.cells ((madeCells #[.int .u8 0] L).setIfInBounds 0 (.int .u8 128)) 5)) := (Below.refl _ _).alloc (Nat.le_refl _) _
  clear d0 f0 HR0 hmk e1 e2
  generalize w.alloc (.cells ((madeCells #[.int .u8 0] L).setIfInBounds 0 (.int .u8 128)) 5) = w1 at *
  generalize hgt : w.heap.size = gt at *
  have HGT := Lib.hid hgt
  clear hgt
  go_loopw [17] (fun x wi => ∃ k : Nat, x = .int .i64 k ∧ k ≤ 8 ∧ wi.rowIs gt 5 L (fun j => .int .u8 ((tb n k j).toNat : Int)) ∧ Below gt w wi) (fun x _ => 8 - (intOf x).toNat)
  case atStart => exact ⟨0, rfl, by omega, hr1, B1⟩
  case round =>
    obtain ⟨k, rfl, hk, hr, hb⟩ := hrel
    by_cases hlt : k < 8
    · have hli : (k : Int) < 8 := by omega
      have d0 := hr.cell (i := L - 1 - k) (by omega)
      have f0 := hr.frozen (L - 1 - k)
      have HR := Lib.hid hr
      clear hr
      have p0 : 0 ≤ (L : Int) - 1 - k := by omega
      have p1 : (L : Int) - 1 - k < L := by omega
      have p2 : ((L : Int) - 1 - k).toNat = L - 1 - k := by omega
      go_wp2_with fail
      have HB := Lib.hid (t_byte n k hlt)
      go_roundw
      case rel => exact ⟨k + 1, by go_num, by omega, by rw [HB.out]; exact (HR.out.set (L - 1 - k) _).congr (fun j hj => by
          rw [tb_step n k hlt j (by rw [HL.out]; exact hj), HL.out]
          by_cases e : j = L - 1 - k
          · rw [if_pos e, if_pos e]
          · rw [if_neg e, if_neg e]), hb.setCell (p := ⟨gt, _, none⟩) (Nat.le_refl _) _⟩
      case measure => simp [intOf]; omega
    · obtain rfl : k = 8 := by omega
      go_wp2_with fail
      go_ret
      rw [HGT.out]
      exact ⟨rfl, hr, hb⟩
def padB (s : ByteArray) : ByteArray := ⟨(padL s.data.toList).toArray⟩
theorem bytes_ba (s : ByteArray) : s = ⟨s.data.toList.toArray⟩ := by simp
theorem pad_cat (s : ByteArray) : s ++ ⟨(tailL s.data.toList.length).toArray⟩ = padB s := by
  unfold padB padL
  conv => lhs; rw [bytes_ba s]
  rw [bytes_add]
set_option maxRecDepth 100000 in
set_option maxHeartbeats 1000000 in
theorem pad_any (s : ByteArray) (w : World) (hn : s.size ≤ 1125899906842624) :
    Calls Tryd.prog 33 #[.string s] w fun e w' => e = .returned (.string (padB s)) ∧ Below w.heap.size w w' := by
  have HT := Lib.hid (tail_any s.size · hn)
  have HP := Lib.hid (pad_cat s)
  have hl2 : (⟨(tailL s.data.toList.length).toArray⟩ : ByteArray).size ≤ 72 := by rw [bytes_size]; simp [tailL, nz]; omega
  go_enter Tryd.func33, Tryd.ntmps33
  go_wp2_with fail
  refine (HT.out _).mono ?_
  rintro e w1 ⟨rfl, hr, hb⟩
  have hcv := conv_row (P := Tryd.prog) (cap := tlen s.size) (W := tlen s.size) (dst := 9) Tryd.underlying65 Tryd.underlying5 Tryd.underlying9 hr (Nat.le_refl _)
  rw [tb_all s.size] at hcv
  have hsz : s.data.toList.length = s.size := by rw [← Lib.size_eq]
  rw [hsz] at hl2 HP
  generalize hT : (⟨(tailL s.size).toArray⟩ : ByteArray) = T at *
  have a1 : (9223372036854775807 < s.size + T.size) = False := by simp; omega
  clear hr
  go_wp2
  go_ret
  exact ⟨by rw [HP.out]; rfl, hb⟩
end Go.Proofs.YtaneecmfgfkaaaaDoor
