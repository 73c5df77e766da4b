/- Package plan: the reference's Zeros, Full and Ints; images of a law. -/
import Derived.Test.YtnlgkhggokloeaaPlN
import Derived.Laws.Concat
import Derived.Deep.QuietTactic
import Derived.BigQuiet
namespace Go.Proofs.Ytnlgkhggokloeaa
open Go.RowKit Go.Deep
set_option linter.unusedVariables false
set_option linter.unusedSimpArgs false
theorem info_u8z : (Try.prog.info? 5).map (fun i => (i.zero, i.size, i.bytes)) = some (some (.int .u8 0), 1, 1) := by kernel_rfl
theorem replicate_mapz (n : Nat) : (List.range n).map (fun _ => (0 : UInt8)) = List.replicate n 0 := by
  apply List.ext_getElem?
  intro i
  by_cases h : i < n <;> simp [h]
set_option maxRecDepth 100000 in
set_option maxHeartbeats 400000 in
theorem zeros_anyz (n : Nat) (w : World) (h : n ≤ 140737488351232) :
    Calls Try.prog 31 #[.int .i64 n] w fun e w' => e = .returned (.string ⟨(List.replicate n 0).toArray⟩) ∧ Below w.heap.size w w' := by
  have hmk := run_make_row' (P := Try.prog) 52 5 (.int .u8 0) 1 Try.underlying52 info_u8z rfl .i64 .i64 n (by omega) (by omega)
  have hcv := conv_row (P := Try.prog) (cap := n) (W := n) (dst := 9) (f := fun _ => 0) Try.underlying52 Try.underlying5 Try.underlying9 (World.rowIs_made w (.int .u8 0) n 5) (Nat.le_refl _)
  rw [replicate_mapz] at hcv
  generalize List.replicate n (0 : UInt8) = l at hcv ⊢
  go_enter Try.func31, Try.ntmps31
  go_wp2
  go_ret
  exact ⟨rfl, (Below.refl _ _).alloc (Nat.le_refl _) _⟩
/-- A text, and bytes 0 behind it. -/
def fullL (l : List UInt8) (W : Nat) : List UInt8 := l ++ List.replicate (W - l.length) 0
theorem fullL_len (l : List UInt8) (W : Nat) (h : l.length ≤ W) : (fullL l W).length = W := by unfold fullL; simp; omega
set_option maxRecDepth 100000 in
set_option maxHeartbeats 400000 in
theorem full_anyz (s : ByteArray) (W : Nat) (w : World) (h : W ≤ 140737488351232) (hs : s.size ≤ 1000000000000000) :
    Calls Try.prog 23 #[.string s, .int .i64 W] w fun e w' => e = .returned (.string ⟨(fullL s.data.toList W).toArray⟩) ∧ Below w.heap.size w w' := by
  by_cases hb : W ≤ s.size
  · have e1 : (⟨(fullL s.data.toList W).toArray⟩ : ByteArray) = s := by
      have : fullL s.data.toList W = s.data.toList := by
        unfold fullL
        rw [show W - s.data.toList.length = 0 from by rw [← Lib.size_eq]; omega]
        simp
      rw [this, Lib.mk_data]
    rw [e1]
    clear e1
    go_enter Try.func23, Try.ntmps23
    go_wp2
    go_ret
    exact ⟨rfl, Below.refl _ _⟩
  · have hz := fun w => zeros_anyz (W - s.size) w (by omega)
    have hsz : (⟨(List.replicate (W - s.size) (0 : UInt8)).toArray⟩ : ByteArray).size = W - s.size := by rw [bytes_size]; simp
    have hc : s ++ (⟨(List.replicate (W - s.size) (0 : UInt8)).toArray⟩ : ByteArray) = ⟨(fullL s.data.toList W).toArray⟩ := by
      unfold fullL
      rw [← bytes_add, Lib.mk_data, Lib.size_eq]
    have HZ := Lib.hid hz
    have HSZ := Lib.hid hsz
    have HC := Lib.hid hc
    clear hz hsz hc
    generalize (⟨(List.replicate (W - s.size) (0 : UInt8)).toArray⟩ : ByteArray) = z at HZ HSZ HC
    have hadd : ∀ V : World, (Op.stringOp .add s z).run Try.prog V = .ok (.string (s ++ z)) V := fun V => run_string_add_sum V s z (by rw [HSZ.out]; omega)
    rw [← HC.out]
    clear HC
    have hlt : s.size < W := by omega
    clear hb
    go_enter Try.func23, Try.ntmps23
    go_wp2_with fail
    rw [show ((W : Int) - (s.size : Int)) = ((W - s.size : Nat) : Int) from by omega]
    refine (HZ.out _).mono ?_
    rintro e w1 ⟨rfl, hb1⟩
    go_wp2
    go_ret
    exact ⟨rfl, hb1⟩
/-- Where a slice of numbers lies. -/
def IntsAt (w : World) (ao : Option Addr) (len : Nat) (zs : List Int) : Prop :=
  0 < len → ∃ b off, ao = some ⟨b, off, none⟩ ∧ b < w.heap.size ∧ ∀ i, i < len → w.cell? ⟨b, off + i, none⟩ = some (.int .i64 (zs.getD i 0))
theorem IntsAt.below {w w' : World} {ao : Option Addr} {len : Nat} {zs : List Int} (h : IntsAt w ao len zs) (hb : Below w.heap.size w w') : IntsAt w' ao len zs := fun hp => by
  obtain ⟨b, off, h1, h2, h3⟩ := h hp
  exact ⟨b, off, h1, Nat.lt_of_lt_of_le h2 hb.size, fun i hi => (hb.cell (p := ⟨b, off + i, none⟩) h2).trans (h3 i hi)⟩

theorem IntsAt.own {w : World} {base : Nat} {e : TypeId} {ao : Option Addr} {len cap : Nat} {zs : List Int} (h : w.ownsRow base e 1 (.slice ao len cap) zs.length (zs.map (Value.int .i64))) : len = zs.length ∧ IntsAt w ao len zs := by
  rcases h.2 with ⟨h0, h1⟩ | ⟨g, cap', cur, h0, hb, hg, _⟩
  · simp only [Value.slice.injEq] at h0
    obtain ⟨rfl, rfl, rfl⟩ := h0
    exact ⟨h1.symm, fun hp => absurd hp (by omega)⟩
  · simp only [Value.slice.injEq] at h0
    obtain ⟨rfl, rfl, rfl⟩ := h0
    refine ⟨rfl, fun hp => ⟨g, 0, rfl, (Array.getElem?_eq_some_iff.1 hg).1, fun i hi => ?_⟩⟩
    have := h.cells (g := g) rfl i (.int .i64 (zs.getD i 0)) (by simp [List.getD, hi])
    simpa [Addr.add_lit] using this
set_option maxRecDepth 100000 in
set_option maxHeartbeats 400000 in
theorem ints_raw (a b : Option Addr) (m n c d : Nat) (zs ys : List Int) (w : World) (hz : zs.length = m) (hy : ys.length = n) (ha : IntsAt w a m zs) (hb : IntsAt w b n ys) (hm : m ≤ maxLen) (r : Bool) (hr : Hid (decide (zs = ys) = r)) :
    Calls Try.prog 21 #[.slice a m c, .slice b n d] w fun e w' => e = .returned (.bool r) ∧ Below w.heap.size w w' := by
  by_cases hmn : m = n
  · subst hmn
    have HA := Lib.hid ha
    have HB := Lib.hid hb
    clear ha hb
    have hmm : m ≤ 9223372036854775807 := hm
    go_enter Try.func21, Try.ntmps21
    go_wp2
    go_loopw [5] (fun x wi => ∃ i : Nat, x = .int .i64 i ∧ i ≤ m ∧ Hid (∀ j, j < i → zs.getD j 0 = ys.getD j 0) ∧ ∃ q, wi = w.drewN q)
      (fun x _ => m - (intOf x).toNat)
    case atStart => exact ⟨0, rfl, by omega, Lib.hid (fun j hj => absurd hj (by omega)), 0, rfl⟩
    case round =>
      obtain ⟨i, rfl, hi, HE, q, rfl⟩ := hrel
      by_cases hlt : i < m
      · obtain ⟨b1, o1, rfl, _, h1⟩ := HA.out (by omega)
        obtain ⟨b2, o2, rfl, _, h2⟩ := HB.out (by omega)
        have c1 : (w.drewN q).cell? ⟨b1, o1 + i, none⟩ = _ := h1 i hlt
        have c2 : (w.drewN q).cell? ⟨b2, o2 + i, none⟩ = _ := h2 i hlt
        clear h1 h2
        by_cases he : zs.getD i 0 = ys.getD i 0
        · have HE2 : Hid (∀ j, j < i + 1 → zs.getD j 0 = ys.getD j 0) := Lib.hid (fun j hj => by
            by_cases e : j = i
            · rw [e]; exact he
            · exact HE.out j (by omega))
          rw [he] at c1
          generalize ys.getD i 0 = y at c1 c2
          clear he
          generalize hwq : w.drewN q = wq at c1 c2 ⊢
          have HW := Lib.hid hwq
          clear hwq
          go_wp2
          go_quiet (fail)
          go_wp2
          go_roundw
          case rel => exact ⟨i + 1, by go_num, by omega, HE2, _, by rw [← HW.out]; exact (World.drewN_drewN _ _ _)⟩
          case measure => simp [intOf]; omega
        · have er : r = false := by
            rw [← hr.out, decide_eq_false_iff_not]
            rintro rfl
            exact he rfl
          subst er
          have hne : (zs.getD i 0 != ys.getD i 0) = true := by rw [bne_iff_ne]; exact he
          clear he hr
          generalize zs.getD i 0 = z at c1 hne
          generalize ys.getD i 0 = y at c2 hne
          have hbq : Below w.heap.size w (w.drewN q) := below_drewN (Below.refl _ _) _
          generalize w.drewN q = wq at c1 c2 hbq ⊢
          go_wp2
          go_quiet (fail)
          go_wp2
          go_ret
          exact ⟨rfl, below_drewN hbq _⟩
      · obtain rfl : i = m := by omega
        have er : r = true := by
          rw [← hr.out, decide_eq_true_iff]
          refine List.ext_getElem (by rw [hz, hy]) (fun j h1 h2 => ?_)
          have := HE.out j (by omega)
          simpa [List.getD, h1, h2] using this
        subst er
        have hbq : Below w.heap.size w (w.drewN q) := below_drewN (Below.refl _ _) _
        go_wp2
        go_ret
        exact ⟨rfl, hbq⟩
  · have er : r = false := by
      rw [← hr.out, decide_eq_false_iff_not]
      rintro rfl
      exact hmn (hz.symm.trans hy)
    subst er
    have hne : ((m : Int) != (n : Int)) = true := by rw [bne_iff_ne]; omega
    clear hmn hr
    go_enter Try.func21, Try.ntmps21
    go_wp2
    go_ret
    exact ⟨rfl, Below.refl _ _⟩

/-- An image of so many bytes as are said. -/
def imgA (s : ByteArray) : ByteArray := ⟨(fullL (if 18432 < s.size then s.extract 0 18432 else s).data.toList 18432).toArray⟩
theorem imgA_size (s : ByteArray) : (imgA s).size = 18432 := by
  unfold imgA
  rw [bytes_size]
  refine fullL_len _ _ ?_
  split
  · rw [show ((s.extract 0 18432).data.toList).length = (s.extract 0 18432).size from Array.length_toList, ByteArray.size_extract]; omega
  · rw [show (s.data.toList).length = s.size from Array.length_toList]; omega
def imgO (s : ByteArray) (odd : Bool) : ByteArray := if odd then (imgA s).extract 1 18432 else imgA s
theorem imgO_size (s : ByteArray) (odd : Bool) : (imgO s odd).size ≤ 18432 := by
  unfold imgO
  split
  · rw [ByteArray.size_extract]; omega
  · exact Nat.le_of_eq (imgA_size s)
set_option maxRecDepth 100000 in
set_option maxHeartbeats 4000000 in
theorem image_any (s : ByteArray) (odd : Bool) (w : World) (hs : s.size ≤ 1000000000000000) : Calls Try.prog 16 #[.string s, .bool odd] w fun e w' => e = .returned (.string (imgO s odd)) ∧ Below w.heap.size w w' := by
  have hsz := imgA_size s
  by_cases hb : 18432 < s.size
  · have HI : Hid (imgA s = ⟨(fullL (s.extract 0 18432).data.toList 18432).toArray⟩) := Lib.hid (by unfold imgA; rw [if_pos hb])
    have CF := Lib.hid (full_anyz (s.extract 0 18432) 18432 w (by omega) (by rw [ByteArray.size_extract]; omega))
    rw [← HI.out] at CF
    have HO : Hid (imgO s odd = if odd then (imgA s).extract 1 18432 else imgA s) := Lib.hid rfl
    rw [HO.out]
    clear HI HO
    generalize imgA s = x at *
    have h0 : (18432 : Int) < (s.size : Int) := by omega
    have h1 : (18432 : Int) ≤ (s.size : Int) := by omega
    go_enter Try.func16, Try.ntmps16
    go_wp2_with fail
    refine CF.out.mono ?_
    rintro e w1 ⟨rfl, hb1⟩
    cases odd
    · go_wp2_with fail
      go_ret
      exact ⟨rfl, hb1⟩
    · go_wp2_with fail
      go_ret
      exact ⟨rfl, hb1⟩
  · have HI : Hid (imgA s = ⟨(fullL s.data.toList 18432).toArray⟩) := Lib.hid (by unfold imgA; rw [if_neg hb])
    have CF := Lib.hid (full_anyz s 18432 w (by omega) hs)
    rw [← HI.out] at CF
    have HO : Hid (imgO s odd = if odd then (imgA s).extract 1 18432 else imgA s) := Lib.hid rfl
    rw [HO.out]
    clear HI HO
    generalize imgA s = x at *
    have h0 : ¬ (18432 : Int) < (s.size : Int) := by omega
    go_enter Try.func16, Try.ntmps16
    go_wp2_with fail
    refine CF.out.mono ?_
    rintro e w1 ⟨rfl, hb1⟩
    cases odd
    · go_wp2_with fail
      go_ret
      exact ⟨rfl, hb1⟩
    · go_wp2_with fail
      go_ret
      exact ⟨rfl, hb1⟩
end Go.Proofs.Ytnlgkhggokloeaa
