/- The law's data (flat). -/
import Derived.Test.YtaemnelfnopjdaaFaV
namespace Go.Proofs.Ytaemnelfnopjdaa
open Go.RowKit Go.Deep Go.Maps
set_option linter.unusedVariables false
set_option linter.unusedSimpArgs false
/-- An act. -/
structure AcF where
  k : Int
  a : Int
  n : Int
  c : UInt8
  o : Bool
def acV (x : AcF) : Value := .agg #[.int .i64 x.k, .int .i64 x.a, .int .i64 x.n, .int .u8 (x.c.toNat : Int), .bool x.o]
def daN (n : Int) : Nat := (min (max n 0) 70).toNat
def daL (x : AcF) : List UInt8 := List.replicate (48 * daN x.n) x.c ++ (if x.o = true then [x.c] else [])
theorem datN_le (n : Int) : daN n ≤ 70 := by unfold daN; omega
theorem datL_len (x : AcF) : (daL x).length ≤ 3361 := by
  have := datN_le x.n
  unfold daL
  rw [List.length_append, List.length_replicate]
  split <;> simp <;> omega
def daB (x : AcF) : ByteArray := ⟨(daL x).toArray⟩
theorem datB_size (x : AcF) : (daB x).size ≤ 3361 := by unfold daB; rw [bytes_size]; exact datL_len x
theorem row_list {w : World} {g n : Nat} {c : UInt8} (h : w.rowIs g 5 n (fun _ => .int .u8 (c.toNat : Int))) : w.heap[g]? = some (.cells ((List.replicate n c).map fun b => Value.int .u8 (b.toNat : Int)).toArray 5 (0, 0)) := by
  obtain ⟨cs, hc, hs, hg⟩ := h
  have : cs = ((List.replicate n c).map fun b => Value.int .u8 (b.toNat : Int)).toArray := by
    apply Array.ext_getElem?
    intro i
    have e : ((List.replicate n c).map fun b => Value.int .u8 (b.toNat : Int)).toArray[i]? = if i < n then some (.int .u8 (c.toNat : Int)) else none := by
      rw [List.getElem?_toArray, List.getElem?_map, List.getElem?_replicate]
      split <;> rfl
    rw [e]
    by_cases hi : i < n
    · rw [hg i hi, if_pos hi]
    · rw [if_neg hi, Array.getElem?_eq_none (by omega)]
  rw [hc, this]
/-- A row of which the first i bytes are c. -/
def FlR (w : World) (g q i : Nat) (c : UInt8) : Prop := w.rowIs g 5 q (fun j => .int .u8 ((if j < i then c else 0 : UInt8).toNat : Int))
theorem FlR.set {w : World} {g q i : Nat} {c : UInt8} (h : FlR w g q i c) : FlR (w.setCell ⟨g, i, none⟩ (.int .u8 (c.toNat : Int))) g q (i + 1) c := by
  obtain ⟨cs, hc, hs, hg⟩ := World.rowIs.set h i (.int .u8 (c.toNat : Int))
  refine ⟨cs, hc, hs, fun j hj => ?_⟩
  rw [hg j hj]
  by_cases e : j = i
  · subst e; simp
  · by_cases h1 : j < i
    · simp [e, h1, show j < i + 1 by omega]
    · simp [e, h1, show ¬ j < i + 1 by omega]
set_option maxRecDepth 100000 in
set_option maxHeartbeats 4000000 in
theorem data_any (x : AcF) (w : World) : Calls Try.prog 15 #[acV x] w fun e w' => e = .returned (.string (daB x)) ∧ Below w.heap.size w w' := by
  obtain ⟨m, hm⟩ : ∃ m, daN x.n = m := ⟨_, rfl⟩
  have hm70 := datN_le x.n
  have hD : Hid (daB x = ⟨(List.replicate (48 * m) x.c ++ (if x.o = true then [x.c] else [])).toArray⟩) := Lib.hid (by unfold daB daL; rw [hm])
  rw [hm] at hm70
  have hmm : min (max x.n 0) 70 = (m : Int) := by unfold daN at hm; omega
  obtain ⟨k, a, n, c, o⟩ := x
  simp only at hD hmm
  have hacv : acV ⟨k, a, n, c, o⟩ = .agg #[.int .i64 k, .int .i64 a, .int .i64 n, .int .u8 (c.toNat : Int), .bool o] := rfl
  obtain ⟨q, hq⟩ : ∃ q : Nat, 48 * m = q := ⟨_, rfl⟩
  rw [hq] at hD
  obtain ⟨RZ, hRZ⟩ : ∃ RZ, daB ⟨k, a, n, c, o⟩ = RZ := ⟨_, rfl⟩
  rw [hRZ] at hD
  have HRZ : Hid (RZ = ⟨(List.replicate q c ++ (if o = true then [c] else [])).toArray⟩) := hD
  rw [hacv, hRZ]
  obtain ⟨w1, hw1⟩ : ∃ w1, w.alloc (.cells #[.int .i64 k, .int .i64 a, .int .i64 n, .int .u8 (c.toNat : Int), .bool o] 32) = w1 := ⟨_, rfl⟩
  have B1 : Below w.heap.size w w1 := by rw [← hw1]; exact (Below.refl _ _).alloc (Nat.le_refl _) _
  have r1 : w1.heap[w.heap.size]? = some (.cells #[.int .i64 k, .int .i64 a, .int .i64 n, .int .u8 (c.toNat : Int), .bool o] 32 (0, 0)) := by rw [← hw1]; exact heap_alloc_new _ _
  obtain ⟨gx, hgx⟩ : ∃ gx, Hid (w.heap.size = gx) := ⟨_, Lib.hid rfl⟩
  rw [hgx.out] at r1
  have k2 : w1.cell? ⟨gx, 2, none⟩ = some (.int .i64 n) := cell_of_row w1 gx 2 _ _ _ r1
  have k3 : w1.cell? ⟨gx, 3, none⟩ = some (.int .u8 (c.toNat : Int)) := cell_of_row w1 gx 3 _ _ _ r1
  have k4 : w1.cell? ⟨gx, 4, none⟩ = some (.bool o) := cell_of_row w1 gx 4 _ _ _ r1
  have HW1 := Lib.hid hw1
  clear hw1
  go_enter Try.func15, Try.ntmps15
  go_upto_region 1 with fail
  rw [HW1.out, hgx.out]
  clear HW1
  have hqb : q ≤ 3360 := by omega
  have e48 : (48 : Int) * (m : Int) = (q : Int) := by omega
  have hmk := run_make_row' (P := Try.prog) 46 5 (.int .u8 0) 1 Try.underlying46 info_u8Z rfl .i64 .i64 q (by omega) (by omega) w1
  obtain ⟨w2, hw2⟩ : ∃ w2, w1.alloc (.cells (madeCells #[.int .u8 0] q) 5) = w2 := ⟨_, rfl⟩
  have B2 : Below w1.heap.size w1 w2 := by rw [← hw2]; exact (Below.refl _ _).alloc (Nat.le_refl _) _
  have HR0 : Hid (FlR w2 w1.heap.size q 0 c) := Lib.hid (by
    rw [← hw2]
    have := World.rowIs_made w1 (.int .u8 0) q 5
    unfold FlR
    simpa using this)
  rw [hw2] at hmk
  obtain ⟨gb, hgb⟩ : ∃ gb, Hid (w1.heap.size = gb) := ⟨_, Lib.hid rfl⟩
  rw [hgb.out] at hmk HR0
  have hgxl : gx < gb := by rw [← hgb.out]; exact (Array.getElem?_eq_some_iff.1 r1).1
  have j3 : w2.cell? ⟨gx, 3, none⟩ = some (.int .u8 (c.toNat : Int)) := (B2.cell (p := ⟨gx, 3, none⟩) (by rw [hgb.out]; exact hgxl)).trans k3
  have j4 : w2.cell? ⟨gx, 4, none⟩ = some (.bool o) := (B2.cell (p := ⟨gx, 4, none⟩) (by rw [hgb.out]; exact hgxl)).trans k4
  have HBE : Hid (Below w.heap.size w w2) := Lib.hid (B1.trans (B2.mono B1.size))
  have hgw : w.heap.size ≤ gb := by rw [← hgb.out]; exact B1.size
  have HB0 : Hid (Below gb w2 w2) := Lib.hid (Below.refl _ _)
  obtain ⟨ib, hib, hbz0, hbz1, hbz2⟩ := info_partsF info_u8Z
  clear hw2 B2 k3 k4 r1 B1 hq hm hD hacv
  go_upto_region 3 with fail
  clear hmk hmm k2
  go_wp2_with fail
  go_loopw [5] (fun s5 wi => ∃ i : Nat, s5 = .int .i64 (i : Int) ∧ i ≤ q ∧ Hid (FlR wi gb q i c) ∧ Hid (Below gb w2 wi)) (fun s5 _ => q - (intOf s5).toNat)
  case atStart => exact ⟨0, rfl, by omega, HR0, HB0⟩
  case round =>
    obtain ⟨i, rfl, hi, HR, HB⟩ := hrel
    clear HR0 HB0
    have i3 := (HB.out.cell (p := ⟨gx, 3, none⟩) hgxl).trans j3
    have i4 := (HB.out.cell (p := ⟨gx, 4, none⟩) hgxl).trans j4
    by_cases hlt : i < q
    · as_aux_lemma =>
      have hli : (i : Int) < (q : Int) := by omega
      have h0i : (0 : Int) ≤ (i : Int) := by omega
      have hf := World.rowIs.frozen HR.out i
      have hcell := World.rowIs.cell HR.out hlt
      have HR2 := Lib.hid HR.out.set
      have HB2 := Lib.hid (HB.out.setCell (p := ⟨gb, i, none⟩) (Nat.le_refl _) (.int .u8 (c.toNat : Int)))
      clear HR HB
      go_wp2_with fail
      go_roundw
      case rel => exact ⟨i + 1, by go_num, by omega, HR2, HB2⟩
      case measure => simp [intOf]; omega
    · as_aux_lemma =>
      have hli : ¬ (i : Int) < (q : Int) := by omega
      obtain rfl : i = q := by omega
      have hrow : wr.rowIs gb 5 i (fun _ => .int .u8 (c.toNat : Int)) := by
        obtain ⟨cs, hc, hs, hg⟩ := HR.out
        exact ⟨cs, hc, hs, fun j hj => by rw [hg j hj]; simp [hj]⟩
      have hblk := row_list hrow
      have hown := own_of_block (B := gb) (n := i) (size := 1) hblk (by simp) (Nat.le_refl _) (by unfold maxLen; omega)
      have HBW := Lib.hid (HBE.out.trans (HB.out.mono (Nat.le_trans hgw (by have := World.rowIs.lt hrow; have := HB.out.size; omega))))
      have hl : (List.replicate i c).length = i := List.length_replicate ..
      cases o with
      | false =>
        as_aux_lemma =>
        have hcv := conv_owned (P := Try.prog) (src := 46) (dst := 9) (l := List.replicate i c) Try.underlying46 Try.underlying5 Try.underlying9 (v := .slice (some ⟨gb, 0, none⟩) i i) (by rw [hl]; simpa using hown)
        have HE : Hid ((List.replicate i c ++ if false = true then [c] else []) = List.replicate i c) := Lib.hid (by simp)
        obtain ⟨Z, hZ⟩ : ∃ Z, Hid ((⟨(List.replicate i c).toArray⟩ : ByteArray) = Z) := ⟨_, Lib.hid rfl⟩
        rw [hZ.out] at hcv
        clear hown hblk hrow HR HB
        go_wp2_with fail
        go_ret
        have hzr : Z = RZ := by rw [HRZ.out, HE.out, hZ.out]
        subst hzr
        exact ⟨rfl, HBW.out⟩
      | true =>
        as_aux_lemma =>
        have hrow0 : wr.ownsRow gb 5 1 (.slice (some ⟨gb, 0, none⟩) i i) i ((List.replicate i c).map fun b => Value.int .u8 (b.toNat : Int)) := by simpa using hown
        have hsrc : Src Try.prog 1 46 (.slice (some ⟨wr.heap.size, 0, none⟩) 1 1) 1 [.int .u8 (c.toNat : Int)] (wr.alloc (.cells #[.int .u8 (c.toNat : Int)] 5)) :=
          Src.ofSlice _ Try.underlying46 ⟨wr.heap.size, 0, none⟩ 1 1 [.int .u8 (c.toNat : Int)] rfl (fun j v hv => by
            rcases j with _ | j
            · simp at hv; subst hv; exact World.cell?_alloc_at _ _ _ _ rfl
            · simp at hv) (fun u hu => by simp at hu; subst hu; rfl)
        have o1 : i + 1 ≤ maxLen := by unfold maxLen; omega
        have o2 : (i + 1) * 1 ≤ 140737488355328 := by omega
        have hgbw : gb < wr.heap.size := World.rowIs.lt hrow
        have o3 : gb ≤ (wr.alloc (.cells #[.int .u8 (c.toNat : Int)] 5)).heap.size := by simp; omega
        have HE : Hid ((List.replicate i c ++ if true = true then [c] else []) = List.replicate i c ++ [c]) := Lib.hid (by simp)
        clear hown hblk HR hrow
        go_wp2_with (at_builtin; refine wpList_append_src2 _ rfl _ _ 46 46 rfl gb 5 ib (.int .u8 0) 1 1 Try.underlying46 hib hbz0 hbz1 hbz2 rfl (by decide) (.slice (some ⟨gb, 0, none⟩) i i) i ((List.replicate i c).map fun b => Value.int .u8 (b.toNat : Int)) rfl (hrow0.alloc _) _ 1 [.int .u8 (c.toNat : Int)] rfl hsrc o1 o2 o3 ?_)
        intro v' w7 hown7 hg7 hloc7
        have ba : Below wr.heap.size wr (wr.alloc (.cells #[.int .u8 (c.toNat : Int)] 5)) := (Below.refl _ _).alloc (Nat.le_refl _) _
        have HB7 := Lib.hid ((HBW.out.trans (ba.mono (by omega))).grown hg7 (by simp; omega) (fun j e => by have := (hrow0.lt j e).1; omega))
        have hcv := conv_owned (P := Try.prog) (src := 46) (dst := 9) (l := List.replicate i c ++ [c]) Try.underlying46 Try.underlying5 Try.underlying9 (v := v') (base := gb) (w := w7) (by rw [List.length_append, hl, List.map_append]; simpa using hown7)
        obtain ⟨Z, hZ⟩ : ∃ Z, Hid ((⟨(List.replicate i c ++ [c]).toArray⟩ : ByteArray) = Z) := ⟨_, Lib.hid rfl⟩
        rw [hZ.out] at hcv
        obtain ⟨a7, c7, rfl⟩ := own_slF hown7
        clear hown7 hg7 hloc7 ba hrow0 hsrc HB
        go_wp2_with fail
        go_ret
        have hzr : Z = RZ := by rw [HRZ.out, HE.out, hZ.out]
        subst hzr
        exact ⟨rfl, HB7.out⟩
end Go.Proofs.Ytaemnelfnopjdaa
