/- Records: what a list of blocks begins with. -/
import Derived.Test.YthhaadcpenlnkaaRcG
namespace Go.Proofs.Ythhaadcpenlnkaa
open Go.RowKit Go.Deep
set_option linter.unusedVariables false
set_option linter.unusedSimpArgs false
def z24 : ByteArray := ⟨(List.replicate 24 (0 : UInt8)).toArray⟩
def rcT : ByteArray := ⟨#[114, 99]⟩
theorem ext_list (s : ByteArray) (a b : Nat) : (s.extract a b).data.toList = (s.data.toList.drop a).take (b - a) := by
  rw [ByteArray.data_extract, Array.toList_extract]
theorem ba_list {s t : ByteArray} (h : s.data.toList = t.data.toList) : s = t := by
  cases s; cases t
  simp only [ByteArray.mk.injEq]
  exact Array.toList_inj.1 h
def seqP (s : ByteArray) : Int := beV (s.extract 2 6).data.toList
def cntZ (s : ByteArray) : Int := beV (s.extract 6 8).data.toList
def cntP (s : ByteArray) : Nat := (cntZ s).toNat
def rootP (s : ByteArray) : List UInt8 := (s.extract 8 40).data.toList
def headOk (s : ByteArray) : Prop := s.size = 64 ∧ s.extract 0 2 = rcT ∧ s.extract 40 64 = z24 ∧ cntP s ≤ 64
instance headOk_dec (s : ByteArray) : Decidable (headOk s) := by unfold headOk; exact inferInstance
def atP (L : List ByteArray) (i : Nat) : Int := beV ((tB L (1 + i / 32)).extract (2 * (i % 32)) (2 * (i % 32) + 2)).data.toList
def psP (L : List ByteArray) (n i : Nat) : List Pt := (List.range i).map fun j => (atP L j, tB L (1 + plN n + j))
def recP (L : List ByteArray) : Rc := ⟨seqP (tB L 0), rootP (tB L 0), psP L (cntP (tB L 0)) (cntP (tB L 0))⟩
def eP (L : List ByteArray) : Int := if L = [] then 5 else if headOk (tB L 0) then (if L.length < lenN (cntP (tB L 0)) then 5 else if chkE (recP L) = 0 ∧ layL (recP L) = L.take (lenN (cntP (tB L 0))) then 0 else 6) else 6
theorem cntZ_nat (s : ByteArray) : ((cntP s : Nat) : Int) = cntZ s := by unfold cntP; exact Int.toNat_of_nonneg (beV_nonneg _)
theorem psP_len (L : List ByteArray) (n i : Nat) : (psP L n i).length = i := by simp [psP]
theorem psP_succ (L : List ByteArray) (n i : Nat) : psP L n (i + 1) = psP L n i ++ [(atP L i, tB L (1 + plN n + i))] := by simp [psP, List.range_succ]
theorem recP_len (L : List ByteArray) : (recP L).ps.length = cntP (tB L 0) := psP_len _ _ _
theorem rootP_len {s : ByteArray} (h : s.size = 64) : (rootP s).length = 32 := by
  unfold rootP
  rw [ext_list, List.length_take, List.length_drop, ← Lib.size_eq, h]
  rfl
theorem recP_root {L : List ByteArray} (h : (tB L 0).size = 64) : (recP L).root.length = 32 := rootP_len h
theorem eP_nil : eP [] = 5 := rfl
theorem eP_head {L : List ByteArray} (h : L ≠ []) (h2 : ¬ headOk (tB L 0)) : eP L = 6 := by unfold eP; rw [if_neg h, if_neg h2]
theorem eP_short {L : List ByteArray} (h : L ≠ []) (h2 : headOk (tB L 0)) (h3 : L.length < lenN (cntP (tB L 0))) : eP L = 5 := by unfold eP; rw [if_neg h, if_pos h2, if_pos h3]
theorem eP_ok {L : List ByteArray} (h : L ≠ []) (h2 : headOk (tB L 0)) (h3 : ¬ L.length < lenN (cntP (tB L 0))) (h4 : chkE (recP L) = 0) (h5 : layL (recP L) = L.take (lenN (cntP (tB L 0)))) : eP L = 0 := by
  unfold eP; rw [if_neg h, if_pos h2, if_neg h3, if_pos ⟨h4, h5⟩]
theorem eP_form {L : List ByteArray} (h : L ≠ []) (h2 : headOk (tB L 0)) (h3 : ¬ L.length < lenN (cntP (tB L 0))) (h4 : ¬ (chkE (recP L) = 0 ∧ layL (recP L) = L.take (lenN (cntP (tB L 0))))) : eP L = 6 := by
  unfold eP; rw [if_neg h, if_pos h2, if_neg h3, if_neg h4]
theorem eP_zero {L : List ByteArray} (h : eP L = 0) : L ≠ [] ∧ headOk (tB L 0) ∧ lenN (cntP (tB L 0)) ≤ L.length ∧ chkE (recP L) = 0 ∧ layL (recP L) = L.take (lenN (cntP (tB L 0))) := by
  unfold eP at h
  split at h
  · cases h
  · split at h
    · split at h
      · cases h
      · split at h
        · rename_i h1 h2 h3 h4; exact ⟨h1, h2, by omega, h4.1, h4.2⟩
        · cases h
    · cases h
theorem rowB_drop (l : List Int) (h : ∀ i, i < l.length → 0 ≤ l.getD i 0 ∧ l.getD i 0 ≤ 65535) : ∀ j, j < l.length → ((rowB 2 l).drop (2 * j)).take 2 = beL (l.getD j 0) 2 := by
  induction l with
  | nil => intro j hj; simp at hj
  | cons n r ih =>
    have h0 := h 0 (by simp)
    simp only [List.getD_cons_zero] at h0
    have hl : (putL n 2).length = 2 := by rw [putL_two h0.1 h0.2, beL_length]
    have e : rowB 2 (n :: r) = putL n 2 ++ rowB 2 r := by unfold rowB; rw [List.flatMap_cons]
    have ih := ih (fun i hi => by simpa using h (i + 1) (by simpa using hi))
    intro j hj
    rw [e]
    cases j with
    | zero =>
      rw [Nat.mul_zero, List.drop_zero, List.take_append_of_le_length (by omega), List.take_of_length_le (by omega), putL_two h0.1 h0.2]
      simp
    | succ j =>
      have := ih j (by simpa using hj)
      rw [show 2 * (j + 1) = 2 + 2 * j by omega, ← List.drop_drop, List.drop_left' hl, this]
      simp
theorem atsB_list (ps : List Pt) (c : Nat) : (atsB ps c).data.toList = rowB 2 (chunk ps c) ++ List.replicate (64 - (rowB 2 (chunk ps c)).length) 0 := by
  unfold atsB zpadL
  simp
theorem atsB_size {ps : List Pt} (h : okPs ps) (c : Nat) : (atsB ps c).size = 64 := by
  rw [Lib.size_eq, atsB_list, List.length_append, List.length_replicate]
  have := chunk_row_len h c
  omega
theorem hdB_list (R : Rc) : (hdB R).data.toList = [114, 99] ++ (beL R.seq 4 ++ (beL (R.ps.length : Int) 2 ++ (R.root ++ List.replicate 24 0))) := by
  unfold hdB
  simp [ByteArray.data_append, List.append_assoc]
theorem hdB_size {R : Rc} (h : R.root.length = 32) : (hdB R).size = 64 := by
  rw [Lib.size_eq, hdB_list]
  simp [beL_length, h]
theorem layL_zero (R : Rc) (X : List ByteArray) : tB (layL R ++ X) 0 = hdB R := by unfold layL hdsL tB; simp
theorem tB_app_lt {L X : List ByteArray} {j : Nat} (h : j < L.length) : tB (L ++ X) j = tB L j := by unfold tB; rw [List.getElem?_append_left h]
theorem layL_at (R : Rc) (c : Nat) (h : c < plN R.ps.length) : tB (layL R) (1 + c) = atsB R.ps c := by
  unfold layL
  rw [tB_app_lt (by rw [hdsL_len]; omega)]
  unfold hdsL tB
  rw [Nat.add_comm 1 c, List.getElem?_cons_succ, List.getElem?_map, List.getElem?_range h]
  rfl
theorem layL_put (R : Rc) (j : Nat) (h : j < R.ps.length) : tB (layL R) (1 + plN R.ps.length + j) = pB R.ps j := by
  unfold layL tB
  rw [List.getElem?_append_right (by rw [hdsL_len]; omega), hdsL_len, show 1 + plN R.ps.length + j - (plN R.ps.length + 1) = j by omega, List.getElem?_map]
  unfold pB
  rw [List.getElem?_eq_getElem h]
  rfl
theorem layL_64 {R : Rc} (hr : R.root.length = 32) (hc : okPs R.ps) (j : Nat) (h : j < lenN R.ps.length) : (tB (layL R) j).size = 64 := by
  by_cases h0 : j = 0
  · subst h0
    have := layL_zero R []
    rw [List.append_nil] at this
    rw [this]
    exact hdB_size hr
  · by_cases h1 : j ≤ plN R.ps.length
    · obtain ⟨c, rfl⟩ : ∃ c, j = 1 + c := ⟨j - 1, by omega⟩
      rw [layL_at R c (by omega)]
      exact atsB_size hc c
    · obtain ⟨i, rfl⟩ : ∃ i, j = 1 + plN R.ps.length + i := ⟨j - (1 + plN R.ps.length), by omega⟩
      have hi : i < R.ps.length := by unfold lenN at h; unfold plN at *; omega
      rw [layL_put R i hi]
      exact (hc i hi).2.2
theorem tB_take {L : List ByteArray} {j n : Nat} (h : j < n) : tB (L.take n) j = tB L j := by unfold tB; rw [List.getElem?_take, if_pos h]
theorem eP_not64 {L : List ByteArray} (h : L ≠ []) (h2 : headOk (tB L 0)) (h3 : ¬ L.length < lenN (cntP (tB L 0))) (j : Nat) (hj : j < lenN (cntP (tB L 0))) (h4 : (tB L j).size ≠ 64) : eP L = 6 := by
  refine eP_form h h2 h3 (fun ⟨e1, e2⟩ => h4 ?_)
  have := layL_64 (recP_root h2.1) (chkE_zero e1).2.2.2 j (by rw [recP_len]; exact hj)
  rw [e2, tB_take hj] at this
  exact this
theorem recP_back {R : Rc} (hr : R.root.length = 32) (hc : chkE R = 0) (X : List ByteArray) : recP (layL R ++ X) = R ∧ headOk (tB (layL R ++ X) 0) ∧ cntP (tB (layL R ++ X) 0) = R.ps.length := by
  obtain ⟨hn, hq0, hq1, hok⟩ := chkE_zero hc
  have hz := layL_zero R X
  have hl := hdB_list R
  have b4 := beL_length R.seq 4
  have b2 := beL_length (R.ps.length : Int) 2
  have hcn : cntP (hdB R) = R.ps.length := by
    have : cntZ (hdB R) = (R.ps.length : Int) := by
      unfold cntZ
      rw [ext_list, hl]
      simp only [← List.append_assoc]
      rw [List.append_assoc, List.append_assoc, List.drop_left' (by simp [b4]), List.take_left' (by simp [b2]), beV_beL]
      omega
    unfold cntP
    rw [this]
    omega
  have hsq : seqP (hdB R) = R.seq := by
    unfold seqP
    rw [ext_list, hl, List.drop_left' (by simp), List.take_left' (by simp [b4]), beV_beL]
    omega
  have hrt : rootP (hdB R) = R.root := by
    unfold rootP
    rw [ext_list, hl]
    simp only [← List.append_assoc]
    rw [List.append_assoc, List.drop_left' (by simp [b4, b2]), List.take_left' (by simp [hr])]
  have hhd : headOk (hdB R) := by
    refine ⟨hdB_size hr, ba_list ?_, ba_list ?_, by rw [hcn]; exact hn⟩
    · rw [ext_list, hl]; rfl
    · rw [ext_list, hl]
      simp only [← List.append_assoc]
      rw [List.drop_left' (by simp [b4, b2, hr])]
      rfl
  rw [hz]
  refine ⟨?_, hhd, hcn⟩
  unfold recP
  rw [hz, hcn, hsq, hrt]
  obtain ⟨sq, rt, ps⟩ := R
  simp only [Rc.mk.injEq, true_and]
  apply List.ext_getElem
  · rw [psP_len]
  intro i h1 h2
  have hi : i < ps.length := h2
  have hok : okPs ps := hok
  simp only [psP, List.getElem_map, List.getElem_range]
  have hlen := layL_len ⟨sq, rt, ps⟩
  have hlen' : (layL ⟨sq, rt, ps⟩).length = lenN ps.length := hlen
  have e1 : tB (layL ⟨sq, rt, ps⟩ ++ X) (1 + plN ps.length + i) = pB ps i := by
    rw [tB_app_lt (by rw [hlen']; unfold lenN plN; omega)]
    exact layL_put ⟨sq, rt, ps⟩ i hi
  have e2 : tB (layL ⟨sq, rt, ps⟩ ++ X) (1 + i / 32) = atsB ps (i / 32) := by
    rw [tB_app_lt (by rw [hlen']; unfold lenN; omega)]
    exact layL_at ⟨sq, rt, ps⟩ (i / 32) (by show i / 32 < plN ps.length; unfold plN; omega)
  have e3 : atP (layL ⟨sq, rt, ps⟩ ++ X) i = pAt ps i := by
    unfold atP
    rw [e2, ext_list, atsB_list, show 2 * (i % 32) + 2 - 2 * (i % 32) = 2 by omega]
    have hcl : i % 32 < (chunk ps (i / 32)).length := by rw [chunk_len]; omega
    have hrl : (rowB 2 (chunk ps (i / 32))).length = 2 * (chunk ps (i / 32)).length := rowB_two _ (chunk_ok hok (i / 32))
    rw [List.drop_append_of_le_length (by rw [hrl]; omega), List.take_append_of_le_length (by rw [List.length_drop, hrl]; omega), rowB_drop _ (chunk_ok hok (i / 32)) _ hcl, chunk_get ps (i / 32) (i % 32) hcl, beV_beL]
    rw [show 32 * (i / 32) + i % 32 = i by omega]
    have q1 := okPs_low hok i hi
    have q2 := (hok i hi).2.1
    omega
  rw [e1, e3]
  unfold pAt pB
  rw [List.getElem?_eq_getElem hi]
  rfl
theorem eP_back {R : Rc} (hr : R.root.length = 32) (hc : chkE R = 0) (X : List ByteArray) : eP (layL R ++ X) = 0 := by
  obtain ⟨h1, h2, h3⟩ := recP_back hr hc X
  have hl := layL_len R
  refine eP_ok (fun h => ?_) h2 ?_ (by rw [h1]; exact hc) ?_
  · have := congrArg List.length h
    rw [List.length_append, hl] at this
    unfold lenN at this
    simp at this
  · rw [h3, List.length_append, hl]; omega
  · rw [h1, h3, List.take_left' hl]
end Go.Proofs.Ythhaadcpenlnkaa
