/- Package plan: the reference's Of; what the last Put of each row is, plainly. -/
import Derived.Test.YtnlgkhggokloeaaOvG
import Derived.Test.YtnlgkhggokloeaaMiA
namespace Go.Proofs.Ytnlgkhggokloeaa
open Go.RowKit Go.Deep
set_option linter.unusedVariables false
set_option linter.unusedSimpArgs false
theorem own_puM {w : World} {N : Nat} {v : Value} {L : List Pu} (h : PuO N w v L) : ∃ ao c, v = .slice ao L.length c ∧ L.length ≤ c ∧ c ≤ maxLen ∧ Hid (PuAt w ao L) := by
  obtain ⟨ao, c, e, h1, h2, h3⟩ := own_pu h
  exact ⟨ao, c, e, h1, h2, Lib.hid h3⟩
/-- A row of blocks comes back. -/
def PuR (L : List Pu) (w : World) (e : Ending) (w' : World) : Prop := ∃ a c', e = .returned (.slice a L.length c') ∧ PuAt w' a L ∧ Below w.heap.size w w'
set_option maxRecDepth 100000 in
set_option maxHeartbeats 4000000 in
theorem rof_any (ao : Option Addr) (c : Nat) (L : List Pu) (w : World) (hat : PuAt w ao L) (hn : L.length ≤ 50000) : Calls Try.prog 13 #[.slice ao L.length c] w (PuR (setAll [] L) w) := by
  have HAT := Lib.hid hat
  obtain ⟨n, hnn⟩ : ∃ n, Hid (L.length = n) := ⟨_, Lib.hid rfl⟩
  rw [hnn.out] at hn ⊢
  clear hat
  go_enter Try.func13, Try.ntmps13
  go_wp2_with fail
  go_loopw [3, 4] (fun s3 s4 wi => ∃ (i : Nat) (a : Option Addr) (c3 : Nat) (M : List Pu), s4 = .int .i64 (i : Int) ∧ i ≤ n ∧ s3 = .slice a M.length c3 ∧ M.length ≤ i ∧ Hid (setAll [] (L.take i) = M) ∧ Hid (PuAt wi a M) ∧ Hid (Below w.heap.size w wi)) (fun _ s4 _ => n - (intOf s4).toNat)
  case atStart => exact ⟨0, none, 0, [], rfl, by omega, rfl, by simp, Lib.hid rfl, Lib.hid (fun h => by simp at h), Lib.hid (Below.refl _ _)⟩
  case round =>
    obtain ⟨i, a, c3, M, rfl, hi, rfl, hM, HE, HU, HB⟩ := hrel
    by_cases hlt : i < n
    · have hli : (i : Int) < (n : Int) := by omega
      have hil : i < L.length := by rw [hnn.out]; exact hlt
      obtain ⟨g, o, rfl, hg, hc⟩ := HAT.out (by omega)
      have HE2 : Hid (setAll [] (L.take (i + 1)) = setL M L[i]) := Lib.hid (by rw [take_snoc L i hil, setAll_snoc, HE.out])
      have c0 := (HB.out.cell (p := ⟨g, o + i * 2, none⟩) hg).trans (hc i hil).1
      have c1 := (HB.out.cell (p := ⟨g, o + i * 2 + 1, none⟩) hg).trans (hc i hil).2
      have hll := setL_len M L[i]
      clear hc
      generalize L[i] = z at *
      obtain ⟨x, s⟩ := z
      have c0 : wr.cell? ⟨g, o + i * 2, none⟩ = some (.int .i64 x) := c0
      have c1 : wr.cell? ⟨g, o + i * 2 + 1, none⟩ = some (.string s) := c1
      have CR := Lib.hid (rset_any a c3 M (x, s) wr HU.out (by omega))
      unfold putV at CR
      generalize setL M (x, s) = M2 at *
      go_wp2_with fail
      refine CR.out.mono ?_
      rintro e w2 ⟨v, rfl, hO, k2⟩
      obtain ⟨a2, c2, rfl, _, _, HU2⟩ := own_puM hO
      have HB2 := Lib.hid (HB.out.trans (k2.mono HB.out.size))
      clear hO k2 CR HU HB HE
      go_wp2_with fail
      go_roundw
      case rel => exact ⟨i + 1, a2, c2, M2, by go_num, by omega, rfl, by omega, HE2, HU2, HB2⟩
      case measure => simp [intOf]; omega
    · have hli : ¬ (i : Int) < (n : Int) := by omega
      have hin : i = n := by omega
      have HEA : Hid (setAll [] L = M) := Lib.hid (by have := HE.out; rw [hin, ← hnn.out, List.take_length] at this; exact this)
      go_wp2_with fail
      go_ret
      rw [HEA.out]
      exact ⟨a, c3, rfl, HU.out, HB.out⟩
/-- What a number of the map stands for. -/
def atI (l : List Pu) (y : Mi) : Pu := l.getD y.2.toNat (0, ⟨#[]⟩)
/-- The map behind i Puts. -/
structure LastI (l : List Pu) (i : Nat) (M : List Mi) : Prop where
  srt : SrtI M
  wf : WfI M
  num : ∀ y ∈ M, 0 ≤ y.2 ∧ y.2 < (i : Int)
  key : ∀ y ∈ M, (atI l y).1 = y.1
  eq : M.map (atI l) = setAll [] (l.take i)
theorem LastI.zero (l : List Pu) : LastI l 0 [] := ⟨List.Pairwise.nil, fun _ h => absurd h (by simp), fun _ h => absurd h (by simp), fun _ h => absurd h (by simp), rfl⟩
theorem setI_mem {M : List Mi} {x y : Mi} : y ∈ setI M x ↔ y = x ∨ (y ∈ M ∧ y.1 ≠ x.1) := by unfold setI; rw [insI_mem, delI_mem]
theorem LastI.step {l : List Pu} {i : Nat} {M : List Mi} (h : LastI l i M) (hi : i < l.length) (hw : InI l[i].1) : LastI l (i + 1) (setI M (l[i].1, (i : Int))) := by
  have hf : atI l (l[i].1, (i : Int)) = l[i] := by
    unfold atI
    simp [List.getD_eq_getElem?_getD, List.getElem?_eq_getElem hi]
  refine ⟨srtI_set h.srt _, wfI_set h.wf hw, fun y hy => ?_, fun y hy => ?_, ?_⟩
  · rcases setI_mem.1 hy with rfl | ⟨hy, _⟩
    · exact ⟨by simp, by simp; omega⟩
    · have := h.num y hy; omega
  · rcases setI_mem.1 hy with rfl | ⟨hy, _⟩
    · rw [hf]
    · exact h.key y hy
  · rw [mi_set (atI l) _ (by rw [hf]) h.key, h.eq, hf, take_snoc l i hi, setAll_snoc]
theorem LastI.len {l : List Pu} {i : Nat} {M : List Mi} (h : LastI l i M) : M.length = (setAll [] (l.take i)).length := by rw [← h.eq, List.length_map]
/-- The keys are the places, the blocks lie where the numbers tell. -/
theorem LastI.at {l : List Pu} {M : List Mi} (h : LastI l l.length M) {j : Nat} (hj : j < M.length) : ∃ (k : Nat) (hk : k < l.length) (hs : j < (setAll [] l).length), M[j].2 = (k : Int) ∧ l[k] = (setAll [] l)[j] ∧ (setAll [] l)[j].1 = M[j].1 := by
  have hm := List.getElem_mem hj
  obtain ⟨h0, h1⟩ := h.num _ hm
  have he : M.map (atI l) = setAll [] l := by have := h.eq; rwa [List.take_length] at this
  have hs : j < (setAll [] l).length := by rw [← he, List.length_map]; exact hj
  have e : (setAll [] l)[j] = atI l M[j] := by
    have : (M.map (atI l))[j]'(by rw [List.length_map]; exact hj) = atI l M[j] := by rw [List.getElem_map]
    rw [← this]
    congr 1
    exact he.symm
  refine ⟨M[j].2.toNat, by omega, hs, by omega, ?_, ?_⟩
  · rw [e]
    unfold atI
    rw [List.getD_eq_getElem?_getD, List.getElem?_eq_getElem (by omega)]
    rfl
  · rw [e]; exact h.key _ hm
end Go.Proofs.Ytnlgkhggokloeaa
