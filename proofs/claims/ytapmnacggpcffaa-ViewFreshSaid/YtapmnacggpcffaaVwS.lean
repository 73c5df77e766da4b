/- Package view: Fresh of what is no image. -/
import Derived.Test.YtapmnacggpcffaaVwR
namespace Go.Proofs.Ytapmnacggpcffaa
open Go.RowKit Go.Deep
set_option linter.unusedVariables false
set_option linter.unusedSimpArgs false
set_option maxRecDepth 100000 in
set_option maxHeartbeats 4000000 in
theorem fresh_bad (ao : Option Addr) (c : Nat) (L : List ByteArray) (w : World) (hat : TxAt w ao L) (hbad : ∃ s ∈ L, s.size ≠ 18432) (hn : L.length ≤ 100) : Calls Try.prog 14 #[.slice ao L.length c] w fun e w' => e = .returned (.tuple #[.int .i64 0, .int .i64 6]) ∧ w = w' := by
  have HAT := Lib.hid hat
  have HBAD := Lib.hid hbad
  obtain ⟨n, hnn⟩ : ∃ n, Hid (L.length = n) := ⟨_, Lib.hid rfl⟩
  rw [hnn.out] at hn ⊢
  clear hat hbad
  go_enter Try.func14, Try.ntmps14
  go_wp2_with fail
  go_loopw [17] (fun s17 wi => ∃ i : Nat, s17 = .int .i64 (i : Int) ∧ i ≤ n ∧ Hid (∀ j (hj : j < L.length), j < i → L[j].size = 18432) ∧ w = wi) (fun s17 _ => n - (intOf s17).toNat)
  case atStart => exact ⟨0, rfl, by omega, Lib.hid (fun j _ h => absurd h (by omega)), rfl⟩
  case round =>
    obtain ⟨i, rfl, hi, HE, rfl⟩ := hrel
    by_cases hlt : i < n
    · have hli : (i : Int) < (n : Int) := by omega
      have hil : i < L.length := by rw [hnn.out]; exact hlt
      obtain ⟨g, o, rfl, hg, hc⟩ := HAT.out (by omega)
      have c0 := hc i hil
      have CI := Lib.hid (isImage_any L[i] w)
      by_cases hs : L[i].size = 18432
      · rw [decide_eq_true hs] at CI
        have HE2 : Hid (∀ j (hj : j < L.length), j < i + 1 → L[j].size = 18432) := Lib.hid (fun j hj h => by
          by_cases e : j = i
          · subst e; exact hs
          · exact HE.out j hj (by omega))
        clear hc HE hs
        generalize L[i] = s at *
        go_wp2_with fail
        refine CI.out.mono ?_
        rintro e w' ⟨rfl, rfl⟩
        clear CI
        go_wp2_with fail
        go_roundw
        case rel => exact ⟨i + 1, by go_num, by omega, HE2, trivial⟩
        case measure => simp [intOf]; omega
      · rw [decide_eq_false hs] at CI
        clear hc HE hs
        generalize L[i] = s at *
        go_wp2_with fail
        refine CI.out.mono ?_
        rintro e w' ⟨rfl, rfl⟩
        clear CI
        go_wp2_with fail
        go_ret2
        exact ⟨rfl, rfl⟩
    · exfalso
      obtain ⟨s, hs, hb⟩ := HBAD.out
      obtain ⟨j, hj, rfl⟩ := List.getElem_of_mem hs
      exact hb (HE.out j hj (by have := hnn.out; omega))
theorem fresh_bad2 (A : ByteArray) (w w3 : World) (hw : w.alloc (.cells #[.string A, .string ⟨#[]⟩] 9) = w3) : Calls Try.prog 14 #[.slice (some ⟨w.heap.size, 0, none⟩) 2 2] w3 fun e w' => e = .returned (.tuple #[.int .i64 0, .int .i64 6]) ∧ w3 = w' := by
  have k0 : w3.cell? ⟨w.heap.size, 0, none⟩ = some (.string A) := by rw [← hw]; exact World.cell?_alloc_at _ _ _ _ rfl
  have k1 : w3.cell? ⟨w.heap.size, 1, none⟩ = some (.string ⟨#[]⟩) := by rw [← hw]; exact World.cell?_alloc_at _ _ _ _ rfl
  have ks : w.heap.size < w3.heap.size := by rw [← hw]; simp
  exact fresh_bad (some ⟨w.heap.size, 0, none⟩) 2 [A, ⟨#[]⟩] w3 (fun _ => ⟨w.heap.size, 0, rfl, ks, fun i hi => by
    have hi : i < 2 := hi
    have : i = 0 ∨ i = 1 := by omega
    rcases this with rfl | rfl
    · exact k0
    · exact k1⟩) ⟨⟨#[]⟩, by simp, by show (0 : Nat) ≠ _; omega⟩ (by show (2 : Nat) ≤ _; omega)
/-- Below 224 there are no numbers. -/
theorem frImg_224 (s : ByteArray) (N : List Nb) : frImg s 224 N = some N := by
  have h := frImg_quiet (s := s) (N := N) (M := N) (i := 0) rfl 224 (fun k _ h => by rw [numV_no (fun h2 => by omega)]; decide)
  simpa using h
end Go.Proofs.Ytapmnacggpcffaa
