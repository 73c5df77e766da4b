/- Laws of package plan: light. -/
import Derived.Test.YtnlgkhggokloeaaPlD
namespace Go.Proofs.Ytnlgkhggokloeaa
open Go.RowKit Go.Deep
set_option linter.unusedVariables false
set_option linter.unusedSimpArgs false
/-- Not far too many, nor too long. -/
def LightP (L : List Pu) : Prop := L.length < 80 ∧ ∀ j (hj : j < L.length), L[j].2.size ≤ 200
def LightR (L : List Pu) (w : World) (e : Ending) (w' : World) : Prop := ∃ b : Bool, e = .returned (.bool b) ∧ Hid (b = true → LightP L) ∧ Below w.heap.size w w'
set_option maxRecDepth 100000 in
set_option maxHeartbeats 4000000 in
theorem light_any (ao : Option Addr) (c : Nat) (L : List Pu) (w : World) (hat : PuAt w ao L) (hn : L.length ≤ 9223372036854775807) : Calls Try.prog 15 #[.slice ao L.length c] w (LightR L w) := by
  have HAT := Lib.hid hat
  obtain ⟨n, hnn⟩ : ∃ n, Hid (L.length = n) := ⟨_, Lib.hid rfl⟩
  rw [hnn.out] at hn ⊢
  clear hat
  go_enter Try.func15, Try.ntmps15
  go_wp2_with fail
  go_loopw [3] (fun s3 wi => ∃ i : Nat, s3 = .int .i64 (i : Int) ∧ i ≤ 80 ∧ Hid (∀ j (hj : j < L.length), j < i → L[j].2.size ≤ 200) ∧ Hid (Below w.heap.size w wi)) (fun s3 _ => 80 - (intOf s3).toNat)
  case atStart => exact ⟨0, rfl, by omega, Lib.hid (fun j _ h => absurd h (by omega)), Lib.hid (Below.refl _ _)⟩
  case round =>
    obtain ⟨i, rfl, hi, HE, HB⟩ := hrel
    rcases (show ((i : Int) < (n : Int) ∧ (i : Int) < 80) ∨ ((i : Int) < (n : Int) ∧ ¬ (i : Int) < 80) ∨ ¬ (i : Int) < (n : Int) by omega) with ⟨hli, h8⟩ | ⟨hli, h8⟩ | hli
    · have hil : i < L.length := by rw [hnn.out]; omega
      obtain ⟨g, o, rfl, hg, hc⟩ := HAT.out (by omega)
      have c1 := (HB.out.cell (p := ⟨g, o + i * 2 + 1, none⟩) hg).trans (hc i hil).2
      have HX : Hid (L[i].2.size ≤ 200 → ∀ j (hj : j < L.length), j < i + 1 → L[j].2.size ≤ 200) := Lib.hid (fun h j hj hji => by
        by_cases e : j = i
        · subst e; exact h
        · exact HE.out j hj (by omega))
      clear hc HE
      generalize L[i].2 = t at *
      by_cases n1 : 200 < (t.size : Int)
      · go_wp2_with fail
        go_ret
        exact ⟨false, rfl, Lib.hid (fun h => by cases h), HB.out⟩
      · have HX2 := Lib.hid (HX.out (by omega))
        clear HX
        go_wp2_with fail
        go_roundw
        case rel => exact ⟨i + 1, by go_num, by omega, HX2, HB⟩
        case measure => simp [intOf]; omega
    · have h9 : ¬ (n : Int) < 80 := by omega
      go_wp2_with fail
      go_ret
      exact ⟨false, by first | rfl | simp, Lib.hid (fun h => by cases h), HB.out⟩
    · by_cases h9 : (n : Int) < 80
      · have HL : Hid (LightP L) := Lib.hid ⟨by rw [hnn.out]; omega, fun j hj => HE.out j hj (by have := hnn.out; omega)⟩
        go_wp2_with fail
        go_ret
        exact ⟨true, by first | rfl | simp, Lib.hid (fun _ => HL.out), HB.out⟩
      · go_wp2_with fail
        go_ret
        exact ⟨false, by first | rfl | simp, Lib.hid (fun h => by cases h), HB.out⟩
end Go.Proofs.Ytnlgkhggokloeaa
