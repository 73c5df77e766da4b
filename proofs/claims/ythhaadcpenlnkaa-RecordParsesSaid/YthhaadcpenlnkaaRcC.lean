/- Laws of package record (cellaret): light, short; the reference's Right. -/
import Derived.Test.YthhaadcpenlnkaaRcB
namespace Go.Proofs.Ythhaadcpenlnkaa
open Go.RowKit Go.Deep
set_option linter.unusedVariables false
set_option linter.unusedSimpArgs false
attribute [local irreducible] rcA
def lightP (ps : List Pt) : Prop := ps.length < 100 ∧ ∀ j, j < ps.length → (pB ps j).size ≤ 300
instance lightP_dec (ps : List Pt) : Decidable (lightP ps) := by unfold lightP; exact inferInstance
def tB (L : List ByteArray) (j : Nat) : ByteArray := L[j]?.getD ⟨#[]⟩
theorem tB_get (L : List ByteArray) (j : Nat) (h : j < L.length) : L[j] = tB L j := by simp [tB, h]
def shortP (L : List ByteArray) : Prop := L.length < 200 ∧ ∀ j, j < L.length → (tB L j).size ≤ 300
instance shortP_dec (L : List ByteArray) : Decidable (shortP L) := by unfold shortP; exact inferInstance
set_option maxRecDepth 100000 in
set_option maxHeartbeats 2000000 in
theorem light_any (R : Rc) (ao : Option Addr) (n cap : Nat) (w : World) (hr : R.root.length = 32) (hn : R.ps.length = n) (hnm : n ≤ 9223372036854775807) (hP : PtAt w ao R.ps) :
    Calls Try.prog 7 #[.agg (rcA R (.slice ao n cap))] w fun e w' => e = .returned (.bool (decide (lightP R.ps))) ∧ Below w.heap.size w w' := by
  obtain ⟨w1, HW, hR, HB⟩ := box_rc w R (.slice ao n cap) hr
  have HP := Lib.hid (hP.below HB.out)
  have c33 := hR.ps
  have HN := Lib.hid hn
  clear hR hP hr hn
  generalize R.ps = ps at *
  have HF : Hid (¬ lightP ps → decide (lightP ps) = false) := Lib.hid (fun h => decide_eq_false h)
  have HT : Hid (lightP ps → decide (lightP ps) = true) := Lib.hid (fun h => decide_eq_true h)
  go_enter Try.func7, Try.ntmps7
  go_upto_region 1 with fail
  rw [HW.out]
  go_wp2_with fail
  clear HW
  go_loopw [3] (fun x wi => ∃ k : Nat, x = .int .i64 (k : Int) ∧ k ≤ n ∧ k ≤ 100 ∧ Hid (∀ j, j < k → (pB ps j).size ≤ 300) ∧ Hid (w1 = wi)) (fun x _ => n - (intOf x).toNat)
  case atStart => exact ⟨0, rfl, by omega, by omega, Lib.hid (fun j hj => absurd hj (by omega)), Lib.hid rfl⟩
  case round =>
    obtain ⟨k, rfl, hk, hk1, HO, HE⟩ := hrel
    obtain rfl := HE.out
    clear HE
    by_cases hkn : k < n
    · have hki : (k : Int) < (n : Int) := by omega
      by_cases h1 : k < 100
      · have hk2 : (k : Int) < 100 := by omega
        obtain ⟨g, o, rfl, hg, hc⟩ := HP.out (by rw [HN.out]; omega)
        obtain ⟨d0, d1⟩ := hc k (by rw [HN.out]; exact hkn)
        clear hc
        obtain ⟨b, hbb⟩ : ∃ b, Hid (pB ps k = b) := ⟨_, Lib.hid rfl⟩
        rw [hbb.out] at d1
        by_cases h3 : b.size ≤ 300
        · have n3 : ¬ (300 : Int) < (b.size : Int) := by omega
          have H3 := Lib.hid h3
          clear h3
          go_wp2_with fail
          go_roundw
          case rel =>
            refine ⟨k + 1, by go_num, by omega, by omega, Lib.hid (fun j hj => ?_), by first | exact Lib.hid rfl | exact Lib.hid trivial⟩
            by_cases e : j = k
            · subst e; rw [hbb.out]; exact H3.out
            · exact HO.out j (by omega)
          case measure => simp [intOf]; omega
        · have n3 : (300 : Int) < (b.size : Int) := by omega
          have HNO : Hid (decide (lightP ps) = false) := Lib.hid (HF.out (fun h => h3 (by rw [← hbb.out]; exact h.2 k (by rw [HN.out]; exact hkn))))
          clear h3
          go_wp2_with fail
          go_ret
          exact ⟨by rw [HNO.out]; rfl, HB.out⟩
      · have hk2 : ¬ (k : Int) < 100 := by omega
        have hn2 : ¬ (n : Int) < 100 := by omega
        have HNO : Hid (decide (lightP ps) = false) := Lib.hid (HF.out (fun h => by have := h.1; rw [HN.out] at this; omega))
        go_wp2_with fail
        go_ret
        exact ⟨by rw [HNO.out]; rfl, HB.out⟩
    · obtain rfl : k = n := by omega
      by_cases h1 : k < 100
      · have hn2 : (k : Int) < 100 := by omega
        have HYES : Hid (decide (lightP ps) = true) := Lib.hid (HT.out ⟨by rw [HN.out]; exact h1, fun j hj => HO.out j (by rw [HN.out] at hj; exact hj)⟩)
        go_wp2_with fail
        go_ret
        exact ⟨by rw [HYES.out]; rfl, HB.out⟩
      · have hn2 : ¬ (k : Int) < 100 := by omega
        have HNO : Hid (decide (lightP ps) = false) := Lib.hid (HF.out (fun h => by have := h.1; rw [HN.out] at this; omega))
        go_wp2_with fail
        go_ret
        exact ⟨by rw [HNO.out]; rfl, HB.out⟩
set_option maxRecDepth 100000 in
set_option maxHeartbeats 2000000 in
theorem short_any (L : List ByteArray) (ao : Option Addr) (n cap : Nat) (w : World) (hn : L.length = n) (hnm : n ≤ 9223372036854775807) (hP : TxtAt w ao L) :
    Calls Try.prog 15 #[.slice ao n cap] w fun e w' => e = .returned (.bool (decide (shortP L))) ∧ w = w' := by
  have HP := Lib.hid hP
  have HN := Lib.hid hn
  clear hP hn
  have HF : Hid (¬ shortP L → decide (shortP L) = false) := Lib.hid (fun h => decide_eq_false h)
  have HT : Hid (shortP L → decide (shortP L) = true) := Lib.hid (fun h => decide_eq_true h)
  go_enter Try.func15, Try.ntmps15
  go_wp2_with fail
  go_loopw [3] (fun x wi => ∃ k : Nat, x = .int .i64 (k : Int) ∧ k ≤ n ∧ k ≤ 200 ∧ Hid (∀ j, j < k → (tB L j).size ≤ 300) ∧ Hid (w = wi)) (fun x _ => n - (intOf x).toNat)
  case atStart => exact ⟨0, rfl, by omega, by omega, Lib.hid (fun j hj => absurd hj (by omega)), Lib.hid rfl⟩
  case round =>
    obtain ⟨k, rfl, hk, hk1, HO, HE⟩ := hrel
    obtain rfl := HE.out
    clear HE
    by_cases hkn : k < n
    · have hki : (k : Int) < (n : Int) := by omega
      by_cases h1 : k < 200
      · have hk2 : (k : Int) < 200 := by omega
        obtain ⟨g, o, rfl, hg, hc⟩ := HP.out (by rw [HN.out]; omega)
        have d1 := hc k (by rw [HN.out]; exact hkn)
        rw [tB_get] at d1
        clear hc
        obtain ⟨b, hbb⟩ : ∃ b, Hid (tB L k = b) := ⟨_, Lib.hid rfl⟩
        rw [hbb.out] at d1
        by_cases h3 : b.size ≤ 300
        · have n3 : ¬ (300 : Int) < (b.size : Int) := by omega
          have H3 := Lib.hid h3
          clear h3
          go_wp2_with fail
          go_roundw
          case rel =>
            refine ⟨k + 1, by go_num, by omega, by omega, Lib.hid (fun j hj => ?_), by first | exact Lib.hid rfl | exact Lib.hid trivial⟩
            by_cases e : j = k
            · subst e; rw [hbb.out]; exact H3.out
            · exact HO.out j (by omega)
          case measure => simp [intOf]; omega
        · have n3 : (300 : Int) < (b.size : Int) := by omega
          have HNO : Hid (decide (shortP L) = false) := Lib.hid (HF.out (fun h => h3 (by rw [← hbb.out]; exact h.2 k (by rw [HN.out]; exact hkn))))
          clear h3
          go_wp2_with fail
          go_ret
          exact ⟨by rw [HNO.out]; rfl, rfl⟩
      · have hk2 : ¬ (k : Int) < 200 := by omega
        have hn2 : ¬ (n : Int) < 200 := by omega
        have HNO : Hid (decide (shortP L) = false) := Lib.hid (HF.out (fun h => by have := h.1; rw [HN.out] at this; omega))
        go_wp2_with fail
        go_ret
        exact ⟨by rw [HNO.out]; rfl, rfl⟩
    · obtain rfl : k = n := by omega
      by_cases h1 : k < 200
      · have hn2 : (k : Int) < 200 := by omega
        have HYES : Hid (decide (shortP L) = true) := Lib.hid (HT.out ⟨by rw [HN.out]; exact h1, fun j hj => HO.out j (by rw [HN.out] at hj; exact hj)⟩)
        go_wp2_with fail
        go_ret
        exact ⟨by rw [HYES.out]; rfl, rfl⟩
      · have hn2 : ¬ (k : Int) < 200 := by omega
        have HNO : Hid (decide (shortP L) = false) := Lib.hid (HF.out (fun h => by have := h.1; rw [HN.out] at this; omega))
        go_wp2_with fail
        go_ret
        exact ⟨by rw [HNO.out]; rfl, rfl⟩
end Go.Proofs.Ythhaadcpenlnkaa
