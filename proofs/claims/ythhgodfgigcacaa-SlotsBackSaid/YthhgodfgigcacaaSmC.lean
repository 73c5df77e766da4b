/- Slots: SlotsReads. -/
import Derived.Test.YthhgodfgigcacaaSmB
namespace Go.Proofs.Ythhgodfgigcacaa
open Go.RowKit Go.Deep Go.ChangeShapes Go.WideShapes
set_option linter.unusedVariables false
set_option linter.unusedSimpArgs false
theorem accP.bytes {n : Nat} {s : ByteArray} (h : accP n s) (h8 : n ≤ 8) : (⟨(txT (TR s n) 8 ++ List.replicate 16 0).toArray⟩ : ByteArray) = s := by
  rw [text_eq h.inv h8]
  exact h.text h8
set_option maxRecDepth 100000 in
set_option maxHeartbeats 8000000 in
theorem sreads_no (n : Int) (s : ByteArray) (w : World) (hn : n < 1 ∨ 8 < n) : Calls Try.prog 4 #[.int .i64 n, .string s] w fun e w' => e = .returned (.bool true) ∧ Below w.heap.size w w' := by
  have CN := Lib.hid (readT_no n s w hn)
  have CA := Lib.hid (awake22 w)
  rcases (show n < 1 ∨ (¬ n < 1 ∧ 8 < n) by omega) with h1 | ⟨h1, h2⟩
  all_goals
    clear hn
    go_enter Try.func4, Try.ntmps4
    go_wp2_with fail
    refine CN.out.mono ?_
    rintro e w' ⟨rfl, rfl⟩
    go_wp2_with fail
    refine CA.out.mono ?_
    rintro e w1 ⟨rfl, b1⟩
    have HB := Lib.hid b1
    clear b1 CA CN
    go_wp2_with fail
    go_ret
    exact ⟨rfl, HB.out⟩
set_option maxRecDepth 100000 in
set_option maxHeartbeats 16000000 in
theorem sreads_yes (n : Nat) (s : ByteArray) (w : World) (h1 : 1 ≤ n) (h8 : n ≤ 8) : Calls Try.prog 4 #[.int .i64 (n : Int), .string s] w fun e w' => e = .returned (.bool true) ∧ Below w.heap.size w w' := by
  have CN := Lib.hid (readT_any n s w h1 h8)
  have hn1 : ¬ (n : Int) < 1 := by omega
  have hn2 : ¬ (8 : Int) < (n : Int) := by omega
  go_enter Try.func4, Try.ntmps4
  go_wp2_with fail
  refine CN.out.mono ?_
  rintro e w1 ⟨hc, b1⟩
  have HB1 := Lib.hid b1
  have CR := Lib.hid (rread_any n s w1 h8)
  clear b1 CN
  rcases hc with ⟨ha, g, rfl, ht, hg⟩ | ⟨hn, rfl⟩
  · have HA := Lib.hid ha
    have HT1 := Lib.hid ht
    clear ha ht
    go_wp2_with fail
    refine CR.out.mono ?_
    rintro e w2 ⟨hc, b2⟩
    rcases hc with ⟨_, v, rfl, hl⟩ | ⟨hn, rfl⟩
    · have HT2 := Lib.hid (HT1.out.below b2)
      have HL2 := Lib.hid hl
      have HB2 := Lib.hid (HB1.out.trans (b2.mono HB1.out.size))
      obtain ⟨al, cl, rfl⟩ := own_form hl
      have CA := Lib.hid (awake22 w2)
      clear b2 hl CR HT1
      go_wp2_with fail
      refine CA.out.mono ?_
      rintro e w3 ⟨rfl, b3⟩
      have HT3 := Lib.hid (HT2.out.below b3)
      have HL3 := Lib.hid (HL2.out.below b3)
      have HB3 := Lib.hid (HB2.out.trans (b3.mono HB2.out.size))
      have CS := Lib.hid (lsame_any w1.heap.size g n (.slice al n cl) (TR s n) w3 HT3.out HL3.out h8 HA.out.inv)
      clear b3 CA HT2 HL2 HB2
      go_wp2_with fail
      refine CS.out.mono ?_
      rintro e w4 ⟨rfl, b4⟩
      have HT4 := Lib.hid (HT3.out.below b4)
      have HB4 := Lib.hid (HB3.out.trans (b4.mono HB3.out.size))
      have CB := bytesT_any g n (TR s n) w4 HT4.out (fun k _ => HA.out.inv.ok k)
      rw [HA.out.bytes h8] at CB
      have CB := Lib.hid CB
      clear b4 CS HT3 HL3 HB3
      go_wp2_with fail
      refine CB.out.mono ?_
      rintro e w5 ⟨rfl, b5⟩
      have HB5 := Lib.hid (HB4.out.trans (b5.mono HB4.out.size))
      clear b5 CB HB4
      go_wp2_with fail
      go_ret
      exact ⟨rfl, HB5.out⟩
    · exact absurd HA.out hn
  · have HN := Lib.hid hn
    clear hn
    go_wp2_with fail
    refine CR.out.mono ?_
    rintro e w2 ⟨hc, b2⟩
    rcases hc with ⟨ha, _⟩ | ⟨_, rfl⟩
    · exact absurd ha HN.out
    · have HB2 := Lib.hid (HB1.out.trans (b2.mono HB1.out.size))
      have CA := Lib.hid (awake22 w2)
      clear b2 CR HB1
      go_wp2_with fail
      refine CA.out.mono ?_
      rintro e w3 ⟨rfl, b3⟩
      have HB3 := Lib.hid (HB2.out.trans (b3.mono HB2.out.size))
      clear b3 CA HB2
      go_wp2_with fail
      go_ret
      exact ⟨rfl, HB3.out⟩
theorem slotsReads_walk (n : Int) (s : ByteArray) (w : World) (hn : (Lit.int .i64 n).wf = true) (hz : s.size ≤ 140737488351232) :
    Calls Try.prog 4 #[.int .i64 n, .string s] w fun e w' => e = .returned (.bool true) ∧ Below w.heap.size w w' := by
  by_cases hr : n < 1 ∨ 8 < n
  · exact sreads_no n s w hr
  · obtain ⟨m, rfl⟩ : ∃ m : Nat, n = (m : Int) := ⟨n.toNat, by omega⟩
    exact sreads_yes m s w (by omega) (by omega)
end Go.Proofs.Ythhgodfgigcacaa
