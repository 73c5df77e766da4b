/- Level: LevelDoes. -/
import Derived.Test.YtdoeaepfjdjmmaaLwH
namespace Go.Proofs.Ytdoeaepfjdjmmaa
open Go.RowKit Go.Deep Go.ChangeShapes Go.WideShapes
set_option linter.unusedVariables false
set_option linter.unusedSimpArgs false
set_option maxRecDepth 100000 in
set_option maxHeartbeats 8000000 in
theorem does_no (n : Int) (ao : Option Addr) (len cap : Nat) (w : World) (hn : n < 1 ∨ 16 < n) : Calls Try.prog 3 #[.int .i64 n, .slice ao len cap] w fun e w' => e = .returned (.bool true) ∧ Below w.heap.size w w' := by
  have CN := Lib.hid (newQ_no n w hn)
  have CA := Lib.hid (awake24 w)
  rcases (show n < 1 ∨ (¬ n < 1 ∧ 16 < n) by omega) with h1 | ⟨h1, h2⟩
  all_goals
    clear hn
    go_enter Try.func3, Try.ntmps3
    go_wp2_with fail
    refine CN.out.mono ?_
    rintro e w' ⟨rfl, rfl⟩
    go_wp2_with fail
    refine CA.out.mono ?_
    rintro e w1 ⟨rfl, b1⟩
    have HB := Lib.hid b1
    clear b1 CA CN
    go_wp2_with fail
    go_ret
    exact ⟨rfl, HB.out⟩
set_option maxRecDepth 100000 in
set_option maxHeartbeats 8000000 in
theorem does_yes (n : Nat) (ao : Option Addr) (len cap : Nat) (w : World) (h1 : 1 ≤ n) (h16 : n ≤ 16) (hl : len ≤ 9223372036854775807) (hA : ActRow w ao len) : Calls Try.prog 3 #[.int .i64 (n : Int), .slice ao len cap] w fun e w' => e = .returned (.bool true) ∧ Below w.heap.size w w' := by
  have CN := Lib.hid (newQ_ok n w h1 h16)
  have HA := Lib.hid hA
  clear hA
  have hn1 : ¬ (n : Int) < 1 := by omega
  have hn2 : ¬ (16 : Int) < (n : Int) := by omega
  go_enter Try.func3, Try.ntmps3
  go_wp2_with fail
  refine CN.out.mono ?_
  rintro e w1 ⟨g, rfl, q1, hg, b1⟩
  have HQ1 := Lib.hid (bq_start q1 hg b1.size)
  have HB1 := Lib.hid (b1.alloc b1.size (.cells #[.slice none 0 0, .slice none 0 0, .slice none 0 0, .slice none 0 0] 32))
  clear q1 b1 CN
  obtain ⟨h, hh⟩ : ∃ h, Hid (w1.heap.size = h) := ⟨_, Lib.hid rfl⟩
  rw [hh.out] at HQ1
  obtain ⟨w2, hw2⟩ : ∃ w2, Hid (w1.alloc (.cells #[.slice none 0 0, .slice none 0 0, .slice none 0 0, .slice none 0 0] 32) = w2) := ⟨_, Lib.hid rfl⟩
  rw [hw2.out] at HQ1 HB1
  go_upto_region 5 with fail
  rw [hw2.out, hh.out]
  clear hw2 hh
  have CA := Lib.hid (awake24 w2)
  go_wp2_with fail
  refine CA.out.mono ?_
  rintro e w3 ⟨rfl, b3⟩
  have HQ3 := Lib.hid (HQ1.out.below b3)
  have HB3 := Lib.hid (HB1.out.trans (b3.mono HB1.out.size))
  clear b3 CA HQ1 HB1
  go_wp2_with fail
  go_loopw [8] (fun s8 wi => ∃ (k : Nat) (R : Nat → List Nat), s8 = .int .i64 (k : Int) ∧ k ≤ len ∧ Hid (Bq w.heap.size wi g h n R R) ∧ Hid (Below w.heap.size w wi)) (fun s8 _ => len - (intOf s8).toNat)
  case atStart => exact ⟨0, _, rfl, by omega, HQ3, HB3⟩
  case round =>
    obtain ⟨k, R, rfl, hk, HQ, HB⟩ := hrel
    clear HQ3 HB3
    by_cases hlt : k < len
    · by_cases h60 : k < 60
      · have hlt' : (k : Int) < (len : Int) := by omega
        have h60' : (k : Int) < 60 := by omega
        obtain ⟨b, off, rfl, hb, hcs⟩ := HA.out (by omega)
        obtain ⟨x, t, m, m1, m2, c0, c1, c2⟩ := hcs k hlt
        have d0 := (HB.out.cell (p := ⟨b, off + k * 3, none⟩) hb).trans c0
        have d1 := (HB.out.cell (p := ⟨b, off + k * 3 + 1, none⟩) hb).trans c1
        have d2 := (HB.out.cell (p := ⟨b, off + k * 3 + 2, none⟩) hb).trans c2
        have CD := Lib.hid (lwdo_any w.heap.size g h n R R x t m wr HQ.out m1 m2)
        clear hcs c0 c1 c2
        go_wp2_with fail
        refine CD.out.mono ?_
        rintro e w5 ⟨bb, rfl, hbb, q5, k5⟩
        obtain rfl : bb = true := hbb rfl
        have HQ5 := Lib.hid q5
        have HB5 := Lib.hid (HB.out.trans k5.below)
        clear q5 k5 CD HQ HB d0 d1 d2
        have CS := Lib.hid (lwsame_any w.heap.size g h n _ w5 HQ5.out)
        go_wp2_with fail
        refine CS.out.mono ?_
        rintro e w6 ⟨rfl, b6⟩
        have HQ6 := Lib.hid (HQ5.out.below b6)
        have HB6 := Lib.hid (HB5.out.trans (b6.mono HB5.out.size))
        clear b6 CS HQ5 HB5
        go_wp2_with fail
        go_roundw
        case rel => exact ⟨k + 1, _, by go_num, by omega, HQ6, HB6⟩
        case measure => simp [intOf]; omega
      · have hlt' : (k : Int) < (len : Int) := by omega
        have h60' : ¬ (k : Int) < 60 := by omega
        go_wp2_with fail
        go_ret
        exact ⟨rfl, HB.out⟩
    · have hlt' : ¬ (k : Int) < (len : Int) := by omega
      go_wp2_with fail
      go_ret
      exact ⟨rfl, HB.out⟩
section
variable {H : Type} {enc : TypeId × Value → H}
theorem levelDoes_walk (n : Int) (v : Value) (d : DataW H) (p : List MemPlace) (w : World) (hn : (Lit.int .i64 n).wf = true) (hv : ∃ a len cap, v = .slice a len cap) (h : DataW.Trod enc Try.prog w 0 (fun _ => true) true 22 v d p) :
    Calls Try.prog 3 #[.int .i64 n, v] w fun e w' => e = .returned (.bool true) ∧ Below w.heap.size w w' := by
  obtain ⟨ao, len, cap, rfl, hl, hA⟩ := open_acts24 hv h
  by_cases hr : n < 1 ∨ 16 < n
  · exact does_no n ao len cap w hr
  · obtain ⟨m, rfl⟩ : ∃ m : Nat, n = (m : Int) := ⟨n.toNat, by omega⟩
    exact does_yes m ao len cap w (by omega) (by omega) (by unfold maxLen at hl; exact hl) hA
end
end Go.Proofs.Ytdoeaepfjdjmmaa
