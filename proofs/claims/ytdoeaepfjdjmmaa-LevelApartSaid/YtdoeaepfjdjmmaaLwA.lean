/- Both queues: the law's do, kind 0, 1, 2. -/
import Derived.Test.YtdoeaepfjdjmmaaLvZ
namespace Go.Proofs.Ytdoeaepfjdjmmaa
open Go.RowKit Go.Deep
set_option linter.unusedVariables false
set_option linter.unusedSimpArgs false
section
variable {B g h n a : Nat} {w0 w : World} {R X X' : Nat → List Nat} {A : Array Value} {k i m z c : Int}
theorem dop_add (q : Aq B w0 w g h n (if z = 0 then put R i.toNat m.toNat else R) X' a A) (hz : addA R n i m = z) (c : Int) (hc : addA X n i m = c) (hX : X' = if c = 0 then put X i.toNat m.toNat else X) (hk : k = 0 ∨ k = 1 ∨ k = 2) : DoP B g h n w0 R X k i m (.returned (.bool (z == c))) w :=
  q.fin (z == c) (fun e => by subst e; rw [hz] at hc; subst hc; simp) (by unfold actR; rw [if_pos hk, hz]) (by unfold actR; rw [if_pos hk, hc, hX])
theorem addA_out (Y : Nat → List Nat) (hi : i < 0 ∨ (n : Int) ≤ i) : addA Y n i m = 3 := by unfold addA; rw [if_pos hi]
theorem addA_lev (Y : Nat → List Nat) (hm : m < 0 ∨ 3 < m) : addA Y n i m = 3 := by
  unfold addA
  split
  · rfl
  · rw [if_pos (by omega)]
theorem addA_has (Y : Nat → List Nat) {j : Nat} (hj : (j : Int) < n) (hm : 0 ≤ m ∧ m ≤ 3) (hv : lvl Y j ≠ -1) : addA Y n (j : Int) m = 8 := by
  unfold addA
  rw [if_neg (by omega), if_neg (by omega), Int.toNat_natCast, if_pos hv]
theorem addA_new (Y : Nat → List Nat) {j : Nat} (hj : (j : Int) < n) (hm : 0 ≤ m ∧ m ≤ 3) (hv : lvl Y j = -1) : addA Y n (j : Int) m = 0 := by
  unfold addA
  rw [if_neg (by omega), if_neg (by omega), Int.toNat_natCast, if_neg (by omega)]
end
set_option maxRecDepth 100000 in
set_option maxHeartbeats 8000000 in
theorem lwdo0_any (B g h n : Nat) (R X : Nat → List Nat) (i m : Int) (w : World) (b : Bq B w g h n R X) (hm1 : -9223372036854775808 ≤ m) (hm2 : m ≤ 9223372036854775807) : Calls Try.prog 9 #[.pointer (some ⟨g, 0, none⟩), .pointer (some ⟨h, 0, none⟩), .int .i64 (n : Int), .agg #[.int .i64 0, .int .i64 i, .int .i64 m]] w (DoP B g h n w R X 0 i m) := by
  obtain ⟨w1, a, HW, HA, HQ⟩ := aq_start b #[.int .i64 0, .int .i64 i, .int .i64 m]
  clear b
  have q0 := HQ.out.cell 0 (.int .i64 0) rfl
  have q1 := HQ.out.cell 1 (.int .i64 i) rfl
  have q2 := HQ.out.cell 2 (.int .i64 m) rfl
  go_enter Try.func9, Try.ntmps9
  go_upto_region 1 with fail
  rw [HW.out, HA.out]
  clear HW HA
  by_cases hin : 0 ≤ i ∧ i < (n : Int)
  · obtain ⟨j, rfl⟩ : ∃ j : Nat, i = (j : Int) := ⟨i.toNat, by omega⟩
    have hjn : j < n := by omega
    have hji : (j : Int) < (n : Int) := hin.2
    have CW := Lib.hid (HQ.out.where_ j)
    have hmA : ∀ Y : Nat → List Nat, misA Y n (j : Int) = if lvl Y j = -1 then 7 else 0 := fun Y => by unfold misA; rw [if_neg (by omega), Int.toNat_natCast]
    have HMA := Lib.hid hmA
    clear hin hmA
    rcases lvl_cases X j with ⟨hv, _⟩ | ⟨l, hl, hv, _⟩
    · rw [hv] at CW
      have HV := Lib.hid hv
      clear hv
      go_wp2_with fail
      refine CW.out.mono ?_
      rintro e w' ⟨rfl, rfl⟩
      clear CW
      go_wp2_with fail
      obtain ⟨z, hz⟩ : ∃ z, Hid (addA R n (j : Int) m = z) := ⟨_, Lib.hid rfl⟩
      have CA := Lib.hid (HQ.out.add (j : Int) m)
      rw [hz.out] at CA
      refine CA.out.mono ?_
      rintro e w2 ⟨rfl, QA⟩
      have HQ2 := Lib.hid QA
      have q2' := QA.cell 2 (.int .i64 m) rfl
      have q1' := QA.cell 1 (.int .i64 (j : Int)) rfl
      clear QA q0 q1 q2 CA

      by_cases hm : m < 0
      · go_wp2_with fail
        go_ret
        exact dop_add HQ2.out hz.out 3 (addA_lev X (Or.inl hm)) rfl (Or.inl rfl)
      · by_cases hm3 : 3 < m
        · go_wp2_with fail
          go_ret
          exact dop_add HQ2.out hz.out 3 (addA_lev X (Or.inr hm3)) rfl (Or.inl rfl)

        · obtain ⟨p, rfl⟩ : ∃ p : Nat, m = (p : Int) := ⟨m.toNat, by omega⟩
          have hp : p < 4 := by omega
          have hp0 : ¬ (p : Int) < 0 := hm
          have hp3 : ¬ 3 < (p : Int) := hm3
          have CP := Lib.hid (HQ2.out.rput j p hjn hp)
          go_wp2_with fail
          refine CP.out.mono ?_
          rintro e w3 ⟨rfl, QA⟩
          have HQ3 := Lib.hid QA
          clear QA q1' q2' CP
          go_wp2_with fail
          go_ret
          exact dop_add HQ3.out hz.out 0 (addA_new X hji (by omega) HV.out) (by rw [if_pos rfl, Int.toNat_natCast, Int.toNat_natCast]) (Or.inl rfl)
    · rw [hv] at CW
      have HV : Hid (lvl X j = (l : Int)) := Lib.hid hv
      have hl0 : ¬ (l : Int) < 0 := by omega
      clear hv
      go_wp2_with fail
      refine CW.out.mono ?_
      rintro e w' ⟨rfl, rfl⟩
      clear CW
      go_wp2_with fail
      obtain ⟨z, hz⟩ : ∃ z, Hid (addA R n (j : Int) m = z) := ⟨_, Lib.hid rfl⟩
      have CA := Lib.hid (HQ.out.add (j : Int) m)
      rw [hz.out] at CA
      refine CA.out.mono ?_
      rintro e w2 ⟨rfl, QA⟩
      have HQ2 := Lib.hid QA
      have q2' := QA.cell 2 (.int .i64 m) rfl
      have q1' := QA.cell 1 (.int .i64 (j : Int)) rfl
      clear QA q0 q1 q2 CA

      by_cases hm : m < 0
      · go_wp2_with fail
        go_ret
        exact dop_add HQ2.out hz.out 3 (addA_lev X (Or.inl hm)) rfl (Or.inl rfl)
      · by_cases hm3 : 3 < m
        · go_wp2_with fail
          go_ret
          exact dop_add HQ2.out hz.out 3 (addA_lev X (Or.inr hm3)) rfl (Or.inl rfl)

        · go_wp2_with fail
          go_ret
          exact dop_add HQ2.out hz.out 8 (addA_has X hji (by omega) (by rw [HV.out]; omega)) rfl (Or.inl rfl)
  · have HIN := Lib.hid hin
    have hlo : i < 0 ∨ (n : Int) ≤ i := by omega
    have HLO := Lib.hid hlo
    have HMO : Hid (∀ Y : Nat → List Nat, misA Y n i = 3) := Lib.hid (fun Y => by unfold misA; rw [if_pos hlo])
    have hlo : ¬ 0 ≤ i ∨ (0 ≤ i ∧ ¬ i < (n : Int)) := by omega
    clear hin
    rcases hlo with hlo | ⟨hlo, hlo2⟩
    all_goals
      go_wp2_with fail
      obtain ⟨z, hz⟩ : ∃ z, Hid (addA R n i m = z) := ⟨_, Lib.hid rfl⟩
      have CA := Lib.hid (HQ.out.add i m)
      rw [hz.out] at CA
      refine CA.out.mono ?_
      rintro e w2 ⟨rfl, QA⟩
      have HQ2 := Lib.hid QA
      have q2' := QA.cell 2 (.int .i64 m) rfl
      have q1' := QA.cell 1 (.int .i64 i) rfl
      clear QA q0 q1 q2 CA

      go_wp2_with fail
      go_ret
      exact dop_add HQ2.out hz.out 3 (addA_out X HLO.out) rfl (Or.inl rfl)
set_option maxRecDepth 100000 in
set_option maxHeartbeats 8000000 in
theorem lwdo1_any (B g h n : Nat) (R X : Nat → List Nat) (i m : Int) (w : World) (b : Bq B w g h n R X) (hm1 : -9223372036854775808 ≤ m) (hm2 : m ≤ 9223372036854775807) : Calls Try.prog 9 #[.pointer (some ⟨g, 0, none⟩), .pointer (some ⟨h, 0, none⟩), .int .i64 (n : Int), .agg #[.int .i64 1, .int .i64 i, .int .i64 m]] w (DoP B g h n w R X 1 i m) := by
  obtain ⟨w1, a, HW, HA, HQ⟩ := aq_start b #[.int .i64 1, .int .i64 i, .int .i64 m]
  clear b
  have q0 := HQ.out.cell 0 (.int .i64 1) rfl
  have q1 := HQ.out.cell 1 (.int .i64 i) rfl
  have q2 := HQ.out.cell 2 (.int .i64 m) rfl
  go_enter Try.func9, Try.ntmps9
  go_upto_region 1 with fail
  rw [HW.out, HA.out]
  clear HW HA
  by_cases hin : 0 ≤ i ∧ i < (n : Int)
  · obtain ⟨j, rfl⟩ : ∃ j : Nat, i = (j : Int) := ⟨i.toNat, by omega⟩
    have hjn : j < n := by omega
    have hji : (j : Int) < (n : Int) := hin.2
    have CW := Lib.hid (HQ.out.where_ j)
    have hmA : ∀ Y : Nat → List Nat, misA Y n (j : Int) = if lvl Y j = -1 then 7 else 0 := fun Y => by unfold misA; rw [if_neg (by omega), Int.toNat_natCast]
    have HMA := Lib.hid hmA
    clear hin hmA
    rcases lvl_cases X j with ⟨hv, _⟩ | ⟨l, hl, hv, _⟩
    · rw [hv] at CW
      have HV := Lib.hid hv
      clear hv
      go_wp2_with fail
      refine CW.out.mono ?_
      rintro e w' ⟨rfl, rfl⟩
      clear CW
      go_wp2_with fail
      obtain ⟨z, hz⟩ : ∃ z, Hid (addA R n (j : Int) m = z) := ⟨_, Lib.hid rfl⟩
      have CA := Lib.hid (HQ.out.add (j : Int) m)
      rw [hz.out] at CA
      refine CA.out.mono ?_
      rintro e w2 ⟨rfl, QA⟩
      have HQ2 := Lib.hid QA
      have q2' := QA.cell 2 (.int .i64 m) rfl
      have q1' := QA.cell 1 (.int .i64 (j : Int)) rfl
      clear QA q0 q1 q2 CA

      by_cases hm : m < 0
      · go_wp2_with fail
        go_ret
        exact dop_add HQ2.out hz.out 3 (addA_lev X (Or.inl hm)) rfl (Or.inr (Or.inl rfl))
      · by_cases hm3 : 3 < m
        · go_wp2_with fail
          go_ret
          exact dop_add HQ2.out hz.out 3 (addA_lev X (Or.inr hm3)) rfl (Or.inr (Or.inl rfl))

        · obtain ⟨p, rfl⟩ : ∃ p : Nat, m = (p : Int) := ⟨m.toNat, by omega⟩
          have hp : p < 4 := by omega
          have hp0 : ¬ (p : Int) < 0 := hm
          have hp3 : ¬ 3 < (p : Int) := hm3
          have CP := Lib.hid (HQ2.out.rput j p hjn hp)
          go_wp2_with fail
          refine CP.out.mono ?_
          rintro e w3 ⟨rfl, QA⟩
          have HQ3 := Lib.hid QA
          clear QA q1' q2' CP
          go_wp2_with fail
          go_ret
          exact dop_add HQ3.out hz.out 0 (addA_new X hji (by omega) HV.out) (by rw [if_pos rfl, Int.toNat_natCast, Int.toNat_natCast]) (Or.inr (Or.inl rfl))
    · rw [hv] at CW
      have HV : Hid (lvl X j = (l : Int)) := Lib.hid hv
      have hl0 : ¬ (l : Int) < 0 := by omega
      clear hv
      go_wp2_with fail
      refine CW.out.mono ?_
      rintro e w' ⟨rfl, rfl⟩
      clear CW
      go_wp2_with fail
      obtain ⟨z, hz⟩ : ∃ z, Hid (addA R n (j : Int) m = z) := ⟨_, Lib.hid rfl⟩
      have CA := Lib.hid (HQ.out.add (j : Int) m)
      rw [hz.out] at CA
      refine CA.out.mono ?_
      rintro e w2 ⟨rfl, QA⟩
      have HQ2 := Lib.hid QA
      have q2' := QA.cell 2 (.int .i64 m) rfl
      have q1' := QA.cell 1 (.int .i64 (j : Int)) rfl
      clear QA q0 q1 q2 CA

      by_cases hm : m < 0
      · go_wp2_with fail
        go_ret
        exact dop_add HQ2.out hz.out 3 (addA_lev X (Or.inl hm)) rfl (Or.inr (Or.inl rfl))
      · by_cases hm3 : 3 < m
        · go_wp2_with fail
          go_ret
          exact dop_add HQ2.out hz.out 3 (addA_lev X (Or.inr hm3)) rfl (Or.inr (Or.inl rfl))

        · go_wp2_with fail
          go_ret
          exact dop_add HQ2.out hz.out 8 (addA_has X hji (by omega) (by rw [HV.out]; omega)) rfl (Or.inr (Or.inl rfl))
  · have HIN := Lib.hid hin
    have hlo : i < 0 ∨ (n : Int) ≤ i := by omega
    have HLO := Lib.hid hlo
    have HMO : Hid (∀ Y : Nat → List Nat, misA Y n i = 3) := Lib.hid (fun Y => by unfold misA; rw [if_pos hlo])
    have hlo : ¬ 0 ≤ i ∨ (0 ≤ i ∧ ¬ i < (n : Int)) := by omega
    clear hin
    rcases hlo with hlo | ⟨hlo, hlo2⟩
    all_goals
      go_wp2_with fail
      obtain ⟨z, hz⟩ : ∃ z, Hid (addA R n i m = z) := ⟨_, Lib.hid rfl⟩
      have CA := Lib.hid (HQ.out.add i m)
      rw [hz.out] at CA
      refine CA.out.mono ?_
      rintro e w2 ⟨rfl, QA⟩
      have HQ2 := Lib.hid QA
      have q2' := QA.cell 2 (.int .i64 m) rfl
      have q1' := QA.cell 1 (.int .i64 i) rfl
      clear QA q0 q1 q2 CA

      go_wp2_with fail
      go_ret
      exact dop_add HQ2.out hz.out 3 (addA_out X HLO.out) rfl (Or.inr (Or.inl rfl))
set_option maxRecDepth 100000 in
set_option maxHeartbeats 8000000 in
theorem lwdo2_any (B g h n : Nat) (R X : Nat → List Nat) (i m : Int) (w : World) (b : Bq B w g h n R X) (hm1 : -9223372036854775808 ≤ m) (hm2 : m ≤ 9223372036854775807) : Calls Try.prog 9 #[.pointer (some ⟨g, 0, none⟩), .pointer (some ⟨h, 0, none⟩), .int .i64 (n : Int), .agg #[.int .i64 2, .int .i64 i, .int .i64 m]] w (DoP B g h n w R X 2 i m) := by
  obtain ⟨w1, a, HW, HA, HQ⟩ := aq_start b #[.int .i64 2, .int .i64 i, .int .i64 m]
  clear b
  have q0 := HQ.out.cell 0 (.int .i64 2) rfl
  have q1 := HQ.out.cell 1 (.int .i64 i) rfl
  have q2 := HQ.out.cell 2 (.int .i64 m) rfl
  go_enter Try.func9, Try.ntmps9
  go_upto_region 1 with fail
  rw [HW.out, HA.out]
  clear HW HA
  by_cases hin : 0 ≤ i ∧ i < (n : Int)
  · obtain ⟨j, rfl⟩ : ∃ j : Nat, i = (j : Int) := ⟨i.toNat, by omega⟩
    have hjn : j < n := by omega
    have hji : (j : Int) < (n : Int) := hin.2
    have CW := Lib.hid (HQ.out.where_ j)
    have hmA : ∀ Y : Nat → List Nat, misA Y n (j : Int) = if lvl Y j = -1 then 7 else 0 := fun Y => by unfold misA; rw [if_neg (by omega), Int.toNat_natCast]
    have HMA := Lib.hid hmA
    clear hin hmA
    rcases lvl_cases X j with ⟨hv, _⟩ | ⟨l, hl, hv, _⟩
    · rw [hv] at CW
      have HV := Lib.hid hv
      clear hv
      go_wp2_with fail
      refine CW.out.mono ?_
      rintro e w' ⟨rfl, rfl⟩
      clear CW
      go_wp2_with fail
      obtain ⟨z, hz⟩ : ∃ z, Hid (addA R n (j : Int) m = z) := ⟨_, Lib.hid rfl⟩
      have CA := Lib.hid (HQ.out.add (j : Int) m)
      rw [hz.out] at CA
      refine CA.out.mono ?_
      rintro e w2 ⟨rfl, QA⟩
      have HQ2 := Lib.hid QA
      have q2' := QA.cell 2 (.int .i64 m) rfl
      have q1' := QA.cell 1 (.int .i64 (j : Int)) rfl
      clear QA q0 q1 q2 CA

      by_cases hm : m < 0
      · go_wp2_with fail
        go_ret
        exact dop_add HQ2.out hz.out 3 (addA_lev X (Or.inl hm)) rfl (Or.inr (Or.inr rfl))
      · by_cases hm3 : 3 < m
        · go_wp2_with fail
          go_ret
          exact dop_add HQ2.out hz.out 3 (addA_lev X (Or.inr hm3)) rfl (Or.inr (Or.inr rfl))

        · obtain ⟨p, rfl⟩ : ∃ p : Nat, m = (p : Int) := ⟨m.toNat, by omega⟩
          have hp : p < 4 := by omega
          have hp0 : ¬ (p : Int) < 0 := hm
          have hp3 : ¬ 3 < (p : Int) := hm3
          have CP := Lib.hid (HQ2.out.rput j p hjn hp)
          go_wp2_with fail
          refine CP.out.mono ?_
          rintro e w3 ⟨rfl, QA⟩
          have HQ3 := Lib.hid QA
          clear QA q1' q2' CP
          go_wp2_with fail
          go_ret
          exact dop_add HQ3.out hz.out 0 (addA_new X hji (by omega) HV.out) (by rw [if_pos rfl, Int.toNat_natCast, Int.toNat_natCast]) (Or.inr (Or.inr rfl))
    · rw [hv] at CW
      have HV : Hid (lvl X j = (l : Int)) := Lib.hid hv
      have hl0 : ¬ (l : Int) < 0 := by omega
      clear hv
      go_wp2_with fail
      refine CW.out.mono ?_
      rintro e w' ⟨rfl, rfl⟩
      clear CW
      go_wp2_with fail
      obtain ⟨z, hz⟩ : ∃ z, Hid (addA R n (j : Int) m = z) := ⟨_, Lib.hid rfl⟩
      have CA := Lib.hid (HQ.out.add (j : Int) m)
      rw [hz.out] at CA
      refine CA.out.mono ?_
      rintro e w2 ⟨rfl, QA⟩
      have HQ2 := Lib.hid QA
      have q2' := QA.cell 2 (.int .i64 m) rfl
      have q1' := QA.cell 1 (.int .i64 (j : Int)) rfl
      clear QA q0 q1 q2 CA

      by_cases hm : m < 0
      · go_wp2_with fail
        go_ret
        exact dop_add HQ2.out hz.out 3 (addA_lev X (Or.inl hm)) rfl (Or.inr (Or.inr rfl))
      · by_cases hm3 : 3 < m
        · go_wp2_with fail
          go_ret
          exact dop_add HQ2.out hz.out 3 (addA_lev X (Or.inr hm3)) rfl (Or.inr (Or.inr rfl))

        · go_wp2_with fail
          go_ret
          exact dop_add HQ2.out hz.out 8 (addA_has X hji (by omega) (by rw [HV.out]; omega)) rfl (Or.inr (Or.inr rfl))
  · have HIN := Lib.hid hin
    have hlo : i < 0 ∨ (n : Int) ≤ i := by omega
    have HLO := Lib.hid hlo
    have HMO : Hid (∀ Y : Nat → List Nat, misA Y n i = 3) := Lib.hid (fun Y => by unfold misA; rw [if_pos hlo])
    have hlo : ¬ 0 ≤ i ∨ (0 ≤ i ∧ ¬ i < (n : Int)) := by omega
    clear hin
    rcases hlo with hlo | ⟨hlo, hlo2⟩
    all_goals
      go_wp2_with fail
      obtain ⟨z, hz⟩ : ∃ z, Hid (addA R n i m = z) := ⟨_, Lib.hid rfl⟩
      have CA := Lib.hid (HQ.out.add i m)
      rw [hz.out] at CA
      refine CA.out.mono ?_
      rintro e w2 ⟨rfl, QA⟩
      have HQ2 := Lib.hid QA
      have q2' := QA.cell 2 (.int .i64 m) rfl
      have q1' := QA.cell 1 (.int .i64 i) rfl
      clear QA q0 q1 q2 CA

      go_wp2_with fail
      go_ret
      exact dop_add HQ2.out hz.out 3 (addA_out X HLO.out) rfl (Or.inr (Or.inr rfl))
end Go.Proofs.Ytdoeaepfjdjmmaa
