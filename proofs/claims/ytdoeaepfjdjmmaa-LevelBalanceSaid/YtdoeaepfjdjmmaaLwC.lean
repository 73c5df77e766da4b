/- Both queues: the law's do, kind 5, 6. -/
import Derived.Test.YtdoeaepfjdjmmaaLwB
namespace Go.Proofs.Ytdoeaepfjdjmmaa
open Go.RowKit Go.Deep
set_option linter.unusedVariables false
set_option linter.unusedSimpArgs false
set_option maxRecDepth 100000 in
set_option maxHeartbeats 8000000 in
theorem lwdo5_any (B g h n : Nat) (R X : Nat → List Nat) (i m : Int) (w : World) (b : Bq B w g h n R X) (hm1 : -9223372036854775808 ≤ m) (hm2 : m ≤ 9223372036854775807) : Calls Try.prog 9 #[.pointer (some ⟨g, 0, none⟩), .pointer (some ⟨h, 0, none⟩), .int .i64 (n : Int), .agg #[.int .i64 5, .int .i64 i, .int .i64 m]] w (DoP B g h n w R X 5 i m) := by
  obtain ⟨w1, a, HW, HA, HQ⟩ := aq_start b #[.int .i64 5, .int .i64 i, .int .i64 m]
  clear b
  have q0 := HQ.out.cell 0 (.int .i64 5) rfl
  have q1 := HQ.out.cell 1 (.int .i64 i) rfl
  have q2 := HQ.out.cell 2 (.int .i64 m) rfl
  go_enter Try.func9, Try.ntmps9
  go_upto_region 1 with fail
  rw [HW.out, HA.out]
  clear HW HA
  by_cases hin : 0 ≤ i ∧ i < (n : Int)
  · obtain ⟨j, rfl⟩ : ∃ j : Nat, i = (j : Int) := ⟨i.toNat, by omega⟩
    have hjn : j < n := by omega
    have hji : (j : Int) < (n : Int) := hin.2
    have CW := Lib.hid (HQ.out.where_ j)
    have hmA : ∀ Y : Nat → List Nat, misA Y n (j : Int) = if lvl Y j = -1 then 7 else 0 := fun Y => by unfold misA; rw [if_neg (by omega), Int.toNat_natCast]
    have HMA := Lib.hid hmA
    clear hin hmA
    rcases lvl_cases X j with ⟨hv, _⟩ | ⟨l, hl, hv, _⟩
    · rw [hv] at CW
      have HV := Lib.hid hv
      clear hv
      go_wp2_with fail
      refine CW.out.mono ?_
      rintro e w' ⟨rfl, rfl⟩
      clear CW
      obtain ⟨z, hz⟩ : ∃ z, Hid (misA R n (j : Int) = z) := ⟨_, Lib.hid rfl⟩
      have CA := Lib.hid (HQ.out.move ((j : Int)) m)
      rw [hz.out] at CA
      go_wp2_with fail
      refine CA.out.mono ?_
      rintro e w2 ⟨rfl, QA⟩
      have HQ2 := Lib.hid QA
      clear QA q0 q1 q2 CA
      go_wp2_with fail
      go_ret
      exact dop_mis (fun Y => movA Y ((j : Int)).toNat m) HQ2.out hz.out 7 (by rw [HMA.out, HV.out, if_pos rfl]) rfl (fun Y => act5 Y)
    · rw [hv] at CW
      have HV : Hid (lvl X j = (l : Int)) := Lib.hid hv
      have hl0 : ¬ (l : Int) < 0 := by omega
      clear hv
      go_wp2_with fail
      refine CW.out.mono ?_
      rintro e w' ⟨rfl, rfl⟩
      clear CW
      have CP := Lib.hid (HQ.out.rmove j m hjn (by rw [HV.out]; omega) hm1 hm2)
      go_wp2_with fail
      refine CP.out.mono ?_
      rintro e w3 ⟨rfl, QA⟩
      have HQ3 := Lib.hid QA
      have r1 := QA.cell 1 (.int .i64 (j : Int)) rfl
      have r2 := QA.cell 2 (.int .i64 m) rfl
      clear QA CP

      obtain ⟨z, hz⟩ : ∃ z, Hid (misA R n (j : Int) = z) := ⟨_, Lib.hid rfl⟩
      have CA := Lib.hid (HQ3.out.move ((j : Int)) m)
      rw [hz.out] at CA
      go_wp2_with fail
      refine CA.out.mono ?_
      rintro e w2 ⟨rfl, QA⟩
      have HQ2 := Lib.hid QA
      clear QA q0 q1 q2 CA
      go_wp2_with fail
      go_ret
      exact dop_mis (fun Y => movA Y ((j : Int)).toNat m) HQ2.out hz.out 0 (by rw [HMA.out, HV.out, if_neg (by omega)]) (by rw [if_pos rfl]; rfl) (fun Y => act5 Y)
  · have HIN := Lib.hid hin
    have hlo : i < 0 ∨ (n : Int) ≤ i := by omega
    have HLO := Lib.hid hlo
    have HMO : Hid (∀ Y : Nat → List Nat, misA Y n i = 3) := Lib.hid (fun Y => by unfold misA; rw [if_pos hlo])
    have hlo : ¬ 0 ≤ i ∨ (0 ≤ i ∧ ¬ i < (n : Int)) := by omega
    clear hin
    rcases hlo with hlo | ⟨hlo, hlo2⟩
    all_goals
      obtain ⟨z, hz⟩ : ∃ z, Hid (misA R n i = z) := ⟨_, Lib.hid rfl⟩
      have CA := Lib.hid (HQ.out.move (i) m)
      rw [hz.out] at CA
      go_wp2_with fail
      refine CA.out.mono ?_
      rintro e w2 ⟨rfl, QA⟩
      have HQ2 := Lib.hid QA
      clear QA q0 q1 q2 CA
      go_wp2_with fail
      go_ret
      exact dop_mis (fun Y => movA Y (i).toNat m) HQ2.out hz.out 3 (HMO.out X) rfl (fun Y => act5 Y)
set_option maxRecDepth 100000 in
set_option maxHeartbeats 8000000 in
theorem lwdo6_any (B g h n : Nat) (R X : Nat → List Nat) (i m : Int) (w : World) (b : Bq B w g h n R X) (hm1 : -9223372036854775808 ≤ m) (hm2 : m ≤ 9223372036854775807) : Calls Try.prog 9 #[.pointer (some ⟨g, 0, none⟩), .pointer (some ⟨h, 0, none⟩), .int .i64 (n : Int), .agg #[.int .i64 6, .int .i64 i, .int .i64 m]] w (DoP B g h n w R X 6 i m) := by
  obtain ⟨w1, a, HW, HA, HQ⟩ := aq_start b #[.int .i64 6, .int .i64 i, .int .i64 m]
  clear b
  have q0 := HQ.out.cell 0 (.int .i64 6) rfl
  have q1 := HQ.out.cell 1 (.int .i64 i) rfl
  have q2 := HQ.out.cell 2 (.int .i64 m) rfl
  go_enter Try.func9, Try.ntmps9
  go_upto_region 1 with fail
  rw [HW.out, HA.out]
  clear HW HA
  by_cases hin : 0 ≤ i ∧ i < (n : Int)
  · obtain ⟨j, rfl⟩ : ∃ j : Nat, i = (j : Int) := ⟨i.toNat, by omega⟩
    have hjn : j < n := by omega
    have hji : (j : Int) < (n : Int) := hin.2
    have CW := Lib.hid (HQ.out.where_ j)
    have hmA : ∀ Y : Nat → List Nat, misA Y n (j : Int) = if lvl Y j = -1 then 7 else 0 := fun Y => by unfold misA; rw [if_neg (by omega), Int.toNat_natCast]
    have HMA := Lib.hid hmA
    clear hin hmA
    rcases lvl_cases X j with ⟨hv, _⟩ | ⟨l, hl, hv, _⟩
    · rw [hv] at CW
      have HV := Lib.hid hv
      clear hv
      go_wp2_with fail
      refine CW.out.mono ?_
      rintro e w' ⟨rfl, rfl⟩
      clear CW
      obtain ⟨z, hz⟩ : ∃ z, Hid (misA R n (j : Int) = z) := ⟨_, Lib.hid rfl⟩
      have CA := Lib.hid (HQ.out.move ((j : Int)) m)
      rw [hz.out] at CA
      go_wp2_with fail
      refine CA.out.mono ?_
      rintro e w2 ⟨rfl, QA⟩
      have HQ2 := Lib.hid QA
      clear QA q0 q1 q2 CA
      go_wp2_with fail
      go_ret
      exact dop_mis (fun Y => movA Y ((j : Int)).toNat m) HQ2.out hz.out 7 (by rw [HMA.out, HV.out, if_pos rfl]) rfl (fun Y => act6 Y)
    · rw [hv] at CW
      have HV : Hid (lvl X j = (l : Int)) := Lib.hid hv
      have hl0 : ¬ (l : Int) < 0 := by omega
      clear hv
      go_wp2_with fail
      refine CW.out.mono ?_
      rintro e w' ⟨rfl, rfl⟩
      clear CW
      have CP := Lib.hid (HQ.out.rmove j m hjn (by rw [HV.out]; omega) hm1 hm2)
      go_wp2_with fail
      refine CP.out.mono ?_
      rintro e w3 ⟨rfl, QA⟩
      have HQ3 := Lib.hid QA
      have r1 := QA.cell 1 (.int .i64 (j : Int)) rfl
      have r2 := QA.cell 2 (.int .i64 m) rfl
      clear QA CP

      obtain ⟨z, hz⟩ : ∃ z, Hid (misA R n (j : Int) = z) := ⟨_, Lib.hid rfl⟩
      have CA := Lib.hid (HQ3.out.move ((j : Int)) m)
      rw [hz.out] at CA
      go_wp2_with fail
      refine CA.out.mono ?_
      rintro e w2 ⟨rfl, QA⟩
      have HQ2 := Lib.hid QA
      clear QA q0 q1 q2 CA
      go_wp2_with fail
      go_ret
      exact dop_mis (fun Y => movA Y ((j : Int)).toNat m) HQ2.out hz.out 0 (by rw [HMA.out, HV.out, if_neg (by omega)]) (by rw [if_pos rfl]; rfl) (fun Y => act6 Y)
  · have HIN := Lib.hid hin
    have hlo : i < 0 ∨ (n : Int) ≤ i := by omega
    have HLO := Lib.hid hlo
    have HMO : Hid (∀ Y : Nat → List Nat, misA Y n i = 3) := Lib.hid (fun Y => by unfold misA; rw [if_pos hlo])
    have hlo : ¬ 0 ≤ i ∨ (0 ≤ i ∧ ¬ i < (n : Int)) := by omega
    clear hin
    rcases hlo with hlo | ⟨hlo, hlo2⟩
    all_goals
      obtain ⟨z, hz⟩ : ∃ z, Hid (misA R n i = z) := ⟨_, Lib.hid rfl⟩
      have CA := Lib.hid (HQ.out.move (i) m)
      rw [hz.out] at CA
      go_wp2_with fail
      refine CA.out.mono ?_
      rintro e w2 ⟨rfl, QA⟩
      have HQ2 := Lib.hid QA
      clear QA q0 q1 q2 CA
      go_wp2_with fail
      go_ret
      exact dop_mis (fun Y => movA Y (i).toNat m) HQ2.out hz.out 3 (HMO.out X) rfl (fun Y => act6 Y)
end Go.Proofs.Ytdoeaepfjdjmmaa
