/- Both queues: the law's do, kind 3, 4. -/
import Derived.Test.YtdoeaepfjdjmmaaLvZ
namespace Go.Proofs.Ytdoeaepfjdjmmaa
open Go.RowKit Go.Deep
set_option linter.unusedVariables false
set_option linter.unusedSimpArgs false
section
variable {B g h n a : Nat} {w0 w : World} {R X X' : Nat → List Nat} {A : Array Value} {k i m z : Int}
theorem dop_mis (f : (Nat → List Nat) → Nat → List Nat) (q : Aq B w0 w g h n (if z = 0 then f R else R) X' a A) (hz : misA R n i = z) (c : Int) (hc : misA X n i = c) (hX : X' = if c = 0 then f X else X) (hf : ∀ Y, actR n Y k i m = if misA Y n i = 0 then f Y else Y) : DoP B g h n w0 R X k i m (.returned (.bool (z == c))) w :=
  q.fin (z == c) (fun e => by subst e; rw [hz] at hc; subst hc; simp) (by rw [hf, hz]) (by rw [hf, hc, hX])
theorem act3 (Y : Nat → List Nat) : actR n Y 3 i m = if misA Y n i = 0 then rem Y i.toNat else Y := by unfold actR; rw [if_neg (by decide), if_pos rfl]
theorem act4 (Y : Nat → List Nat) : actR n Y 4 i m = if misA Y n i = 0 then movA Y i.toNat 0 else Y := by unfold actR; rw [if_neg (by decide), if_neg (by decide), if_pos rfl]
theorem act5 (Y : Nat → List Nat) : actR n Y 5 i m = if misA Y n i = 0 then movA Y i.toNat m else Y := by unfold actR; rw [if_neg (by decide), if_neg (by decide), if_neg (by decide), if_pos (Or.inl rfl)]
theorem act6 (Y : Nat → List Nat) : actR n Y 6 i m = if misA Y n i = 0 then movA Y i.toNat m else Y := by unfold actR; rw [if_neg (by decide), if_neg (by decide), if_neg (by decide), if_pos (Or.inr rfl)]
theorem act7 (Y : Nat → List Nat) : actR n Y 7 i m = balR Y m 3 := by unfold actR; rw [if_neg (by decide), if_neg (by decide), if_neg (by decide), if_neg (by decide), if_pos rfl]
end
set_option maxRecDepth 100000 in
set_option maxHeartbeats 8000000 in
theorem lwdo3_any (B g h n : Nat) (R X : Nat → List Nat) (i m : Int) (w : World) (b : Bq B w g h n R X) (hm1 : -9223372036854775808 ≤ m) (hm2 : m ≤ 9223372036854775807) : Calls Try.prog 9 #[.pointer (some ⟨g, 0, none⟩), .pointer (some ⟨h, 0, none⟩), .int .i64 (n : Int), .agg #[.int .i64 3, .int .i64 i, .int .i64 m]] w (DoP B g h n w R X 3 i m) := by
  obtain ⟨w1, a, HW, HA, HQ⟩ := aq_start b #[.int .i64 3, .int .i64 i, .int .i64 m]
  clear b
  have q0 := HQ.out.cell 0 (.int .i64 3) rfl
  have q1 := HQ.out.cell 1 (.int .i64 i) rfl
  have q2 := HQ.out.cell 2 (.int .i64 m) rfl
  go_enter Try.func9, Try.ntmps9
  go_upto_region 1 with fail
  rw [HW.out, HA.out]
  clear HW HA
  by_cases hin : 0 ≤ i ∧ i < (n : Int)
  · obtain ⟨j, rfl⟩ : ∃ j : Nat, i = (j : Int) := ⟨i.toNat, by omega⟩
    have hjn : j < n := by omega
    have hji : (j : Int) < (n : Int) := hin.2
    have CW := Lib.hid (HQ.out.where_ j)
    have hmA : ∀ Y : Nat → List Nat, misA Y n (j : Int) = if lvl Y j = -1 then 7 else 0 := fun Y => by unfold misA; rw [if_neg (by omega), Int.toNat_natCast]
    have HMA := Lib.hid hmA
    clear hin hmA
    rcases lvl_cases X j with ⟨hv, _⟩ | ⟨l, hl, hv, _⟩
    · rw [hv] at CW
      have HV := Lib.hid hv
      clear hv
      go_wp2_with fail
      refine CW.out.mono ?_
      rintro e w' ⟨rfl, rfl⟩
      clear CW
      obtain ⟨z, hz⟩ : ∃ z, Hid (misA R n (j : Int) = z) := ⟨_, Lib.hid rfl⟩
      have CA := Lib.hid (HQ.out.remove ((j : Int)))
      rw [hz.out] at CA
      go_wp2_with fail
      refine CA.out.mono ?_
      rintro e w2 ⟨rfl, QA⟩
      have HQ2 := Lib.hid QA
      clear QA q0 q1 q2 CA
      go_wp2_with fail
      go_ret
      exact dop_mis (fun Y => rem Y ((j : Int)).toNat) HQ2.out hz.out 7 (by rw [HMA.out, HV.out, if_pos rfl]) rfl (fun Y => act3 Y)
    · rw [hv] at CW
      have HV : Hid (lvl X j = (l : Int)) := Lib.hid hv
      have hl0 : ¬ (l : Int) < 0 := by omega
      clear hv
      go_wp2_with fail
      refine CW.out.mono ?_
      rintro e w' ⟨rfl, rfl⟩
      clear CW
      have CP := Lib.hid (HQ.out.rremove j)
      go_wp2_with fail
      refine CP.out.mono ?_
      rintro e w3 ⟨rfl, QA⟩
      have HQ3 := Lib.hid QA
      have r1 := QA.cell 1 (.int .i64 (j : Int)) rfl
      have r2 := QA.cell 2 (.int .i64 m) rfl
      clear QA CP

      obtain ⟨z, hz⟩ : ∃ z, Hid (misA R n (j : Int) = z) := ⟨_, Lib.hid rfl⟩
      have CA := Lib.hid (HQ3.out.remove ((j : Int)))
      rw [hz.out] at CA
      go_wp2_with fail
      refine CA.out.mono ?_
      rintro e w2 ⟨rfl, QA⟩
      have HQ2 := Lib.hid QA
      clear QA q0 q1 q2 CA
      go_wp2_with fail
      go_ret
      exact dop_mis (fun Y => rem Y ((j : Int)).toNat) HQ2.out hz.out 0 (by rw [HMA.out, HV.out, if_neg (by omega)]) (by rw [if_pos rfl]; rfl) (fun Y => act3 Y)
  · have HIN := Lib.hid hin
    have hlo : i < 0 ∨ (n : Int) ≤ i := by omega
    have HLO := Lib.hid hlo
    have HMO : Hid (∀ Y : Nat → List Nat, misA Y n i = 3) := Lib.hid (fun Y => by unfold misA; rw [if_pos hlo])
    have hlo : ¬ 0 ≤ i ∨ (0 ≤ i ∧ ¬ i < (n : Int)) := by omega
    clear hin
    rcases hlo with hlo | ⟨hlo, hlo2⟩
    all_goals
      obtain ⟨z, hz⟩ : ∃ z, Hid (misA R n i = z) := ⟨_, Lib.hid rfl⟩
      have CA := Lib.hid (HQ.out.remove (i))
      rw [hz.out] at CA
      go_wp2_with fail
      refine CA.out.mono ?_
      rintro e w2 ⟨rfl, QA⟩
      have HQ2 := Lib.hid QA
      clear QA q0 q1 q2 CA
      go_wp2_with fail
      go_ret
      exact dop_mis (fun Y => rem Y (i).toNat) HQ2.out hz.out 3 (HMO.out X) rfl (fun Y => act3 Y)
set_option maxRecDepth 100000 in
set_option maxHeartbeats 8000000 in
theorem lwdo4_any (B g h n : Nat) (R X : Nat → List Nat) (i m : Int) (w : World) (b : Bq B w g h n R X) (hm1 : -9223372036854775808 ≤ m) (hm2 : m ≤ 9223372036854775807) : Calls Try.prog 9 #[.pointer (some ⟨g, 0, none⟩), .pointer (some ⟨h, 0, none⟩), .int .i64 (n : Int), .agg #[.int .i64 4, .int .i64 i, .int .i64 m]] w (DoP B g h n w R X 4 i m) := by
  obtain ⟨w1, a, HW, HA, HQ⟩ := aq_start b #[.int .i64 4, .int .i64 i, .int .i64 m]
  clear b
  have q0 := HQ.out.cell 0 (.int .i64 4) rfl
  have q1 := HQ.out.cell 1 (.int .i64 i) rfl
  have q2 := HQ.out.cell 2 (.int .i64 m) rfl
  go_enter Try.func9, Try.ntmps9
  go_upto_region 1 with fail
  rw [HW.out, HA.out]
  clear HW HA
  by_cases hin : 0 ≤ i ∧ i < (n : Int)
  · obtain ⟨j, rfl⟩ : ∃ j : Nat, i = (j : Int) := ⟨i.toNat, by omega⟩
    have hjn : j < n := by omega
    have hji : (j : Int) < (n : Int) := hin.2
    have CW := Lib.hid (HQ.out.where_ j)
    have hmA : ∀ Y : Nat → List Nat, misA Y n (j : Int) = if lvl Y j = -1 then 7 else 0 := fun Y => by unfold misA; rw [if_neg (by omega), Int.toNat_natCast]
    have HMA := Lib.hid hmA
    clear hin hmA
    rcases lvl_cases X j with ⟨hv, _⟩ | ⟨l, hl, hv, _⟩
    · rw [hv] at CW
      have HV := Lib.hid hv
      clear hv
      go_wp2_with fail
      refine CW.out.mono ?_
      rintro e w' ⟨rfl, rfl⟩
      clear CW
      obtain ⟨z, hz⟩ : ∃ z, Hid (misA R n (j : Int) = z) := ⟨_, Lib.hid rfl⟩
      have CA := Lib.hid (HQ.out.touch ((j : Int)))
      rw [hz.out] at CA
      go_wp2_with fail
      refine CA.out.mono ?_
      rintro e w2 ⟨rfl, QA⟩
      have HQ2 := Lib.hid QA
      clear QA q0 q1 q2 CA
      go_wp2_with fail
      go_ret
      exact dop_mis (fun Y => movA Y ((j : Int)).toNat 0) HQ2.out hz.out 7 (by rw [HMA.out, HV.out, if_pos rfl]) rfl (fun Y => act4 Y)
    · rw [hv] at CW
      have HV : Hid (lvl X j = (l : Int)) := Lib.hid hv
      have hl0 : ¬ (l : Int) < 0 := by omega
      clear hv
      go_wp2_with fail
      refine CW.out.mono ?_
      rintro e w' ⟨rfl, rfl⟩
      clear CW
      have CP := Lib.hid (HQ.out.rmove j 0 hjn (by rw [HV.out]; omega) (by omega) (by omega))
      go_wp2_with fail
      refine CP.out.mono ?_
      rintro e w3 ⟨rfl, QA⟩
      have HQ3 := Lib.hid QA
      have r1 := QA.cell 1 (.int .i64 (j : Int)) rfl
      have r2 := QA.cell 2 (.int .i64 m) rfl
      clear QA CP

      obtain ⟨z, hz⟩ : ∃ z, Hid (misA R n (j : Int) = z) := ⟨_, Lib.hid rfl⟩
      have CA := Lib.hid (HQ3.out.touch ((j : Int)))
      rw [hz.out] at CA
      go_wp2_with fail
      refine CA.out.mono ?_
      rintro e w2 ⟨rfl, QA⟩
      have HQ2 := Lib.hid QA
      clear QA q0 q1 q2 CA
      go_wp2_with fail
      go_ret
      exact dop_mis (fun Y => movA Y ((j : Int)).toNat 0) HQ2.out hz.out 0 (by rw [HMA.out, HV.out, if_neg (by omega)]) (by rw [if_pos rfl]; rfl) (fun Y => act4 Y)
  · have HIN := Lib.hid hin
    have hlo : i < 0 ∨ (n : Int) ≤ i := by omega
    have HLO := Lib.hid hlo
    have HMO : Hid (∀ Y : Nat → List Nat, misA Y n i = 3) := Lib.hid (fun Y => by unfold misA; rw [if_pos hlo])
    have hlo : ¬ 0 ≤ i ∨ (0 ≤ i ∧ ¬ i < (n : Int)) := by omega
    clear hin
    rcases hlo with hlo | ⟨hlo, hlo2⟩
    all_goals
      obtain ⟨z, hz⟩ : ∃ z, Hid (misA R n i = z) := ⟨_, Lib.hid rfl⟩
      have CA := Lib.hid (HQ.out.touch (i))
      rw [hz.out] at CA
      go_wp2_with fail
      refine CA.out.mono ?_
      rintro e w2 ⟨rfl, QA⟩
      have HQ2 := Lib.hid QA
      clear QA q0 q1 q2 CA
      go_wp2_with fail
      go_ret
      exact dop_mis (fun Y => movA Y (i).toNat 0) HQ2.out hz.out 3 (HMO.out X) rfl (fun Y => act4 Y)
end Go.Proofs.Ytdoeaepfjdjmmaa
