/- Both queues: the law's do, kind others. -/
import Derived.Test.YtdoeaepfjdjmmaaLwB
namespace Go.Proofs.Ytdoeaepfjdjmmaa
open Go.RowKit Go.Deep
set_option linter.unusedVariables false
set_option linter.unusedSimpArgs false
set_option maxRecDepth 100000 in
set_option maxHeartbeats 8000000 in
theorem lwdo8_any (B g h n : Nat) (R X : Nat → List Nat) (k i m : Int) (w : World) (b : Bq B w g h n R X) (hm1 : -9223372036854775808 ≤ m) (hm2 : m ≤ 9223372036854775807) (hk0 : ¬ k = 0) (hk1 : ¬ k = 1) (hk2 : ¬ k = 2) (hk3 : ¬ k = 3) (hk4 : ¬ k = 4) (hk5 : ¬ k = 5) (hk6 : ¬ k = 6) (hk7 : ¬ k = 7) : Calls Try.prog 9 #[.pointer (some ⟨g, 0, none⟩), .pointer (some ⟨h, 0, none⟩), .int .i64 (n : Int), .agg #[.int .i64 k, .int .i64 i, .int .i64 m]] w (DoP B g h n w R X k i m) := by
  obtain ⟨w1, a, HW, HA, HQ⟩ := aq_start b #[.int .i64 k, .int .i64 i, .int .i64 m]
  clear b
  have q0 := HQ.out.cell 0 (.int .i64 k) rfl
  have q1 := HQ.out.cell 1 (.int .i64 i) rfl
  have q2 := HQ.out.cell 2 (.int .i64 m) rfl
  have HACT : Hid (∀ Y, actR n Y k i m = Y) := Lib.hid (fun Y => by unfold actR; rw [if_neg (by omega), if_neg hk3, if_neg hk4, if_neg (by omega), if_neg hk7])
  go_enter Try.func9, Try.ntmps9
  go_upto_region 1 with fail
  rw [HW.out, HA.out]
  clear HW HA
  by_cases hin : 0 ≤ i ∧ i < (n : Int)
  · obtain ⟨j, rfl⟩ : ∃ j : Nat, i = (j : Int) := ⟨i.toNat, by omega⟩
    have hjn : j < n := by omega
    have hji : (j : Int) < (n : Int) := hin.2
    have CW := Lib.hid (HQ.out.where_ j)
    have hmA : ∀ Y : Nat → List Nat, misA Y n (j : Int) = if lvl Y j = -1 then 7 else 0 := fun Y => by unfold misA; rw [if_neg (by omega), Int.toNat_natCast]
    have HMA := Lib.hid hmA
    clear hin hmA
    rcases lvl_cases X j with ⟨hv, _⟩ | ⟨l, hl, hv, _⟩
    · rw [hv] at CW
      have HV := Lib.hid hv
      clear hv
      go_wp2_with fail
      refine CW.out.mono ?_
      rintro e w' ⟨rfl, rfl⟩
      clear CW
      by_cases hr : misA R n (j : Int) = 0
      · have HR := Lib.hid hr
        clear hr
        have CL := Lib.hid (HQ.out.level (j : Int))
        rw [if_pos HR.out, Int.toNat_natCast] at CL
        go_wp2_with fail
        refine CL.out.mono ?_
        rintro e w' ⟨rfl, rfl⟩
        clear CL
        go_wp2_with fail
        go_ret
        exact HQ.out.fin false (fun e => by have h1 := HR.out; rw [HMA.out, e, HV.out] at h1; simp at h1) (HACT.out R).symm (HACT.out X).symm
      · have HR := Lib.hid hr
        clear hr
        have CL := Lib.hid (HQ.out.level (j : Int))
        rw [if_neg HR.out] at CL
        go_wp2_with fail
        refine CL.out.mono ?_
        rintro e w' ⟨rfl, rfl⟩
        clear CL
        go_wp2_with fail
        go_ret
        exact HQ.out.fin true (fun _ => rfl) (HACT.out R).symm (HACT.out X).symm
    · rw [hv] at CW
      have HV : Hid (lvl X j = (l : Int)) := Lib.hid hv
      have hl0 : ¬ (l : Int) < 0 := by omega
      clear hv
      go_wp2_with fail
      refine CW.out.mono ?_
      rintro e w' ⟨rfl, rfl⟩
      clear CW
      by_cases hr : misA R n (j : Int) = 0
      · have HR := Lib.hid hr
        clear hr
        have CW2 := Lib.hid (HQ.out.where_ j)
        rw [HV.out] at CW2

        have CL := Lib.hid (HQ.out.level (j : Int))
        rw [if_pos HR.out, Int.toNat_natCast] at CL
        go_wp2_with fail
        refine CL.out.mono ?_
        rintro e w' ⟨rfl, rfl⟩
        clear CL
        obtain ⟨z, hz⟩ : ∃ z, Hid (lvl R j = z) := ⟨_, Lib.hid rfl⟩
        rw [hz.out]
        go_wp2_with fail
        refine CW2.out.mono ?_
        rintro e w' ⟨rfl, rfl⟩
        clear CW2
        by_cases hzl : z = (l : Int)
        · subst hzl
          go_wp2_with fail
          go_ret
          exact HQ.out.fin true (fun _ => rfl) (HACT.out R).symm (HACT.out X).symm
        · go_wp2_with fail
          go_ret
          exact HQ.out.fin false (fun e => absurd (by rw [← hz.out, e, HV.out]) hzl) (HACT.out R).symm (HACT.out X).symm
      · have HR := Lib.hid hr
        clear hr
        have CL := Lib.hid (HQ.out.level (j : Int))
        rw [if_neg HR.out] at CL
        go_wp2_with fail
        refine CL.out.mono ?_
        rintro e w' ⟨rfl, rfl⟩
        clear CL
        go_wp2_with fail
        go_ret
        exact HQ.out.fin false (fun e => absurd (by rw [HMA.out, e, HV.out, if_neg (by omega)]) HR.out) (HACT.out R).symm (HACT.out X).symm
  · have HIN := Lib.hid hin
    have hlo : i < 0 ∨ (n : Int) ≤ i := by omega
    have HLO := Lib.hid hlo
    have HMO : Hid (∀ Y : Nat → List Nat, misA Y n i = 3) := Lib.hid (fun Y => by unfold misA; rw [if_pos hlo])
    have hlo : ¬ 0 ≤ i ∨ (0 ≤ i ∧ ¬ i < (n : Int)) := by omega
    clear hin
    rcases hlo with hlo | ⟨hlo, hlo2⟩
    all_goals
      have HR : Hid (¬ misA R n i = 0) := Lib.hid (by rw [HMO.out]; decide)

      have CL := Lib.hid (HQ.out.level i)
      rw [if_neg HR.out] at CL
      go_wp2_with fail
      refine CL.out.mono ?_
      rintro e w' ⟨rfl, rfl⟩
      clear CL
      go_wp2_with fail
      go_ret
      exact HQ.out.fin true (fun _ => rfl) (HACT.out R).symm (HACT.out X).symm
end Go.Proofs.Ytdoeaepfjdjmmaa
