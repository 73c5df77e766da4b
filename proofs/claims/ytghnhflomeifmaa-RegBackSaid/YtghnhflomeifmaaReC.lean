/- Contracts (cellaret): the reference's Right. -/
import Derived.Test.YtghnhflomeifmaaReB
namespace Go.Proofs.Ytghnhflomeifmaa
open Go.RowKit Go.Deep
set_option linter.unusedVariables false
set_option linter.unusedSimpArgs false
/-- The first test of Right: five fields. -/
def bad1 (R : Rg) : Bool := decide (R.ep < 0) || (decide (4294967295 < R.ep) || (decide (R.iv < 0) || (decide (1099511627776 < R.iv) || (decide (R.di < 0) || (decide (8 < R.di) || (decide (R.mo < 0) || decide (2 < R.mo)))))))
def ar (R : Rg) (i : Nat) : Int := if i = 0 then R.a0 else R.a1
def us (R : Rg) (i : Nat) : Int := if i = 0 then R.u0 else R.u1
def ok2 (R : Rg) (i : Nat) : Prop := (ar R i = 0 ∨ ar R i = 1) ∧ 0 ≤ us R i ∧ us R i ≤ 80
def gd (R : Rg) : Prop := 0 ≤ R.ep ∧ R.ep ≤ 4294967295 ∧ 0 ≤ R.iv ∧ R.iv ≤ 1099511627776 ∧ 0 ≤ R.di ∧ R.di ≤ 8 ∧ 0 ≤ R.mo ∧ R.mo ≤ 2
theorem okF_iff (R : Rg) : (∀ i, i < 8 → okF R i) ↔ gd R ∧ ok2 R 0 ∧ ok2 R 1 := by
  constructor
  · intro h
    have h0 := h 0 (by omega)
    have h1 := h 1 (by omega)
    have h2 := h 2 (by omega)
    have h3 := h 3 (by omega)
    have h4 := h 4 (by omega)
    have h5 := h 5 (by omega)
    have h6 := h 6 (by omega)
    have h7 := h 7 (by omega)
    simp [okF, fld, mst] at h0 h1 h2 h3 h4 h5 h6 h7
    simp [gd, ok2, ar, us]
    omega
  · rintro ⟨h1, h2, h3⟩ i hi
    simp [gd, ok2, ar, us] at h1 h2 h3
    rcases i8 hi with rfl | rfl | rfl | rfl | rfl | rfl | rfl | rfl <;> simp [okF, fld, mst] <;> omega
theorem bad_cases (R : Rg) (h : ¬ gd R) : (R.ep < 0) ∨ (0 ≤ R.ep ∧ 4294967295 < R.ep) ∨ (0 ≤ R.ep ∧ R.ep ≤ 4294967295 ∧ R.iv < 0) ∨ (0 ≤ R.ep ∧ R.ep ≤ 4294967295 ∧ 0 ≤ R.iv ∧ 1099511627776 < R.iv) ∨ (0 ≤ R.ep ∧ R.ep ≤ 4294967295 ∧ 0 ≤ R.iv ∧ R.iv ≤ 1099511627776 ∧ R.di < 0) ∨
    (0 ≤ R.ep ∧ R.ep ≤ 4294967295 ∧ 0 ≤ R.iv ∧ R.iv ≤ 1099511627776 ∧ 0 ≤ R.di ∧ 8 < R.di) ∨ (0 ≤ R.ep ∧ R.ep ≤ 4294967295 ∧ 0 ≤ R.iv ∧ R.iv ≤ 1099511627776 ∧ 0 ≤ R.di ∧ R.di ≤ 8 ∧ R.mo < 0) ∨ (0 ≤ R.ep ∧ R.ep ≤ 4294967295 ∧ 0 ≤ R.iv ∧ R.iv ≤ 1099511627776 ∧ 0 ≤ R.di ∧ R.di ≤ 8 ∧ 0 ≤ R.mo ∧ 2 < R.mo) := by
  unfold gd at h
  omega
set_option maxRecDepth 100000 in
set_option maxHeartbeats 4000000 in
theorem right_bad (R : Rg) (w : World) (h : ¬ gd R) : Calls Try.prog 8 #[.agg (rcells R)] w fun e w' => e = .returned (.bool false) ∧ Below w.heap.size w w' := by
  obtain ⟨w0, HE, HR0, B0⟩ := box_reg w R
  obtain ⟨c64, c65, c66, c67, c68, c69, c70, c71, c72⟩ := HR0.cells
  have hc := bad_cases R h
  clear h HR0 c66 c67 c68 c69 c72
  generalize R.ep = ep at *
  generalize R.iv = iv at *
  generalize R.di = di at *
  generalize R.mo = mo at *
  go_enter Try.func8, Try.ntmps8
  go_upto_region 1 with fail
  rw [HE.out]
  clear HE
  rcases hc with h1 | ⟨h1, h2⟩ | ⟨h1, h2, h3⟩ | ⟨h1, h2, h3, h4⟩ | ⟨h1, h2, h3, h4, h5⟩ | ⟨h1, h2, h3, h4, h5, h6⟩ | ⟨h1, h2, h3, h4, h5, h6, h7⟩ | ⟨h1, h2, h3, h4, h5, h6, h7, h8⟩
  all_goals
    go_wp2
    go_ret
    exact ⟨rfl, B0⟩
theorem ok2_cases (R : Rg) (i : Nat) (h : ¬ ok2 R i) : (¬ ar R i = 0 ∧ ¬ ar R i = 1) ∨ (ar R i = 0 ∧ us R i < 0) ∨ (ar R i = 0 ∧ 0 ≤ us R i ∧ 80 < us R i) ∨ (ar R i = 1 ∧ us R i < 0) ∨ (ar R i = 1 ∧ 0 ≤ us R i ∧ 80 < us R i) := by
  unfold ok2 at h
  omega
theorem i2 {i : Nat} (h : i < 2) : i = 0 ∨ i = 1 := by omega
theorem RegAt.ar {w : World} {g : Nat} {R : Rg} (h : RegAt w g R) (i : Nat) (hi : i < 2) : w.cell? ⟨g, 66 + i, none⟩ = some (.int .i64 (ar R i)) ∧ w.cell? ⟨g, 68 + i, none⟩ = some (.int .i64 (us R i)) := by
  obtain ⟨c64, c65, c66, c67, c68, c69, c70, c71, c72⟩ := h.cells
  rcases i2 hi with rfl | rfl
  · exact ⟨c66, c68⟩
  · exact ⟨c67, c69⟩
set_option maxRecDepth 100000 in
set_option maxHeartbeats 4000000 in
theorem right_bad2 (R : Rg) (w : World) (h : gd R) (k : Nat) (hk : k < 2) (hok : ∀ i, i < k → ok2 R i) (hno : ¬ ok2 R k) : Calls Try.prog 8 #[.agg (rcells R)] w fun e w' => e = .returned (.bool false) ∧ Below w.heap.size w w' := by
  obtain ⟨w0, HE, HR0, B0⟩ := box_reg w R
  obtain ⟨c64, c65, c66, c67, c68, c69, c70, c71, c72⟩ := HR0.cells
  obtain ⟨h1, h2, h3, h4, h5, h6, h7, h8⟩ := h
  have HN := Lib.hid (ok2_cases R k hno)
  have HO := Lib.hid hok
  have HAR := Lib.hid (HR0.ar)
  clear HR0 c66 c67 c68 c69 c72 hno hok
  generalize R.ep = ep at *
  generalize R.iv = iv at *
  generalize R.di = di at *
  generalize R.mo = mo at *
  go_enter Try.func8, Try.ntmps8
  go_upto_region 1 with fail
  rw [HE.out]
  clear HE
  go_wp2
  go_loopw [3] (fun x wi => ∃ i : Nat, x = .int .i64 i ∧ i ≤ k ∧ wi = w0) (fun x _ => 2 - (intOf x).toNat)
  case atStart => exact ⟨0, rfl, by omega, rfl⟩
  case round =>
    obtain ⟨i, rfl, hi, rfl⟩ := hrel
    have hli : (i : Int) < 2 := by omega
    obtain ⟨ca, cu⟩ := HAR.out i (by omega)
    by_cases hlt : i < k
    · obtain ⟨k1, k2, k3⟩ := HO.out i hlt
      generalize ar R i = a at *
      generalize us R i = u at *
      rcases k1 with rfl | rfl
      all_goals
        go_wp2
        go_roundw
        case rel => exact ⟨i + 1, by go_num, by omega, by first | rfl | trivial⟩
        case measure => simp [intOf]; omega
    · obtain rfl : i = k := by omega
      have hn := HN.out
      clear HN
      generalize ar R i = a at *
      generalize us R i = u at *
      rcases hn with ⟨n1, n2⟩ | ⟨rfl, n2⟩ | ⟨rfl, n2, n3⟩ | ⟨rfl, n2⟩ | ⟨rfl, n2, n3⟩
      all_goals
        go_wp2
        go_ret
        exact ⟨rfl, B0⟩
theorem nf_cases (R : Rg) (h1 : 0 ≤ R.di) (h2 : 0 ≤ R.a1) (h3 : 0 ≤ R.u1) : (0 < R.di ∧ nf R = false) ∨ (R.di = 0 ∧ 0 < R.a1 ∧ nf R = false) ∨ (R.di = 0 ∧ R.a1 = 0 ∧ 0 < R.u1 ∧ nf R = false) ∨ (R.di = 0 ∧ R.a1 = 0 ∧ R.u1 = 0 ∧ nf R = z1 R) := by
  unfold nf
  by_cases a : R.di = 0
  · by_cases b : R.a1 = 0
    · by_cases c : R.u1 = 0
      · simp [a, b, c]
      · simp [a, b, c]; omega
    · simp [a, b]; omega
  · simp [a]; omega
/-- Behind the fields. -/
def rest (R : Rg) : Bool := decide ((R.at_ = false → nf R = true) ∧ (R.mo = 0 ∨ R.di = 0))
set_option maxRecDepth 100000 in
set_option maxHeartbeats 8000000 in
theorem right_rest (R : Rg) (w : World) (h : gd R) (h0 : ok2 R 0) (h1 : ok2 R 1) : Calls Try.prog 8 #[.agg (rcells R)] w fun e w' => e = .returned (.bool (rest R)) ∧ Below w.heap.size w w' := by
  obtain ⟨w0, HE, HR0, B0⟩ := box_reg w R
  obtain ⟨c64, c65, c66, c67, c68, c69, c70, c71, c72⟩ := HR0.cells
  obtain ⟨g1, g2, g3, g4, g5, g6, g7, g8⟩ := h
  have HO : Hid (∀ i, i < 2 → ok2 R i) := Lib.hid (fun i hi => by rcases i2 hi with rfl | rfl <;> assumption)
  have HAR := Lib.hid (HR0.ar)
  have hr1 := HR0.r1
  have hq := neq_zero R
  have hcase := nf_cases R g5 (by unfold ok2 at h1; have := h1.1; simp only [ar, show ¬ (1 = 0) by omega, if_false] at this; omega) (by unfold ok2 at h1; have := h1.2; simp only [us, show ¬ (1 = 0) by omega, if_false] at this; omega)
  have HP : Hid (∀ x, (decide ((R.at_ = false → nf R = true) ∧ (R.mo = 0 ∨ R.di = 0))) = x → rest R = x) := Lib.hid (by rintro x rfl; rfl)
  clear HR0 h0 h1 c66 c68
  generalize nf R = nn at *
  generalize R.ep = ep at *
  generalize R.iv = iv at *
  generalize hdi : R.di = di at *
  generalize R.mo = mo at *
  generalize R.at_ = at_ at *
  generalize z1 R = zz at *
  clear hdi
  go_enter Try.func8, Try.ntmps8
  go_upto_region 1 with fail
  rw [HE.out]
  clear HE
  go_wp2
  go_loopw [3] (fun x wi => ∃ i : Nat, x = .int .i64 i ∧ i ≤ 2 ∧ wi = w0) (fun x _ => 2 - (intOf x).toNat)
  case atStart => exact ⟨0, rfl, by omega, rfl⟩
  case round =>
    obtain ⟨i, rfl, hi, rfl⟩ := hrel
    by_cases hlt : i < 2
    · have hli : (i : Int) < 2 := by omega
      obtain ⟨ca, cu⟩ := HAR.out i (by omega)
      obtain ⟨k1, k2, k3⟩ := HO.out i hlt
      generalize ar R i = a at *
      generalize us R i = u at *
      clear hcase hq hr1
      rcases k1 with rfl | rfl
      all_goals
        go_wp2
        go_roundw
        case rel => exact ⟨i + 1, by go_num, by omega, by first | rfl | trivial⟩
        case measure => simp [intOf]; omega
    · obtain rfl : i = 2 := by omega
      clear HO HAR
      generalize R.a1 = a1 at *
      generalize R.u1 = u1 at *
      have hm : (mo = 0) ∨ (¬ mo = 0) := by omega
      cases at_
      · rcases hcase with ⟨k1, k2⟩ | ⟨k1, k2, k3⟩ | ⟨k1, k2, k3, k4⟩ | ⟨k1, k2, k3, k4⟩
        · have E := Lib.hid (HP.out false (by simp [k2]))
          clear HP hq hr1 k2
          go_wp2
          go_ret
          exact ⟨by rw [E.out]; first | done | rfl, B0⟩
        · have E := Lib.hid (HP.out false (by simp [k3]))
          subst k1
          clear HP hq hr1 k3
          go_wp2
          go_ret
          exact ⟨by rw [E.out]; first | done | rfl, B0⟩
        · have E := Lib.hid (HP.out false (by simp [k4]))
          subst k1 k2
          clear HP hq hr1 k4
          go_wp2
          go_ret
          exact ⟨by rw [E.out]; first | done | rfl, B0⟩
        · subst k4 k1 k2 k3
          cases nn
          · have E := Lib.hid (HP.out false (by simp))
            clear HP
            go_wp2_with (refine wpList_load_mid_h 23 _ rfl rfl w.heap.size 32 rfl ((digL R.d1).map fun b => .int .u8 (b.toNat : Int)) _ hr1 Try.underlying23 rfl (by simp only [List.length_map, digL, List.length_range]; kernel_rfl) ?_)
            go_ret
            exact ⟨by rw [E.out]; first | done | rfl, B0⟩
          · have E := Lib.hid (HP.out true (by simp))
            clear HP
            rcases hm with rfl | hm
            · go_wp2_with (refine wpList_load_mid_h 23 _ rfl rfl w.heap.size 32 rfl ((digL R.d1).map fun b => .int .u8 (b.toNat : Int)) _ hr1 Try.underlying23 rfl (by simp only [List.length_map, digL, List.length_range]; kernel_rfl) ?_)
              go_ret
              exact ⟨by rw [E.out]; first | done | rfl, B0⟩
            · have hm' : (mo == 0) = false := by simpa using hm
              go_wp2_with (refine wpList_load_mid_h 23 _ rfl rfl w.heap.size 32 rfl ((digL R.d1).map fun b => .int .u8 (b.toNat : Int)) _ hr1 Try.underlying23 rfl (by simp only [List.length_map, digL, List.length_range]; kernel_rfl) ?_)
              go_ret
              exact ⟨by rw [E.out]; first | done | rfl, B0⟩
      · have E := Lib.hid (HP.out (decide (mo = 0 ∨ di = 0)) (by simp))
        clear HP hcase hq hr1
        rcases hm with rfl | hm
        · go_wp2
          go_ret
          exact ⟨by rw [E.out]; simp; try rfl, B0⟩
        · have hm' : (mo == 0) = false := by simpa using hm
          by_cases hd : di = 0
          · subst hd
            go_wp2
            go_ret
            exact ⟨by rw [E.out]; simp; try rfl, B0⟩
          · have hd' : (di == 0) = false := by simpa using hd
            go_wp2
            go_ret
            exact ⟨by rw [E.out]; simp [hm, hd]; try rfl, B0⟩
/-- Whether a register may be, as the reference tells it. -/
theorem right_any (R : Rg) (w : World) : ∃ b, (b = true ↔ Rt R) ∧ Calls Try.prog 8 #[.agg (rcells R)] w fun e w' => e = .returned (.bool b) ∧ Below w.heap.size w w' := by
  by_cases h : gd R
  · by_cases h0 : ok2 R 0
    · by_cases h1 : ok2 R 1
      · refine ⟨rest R, ?_, right_rest R w h h0 h1⟩
        unfold rest Rt
        rw [okF_iff, decide_eq_true_iff]
        exact ⟨fun hh => ⟨⟨h, h0, h1⟩, hh⟩, fun hh => hh.2⟩
      · exact ⟨false, ⟨fun hh => (by cases hh), fun hh => absurd ((okF_iff R).1 hh.1).2.2 h1⟩, right_bad2 R w h 1 (by omega) (fun i hi => by have hz : i = 0 := (by omega); exact hz ▸ h0) h1⟩
    · exact ⟨false, ⟨fun hh => (by cases hh), fun hh => absurd ((okF_iff R).1 hh.1).2.1 h0⟩, right_bad2 R w h 0 (by omega) (fun i hi => by omega) h0⟩
  · exact ⟨false, ⟨fun hh => (by cases hh), fun hh => absurd ((okF_iff R).1 hh.1).1 h⟩, right_bad R w h⟩
end Go.Proofs.Ytghnhflomeifmaa
