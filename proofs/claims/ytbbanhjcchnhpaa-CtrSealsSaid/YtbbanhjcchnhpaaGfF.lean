/- Powers in the field: plain mathematics. -/
import Derived.Test.YtbbanhjcchnhpaaGfE
namespace Go.Proofs.Ytbbanhjcchnhpaa
open Go.RowKit
set_option linter.unusedVariables false

def gpow (a : Nat) : Nat → Nat
  | 0 => 1
  | n + 1 => gmul (gpow a n) a
theorem gpow_lt (a n : Nat) (ha : a < 256) : gpow a n < 256 := by
  induction n with
  | zero => show 1 < 256; omega
  | succ n ih => exact gmul_lt _ _ ih
theorem one_gmul (a : Nat) (ha : a < 256) : gmul 1 a = a := by rw [gmul_comm 1 a (by omega) ha, gmul_one]
theorem gpow_add (a m n : Nat) (ha : a < 256) : gpow a (m + n) = gmul (gpow a m) (gpow a n) := by
  induction n with
  | zero => show gpow a m = gmul (gpow a m) 1; rw [gmul_one]
  | succ n ih =>
    show gmul (gpow a (m + n)) a = gmul (gpow a m) (gmul (gpow a n) a)
    rw [ih, gmul_assoc _ _ _ (gpow_lt a m ha) (gpow_lt a n ha) ha]
theorem gpow_one (a : Nat) (ha : a < 256) : gpow a 1 = a := one_gmul a ha
theorem gpow_mul (a m n : Nat) (ha : a < 256) : gpow (gpow a m) n = gpow a (m * n) := by
  induction n with
  | zero => rfl
  | succ n ih =>
    show gmul (gpow (gpow a m) n) (gpow a m) = gpow a (m * n + m)
    rw [ih, gpow_add _ _ _ ha]
theorem gpow_sq (a n : Nat) (ha : a < 256) : gpow (gmul a a) n = gpow a (2 * n) := by
  have h : gmul a a = gpow a 2 := by show gmul a a = gmul (gmul 1 a) a; rw [one_gmul a ha]
  rw [h, gpow_mul a 2 n ha]
theorem agGo_pow (f n a p : Nat) (ha : a < 256) (hp : p < 256) (hn : n < 2 ^ f) : agGo f n a p = gmul p (gpow a n) := by
  induction f generalizing n a p with
  | zero =>
    have : n = 0 := by simp at hn; omega
    subst this
    show p = gmul p 1
    rw [gmul_one]
  | succ f ih =>
    unfold agGo
    have h2 : n / 2 < 2 ^ f := by rw [Nat.pow_succ] at hn; omega
    have haa := gmul_lt a a ha
    split
    · rename_i hodd
      rw [ih _ _ _ haa (gmul_lt _ _ hp) h2, gpow_sq a _ ha]
      have e : n = 1 + 2 * (n / 2) := by omega
      have : gpow a n = gmul a (gpow a (2 * (n / 2))) := by
        rw [show gpow a n = gpow a (1 + 2 * (n / 2)) from by rw [← e], gpow_add _ _ _ ha, gpow_one a ha]
      rw [this, gmul_assoc _ _ _ hp ha (gpow_lt _ _ ha)]
    · rename_i hev
      rw [ih _ _ _ haa hp h2, gpow_sq a _ ha]
      have e : 2 * (n / 2) = n := by omega
      rw [e]
theorem gag_pow (n a : Nat) (ha : a < 256) (hn : n < 256) : gag n a = gpow a n := by
  unfold gag
  rw [agGo_pow 8 n a 1 ha (by omega) hn, one_gmul _ (gpow_lt _ _ ha)]
theorem gpow_255 (a : Nat) (ha : a < 256) (h0 : a ≠ 0) : gpow a 255 = 1 := by
  rw [← gag_pow 255 a ha (by omega)]
  have := all1 (p := fun a => decide (a ≠ 0 → gag 255 a = 1)) 256 (by decide +kernel) a ha
  exact (of_decide_eq_true this) h0
theorem gpow_round (a r q : Nat) (ha : a < 256) (h0 : a ≠ 0) : gpow a (r + 255 * q) = gpow a r := by
  induction q with
  | zero => rfl
  | succ q ih =>
    rw [show r + 255 * (q + 1) = (r + 255 * q) + 255 from by omega, gpow_add _ _ _ ha, gpow_255 a ha h0, gmul_one, ih]
theorem gpow_mod (a n : Nat) (ha : a < 256) (h0 : a ≠ 0) : gpow a n = gpow a (n % 255) := by
  have := gpow_round a (n % 255) (n / 255) ha h0
  rwa [Nat.mod_add_div] at this
theorem gpow_zero (n : Nat) : gpow 0 (n + 1) = 0 := gmul_zero _
theorem gpow_cong (a m n : Nat) (ha : a < 256) (h0 : a ≠ 0) (h : m % 255 = n % 255) : gpow a m = gpow a n := by
  rw [gpow_mod a m ha h0, h, ← gpow_mod a n ha h0]

/-- A power, of any number. -/
def gpw (a : Nat) (n : Int) : Nat := if a = 0 then (if n = 0 then 1 else 0) else gag (n % 255).toNat a
theorem gpw_pos (a : Nat) (n : Int) (ha : a < 256) (h0 : a ≠ 0) : gpw a n = gpow a (n % 255).toNat := by
  unfold gpw
  rw [if_neg h0, gag_pow _ _ ha (by omega)]
theorem gpw_lt (a : Nat) (n : Int) (ha : a < 256) : gpw a n < 256 := by
  by_cases h0 : a = 0
  · unfold gpw; rw [if_pos h0]; split <;> omega
  · rw [gpw_pos a n ha h0]; exact gpow_lt _ _ ha
theorem gpw_256 (a : Nat) (ha : a < 256) : gpw a 256 = a := by
  by_cases h0 : a = 0
  · subst h0; rfl
  · rw [gpw_pos a _ ha h0]; exact gpow_one a ha
theorem gpw_0 (a : Nat) (ha : a < 256) : gpw a 0 = 1 := by
  by_cases h0 : a = 0
  · subst h0; rfl
  · rw [gpw_pos a _ ha h0]; rfl
theorem gpw_small (a n : Nat) (ha : a < 256) : gpw a (n : Int) = gpow a n := by
  by_cases h0 : a = 0
  · subst h0
    cases n with
    | zero => rfl
    | succ n => rw [gpow_zero]; unfold gpw; rw [if_pos rfl, if_neg (by omega)]
  · rw [gpw_pos a _ ha h0]
    exact gpow_cong a _ _ ha h0 (by omega)
theorem gpw_rem (a : Nat) (n : Int) (h0 : a ≠ 0) : gpw a (n.tmod 255) = gpw a n := by
  unfold gpw
  rw [if_neg h0, if_neg h0]
  have : n.tmod 255 % 255 = n % 255 := by
    rw [Int.tmod_eq_emod]
    split <;> omega
  rw [this]
theorem gpw_add (a : Nat) (m k : Int) (ha : a < 256) (h0 : a ≠ 0) : gmul (gpw a m) (gpw a k) = gpw a (m + k) := by
  rw [gpw_pos a m ha h0, gpw_pos a k ha h0, gpw_pos a _ ha h0, ← gpow_add _ _ _ ha]
  exact gpow_cong a _ _ ha h0 (by omega)
theorem ginv_pow (a : Nat) (ha : a < 256) (h0 : a ≠ 0) : ginv a = gpow a 254 := by
  unfold ginv
  rw [if_neg h0, gag_pow _ _ ha (by omega)]
theorem ginv_ne (a : Nat) (ha : a < 256) (h0 : a ≠ 0) : ginv a ≠ 0 := by
  intro h
  have := gmul_inv a ha h0
  rw [h, gmul_zero] at this
  omega
theorem ginv_lt' (a : Nat) (ha : a < 256) : ginv a < 256 := by
  by_cases h0 : a = 0
  · subst h0; decide
  · rw [ginv_pow a ha h0]; exact gpow_lt _ _ ha
theorem gpw_neg (a : Nat) (m : Int) (ha : a < 256) (h0 : a ≠ 0) : gpw a (-m) = gpw (ginv a) m := by
  rw [gpw_pos a _ ha h0, gpw_pos _ m (ginv_lt' a ha) (ginv_ne a ha h0), ginv_pow a ha h0, gpow_mul a _ _ ha]
  exact gpow_cong a _ _ ha h0 (by omega)
theorem ginv_only (a j : Nat) (ha : a < 256) (hj : j < 256) (h : gmul a j = 1) : ginv a = j := by
  have h0 : a ≠ 0 := by
    intro h0; subst h0; rw [zero_gmul] at h; omega
  have hi := ginv_lt' a ha
  have h1 : gmul (ginv a) (gmul a j) = ginv a := by rw [h, gmul_one]
  rw [← gmul_assoc _ _ _ hi ha hj, gmul_comm _ a hi ha, gmul_inv a ha h0, one_gmul j hj] at h1
  exact h1.symm

set_option maxRecDepth 100000 in
set_option maxHeartbeats 400000 in
theorem r02inv_any (a r : Nat) (w : World) (ha : a < 256) (hr : Hid (ginv a = r)) :
    Calls Try.prog 46 #[.int .i64 a] w fun e w' => e = .returned (.int .i64 r) ∧ w = w' := by
  go_enter Try.func46, Try.ntmps46
  go_wp2
  go_loop [3] (fun x => ∃ j : Nat, x = .int .i64 j ∧ 1 ≤ j ∧ j ≤ 256 ∧ Hid (∀ i, i < j → gmul a i ≠ 1))
    (fun x => 256 - (intOf x).toNat)
  case atStart => exact ⟨1, rfl, by omega, by omega, Lib.hid (by intro i hi; have : i = 0 := by omega
                                                                 subst this; rw [gmul_zero]; omega)⟩
  case round =>
    obtain ⟨j, rfl, hj1, hj, HJ⟩ := hrel
    by_cases hlt : j < 256
    · have HM := Lib.hid (fun w => r02mul_any a j w ha hlt)
      by_cases h1 : gmul a j = 1
      · have e : j = r := by rw [← hr.out]; exact (ginv_only a j ha hlt h1).symm
        subst e
        rw [h1] at HM
        clear h1
        go_wp2_with fail
        refine (HM.out _).mono ?_
        rintro e w' ⟨rfl, rfl⟩
        go_wp2
        go_ret
        exact ⟨rfl, rfl⟩
      · have hne : ((gmul a j : Nat) : Int) ≠ 1 := by omega
        have hb : (((gmul a j : Nat) : Int) == 1) = false := by rw [beq_eq_false_iff_ne]; exact hne
        have hg := gmul_lt a j ha
        have HN : Hid (∀ i, i < j + 1 → gmul a i ≠ 1) := Lib.hid (by
          intro i hi
          by_cases e : i = j
          · rw [e]; exact h1
          · exact HJ.out i (by omega))
        clear h1 hne
        generalize gmul a j = g at HM hb hg
        go_wp2_with fail
        refine (HM.out _).mono ?_
        rintro e w' ⟨rfl, rfl⟩
        go_wp2
        go_round
        case rel => exact ⟨j + 1, by go_num, by omega, by omega, HN⟩
        case measure => simp [intOf]; omega
    · have e : r = 0 := by
        rw [← hr.out]
        by_cases h0 : a = 0
        · subst h0; rfl
        · exact absurd (gmul_inv a ha h0) (HJ.out _ (by have := ginv_lt' a ha; omega))
      subst e
      go_wp2
      go_ret
      exact ⟨rfl, rfl⟩

set_option maxRecDepth 100000 in
set_option maxHeartbeats 400000 in
theorem r02pow_any (a n r : Nat) (w : World) (ha : a < 256) (hn : n < 1000) (hr : Hid (gpow a n = r)) :
    Calls Try.prog 52 #[.int .i64 a, .int .i64 n] w fun e w' => e = .returned (.int .i64 r) ∧ w = w' := by
  go_enter Try.func52, Try.ntmps52
  go_wp2
  go_loop [5, 6] (fun x y => ∃ j t : Nat, x = .int .i64 t ∧ y = .int .i64 j ∧ j ≤ n ∧ t < 256 ∧ Hid (gpow a j = t))
    (fun _ y => 1000 - (intOf y).toNat)
  case atStart => exact ⟨0, 1, rfl, rfl, by omega, by omega, Lib.hid rfl⟩
  case round =>
    obtain ⟨j, t, rfl, rfl, hj, ht, HT⟩ := hrel
    by_cases hlt : j < n
    · have HM := Lib.hid (fun w => r02mul_any t a w ht ha)
      have hg := gmul_lt t a ht
      have HN : Hid (gpow a (j + 1) = gmul t a) := Lib.hid (by unfold gpow; rw [HT.out])
      generalize gmul t a = g at HM hg HN
      go_wp2_with fail
      refine (HM.out _).mono ?_
      rintro e w' ⟨rfl, rfl⟩
      go_wp2
      go_round
      case rel => exact ⟨j + 1, g, rfl, by go_num, by omega, hg, HN⟩
      case measure => simp [intOf]; omega
    · have e : j = n := by omega
      subst e
      have e2 : t = r := by rw [← hr.out, HT.out]
      subst e2
      go_wp2
      go_ret
      exact ⟨rfl, rfl⟩
end Go.Proofs.Ytbbanhjcchnhpaa
