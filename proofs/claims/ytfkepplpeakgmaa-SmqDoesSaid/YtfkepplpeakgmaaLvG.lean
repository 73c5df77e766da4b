/- Package level: the calls by rows. -/
import Derived.Test.YtfkepplpeakgmaaLvF
namespace Go.Proofs.Ytfkepplpeakgmaa
open Go.RowKit Go.Deep
set_option linter.unusedVariables false
set_option linter.unusedSimpArgs false
def addA (R : Nat → List Nat) (n : Nat) (i l : Int) : Int := if i < 0 ∨ (n : Int) ≤ i then 3 else if ¬ (0 ≤ l ∧ l < 4) then 3 else if lvl R i.toNat ≠ -1 then 8 else 0
set_option maxRecDepth 100000 in
set_option maxHeartbeats 4000000 in
theorem add_any (B g n : Nat) (R : Nat → List Nat) (i l : Int) (w : World) (h : QR w g n R) (hB : B ≤ g) : Calls Try.prog 33 #[.pointer (some ⟨g, 0, none⟩), .int .i64 i, .int .i64 l] w fun e w' => e = .returned (.int .i64 (addA R n i l)) ∧ QR w' g n (if addA R n i l = 0 then put R i.toNat l.toNat else R) ∧ Kq B [g] w w' := by
  obtain ⟨F, hQ, hO⟩ := h
  have PR := Lib.hid (refused_any g F i w hQ)
  rw [hO.n0] at PR
  have PL := Lib.hid (isLevel_any l w)
  have HQ := Lib.hid hQ
  have HO := Lib.hid hO
  have h16 := hO.n16
  unfold addA
  unfold refE at PR
  clear hO
  by_cases h1 : i < 0 ∨ (n : Int) ≤ i
  · rw [if_pos h1] at PR ⊢
    rw [if_neg (by omega)]
    clear h1 hQ PL h16
    go_enter Try.func33, Try.ntmps33
    go_wp2_with fail
    refine PR.out.mono ?_
    rintro e w' ⟨rfl, rfl⟩
    go_wp2_with fail
    go_ret
    exact ⟨rfl, ⟨F, HQ.out, HO.out⟩, Kq.refl _ _ _⟩
  rw [if_neg h1] at PR ⊢
  by_cases h2 : 0 ≤ l ∧ l < 4
  · rw [if_neg (fun hh => hh h2)]
    rw [decide_eq_true h2] at PL
    obtain ⟨k, rfl⟩ : ∃ k : Nat, i = (k : Int) := ⟨i.toNat, by omega⟩
    obtain ⟨m, rfl⟩ : ∃ m : Nat, l = (m : Int) := ⟨l.toNat, by omega⟩
    have hk : (k : Int) < 16 := by omega
    have hkn : k < n := by omega
    have hm : m < 4 := by omega
    rw [Int.toNat_natCast, Int.toNat_natCast]
    have c1 := hQ.cell (1 + k) (by omega)
    rw [HO.out.lvl (by omega)] at c1
    by_cases h3 : lvl R k = -1
    · rw [if_neg (fun hh => hh h3), if_pos rfl]
      rw [h3] at c1
      have hno : ∀ m, m < 4 → k ∉ R m := by
        rcases lvl_cases R k with ⟨_, h⟩ | ⟨l, _, h, _⟩
        · exact h
        · omega
      have hlast : F (53 + m) = -1 ∨ ∃ y : Nat, F (53 + m) = (y : Int) ∧ y < 16 := by
        rw [(HO.out.row m hm).la]
        by_cases e : R m = []
        · exact Or.inl (by rw [e]; rfl)
        · obtain ⟨y, hy, e2⟩ := lsO_mem (p := -1) e
          exact Or.inr ⟨y, e2, by have := HO.out.lt m hm y hy; omega⟩
      have PA := Lib.hid (append_any B g F k m w hQ hB (by omega) hm hlast)
      have HO2 := Lib.hid (HO.out.put hkn hm hno)
      clear hno hlast h3 h1 h2 hQ HO h16
      go_enter Try.func33, Try.ntmps33
      go_wp2_with fail
      refine PR.out.mono ?_
      rintro e w' ⟨rfl, rfl⟩
      go_wp2_with fail
      refine PL.out.mono ?_
      rintro e w' ⟨rfl, rfl⟩
      go_wp2_with fail
      refine PA.out.mono ?_
      rintro e w' ⟨rfl, q, kk⟩
      have HZ := Lib.hid (⟨q, kk⟩ : _ ∧ _)
      clear q kk
      go_wp2_with fail
      go_ret
      exact ⟨rfl, ⟨_, HZ.out.1, HO2.out⟩, HZ.out.2⟩
    · rw [if_pos h3, if_neg (by omega)]
      have hb : (lvl R k != -1) = true := by simpa using h3
      generalize lvl R k = v at *
      clear h3 h1 h2 hQ h16
      go_enter Try.func33, Try.ntmps33
      go_wp2_with fail
      refine PR.out.mono ?_
      rintro e w' ⟨rfl, rfl⟩
      go_wp2_with fail
      refine PL.out.mono ?_
      rintro e w' ⟨rfl, rfl⟩
      go_wp2_with fail
      go_ret
      exact ⟨rfl, ⟨F, HQ.out, HO.out⟩, Kq.refl _ _ _⟩
  · rw [if_pos h2, if_neg (by omega)]
    rw [decide_eq_false h2] at PL
    clear h1 h2 hQ h16
    go_enter Try.func33, Try.ntmps33
    go_wp2_with fail
    refine PR.out.mono ?_
    rintro e w' ⟨rfl, rfl⟩
    go_wp2_with fail
    refine PL.out.mono ?_
    rintro e w' ⟨rfl, rfl⟩
    go_wp2_with fail
    go_ret
    exact ⟨rfl, ⟨F, HQ.out, HO.out⟩, Kq.refl _ _ _⟩
set_option maxRecDepth 100000 in
set_option maxHeartbeats 4000000 in
theorem remove_any (B g n : Nat) (R : Nat → List Nat) (i : Int) (w : World) (h : QR w g n R) (hB : B ≤ g) : Calls Try.prog 55 #[.pointer (some ⟨g, 0, none⟩), .int .i64 i] w fun e w' => e = .returned (.int .i64 (misA R n i)) ∧ QR w' g n (if misA R n i = 0 then rem R i.toNat else R) ∧ Kq B [g] w w' := by
  obtain ⟨F, hQ, hO⟩ := h
  have PR := Lib.hid (missing_any g F n i w hQ hO.n0 hO.n16)
  rw [hO.mis] at PR
  have HQ := Lib.hid hQ
  have HO := Lib.hid hO
  by_cases h0 : misA R n i = 0
  · rw [if_pos h0, h0]
    rw [h0] at PR
    have h16 := hO.n16
    unfold misA at h0
    by_cases h1 : i < 0 ∨ (n : Int) ≤ i
    · rw [if_pos h1] at h0; exact absurd h0 (by decide)
    rw [if_neg h1] at h0
    obtain ⟨k, rfl⟩ : ∃ k : Nat, i = (k : Int) := ⟨i.toNat, by omega⟩
    rw [Int.toNat_natCast] at h0 ⊢
    rcases lvl_cases R k with ⟨h2, _⟩ | ⟨l, hl, h2, hx⟩
    · rw [if_pos h2] at h0; exact absurd h0 (by decide)
    obtain ⟨p, q, e1, e2, e3, hp, hq, hO2⟩ := hO.rem hl hx
    have PT := Lib.hid (take_any B g F k l p q w hQ hB (by omega) hl e1 e2 e3 hp hq)
    have HO2 := Lib.hid hO2
    clear hO2 hp hq e1 e2 e3 h2 hx h0 h1 hQ hO HO h16
    go_enter Try.func55, Try.ntmps55
    go_wp2_with fail
    refine PR.out.mono ?_
    rintro e w' ⟨rfl, rfl⟩
    go_wp2_with fail
    refine PT.out.mono ?_
    rintro e w' ⟨rfl, q, kk⟩
    have HZ := Lib.hid (⟨q, kk⟩ : _ ∧ _)
    clear q kk
    go_wp2_with fail
    go_ret
    exact ⟨rfl, ⟨_, HZ.out.1, HO2.out⟩, HZ.out.2⟩
  · rw [if_neg h0]
    have hb : (misA R n i != 0) = true := by simpa using h0
    generalize misA R n i = z at *
    clear h0 hQ hO
    go_enter Try.func55, Try.ntmps55
    go_wp2_with fail
    refine PR.out.mono ?_
    rintro e w' ⟨rfl, rfl⟩
    go_wp2_with fail
    go_ret
    exact ⟨rfl, ⟨F, HQ.out, HO.out⟩, Kq.refl _ _ _⟩
set_option maxRecDepth 100000 in
set_option maxHeartbeats 4000000 in
theorem level_any (g n : Nat) (R : Nat → List Nat) (i : Int) (w : World) (h : QR w g n R) : Calls Try.prog 31 #[.pointer (some ⟨g, 0, none⟩), .int .i64 i] w fun e w' => e = .returned (if misA R n i = 0 then .tuple #[.int .i64 (lvl R i.toNat), .bool true] else .tuple #[.int .i64 0, .bool false]) ∧ w = w' := by
  obtain ⟨F, hQ, hO⟩ := h
  have PR := Lib.hid (missing_any g F n i w hQ hO.n0 hO.n16)
  rw [hO.mis] at PR
  by_cases h0 : misA R n i = 0
  · rw [if_pos h0]
    rw [h0] at PR
    have h16 := hO.n16
    unfold misA at h0
    by_cases h1 : i < 0 ∨ (n : Int) ≤ i
    · rw [if_pos h1] at h0; exact absurd h0 (by decide)
    obtain ⟨k, rfl⟩ : ∃ k : Nat, i = (k : Int) := ⟨i.toNat, by omega⟩
    rw [Int.toNat_natCast]
    have hk : (k : Int) < 16 := by omega
    have c1 := hQ.cell (1 + k) (by omega)
    rw [hO.lvl (by omega)] at c1
    generalize lvl R k = v at *
    clear h0 h1 h16 hO hQ
    go_enter Try.func31, Try.ntmps31
    go_wp2_with fail
    refine PR.out.mono ?_
    rintro e w' ⟨rfl, rfl⟩
    go_wp2_with fail
    go_ret2
    exact ⟨rfl, rfl⟩
  · rw [if_neg h0]
    have hb : (misA R n i != 0) = true := by simpa using h0
    generalize misA R n i = z at *
    clear h0 hQ hO
    go_enter Try.func31, Try.ntmps31
    go_wp2_with fail
    refine PR.out.mono ?_
    rintro e w' ⟨rfl, rfl⟩
    go_wp2_with fail
    go_ret2
    exact ⟨rfl, rfl⟩
end Go.Proofs.Ytfkepplpeakgmaa
