/- Package level: Move, Touch, Front by rows. -/
import Derived.Test.YtfkepplpeakgmaaLvG
namespace Go.Proofs.Ytfkepplpeakgmaa
open Go.RowKit Go.Deep
set_option linter.unusedVariables false
set_option linter.unusedSimpArgs false
/-- A step, cut; a level, cut. -/
def cutB (b : Int) : Int := if b < -4 then -4 else if 4 < b then 4 else b
def cutL (l : Int) : Int := if l < 0 then 0 else if 3 < l then 3 else l
def movA (R : Nat → List Nat) (i : Nat) (b : Int) : Nat → List Nat := put R i (cutL (lvl R i + cutB b)).toNat
theorem rem_rem (R : Nat → List Nat) (i k : Nat) : rem (rem R i) i k = rem R i k := by
  unfold rem
  rw [List.filter_filter]
  congr 1
  funext x
  simp
set_option maxRecDepth 100000 in
set_option maxHeartbeats 4000000 in
theorem move_any (B g n : Nat) (R : Nat → List Nat) (i b : Int) (w : World) (h : QR w g n R) (hB : B ≤ g) : Calls Try.prog 51 #[.pointer (some ⟨g, 0, none⟩), .int .i64 i, .int .i64 b] w fun e w' => e = .returned (.int .i64 (misA R n i)) ∧ QR w' g n (if misA R n i = 0 then movA R i.toNat b else R) ∧ Kq B [g] w w' := by
  obtain ⟨F, hQ, hO⟩ := h
  have PR := Lib.hid (missing_any g F n i w hQ hO.n0 hO.n16)
  rw [hO.mis] at PR
  have HQ := Lib.hid hQ
  have HO := Lib.hid hO
  by_cases h0 : misA R n i = 0
  · rw [if_pos h0, h0]
    rw [h0] at PR
    have h16 := hO.n16
    unfold misA at h0
    by_cases h1 : i < 0 ∨ (n : Int) ≤ i
    · rw [if_pos h1] at h0; exact absurd h0 (by decide)
    rw [if_neg h1] at h0
    obtain ⟨k, rfl⟩ : ∃ k : Nat, i = (k : Int) := ⟨i.toNat, by omega⟩
    rw [Int.toNat_natCast] at h0 ⊢
    rcases lvl_cases R k with ⟨h2, _⟩ | ⟨l, hl, h2, hx⟩
    · rw [if_pos h2] at h0; exact absurd h0 (by decide)
    have hkn : k < n := by omega
    have hk : (k : Int) < 16 := by omega
    obtain ⟨p, q, e1, e2, e3, hp, hq, hO2⟩ := hO.rem hl hx
    have PT := Lib.hid (take_any B g F k l p q w hQ hB (by omega) hl e1 e2 e3 hp hq)
    have c1 := hQ.cell (1 + k) (by omega)
    rw [e1] at c1
    obtain ⟨m, hm⟩ : ∃ m : Nat, cutL ((l : Int) + cutB b) = (m : Int) := ⟨(cutL ((l : Int) + cutB b)).toNat, by unfold cutL; split <;> (try split) <;> omega⟩
    have hm4 : m < 4 := by
      have : cutL ((l : Int) + cutB b) ≤ 3 := by unfold cutL; split <;> (try split) <;> omega
      omega
    have HA : Hid (movA R k b = put R k m) := Lib.hid (by unfold movA; rw [h2, hm, Int.toNat_natCast])
    rw [HA.out]
    have hlast : tkF F k l p q (53 + m) = -1 ∨ ∃ y : Nat, tkF F k l p q (53 + m) = (y : Int) ∧ y < 16 := by
      rw [(hO2.row m hm4).la]
      by_cases e : rem R k m = []
      · exact Or.inl (by rw [e]; rfl)
      · obtain ⟨y, hy, e2⟩ := lsO_mem (p := -1) e
        exact Or.inr ⟨y, e2, by have := hO2.lt m hm4 y hy; omega⟩
    have HO3 : Hid (QOk (apF (tkF F k l p q) k m) n (put R k m)) := Lib.hid ((hO2.put hkn hm4 (fun m hm => hO.rem_no hm)).congr fun x hx => by
      unfold put setR
      rw [rem_rem]
      split
      · rfl
      · rw [rem_rem])
    have PA := Lib.hid (fun w' (h' : QAt w' g (tkF F k l p q)) => append_any B g (tkF F k l p q) k m w' h' hB (by omega) hm4 hlast)
    have hcb : -4 ≤ cutB b ∧ cutB b ≤ 4 := by unfold cutB; split <;> (try split) <;> omega
    have hwr : IntKind.i64.wrap ((l : Int) + cutB b) = (l : Int) + cutB b := IntWalk.i64_in _ (by omega)
    have HB : Hid (∀ z, cutB b = z → (b < -4 → z = -4) ∧ (4 < b → z = 4) ∧ (¬ b < -4 → ¬ 4 < b → z = b)) := Lib.hid (fun z hz => by subst hz; unfold cutB; refine ⟨fun h => if_pos h, fun h => by rw [if_neg (by omega), if_pos h], fun h1 h2 => by rw [if_neg h1, if_neg h2]⟩)
    have HL : Hid (∀ z, (z < 0 → cutL z = 0) ∧ (3 < z → cutL z = 3) ∧ (¬ z < 0 → ¬ 3 < z → cutL z = z)) := Lib.hid (fun z => by unfold cutL; refine ⟨fun h => if_pos h, fun h => by rw [if_neg (by omega), if_pos h], fun h1 h2 => by rw [if_neg h1, if_neg h2]⟩)
    obtain ⟨b', hb'⟩ : ∃ b', cutB b = b' := ⟨_, rfl⟩
    have HB := Lib.hid (HB.out b' hb')
    have HL := Lib.hid (HL.out ((l : Int) + b'))
    have hw2 : wrap64 ((l : Int) + cutB b) = (l : Int) + cutB b := by unfold wrap64; omega
    rw [hb'] at hm hwr hw2
    rw [hm] at HL
    clear hO2 hp hq e1 e2 e3 h2 hx h0 h1 hQ hO HO h16 hlast HA hm hb' hcb
    go_enter Try.func51, Try.ntmps51
    go_wp2_with fail
    refine PR.out.mono ?_
    rintro e w' ⟨rfl, rfl⟩
    go_upto_region 4 with fail
    go_cut [2] from 15 to 17 (fun s2 wx => s2 = .int .i64 b' ∧ w = wx)
    case first =>
      obtain ⟨g1, g2, g3⟩ := HB.out
      go_wp2_with fail
      all_goals
        go_meet
        refine ⟨?_, rfl⟩
        congr 1
        omega
    case rest =>
    obtain ⟨rfl, rfl⟩ := hcut
    go_upto_region 5 with fail
    go_cut [8] from 18 to 27 (fun s8 wx => s8 = .int .i64 (m : Int) ∧ w = wx)
    case first =>
      obtain ⟨g1, g2, g3⟩ := HL.out
      go_wp2_with fail
      all_goals
        go_meet
        refine ⟨?_, rfl⟩
        congr 1
        omega
    case rest =>
    obtain ⟨rfl, rfl⟩ := hcut
    clear hwr hw2 c1 HB HL
    go_wp2_with fail
    refine PT.out.mono ?_
    rintro e w' ⟨rfl, q1, kk⟩
    have HZ := Lib.hid (⟨q1, kk⟩ : _ ∧ _)
    clear q1 kk
    go_wp2_with fail
    refine (PA.out _ HZ.out.1).mono ?_
    rintro e w'' ⟨rfl, q1, kk⟩
    have HZ2 := Lib.hid (⟨q1, HZ.out.2.trans kk⟩ : _ ∧ _)
    clear q1 kk
    go_wp2_with fail
    go_ret
    exact ⟨rfl, ⟨_, HZ2.out.1, HO3.out⟩, HZ2.out.2⟩
  · rw [if_neg h0]
    have hb : (misA R n i != 0) = true := by simpa using h0
    generalize misA R n i = z at *
    clear h0 hQ hO
    go_enter Try.func51, Try.ntmps51
    go_wp2_with fail
    refine PR.out.mono ?_
    rintro e w' ⟨rfl, rfl⟩
    go_wp2_with fail
    go_ret
    exact ⟨rfl, ⟨F, HQ.out, HO.out⟩, Kq.refl _ _ _⟩
end Go.Proofs.Ytfkepplpeakgmaa
