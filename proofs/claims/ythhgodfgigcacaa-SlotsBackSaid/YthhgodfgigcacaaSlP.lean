/- Slots: what tables keep; the law's take. -/
import Derived.Test.YthhgodfgigcacaaSlO
namespace Go.Proofs.Ythhgodfgigcacaa
open Go.RowKit Go.Deep
set_option linter.unusedVariables false
set_option linter.unusedSimpArgs false
structure Inv (n : Nat) (T : Nat → Sl) : Prop where
  ok : ∀ k, SlOk (T k)
  fr : ∀ k, (T k).g < 0 → T k = frS
  dv : ∀ k j, (T k).d j = true → (T k).v j = true
  one : ∀ i k, (T i).g = (T k).g → 0 ≤ (T i).g → i = k
  can : ∀ k, n ≤ k → T k = frS
theorem frS_ok : SlOk frS := ⟨by decide, by decide, by decide, by decide⟩
theorem frS_d (j : Nat) : frS.d j = false := by unfold Sl.d frS; split <;> rfl
theorem Inv.new (n : Nat) : Inv n (fun _ => frS) := ⟨fun _ => frS_ok, fun _ _ => rfl, fun _ j h => by rw [frS_d] at h; exact absurd h (by simp), fun i k _ h => absurd h (by decide), fun _ _ => rfl⟩
theorem Inv.upd {n k : Nat} {T : Nat → Sl} {s : Sl} (h : Inv n T) (hk : k < n) (h1 : SlOk s) (h2 : s.g < 0 → s = frS) (h3 : ∀ j, s.d j = true → s.v j = true) (h4 : 0 ≤ s.g → ∀ i, i ≠ k → (T i).g ≠ s.g) : Inv n (Go.Proofs.Ythhgodfgigcacaa.upd T k s) := by
  refine ⟨fun i => ?_, fun i => ?_, fun i => ?_, fun i j => ?_, fun i hi => ?_⟩
  · unfold Go.Proofs.Ythhgodfgigcacaa.upd; split
    · exact h1
    · exact h.ok i
  · unfold Go.Proofs.Ythhgodfgigcacaa.upd; split
    · exact h2
    · exact h.fr i
  · unfold Go.Proofs.Ythhgodfgigcacaa.upd; split
    · exact h3
    · exact h.dv i
  · unfold Go.Proofs.Ythhgodfgigcacaa.upd
    by_cases e1 : i = k
    · by_cases e2 : j = k
      · intro _ _; rw [e1, e2]
      · rw [if_pos e1, if_neg e2]
        intro a b
        exact absurd a.symm (h4 b j e2)
    · by_cases e2 : j = k
      · rw [if_neg e1, if_pos e2]
        intro a b
        exact absurd a (h4 (by omega) i e1)
      · rw [if_neg e1, if_neg e2]
        exact h.one i j
  · unfold Go.Proofs.Ythhgodfgigcacaa.upd
    rw [if_neg (by omega)]
    exact h.can i hi
theorem Inv.neg {n : Nat} {T : Nat → Sl} (h : Inv n T) (k : Nat) : (decide (T k = frS)) = decide ((T k).g < 0) := by
  by_cases e : (T k).g < 0
  · rw [decide_eq_true e, decide_eq_true (h.fr k e)]
  · rw [decide_eq_false e, decide_eq_false (fun hh => e (by rw [hh]; decide))]
theorem Inv.taken {n : Nat} {T : Nat → Sl} (h : Inv n T) (g : Int) : Inv n (takT n T g) := by
  unfold takT
  by_cases hg : grpB g = true
  · rw [if_pos hg]
    have hg' : 0 ≤ g ∧ g < 16 := by unfold grpB at hg; simpa using hg
    cases hf : fndO T n g with
    | some i => exact h
    | none =>
      cases hr : freO T n with
      | none => exact h
      | some i =>
        obtain ⟨hi, hfi, _⟩ := fst_spec hr
        refine h.upd hi ⟨?_, ?_, Int.le_refl 0, (show (0 : Int) ≤ 3 by decide)⟩ ?_ ?_ ?_
        · show -1 ≤ g; omega
        · show g ≤ 15; omega
        · intro hh; have : g < 0 := hh; omega
        · intro j hj; exact absurd hj (by have : (gS g).d j = false := by unfold Sl.d gS; split <;> rfl
                                          rw [this]; simp)
        · intro _ j hj hh
          have hh : (T j).g = g := hh
          by_cases hjn : j < n
          · unfold fndO at hf
            rw [if_pos hg] at hf
            unfold fstO at hf
            rw [List.find?_eq_none] at hf
            exact hf j (List.mem_range.2 hjn) (decide_eq_true hh)
          · rw [h.can j (by omega)] at hh
            have : (-1 : Int) = g := hh
            omega
  · rw [if_neg hg]; exact h
theorem fndR_O {n : Nat} {X : Nat → Sl} {g : Int} (hg : 0 ≤ g ∧ g < 16) : fndR X n g = match fndO X n g with | some i => (i : Int) | none => -1 := by
  unfold fndR fndO grpB
  rw [if_pos hg.1, if_pos (decide_eq_true hg)]
  cases fstO (fun s : Sl => decide (s.g = g)) X n <;> rfl
/-- What a call of the law's do answers. -/
def LawP (B b n : Nat) (w : World) (T X T' X' : Nat → Sl) (e : Ending) (w' : World) : Prop := ∃ v' bb, e = .returned (.tuple #[v', .bool bb]) ∧ (T = X → bb = true) ∧ TAt w' b n T' ∧ LAt w' B v' n X' ∧ Kt B b w w'
set_option maxRecDepth 100000 in
set_option maxHeartbeats 8000000 in
theorem ltake_any (B b n : Nat) (v : Value) (T X : Nat → Sl) (g : Int) (w : World) (hT : TAt w b n T) (hL : LAt w B v n X) (h8 : n ≤ 8) (hB : B ≤ b) (hI : Inv n X) : Calls Try.prog 27 #[.pointer (some ⟨b, 0, none⟩), v, .int .i64 g] w (LawP B b n w T X (takT n T g) (takT n X g)) := by
  obtain ⟨ao, c, rfl⟩ := own_form hL
  have CT := Lib.hid (takeT_any B b n T g w hT h8 hB)
  have HI := Lib.hid hI
  obtain ⟨z1, hz1⟩ : ∃ z, (takE n T g).1 = z := ⟨_, rfl⟩
  obtain ⟨z2, hz2⟩ : ∃ z, (takE n T g).2 = z := ⟨_, rfl⟩
  rw [hz1, hz2] at CT
  have HZ : Hid (T = X → (takE n X g).1 = z1 ∧ (takE n X g).2 = z2) := Lib.hid (fun e => by rw [← e]; exact ⟨hz1, hz2⟩)
  obtain ⟨T2, hT2⟩ : ∃ T2, takT n T g = T2 := ⟨_, rfl⟩
  rw [hT2] at CT ⊢
  clear hz1 hz2 hT2 hI
  go_enter Try.func27, Try.ntmps27
  go_wp2_with fail
  refine CT.out.mono ?_
  rintro e w2 ⟨rfl, t2, k2⟩
  have HT2 := Lib.hid t2
  have HK2 := Lib.hid k2
  have HL2 := Lib.hid (hL.kt k2 hT)
  have hBw : B ≤ w2.heap.size := Nat.le_trans hB (Nat.le_of_lt t2.lt)
  clear t2 k2 CT hL hT
  by_cases hg : 0 ≤ g ∧ g < 16
  · have hg0 := hg.1
    have hg1 : g ≤ 15 := by omega
    have CF := Lib.hid (rfind_any B n (.slice ao n c) X g w2 HL2.out h8)
    rw [fndR_O hg] at CF
    have HG : Hid (grpB g = true) := Lib.hid (decide_eq_true hg)
    clear hg
    cases hf : fndO X n g with
    | some i =>
      rw [hf] at CF
      have HE : Hid (takE n X g = (0, 8) ∧ takT n X g = X) := Lib.hid (by unfold takE takT; rw [if_pos HG.out, if_pos HG.out, hf]; exact ⟨rfl, rfl⟩)
      rw [HE.out.1] at HZ
      clear hf HG
      have hi0 : (0 : Int) ≤ (i : Int) := by omega
      go_wp2_with fail
      refine CF.out.mono ?_
      rintro e w' ⟨rfl, rfl⟩
      by_cases hz : z1 = 0
      · subst hz
        go_wp2_with fail
        go_ret2
        exact ⟨_, _, rfl, fun e => by have h := (HZ.out e).2; subst h; rfl, HT2.out, by rw [HE.out.2]; exact HL2.out, HK2.out⟩
      · have HNZ := Lib.hid hz
        go_wp2_with fail
        go_ret2
        exact ⟨_, _, rfl, fun e => absurd (HZ.out e).1.symm HNZ.out, HT2.out, by rw [HE.out.2]; exact HL2.out, HK2.out⟩
    | none =>
      rw [hf] at CF
      have HEF := Lib.hid hf
      clear hf
      go_wp2_with fail
      refine CF.out.mono ?_
      rintro e w' ⟨rfl, rfl⟩
      clear CF
      go_wp2_with fail
      go_loopw [10] (fun s10 wi => ∃ k : Nat, s10 = .int .i64 (k : Int) ∧ k ≤ n ∧ Hid (∀ j, j < k → (fun s : Sl => decide (s = frS)) (X j) = false) ∧ w2 = wi) (fun s10 _ => n - (intOf s10).toNat)
      case atStart => exact ⟨0, rfl, by omega, Lib.hid (fun j h => absurd h (by omega)), rfl⟩
      case round =>
        obtain ⟨k, rfl, hk, HN, rfl⟩ := hrel
        by_cases hlt : k < n
        · have hli : (k : Int) < (n : Int) := by omega
          obtain ⟨r, rfl, hb, hBr, hc⟩ := HL2.out.at_ (by omega)
          have c0 : w2.cell? ⟨r, k * 10, none⟩ = some (.int .i64 (X k).g) := hc k hlt 0 (by omega)
          have hneg := HI.out.neg k
          by_cases hx : (X k).g < 0
          · rw [decide_eq_true hx] at hneg
            have HFR : Hid (freO X n = some k) := Lib.hid (fst_some (P := fun s : Sl => decide (s = frS)) (T := X) hlt hneg HN.out)
            have HE : Hid (takE n X g = ((k : Int), 0) ∧ takT n X g = upd X k (gS g)) := Lib.hid (by unfold takE takT; rw [if_pos HG.out, if_pos HG.out, HEF.out, HFR.out]; exact ⟨rfl, rfl⟩)
            rw [HE.out.1] at HZ
            have CS := Lib.hid (rset_any B n k (.slice (some ⟨r, 0, none⟩) n c) X (gS g) w2 HL2.out h8 hlt)
            simp only [gS] at CS
            obtain ⟨x, hxx⟩ : ∃ x, (X k).g = x := ⟨_, rfl⟩
            rw [hxx] at c0 hx
            clear hxx hc hneg HN HFR
            go_wp2_with fail
            refine CS.out.mono ?_
            rintro e w3 ⟨v', rfl, l3, b3⟩
            have HL3 := Lib.hid (own_base22 l3 hBw)
            have HT3 := Lib.hid (HT2.out.below b3)
            have HK3 := Lib.hid (HK2.out.trans (Kt.of_below b3 hBw))
            clear l3 b3 CS
            by_cases hz : z1 = (k : Int)
            · subst hz
              go_wp2_with fail
              go_ret2
              exact ⟨_, _, rfl, fun e => by have h := (HZ.out e).2; subst h; rfl, HT3.out, by rw [HE.out.2]; exact HL3.out, HK3.out⟩
            · have HNZ := Lib.hid hz
              go_wp2_with fail
              go_ret2
              exact ⟨_, _, rfl, fun e => absurd (HZ.out e).1.symm HNZ.out, HT3.out, by rw [HE.out.2]; exact HL3.out, HK3.out⟩
          · rw [decide_eq_false hx] at hneg
            have HN2 : Hid (∀ j, j < k + 1 → (fun s : Sl => decide (s = frS)) (X j) = false) := Lib.hid (fun j hj => by
              by_cases e : j = k
              · rw [e]; exact hneg
              · exact HN.out j (by omega))
            obtain ⟨x, hxx⟩ : ∃ x, (X k).g = x := ⟨_, rfl⟩
            rw [hxx] at c0 hx
            clear hxx hc hneg HN
            go_wp2_with fail
            go_roundw
            case rel => exact ⟨k + 1, by go_num, by omega, HN2, by first | rfl | trivial⟩
            case measure => simp [intOf]; omega
        · obtain rfl : k = n := by omega
          have hli : ¬ (k : Int) < (k : Int) := by omega
          have HFR : Hid (freO X k = none) := Lib.hid (fst_none (P := fun s : Sl => decide (s = frS)) (T := X) HN.out)
          have HE : Hid (takE k X g = (0, 9) ∧ takT k X g = X) := Lib.hid (by unfold takE takT; rw [if_pos HG.out, if_pos HG.out, HEF.out, HFR.out]; exact ⟨rfl, rfl⟩)
          rw [HE.out.1] at HZ
          clear HN HFR
          by_cases hz : z1 = 0
          · subst hz
            go_wp2_with fail
            go_ret2
            exact ⟨_, _, rfl, fun e => by have h := (HZ.out e).2; subst h; rfl, HT2.out, by rw [HE.out.2]; exact HL2.out, HK2.out⟩
          · have HNZ := Lib.hid hz
            go_wp2_with fail
            go_ret2
            exact ⟨_, _, rfl, fun e => absurd (HZ.out e).1.symm HNZ.out, HT2.out, by rw [HE.out.2]; exact HL2.out, HK2.out⟩
  · have HE : Hid (takE n X g = (0, 3) ∧ takT n X g = X) := Lib.hid (by unfold takE takT grpB; rw [if_neg (by simpa using hg), if_neg (by simpa using hg)]; exact ⟨rfl, rfl⟩)
    rw [HE.out.1] at HZ
    have hlo : ¬ 0 ≤ g ∨ (0 ≤ g ∧ 15 < g) := by omega
    clear hg
    rcases hlo with hlo | ⟨hlo, hlo2⟩
    all_goals
      by_cases hz : z1 = 0
      · subst hz
        go_wp2_with fail
        go_ret2
        exact ⟨_, _, rfl, fun e => by have h := (HZ.out e).2; subst h; rfl, HT2.out, by rw [HE.out.2]; exact HL2.out, HK2.out⟩
      · have HNZ := Lib.hid hz
        go_wp2_with fail
        go_ret2
        exact ⟨_, _, rfl, fun e => absurd (HZ.out e).1.symm HNZ.out, HT2.out, by rw [HE.out.2]; exact HL2.out, HK2.out⟩
end Go.Proofs.Ythhgodfgigcacaa
