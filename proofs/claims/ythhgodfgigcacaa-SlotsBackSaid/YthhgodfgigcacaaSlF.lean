/- Package slots: Take, Raise, Free. -/
import Derived.Test.YthhgodfgigcacaaSlE
namespace Go.Proofs.Ythhgodfgigcacaa
open Go.RowKit Go.Deep
set_option linter.unusedVariables false
set_option linter.unusedSimpArgs false
/-- A slot that a group has just taken. -/
def gS (g : Int) : Sl := ⟨g, false, false, false, false, false, false, false, false, 0⟩
def freO (T : Nat → Sl) (n : Nat) : Option Nat := fstO (fun s : Sl => decide (s = frS)) T n
theorem fst_spec {P : Sl → Bool} {T : Nat → Sl} {n k : Nat} (h : fstO P T n = some k) : k < n ∧ P (T k) = true ∧ ∀ j, j < k → P (T j) = false := by
  unfold fstO at h
  rw [List.find?_range_eq_some] at h
  exact ⟨List.mem_range.1 h.2.1, h.1, fun j hj => by simpa using h.2.2 j hj⟩
/-- What Take tells, and the slots behind it. -/
def takE (n : Nat) (T : Nat → Sl) (g : Int) : Int × Int := if grpB g = true then (match fndO T n g with | some _ => (0, 8) | none => match freO T n with | some i => ((i : Int), 0) | none => (0, 9)) else (0, 3)
def takT (n : Nat) (T : Nat → Sl) (g : Int) : Nat → Sl := if grpB g = true then (match fndO T n g with | some _ => T | none => match freO T n with | some i => upd T i (gS g) | none => T) else T
theorem slC_g (s : Sl) (g : Int) : ∀ i, i < 10 → slC { s with g := g } i = if i = 0 then .int .i64 g else slC s i := fun i hi => by
  rcases (show i = 0 ∨ i = 1 ∨ i = 2 ∨ i = 3 ∨ i = 4 ∨ i = 5 ∨ i = 6 ∨ i = 7 ∨ i = 8 ∨ i = 9 by omega) with rfl | rfl | rfl | rfl | rfl | rfl | rfl | rfl | rfl | rfl <;> rfl
theorem slC_l (s : Sl) (l : Int) : ∀ i, i < 10 → slC { s with l := l } i = if i = 9 then .int .i64 l else slC s i := fun i hi => by
  rcases (show i = 0 ∨ i = 1 ∨ i = 2 ∨ i = 3 ∨ i = 4 ∨ i = 5 ∨ i = 6 ∨ i = 7 ∨ i = 8 ∨ i = 9 by omega) with rfl | rfl | rfl | rfl | rfl | rfl | rfl | rfl | rfl | rfl <;> rfl
set_option maxRecDepth 100000 in
set_option maxHeartbeats 4000000 in
theorem takeT_any (B b n : Nat) (T : Nat → Sl) (g : Int) (w : World) (hT : TAt w b n T) (hn : n ≤ 8) (hB : B ≤ b) : Calls Try.prog 18 #[.pointer (some ⟨b, 0, none⟩), .int .i64 g] w fun e w' => e = .returned (.tuple #[.int .i64 (takE n T g).1, .int .i64 (takE n T g).2]) ∧ TAt w' b n (takT n T g) ∧ Kt B b w w' := by
  have hBw : B ≤ w.heap.size := Nat.le_trans hB (Nat.le_of_lt hT.lt)
  have HT := Lib.hid hT
  have CG := Lib.hid (isGroup_any g w)
  have CF := Lib.hid (findT_any b n T g w hT hn)
  obtain ⟨E, hE⟩ : ∃ E, Hid (takE n T g = E) := ⟨_, Lib.hid rfl⟩
  obtain ⟨T2, hT2⟩ : ∃ T2, Hid (takT n T g = T2) := ⟨_, Lib.hid rfl⟩
  rw [hE.out, hT2.out]
  clear hT
  go_enter Try.func18, Try.ntmps18
  go_wp2_with fail
  refine CG.out.mono ?_
  rintro e w' ⟨rfl, rfl⟩
  clear CG
  cases hG : decide (0 ≤ g ∧ g < 16) with
  | false =>
    have HE : Hid (E = (0, 3) ∧ T2 = T) := Lib.hid (by
      rw [← hE.out, ← hT2.out]
      unfold takE takT grpB
      rw [if_neg (by rw [hG]; simp), if_neg (by rw [hG]; simp)]
      exact ⟨rfl, rfl⟩)
    go_wp2_with fail
    go_ret2
    exact ⟨by rw [HE.out.1]; rfl, by rw [HE.out.2]; exact HT.out, Kt.of_below (Below.refl _ _) hBw⟩
  | true =>
    cases hF : fndO T n g with
    | some i =>
      rw [hF] at CF
      have HE : Hid (E = (0, 8) ∧ T2 = T) := Lib.hid (by
        rw [← hE.out, ← hT2.out]
        unfold takE takT grpB
        rw [if_pos hG, if_pos hG, hF]
        exact ⟨rfl, rfl⟩)
      clear hF
      unfold fstV at CF
      go_wp2_with fail
      refine CF.out.mono ?_
      rintro e w2 ⟨rfl, b2⟩
      have HB2 := Lib.hid b2
      clear b2 CF
      go_wp2_with fail
      go_ret2
      exact ⟨by rw [HE.out.1]; rfl, by rw [HE.out.2]; exact HT.out.below HB2.out, Kt.of_below HB2.out hBw⟩
    | none =>
      rw [hF] at CF
      unfold fstV at CF
      have HF := Lib.hid hF
      clear hF
      go_wp2_with fail
      refine CF.out.mono ?_
      rintro e w2 ⟨rfl, b2⟩
      have HB2 := Lib.hid b2
      have CR := Lib.hid (first_free b n T w2 (HT.out.below b2) hn)
      clear b2 CF
      cases hR : freO T n with
      | none =>
        unfold freO at hR
        rw [hR] at CR
        have HE : Hid (E = (0, 9) ∧ T2 = T) := Lib.hid (by
          rw [← hE.out, ← hT2.out]
          unfold takE takT grpB freO
          rw [if_pos hG, if_pos hG, HF.out, hR]
          exact ⟨rfl, rfl⟩)
        clear hR
        unfold fstV at CR
        go_wp2_with fail
        refine CR.out.mono ?_
        rintro e w3 ⟨rfl, b3⟩
        have HB3 := Lib.hid (HB2.out.trans (b3.mono HB2.out.size))
        clear b3 CR
        go_wp2_with fail
        go_ret2
        exact ⟨by rw [HE.out.1]; rfl, by rw [HE.out.2]; exact HT.out.below HB3.out, Kt.of_below HB3.out hBw⟩
      | some i =>
        unfold freO at hR
        rw [hR] at CR
        obtain ⟨hin, hfi, _⟩ := fst_spec hR
        have hTi : T i = frS := by simpa using hfi
        have HE : Hid (E = ((i : Int), 0) ∧ T2 = upd T i (gS g)) := Lib.hid (by
          rw [← hE.out, ← hT2.out]
          unfold takE takT grpB freO
          rw [if_pos hG, if_pos hG, HF.out, hR]
          exact ⟨rfl, rfl⟩)
        have hi8 : i < 8 := by omega
        have hii : (i : Int) < 8 := by omega
        clear hR hfi
        unfold fstV at CR
        go_wp2_with fail
        refine CR.out.mono ?_
        rintro e w3 ⟨rfl, b3⟩
        have HB3 := Lib.hid (HB2.out.trans (b3.mono HB2.out.size))
        have HT3 := Lib.hid (HT.out.below HB3.out)
        have c0 := HT3.out.c0 hi8
        have f0 := HT3.out.free (1 + i * 10)
        have HT4 : Hid (TAt (w3.setCell ⟨b, 1 + i * 10, none⟩ (.int .i64 g)) b n T2) := Lib.hid (by
          rw [HE.out.2]
          exact HT3.out.set1 hi8 0 (by omega) _ (gS g) (fun j hj => by rw [hTi]; exact slC_g frS g j hj))
        have HK := Lib.hid ((Kt.of_below HB3.out hBw : Kt B b w w3).set (1 + i * 10) (.int .i64 g) hB)
        clear b3 CR hTi HT3 HB3 HB2
        go_wp2_with fail
        go_ret2
        exact ⟨by rw [HE.out.1]; rfl, HT4.out, HK.out⟩
def raiT (n : Nat) (T : Nat → Sl) (i m : Int) (e : Int) : Nat → Sl := if e = 0 then upd T i.toNat { T i.toNat with l := m } else T
theorem ref_zero {n : Nat} {T : Nat → Sl} {i : Int} {more : Bool} (h : refE n T i more = 0) : ∃ k : Nat, i = (k : Int) ∧ k < n ∧ more = false ∧ T k ≠ frS := by
  unfold refE at h
  by_cases h1 : i < 0 ∨ (n : Int) ≤ i ∨ more = true
  · rw [if_pos h1] at h; exact absurd h (by decide)
  · rw [if_neg h1] at h
    refine ⟨i.toNat, by omega, by omega, by cases more; rfl; exact absurd (Or.inr (Or.inr rfl)) h1, fun e => ?_⟩
    rw [if_pos e] at h; exact absurd h (by decide)
theorem ref_cases (n : Nat) (T : Nat → Sl) (i : Int) (more : Bool) : refE n T i more = 0 ∨ refE n T i more = 3 ∨ refE n T i more = 7 := by
  unfold refE
  split
  · exact Or.inr (Or.inl rfl)
  · split
    · exact Or.inr (Or.inr rfl)
    · exact Or.inl rfl
def outB (p : Int) : Bool := decide (p < 0 ∨ 4 ≤ p)
set_option maxRecDepth 100000 in
set_option maxHeartbeats 4000000 in
theorem raiseT_any (B b n : Nat) (T : Nat → Sl) (i m : Int) (w : World) (hT : TAt w b n T) (hn : n ≤ 8) (hB : B ≤ b) : Calls Try.prog 22 #[.pointer (some ⟨b, 0, none⟩), .int .i64 i, .int .i64 m] w fun e w' => e = .returned (.int .i64 (refE n T i (outB m))) ∧ TAt w' b n (raiT n T i m (refE n T i (outB m))) ∧ Kt B b w w' := by
  have hBw : B ≤ w.heap.size := Nat.le_trans hB (Nat.le_of_lt hT.lt)
  have HT := Lib.hid hT
  have CR := Lib.hid (refT_any b n T i (outB m) w hT hn)
  have HZ := Lib.hid (fun (h : refE n T i (outB m) = 0) => ref_zero h)
  have HC := Lib.hid (ref_cases n T i (outB m))
  obtain ⟨r, hr⟩ : ∃ r, refE n T i (outB m) = r := ⟨_, rfl⟩
  rw [hr] at CR HZ HC ⊢
  clear hr hT
  obtain ⟨ob, hob⟩ : ∃ ob, Hid (outB m = ob) := ⟨_, Lib.hid rfl⟩
  rw [hob.out] at CR
  go_enter Try.func22, Try.ntmps22
  have HOB : Hid (∀ c : Bool, (c = true ↔ (m < 0 ∨ 4 ≤ m)) → c = ob) := Lib.hid (fun c hc => by
    rw [← hob.out]
    unfold outB
    cases c
    · exact (decide_eq_false (fun hh => absurd (hc.2 hh) (by simp))).symm
    · exact (decide_eq_true (hc.1 rfl)).symm)
  have hcut : ob = false ∨ ob = true := by cases ob <;> simp
  have HM : Hid ((m < 0 ∨ 4 ≤ m) ↔ ob = true) := Lib.hid (by rw [← hob.out]; unfold outB; simp)
  have key : ∀ (P : Prop), (m < 0 → ob = true → P) → (¬ m < 0 → 4 ≤ m → ob = true → P) → (¬ m < 0 → ¬ 4 ≤ m → ob = false → P) → P := fun P h1 h2 h3 => by
    by_cases a : m < 0
    · exact h1 a (HM.out.1 (Or.inl a))
    · by_cases c : 4 ≤ m
      · exact h2 a c (HM.out.1 (Or.inr c))
      · exact h3 a c (by cases ob; rfl; exact absurd (HM.out.2 rfl) (by omega))
  have HOE := Lib.hid hob.out
  clear hcut HM HOB hob
  refine key _ (fun a1 a2 => ?_) (fun a1 a2 a3 => ?_) (fun a1 a2 a3 => ?_)
  case refine_3 =>
    subst a3
    have a2' : m < 4 := by omega
    go_wp2_with fail
    refine CR.out.mono ?_
    rintro e w2 ⟨rfl, b2⟩
    have HB2 := Lib.hid b2
    clear b2 CR key
    by_cases h0 : r = 0
    · obtain ⟨k, rfl, hkn, _, _⟩ := HZ.out h0
      subst h0
      have hk8 : k < 8 := by omega
      have hki : (k : Int) < 8 := by omega
      have HT3 := Lib.hid (HT.out.below HB2.out)
      have c9 := (HT3.out.cs hk8).2.2.2.2.2.2.2.2.2
      have f9 := HT3.out.free (1 + k * 10 + 9)
      have HT4 : Hid (TAt (w2.setCell ⟨b, 1 + k * 10 + 9, none⟩ (.int .i64 m)) b n (raiT n T (k : Int) m 0)) := Lib.hid (by
        unfold raiT
        rw [if_pos rfl, Int.toNat_natCast]
        exact HT3.out.set1 hk8 9 (by omega) _ _ (slC_l (T k) m))
      have HK := Lib.hid ((Kt.of_below HB2.out hBw : Kt B b w w2).set (1 + k * 10 + 9) (.int .i64 m) hB)
      clear HT3 HB2 HZ HC
      go_wp2_with fail
      go_ret
      exact ⟨rfl, HT4.out, HK.out⟩
    · have h0' : (r != 0) = true := by simpa using h0
      have HN := Lib.hid h0
      clear h0
      go_wp2_with fail
      go_ret
      exact ⟨rfl, by unfold raiT; rw [if_neg HN.out]; exact HT.out.below HB2.out, Kt.of_below HB2.out hBw⟩
  all_goals
    have h3 : r ≠ 0 := fun h0 => by
      obtain ⟨_, _, _, h, _⟩ := HZ.out h0
      have hh := HOE.out
      rw [h] at hh
      first | exact absurd (hh.trans a3) (by simp) | exact absurd (hh.trans a2) (by simp)
    have h0' : (r != 0) = true := by simpa using h3
    have HN := Lib.hid h3
    clear h3 key
    first | subst a3 | subst a2
    go_wp2_with fail
    refine CR.out.mono ?_
    rintro e w2 ⟨rfl, b2⟩
    have HB2 := Lib.hid b2
    clear b2 CR
    go_wp2_with fail
    go_ret
    exact ⟨rfl, by unfold raiT; rw [if_neg HN.out]; exact HT.out.below HB2.out, Kt.of_below HB2.out hBw⟩
end Go.Proofs.Ythhgodfgigcacaa
