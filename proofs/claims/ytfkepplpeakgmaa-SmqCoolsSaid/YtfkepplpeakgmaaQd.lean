/- Package smq: the reference's End. -/
import Derived.Test.YtfkepplpeakgmaaQc
namespace Go.Proofs.Ytfkepplpeakgmaa
open Go.RowKit Go.Deep
set_option linter.unusedVariables false
set_option linter.unusedSimpArgs false
section
variable {w : World} {B p ho e k : Nat} {R S : Nat → List Nat} {C : Nat → Int} {U : Nat → Bool}
theorem PxAt.hmove {j : Nat} (b : Int) (q : PxAt w B p ho e R S C U k) (hB : B ≤ w.heap.size) (ok : RowsOk 16 R) (hl : lvl R j ≠ -1) (h1 : -9223372036854775808 ≤ b) (h2 : b ≤ 9223372036854775807) : Calls Try.prog 34 #[.pointer (some ⟨ho, 0, none⟩), .int .i64 (j : Int), .int .i64 b] w fun x w' => x = .returned (.tuple #[]) ∧ PxAt w' B p ho e (movA R j b) S C U k ∧ Kq B [p, ho, e] w w' :=
  (rmove_any B ho j b R w q.hot hB (ok.len (by omega)) hl h1 h2).mono fun _ _ h => ⟨h.1, q.hotq h.2.1 h.2.2, h.2.2.wider (by simp)⟩
theorem PxAt.hrem {j : Nat} (q : PxAt w B p ho e R S C U k) (hB : B ≤ w.heap.size) (ok : RowsOk 16 R) : Calls Try.prog 37 #[.pointer (some ⟨ho, 0, none⟩), .int .i64 (j : Int)] w fun x w' => x = .returned (.tuple #[]) ∧ PxAt w' B p ho e (rem R j) S C U k ∧ Kq B [p, ho, e] w w' :=
  (rremove_any B ho j R w q.hot hB (ok.len (by omega))).mono fun _ _ h => ⟨h.1, q.hotq (h.2.1.congr (rem4 R j)) h.2.2, h.2.2.wider (by simp)⟩
theorem PxAt.smove {j : Nat} (b : Int) (q : PxAt w B p ho e R S C U k) (hB : B ≤ w.heap.size) (ok : RowsOk 8 S) (hl : lvl S j ≠ -1) (h1 : -9223372036854775808 ≤ b) (h2 : b ≤ 9223372036854775807) : Calls Try.prog 34 #[.pointer (some ⟨e, 0, none⟩), .int .i64 (j : Int), .int .i64 b] w fun x w' => x = .returned (.tuple #[]) ∧ PxAt w' B p ho e R (movA S j b) C U k ∧ Kq B [p, ho, e] w w' :=
  (rmove_any B e j b S w q.held hB (ok.len (by omega)) hl h1 h2).mono fun _ _ h => ⟨h.1, q.heldq h.2.1 h.2.2, h.2.2.wider (by simp)⟩
theorem PxAt.hbal (q : PxAt w B p ho e R S C U k) (hB : B ≤ w.heap.size) (ok : RowsOk 16 R) : Calls Try.prog 41 #[.pointer (some ⟨ho, 0, none⟩), .int .i64 4] w fun x w' => x = .returned (.int .i64 (balN R 4 3 : Int)) ∧ PxAt w' B p ho e (balR R 4 3) S C U k ∧ Kq B [p, ho, e] w w' :=
  (rbalance_any B ho 16 4 R w q.hot hB (by omega) ok (by omega)).mono fun _ _ h => ⟨h.1, q.hotq h.2.1 h.2.2, h.2.2.wider (by simp)⟩
theorem PxAt.sbal (q : PxAt w B p ho e R S C U k) (hB : B ≤ w.heap.size) (ok : RowsOk 8 S) : Calls Try.prog 41 #[.pointer (some ⟨e, 0, none⟩), .int .i64 2] w fun x w' => x = .returned (.int .i64 (balN S 2 3 : Int)) ∧ PxAt w' B p ho e R (balR S 2 3) C U k ∧ Kq B [p, ho, e] w w' :=
  (rbalance_any B e 8 2 S w q.held hB (by omega) ok (by omega)).mono fun _ _ h => ⟨h.1, q.heldq h.2.1 h.2.2, h.2.2.wider (by simp)⟩
theorem XqAt.lt {h : Nat} {X : Nat → List Nat} (hX : XqAt w B h X) : h < w.heap.size := by
  obtain ⟨_, s, hs, _⟩ := hX
  exact World.rowIs.lt hs
theorem PxAt.fresh (q : PxAt w B p ho e R S C U k) {b : Nat} (hb : w.heap.size ≤ b) : b ∉ [p, ho, e] := by
  have h1 := q.lt
  have h2 := q.hot.lt
  have h3 := q.held.lt
  simp
  omega
theorem Kq.bsize {L : List Nat} {w w' : World} (h : Kq B L w w') (hB : B ≤ w.heap.size) : B ≤ w'.heap.size := Nat.le_trans hB h.below.size
set_option maxRecDepth 100000 in
set_option maxHeartbeats 16000000 in
theorem rend_any (q : PxAt w B p ho e R S C U k) (okR : RowsOk 16 R) (okS : RowsOk 8 S) : Calls Try.prog 24 #[.pointer (some ⟨p, 0, none⟩)] w fun x w' => x = .returned (.tuple #[]) ∧ PxAt w' B p ho e (balR (endH R C 16) 4 3) (balR (endW S U 8) 2 3) zC zU k ∧ Kq B [p, ho, e] w w' := by
  have HQ0 : Hid (PxAt w B p ho e (endH R C 0) S C U k) := Lib.hid q
  have HK0 : Hid (Kq B [p, ho, e] w w) := Lib.hid (Kq.refl _ _ _)
  have hbp := q.bp
  have HBW : Hid (B ≤ w.heap.size) := Lib.hid (Nat.le_trans q.bp (Nat.le_of_lt q.lt))
  have hz1 := zero_cn
  have hz2 := zero_us
  have HOR := Lib.hid okR
  have HOS := Lib.hid okS
  obtain ⟨RF, hRF⟩ : ∃ RF, Hid (balR (endH R C 16) 4 3 = RF) := ⟨_, Lib.hid rfl⟩
  obtain ⟨SF, hSF⟩ : ∃ SF, Hid (balR (endW S U 8) 2 3 = SF) := ⟨_, Lib.hid rfl⟩
  rw [hRF.out, hSF.out]
  clear q okR okS
  go_enter Try.func24, Try.ntmps24
  go_wp2_with fail
  go_loopw [2, 3, 4, 5] (fun s2 _ _ _ wi => ∃ g : Nat, s2 = .int .i64 (g : Int) ∧ g ≤ 16 ∧ Hid (PxAt wi B p ho e (endH R C g) S C U k) ∧ Hid (Kq B [p, ho, e] w wi)) (fun s2 _ _ _ _ => 16 - (intOf s2).toNat)
  case atStart => exact ⟨0, rfl, by omega, HQ0, HK0⟩
  case round =>
    obtain ⟨g, rfl, hg, HQ, HK⟩ := hrel
    clear HQ0 HK0
    by_cases hlt : g < 16
    · have hli : (g : Int) < 16 := by omega
      have c0 := HQ.out.c0
      have HOK : Hid (RowsOk 16 (endH R C g)) := Lib.hid (HOR.out.endH C g (by omega))
      have CW := where_any B ho g (endH R C g) wr HQ.out.hot (HOK.out.len (by omega))
      have cc : ∀ t, t < 4 → wr.cell? ⟨p, 2 + g * 4 + t, none⟩ = some (.int .i64 (cnt C g t)) := fun t ht => by
        have := HQ.out.cC (j := 4 * g + t) (by omega)
        rwa [show 2 + (4 * g + t) = 2 + g * 4 + t by omega] at this
      have c0' : wr.cell? ⟨p, 2 + g * 4, none⟩ = some (.int .i64 (cnt C g 0)) := cc 0 (by omega)
      have c1 := cc 1 (by omega)
      have c2 := cc 2 (by omega)
      have c3 := cc 3 (by omega)
      have hn : ∀ t, t < 4 → 0 ≤ cnt C g t ∧ cnt C g t ≤ 1048576 := fun t ht => HQ.out.cn _ (by omega)
      have n0 := hn 0 (by omega)
      have n1 := hn 1 (by omega)
      have n2 := hn 2 (by omega)
      have n3 := hn 3 (by omega)
      have CB : Hid (∀ wx, Calls Try.prog 40 #[.agg #[.int .i64 (cnt C g 0), .int .i64 (cnt C g 1), .int .i64 (cnt C g 2), .int .i64 (cnt C g 3)]] wx fun x w' => x = .returned (.bool (beatB (cnt C g))) ∧ Below wx.heap.size wx w') := Lib.hid (fun wx => beats_any (cnt C g) wx hn)
      have hBr : B ≤ wr.heap.size := HK.out.bsize HBW.out
      obtain ⟨b, hb⟩ : ∃ b, beatB (cnt C g) = b := ⟨_, rfl⟩
      obtain ⟨s, hs⟩ : ∃ s, sumQ (cnt C g) = s := ⟨_, rfl⟩
      have HS : Hid (cnt C g 0 + cnt C g 1 + cnt C g 2 + cnt C g 3 = s) := Lib.hid hs
      have hs0 : 0 ≤ s := by rw [← HS.out]; omega
      have hs1 : s ≤ 4194304 := by rw [← HS.out]; omega
      rw [hb] at CB
      obtain ⟨wa, hwa⟩ : ∃ wa, Hid (wr.alloc (.cells #[.int .i64 (cnt C g 0), .int .i64 (cnt C g 1), .int .i64 (cnt C g 2), .int .i64 (cnt C g 3)] 49) = wa) := ⟨_, Lib.hid rfl⟩
      have HBa : Hid (Below wr.heap.size wr wa) := Lib.hid (by rw [← hwa.out]; exact (Below.refl _ _).alloc (Nat.le_refl _) _)
      have a0 : wa.cell? ⟨wr.heap.size, 0, none⟩ = some (.int .i64 (cnt C g 0)) := by rw [← hwa.out]; exact World.cell?_alloc_at _ _ _ _ rfl
      have a1 : wa.cell? ⟨wr.heap.size, 1, none⟩ = some (.int .i64 (cnt C g 1)) := by rw [← hwa.out]; exact World.cell?_alloc_at _ _ _ _ rfl
      have a2 : wa.cell? ⟨wr.heap.size, 2, none⟩ = some (.int .i64 (cnt C g 2)) := by rw [← hwa.out]; exact World.cell?_alloc_at _ _ _ _ rfl
      have a3 : wa.cell? ⟨wr.heap.size, 3, none⟩ = some (.int .i64 (cnt C g 3)) := by rw [← hwa.out]; exact World.cell?_alloc_at _ _ _ _ rfl
      have HSZ : Hid (wa.heap.size = wr.heap.size + 1) := Lib.hid (by rw [← hwa.out]; simp)
      have HB := Lib.hid hb
      have HSU := Lib.hid hs
      clear cc hn hb hs
      obtain ⟨l, hl⟩ : ∃ l, lvl (endH R C g) g = l := ⟨_, rfl⟩
      rw [hl] at CW
      have HL := Lib.hid hl
      have CW := Lib.hid CW
      have HQa := Lib.hid (HQ.out.below HBa.out)
      have HKa : Hid (Kq B [p, ho, e] w wa) := Lib.hid (HK.out.trans (Kq.of_below HBa.out hBr))
      have d0 := HQa.out.c0
      have hl0 : l = -1 ∨ 0 ≤ l := by
        by_cases q : l = -1
        · exact Or.inl q
        · rw [← HL.out] at q ⊢; exact Or.inr (misW q)
      clear hl
      generalize cnt C g 0 = x0 at *
      generalize cnt C g 1 = x1 at *
      generalize cnt C g 2 = x2 at *
      generalize cnt C g 3 = x3 at *
      have hBa : B ≤ wa.heap.size := HKa.out.bsize HBW.out
      go_upto_region 4 with (refine CW.out.mono ?_; rintro x w2 ⟨rfl, rfl⟩)
      go_upto_region 5 with fail
      rw [hwa.out]
      clear c0 c0' c1 c2 c3 CW
      go_upto_region 6 with fail
      rw [HS.out]
      rcases hl0 with rfl | hl0
      · have HQ2 : Hid (PxAt wa B p ho e (endH R C (g + 1)) S C U k) := Lib.hid (by rw [endH_no HL.out]; exact HQa.out)
        as_aux_lemma =>
        go_wp2_with fail
        go_roundw
        case rel => exact ⟨g + 1, by go_num, by omega, HQ2, HKa⟩
        case measure => simp [intOf]; omega
      · have hl4 : decide (l < 0) = false := by simp; omega
        have hl5 : ¬ l < 0 := by omega
        have HLN : Hid (lvl (endH R C g) g ≠ -1) := Lib.hid (by rw [HL.out]; omega)
        have HEQ : Hid (endH R C (g + 1) = setlR (endH R C g) C g) := Lib.hid (endH_yes HLN.out)
        rcases (show (s = 0 ∧ l = 0) ∨ (s = 0 ∧ 0 < l) ∨ (4 ≤ s ∧ b = true) ∨ (s = 3) ∨ (4 ≤ s ∧ b = false) ∨ (1 ≤ s ∧ s < 3) by
          cases b
          · simp; omega
          · simp; omega) with ⟨rfl, rfl⟩ | ⟨rfl, h3⟩ | ⟨h3, rfl⟩ | rfl | ⟨h3, rfl⟩ | ⟨h3, h4⟩
        · as_aux_lemma =>
          have CM := Lib.hid (HQa.out.hrem (j := g) hBa HOK.out)
          have HR := Lib.hid (HEQ.out.trans (setl_rem HSU.out HL.out))
          go_wp2_with (refine CM.out.mono ?_; rintro x w3 ⟨rfl, q3, k3⟩)
          have HQ3 : Hid (PxAt w3 B p ho e (endH R C (g + 1)) S C U k) := Lib.hid (by rw [HR.out]; exact q3)
          have HK3 := Lib.hid (HKa.out.trans k3)
          have d3 := HQ3.out.c0
          clear q3 k3 CM
          try go_wp2_with fail
          go_roundw
          case rel => exact ⟨g + 1, by go_num, by omega, HQ3, HK3⟩
          case measure => simp [intOf]; omega
        · as_aux_lemma =>
          have hl1 : (l == 0) = false := by simp; omega
          have hl2 : decide (0 < l) = true := by simp; omega
          have CM := Lib.hid (HQa.out.hmove (j := g) (-1) hBa HOK.out HLN.out (by omega) (by omega))
          have HR := Lib.hid (HEQ.out.trans (setl_down HSU.out (by rw [HL.out]; omega)))
          go_wp2_with (refine CM.out.mono ?_; rintro x w3 ⟨rfl, q3, k3⟩)
          have HQ3 : Hid (PxAt w3 B p ho e (endH R C (g + 1)) S C U k) := Lib.hid (by rw [HR.out]; exact q3)
          have HK3 := Lib.hid (HKa.out.trans k3)
          have d3 := HQ3.out.c0
          clear q3 k3 CM
          try go_wp2_with fail
          go_roundw
          case rel => exact ⟨g + 1, by go_num, by omega, HQ3, HK3⟩
          case measure => simp [intOf]; omega
        · as_aux_lemma =>
          have hs4 : decide (4 ≤ s) = true := by simp; omega
          have hs2 : (s == 0) = false := by simp; omega
          have hs3 : decide (3 ≤ s) = true := by simp; omega
          have CM := Lib.hid (HQa.out.hmove (j := g) 1 hBa HOK.out HLN.out (by omega) (by omega))
          have HFR : Hid (wr.heap.size ∉ [p, ho, e]) := Lib.hid (HQ.out.fresh (Nat.le_refl _))
          have HR := Lib.hid (HEQ.out.trans (setl_two (by rw [HSU.out]; omega) HB.out))
          go_wp2_with fail
          refine CM.out.mono ?_
          rintro x w3 ⟨rfl, q3, k3⟩
          have HQ3 := Lib.hid q3
          have HK3 := Lib.hid (HKa.out.trans k3)
          have d3 := HQ3.out.c0
          have hB3 := HK3.out.bsize HBW.out
          have c0 : w3.cell? ⟨wr.heap.size, 0, none⟩ = some (.int .i64 x0) := k3.cell HFR.out a0
          have c1 : w3.cell? ⟨wr.heap.size, 1, none⟩ = some (.int .i64 x1) := k3.cell HFR.out a1
          have c2 : w3.cell? ⟨wr.heap.size, 2, none⟩ = some (.int .i64 x2) := k3.cell HFR.out a2
          have c3 : w3.cell? ⟨wr.heap.size, 3, none⟩ = some (.int .i64 x3) := k3.cell HFR.out a3
          have CB3 := Lib.hid (CB.out w3)
          clear q3 k3 CM a0 a1 a2 a3 CB
          go_wp2_with fail
          refine CB3.out.mono ?_
          rintro x w4 ⟨rfl, b4⟩
          have HK4 := Lib.hid (HK3.out.trans (Kq.of_below b4 hB3))
          have HQ4 := Lib.hid (HQ3.out.below b4)
          have hB4 := HK4.out.bsize HBW.out
          have d4 := HQ4.out.c0
          clear b4 c0 c1 c2 c3 d3
          have CM := Lib.hid (HQ4.out.hmove (j := g) 1 hB4 (HOK.out.movA 1 hlt) (lvl_mov _ _ _) (by omega) (by omega))
          go_wp2_with fail
          refine CM.out.mono ?_
          rintro x w5 ⟨rfl, q5, k5⟩
          have HQ5 : Hid (PxAt w5 B p ho e (endH R C (g + 1)) S C U k) := Lib.hid (by rw [HR.out]; exact q5)
          have HK5 := Lib.hid (HK4.out.trans k5)
          clear q5 k5 CM
          try go_wp2_with fail
          go_roundw
          case rel => exact ⟨g + 1, by go_num, by omega, HQ5, HK5⟩
          case measure => simp [intOf]; omega
        · as_aux_lemma =>
          have CM := Lib.hid (HQa.out.hmove (j := g) 1 hBa HOK.out HLN.out (by omega) (by omega))
          have HFR : Hid (wr.heap.size ∉ [p, ho, e]) := Lib.hid (HQ.out.fresh (Nat.le_refl _))
          have HR := Lib.hid (HEQ.out.trans (setl_one (by rw [HSU.out]; omega) (Or.inl (by rw [HSU.out]; omega))))
          go_wp2_with fail
          refine CM.out.mono ?_
          rintro x w3 ⟨rfl, q3, k3⟩
          have HQ3 := Lib.hid q3
          have HK3 := Lib.hid (HKa.out.trans k3)
          have d3 := HQ3.out.c0
          have HQ4 : Hid (PxAt w3 B p ho e (endH R C (g + 1)) S C U k) := Lib.hid (by rw [HR.out]; exact q3)
          clear q3 k3 CM a0 a1 a2 a3
          go_wp2_with fail
          go_roundw
          case rel => exact ⟨g + 1, by go_num, by omega, HQ4, HK3⟩
          case measure => simp [intOf]; omega
        · as_aux_lemma =>
          have hs4 : decide (4 ≤ s) = true := by simp; omega
          have hs2 : (s == 0) = false := by simp; omega
          have hs3 : decide (3 ≤ s) = true := by simp; omega
          have CM := Lib.hid (HQa.out.hmove (j := g) 1 hBa HOK.out HLN.out (by omega) (by omega))
          have HFR : Hid (wr.heap.size ∉ [p, ho, e]) := Lib.hid (HQ.out.fresh (Nat.le_refl _))
          have HR := Lib.hid (HEQ.out.trans (setl_one (by rw [HSU.out]; omega) (Or.inr HB.out)))
          go_wp2_with fail
          refine CM.out.mono ?_
          rintro x w3 ⟨rfl, q3, k3⟩
          have HQ3 := Lib.hid q3
          have HK3 := Lib.hid (HKa.out.trans k3)
          have d3 := HQ3.out.c0
          have hB3 := HK3.out.bsize HBW.out
          have c0 : w3.cell? ⟨wr.heap.size, 0, none⟩ = some (.int .i64 x0) := k3.cell HFR.out a0
          have c1 : w3.cell? ⟨wr.heap.size, 1, none⟩ = some (.int .i64 x1) := k3.cell HFR.out a1
          have c2 : w3.cell? ⟨wr.heap.size, 2, none⟩ = some (.int .i64 x2) := k3.cell HFR.out a2
          have c3 : w3.cell? ⟨wr.heap.size, 3, none⟩ = some (.int .i64 x3) := k3.cell HFR.out a3
          have CB3 := Lib.hid (CB.out w3)
          clear q3 k3 CM a0 a1 a2 a3 CB
          go_wp2_with fail
          refine CB3.out.mono ?_
          rintro x w4 ⟨rfl, b4⟩
          have HK4 := Lib.hid (HK3.out.trans (Kq.of_below b4 hB3))
          have HQ4 := Lib.hid (HQ3.out.below b4)
          have hB4 := HK4.out.bsize HBW.out
          have d4 := HQ4.out.c0
          clear b4 c0 c1 c2 c3 d3
          have HQ5 : Hid (PxAt w4 B p ho e (endH R C (g + 1)) S C U k) := Lib.hid (by rw [HR.out]; exact HQ4.out)
          try go_wp2_with fail
          go_roundw
          case rel => exact ⟨g + 1, by go_num, by omega, HQ5, HK4⟩
          case measure => simp [intOf]; omega
        · as_aux_lemma =>
          have hs2 : (s == 0) = false := by simp; omega
          have hs3 : decide (3 ≤ s) = false := by simp; omega
          have hs4 : decide (4 ≤ s) = false := by simp; omega
          have HR := Lib.hid (HEQ.out.trans (setl_same (by rw [HSU.out]; omega) (by rw [HSU.out]; omega)))
          have HQ3 : Hid (PxAt wa B p ho e (endH R C (g + 1)) S C U k) := Lib.hid (by rw [HR.out]; exact HQa.out)
          have HK3 := HKa
          go_wp2_with fail
          go_roundw
          case rel => exact ⟨g + 1, by go_num, by omega, HQ3, HK3⟩
          case measure => simp [intOf]; omega
    · obtain rfl : g = 16 := by omega
      rw [show ((16 : Nat) : Int) = 16 from rfl]
      have c0 := HQ.out.c0
      have HOK : Hid (RowsOk 16 (endH R C 16)) := Lib.hid (HOR.out.endH C 16 (by omega))
      have CM := Lib.hid (HQ.out.hbal (HK.out.bsize HBW.out) HOK.out)
      go_wp2_with fail
      refine CM.out.mono ?_
      rintro x w2 ⟨rfl, q2, k2⟩
      rw [hRF.out] at q2
      have HQ0 : Hid (PxAt w2 B p ho e RF (endW S U 0) C U k) := Lib.hid q2
      have HK0 := Lib.hid (HK.out.trans k2)
      clear q2 k2 CM HQ HK c0
      go_wp2_with fail
      go_loopw [6] (fun s6 wi => ∃ g : Nat, s6 = .int .i64 (g : Int) ∧ g ≤ 8 ∧ Hid (PxAt wi B p ho e RF (endW S U g) C U k) ∧ Hid (Kq B [p, ho, e] w wi)) (fun s6 _ => 8 - (intOf s6).toNat)
      case atStart => exact ⟨0, rfl, by omega, HQ0, HK0⟩
      case round =>
        obtain ⟨g, rfl, hg, HQ, HK⟩ := hrel
        clear HQ0 HK0
        by_cases hlt : g < 8
        · have hli : (g : Int) < 8 := by omega
          have c1 := HQ.out.c1
          have cu := HQ.out.cU (j := g) hlt
          have HOK : Hid (RowsOk 8 (endW S U g)) := Lib.hid (HOS.out.endW U g (by omega))
          have CW := where_any B e g (endW S U g) wr HQ.out.held (HOK.out.len (by omega))
          have hBr := HK.out.bsize HBW.out
          obtain ⟨l, hl⟩ : ∃ l, lvl (endW S U g) g = l := ⟨_, rfl⟩
          rw [hl] at CW
          have HL := Lib.hid hl
          have CW := Lib.hid CW
          have hl0 : l = -1 ∨ 0 ≤ l := by
            by_cases q : l = -1
            · exact Or.inl q
            · rw [← HL.out] at q ⊢; exact Or.inr (misW q)
          clear hl
          rcases hl0 with rfl | hl0
          · have HQ2 : Hid (PxAt wr B p ho e RF (endW S U (g + 1)) C U k) := Lib.hid (by rw [endW_no hlt HL.out]; exact HQ.out)
            as_aux_lemma =>
            go_wp2_with fail
            refine CW.out.mono ?_
            rintro x w3 ⟨rfl, rfl⟩
            go_wp2_with fail
            go_roundw
            case rel => exact ⟨g + 1, by go_num, by omega, HQ2, HK⟩
            case measure => simp [intOf]; omega
          · have hl4 : decide (l < 0) = false := by simp; omega
            have hl5 : ¬ l < 0 := by omega
            have HLN : Hid (lvl (endW S U g) g ≠ -1) := Lib.hid (by rw [HL.out]; omega)
            have HEQ := Lib.hid (endW_yes (U := U) hlt HLN.out)
            obtain ⟨b, hb⟩ : ∃ b, U g = b := ⟨_, rfl⟩
            rw [hb] at cu HEQ
            clear hb
            cases b
            · have HR : Hid (endW S U (g + 1) = movA (endW S U g) g (-1)) := Lib.hid (by rw [HEQ.out]; rfl)
              have CM := Lib.hid (HQ.out.smove (j := g) (-1) hBr HOK.out HLN.out (by omega) (by omega))
              as_aux_lemma =>
              go_wp2_with fail
              refine CW.out.mono ?_
              rintro x w3 ⟨rfl, rfl⟩
              go_wp2_with fail
              refine CM.out.mono ?_
              rintro x w4 ⟨rfl, q4, k4⟩
              have HQ3 : Hid (PxAt w4 B p ho e RF (endW S U (g + 1)) C U k) := Lib.hid (by rw [HR.out]; exact q4)
              have HK3 := Lib.hid (HK.out.trans k4)
              clear q4 k4 CM
              go_wp2_with fail
              go_roundw
              case rel => exact ⟨g + 1, by go_num, by omega, HQ3, HK3⟩
              case measure => simp [intOf]; omega
            · have HR : Hid (endW S U (g + 1) = movA (endW S U g) g 1) := Lib.hid (by rw [HEQ.out]; rfl)
              have CM := Lib.hid (HQ.out.smove (j := g) 1 hBr HOK.out HLN.out (by omega) (by omega))
              as_aux_lemma =>
              go_wp2_with fail
              refine CW.out.mono ?_
              rintro x w3 ⟨rfl, rfl⟩
              go_wp2_with fail
              refine CM.out.mono ?_
              rintro x w4 ⟨rfl, q4, k4⟩
              have HQ3 : Hid (PxAt w4 B p ho e RF (endW S U (g + 1)) C U k) := Lib.hid (by rw [HR.out]; exact q4)
              have HK3 := Lib.hid (HK.out.trans k4)
              clear q4 k4 CM
              go_wp2_with fail
              go_roundw
              case rel => exact ⟨g + 1, by go_num, by omega, HQ3, HK3⟩
              case measure => simp [intOf]; omega
        · obtain rfl : g = 8 := by omega
          rw [show ((8 : Nat) : Int) = 8 from rfl]
          have c1 := HQ.out.c1
          have HOK : Hid (RowsOk 8 (endW S U 8)) := Lib.hid (HOS.out.endW U 8 (by omega))
          have CM := Lib.hid (HQ.out.sbal (HK.out.bsize HBW.out) HOK.out)
          go_wp2_with fail
          refine CM.out.mono ?_
          rintro x w3 ⟨rfl, q3, k3⟩
          rw [hSF.out] at q3
          have hth := q3.thC
          have HQ2 := Lib.hid q3.zeroC
          have HK2 := Lib.hid ((HK.out.trans k3).sets 2 (#[.int .i64 0, .int .i64 0, .int .i64 0, .int .i64 0, .int .i64 0, .int .i64 0, .int .i64 0, .int .i64 0, .int .i64 0, .int .i64 0, .int .i64 0, .int .i64 0, .int .i64 0, .int .i64 0, .int .i64 0, .int .i64 0, .int .i64 0, .int .i64 0, .int .i64 0, .int .i64 0, .int .i64 0, .int .i64 0, .int .i64 0, .int .i64 0, .int .i64 0, .int .i64 0, .int .i64 0, .int .i64 0, .int .i64 0, .int .i64 0, .int .i64 0, .int .i64 0, .int .i64 0, .int .i64 0, .int .i64 0, .int .i64 0, .int .i64 0, .int .i64 0, .int .i64 0, .int .i64 0, .int .i64 0, .int .i64 0, .int .i64 0, .int .i64 0, .int .i64 0, .int .i64 0, .int .i64 0, .int .i64 0, .int .i64 0, .int .i64 0, .int .i64 0, .int .i64 0, .int .i64 0, .int .i64 0, .int .i64 0, .int .i64 0, .int .i64 0, .int .i64 0, .int .i64 0, .int .i64 0, .int .i64 0, .int .i64 0, .int .i64 0, .int .i64 0] : Array Value).toList hbp (by simp))
          obtain ⟨w4, hw4⟩ : ∃ w4, Hid (w3.setCells p 2 (#[.int .i64 0, .int .i64 0, .int .i64 0, .int .i64 0, .int .i64 0, .int .i64 0, .int .i64 0, .int .i64 0, .int .i64 0, .int .i64 0, .int .i64 0, .int .i64 0, .int .i64 0, .int .i64 0, .int .i64 0, .int .i64 0, .int .i64 0, .int .i64 0, .int .i64 0, .int .i64 0, .int .i64 0, .int .i64 0, .int .i64 0, .int .i64 0, .int .i64 0, .int .i64 0, .int .i64 0, .int .i64 0, .int .i64 0, .int .i64 0, .int .i64 0, .int .i64 0, .int .i64 0, .int .i64 0, .int .i64 0, .int .i64 0, .int .i64 0, .int .i64 0, .int .i64 0, .int .i64 0, .int .i64 0, .int .i64 0, .int .i64 0, .int .i64 0, .int .i64 0, .int .i64 0, .int .i64 0, .int .i64 0, .int .i64 0, .int .i64 0, .int .i64 0, .int .i64 0, .int .i64 0, .int .i64 0, .int .i64 0, .int .i64 0, .int .i64 0, .int .i64 0, .int .i64 0, .int .i64 0, .int .i64 0, .int .i64 0, .int .i64 0, .int .i64 0] : Array Value).toList = w4) := ⟨_, Lib.hid rfl⟩
          rw [hw4.out] at HQ2 HK2
          clear HQ HK CM q3 k3 c1
          go_upto_region 25 with (refine wpList_store_mid rfl 50 _ _ rfl p 2 #[.int .i64 0, .int .i64 0, .int .i64 0, .int .i64 0, .int .i64 0, .int .i64 0, .int .i64 0, .int .i64 0, .int .i64 0, .int .i64 0, .int .i64 0, .int .i64 0, .int .i64 0, .int .i64 0, .int .i64 0, .int .i64 0, .int .i64 0, .int .i64 0, .int .i64 0, .int .i64 0, .int .i64 0, .int .i64 0, .int .i64 0, .int .i64 0, .int .i64 0, .int .i64 0, .int .i64 0, .int .i64 0, .int .i64 0, .int .i64 0, .int .i64 0, .int .i64 0, .int .i64 0, .int .i64 0, .int .i64 0, .int .i64 0, .int .i64 0, .int .i64 0, .int .i64 0, .int .i64 0, .int .i64 0, .int .i64 0, .int .i64 0, .int .i64 0, .int .i64 0, .int .i64 0, .int .i64 0, .int .i64 0, .int .i64 0, .int .i64 0, .int .i64 0, .int .i64 0, .int .i64 0, .int .i64 0, .int .i64 0, .int .i64 0, .int .i64 0, .int .i64 0, .int .i64 0, .int .i64 0, .int .i64 0, .int .i64 0, .int .i64 0, .int .i64 0] rfl rfl hth (by kernel_rfl) (by kernel_rfl) ?_)
          rw [hw4.out]
          have hth2 := HQ2.out.thU
          have HQ5 := Lib.hid HQ2.out.zeroU
          have HK5 := Lib.hid (HK2.out.sets 66 (#[.bool false, .bool false, .bool false, .bool false, .bool false, .bool false, .bool false, .bool false] : Array Value).toList hbp (by simp))
          obtain ⟨w5, hw5⟩ : ∃ w5, Hid (w4.setCells p 66 (#[.bool false, .bool false, .bool false, .bool false, .bool false, .bool false, .bool false, .bool false] : Array Value).toList = w5) := ⟨_, Lib.hid rfl⟩
          rw [hw5.out] at HQ5 HK5
          go_wp2_with (refine wpList_store_mid rfl 34 _ _ rfl p 66 #[.bool false, .bool false, .bool false, .bool false, .bool false, .bool false, .bool false, .bool false] rfl rfl hth2 (by kernel_rfl) (by kernel_rfl) ?_)
          rw [hw5.out]
          go_wp2_with fail
          go_end0
          exact ⟨rfl, HQ5.out, HK5.out⟩
end
end Go.Proofs.Ytfkepplpeakgmaa

/- Package smq: both policies, the program's and the reference's. -/
namespace Go.Proofs.Ytfkepplpeakgmaa
open Go.RowKit Go.Deep
set_option linter.unusedVariables false
set_option linter.unusedSimpArgs false
structure St where
  R : Nat → List Nat
  S : Nat → List Nat
  C : Nat → Int
  U : Nat → Bool
  k : Nat
theorem XqAt.kqL {B A h : Nat} {L : List Nat} {w w' : World} {X : Nat → List Nat} (hX : XqAt w B h X) (k : Kq A L w w') (hne : h ∉ L) (hT : ∀ b ∈ L, ∃ (T : TypeId) (n : Nat) (f : Nat → Value), w.rowIs b T n f ∧ T ≠ 3) : XqAt w' B h X := by
  obtain ⟨hB, s, hs, ho⟩ := hX
  refine ⟨hB, s, World.rowIs.of_block hs (k.other h (World.rowIs.lt hs) hne), fun l hl => ?_⟩
  have hu := ho l hl
  refine ⟨hu.1, ?_⟩
  rcases hu.2 with hh | ⟨g2, cap, cur, e, q1, q2, q3⟩
  · exact Or.inl hh
  · refine Or.inr ⟨g2, cap, cur, e, q1, ?_, q3⟩
    refine k.row (by
      intro hm
      obtain ⟨T, n, f, ⟨c, hc, _, _⟩, hTT⟩ := hT g2 hm
      rw [hc] at q2
      injection q2 with q2
      injection q2 with _ t
      exact absurd t hTT) q2
theorem QR.row {w : World} {g n : Nat} {R : Nat → List Nat} (h : QR w g n R) : ∃ f : Nat → Value, w.rowIs g 71 57 f := by
  obtain ⟨F, hQ, _⟩ := h
  exact ⟨_, hQ⟩
structure Sb (B : Nat) (w : World) (p h e P H E : Nat) (s t : St) : Prop where
  po : PoAt w B p h e s.R s.S s.C s.U s.k
  px : PxAt w B P H E t.R t.S t.C t.U t.k
  d : ∀ x ∈ [p, h, e], x ∉ [P, H, E]
  okR : RowsOk 16 t.R
  okS : RowsOk 8 t.S
section
variable {B p h e P H E a : Nat} {w0 w w' : World} {s s' t t' : St} {A : Array Value}
theorem Sb.bw (b : Sb B w p h e P H E s t) : B ≤ w.heap.size := Nat.le_of_lt (Nat.lt_of_le_of_lt b.po.bp b.po.lt)
theorem Sb.below (b : Sb B w p h e P H E s t) (k : Below w.heap.size w w') : Sb B w' p h e P H E s t := ⟨b.po.below k, b.px.below k, b.d, b.okR, b.okS⟩
theorem Sb.d2 (b : Sb B w p h e P H E s t) : ∀ x ∈ [P, H, E], x ∉ [p, h, e] := fun x hx hy => b.d x hy hx
theorem Sb.pdo (b : Sb B w p h e P H E s t) (q : PoAt w' B p h e s'.R s'.S s'.C s'.U s'.k) (k : Kq B [p, h, e] w w') : Sb B w' p h e P H E s' t := by
  have hT : ∀ b ∈ [p, h, e], ∃ (T : TypeId) (n : Nat) (f : Nat → Value), w.rowIs b T n f ∧ T ≠ 3 := fun x hx => by
    simp only [List.mem_cons, List.not_mem_nil, or_false] at hx
    rcases hx with rfl | rfl | rfl
    · exact ⟨_, _, _, b.po.row, by decide⟩
    · obtain ⟨f, hf⟩ := b.po.hot.row
      exact ⟨_, _, _, hf, by decide⟩
    · obtain ⟨f, hf⟩ := b.po.held.row
      exact ⟨_, _, _, hf, by decide⟩
  exact ⟨q, { b.px with
    row := World.rowIs.of_block b.px.row (k.other P b.px.lt (b.d2 P (by simp)))
    hot := b.px.hot.kqL k (b.d2 H (by simp)) hT
    held := b.px.held.kqL k (b.d2 E (by simp)) hT }, b.d, b.okR, b.okS⟩
theorem Sb.xdo (b : Sb B w p h e P H E s t) (q : PxAt w' B P H E t'.R t'.S t'.C t'.U t'.k) (k : Kq B [P, H, E] w w') (okR : RowsOk 16 t'.R) (okS : RowsOk 8 t'.S) : Sb B w' p h e P H E s t' :=
  ⟨b.po.kq k (b.d p (by simp)) (b.d h (by simp)) (b.d e (by simp)), q, b.d, okR, okS⟩
/-- Both, and the act's own row. -/
structure Sa (B : Nat) (w0 w : World) (p h e P H E : Nat) (s t : St) (a : Nat) (A : Array Value) : Prop where
  b : Sb B w p h e P H E s t
  row : w.heap[a]? = some (.cells A 30 (0, 0))
  ap : a ∉ [p, h, e]
  ax : a ∉ [P, H, E]
  k : Kq B [p, h, e, P, H, E] w0 w
theorem Sb.fresh (b : Sb B w p h e P H E s t) : w.heap.size ∉ [p, h, e] ∧ w.heap.size ∉ [P, H, E] := by
  refine ⟨?_, b.px.fresh (Nat.le_refl _)⟩
  have h1 := b.po.lt
  have h2 := b.po.hot.lt
  have h3 := b.po.held.lt
  simp
  omega
theorem sa_start (b : Sb B w p h e P H E s t) (A : Array Value) : ∃ w1 a, Hid (w.alloc (.cells A 30) = w1) ∧ Hid (w.heap.size = a) ∧ Hid (Sa B w w1 p h e P H E s t a A) :=
  ⟨_, _, Lib.hid rfl, Lib.hid rfl, Lib.hid ⟨b.below ((Below.refl _ _).alloc (Nat.le_refl _) _), heap_alloc_new _ _, b.fresh.1, b.fresh.2, Kq.of_below ((Below.refl _ _).alloc (Nat.le_refl _) _) b.bw⟩⟩
theorem row_cell25 {w : World} {a : Nat} {A : Array Value} {t : TypeId} {z : Nat × Nat} (h : w.heap[a]? = some (.cells A t z)) (j : Nat) (v : Value) (e : A[j]? = some v) : w.cell? ⟨a, j, none⟩ = some v := by
  unfold World.cell?
  simp [h, e]
theorem Sa.cell (q : Sa B w0 w p h e P H E s t a A) (j : Nat) (v : Value) (e : A[j]? = some v) : w.cell? ⟨a, j, none⟩ = some v := row_cell25 q.row j v e
theorem Sa.lt (q : Sa B w0 w p h e P H E s t a A) : a < w.heap.size := (Array.getElem?_eq_some_iff.1 q.row).1
theorem Sa.below (q : Sa B w0 w p h e P H E s t a A) (k : Below w.heap.size w w') : Sa B w0 w' p h e P H E s t a A := ⟨q.b.below k, (k.block _ q.lt).trans q.row, q.ap, q.ax, q.k.trans (Kq.of_below k q.b.bw)⟩
theorem Sa.pdo (q : Sa B w0 w p h e P H E s t a A) (s' : St) (c : PoAt w' B p h e s'.R s'.S s'.C s'.U s'.k) (k : Kq B [p, h, e] w w') : Sa B w0 w' p h e P H E s' t a A := ⟨q.b.pdo c k, k.row q.ap q.row, q.ap, q.ax, q.k.trans (k.wider (by simp))⟩
theorem Sa.xdo (q : Sa B w0 w p h e P H E s t a A) (t' : St) (c : PxAt w' B P H E t'.R t'.S t'.C t'.U t'.k) (k : Kq B [P, H, E] w w') (okR : RowsOk 16 t'.R) (okS : RowsOk 8 t'.S) : Sa B w0 w' p h e P H E s t' a A := ⟨q.b.xdo c k okR okS, k.row q.ax q.row, q.ap, q.ax, q.k.trans (k.wider (by simp))⟩
theorem Sa.c1 (q : Sa B w0 w p h e P H E s t a A) : w.cell? ⟨P, 1, none⟩ = some (.pointer (some ⟨E, 0, none⟩)) := q.b.px.c1
theorem Sa.ck (q : Sa B w0 w p h e P H E s t a A) : w.cell? ⟨P, 74, none⟩ = some (.int .i64 (t.k : Int)) := q.b.px.ck
theorem Sa.bw (q : Sa B w0 w p h e P H E s t a A) : B ≤ w.heap.size := q.b.bw
theorem Sa.hit_no (q : Sa B w0 w p h e P H E s t a A) (i : Int) (hi : i < 0 ∨ 16 ≤ i) : Calls Try.prog 20 #[.pointer (some ⟨p, 0, none⟩), .int .i64 i] w fun x w' => x = .returned (.int .i64 3) ∧ w = w' := Go.Proofs.Ytfkepplpeakgmaa.hit_no i q.b.po hi
theorem Sa.hit (q : Sa B w0 w p h e P H E s t a A) (j : Nat) (hj : j < 16) : Calls Try.prog 20 #[.pointer (some ⟨p, 0, none⟩), .int .i64 (j : Int)] w fun x w' => x = .returned (.int .i64 0) ∧ Sa B w0 w' p h e P H E { s with R := hitR s.R j, C := hitC s.C s.k j } t a A :=
  (hit_any j q.b.po hj).mono fun _ _ g => ⟨g.1, q.pdo { s with R := hitR s.R j, C := hitC s.C s.k j } g.2.1 g.2.2⟩
theorem RowsOk.hitR {R : Nat → List Nat} (ok : RowsOk 16 R) (j : Nat) (hj : j < 16) : RowsOk 16 (Go.Proofs.Ytfkepplpeakgmaa.hitR R j) := by
  unfold Go.Proofs.Ytfkepplpeakgmaa.hitR
  split
  · exact ok.put _ hj
  · exact ok.movA _ hj
theorem Sa.rhit (q : Sa B w0 w p h e P H E s t a A) (j : Nat) (hj : j < 16) : Calls Try.prog 22 #[.pointer (some ⟨P, 0, none⟩), .int .i64 (j : Int)] w fun x w' => x = .returned (.tuple #[]) ∧ Sa B w0 w' p h e P H E s { t with R := hitR t.R j, C := hitC t.C t.k j } a A :=
  (rhit_any j q.b.px hj (q.b.okR.len (by omega))).mono fun _ _ g => ⟨g.1, q.xdo { t with R := hitR t.R j, C := hitC t.C t.k j } g.2.1 g.2.2 (q.b.okR.hitR j hj) q.b.okS⟩
theorem Sa.enter (q : Sa B w0 w p h e P H E s t a A) (i : Int) : Calls Try.prog 36 #[.pointer (some ⟨p, 0, none⟩), .int .i64 i] w fun x w' => x = .returned (.int .i64 (addA s.S 8 i 1)) ∧ Sa B w0 w' p h e P H E { s with S := if addA s.S 8 i 1 = 0 then put s.S i.toNat 1 else s.S } t a A :=
  (enter_any i q.b.po).mono fun _ _ g => ⟨g.1, q.pdo { s with S := if addA s.S 8 i 1 = 0 then put s.S i.toNat 1 else s.S } g.2.1 g.2.2⟩
theorem Sa.leave (q : Sa B w0 w p h e P H E s t a A) (i : Int) : Calls Try.prog 38 #[.pointer (some ⟨p, 0, none⟩), .int .i64 i] w fun x w' => x = .returned (.int .i64 (misA s.S 8 i)) ∧ Sa B w0 w' p h e P H E { s with S := leaS s.S i, U := setB s.S s.U i false } t a A :=
  (leave_any i q.b.po).mono fun _ _ g => ⟨g.1, q.pdo { s with S := leaS s.S i, U := setB s.S s.U i false } g.2.1 g.2.2⟩
theorem Sa.use (q : Sa B w0 w p h e P H E s t a A) (i : Int) : Calls Try.prog 39 #[.pointer (some ⟨p, 0, none⟩), .int .i64 i] w fun x w' => x = .returned (.int .i64 (misA s.S 8 i)) ∧ Sa B w0 w' p h e P H E { s with S := useS s.S i, U := setB s.S s.U i true } t a A :=
  (use_any i q.b.po).mono fun _ _ g => ⟨g.1, q.pdo { s with S := useS s.S i, U := setB s.S s.U i true } g.2.1 g.2.2⟩
theorem Sa.tick (q : Sa B w0 w p h e P H E s t a A) (hk : s.k < 1000000) : Calls Try.prog 17 #[.pointer (some ⟨p, 0, none⟩)] w fun x w' => x = .returned (.int .i64 ((s.k + 1 : Nat) : Int)) ∧ Sa B w0 w' p h e P H E { R := tkR s.R s.C s.k, S := tkS s.S s.U s.k, C := tkC s.C s.k, U := tkU s.U s.k, k := s.k + 1 } t a A :=
  (tick_any q.b.po hk).mono fun _ _ g => ⟨g.1, q.pdo { R := tkR s.R s.C s.k, S := tkS s.S s.U s.k, C := tkC s.C s.k, U := tkU s.U s.k, k := s.k + 1 } g.2.1 g.2.2⟩
theorem Sa.where_ (q : Sa B w0 w p h e P H E s t a A) (j : Nat) : Calls Try.prog 25 #[.pointer (some ⟨E, 0, none⟩), .int .i64 (j : Int)] w fun x w' => x = .returned (.int .i64 (lvl t.S j)) ∧ w = w' :=
  where_any B E j t.S w q.b.px.held (q.b.okS.len (by omega))
theorem Sa.rput (q : Sa B w0 w p h e P H E s t a A) (j l : Nat) (hj : j < 8) (hl : l < 4) : Calls Try.prog 35 #[.pointer (some ⟨E, 0, none⟩), .int .i64 (j : Int), .int .i64 (l : Int)] w fun x w' => x = .returned (.tuple #[]) ∧ Sa B w0 w' p h e P H E s { t with S := put t.S j l } a A :=
  (rput_any B E j l t.S w q.b.px.held q.bw (q.b.okS.len (by omega)) hl).mono fun _ _ g => ⟨g.1, q.xdo { t with S := put t.S j l } (q.b.px.heldq g.2.1 g.2.2) (g.2.2.wider (by simp)) q.b.okR (q.b.okS.put l hj)⟩
theorem Sa.rremove (q : Sa B w0 w p h e P H E s t a A) (j : Nat) : Calls Try.prog 37 #[.pointer (some ⟨E, 0, none⟩), .int .i64 (j : Int)] w fun x w' => x = .returned (.tuple #[]) ∧ Sa B w0 w' p h e P H E s { t with S := rem t.S j } a A :=
  (rremove_any B E j t.S w q.b.px.held q.bw (q.b.okS.len (by omega))).mono fun _ _ g => ⟨g.1, q.xdo { t with S := rem t.S j } (q.b.px.heldq (g.2.1.congr (rem4 t.S j)) g.2.2) (g.2.2.wider (by simp)) q.b.okR (q.b.okS.rem j)⟩
theorem Sa.rmove (q : Sa B w0 w p h e P H E s t a A) (j : Nat) (m : Int) (hj : j < 8) (hv : lvl t.S j ≠ -1) (hb1 : -9223372036854775808 ≤ m) (hb2 : m ≤ 9223372036854775807) : Calls Try.prog 34 #[.pointer (some ⟨E, 0, none⟩), .int .i64 (j : Int), .int .i64 m] w fun x w' => x = .returned (.tuple #[]) ∧ Sa B w0 w' p h e P H E s { t with S := movA t.S j m } a A :=
  (rmove_any B E j m t.S w q.b.px.held q.bw (q.b.okS.len (by omega)) hv hb1 hb2).mono fun _ _ g => ⟨g.1, q.xdo { t with S := movA t.S j m } (q.b.px.heldq g.2.1 g.2.2) (g.2.2.wider (by simp)) q.b.okR (q.b.okS.movA m hj)⟩
attribute [local irreducible] endH endW balR in
theorem Sa.rend (q : Sa B w0 w p h e P H E s t a A) : Calls Try.prog 24 #[.pointer (some ⟨P, 0, none⟩)] w fun x w' => x = .returned (.tuple #[]) ∧ Sa B w0 w' p h e P H E s { R := balR (endH t.R t.C 16) 4 3, S := balR (endW t.S t.U 8) 2 3, C := zC, U := zU, k := t.k } a A :=
  (rend_any q.b.px q.b.okR q.b.okS).mono fun _ _ g => ⟨g.1, q.xdo { R := balR (endH t.R t.C 16) 4 3, S := balR (endW t.S t.U 8) 2 3, C := zC, U := zU, k := t.k } g.2.1 g.2.2 ((q.b.okR.endH t.C 16 (by omega)).balR 4 3 (by omega)) ((q.b.okS.endW t.U 8 (by omega)).balR 2 3 (by omega))⟩
theorem Sa.setU (q : Sa B w0 w p h e P H E s t a A) {i : Nat} (hi : i < 8) (b : Bool) : Sa B w0 (w.setCell ⟨P, 66 + i, none⟩ (.bool b)) p h e P H E s { t with U := sU t.U i b } a A :=
  q.xdo { t with U := sU t.U i b } (q.b.px.setU hi b) ((Kq.refl _ _ _).setCell (66 + i) _ q.b.px.bp (by simp)) q.b.okR q.b.okS
theorem Sa.setK (q : Sa B w0 w p h e P H E s t a A) (m : Nat) : Sa B w0 (w.setCell ⟨P, 74, none⟩ (.int .i64 (m : Int))) p h e P H E s { t with k := m } a A :=
  q.xdo { t with k := m } (q.b.px.setK m) ((Kq.refl _ _ _).setCell 74 _ q.b.px.bp (by simp)) q.b.okR q.b.okS
end
def DoQ (B p h e P H E k0 : Nat) (w0 : World) (x : Ending) (w' : World) : Prop := x = .returned (.bool true) ∧ ∃ s : St, s.k ≤ k0 ∧ Sb B w' p h e P H E s s ∧ Kq B [p, h, e, P, H, E] w0 w'
theorem Sa.fin {B p h e P H E a k0 : Nat} {w0 w : World} {s t : St} {A : Array Value} {b : Bool} (q : Sa B w0 w p h e P H E s t a A) (hs : s = t) (hk : t.k ≤ k0) (hb : b = true) : DoQ B p h e P H E k0 w0 (.returned (.bool b)) w := by
  subst hs
  subst hb
  exact ⟨rfl, s, hk, q.b, q.k⟩
end Go.Proofs.Ytfkepplpeakgmaa
