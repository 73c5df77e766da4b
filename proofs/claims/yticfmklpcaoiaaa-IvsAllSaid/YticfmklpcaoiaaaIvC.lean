/- The laws of layer 20: IvsNone, IvsAll: walks. -/
import Derived.Test.YticfmklpcaoiaaaIvB
namespace Go.Proofs.Yticfmklpcaoiaaa
open Go.RowKit Go.Deep
set_option linter.unusedVariables false

theorem needV_gt {t m : Int} (h : t < m) : t < needV t m := by unfold needV; split <;> omega
theorem needV_le {t m : Int} (h : t < m) : needV t m ≤ m := by unfold needV; split <;> omega

set_option maxRecDepth 100000 in
set_option maxHeartbeats 1000000 in
theorem ivsAll_walk (a : Int) (w : World) (ha : (Lit.int .u8 a).wf = true) :
    Calls Try.prog 5 #[.int .u8 a] w fun e w' => e = .returned (.bool true) ∧ Below w.heap.size w w' := by
  have h0 := (bounds_u8 ha).1
  have h1 := (bounds_u8 ha).2
  clear ha
  obtain ⟨m, hm⟩ : ∃ m : Nat, a + 1 = (m : Int) := ⟨(a + 1).toNat, by omega⟩
  have hm1 : 1 ≤ m := by omega
  have hm2 : m ≤ 256 := by omega
  have HM := Lib.hid hm
  clear hm
  go_enter Try.func5, Try.ntmps5
  go_wp2_with fail
  rw [HM.out]
  refine (ivsNew_ok 0 m w (by omega) (by omega) (by omega) (by omega)).mono ?_
  rintro e w' ⟨rfl, rfl⟩
  have B0 : Below w.heap.size w (w.alloc (.cells #[.int .i64 0, .int .i64 0, .int .i64 m] 48)) := (Below.refl _ _).alloc (Nat.le_refl _) _
  have T0 := Tri.new w 48 0 0 m (by omega) (by omega) (by omega) (by omega)
  generalize w.alloc (.cells #[.int .i64 0, .int .i64 0, .int .i64 m] 48) = w0 at B0 T0 ⊢
  go_wp2_with fail
  go_loopw [6] (fun i wr => ∃ (k : Nat) (t : Int), k ≤ m ∧ i = .int .i64 k ∧ Tri wr w.heap.size k t m ∧ Below w.heap.size w wr)
    (fun i _ => m - (intOf i).toNat)
  case atStart => exact ⟨0, 0, by omega, rfl, T0, B0⟩
  case round =>
    obtain ⟨k, t, hk, rfl, T, B⟩ := hrel
    by_cases hlt : k < m
    · by_cases ht : (k : Int) < t
      · go_wp2_with fail
        refine (need_no _ wr k t m T (.inl ht)).mono ?_
        rintro e w1 ⟨rfl, hb1⟩
        go_wp2_with fail
        refine (take_ok _ w1 k t m (T.below hb1) ht).mono ?_
        rintro e w2 ⟨rfl, T2, g2⟩
        have B2 := (B.trans (hb1.mono B.size)).grown g2 (Nat.le_trans B.size hb1.size) (fun j e => by cases e; exact Nat.le_refl _)
        go_wp2
        go_roundw
        case rel => exact ⟨k + 1, t, by omega, by go_num, by simpa using T2, B2⟩
        case measure => simp [intOf]; omega
      · have htm : t < m := by have := T.nt; omega
        have hv1 := needV_gt htm
        have hv2 := needV_le htm
        have hnt := T.nt
        have HN := Lib.hid (fun w0 (h : Tri w0 w.heap.size k t m) => need_yes _ w0 k t m h (by omega) htm)
        generalize needV t m = V at HN hv1 hv2
        go_wp2_with fail
        refine (HN.out _ T).mono ?_
        rintro e w1 ⟨rfl, hb1⟩
        go_wp2_with fail
        refine (raise_ok _ w1 k t m V (T.below hb1) hv1 hv2).mono ?_
        rintro e w2 ⟨rfl, T2, g2⟩
        have B1 := B.trans (hb1.mono B.size)
        have B2 := B1.grown g2 B1.size (fun j e => by cases e; exact Nat.le_refl _)
        go_wp2_with fail
        refine (take_ok _ w2 k V m T2 (by omega)).mono ?_
        rintro e w3 ⟨rfl, T3, g3⟩
        have B3 := B2.grown g3 B2.size (fun j e => by cases e; exact Nat.le_refl _)
        go_wp2
        go_roundw
        case rel => exact ⟨k + 1, V, by omega, by go_num, by simpa using T3, B3⟩
        case measure => simp [intOf]; omega
    · obtain rfl : k = m := by omega
      obtain rfl : t = k := by have := T.nt; have := T.tm; omega
      go_wp2_with fail
      refine (need_no _ wr k k k T (.inr rfl)).mono ?_
      rintro e w1 ⟨rfl, hb1⟩
      have T1 := T.below hb1
      have B1 := B.trans (hb1.mono B.size)
      go_wp2_with fail
      refine (take_no _ w1 k k k T1 (by omega) 16 (Lib.hid (askE_end (by omega))) rfl).mono ?_
      rintro e w2 ⟨rfl, hb2⟩
      have T2 := T1.below hb2
      have B2 := B1.trans (hb2.mono B1.size)
      go_wp2_with fail
      refine (awake20 _).mono ?_
      rintro e w3 ⟨rfl, hb3⟩
      have T3 := T2.below hb3
      have B3 := B2.trans (hb3.mono B2.size)
      go_wp2_with fail
      refine (ivsLeft_any _ w3 k k k T3).mono ?_
      rintro e w' ⟨rfl, rfl⟩
      go_wp2
      go_ret
      exact ⟨rfl, B3.drew⟩

set_option maxRecDepth 100000 in
set_option maxHeartbeats 1000000 in
theorem ivsNone_walk (n a c : Int) (w : World) (hn : (Lit.int .i64 n).wf = true) (ha : (Lit.int .u8 a).wf = true) (hc : (Lit.int .u8 c).wf = true) :
    Calls Try.prog 6 #[.int .i64 n, .int .u8 a, .int .u8 c] w fun e w' => e = .returned (.bool true) ∧ Below w.heap.size w w' := by
  have a0 := (bounds_u8 ha).1
  have a1 := (bounds_u8 ha).2
  have c0 := (bounds_u8 hc).1
  have c1 := (bounds_u8 hc).2
  clear ha hc hn
  go_enter Try.func6, Try.ntmps6
  go_wp2_with fail
  refine (ivs_nil _).2.2.2.2.1.mono ?_
  rintro e w' ⟨rfl, rfl⟩
  go_wp2_with fail
  refine (ivs_nil _).2.2.2.2.2.mono ?_
  rintro e w' ⟨rfl, rfl⟩
  go_wp2_with fail
  refine (ivsNew_ok a (c + 300) w (by omega) (by omega) (by omega) (by omega)).mono ?_
  rintro e w' ⟨rfl, rfl⟩
  have B0 : Below w.heap.size w (w.alloc (.cells #[.int .i64 a, .int .i64 a, .int .i64 (c + 300)] 48)) := (Below.refl _ _).alloc (Nat.le_refl _) _
  have T0 := Tri.new w 48 a a (c + 300) (by omega) (by omega) (by omega) (by omega)
  have hs0 : (w.alloc (.cells #[.int .i64 a, .int .i64 a, .int .i64 (c + 300)] 48)).heap.size = w.heap.size + 1 := by simp
  generalize w.alloc (.cells #[.int .i64 a, .int .i64 a, .int .i64 (c + 300)] 48) = w0 at B0 T0 hs0 ⊢
  have HS := Lib.hid hs0
  clear hs0
  go_wp2_with fail
  refine (ivsCopy_any _ w0 a a (c + 300) T0).mono ?_
  rintro e w' ⟨rfl, rfl⟩
  have B1 := B0.alloc B0.size (.cells #[.int .i64 a, .int .i64 a, .int .i64 (c + 300)] 48)
  have T1 := T0.below ((Below.refl _ _).alloc (Nat.le_refl _) (.cells #[.int .i64 a, .int .i64 a, .int .i64 (c + 300)] 48))
  have C1 := Tri.new w0 48 a a (c + 300) (by omega) (by omega) (by omega) (by omega)
  generalize w0.alloc (.cells #[.int .i64 a, .int .i64 a, .int .i64 (c + 300)] 48) = w1 at B1 T1 C1 ⊢
  have hne : w.heap.size ≠ w0.heap.size := by rw [HS.out]; omega
  have hle : w.heap.size ≤ w0.heap.size := by rw [HS.out]; omega
  clear HS
  generalize w0.heap.size = cb at C1 hne hle ⊢
  have HNE := Lib.hid hne
  clear hne
  go_wp2_with fail
  refine (raise_ok _ w1 a a (c + 300) (a + 5) C1 (by omega) (by omega)).mono ?_
  rintro e w2 ⟨rfl, C2, g2⟩
  have T2 := T1.only g2 HNE.out
  have B2 := B1.grown g2 B1.size (fun j e => by cases e; exact hle)
  go_wp2_with fail
  refine (take_ok _ w2 a (a + 5) (c + 300) C2 (by omega)).mono ?_
  rintro e w3 ⟨rfl, C3, g3⟩
  have T3 := T2.only g3 HNE.out
  have B3 := B2.grown g3 B2.size (fun j e => by cases e; exact hle)
  go_wp2_with fail
  refine (awake20 _).mono ?_
  rintro e w4 ⟨rfl, hb4⟩
  have T4 := T3.below hb4
  have C4 := C3.below hb4
  have B4 := B3.trans (hb4.mono B3.size)
  go_wp2_with fail
  refine ((ivs_nil _).2.2.2.1 n).mono ?_
  rintro e w' ⟨rfl, rfl⟩
  go_wp2_with fail
  refine (ivs_nil _).2.1.mono ?_
  rintro e w' ⟨rfl, rfl⟩
  go_wp2_with fail
  refine (ivs_nil _).2.2.1.mono ?_
  rintro e w' ⟨rfl, rfl⟩
  go_wp2_with fail
  refine (ivs_nil _).1.mono ?_
  rintro e w' ⟨rfl, rfl⟩
  go_wp2_with fail
  refine (ivsTop_any _ _ _ _ _ T4).mono ?_
  rintro e w' ⟨rfl, rfl⟩
  go_wp2_with fail
  refine (ivsTop_any _ _ _ _ _ C4).mono ?_
  rintro e w' ⟨rfl, rfl⟩
  go_wp2_with fail
  refine (ivsLeft_any _ _ _ _ _ T4).mono ?_
  rintro e w' ⟨rfl, rfl⟩
  go_wp2_with fail
  refine (ivsLeft_any _ _ _ _ _ C4.drew).mono ?_
  rintro e w' ⟨rfl, rfl⟩
  have hfin : (c + 300 - a == c + 300 - (a + 1) + 1) = true := by simp; omega
  go_wp2
  go_ret
  exact ⟨rfl, B4.drew.drew⟩
end Go.Proofs.Yticfmklpcaoiaaa
