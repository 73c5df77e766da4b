/- Contracts (cellaret): the law GfPowers. -/
import Derived.Test.YtgojeonpnjjkeaaGfF
import Derived.Test.YtgojeonpnjjkeaaOpen
import Derived.Lib.SmallJoins
namespace Go.Proofs.Ytgojeonpnjjkeaa
open Go.RowKit Go.Deep Go.ChangeShapes Go.WideShapes
set_option linter.unusedVariables false

theorem drewN_after {B : Nat} {a w : World} (h : Below B a w) (n : Nat) : Below B a (w.drewN n) := ⟨h.os, h.tape, h.output, h.size, h.block⟩

set_option maxRecDepth 100000 in
set_option maxHeartbeats 1000000 in
theorem gfPowers_zero (a i s p x y z u v : Nat) (n m k : Int) (w : World) (ha : a < 256) (hi : i < 256) (hx : x < 256) (hy : y < 256) (hz : z < 256) (hu : u < 256) (hv : v < 256) (hs : s < 1000) (hp : p < 256)
    (hn1 : -9223372036854775808 ≤ n) (hn2 : n ≤ 9223372036854775807) (hm1 : -32768 ≤ m) (hm2 : m ≤ 32767) (hk1 : -32768 ≤ k) (hk2 : k ≤ 32767)
    (ht : (0 ≤ n.tmod 1000 ∧ n.tmod 1000 = (s : Int)) ∨ (n.tmod 1000 < 0 ∧ -(n.tmod 1000) = (s : Int))) (h0 : ((a : Int) == 0) = true) (hn0 : (n == 0) = true ∨ (n == 0) = false)
    (P256 : Hid (∀ w, Calls Try.prog 15 #[.int .u8 (a : Nat), .int .i64 256] w fun e w' => e = .returned (.int .u8 (a : Nat)) ∧ Below w.heap.size w w'))
    (P0 : Hid (∀ w, Calls Try.prog 15 #[.int .u8 (a : Nat), .int .i64 0] w fun e w' => e = .returned (.int .u8 (1 : Nat)) ∧ Below w.heap.size w w'))
    (IA : Hid (∀ w, Calls Try.prog 14 #[.int .u8 (a : Nat)] w fun e w' => e = .returned (.int .u8 (i : Nat)) ∧ Below w.heap.size w w'))
    (RI : Hid (∀ w, Calls Try.prog 16 #[.int .i64 (a : Nat)] w fun e w' => e = .returned (.int .i64 (i : Nat)) ∧ w = w'))
    (PS : Hid (∀ w, Calls Try.prog 15 #[.int .u8 (a : Nat), .int .i64 (s : Int)] w fun e w' => e = .returned (.int .u8 (p : Nat)) ∧ Below w.heap.size w w'))
    (RP : Hid (∀ w, Calls Try.prog 17 #[.int .i64 (a : Nat), .int .i64 (s : Nat)] w fun e w' => e = .returned (.int .i64 (p : Nat)) ∧ w = w'))
    (AW : Hid (∀ w, Calls Try.prog 8 #[] w fun e w' => e = .returned (.bool true) ∧ Below w.heap.size w w'))
    (PN : Hid ((n == 0) = false → ∀ w, Calls Try.prog 15 #[.int .u8 (a : Nat), .int .i64 n] w fun e w' => e = .returned (.int .u8 (0 : Nat)) ∧ Below w.heap.size w w')) :
    Calls Try.prog 5 #[.agg #[.int .u8 a, .int .i64 n, .int .i16 m, .int .i16 k]] w fun e w' => e = .returned (.bool true) ∧ Below w.heap.size w w' := by
  have hsz : w.heap.size < (w.alloc (.cells #[.int .u8 a, .int .i64 n, .int .i16 m, .int .i16 k] 31)).heap.size := by rw [World.size_alloc]; omega
  have hb0 : Below w.heap.size w (w.alloc (.cells #[.int .u8 a, .int .i64 n, .int .i16 m, .int .i16 k] 31)) := (Below.refl _ _).alloc (Nat.le_refl _) _
  have c0 := World.cell?_alloc_new w #[.int .u8 a, .int .i64 n, .int .i16 m, .int .i16 k] 31 0
  have c1 := World.cell?_alloc_new w #[.int .u8 a, .int .i64 n, .int .i16 m, .int .i16 k] 31 1
  have c2 := World.cell?_alloc_new w #[.int .u8 a, .int .i64 n, .int .i16 m, .int .i16 k] 31 2
  have c3 := World.cell?_alloc_new w #[.int .u8 a, .int .i64 n, .int .i16 m, .int .i16 k] 31 3
  rcases hn0 with hn0 | hn0
  all_goals
    rcases ht with ⟨ht1, ht2⟩ | ⟨ht1, ht2⟩
    all_goals
      go_enter Try.func5, Try.ntmps5
      go_wp2
      generalize w.alloc (.cells #[.int .u8 a, .int .i64 n, .int .i16 m, .int .i16 k] 31) = w0 at c0 c1 c2 c3 hb0 hsz ⊢
      go_quiet (fail)
      go_wp2_with fail
      refine (P256.out _).mono ?_
      rintro e w' ⟨rfl, hb⟩
      have hb0 := (drewN_after hb0 _).trans (hb.mono hb0.size)
      clear hb
      go_wp2_with fail
      refine (P0.out _).mono ?_
      rintro e w' ⟨rfl, hb⟩
      have hb0 := hb0.trans (hb.mono hb0.size)
      clear hb
      go_wp2_with fail
      refine (IA.out _).mono ?_
      rintro e w' ⟨rfl, hb⟩
      have hb0 := hb0.trans (hb.mono hb0.size)
      clear hb
      go_wp2_with fail
      refine (RI.out _).mono ?_
      rintro e w' ⟨rfl, rfl⟩
      go_wp2_with fail
      refine (PS.out _).mono ?_
      rintro e w' ⟨rfl, hb⟩
      have hb0 := hb0.trans (hb.mono hb0.size)
      clear hb
      go_wp2_with fail
      refine (RP.out _).mono ?_
      rintro e w' ⟨rfl, rfl⟩
      go_wp2_with fail
      refine (AW.out _).mono ?_
      rintro e w' ⟨rfl, hb⟩
      have hb0 := hb0.trans (hb.mono hb0.size)
      clear hb
      first | (go_wp2; go_ret; exact ⟨rfl, hb0⟩) | (go_wp2_with fail; refine (PN.out hn0 _).mono ?_; rintro e w' ⟨rfl, hb⟩; have hb0 := hb0.trans (hb.mono hb0.size); go_wp2; go_ret; exact ⟨rfl, hb0⟩)
set_option maxRecDepth 100000 in
set_option maxHeartbeats 1000000 in
theorem gfPowers_more (a i s p x y z u v : Nat) (n m k : Int) (w : World) (ha : a < 256) (hi : i < 256) (hx : x < 256) (hy : y < 256) (hz : z < 256) (hu : u < 256) (hv : v < 256) (hs : s < 1000) (hp : p < 256)
    (hn1 : -9223372036854775808 ≤ n) (hn2 : n ≤ 9223372036854775807) (hm1 : -32768 ≤ m) (hm2 : m ≤ 32767) (hk1 : -32768 ≤ k) (hk2 : k ≤ 32767)
    (ht : (0 ≤ n.tmod 1000 ∧ n.tmod 1000 = (s : Int)) ∨ (n.tmod 1000 < 0 ∧ -(n.tmod 1000) = (s : Int))) (h0 : ((a : Int) == 0) = false)
    (P256 : Hid (∀ w, Calls Try.prog 15 #[.int .u8 (a : Nat), .int .i64 256] w fun e w' => e = .returned (.int .u8 (a : Nat)) ∧ Below w.heap.size w w'))
    (P0 : Hid (∀ w, Calls Try.prog 15 #[.int .u8 (a : Nat), .int .i64 0] w fun e w' => e = .returned (.int .u8 (1 : Nat)) ∧ Below w.heap.size w w'))
    (IA : Hid (∀ w, Calls Try.prog 14 #[.int .u8 (a : Nat)] w fun e w' => e = .returned (.int .u8 (i : Nat)) ∧ Below w.heap.size w w'))
    (RI : Hid (∀ w, Calls Try.prog 16 #[.int .i64 (a : Nat)] w fun e w' => e = .returned (.int .i64 (i : Nat)) ∧ w = w'))
    (PS : Hid (∀ w, Calls Try.prog 15 #[.int .u8 (a : Nat), .int .i64 (s : Int)] w fun e w' => e = .returned (.int .u8 (p : Nat)) ∧ Below w.heap.size w w'))
    (RP : Hid (∀ w, Calls Try.prog 17 #[.int .i64 (a : Nat), .int .i64 (s : Nat)] w fun e w' => e = .returned (.int .i64 (p : Nat)) ∧ w = w'))
    (AW : Hid (∀ w, Calls Try.prog 8 #[] w fun e w' => e = .returned (.bool true) ∧ Below w.heap.size w w'))
    (PN : Hid (∀ w, Calls Try.prog 15 #[.int .u8 (a : Nat), .int .i64 n] w fun e w' => e = .returned (.int .u8 (x : Nat)) ∧ Below w.heap.size w w'))
    (PR : Hid (∀ w, Calls Try.prog 15 #[.int .u8 (a : Nat), .int .i64 (n.tmod 255)] w fun e w' => e = .returned (.int .u8 (x : Nat)) ∧ Below w.heap.size w w'))
    (PM : Hid (∀ w, Calls Try.prog 15 #[.int .u8 (a : Nat), .int .i64 m] w fun e w' => e = .returned (.int .u8 (y : Nat)) ∧ Below w.heap.size w w'))
    (PK : Hid (∀ w, Calls Try.prog 15 #[.int .u8 (a : Nat), .int .i64 k] w fun e w' => e = .returned (.int .u8 (z : Nat)) ∧ Below w.heap.size w w'))
    (MU : Hid (∀ w, Calls Try.prog 11 #[.int .u8 (y : Nat), .int .u8 (z : Nat)] w fun e w' => e = .returned (.int .u8 (u : Nat)) ∧ w = w'))
    (PMK : Hid (∀ w, Calls Try.prog 15 #[.int .u8 (a : Nat), .int .i64 (m + k)] w fun e w' => e = .returned (.int .u8 (u : Nat)) ∧ Below w.heap.size w w'))
    (PG : Hid (∀ w, Calls Try.prog 15 #[.int .u8 (a : Nat), .int .i64 (-m)] w fun e w' => e = .returned (.int .u8 (v : Nat)) ∧ Below w.heap.size w w'))
    (PI : Hid (∀ w, Calls Try.prog 15 #[.int .u8 (i : Nat), .int .i64 m] w fun e w' => e = .returned (.int .u8 (v : Nat)) ∧ Below w.heap.size w w')) :
    Calls Try.prog 5 #[.agg #[.int .u8 a, .int .i64 n, .int .i16 m, .int .i16 k]] w fun e w' => e = .returned (.bool true) ∧ Below w.heap.size w w' := by
  have hsz : w.heap.size < (w.alloc (.cells #[.int .u8 a, .int .i64 n, .int .i16 m, .int .i16 k] 31)).heap.size := by rw [World.size_alloc]; omega
  have hb0 : Below w.heap.size w (w.alloc (.cells #[.int .u8 a, .int .i64 n, .int .i16 m, .int .i16 k] 31)) := (Below.refl _ _).alloc (Nat.le_refl _) _
  have c0 := World.cell?_alloc_new w #[.int .u8 a, .int .i64 n, .int .i16 m, .int .i16 k] 31 0
  have c1 := World.cell?_alloc_new w #[.int .u8 a, .int .i64 n, .int .i16 m, .int .i16 k] 31 1
  have c2 := World.cell?_alloc_new w #[.int .u8 a, .int .i64 n, .int .i16 m, .int .i16 k] 31 2
  have c3 := World.cell?_alloc_new w #[.int .u8 a, .int .i64 n, .int .i16 m, .int .i16 k] 31 3
  rcases ht with ⟨ht1, ht2⟩ | ⟨ht1, ht2⟩
  all_goals
    go_enter Try.func5, Try.ntmps5
    go_wp2
    generalize w.alloc (.cells #[.int .u8 a, .int .i64 n, .int .i16 m, .int .i16 k] 31) = w0 at c0 c1 c2 c3 hb0 hsz ⊢
    go_quiet (fail)
    go_wp2_with fail
    refine (P256.out _).mono ?_
    rintro e w' ⟨rfl, hb⟩
    have hb0 := (drewN_after hb0 _).trans (hb.mono hb0.size)
    clear hb
    go_wp2_with fail
    refine (P0.out _).mono ?_
    rintro e w' ⟨rfl, hb⟩
    have hb0 := hb0.trans (hb.mono hb0.size)
    clear hb
    go_wp2_with fail
    refine (IA.out _).mono ?_
    rintro e w' ⟨rfl, hb⟩
    have hb0 := hb0.trans (hb.mono hb0.size)
    clear hb
    go_wp2_with fail
    refine (RI.out _).mono ?_
    rintro e w' ⟨rfl, rfl⟩
    go_wp2_with fail
    refine (PS.out _).mono ?_
    rintro e w' ⟨rfl, hb⟩
    have hb0 := hb0.trans (hb.mono hb0.size)
    clear hb
    go_wp2_with fail
    refine (RP.out _).mono ?_
    rintro e w' ⟨rfl, rfl⟩
    go_wp2_with fail
    refine (AW.out _).mono ?_
    rintro e w' ⟨rfl, hb⟩
    have hb0 := hb0.trans (hb.mono hb0.size)
    clear hb
    go_wp2_with fail
    refine (PN.out _).mono ?_
    rintro e w' ⟨rfl, hb⟩
    have hb0 := hb0.trans (hb.mono hb0.size)
    clear hb
    go_wp2_with fail
    refine (PR.out _).mono ?_
    rintro e w' ⟨rfl, hb⟩
    have hb0 := hb0.trans (hb.mono hb0.size)
    clear hb
    go_wp2_with fail
    refine (PM.out _).mono ?_
    rintro e w' ⟨rfl, hb⟩
    have hb0 := hb0.trans (hb.mono hb0.size)
    clear hb
    go_wp2_with fail
    refine (PK.out _).mono ?_
    rintro e w' ⟨rfl, hb⟩
    have hb0 := hb0.trans (hb.mono hb0.size)
    clear hb
    go_wp2_with fail
    refine (MU.out _).mono ?_
    rintro e w' ⟨rfl, rfl⟩
    go_wp2_with fail
    refine (PMK.out _).mono ?_
    rintro e w' ⟨rfl, hb⟩
    have hb0 := hb0.trans (hb.mono hb0.size)
    clear hb
    go_wp2_with fail
    refine (PG.out _).mono ?_
    rintro e w' ⟨rfl, hb⟩
    have hb0 := hb0.trans (hb.mono hb0.size)
    clear hb
    go_wp2_with fail
    refine (IA.out _).mono ?_
    rintro e w' ⟨rfl, hb⟩
    have hb0 := hb0.trans (hb.mono hb0.size)
    clear hb
    go_wp2_with fail
    refine (PI.out _).mono ?_
    rintro e w' ⟨rfl, hb⟩
    have hb0 := hb0.trans (hb.mono hb0.size)
    clear hb
    go_wp2
    go_ret
    exact ⟨rfl, hb0⟩

theorem gfPowers_nat (a : Nat) (n m k : Int) (w : World) (ha : a < 256) (hn : -9223372036854775808 ≤ n ∧ n ≤ 9223372036854775807) (hm : -32768 ≤ m ∧ m ≤ 32767) (hk : -32768 ≤ k ∧ k ≤ 32767) :
    Calls Try.prog 5 #[.agg #[.int .u8 a, .int .i64 n, .int .i16 m, .int .i16 k]] w fun e w' => e = .returned (.bool true) ∧ Below w.heap.size w w' := by
  have hs : ∃ s : Nat, s < 1000 ∧ ((0 ≤ n.tmod 1000 ∧ n.tmod 1000 = (s : Int)) ∨ (n.tmod 1000 < 0 ∧ -(n.tmod 1000) = (s : Int))) := by
    refine ⟨(n.tmod 1000).natAbs, ?_, ?_⟩
    · rw [Int.natAbs_tmod]; exact Nat.mod_lt _ (by decide)
    · omega
  obtain ⟨s, hs, ht⟩ := hs
  have P256 : Hid (∀ w, Calls Try.prog 15 #[.int .u8 (a : Nat), .int .i64 256] w fun e w' => e = .returned (.int .u8 (a : Nat)) ∧ Below w.heap.size w w') := Lib.hid fun w => pow_raw a a 256 w ha (by omega) (Lib.hid (gpw_256 a ha))
  have P0 : Hid (∀ w, Calls Try.prog 15 #[.int .u8 (a : Nat), .int .i64 0] w fun e w' => e = .returned (.int .u8 (1 : Nat)) ∧ Below w.heap.size w w') := Lib.hid fun w => pow_raw a 1 0 w ha (by omega) (Lib.hid (gpw_0 a ha))
  have PS : Hid (∀ w, Calls Try.prog 15 #[.int .u8 (a : Nat), .int .i64 (s : Int)] w fun e w' => e = .returned (.int .u8 (gpow a s : Nat)) ∧ Below w.heap.size w w') := Lib.hid fun w => pow_raw a _ s w ha (by omega) (Lib.hid (gpw_small a s ha))
  have RP := Lib.hid (fun w => r02pow_any a s _ w ha hs (Lib.hid rfl))
  have IA := Lib.hid (fun w => inv_any a w ha)
  have RI := Lib.hid (fun w => r02inv_any a _ w ha (Lib.hid rfl))
  by_cases h0 : a = 0
  · subst h0
    refine gfPowers_zero 0 (ginv 0) s (gpow 0 s) 0 0 0 0 0 n m k w ha (ginv_lt' 0 ha) ha ha ha ha ha hs (gpow_lt _ _ ha) hn.1 hn.2 hm.1 hm.2 hk.1 hk.2 ht rfl (by cases n == 0 <;> simp) P256 P0 IA RI PS RP (Lib.hid awake02) (Lib.hid fun hne w => pow_raw 0 0 n w ha hn (Lib.hid ?_))
    unfold gpw
    rw [if_pos rfl, if_neg (by rw [beq_eq_false_iff_ne] at hne; exact hne)]
  · refine gfPowers_more a (ginv a) s (gpow a s) (gpw a n) (gpw a m) (gpw a k) (gpw a (m + k)) (gpw a (-m)) n m k w ha (ginv_lt' a ha) (gpw_lt _ _ ha) (gpw_lt _ _ ha) (gpw_lt _ _ ha) (gpw_lt _ _ ha) (gpw_lt _ _ ha) hs (gpow_lt _ _ ha)
      hn.1 hn.2 hm.1 hm.2 hk.1 hk.2 ht (by rw [beq_eq_false_iff_ne]; omega) P256 P0 IA RI PS RP (Lib.hid awake02) ?_ ?_ ?_ ?_ ?_ ?_ ?_ ?_
    · exact Lib.hid fun w => pow_raw a _ n w ha hn (Lib.hid rfl)
    · exact Lib.hid fun w => pow_raw a _ _ w ha (by have := Int.tmod_eq_emod (a := n) (b := 255); have h2 : (255 : Int).natAbs = 255 := rfl; rw [this]; split <;> omega) (Lib.hid (gpw_rem a n h0))
    · exact Lib.hid fun w => pow_raw a _ m w ha (by omega) (Lib.hid rfl)
    · exact Lib.hid fun w => pow_raw a _ k w ha (by omega) (Lib.hid rfl)
    · refine Lib.hid fun w => ?_
      have := mul_any (gpw a m) (gpw a k) w (gpw_lt _ _ ha) (gpw_lt _ _ ha)
      rwa [gpw_add a m k ha h0] at this
    · exact Lib.hid fun w => pow_raw a _ (m + k) w ha (by omega) (Lib.hid rfl)
    · exact Lib.hid fun w => pow_raw a _ (-m) w ha (by omega) (Lib.hid rfl)
    · exact Lib.hid fun w => pow_raw (ginv a) _ m w (ginv_lt' a ha) (by omega) (Lib.hid (gpw_neg a m ha h0).symm)
section
variable {H : Type} {enc : TypeId × Value → H}
theorem four_fields : ∃ f0 f1 f2 f3, Try.prog.underlying 31 = some (.struct #[f0, f1, f2, f3]) ∧ oneCellFields Try.prog #[f0, f1, f2, f3] = true ∧ f0.type = 5 ∧ f1.type = 3 ∧ f2.type = 29 ∧ f3.type = 29 :=
  ⟨_, _, _, _, Try.underlying31, by kernel_rfl, rfl, rfl, rfl, rfl⟩
theorem open_four {w : World} {r : Reach} {b0 : Nat} {v : Value} {d : DataW H} {p : List MemPlace} (hok : Value.okWide Try.prog w r b0 31 v) (h : DataW.Trod enc Try.prog w 0 (fun _ => true) true 31 v d p) :
    ∃ a n m k : Int, v = .agg #[.int .u8 a, .int .i64 n, .int .i16 m, .int .i16 k] ∧ (Lit.int .u8 a).wf = true ∧ (Lit.int .i64 n).wf = true ∧ (Lit.int .i16 m).wf = true ∧ (Lit.int .i16 k).wf = true := by
  obtain ⟨f0, f1, f2, f3, hs, hone, t0, t1, t2, t3⟩ := four_fields
  obtain ⟨v0, v1, v2, v3, y0, y1, y2, y3, n, rfl, _, _, h0, h1, h2, h3⟩ := Joins.open_agg4 hs hone (by kernel_rfl) hok h
  rw [t0] at h0
  rw [t1] at h1
  rw [t2] at h2
  rw [t3] at h3
  obtain ⟨A, rfl, wA⟩ := field_int Try.underlying5 h0
  obtain ⟨N, rfl, wN⟩ := field_int Try.underlying3 h1
  obtain ⟨M, rfl, wM⟩ := field_int Try.underlying29 h2
  obtain ⟨K, rfl, wK⟩ := field_int Try.underlying29 h3
  exact ⟨A, N, M, K, rfl, wA, wN, wM, wK⟩
end
theorem gfPowers_walk {H : Type} {enc : TypeId × Value → H} {r : Reach} {b0 : Nat} (v : Value) (d : DataW H) (p : List MemPlace) (w : World)
    (hok : Value.okWide Try.prog w r b0 31 v) (h : DataW.Trod enc Try.prog w 0 (fun _ => true) true 31 v d p) :
    Calls Try.prog 5 #[v] w fun e w' => e = .returned (.bool true) ∧ Below w.heap.size w w' := by
  obtain ⟨a, n, m, k, rfl, wA, wN, wM, wK⟩ := open_four hok h
  obtain ⟨a, rfl, ha⟩ := u8_nat wA
  exact gfPowers_nat a n m k w ha (bounds_i64 wN) (by have := bounds_i16 wM; omega) (by have := bounds_i16 wK; omega)
end Go.Proofs.Ytgojeonpnjjkeaa
