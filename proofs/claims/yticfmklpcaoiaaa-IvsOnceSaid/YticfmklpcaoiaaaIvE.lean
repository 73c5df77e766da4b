/- A call of both rows: the contract of 'do'. -/
import Derived.Test.YticfmklpcaoiaaaIvD
namespace Go.Proofs.Yticfmklpcaoiaaa
open Go.RowKit Go.Deep
set_option linter.unusedVariables false

/-- What a call leaves of both rows; which number was given out (-1: none). -/
def Did (r x : Nat) (n t m : Int) (w : World) (e : Ending) (w' : World) : Prop :=
  ∃ k n' t', e = .returned (.tuple #[.int .i64 k, .bool true]) ∧ ((k = -1 ∧ n' = n) ∨ (k = n ∧ n' = n + 1 ∧ n < m)) ∧ Tri w' r n' t' m ∧ Tri w' x n' t' m ∧ Chg (fun i => i = r ∨ i = x) w w'

theorem S_r {r x : Nat} : (fun i => i = r ∨ i = x) r := .inl rfl
theorem S_x {r x : Nat} : (fun i => i = r ∨ i = x) x := .inr rfl

set_option maxRecDepth 100000 in
set_option maxHeartbeats 1000000 in
theorem do_raise_ok (r x : Nat) (hne : Hid (r ≠ x)) (w : World) (n t m K N : Int) (R : Tri w r n t m) (X : Tri w x n t m) (hK : (K == 4) = true) (h1 : t < N) (h2 : N ≤ m) :
    Calls Try.prog 10 #[.pointer (some ⟨r, 0, none⟩), .pointer (some ⟨x, 0, none⟩), .agg #[.int .i64 K, .int .i64 N]] w (Did r x n t m w) := by
  have x1 := X.c1
  have x2 := X.c2
  have x3 := X.f1
  have xl := X.lt
  go_enter Try.func10, Try.ntmps10
  go_wp2
  go_quiet (fail)
  go_wp2_with fail
  have R1 := ((R.alloc (.cells #[.int .i64 K, .int .i64 N] 35)).drewN nq).setOther (p := ⟨x, 1, none⟩) hne.out (.int .i64 N)
  have X1 := ((X.alloc (.cells #[.int .i64 K, .int .i64 N] 35)).drewN nq).top N h1 h2
  have C1 := ((((Chg.refl (fun i => i = r ∨ i = x) w).alloc (.cells #[.int .i64 K, .int .i64 N] 35)).drewN nq).setCell (p := ⟨x, 1, none⟩) (.inl S_x) (.int .i64 N))
  generalize (((w.alloc (.cells #[.int .i64 K, .int .i64 N] 35)).drewN nq).setCell ⟨x, 1, none⟩ (.int .i64 N)) = w1 at R1 X1 C1 ⊢
  refine (raise_ok r w1 n t m N R1 h1 h2).mono ?_
  rintro e w2 ⟨rfl, R2, g2⟩
  go_wp2
  go_ret2
  exact ⟨-1, n, N, rfl, .inl ⟨rfl, rfl⟩, R2, X1.only g2 (fun e => hne.out e.symm), C1.trans (.of_only g2 S_r)⟩

set_option maxRecDepth 100000 in
set_option maxHeartbeats 1000000 in
theorem do_raise_no (r x : Nat) (hne : Hid (r ≠ x)) (w : World) (n t m K N : Int) (R : Tri w r n t m) (X : Tri w x n t m) (hK : (K == 4) = true) (h : ¬ (t < N ∧ N ≤ m)) :
    Calls Try.prog 10 #[.pointer (some ⟨r, 0, none⟩), .pointer (some ⟨x, 0, none⟩), .agg #[.int .i64 K, .int .i64 N]] w (Did r x n t m w) := by
  have x1 := X.c1
  have x2 := X.c2
  have xl := X.lt
  have hor : N ≤ t ∨ (t < N ∧ m < N) := by omega
  have H := Lib.hid h
  clear h
  rcases hor with h1 | ⟨h1, h2⟩
  all_goals
    go_enter Try.func10, Try.ntmps10
    go_wp2
    go_quiet (fail)
    go_wp2_with fail
    have R1 := ((R.alloc (.cells #[.int .i64 K, .int .i64 N] 35)).drewN nq)
    have X1 := ((X.alloc (.cells #[.int .i64 K, .int .i64 N] 35)).drewN nq)
    have C1 := (((Chg.refl (fun i => i = r ∨ i = x) w).alloc (.cells #[.int .i64 K, .int .i64 N] 35)).drewN nq)
    generalize ((w.alloc (.cells #[.int .i64 K, .int .i64 N] 35)).drewN nq) = w1 at R1 X1 C1 ⊢
    refine (raise_no r w1 n t m N R1 H.out).mono ?_
    rintro e w2 ⟨rfl, b2⟩
    go_wp2
    go_ret2
    exact ⟨-1, n, t, rfl, .inl ⟨rfl, rfl⟩, R1.below b2, X1.below b2, C1.trans (.of_below b2)⟩

set_option maxRecDepth 100000 in
set_option maxHeartbeats 1000000 in
theorem do_take (r x : Nat) (hne : Hid (r ≠ x)) (w : World) (n t m K N : Int) (R : Tri w r n t m) (X : Tri w x n t m) (hK : (K == 4) = false) (h1 : n < t) :
    Calls Try.prog 10 #[.pointer (some ⟨r, 0, none⟩), .pointer (some ⟨x, 0, none⟩), .agg #[.int .i64 K, .int .i64 N]] w (Did r x n t m w) := by
  have hnm : n < m := by have := R.tm; omega
  go_enter Try.func10, Try.ntmps10
  go_wp2_with fail
  have R1 := (R.alloc (.cells #[.int .i64 K, .int .i64 N] 35))
  have X1 := (X.alloc (.cells #[.int .i64 K, .int .i64 N] 35))
  have C1 := ((Chg.refl (fun i => i = r ∨ i = x) w).alloc (.cells #[.int .i64 K, .int .i64 N] 35))
  generalize (w.alloc (.cells #[.int .i64 K, .int .i64 N] 35)) = w1 at R1 X1 C1 ⊢
  refine (need_no r w1 n t m R1 (.inl h1)).mono ?_
  rintro e w2 ⟨rfl, b2⟩
  have R2 := R1.below b2
  have X2 := X1.below b2
  have C2 := C1.trans (.of_below b2)
  go_wp2_with fail
  refine (r20need_no x w2 n t m X2 (.inl h1)).mono ?_
  rintro e w' ⟨rfl, d, rfl⟩
  go_wp2_with fail
  refine (take_ok r _ n t m (R2.drewN d) h1).mono ?_
  rintro e w3 ⟨rfl, R3, g3⟩
  have X3 := (X2.drewN d).only g3 (fun e => hne.out e.symm)
  have C3 := (C2.drewN d).trans (.of_only g3 S_r)
  go_wp2_with fail
  refine (r20take_ok x _ n t m X3 h1).mono ?_
  rintro e w4 ⟨rfl, X4, g4⟩
  have R4 := R3.only g4 hne.out
  have C4 := C3.trans (.of_only g4 S_x)
  go_wp2
  go_ret2
  exact ⟨n, n + 1, t, by simp, .inr ⟨rfl, rfl, hnm⟩, R4, X4, C4⟩

set_option maxRecDepth 100000 in
set_option maxHeartbeats 1000000 in
theorem do_end (r x : Nat) (hne : Hid (r ≠ x)) (w : World) (n t m K N : Int) (R : Tri w r n t m) (X : Tri w x n t m) (hK : (K == 4) = false) (h1 : m ≤ n) :
    Calls Try.prog 10 #[.pointer (some ⟨r, 0, none⟩), .pointer (some ⟨x, 0, none⟩), .agg #[.int .i64 K, .int .i64 N]] w (Did r x n t m w) := by
  have htm : Hid (t = m) := Lib.hid (by have := R.nt; have := R.tm; omega)
  have htn : t ≤ n := by have := R.tm; omega
  go_enter Try.func10, Try.ntmps10
  go_wp2_with fail
  have R1 := (R.alloc (.cells #[.int .i64 K, .int .i64 N] 35))
  have X1 := (X.alloc (.cells #[.int .i64 K, .int .i64 N] 35))
  have C1 := ((Chg.refl (fun i => i = r ∨ i = x) w).alloc (.cells #[.int .i64 K, .int .i64 N] 35))
  generalize (w.alloc (.cells #[.int .i64 K, .int .i64 N] 35)) = w1 at R1 X1 C1 ⊢
  refine (need_no r w1 n t m R1 (.inr htm.out)).mono ?_
  rintro e w2 ⟨rfl, b2⟩
  have R2 := R1.below b2
  have X2 := X1.below b2
  have C2 := C1.trans (.of_below b2)
  go_wp2_with fail
  refine (r20need_no x w2 n t m X2 (.inr htm.out)).mono ?_
  rintro e w' ⟨rfl, d, rfl⟩
  go_wp2_with fail
  refine (take_no r _ n t m (R2.drewN d) htn 16 (Lib.hid (askE_end h1)) rfl).mono ?_
  rintro e w3 ⟨rfl, b3⟩
  have R3 := (R2.drewN d).below b3
  have X3 := (X2.drewN d).below b3
  have C3 := (C2.drewN d).trans (.of_below b3)
  go_wp2_with fail
  refine (r20take_end x _ n t m X3 h1).mono ?_
  rintro e w' ⟨rfl, d4, rfl⟩
  go_wp2
  go_ret2
  exact ⟨-1, n, t, rfl, .inl ⟨rfl, rfl⟩, R3.drewN d4, X3.drewN d4, C3.drewN d4⟩

set_option maxRecDepth 100000 in
set_option maxHeartbeats 1000000 in
theorem do_state (r x : Nat) (hne : Hid (r ≠ x)) (w : World) (n t m K N : Int) (R : Tri w r n t m) (X : Tri w x n t m) (hK : (K == 4) = false) (hK3 : (K != 3) = false) (h1 : t ≤ n) (h2 : n < m) :
    Calls Try.prog 10 #[.pointer (some ⟨r, 0, none⟩), .pointer (some ⟨x, 0, none⟩), .agg #[.int .i64 K, .int .i64 N]] w (Did r x n t m w) := by
  have htm : t < m := by omega
  have HN := Lib.hid (fun w0 (h : Tri w0 r n t m) => need_yes r w0 n t m h h1 htm)
  have HM := Lib.hid (fun w0 (h : Tri w0 x n t m) => r20need_yes x w0 n t m h h1 htm)
  generalize needV t m = V at HN HM
  have hcell := World.cell?_alloc_new w #[.int .i64 K, .int .i64 N] 35 0
  go_enter Try.func10, Try.ntmps10
  go_wp2_with fail
  have R1 := (R.alloc (.cells #[.int .i64 K, .int .i64 N] 35))
  have X1 := (X.alloc (.cells #[.int .i64 K, .int .i64 N] 35))
  have C1 := ((Chg.refl (fun i => i = r ∨ i = x) w).alloc (.cells #[.int .i64 K, .int .i64 N] 35))
  have hsz : w.heap.size < (w.alloc (.cells #[.int .i64 K, .int .i64 N] 35)).heap.size := by simp
  generalize (w.alloc (.cells #[.int .i64 K, .int .i64 N] 35)) = w1 at R1 X1 C1 hcell hsz ⊢
  refine (HN.out w1 R1).mono ?_
  rintro e w2 ⟨rfl, b2⟩
  have R2 := R1.below b2
  have X2 := X1.below b2
  have C2 := C1.trans (.of_below b2)
  have hc2 : w2.cell? ⟨w.heap.size, 0, none⟩ = some (.int .i64 K) := (b2.cell (p := ⟨w.heap.size, 0, none⟩) hsz).trans hcell
  go_wp2_with fail
  refine (HM.out w2 X2).mono ?_
  rintro e w' ⟨rfl, d, rfl⟩
  go_wp2_with fail
  refine (take_no r _ n t m (R2.drewN d) h1 14 (Lib.hid (askE_state h2 h1)) rfl).mono ?_
  rintro e w3 ⟨rfl, b3⟩
  have R3 := (R2.drewN d).below b3
  have X3 := (X2.drewN d).below b3
  have C3 := (C2.drewN d).trans (.of_below b3)
  go_wp2_with fail
  refine (r20take_state x _ n t m X3 h1 h2).mono ?_
  rintro e w' ⟨rfl, d4, rfl⟩
  go_wp2
  go_ret2
  exact ⟨-1, n, t, rfl, .inl ⟨rfl, rfl⟩, R3.drewN d4, X3.drewN d4, C3.drewN d4⟩

set_option maxRecDepth 100000 in
set_option maxHeartbeats 1000000 in
theorem do_both (r x : Nat) (hne : Hid (r ≠ x)) (w : World) (n t m K N : Int) (R : Tri w r n t m) (X : Tri w x n t m) (hK : (K == 4) = false) (hK3 : (K != 3) = true) (h1 : t ≤ n) (h2 : n < m) :
    Calls Try.prog 10 #[.pointer (some ⟨r, 0, none⟩), .pointer (some ⟨x, 0, none⟩), .agg #[.int .i64 K, .int .i64 N]] w (Did r x n t m w) := by
  have htm : t < m := by omega
  have hv1 := needV_gt htm
  have hv2 := needV_le htm
  have HN := Lib.hid (fun w0 (h : Tri w0 r n t m) => need_yes r w0 n t m h h1 htm)
  have HM := Lib.hid (fun w0 (h : Tri w0 x n t m) => r20need_yes x w0 n t m h h1 htm)
  generalize needV t m = V at HN HM hv1 hv2
  have hcell := World.cell?_alloc_new w #[.int .i64 K, .int .i64 N] 35 0
  have hnt := R.nt
  go_enter Try.func10, Try.ntmps10
  go_wp2_with fail
  have R1 := (R.alloc (.cells #[.int .i64 K, .int .i64 N] 35))
  have X1 := (X.alloc (.cells #[.int .i64 K, .int .i64 N] 35))
  have C1 := ((Chg.refl (fun i => i = r ∨ i = x) w).alloc (.cells #[.int .i64 K, .int .i64 N] 35))
  have hsz : w.heap.size < (w.alloc (.cells #[.int .i64 K, .int .i64 N] 35)).heap.size := by simp
  generalize (w.alloc (.cells #[.int .i64 K, .int .i64 N] 35)) = w1 at R1 X1 C1 hcell hsz ⊢
  refine (HN.out w1 R1).mono ?_
  rintro e w2 ⟨rfl, b2⟩
  have R2 := R1.below b2
  have X2 := X1.below b2
  have C2 := C1.trans (.of_below b2)
  have hc2 : w2.cell? ⟨w.heap.size, 0, none⟩ = some (.int .i64 K) := (b2.cell (p := ⟨w.heap.size, 0, none⟩) hsz).trans hcell
  go_wp2_with fail
  refine (HM.out w2 X2).mono ?_
  rintro e w' ⟨rfl, d, rfl⟩
  go_wp2_with fail
  refine (raise_ok r _ n t m V (R2.drewN d) hv1 hv2).mono ?_
  rintro e w3 ⟨rfl, R3, g3⟩
  have X3 := (X2.drewN d).only g3 (fun e => hne.out e.symm)
  have C3 := (C2.drewN d).trans (.of_only g3 S_r)
  have y1 := X3.c1
  have y3 := X3.f1
  go_wp2_with fail
  have X4 := X3.top V hv1 hv2
  have R4 := R3.setOther (p := ⟨x, 1, none⟩) hne.out (.int .i64 V)
  have C4 := C3.setCell (p := ⟨x, 1, none⟩) (.inl S_x) (.int .i64 V)
  generalize w3.setCell ⟨x, 1, none⟩ (.int .i64 V) = w4 at X4 R4 C4 ⊢
  refine (take_ok r _ n V m R4 (by omega)).mono ?_
  rintro e w5 ⟨rfl, R5, g5⟩
  have X5 := X4.only g5 (fun e => hne.out e.symm)
  have C5 := C4.trans (.of_only g5 S_r)
  go_wp2_with fail
  refine (r20take_ok x _ n V m X5 (by omega)).mono ?_
  rintro e w6 ⟨rfl, X6, g6⟩
  have R6 := R5.only g6 hne.out
  have C6 := C5.trans (.of_only g6 S_x)
  go_wp2
  go_ret2
  exact ⟨n, n + 1, V, by simp, .inr ⟨rfl, rfl, h2⟩, R6, X6, C6⟩

theorem do_any (r x : Nat) (hne : r ≠ x) (w : World) (n t m K N : Int) (R : Tri w r n t m) (X : Tri w x n t m) :
    Calls Try.prog 10 #[.pointer (some ⟨r, 0, none⟩), .pointer (some ⟨x, 0, none⟩), .agg #[.int .i64 K, .int .i64 N]] w (Did r x n t m w) := by
  by_cases hK : K = 4
  · have hK' : (K == 4) = true := by rw [beq_iff_eq]; exact hK
    by_cases h : t < N ∧ N ≤ m
    · exact do_raise_ok r x (Lib.hid hne) w n t m K N R X hK' h.1 h.2
    · exact do_raise_no r x (Lib.hid hne) w n t m K N R X hK' h
  · have hK' : (K == 4) = false := by rw [beq_eq_false_iff_ne]; exact hK
    by_cases h : n < t
    · exact do_take r x (Lib.hid hne) w n t m K N R X hK' h
    by_cases hm : n < m
    · by_cases h3 : K = 3
      · exact do_state r x (Lib.hid hne) w n t m K N R X hK' (by rw [bne_eq_false_iff_eq]; exact h3) (by omega) hm
      · exact do_both r x (Lib.hid hne) w n t m K N R X hK' (by rw [bne_iff_ne]; exact h3) (by omega) hm
    · exact do_end r x (Lib.hid hne) w n t m K N R X hK' (by omega)
end Go.Proofs.Yticfmklpcaoiaaa
