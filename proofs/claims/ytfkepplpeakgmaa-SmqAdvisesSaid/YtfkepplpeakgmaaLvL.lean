/- Package level: New. -/
import Derived.Test.YtfkepplpeakgmaaLvK
namespace Go.Proofs.Ytfkepplpeakgmaa
open Go.RowKit Go.Deep
set_option linter.unusedVariables false
set_option linter.unusedSimpArgs false
/-- A new queue's memory behind k rounds of the first loop and m of the second one. -/
def nF (n k m : Nat) : Nat → Int := fun j => if j = 0 then (n : Int) else if (1 ≤ j ∧ j < 1 + k) ∨ (17 ≤ j ∧ j < 17 + k) ∨ (33 ≤ j ∧ j < 33 + k) ∨ (49 ≤ j ∧ j < 49 + m) ∨ (53 ≤ j ∧ j < 53 + m) then -1 else 0
theorem nF_k (n k : Nat) (hk : k < 16) : su (su (su (nF n k 0) (1 + k) (-1)) (17 + k) (-1)) (33 + k) (-1) = nF n (k + 1) 0 := by
  funext j
  unfold su nF
  by_cases h0 : j = 0
  · subst h0
    rw [if_neg (by omega), if_neg (by omega), if_neg (by omega)]
    rfl
  · by_cases h1 : j = 33 + k
    · rw [if_pos h1, if_neg h0, if_pos (by omega)]
    · rw [if_neg h1]
      by_cases h2 : j = 17 + k
      · rw [if_pos h2, if_neg h0, if_pos (by omega)]
      · rw [if_neg h2]
        by_cases h3 : j = 1 + k
        · rw [if_pos h3, if_neg h0, if_pos (by omega)]
        · rw [if_neg h3, if_neg h0, if_neg h0]
          by_cases h4 : (1 ≤ j ∧ j < 1 + k) ∨ (17 ≤ j ∧ j < 17 + k) ∨ (33 ≤ j ∧ j < 33 + k) ∨ (49 ≤ j ∧ j < 49 + 0) ∨ (53 ≤ j ∧ j < 53 + 0)
          · rw [if_pos h4, if_pos (by omega)]
          · rw [if_neg h4, if_neg (by omega)]
theorem nF_m (n m : Nat) (hm : m < 4) : su (su (nF n 16 m) (49 + m) (-1)) (53 + m) (-1) = nF n 16 (m + 1) := by
  funext j
  unfold su nF
  by_cases h0 : j = 0
  · subst h0
    rw [if_neg (by omega), if_neg (by omega)]
    rfl
  · by_cases h1 : j = 53 + m
    · rw [if_pos h1, if_neg h0, if_pos (by omega)]
    · rw [if_neg h1]
      by_cases h2 : j = 49 + m
      · rw [if_pos h2, if_neg h0, if_pos (by omega)]
      · rw [if_neg h2, if_neg h0, if_neg h0]
        by_cases h4 : (1 ≤ j ∧ j < 1 + 16) ∨ (17 ≤ j ∧ j < 17 + 16) ∨ (33 ≤ j ∧ j < 33 + 16) ∨ (49 ≤ j ∧ j < 49 + m) ∨ (53 ≤ j ∧ j < 53 + m)
        · rw [if_pos h4, if_pos (by omega)]
        · rw [if_neg h4, if_neg (by omega)]
theorem nF_ok (n : Nat) (h1 : 1 ≤ n) (h2 : n ≤ 16) : QOk (nF n 16 4) n (fun _ => []) := by
  refine ⟨rfl, h1, h2, fun l hl => ⟨trivial, ?_, ?_, List.nodup_nil⟩, fun l hl x hx => (by cases hx), fun x hx _ => ?_⟩
  · show nF n 16 4 (49 + l) = -1
    unfold nF
    rw [if_neg (by omega), if_pos (by omega)]
  · show nF n 16 4 (53 + l) = -1
    unfold nF
    rw [if_neg (by omega), if_pos (by omega)]
  · unfold nF
    rw [if_neg (by omega), if_pos (by omega)]
def q0A (n : Int) : Array Value := #[.int .i64 n, .int .i64 0, .int .i64 0, .int .i64 0, .int .i64 0, .int .i64 0, .int .i64 0, .int .i64 0, .int .i64 0, .int .i64 0, .int .i64 0, .int .i64 0, .int .i64 0, .int .i64 0, .int .i64 0, .int .i64 0, .int .i64 0, .int .i64 0, .int .i64 0, .int .i64 0, .int .i64 0, .int .i64 0, .int .i64 0, .int .i64 0, .int .i64 0, .int .i64 0, .int .i64 0, .int .i64 0, .int .i64 0, .int .i64 0, .int .i64 0, .int .i64 0, .int .i64 0, .int .i64 0, .int .i64 0, .int .i64 0, .int .i64 0, .int .i64 0, .int .i64 0, .int .i64 0, .int .i64 0, .int .i64 0, .int .i64 0, .int .i64 0, .int .i64 0, .int .i64 0, .int .i64 0, .int .i64 0, .int .i64 0, .int .i64 0, .int .i64 0, .int .i64 0, .int .i64 0, .int .i64 0, .int .i64 0, .int .i64 0, .int .i64 0]
set_option maxRecDepth 100000 in
theorem q0A_eq (n : Int) : q0A n = #[.int .i64 n] ++ Array.replicate 56 (.int .i64 0) := by kernel_rfl
set_option maxRecDepth 100000 in
theorem q0_at (n : Nat) (w : World) : ∃ w1 g, Hid (w.alloc (.cells (q0A n) 71) = w1) ∧ Hid (w.heap.size = g) ∧ Hid (QAt w1 g (nF n 0 0)) ∧ Hid (Below w.heap.size w w1) :=
  ⟨_, _, Lib.hid rfl, Lib.hid rfl, Lib.hid (by
    have hs : (q0A (n : Int)).size = 57 := rfl
    have := World.rowIs_alloc w (q0A (n : Int)) 71 (fun j => .int .i64 (nF n 0 0 j)) (fun i hi => by
      rw [q0A_eq]
      unfold nF
      by_cases h0 : i = 0
      · subst h0; simp
      · rw [if_neg h0, if_neg (by omega), Array.getElem?_append_right (by simp; omega)]
        rw [hs] at hi
        rw [Array.getElem?_replicate, if_pos (by simp; omega)])
    rw [hs] at this
    exact this), Lib.hid ((Below.refl _ _).alloc (Nat.le_refl _) _)⟩
set_option maxRecDepth 100000 in
set_option maxHeartbeats 8000000 in
theorem newQ_ok (n : Nat) (w : World) (h1 : 1 ≤ n) (h2 : n ≤ 16) : Calls Try.prog 19 #[.int .i64 (n : Int)] w fun e w' => ∃ g, e = .returned (.tuple #[.pointer (some ⟨g, 0, none⟩), .int .i64 0]) ∧ QR w' g n (fun _ => []) ∧ w.heap.size ≤ g ∧ Below w.heap.size w w' := by
  obtain ⟨w1, g, HW, HG, HQ, HB⟩ := q0_at n w
  have HO := Lib.hid (nF_ok n h1 h2)
  have hg : w.heap.size ≤ g := Nat.le_of_eq HG.out
  have hn1 : ¬ (n : Int) < 1 := by omega
  have hn2 : ¬ (16 : Int) < (n : Int) := by omega
  unfold q0A at HW
  go_enter Try.func19, Try.ntmps19
  go_upto_region 4 with fail
  rw [HW.out, HG.out]
  clear HW HG
  go_wp2_with fail
  go_loopw [16, 5] (fun x s5 wi => ∃ k : Nat, x = .int .i64 (k : Int) ∧ k ≤ 16 ∧ Hid (QAt wi g (nF n k 0)) ∧ Hid (Below w.heap.size w wi)) (fun x _ _ => 16 - (intOf x).toNat)
  case atStart => exact ⟨0, rfl, by omega, HQ, HB⟩
  case round =>
    obtain ⟨k, rfl, hk, HQ1, HB1⟩ := hrel
    clear HQ HB
    by_cases hlt : k < 16
    · have hli : (k : Int) < 16 := by omega
      have HQ2 := Lib.hid HQ1.out.drew
      have HB2 := Lib.hid HB1.out.drew
      have HN := Lib.hid (nF_k n k hlt)
      clear HQ1 HB1
      go_upto_region 7 with fail
      refine wp_region_lin_all (S := (fun _ => True)) [(0, true), (1, true), (2, true), (3, true), (4, true), (5, true), (6, true), (7, true), (8, true), (10, true), (11, true), (14, true), (15, true), (9, false), (12, true), (13, false), (16, true), (17, false)] (by kernel_rfl) (by kernel_rfl) rfl (by kernel_rfl) ?_ (fun hHeld => ?_)
      · (try dsimp only); try exact trivial
      generalize World.drew wr = w5 at hHeld HQ2 HB2 ⊢
      refine wpL_calm (o := { dst := some 19, op := Go.Op.move (Go.Operand.tmp 4), type := 48, pos := "level.go:25", after := #[], guard := none }) (v := ?_) rfl (Or.inl ⟨by rfl, ?_⟩) ?_; rotate_left; (focus (intro w hSw; (try dsimp only at hSw); go_simp; (try (with_reducible rfl)); done)); try simp only [Act.put, List.setIfInBounds_toArray, List.set_cons_zero, List.set_cons_succ]
      refine wpL_calm (o := { dst := some 20, op := Go.Op.move (Go.Operand.tmp 5), type := 3, pos := "level.go:25", after := #[], guard := none }) (v := ?_) rfl (Or.inl ⟨by rfl, ?_⟩) ?_; rotate_left; (focus (intro w hSw; (try dsimp only at hSw); go_simp; (try (with_reducible rfl)); done)); try simp only [Act.put, List.setIfInBounds_toArray, List.set_cons_zero, List.set_cons_succ]
      refine wpL_calm (o := { dst := some 21, op := Go.Op.move (Go.Operand.tmp 4), type := 48, pos := "level.go:25", after := #[{ on := 9, ground := Go.Ground.gcOnly Go.Departure.lateStores }], guard := none }) (v := ?_) rfl (Or.inl ⟨by rfl, ?_⟩) ?_; rotate_left; (focus (intro w hSw; (try dsimp only at hSw); go_simp; (try (with_reducible rfl)); done)); try simp only [Act.put, List.setIfInBounds_toArray, List.set_cons_zero, List.set_cons_succ]
      refine wpL_calm (o := { dst := some 22, op := Go.Op.move (Go.Operand.tmp 5), type := 3, pos := "level.go:25", after := #[{ on := 9, ground := Go.Ground.gcOnly Go.Departure.lateStores }], guard := none }) (v := ?_) rfl (Or.inl ⟨by rfl, ?_⟩) ?_; rotate_left; (focus (intro w hSw; (try dsimp only at hSw); go_simp; (try (with_reducible rfl)); done)); try simp only [Act.put, List.setIfInBounds_toArray, List.set_cons_zero, List.set_cons_succ]
      refine wpL_calm (o := { dst := some 23, op := Go.Op.move (Go.Operand.tmp 4), type := 48, pos := "level.go:25", after := #[{ on := 13, ground := Go.Ground.gcOnly Go.Departure.lateStores }], guard := none }) (v := ?_) rfl (Or.inl ⟨by rfl, ?_⟩) ?_; rotate_left; (focus (intro w hSw; (try dsimp only at hSw); go_simp; (try (with_reducible rfl)); done)); try simp only [Act.put, List.setIfInBounds_toArray, List.set_cons_zero, List.set_cons_succ]
      refine wpL_calm (o := { dst := some 24, op := Go.Op.move (Go.Operand.tmp 5), type := 3, pos := "level.go:25", after := #[{ on := 13, ground := Go.Ground.gcOnly Go.Departure.lateStores }], guard := none }) (v := ?_) rfl (Or.inl ⟨by rfl, ?_⟩) ?_; rotate_left; (focus (intro w hSw; (try dsimp only at hSw); go_simp; (try (with_reducible rfl)); done)); try simp only [Act.put, List.setIfInBounds_toArray, List.set_cons_zero, List.set_cons_succ]
      refine wpL_calm (o := { dst := some 25, op := Go.Op.nilCheck (Go.Operand.tmp 19), type := 0, pos := "level.go:25", after := #[{ on := 0, ground := Go.Ground.data }], guard := none }) (v := ?_) rfl (Or.inl ⟨by rfl, ?_⟩) ?_; rotate_left; (focus (intro w hSw; (try dsimp only at hSw); go_simp; (try (with_reducible rfl)); done)); try simp only [Act.put, List.setIfInBounds_toArray, List.set_cons_zero, List.set_cons_succ]
      refine wpL_calm (o := { dst := some 26, op := Go.Op.fieldAddr 71 (Go.Operand.tmp 25) 1, type := 0, pos := "level.go:25", after := #[{ on := 6, ground := Go.Ground.data }], guard := none }) (v := ?_) rfl (Or.inl ⟨by rfl, ?_⟩) ?_; rotate_left; (focus (intro w hSw; (try dsimp only at hSw); go_simp; (try (with_reducible rfl)); done)); try simp only [Act.put, List.setIfInBounds_toArray, List.set_cons_zero, List.set_cons_succ]
      refine wpL_calm (o := { dst := some 27, op := Go.Op.indexAddr 69 (Go.Operand.tmp 26) (Go.Operand.tmp 20), type := 0, pos := "level.go:25", after := #[{ on := 7, ground := Go.Ground.data }, { on := 1, ground := Go.Ground.data }, { on := 0, ground := Go.Ground.phase }, { on := 1, ground := Go.Ground.phase }, { on := 2, ground := Go.Ground.textOnly Go.Departure.lateStores }, { on := 3, ground := Go.Ground.textOnly Go.Departure.lateStores }, { on := 4, ground := Go.Ground.textOnly Go.Departure.lateStores }, { on := 5, ground := Go.Ground.textOnly Go.Departure.lateStores }], guard := none }) (v := ?_) rfl (Or.inl ⟨by rfl, ?_⟩) ?_; rotate_left; (focus (intro w hSw; (try dsimp only at hSw); go_simp; (try (with_reducible rfl)); done)); try simp only [Act.put, List.setIfInBounds_toArray, List.set_cons_zero, List.set_cons_succ]
      refine wpL_calm (o := { dst := some 28, op := Go.Op.nilCheck (Go.Operand.tmp 21), type := 0, pos := "level.go:25", after := #[{ on := 2, ground := Go.Ground.data }], guard := none }) (v := ?_) rfl (Or.inl ⟨by rfl, ?_⟩) ?_; rotate_left; (focus (intro w hSw; (try dsimp only at hSw); go_simp; (try (with_reducible rfl)); done)); try simp only [Act.put, List.setIfInBounds_toArray, List.set_cons_zero, List.set_cons_succ]
      refine wpL_calm (o := { dst := some 29, op := Go.Op.fieldAddr 71 (Go.Operand.tmp 28) 2, type := 0, pos := "level.go:25", after := #[{ on := 10, ground := Go.Ground.data }], guard := none }) (v := ?_) rfl (Or.inl ⟨by rfl, ?_⟩) ?_; rotate_left; (focus (intro w hSw; (try dsimp only at hSw); go_simp; (try (with_reducible rfl)); done)); try simp only [Act.put, List.setIfInBounds_toArray, List.set_cons_zero, List.set_cons_succ]
      refine wpL_calm (o := { dst := some 31, op := Go.Op.nilCheck (Go.Operand.tmp 23), type := 0, pos := "level.go:25", after := #[{ on := 4, ground := Go.Ground.data }], guard := none }) (v := ?_) rfl (Or.inl ⟨by rfl, ?_⟩) ?_; rotate_left; (focus (intro w hSw; (try dsimp only at hSw); go_simp; (try (with_reducible rfl)); done)); try simp only [Act.put, List.setIfInBounds_toArray, List.set_cons_zero, List.set_cons_succ]
      refine wpL_calm (o := { dst := some 32, op := Go.Op.fieldAddr 71 (Go.Operand.tmp 31) 3, type := 0, pos := "level.go:25", after := #[{ on := 14, ground := Go.Ground.data }], guard := none }) (v := ?_) rfl (Or.inl ⟨by rfl, ?_⟩) ?_; rotate_left; (focus (intro w hSw; (try dsimp only at hSw); go_simp; (try (with_reducible rfl)); done)); try simp only [Act.put, List.setIfInBounds_toArray, List.set_cons_zero, List.set_cons_succ]
      refine wpL_loud1 (o := { dst := none, op := Go.Op.store 3 (Go.Operand.tmp 27) (Go.Operand.const (Go.Value.int Go.IntKind.i64 (-1))), type := 0, pos := "level.go:25", after := #[{ on := 8, ground := Go.Ground.data }, { on := 0, ground := Go.Ground.phase }, { on := 1, ground := Go.Ground.phase }, { on := 2, ground := Go.Ground.textOnly Go.Departure.lateStores }, { on := 3, ground := Go.Ground.textOnly Go.Departure.lateStores }, { on := 4, ground := Go.Ground.textOnly Go.Departure.lateStores }, { on := 5, ground := Go.Ground.textOnly Go.Departure.lateStores }], guard := none }) rfl (fun K hK => ?_)
      (have c1 := HQ2.out.cell (1 + k) (by omega); have f1 := HQ2.out.free (1 + k); go_simp)
      refine hK.out _ _ ?_ (fun hHeld => ?_)
      · (try dsimp only); try trivial
      clear hK K
      try simp only [Act.put, List.setIfInBounds_toArray, List.set_cons_zero, List.set_cons_succ]
      have HQ5 := Lib.hid (HQ2.out.set (1 + k) (-1)); have HB5 := Lib.hid (HB2.out.setCell (p := ⟨g, 1 + k, none⟩) hg (.int .i64 (-1))); generalize w5.setCell ⟨g, 1 + k, none⟩ (.int .i64 (-1)) = w6 at HQ5 HB5 ⊢
      refine wpL_calm (o := { dst := some 30, op := Go.Op.indexAddr 69 (Go.Operand.tmp 29) (Go.Operand.tmp 22), type := 0, pos := "level.go:25", after := #[{ on := 11, ground := Go.Ground.data }, { on := 3, ground := Go.Ground.data }, { on := 0, ground := Go.Ground.phase }, { on := 1, ground := Go.Ground.phase }, { on := 2, ground := Go.Ground.phase }, { on := 3, ground := Go.Ground.phase }, { on := 4, ground := Go.Ground.textOnly Go.Departure.lateStores }, { on := 5, ground := Go.Ground.textOnly Go.Departure.lateStores }, { on := 6, ground := Go.Ground.phase }, { on := 7, ground := Go.Ground.phase }, { on := 8, ground := Go.Ground.phase }, { on := 9, ground := Go.Ground.phase }], guard := none }) (v := ?_) rfl (Or.inl ⟨by rfl, ?_⟩) ?_; rotate_left; (focus (intro w hSw; (try dsimp only at hSw); go_simp; (try (with_reducible rfl)); done)); try simp only [Act.put, List.setIfInBounds_toArray, List.set_cons_zero, List.set_cons_succ]
      refine wpL_loud1 (o := { dst := none, op := Go.Op.store 3 (Go.Operand.tmp 30) (Go.Operand.const (Go.Value.int Go.IntKind.i64 (-1))), type := 0, pos := "level.go:25", after := #[{ on := 12, ground := Go.Ground.data }, { on := 9, ground := Go.Ground.chain }, { on := 0, ground := Go.Ground.phase }, { on := 1, ground := Go.Ground.phase }, { on := 2, ground := Go.Ground.phase }, { on := 3, ground := Go.Ground.phase }, { on := 4, ground := Go.Ground.textOnly Go.Departure.lateStores }, { on := 5, ground := Go.Ground.textOnly Go.Departure.lateStores }, { on := 6, ground := Go.Ground.phase }, { on := 7, ground := Go.Ground.phase }, { on := 8, ground := Go.Ground.phase }, { on := 9, ground := Go.Ground.phase }], guard := none }) rfl (fun K hK => ?_)
      (have c2 := HQ5.out.cell (17 + k) (by omega); have f2 := HQ5.out.free (17 + k); go_simp)
      refine hK.out _ _ ?_ (fun hHeld => ?_)
      · (try dsimp only); try trivial
      clear hK K
      try simp only [Act.put, List.setIfInBounds_toArray, List.set_cons_zero, List.set_cons_succ]
      have HQ6 := Lib.hid (HQ5.out.set (17 + k) (-1)); have HB6 := Lib.hid (HB5.out.setCell (p := ⟨g, 17 + k, none⟩) hg (.int .i64 (-1))); generalize w6.setCell ⟨g, 17 + k, none⟩ (.int .i64 (-1)) = w7 at HQ6 HB6 ⊢
      refine wpL_calm (o := { dst := some 33, op := Go.Op.indexAddr 69 (Go.Operand.tmp 32) (Go.Operand.tmp 24), type := 0, pos := "level.go:25", after := #[{ on := 15, ground := Go.Ground.data }, { on := 5, ground := Go.Ground.data }, { on := 0, ground := Go.Ground.phase }, { on := 1, ground := Go.Ground.phase }, { on := 2, ground := Go.Ground.phase }, { on := 3, ground := Go.Ground.phase }, { on := 4, ground := Go.Ground.phase }, { on := 5, ground := Go.Ground.phase }, { on := 6, ground := Go.Ground.phase }, { on := 7, ground := Go.Ground.phase }, { on := 8, ground := Go.Ground.phase }, { on := 9, ground := Go.Ground.phase }, { on := 10, ground := Go.Ground.phase }, { on := 11, ground := Go.Ground.phase }, { on := 12, ground := Go.Ground.phase }, { on := 13, ground := Go.Ground.phase }], guard := none }) (v := ?_) rfl (Or.inl ⟨by rfl, ?_⟩) ?_; rotate_left; (focus (intro w hSw; (try dsimp only at hSw); go_simp; (try (with_reducible rfl)); done)); try simp only [Act.put, List.setIfInBounds_toArray, List.set_cons_zero, List.set_cons_succ]
      refine wpL_loud1 (o := { dst := none, op := Go.Op.store 3 (Go.Operand.tmp 33) (Go.Operand.const (Go.Value.int Go.IntKind.i64 (-1))), type := 0, pos := "level.go:25", after := #[{ on := 16, ground := Go.Ground.data }, { on := 13, ground := Go.Ground.chain }, { on := 0, ground := Go.Ground.phase }, { on := 1, ground := Go.Ground.phase }, { on := 2, ground := Go.Ground.phase }, { on := 3, ground := Go.Ground.phase }, { on := 4, ground := Go.Ground.phase }, { on := 5, ground := Go.Ground.phase }, { on := 6, ground := Go.Ground.phase }, { on := 7, ground := Go.Ground.phase }, { on := 8, ground := Go.Ground.phase }, { on := 9, ground := Go.Ground.phase }, { on := 10, ground := Go.Ground.phase }, { on := 11, ground := Go.Ground.phase }, { on := 12, ground := Go.Ground.phase }, { on := 13, ground := Go.Ground.phase }], guard := none }) rfl (fun K hK => ?_)
      (have c3 := HQ6.out.cell (33 + k) (by omega); have f3 := HQ6.out.free (33 + k); go_simp)
      refine hK.out _ _ ?_ (fun hHeld => ?_)
      · (try dsimp only); try trivial
      clear hK K
      try simp only [Act.put, List.setIfInBounds_toArray, List.set_cons_zero, List.set_cons_succ]
      refine wpL_nil ?_
      refine NoPanic.normal ?_
      have HQ7 : Hid (QAt (w7.setCell ⟨g, 33 + k, none⟩ (.int .i64 (-1))) g (nF n (k + 1) 0)) := Lib.hid (by have := HQ6.out.set (33 + k) (-1); rwa [HN.out] at this)
      have HB7 := Lib.hid (HB6.out.setCell (p := ⟨g, 33 + k, none⟩) hg (.int .i64 (-1)))
      clear HQ2 HQ5 HQ6 HB2 HB5 HB6 c1 f1 c2 f2 c3 f3 HN hHeld
      go_wp2_with fail
      go_roundw
      case rel => exact ⟨k + 1, by go_num, by omega, HQ7, HB7⟩
      case measure => simp [intOf]; omega
    · obtain rfl : k = 16 := by omega
      rw [show ((16 : Nat) : Int) = 16 from rfl]
      go_wp2_with fail
      go_loopw [35, 6] (fun x s6 wi => ∃ m : Nat, x = .int .i64 (m : Int) ∧ m ≤ 4 ∧ Hid (QAt wi g (nF n 16 m)) ∧ Hid (Below w.heap.size w wi)) (fun x _ _ => 4 - (intOf x).toNat)
      case atStart => exact ⟨0, rfl, by omega, HQ1, HB1⟩
      case round =>
        obtain ⟨m, rfl, hm, HQ2, HB2⟩ := hrel
        clear HQ1 HB1
        by_cases hlt : m < 4
        · have hli : (m : Int) < 4 := by omega
          have HQ3 := Lib.hid HQ2.out.drew
          have HB3 := Lib.hid HB2.out.drew
          have HN := Lib.hid (nF_m n m hlt)
          clear HQ2 HB2
          go_upto_region 12 with fail
          refine wp_region_lin_all (S := (fun _ => True)) [(0, true), (1, true), (2, true), (3, true), (4, true), (5, true), (6, true), (8, true), (9, true), (7, false), (10, true), (11, false)] (by kernel_rfl) (by kernel_rfl) rfl (by kernel_rfl) ?_ (fun hHeld => ?_)
          · (try dsimp only); try exact trivial
          generalize World.drew wr = w5 at hHeld HQ3 HB3 ⊢
          refine wpL_calm (o := { dst := some 38, op := Go.Op.move (Go.Operand.tmp 4), type := 48, pos := "level.go:28", after := #[], guard := none }) (v := ?_) rfl (Or.inl ⟨by rfl, ?_⟩) ?_; rotate_left; (focus (intro w hSw; (try dsimp only at hSw); go_simp; (try (with_reducible rfl)); done)); try simp only [Act.put, List.setIfInBounds_toArray, List.set_cons_zero, List.set_cons_succ]
          refine wpL_calm (o := { dst := some 39, op := Go.Op.move (Go.Operand.tmp 6), type := 3, pos := "level.go:28", after := #[], guard := none }) (v := ?_) rfl (Or.inl ⟨by rfl, ?_⟩) ?_; rotate_left; (focus (intro w hSw; (try dsimp only at hSw); go_simp; (try (with_reducible rfl)); done)); try simp only [Act.put, List.setIfInBounds_toArray, List.set_cons_zero, List.set_cons_succ]
          refine wpL_calm (o := { dst := some 40, op := Go.Op.move (Go.Operand.tmp 4), type := 48, pos := "level.go:28", after := #[{ on := 7, ground := Go.Ground.gcOnly Go.Departure.lateStores }], guard := none }) (v := ?_) rfl (Or.inl ⟨by rfl, ?_⟩) ?_; rotate_left; (focus (intro w hSw; (try dsimp only at hSw); go_simp; (try (with_reducible rfl)); done)); try simp only [Act.put, List.setIfInBounds_toArray, List.set_cons_zero, List.set_cons_succ]
          refine wpL_calm (o := { dst := some 41, op := Go.Op.move (Go.Operand.tmp 6), type := 3, pos := "level.go:28", after := #[{ on := 7, ground := Go.Ground.gcOnly Go.Departure.lateStores }], guard := none }) (v := ?_) rfl (Or.inl ⟨by rfl, ?_⟩) ?_; rotate_left; (focus (intro w hSw; (try dsimp only at hSw); go_simp; (try (with_reducible rfl)); done)); try simp only [Act.put, List.setIfInBounds_toArray, List.set_cons_zero, List.set_cons_succ]
          refine wpL_calm (o := { dst := some 42, op := Go.Op.nilCheck (Go.Operand.tmp 38), type := 0, pos := "level.go:28", after := #[{ on := 0, ground := Go.Ground.data }], guard := none }) (v := ?_) rfl (Or.inl ⟨by rfl, ?_⟩) ?_; rotate_left; (focus (intro w hSw; (try dsimp only at hSw); go_simp; (try (with_reducible rfl)); done)); try simp only [Act.put, List.setIfInBounds_toArray, List.set_cons_zero, List.set_cons_succ]
          refine wpL_calm (o := { dst := some 43, op := Go.Op.fieldAddr 71 (Go.Operand.tmp 42) 4, type := 0, pos := "level.go:28", after := #[{ on := 4, ground := Go.Ground.data }], guard := none }) (v := ?_) rfl (Or.inl ⟨by rfl, ?_⟩) ?_; rotate_left; (focus (intro w hSw; (try dsimp only at hSw); go_simp; (try (with_reducible rfl)); done)); try simp only [Act.put, List.setIfInBounds_toArray, List.set_cons_zero, List.set_cons_succ]
          refine wpL_calm (o := { dst := some 44, op := Go.Op.indexAddr 49 (Go.Operand.tmp 43) (Go.Operand.tmp 39), type := 0, pos := "level.go:28", after := #[{ on := 5, ground := Go.Ground.data }, { on := 1, ground := Go.Ground.data }, { on := 0, ground := Go.Ground.phase }, { on := 1, ground := Go.Ground.phase }, { on := 2, ground := Go.Ground.textOnly Go.Departure.lateStores }, { on := 3, ground := Go.Ground.textOnly Go.Departure.lateStores }], guard := none }) (v := ?_) rfl (Or.inl ⟨by rfl, ?_⟩) ?_; rotate_left; (focus (intro w hSw; (try dsimp only at hSw); go_simp; (try (with_reducible rfl)); done)); try simp only [Act.put, List.setIfInBounds_toArray, List.set_cons_zero, List.set_cons_succ]
          refine wpL_calm (o := { dst := some 45, op := Go.Op.nilCheck (Go.Operand.tmp 40), type := 0, pos := "level.go:28", after := #[{ on := 2, ground := Go.Ground.data }], guard := none }) (v := ?_) rfl (Or.inl ⟨by rfl, ?_⟩) ?_; rotate_left; (focus (intro w hSw; (try dsimp only at hSw); go_simp; (try (with_reducible rfl)); done)); try simp only [Act.put, List.setIfInBounds_toArray, List.set_cons_zero, List.set_cons_succ]
          refine wpL_calm (o := { dst := some 46, op := Go.Op.fieldAddr 71 (Go.Operand.tmp 45) 5, type := 0, pos := "level.go:28", after := #[{ on := 8, ground := Go.Ground.data }], guard := none }) (v := ?_) rfl (Or.inl ⟨by rfl, ?_⟩) ?_; rotate_left; (focus (intro w hSw; (try dsimp only at hSw); go_simp; (try (with_reducible rfl)); done)); try simp only [Act.put, List.setIfInBounds_toArray, List.set_cons_zero, List.set_cons_succ]
          refine wpL_loud1 (o := { dst := none, op := Go.Op.store 3 (Go.Operand.tmp 44) (Go.Operand.const (Go.Value.int Go.IntKind.i64 (-1))), type := 0, pos := "level.go:28", after := #[{ on := 6, ground := Go.Ground.data }, { on := 0, ground := Go.Ground.phase }, { on := 1, ground := Go.Ground.phase }, { on := 2, ground := Go.Ground.textOnly Go.Departure.lateStores }, { on := 3, ground := Go.Ground.textOnly Go.Departure.lateStores }], guard := none }) rfl (fun K hK => ?_)
          (have c1 := HQ3.out.cell (49 + m) (by omega); have f1 := HQ3.out.free (49 + m); go_simp)
          refine hK.out _ _ ?_ (fun hHeld => ?_)
          · (try dsimp only); try trivial
          clear hK K
          try simp only [Act.put, List.setIfInBounds_toArray, List.set_cons_zero, List.set_cons_succ]
          have HQ5 := Lib.hid (HQ3.out.set (49 + m) (-1)); have HB5 := Lib.hid (HB3.out.setCell (p := ⟨g, 49 + m, none⟩) hg (.int .i64 (-1))); generalize w5.setCell ⟨g, 49 + m, none⟩ (.int .i64 (-1)) = w6 at HQ5 HB5 ⊢
          refine wpL_calm (o := { dst := some 47, op := Go.Op.indexAddr 49 (Go.Operand.tmp 46) (Go.Operand.tmp 41), type := 0, pos := "level.go:28", after := #[{ on := 9, ground := Go.Ground.data }, { on := 3, ground := Go.Ground.data }, { on := 0, ground := Go.Ground.phase }, { on := 1, ground := Go.Ground.phase }, { on := 2, ground := Go.Ground.phase }, { on := 3, ground := Go.Ground.phase }, { on := 4, ground := Go.Ground.phase }, { on := 5, ground := Go.Ground.phase }, { on := 6, ground := Go.Ground.phase }, { on := 7, ground := Go.Ground.phase }], guard := none }) (v := ?_) rfl (Or.inl ⟨by rfl, ?_⟩) ?_; rotate_left; (focus (intro w hSw; (try dsimp only at hSw); go_simp; (try (with_reducible rfl)); done)); try simp only [Act.put, List.setIfInBounds_toArray, List.set_cons_zero, List.set_cons_succ]
          refine wpL_loud1 (o := { dst := none, op := Go.Op.store 3 (Go.Operand.tmp 47) (Go.Operand.const (Go.Value.int Go.IntKind.i64 (-1))), type := 0, pos := "level.go:28", after := #[{ on := 10, ground := Go.Ground.data }, { on := 7, ground := Go.Ground.chain }, { on := 0, ground := Go.Ground.phase }, { on := 1, ground := Go.Ground.phase }, { on := 2, ground := Go.Ground.phase }, { on := 3, ground := Go.Ground.phase }, { on := 4, ground := Go.Ground.phase }, { on := 5, ground := Go.Ground.phase }, { on := 6, ground := Go.Ground.phase }, { on := 7, ground := Go.Ground.phase }], guard := none }) rfl (fun K hK => ?_)
          (have c2 := HQ5.out.cell (53 + m) (by omega); have f2 := HQ5.out.free (53 + m); go_simp)
          refine hK.out _ _ ?_ (fun hHeld => ?_)
          · (try dsimp only); try trivial
          clear hK K
          try simp only [Act.put, List.setIfInBounds_toArray, List.set_cons_zero, List.set_cons_succ]
          refine wpL_nil ?_
          refine NoPanic.normal ?_
          have HQ7 : Hid (QAt (w6.setCell ⟨g, 53 + m, none⟩ (.int .i64 (-1))) g (nF n 16 (m + 1))) := Lib.hid (by have := HQ5.out.set (53 + m) (-1); rwa [HN.out] at this)
          have HB7 := Lib.hid (HB5.out.setCell (p := ⟨g, 53 + m, none⟩) hg (.int .i64 (-1)))
          clear HQ3 HQ5 HB3 HB5 c1 f1 c2 f2 HN hHeld
          go_wp2_with fail
          go_roundw
          case rel => exact ⟨m + 1, by go_num, by omega, HQ7, HB7⟩
          case measure => simp [intOf]; omega
        · obtain rfl : m = 4 := by omega
          rw [show ((4 : Nat) : Int) = 4 from rfl]
          go_wp2_with fail
          go_ret2
          exact ⟨g, rfl, ⟨_, HQ2.out, HO.out⟩, hg, HB2.out⟩
end Go.Proofs.Ytfkepplpeakgmaa
