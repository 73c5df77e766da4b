/- Package slots: first, count, by what is asked of a slot. -/
import Derived.Test.YthhgodfgigcacaaSlC
namespace Go.Proofs.Ythhgodfgigcacaa
open Go.RowKit Go.Deep
set_option linter.unusedVariables false
set_option linter.unusedSimpArgs false
def fstO (P : Sl → Bool) (T : Nat → Sl) (n : Nat) : Option Nat := (List.range n).find? (fun k => P (T k))
def fstV : Option Nat → Value
  | some i => .tuple #[.int .i64 (i : Int), .bool true]
  | none => .tuple #[.int .i64 0, .bool false]
theorem fst_some {P : Sl → Bool} {T : Nat → Sl} {n k : Nat} (hk : k < n) (h : P (T k) = true) (h0 : ∀ j, j < k → P (T j) = false) : fstO P T n = some k := by
  unfold fstO
  rw [List.find?_range_eq_some]
  exact ⟨h, List.mem_range.2 hk, fun j hj => by rw [h0 j hj]; rfl⟩
theorem fst_none {P : Sl → Bool} {T : Nat → Sl} {n : Nat} (h0 : ∀ j, j < n → P (T j) = false) : fstO P T n = none := by
  unfold fstO
  rw [List.find?_eq_none]
  intro j hj
  rw [h0 j (List.mem_range.1 hj)]
  simp
def cntO (P : Sl → Bool) (T : Nat → Sl) : Nat → Nat
  | 0 => 0
  | k + 1 => cntO P T k + (P (T k)).toNat
theorem cntO_le (P : Sl → Bool) (T : Nat → Sl) (k : Nat) : cntO P T k ≤ k := by
  induction k with
  | zero => exact Nat.le_refl _
  | succ k ih => unfold cntO; have := (P (T k)).toNat_le; omega
set_option maxRecDepth 100000 in
set_option maxHeartbeats 8000000 in
theorem first_free (b n : Nat) (T : Nat → Sl) (w : World) (hT : TAt w b n T) (hn : n ≤ 8) : Calls Try.prog 41 #[.pointer (some ⟨b, 0, none⟩), .func (.func 35) #[] #[]] w fun e w' => e = .returned (fstV (fstO (fun s : Sl => decide (s = frS)) T n)) ∧ Below w.heap.size w w' := by
  have HT := Lib.hid hT
  have q0 := hT.n0
  have hb := hT.lt
  clear hT
  have hn8 : (n : Int) ≤ 8 := by omega
  go_enter Try.func41, Try.ntmps41
  go_upto_region 1 with fail
  refine wp_region_lin (S := (fun w' => w'.cell? ⟨b, 0, none⟩ = some (.int .i64 (n : Int)))) [(0, true), (1, true), (2, true), (3, true), (4, true), (5, true), (6, true), (7, true), (8, true), (9, true)] (by kernel_rfl) (by kernel_rfl) rfl (by kernel_rfl) ?_ (fun hHeld => ?_)
  · (try dsimp only); exact q0
  (refine wpL_calm (o := { dst := some 8, op := Go.Op.move (Go.Operand.tmp 0), type := 23, pos := "slots.go:113", after := #[], guard := none }) (v := ?_) rfl (Or.inl ⟨by rfl, ?_⟩) ?_; rotate_left; (focus (intro w hSw; (try dsimp only at hSw); go_simp; (try (with_reducible rfl)); done)); try simp only [Act.put, List.setIfInBounds_toArray, List.set_cons_zero, List.set_cons_succ])
  (refine wpL_calm (o := { dst := some 9, op := Go.Op.nilCheck (Go.Operand.tmp 8), type := 0, pos := "slots.go:113", after := #[{ on := 0, ground := Go.Ground.data }], guard := none }) (v := ?_) rfl (Or.inl ⟨by rfl, ?_⟩) ?_; rotate_left; (focus (intro w hSw; (try dsimp only at hSw); go_simp; (try (with_reducible rfl)); done)); try simp only [Act.put, List.setIfInBounds_toArray, List.set_cons_zero, List.set_cons_succ])
  (refine wpL_calm (o := { dst := some 10, op := Go.Op.fieldAddr 59 (Go.Operand.tmp 9) 1, type := 0, pos := "slots.go:113", after := #[{ on := 1, ground := Go.Ground.data }], guard := none }) (v := ?_) rfl (Or.inl ⟨by rfl, ?_⟩) ?_; rotate_left; (focus (intro w hSw; (try dsimp only at hSw); go_simp; (try (with_reducible rfl)); done)); try simp only [Act.put, List.setIfInBounds_toArray, List.set_cons_zero, List.set_cons_succ])
  (refine wpL_calm (o := { dst := some 11, op := Go.Op.move (Go.Operand.tmp 0), type := 23, pos := "slots.go:113", after := #[], guard := none }) (v := ?_) rfl (Or.inl ⟨by rfl, ?_⟩) ?_; rotate_left; (focus (intro w hSw; (try dsimp only at hSw); go_simp; (try (with_reducible rfl)); done)); try simp only [Act.put, List.setIfInBounds_toArray, List.set_cons_zero, List.set_cons_succ])
  (refine wpL_calm (o := { dst := some 12, op := Go.Op.nilCheck (Go.Operand.tmp 11), type := 0, pos := "slots.go:113", after := #[{ on := 3, ground := Go.Ground.data }], guard := none }) (v := ?_) rfl (Or.inl ⟨by rfl, ?_⟩) ?_; rotate_left; (focus (intro w hSw; (try dsimp only at hSw); go_simp; (try (with_reducible rfl)); done)); try simp only [Act.put, List.setIfInBounds_toArray, List.set_cons_zero, List.set_cons_succ])
  (refine wpL_calm (o := { dst := some 13, op := Go.Op.fieldAddr 59 (Go.Operand.tmp 12) 0, type := 0, pos := "slots.go:113", after := #[{ on := 4, ground := Go.Ground.data }], guard := none }) (v := ?_) rfl (Or.inl ⟨by rfl, ?_⟩) ?_; rotate_left; (focus (intro w hSw; (try dsimp only at hSw); go_simp; (try (with_reducible rfl)); done)); try simp only [Act.put, List.setIfInBounds_toArray, List.set_cons_zero, List.set_cons_succ])
  (refine wpL_calm (o := { dst := some 14, op := Go.Op.load 3 (Go.Operand.tmp 13), type := 3, pos := "slots.go:113", after := #[{ on := 5, ground := Go.Ground.data }], guard := none }) (v := ?_) rfl (Or.inl ⟨by rfl, ?_⟩) ?_; rotate_left; (focus (intro w hSw; (try dsimp only at hSw); go_simp; (try (with_reducible rfl)); done)); try simp only [Act.put, List.setIfInBounds_toArray, List.set_cons_zero, List.set_cons_succ])
  (refine wpL_calm (o := { dst := some 15, op := Go.Op.slice 57 (Go.Operand.tmp 10) none (some (Go.Operand.tmp 14)) none, type := 28, pos := "slots.go:113", after := #[{ on := 2, ground := Go.Ground.data }, { on := 6, ground := Go.Ground.data }], guard := none }) (v := ?_) rfl (Or.inl ⟨by rfl, ?_⟩) ?_; rotate_left; (focus (intro w hSw; (try dsimp only at hSw); go_simp; (try (with_reducible rfl)); done)); try simp only [Act.put, List.setIfInBounds_toArray, List.set_cons_zero, List.set_cons_succ])
  (refine wpL_calm (o := { dst := some 16, op := Go.Op.call { callee := Go.Callee.builtin Go.Builtin.len, args := #[Go.Operand.tmp 15], argTypes := #[28] }, type := 3, pos := "slots.go:113", after := #[{ on := 7, ground := Go.Ground.data }], guard := none }) (v := ?_) rfl (Or.inl ⟨by rfl, ?_⟩) ?_; rotate_left; (focus (intro w hSw; (try dsimp only at hSw); go_simp; (try (with_reducible rfl)); done)); try simp only [Act.put, List.setIfInBounds_toArray, List.set_cons_zero, List.set_cons_succ])
  (refine wpL_calm (o := { dst := some 17, op := Go.Op.move (Go.Operand.const (Go.Value.int Go.IntKind.i64 0)), type := 3, pos := "slots.go:113", after := #[], guard := none }) (v := ?_) rfl (Or.inl ⟨by rfl, ?_⟩) ?_; rotate_left; (focus (intro w hSw; (try dsimp only at hSw); go_simp; (try (with_reducible rfl)); done)); try simp only [Act.put, List.setIfInBounds_toArray, List.set_cons_zero, List.set_cons_succ])
  refine wpL_nil ?_
  refine NoPanic.normal ?_
  have HB0 : Hid (Below w.heap.size w w.drew) := Lib.hid (Below.refl _ _).drew
  clear hHeld
  generalize World.drew w = w0 at *
  go_wp2_with fail
  go_loopw [17, 6, 7] (fun s17 _ _ wi => ∃ k : Nat, s17 = .int .i64 (k : Int) ∧ k ≤ n ∧ Hid (∀ j, j < k → (fun s : Sl => decide (s = frS)) (T j) = false) ∧ Hid (Below w.heap.size w wi)) (fun s17 _ _ _ => n - (intOf s17).toNat)
  case atStart => exact ⟨0, rfl, by omega, Lib.hid (fun j h => absurd h (by omega)), HB0⟩
  case round =>
    obtain ⟨k, rfl, hk, HN, HB⟩ := hrel
    clear HB0
    by_cases hlt : k < n
    · have hli : (k : Int) < (n : Int) := by omega
      have hl8 : (k : Int) < 8 := by omega
      have hk8 : k < 8 := by omega
      obtain ⟨c0, c1, c2, c3, c4, c5, c6, c7, c8, c9⟩ := (HT.out.below HB.out).cs hk8
      have HNX := Lib.hid (fun (h : (fun s : Sl => decide (s = frS)) (T k) = false) j (hj : j < k + 1) => (show (fun s : Sl => decide (s = frS)) (T j) = false from by
        by_cases e : j = k
        · rw [e]; exact h
        · exact HN.out j (by omega)))
      have HFS := Lib.hid (fun (h : (fun s : Sl => decide (s = frS)) (T k) = true) => fst_some (P := fun s : Sl => decide (s = frS)) (T := T) hlt h HN.out)
      obtain ⟨s, hs⟩ : ∃ s, T k = s := ⟨_, rfl⟩
      rw [hs] at c0 c1 c2 c3 c4 c5 c6 c7 c8 c9 HNX HFS
      clear hs HN
      have HBA := Lib.hid (HB.out.alloc HB.out.size (.cells #[.int .i64 s.g, .bool s.v0, .bool s.v1, .bool s.v2, .bool s.v3, .bool s.d0, .bool s.d1, .bool s.d2, .bool s.d3, .int .i64 s.l] 44))
      have hszA := HBA.out.size
      have CF := Lib.hid (isFree_any s (wr.alloc (.cells #[.int .i64 s.g, .bool s.v0, .bool s.v1, .bool s.v2, .bool s.v3, .bool s.d0, .bool s.d1, .bool s.d2, .bool s.d3, .int .i64 s.l] 44)))
      go_wp2_with fail
      refine CF.out.mono ?_
      rintro e w2 ⟨rfl, b2⟩
      have HB2 := Lib.hid (HBA.out.trans (b2.mono HBA.out.size))
      clear b2 CF
      cases hP : (fun s : Sl => decide (s = frS)) s with
      | true =>
        have HR := Lib.hid (HFS.out hP)
        replace hP : (decide (s = frS)) = true := hP
        rw [hP]
        go_wp2_with fail
        go_ret2
        exact ⟨by rw [HR.out]; rfl, HB2.out⟩
      | false =>
        have HN2 := Lib.hid (HNX.out hP)
        replace hP : (decide (s = frS)) = false := hP
        rw [hP]
        go_wp2_with fail
        go_roundw
        case rel => exact ⟨k + 1, by go_num, by omega, HN2, HB2⟩
        case measure => simp [intOf]; omega
    · obtain rfl : k = n := by omega
      have hli : ¬ (k : Int) < (k : Int) := by omega
      have HR := Lib.hid (fst_none (P := fun s : Sl => decide (s = frS)) (T := T) HN.out)
      go_wp2_with fail
      go_ret2
      exact ⟨by rw [HR.out]; rfl, HB.out⟩
set_option maxRecDepth 100000 in
set_option maxHeartbeats 8000000 in
theorem first_group (b n c : Nat) (g : Int) (T : Nat → Sl) (w : World) (hT : TAt w b n T) (hn : n ≤ 8) (hc : w.cell? ⟨c, 0, none⟩ = some (.int .i64 g)) : Calls Try.prog 41 #[.pointer (some ⟨b, 0, none⟩), .func (.func 42) #[] #[.pointer (some ⟨c, 0, none⟩)]] w fun e w' => e = .returned (fstV (fstO (fun s : Sl => decide (s.g = g)) T n)) ∧ Below w.heap.size w w' := by
  have HT := Lib.hid hT
  have q0 := hT.n0
  have hb := hT.lt
  clear hT
  have hn8 : (n : Int) ≤ 8 := by omega
  have hcl : c < w.heap.size := block_lt_of_cell hc
  go_enter Try.func41, Try.ntmps41
  go_upto_region 1 with fail
  refine wp_region_lin (S := (fun w' => w'.cell? ⟨b, 0, none⟩ = some (.int .i64 (n : Int)))) [(0, true), (1, true), (2, true), (3, true), (4, true), (5, true), (6, true), (7, true), (8, true), (9, true)] (by kernel_rfl) (by kernel_rfl) rfl (by kernel_rfl) ?_ (fun hHeld => ?_)
  · (try dsimp only); exact q0
  (refine wpL_calm (o := { dst := some 8, op := Go.Op.move (Go.Operand.tmp 0), type := 23, pos := "slots.go:113", after := #[], guard := none }) (v := ?_) rfl (Or.inl ⟨by rfl, ?_⟩) ?_; rotate_left; (focus (intro w hSw; (try dsimp only at hSw); go_simp; (try (with_reducible rfl)); done)); try simp only [Act.put, List.setIfInBounds_toArray, List.set_cons_zero, List.set_cons_succ])
  (refine wpL_calm (o := { dst := some 9, op := Go.Op.nilCheck (Go.Operand.tmp 8), type := 0, pos := "slots.go:113", after := #[{ on := 0, ground := Go.Ground.data }], guard := none }) (v := ?_) rfl (Or.inl ⟨by rfl, ?_⟩) ?_; rotate_left; (focus (intro w hSw; (try dsimp only at hSw); go_simp; (try (with_reducible rfl)); done)); try simp only [Act.put, List.setIfInBounds_toArray, List.set_cons_zero, List.set_cons_succ])
  (refine wpL_calm (o := { dst := some 10, op := Go.Op.fieldAddr 59 (Go.Operand.tmp 9) 1, type := 0, pos := "slots.go:113", after := #[{ on := 1, ground := Go.Ground.data }], guard := none }) (v := ?_) rfl (Or.inl ⟨by rfl, ?_⟩) ?_; rotate_left; (focus (intro w hSw; (try dsimp only at hSw); go_simp; (try (with_reducible rfl)); done)); try simp only [Act.put, List.setIfInBounds_toArray, List.set_cons_zero, List.set_cons_succ])
  (refine wpL_calm (o := { dst := some 11, op := Go.Op.move (Go.Operand.tmp 0), type := 23, pos := "slots.go:113", after := #[], guard := none }) (v := ?_) rfl (Or.inl ⟨by rfl, ?_⟩) ?_; rotate_left; (focus (intro w hSw; (try dsimp only at hSw); go_simp; (try (with_reducible rfl)); done)); try simp only [Act.put, List.setIfInBounds_toArray, List.set_cons_zero, List.set_cons_succ])
  (refine wpL_calm (o := { dst := some 12, op := Go.Op.nilCheck (Go.Operand.tmp 11), type := 0, pos := "slots.go:113", after := #[{ on := 3, ground := Go.Ground.data }], guard := none }) (v := ?_) rfl (Or.inl ⟨by rfl, ?_⟩) ?_; rotate_left; (focus (intro w hSw; (try dsimp only at hSw); go_simp; (try (with_reducible rfl)); done)); try simp only [Act.put, List.setIfInBounds_toArray, List.set_cons_zero, List.set_cons_succ])
  (refine wpL_calm (o := { dst := some 13, op := Go.Op.fieldAddr 59 (Go.Operand.tmp 12) 0, type := 0, pos := "slots.go:113", after := #[{ on := 4, ground := Go.Ground.data }], guard := none }) (v := ?_) rfl (Or.inl ⟨by rfl, ?_⟩) ?_; rotate_left; (focus (intro w hSw; (try dsimp only at hSw); go_simp; (try (with_reducible rfl)); done)); try simp only [Act.put, List.setIfInBounds_toArray, List.set_cons_zero, List.set_cons_succ])
  (refine wpL_calm (o := { dst := some 14, op := Go.Op.load 3 (Go.Operand.tmp 13), type := 3, pos := "slots.go:113", after := #[{ on := 5, ground := Go.Ground.data }], guard := none }) (v := ?_) rfl (Or.inl ⟨by rfl, ?_⟩) ?_; rotate_left; (focus (intro w hSw; (try dsimp only at hSw); go_simp; (try (with_reducible rfl)); done)); try simp only [Act.put, List.setIfInBounds_toArray, List.set_cons_zero, List.set_cons_succ])
  (refine wpL_calm (o := { dst := some 15, op := Go.Op.slice 57 (Go.Operand.tmp 10) none (some (Go.Operand.tmp 14)) none, type := 28, pos := "slots.go:113", after := #[{ on := 2, ground := Go.Ground.data }, { on := 6, ground := Go.Ground.data }], guard := none }) (v := ?_) rfl (Or.inl ⟨by rfl, ?_⟩) ?_; rotate_left; (focus (intro w hSw; (try dsimp only at hSw); go_simp; (try (with_reducible rfl)); done)); try simp only [Act.put, List.setIfInBounds_toArray, List.set_cons_zero, List.set_cons_succ])
  (refine wpL_calm (o := { dst := some 16, op := Go.Op.call { callee := Go.Callee.builtin Go.Builtin.len, args := #[Go.Operand.tmp 15], argTypes := #[28] }, type := 3, pos := "slots.go:113", after := #[{ on := 7, ground := Go.Ground.data }], guard := none }) (v := ?_) rfl (Or.inl ⟨by rfl, ?_⟩) ?_; rotate_left; (focus (intro w hSw; (try dsimp only at hSw); go_simp; (try (with_reducible rfl)); done)); try simp only [Act.put, List.setIfInBounds_toArray, List.set_cons_zero, List.set_cons_succ])
  (refine wpL_calm (o := { dst := some 17, op := Go.Op.move (Go.Operand.const (Go.Value.int Go.IntKind.i64 0)), type := 3, pos := "slots.go:113", after := #[], guard := none }) (v := ?_) rfl (Or.inl ⟨by rfl, ?_⟩) ?_; rotate_left; (focus (intro w hSw; (try dsimp only at hSw); go_simp; (try (with_reducible rfl)); done)); try simp only [Act.put, List.setIfInBounds_toArray, List.set_cons_zero, List.set_cons_succ])
  refine wpL_nil ?_
  refine NoPanic.normal ?_
  have HB0 : Hid (Below w.heap.size w w.drew) := Lib.hid (Below.refl _ _).drew
  clear hHeld
  generalize World.drew w = w0 at *
  go_wp2_with fail
  go_loopw [17, 6, 7] (fun s17 _ _ wi => ∃ k : Nat, s17 = .int .i64 (k : Int) ∧ k ≤ n ∧ Hid (∀ j, j < k → (fun s : Sl => decide (s.g = g)) (T j) = false) ∧ Hid (Below w.heap.size w wi)) (fun s17 _ _ _ => n - (intOf s17).toNat)
  case atStart => exact ⟨0, rfl, by omega, Lib.hid (fun j h => absurd h (by omega)), HB0⟩
  case round =>
    obtain ⟨k, rfl, hk, HN, HB⟩ := hrel
    clear HB0
    by_cases hlt : k < n
    · have hli : (k : Int) < (n : Int) := by omega
      have hl8 : (k : Int) < 8 := by omega
      have hk8 : k < 8 := by omega
      obtain ⟨c0, c1, c2, c3, c4, c5, c6, c7, c8, c9⟩ := (HT.out.below HB.out).cs hk8
      have HNX := Lib.hid (fun (h : (fun s : Sl => decide (s.g = g)) (T k) = false) j (hj : j < k + 1) => (show (fun s : Sl => decide (s.g = g)) (T j) = false from by
        by_cases e : j = k
        · rw [e]; exact h
        · exact HN.out j (by omega)))
      have HFS := Lib.hid (fun (h : (fun s : Sl => decide (s.g = g)) (T k) = true) => fst_some (P := fun s : Sl => decide (s.g = g)) (T := T) hlt h HN.out)
      obtain ⟨s, hs⟩ : ∃ s, T k = s := ⟨_, rfl⟩
      rw [hs] at c0 c1 c2 c3 c4 c5 c6 c7 c8 c9 HNX HFS
      clear hs HN
      have HBA := Lib.hid (HB.out.alloc HB.out.size (.cells #[.int .i64 s.g, .bool s.v0, .bool s.v1, .bool s.v2, .bool s.v3, .bool s.d0, .bool s.d1, .bool s.d2, .bool s.d3, .int .i64 s.l] 44))
      have hszA := HBA.out.size
      have hcA := (HBA.out.cell (p := ⟨c, 0, none⟩) hcl).trans hc
      have CF := Lib.hid (find1_any s g c (wr.alloc (.cells #[.int .i64 s.g, .bool s.v0, .bool s.v1, .bool s.v2, .bool s.v3, .bool s.d0, .bool s.d1, .bool s.d2, .bool s.d3, .int .i64 s.l] 44)) hcA)
      go_wp2_with fail
      refine CF.out.mono ?_
      rintro e w2 ⟨rfl, b2⟩
      have HB2 := Lib.hid (HBA.out.trans (b2.mono HBA.out.size))
      clear b2 CF
      cases hP : (fun s : Sl => decide (s.g = g)) s with
      | true =>
        have HR := Lib.hid (HFS.out hP)
        replace hP : (decide (s.g = g)) = true := hP
        rw [hP]
        go_wp2_with fail
        go_ret2
        exact ⟨by rw [HR.out]; rfl, HB2.out⟩
      | false =>
        have HN2 := Lib.hid (HNX.out hP)
        replace hP : (decide (s.g = g)) = false := hP
        rw [hP]
        go_wp2_with fail
        go_roundw
        case rel => exact ⟨k + 1, by go_num, by omega, HN2, HB2⟩
        case measure => simp [intOf]; omega
    · obtain rfl : k = n := by omega
      have hli : ¬ (k : Int) < (k : Int) := by omega
      have HR := Lib.hid (fst_none (P := fun s : Sl => decide (s.g = g)) (T := T) HN.out)
      go_wp2_with fail
      go_ret2
      exact ⟨by rw [HR.out]; rfl, HB.out⟩
set_option maxRecDepth 100000 in
set_option maxHeartbeats 8000000 in
theorem count_dirty (b n : Nat) (T : Nat → Sl) (w : World) (hT : TAt w b n T) (hn : n ≤ 8) : Calls Try.prog 44 #[.pointer (some ⟨b, 0, none⟩), .func (.func 43) #[] #[]] w fun e w' => e = .returned (.int .i64 (cntO (fun s : Sl => s.busy) T n : Int)) ∧ Below w.heap.size w w' := by
  have HT := Lib.hid hT
  have q0 := hT.n0
  have hb := hT.lt
  clear hT
  have hn8 : (n : Int) ≤ 8 := by omega
  go_enter Try.func44, Try.ntmps44
  go_upto_region 4 with fail
  refine wp_region_lin (S := (fun w' => w'.cell? ⟨b, 0, none⟩ = some (.int .i64 (n : Int)))) [(0, true), (1, true), (2, true), (3, true), (4, true), (5, true), (6, true), (7, true), (8, true), (9, true)] (by kernel_rfl) (by kernel_rfl) rfl (by kernel_rfl) ?_ (fun hHeld => ?_)
  · (try dsimp only); exact q0
  (refine wpL_calm (o := { dst := some 10, op := Go.Op.move (Go.Operand.tmp 0), type := 23, pos := "slots.go:127", after := #[], guard := none }) (v := ?_) rfl (Or.inl ⟨by rfl, ?_⟩) ?_; rotate_left; (focus (intro w hSw; (try dsimp only at hSw); go_simp; (try (with_reducible rfl)); done)); try simp only [Act.put, List.setIfInBounds_toArray, List.set_cons_zero, List.set_cons_succ])
  (refine wpL_calm (o := { dst := some 11, op := Go.Op.nilCheck (Go.Operand.tmp 10), type := 0, pos := "slots.go:127", after := #[{ on := 0, ground := Go.Ground.data }], guard := none }) (v := ?_) rfl (Or.inl ⟨by rfl, ?_⟩) ?_; rotate_left; (focus (intro w hSw; (try dsimp only at hSw); go_simp; (try (with_reducible rfl)); done)); try simp only [Act.put, List.setIfInBounds_toArray, List.set_cons_zero, List.set_cons_succ])
  (refine wpL_calm (o := { dst := some 12, op := Go.Op.fieldAddr 59 (Go.Operand.tmp 11) 1, type := 0, pos := "slots.go:127", after := #[{ on := 1, ground := Go.Ground.data }], guard := none }) (v := ?_) rfl (Or.inl ⟨by rfl, ?_⟩) ?_; rotate_left; (focus (intro w hSw; (try dsimp only at hSw); go_simp; (try (with_reducible rfl)); done)); try simp only [Act.put, List.setIfInBounds_toArray, List.set_cons_zero, List.set_cons_succ])
  (refine wpL_calm (o := { dst := some 13, op := Go.Op.move (Go.Operand.tmp 0), type := 23, pos := "slots.go:127", after := #[], guard := none }) (v := ?_) rfl (Or.inl ⟨by rfl, ?_⟩) ?_; rotate_left; (focus (intro w hSw; (try dsimp only at hSw); go_simp; (try (with_reducible rfl)); done)); try simp only [Act.put, List.setIfInBounds_toArray, List.set_cons_zero, List.set_cons_succ])
  (refine wpL_calm (o := { dst := some 14, op := Go.Op.nilCheck (Go.Operand.tmp 13), type := 0, pos := "slots.go:127", after := #[{ on := 3, ground := Go.Ground.data }], guard := none }) (v := ?_) rfl (Or.inl ⟨by rfl, ?_⟩) ?_; rotate_left; (focus (intro w hSw; (try dsimp only at hSw); go_simp; (try (with_reducible rfl)); done)); try simp only [Act.put, List.setIfInBounds_toArray, List.set_cons_zero, List.set_cons_succ])
  (refine wpL_calm (o := { dst := some 15, op := Go.Op.fieldAddr 59 (Go.Operand.tmp 14) 0, type := 0, pos := "slots.go:127", after := #[{ on := 4, ground := Go.Ground.data }], guard := none }) (v := ?_) rfl (Or.inl ⟨by rfl, ?_⟩) ?_; rotate_left; (focus (intro w hSw; (try dsimp only at hSw); go_simp; (try (with_reducible rfl)); done)); try simp only [Act.put, List.setIfInBounds_toArray, List.set_cons_zero, List.set_cons_succ])
  (refine wpL_calm (o := { dst := some 16, op := Go.Op.load 3 (Go.Operand.tmp 15), type := 3, pos := "slots.go:127", after := #[{ on := 5, ground := Go.Ground.data }], guard := none }) (v := ?_) rfl (Or.inl ⟨by rfl, ?_⟩) ?_; rotate_left; (focus (intro w hSw; (try dsimp only at hSw); go_simp; (try (with_reducible rfl)); done)); try simp only [Act.put, List.setIfInBounds_toArray, List.set_cons_zero, List.set_cons_succ])
  (refine wpL_calm (o := { dst := some 17, op := Go.Op.slice 57 (Go.Operand.tmp 12) none (some (Go.Operand.tmp 16)) none, type := 28, pos := "slots.go:127", after := #[{ on := 2, ground := Go.Ground.data }, { on := 6, ground := Go.Ground.data }], guard := none }) (v := ?_) rfl (Or.inl ⟨by rfl, ?_⟩) ?_; rotate_left; (focus (intro w hSw; (try dsimp only at hSw); go_simp; (try (with_reducible rfl)); done)); try simp only [Act.put, List.setIfInBounds_toArray, List.set_cons_zero, List.set_cons_succ])
  (refine wpL_calm (o := { dst := some 18, op := Go.Op.call { callee := Go.Callee.builtin Go.Builtin.len, args := #[Go.Operand.tmp 17], argTypes := #[28] }, type := 3, pos := "slots.go:127", after := #[{ on := 7, ground := Go.Ground.data }], guard := none }) (v := ?_) rfl (Or.inl ⟨by rfl, ?_⟩) ?_; rotate_left; (focus (intro w hSw; (try dsimp only at hSw); go_simp; (try (with_reducible rfl)); done)); try simp only [Act.put, List.setIfInBounds_toArray, List.set_cons_zero, List.set_cons_succ])
  (refine wpL_calm (o := { dst := some 19, op := Go.Op.move (Go.Operand.const (Go.Value.int Go.IntKind.i64 0)), type := 3, pos := "slots.go:127", after := #[], guard := none }) (v := ?_) rfl (Or.inl ⟨by rfl, ?_⟩) ?_; rotate_left; (focus (intro w hSw; (try dsimp only at hSw); go_simp; (try (with_reducible rfl)); done)); try simp only [Act.put, List.setIfInBounds_toArray, List.set_cons_zero, List.set_cons_succ])
  refine wpL_nil ?_
  refine NoPanic.normal ?_
  have HB0 : Hid (Below w.heap.size w w.drew) := Lib.hid (Below.refl _ _).drew
  clear hHeld
  generalize World.drew w = w0 at *
  go_wp2_with fail
  go_loopw [19, 5, 7] (fun s19 s5 _ wi => ∃ k m : Nat, s19 = .int .i64 (k : Int) ∧ s5 = .int .i64 (m : Int) ∧ k ≤ n ∧ m ≤ k ∧ Hid (cntO (fun s : Sl => s.busy) T k = m) ∧ Hid (Below w.heap.size w wi)) (fun s19 _ _ _ => n - (intOf s19).toNat)
  case atStart => exact ⟨0, 0, rfl, rfl, by omega, by omega, Lib.hid rfl, HB0⟩
  case round =>
    obtain ⟨k, m, rfl, rfl, hk, hm, HN, HB⟩ := hrel
    clear HB0
    by_cases hlt : k < n
    · have hli : (k : Int) < (n : Int) := by omega
      have hl8 : (k : Int) < 8 := by omega
      have hk8 : k < 8 := by omega
      obtain ⟨c0, c1, c2, c3, c4, c5, c6, c7, c8, c9⟩ := (HT.out.below HB.out).cs hk8
      have HNX : Hid (cntO (fun s : Sl => s.busy) T (k + 1) = m + ((fun s : Sl => s.busy) (T k)).toNat) := Lib.hid (by rw [← HN.out]; rfl)
      obtain ⟨s, hs⟩ : ∃ s, T k = s := ⟨_, rfl⟩
      rw [hs] at c0 c1 c2 c3 c4 c5 c6 c7 c8 c9 HNX
      clear hs HN
      have HBA := Lib.hid (HB.out.alloc HB.out.size (.cells #[.int .i64 s.g, .bool s.v0, .bool s.v1, .bool s.v2, .bool s.v3, .bool s.d0, .bool s.d1, .bool s.d2, .bool s.d3, .int .i64 s.l] 44))
      have hszA := HBA.out.size
      have CF := Lib.hid (isDirty_any s (wr.alloc (.cells #[.int .i64 s.g, .bool s.v0, .bool s.v1, .bool s.v2, .bool s.v3, .bool s.d0, .bool s.d1, .bool s.d2, .bool s.d3, .int .i64 s.l] 44)))
      go_wp2_with fail
      refine CF.out.mono ?_
      rintro e w2 ⟨rfl, b2⟩
      have HB2 := Lib.hid (HBA.out.trans (b2.mono HBA.out.size))
      clear b2 CF
      cases hP : (fun s : Sl => s.busy) s with
      | true =>
        replace hP : (s.busy) = true := hP
        have HNX : Hid (cntO (fun s : Sl => s.busy) T (k + 1) = m + 1) := Lib.hid (by rw [HNX.out]; show m + (s.busy).toNat = m + 1; rw [hP]; rfl)
        rw [hP]
        go_wp2_with fail
        go_roundw
        case rel => exact ⟨k + 1, m + 1, by go_num, by go_num, by omega, by omega, HNX, HB2⟩
        case measure => simp [intOf]; omega
      | false =>
        replace hP : (s.busy) = false := hP
        have HNX : Hid (cntO (fun s : Sl => s.busy) T (k + 1) = m) := Lib.hid (by rw [HNX.out]; show m + (s.busy).toNat = m; rw [hP]; rfl)
        rw [hP]
        go_wp2_with fail
        go_roundw
        case rel => exact ⟨k + 1, m, by go_num, rfl, by omega, by omega, HNX, HB2⟩
        case measure => simp [intOf]; omega
    · obtain rfl : k = n := by omega
      have hli : ¬ (k : Int) < (k : Int) := by omega
      go_wp2_with fail
      go_ret
      exact ⟨by rw [HN.out]; rfl, HB.out⟩
set_option maxRecDepth 100000 in
set_option maxHeartbeats 8000000 in
theorem count_len (b n : Nat) (T : Nat → Sl) (w : World) (hT : TAt w b n T) (hn : n ≤ 8) : Calls Try.prog 44 #[.pointer (some ⟨b, 0, none⟩), .func (.func 45) #[] #[]] w fun e w' => e = .returned (.int .i64 (cntO (fun s : Sl => !decide (s = frS)) T n : Int)) ∧ Below w.heap.size w w' := by
  have HT := Lib.hid hT
  have q0 := hT.n0
  have hb := hT.lt
  clear hT
  have hn8 : (n : Int) ≤ 8 := by omega
  go_enter Try.func44, Try.ntmps44
  go_upto_region 4 with fail
  refine wp_region_lin (S := (fun w' => w'.cell? ⟨b, 0, none⟩ = some (.int .i64 (n : Int)))) [(0, true), (1, true), (2, true), (3, true), (4, true), (5, true), (6, true), (7, true), (8, true), (9, true)] (by kernel_rfl) (by kernel_rfl) rfl (by kernel_rfl) ?_ (fun hHeld => ?_)
  · (try dsimp only); exact q0
  (refine wpL_calm (o := { dst := some 10, op := Go.Op.move (Go.Operand.tmp 0), type := 23, pos := "slots.go:127", after := #[], guard := none }) (v := ?_) rfl (Or.inl ⟨by rfl, ?_⟩) ?_; rotate_left; (focus (intro w hSw; (try dsimp only at hSw); go_simp; (try (with_reducible rfl)); done)); try simp only [Act.put, List.setIfInBounds_toArray, List.set_cons_zero, List.set_cons_succ])
  (refine wpL_calm (o := { dst := some 11, op := Go.Op.nilCheck (Go.Operand.tmp 10), type := 0, pos := "slots.go:127", after := #[{ on := 0, ground := Go.Ground.data }], guard := none }) (v := ?_) rfl (Or.inl ⟨by rfl, ?_⟩) ?_; rotate_left; (focus (intro w hSw; (try dsimp only at hSw); go_simp; (try (with_reducible rfl)); done)); try simp only [Act.put, List.setIfInBounds_toArray, List.set_cons_zero, List.set_cons_succ])
  (refine wpL_calm (o := { dst := some 12, op := Go.Op.fieldAddr 59 (Go.Operand.tmp 11) 1, type := 0, pos := "slots.go:127", after := #[{ on := 1, ground := Go.Ground.data }], guard := none }) (v := ?_) rfl (Or.inl ⟨by rfl, ?_⟩) ?_; rotate_left; (focus (intro w hSw; (try dsimp only at hSw); go_simp; (try (with_reducible rfl)); done)); try simp only [Act.put, List.setIfInBounds_toArray, List.set_cons_zero, List.set_cons_succ])
  (refine wpL_calm (o := { dst := some 13, op := Go.Op.move (Go.Operand.tmp 0), type := 23, pos := "slots.go:127", after := #[], guard := none }) (v := ?_) rfl (Or.inl ⟨by rfl, ?_⟩) ?_; rotate_left; (focus (intro w hSw; (try dsimp only at hSw); go_simp; (try (with_reducible rfl)); done)); try simp only [Act.put, List.setIfInBounds_toArray, List.set_cons_zero, List.set_cons_succ])
  (refine wpL_calm (o := { dst := some 14, op := Go.Op.nilCheck (Go.Operand.tmp 13), type := 0, pos := "slots.go:127", after := #[{ on := 3, ground := Go.Ground.data }], guard := none }) (v := ?_) rfl (Or.inl ⟨by rfl, ?_⟩) ?_; rotate_left; (focus (intro w hSw; (try dsimp only at hSw); go_simp; (try (with_reducible rfl)); done)); try simp only [Act.put, List.setIfInBounds_toArray, List.set_cons_zero, List.set_cons_succ])
  (refine wpL_calm (o := { dst := some 15, op := Go.Op.fieldAddr 59 (Go.Operand.tmp 14) 0, type := 0, pos := "slots.go:127", after := #[{ on := 4, ground := Go.Ground.data }], guard := none }) (v := ?_) rfl (Or.inl ⟨by rfl, ?_⟩) ?_; rotate_left; (focus (intro w hSw; (try dsimp only at hSw); go_simp; (try (with_reducible rfl)); done)); try simp only [Act.put, List.setIfInBounds_toArray, List.set_cons_zero, List.set_cons_succ])
  (refine wpL_calm (o := { dst := some 16, op := Go.Op.load 3 (Go.Operand.tmp 15), type := 3, pos := "slots.go:127", after := #[{ on := 5, ground := Go.Ground.data }], guard := none }) (v := ?_) rfl (Or.inl ⟨by rfl, ?_⟩) ?_; rotate_left; (focus (intro w hSw; (try dsimp only at hSw); go_simp; (try (with_reducible rfl)); done)); try simp only [Act.put, List.setIfInBounds_toArray, List.set_cons_zero, List.set_cons_succ])
  (refine wpL_calm (o := { dst := some 17, op := Go.Op.slice 57 (Go.Operand.tmp 12) none (some (Go.Operand.tmp 16)) none, type := 28, pos := "slots.go:127", after := #[{ on := 2, ground := Go.Ground.data }, { on := 6, ground := Go.Ground.data }], guard := none }) (v := ?_) rfl (Or.inl ⟨by rfl, ?_⟩) ?_; rotate_left; (focus (intro w hSw; (try dsimp only at hSw); go_simp; (try (with_reducible rfl)); done)); try simp only [Act.put, List.setIfInBounds_toArray, List.set_cons_zero, List.set_cons_succ])
  (refine wpL_calm (o := { dst := some 18, op := Go.Op.call { callee := Go.Callee.builtin Go.Builtin.len, args := #[Go.Operand.tmp 17], argTypes := #[28] }, type := 3, pos := "slots.go:127", after := #[{ on := 7, ground := Go.Ground.data }], guard := none }) (v := ?_) rfl (Or.inl ⟨by rfl, ?_⟩) ?_; rotate_left; (focus (intro w hSw; (try dsimp only at hSw); go_simp; (try (with_reducible rfl)); done)); try simp only [Act.put, List.setIfInBounds_toArray, List.set_cons_zero, List.set_cons_succ])
  (refine wpL_calm (o := { dst := some 19, op := Go.Op.move (Go.Operand.const (Go.Value.int Go.IntKind.i64 0)), type := 3, pos := "slots.go:127", after := #[], guard := none }) (v := ?_) rfl (Or.inl ⟨by rfl, ?_⟩) ?_; rotate_left; (focus (intro w hSw; (try dsimp only at hSw); go_simp; (try (with_reducible rfl)); done)); try simp only [Act.put, List.setIfInBounds_toArray, List.set_cons_zero, List.set_cons_succ])
  refine wpL_nil ?_
  refine NoPanic.normal ?_
  have HB0 : Hid (Below w.heap.size w w.drew) := Lib.hid (Below.refl _ _).drew
  clear hHeld
  generalize World.drew w = w0 at *
  go_wp2_with fail
  go_loopw [19, 5, 7] (fun s19 s5 _ wi => ∃ k m : Nat, s19 = .int .i64 (k : Int) ∧ s5 = .int .i64 (m : Int) ∧ k ≤ n ∧ m ≤ k ∧ Hid (cntO (fun s : Sl => !decide (s = frS)) T k = m) ∧ Hid (Below w.heap.size w wi)) (fun s19 _ _ _ => n - (intOf s19).toNat)
  case atStart => exact ⟨0, 0, rfl, rfl, by omega, by omega, Lib.hid rfl, HB0⟩
  case round =>
    obtain ⟨k, m, rfl, rfl, hk, hm, HN, HB⟩ := hrel
    clear HB0
    by_cases hlt : k < n
    · have hli : (k : Int) < (n : Int) := by omega
      have hl8 : (k : Int) < 8 := by omega
      have hk8 : k < 8 := by omega
      obtain ⟨c0, c1, c2, c3, c4, c5, c6, c7, c8, c9⟩ := (HT.out.below HB.out).cs hk8
      have HNX : Hid (cntO (fun s : Sl => !decide (s = frS)) T (k + 1) = m + ((fun s : Sl => !decide (s = frS)) (T k)).toNat) := Lib.hid (by rw [← HN.out]; rfl)
      obtain ⟨s, hs⟩ : ∃ s, T k = s := ⟨_, rfl⟩
      rw [hs] at c0 c1 c2 c3 c4 c5 c6 c7 c8 c9 HNX
      clear hs HN
      have HBA := Lib.hid (HB.out.alloc HB.out.size (.cells #[.int .i64 s.g, .bool s.v0, .bool s.v1, .bool s.v2, .bool s.v3, .bool s.d0, .bool s.d1, .bool s.d2, .bool s.d3, .int .i64 s.l] 44))
      have hszA := HBA.out.size
      have CF := Lib.hid (len1_any s (wr.alloc (.cells #[.int .i64 s.g, .bool s.v0, .bool s.v1, .bool s.v2, .bool s.v3, .bool s.d0, .bool s.d1, .bool s.d2, .bool s.d3, .int .i64 s.l] 44)))
      go_wp2_with fail
      refine CF.out.mono ?_
      rintro e w2 ⟨rfl, b2⟩
      have HB2 := Lib.hid (HBA.out.trans (b2.mono HBA.out.size))
      clear b2 CF
      cases hP : (fun s : Sl => !decide (s = frS)) s with
      | true =>
        replace hP : (!decide (s = frS)) = true := hP
        have HNX : Hid (cntO (fun s : Sl => !decide (s = frS)) T (k + 1) = m + 1) := Lib.hid (by rw [HNX.out]; show m + (!decide (s = frS)).toNat = m + 1; rw [hP]; rfl)
        rw [hP]
        go_wp2_with fail
        go_roundw
        case rel => exact ⟨k + 1, m + 1, by go_num, by go_num, by omega, by omega, HNX, HB2⟩
        case measure => simp [intOf]; omega
      | false =>
        replace hP : (!decide (s = frS)) = false := hP
        have HNX : Hid (cntO (fun s : Sl => !decide (s = frS)) T (k + 1) = m) := Lib.hid (by rw [HNX.out]; show m + (!decide (s = frS)).toNat = m; rw [hP]; rfl)
        rw [hP]
        go_wp2_with fail
        go_roundw
        case rel => exact ⟨k + 1, m, by go_num, rfl, by omega, by omega, HNX, HB2⟩
        case measure => simp [intOf]; omega
    · obtain rfl : k = n := by omega
      have hli : ¬ (k : Int) < (k : Int) := by omega
      go_wp2_with fail
      go_ret
      exact ⟨by rw [HN.out]; rfl, HB.out⟩
end Go.Proofs.Ythhgodfgigcacaa
