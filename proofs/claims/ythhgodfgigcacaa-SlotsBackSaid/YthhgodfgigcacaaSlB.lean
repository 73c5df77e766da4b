/- Package slots: free, isFree, isDirty, isGroup, the closures. -/
import Derived.Test.YthhgodfgigcacaaSlA
import Derived.Laws.NewBlocks
namespace Go.Proofs.Ythhgodfgigcacaa
open Go.RowKit Go.Deep
set_option linter.unusedVariables false
set_option linter.unusedSimpArgs false
theorem ten_below {w w' : World} {a o0 o1 o2 o3 o4 o5 o6 o7 o8 o9 : Nat} {v0 v1 v2 v3 v4 v5 v6 v7 v8 v9 : Value} (b : Below w.heap.size w w') (h : w.cell? ⟨a, o0, none⟩ = some v0 ∧ w.cell? ⟨a, o1, none⟩ = some v1 ∧ w.cell? ⟨a, o2, none⟩ = some v2 ∧ w.cell? ⟨a, o3, none⟩ = some v3 ∧ w.cell? ⟨a, o4, none⟩ = some v4 ∧ w.cell? ⟨a, o5, none⟩ = some v5 ∧ w.cell? ⟨a, o6, none⟩ = some v6 ∧ w.cell? ⟨a, o7, none⟩ = some v7 ∧ w.cell? ⟨a, o8, none⟩ = some v8 ∧ w.cell? ⟨a, o9, none⟩ = some v9) : w'.cell? ⟨a, o0, none⟩ = some v0 ∧ w'.cell? ⟨a, o1, none⟩ = some v1 ∧ w'.cell? ⟨a, o2, none⟩ = some v2 ∧ w'.cell? ⟨a, o3, none⟩ = some v3 ∧ w'.cell? ⟨a, o4, none⟩ = some v4 ∧ w'.cell? ⟨a, o5, none⟩ = some v5 ∧ w'.cell? ⟨a, o6, none⟩ = some v6 ∧ w'.cell? ⟨a, o7, none⟩ = some v7 ∧ w'.cell? ⟨a, o8, none⟩ = some v8 ∧ w'.cell? ⟨a, o9, none⟩ = some v9 := by
  have hlt : a < w.heap.size := block_lt_of_cell h.1
  have key : ∀ o v, w.cell? ⟨a, o, none⟩ = some v → w'.cell? ⟨a, o, none⟩ = some v := fun o v e => (b.cell (p := ⟨a, o, none⟩) hlt).trans e
  obtain ⟨h0, h1, h2, h3, h4, h5, h6, h7, h8, h9⟩ := h
  exact ⟨key _ _ h0, key _ _ h1, key _ _ h2, key _ _ h3, key _ _ h4, key _ _ h5, key _ _ h6, key _ _ h7, key _ _ h8, key _ _ h9⟩
set_option maxRecDepth 100000 in
set_option maxHeartbeats 2000000 in
theorem free_any (w : World) : Calls Try.prog 25 #[] w fun e w' => e = .returned (.agg #[.int .i64 (-1), .bool false, .bool false, .bool false, .bool false, .bool false, .bool false, .bool false, .bool false, .int .i64 0]) ∧ Below w.heap.size w w' := by
  go_enter Try.func25, Try.ntmps25
  go_wp2_with fail
  refine bodyPost_ret_by (results_cell_row rfl _ _ w.heap.size 44 _ (0, 0) _ rfl (heap_alloc_new _ _) Try.underlying44 rfl (by kernel_rfl)) rfl ⟨rfl, (Below.refl _ _).alloc (Nat.le_refl _) _⟩
set_option maxRecDepth 100000 in
set_option maxHeartbeats 2000000 in
theorem isDirty_any (s : Sl) (w : World) : Calls Try.prog 43 #[.agg #[.int .i64 s.g, .bool s.v0, .bool s.v1, .bool s.v2, .bool s.v3, .bool s.d0, .bool s.d1, .bool s.d2, .bool s.d3, .int .i64 s.l]] w fun e w' => e = .returned (.bool s.busy) ∧ Below w.heap.size w w' := by
  have hE : ∀ w, (Op.equalIn 10000 42 (.agg #[.bool s.d0, .bool s.d1, .bool s.d2, .bool s.d3]) (.agg #[.bool false, .bool false, .bool false, .bool false])).run Try.prog w = .ok (!s.busy) w := fun w => by
    rw [show (10000 : Nat) = 9990 + 10 from rfl, eqB4]
    unfold Sl.busy
    cases s.d0 <;> cases s.d1 <;> cases s.d2 <;> cases s.d3 <;> rfl
  have HB := Lib.hid ((Below.refl w.heap.size w).alloc (Nat.le_refl _) (.cells #[.int .i64 s.g, .bool s.v0, .bool s.v1, .bool s.v2, .bool s.v3, .bool s.d0, .bool s.d1, .bool s.d2, .bool s.d3, .int .i64 s.l] 44))
  go_enter Try.func43, Try.ntmps43
  go_wp2_with fail
  go_ret
  exact ⟨by simp, HB.out⟩
set_option maxRecDepth 100000 in
set_option maxHeartbeats 2000000 in
theorem isFree_any (s : Sl) (w : World) : Calls Try.prog 35 #[.agg #[.int .i64 s.g, .bool s.v0, .bool s.v1, .bool s.v2, .bool s.v3, .bool s.d0, .bool s.d1, .bool s.d2, .bool s.d3, .int .i64 s.l]] w fun e w' => e = .returned (.bool (decide (s = frS))) ∧ Below w.heap.size w w' := by
  have hE : ∀ w, (Op.equalIn 10000 44 (.agg #[.int .i64 s.g, .bool s.v0, .bool s.v1, .bool s.v2, .bool s.v3, .bool s.d0, .bool s.d1, .bool s.d2, .bool s.d3, .int .i64 s.l]) (.agg #[.int .i64 (-1), .bool false, .bool false, .bool false, .bool false, .bool false, .bool false, .bool false, .bool false, .int .i64 0])).run Try.prog w = .ok (decide (s = frS)) w := eqAt_slot s frS
  have HB := Lib.hid ((Below.refl w.heap.size w).alloc (Nat.le_refl _) (.cells #[.int .i64 s.g, .bool s.v0, .bool s.v1, .bool s.v2, .bool s.v3, .bool s.d0, .bool s.d1, .bool s.d2, .bool s.d3, .int .i64 s.l] 44))
  have hc : ∀ j v, (#[.int .i64 s.g, .bool s.v0, .bool s.v1, .bool s.v2, .bool s.v3, .bool s.d0, .bool s.d1, .bool s.d2, .bool s.d3, .int .i64 s.l] : Array Value)[j]? = some v → (w.alloc (.cells #[.int .i64 s.g, .bool s.v0, .bool s.v1, .bool s.v2, .bool s.v3, .bool s.d0, .bool s.d1, .bool s.d2, .bool s.d3, .int .i64 s.l] 44)).cell? ⟨w.heap.size, j, none⟩ = some v := fun j v e => (World.cell?_alloc_at _ _ _ _ rfl).trans e
  have q0 := hc 0 _ rfl
  have q1 := hc 1 _ rfl
  have q2 := hc 2 _ rfl
  have q3 := hc 3 _ rfl
  have q4 := hc 4 _ rfl
  have q5 := hc 5 _ rfl
  have q6 := hc 6 _ rfl
  have q7 := hc 7 _ rfl
  have q8 := hc 8 _ rfl
  have q9 := hc 9 _ rfl
  clear hc
  go_enter Try.func35, Try.ntmps35
  go_upto_region 1 with fail
  obtain ⟨w1, hw1⟩ : ∃ w1, w.alloc (.cells #[.int .i64 s.g, .bool s.v0, .bool s.v1, .bool s.v2, .bool s.v3, .bool s.d0, .bool s.d1, .bool s.d2, .bool s.d3, .int .i64 s.l] 44) = w1 := ⟨_, rfl⟩
  rw [hw1] at HB q0 q1 q2 q3 q4 q5 q6 q7 q8 q9 ⊢
  clear hw1
  obtain ⟨a, ha⟩ : ∃ a, Hid (w.heap.size = a) := ⟨_, Lib.hid rfl⟩
  rw [ha.out] at q0 q1 q2 q3 q4 q5 q6 q7 q8 q9 ⊢
  refine wp_region_lin (S := (fun w' => w'.cell? ⟨a, 0, none⟩ = some (.int .i64 s.g) ∧ w'.cell? ⟨a, 1, none⟩ = some (.bool s.v0) ∧ w'.cell? ⟨a, 2, none⟩ = some (.bool s.v1) ∧ w'.cell? ⟨a, 3, none⟩ = some (.bool s.v2) ∧ w'.cell? ⟨a, 4, none⟩ = some (.bool s.v3) ∧ w'.cell? ⟨a, 5, none⟩ = some (.bool s.d0) ∧ w'.cell? ⟨a, 6, none⟩ = some (.bool s.d1) ∧ w'.cell? ⟨a, 7, none⟩ = some (.bool s.d2) ∧ w'.cell? ⟨a, 8, none⟩ = some (.bool s.d3) ∧ w'.cell? ⟨a, 9, none⟩ = some (.int .i64 s.l))) [(0, true), (1, false), (2, true), (3, true)] (by kernel_rfl) (by kernel_rfl) rfl (by kernel_rfl) ?_ (fun hHeld => ?_)
  · (try dsimp only); exact ⟨q0, q1, q2, q3, q4, q5, q6, q7, q8, q9⟩
  have HBD : Hid (Below w.heap.size w w1.drew) := Lib.hid HB.out.drew
  generalize World.drew w1 = w2 at hHeld HBD ⊢
  refine wpL_calm (o := { dst := some 3, op := Go.Op.load 44 (Go.Operand.tmp 1), type := 44, pos := "slots.go:24", after := #[], guard := none }) (v := ?_) rfl (Or.inl ⟨by rfl, ?_⟩) ?_; rotate_left; (focus (intro w hSw; (try dsimp only at hSw); go_simp; (try (with_reducible rfl)); done)); try simp only [Act.put, List.setIfInBounds_toArray, List.set_cons_zero, List.set_cons_succ]
  refine wpL_loud1 (o := { dst := some 4, op := Go.Op.call { callee := Go.Callee.value (Go.Operand.func 25), args := #[], argTypes := #[] }, type := 44, pos := "slots.go:24", after := #[], guard := none }) rfl (fun K hK => ?_)
  (go_simp; go_at_call 25; refine (free_any w2).mono ?_; rintro e w3 ⟨rfl, b3⟩; have HB3 := Lib.hid (HBD.out.trans (b3.mono HBD.out.size)))
  try go_wp2_with fail
  refine hK.out _ _ ?_ (fun hHeld => ?_)
  · (try dsimp only); exact ten_below b3 hHeld
  clear hK K
  try simp only [Act.put, List.setIfInBounds_toArray, List.set_cons_zero, List.set_cons_succ]
  refine wpL_calm (o := { dst := some 5, op := Go.Op.binOp Go.BinOp.eql 44 (Go.Operand.tmp 3) (Go.Operand.tmp 4) 44, type := 4, pos := "slots.go:24", after := #[{ on := 0, ground := Go.Ground.data }, { on := 1, ground := Go.Ground.data }], guard := none }) (v := ?_) rfl (Or.inl ⟨by rfl, ?_⟩) ?_; rotate_left; (focus (intro w hSw; (try dsimp only at hSw); go_simp; (try (with_reducible rfl)); done)); try simp only [Act.put, List.setIfInBounds_toArray, List.set_cons_zero, List.set_cons_succ]
  refine wpL_calm (o := { dst := some 2, op := Go.Op.assign (Go.Operand.tmp 5), type := 4, pos := "slots.go:24", after := #[{ on := 2, ground := Go.Ground.data }, { on := 1, ground := Go.Ground.chain }, { on := 0, ground := Go.Ground.phase }, { on := 1, ground := Go.Ground.phase }, { on := 2, ground := Go.Ground.phase }], guard := none }) (v := ?_) rfl (Or.inl ⟨by rfl, ?_⟩) ?_; rotate_left; (focus (intro w hSw; (try dsimp only at hSw); go_simp; (try (with_reducible rfl)); done)); try simp only [Act.put, List.setIfInBounds_toArray, List.set_cons_zero, List.set_cons_succ]
  refine wpL_nil ?_
  refine NoPanic.normal ?_
  go_wp2_with fail
  go_ret
  exact ⟨rfl, HB3.out⟩
set_option maxRecDepth 100000 in
set_option maxHeartbeats 2000000 in
theorem isGroup_any (g : Int) (w : World) : Calls Try.prog 40 #[.int .i64 g] w fun e w' => e = .returned (.bool (decide (0 ≤ g ∧ g < 16))) ∧ w = w' := by
  by_cases h1 : 0 ≤ g
  · by_cases h2 : g < 16
    · rw [decide_eq_true ⟨h1, h2⟩]
      go_enter Try.func40, Try.ntmps40
      go_wp2_with fail
      go_ret
      exact ⟨rfl, rfl⟩
    · rw [decide_eq_false (fun hh => h2 hh.2)]
      go_enter Try.func40, Try.ntmps40
      go_wp2_with fail
      go_ret
      exact ⟨rfl, rfl⟩
  · rw [decide_eq_false (fun hh => h1 hh.1)]
    go_enter Try.func40, Try.ntmps40
    go_wp2_with fail
    go_ret
    exact ⟨rfl, rfl⟩
set_option maxRecDepth 100000 in
set_option maxHeartbeats 2000000 in
theorem find1_any (s : Sl) (g : Int) (c : Nat) (w : World) (hc : w.cell? ⟨c, 0, none⟩ = some (.int .i64 g)) : Calls Try.prog 42 #[.agg #[.int .i64 s.g, .bool s.v0, .bool s.v1, .bool s.v2, .bool s.v3, .bool s.d0, .bool s.d1, .bool s.d2, .bool s.d3, .int .i64 s.l], .pointer (some ⟨c, 0, none⟩)] w fun e w' => e = .returned (.bool (decide (s.g = g))) ∧ Below w.heap.size w w' := by
  have hcl : c < w.heap.size := block_lt_of_cell hc
  have HB := Lib.hid ((Below.refl w.heap.size w).alloc (Nat.le_refl _) (.cells #[.int .i64 s.g, .bool s.v0, .bool s.v1, .bool s.v2, .bool s.v3, .bool s.d0, .bool s.d1, .bool s.d2, .bool s.d3, .int .i64 s.l] 44))
  have hc2 := (HB.out.cell (p := ⟨c, 0, none⟩) hcl).trans hc
  go_enter Try.func42, Try.ntmps42
  go_wp2_with fail
  go_ret
  exact ⟨by congr 2; try (by_cases e : s.g = g <;> simp [e]), HB.out⟩
set_option maxRecDepth 100000 in
set_option maxHeartbeats 2000000 in
theorem len1_any (s : Sl) (w : World) : Calls Try.prog 45 #[.agg #[.int .i64 s.g, .bool s.v0, .bool s.v1, .bool s.v2, .bool s.v3, .bool s.d0, .bool s.d1, .bool s.d2, .bool s.d3, .int .i64 s.l]] w fun e w' => e = .returned (.bool (!decide (s = frS))) ∧ Below w.heap.size w w' := by
  have HB := Lib.hid ((Below.refl w.heap.size w).alloc (Nat.le_refl _) (.cells #[.int .i64 s.g, .bool s.v0, .bool s.v1, .bool s.v2, .bool s.v3, .bool s.d0, .bool s.d1, .bool s.d2, .bool s.d3, .int .i64 s.l] 44))
  have CF := Lib.hid (isFree_any s (w.alloc (.cells #[.int .i64 s.g, .bool s.v0, .bool s.v1, .bool s.v2, .bool s.v3, .bool s.d0, .bool s.d1, .bool s.d2, .bool s.d3, .int .i64 s.l] 44)))
  go_enter Try.func45, Try.ntmps45
  go_wp2_with fail
  refine CF.out.mono ?_
  rintro e w2 ⟨rfl, b2⟩
  have HB2 := Lib.hid (HB.out.trans (b2.mono HB.out.size))
  clear b2 CF
  go_wp2_with fail
  go_ret
  exact ⟨rfl, HB2.out⟩
end Go.Proofs.Ythhgodfgigcacaa
