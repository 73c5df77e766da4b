/- Slots: the law's do. -/
import Derived.Test.YthhgodfgigcacaaSlQ
namespace Go.Proofs.Ythhgodfgigcacaa
open Go.RowKit Go.Deep
set_option linter.unusedVariables false
set_option linter.unusedSimpArgs false
theorem Inv.freed {n : Nat} {T : Nat → Sl} (h : Inv n T) (i : Int) : Inv n (freT n T i) := by
  unfold freT
  by_cases e : freE n T i = 0
  · rw [if_pos e]
    unfold freE at e
    by_cases hr : refE n T i false = 0
    · obtain ⟨k, rfl, hk, _, _⟩ := ref_zero hr
      rw [Int.toNat_natCast]
      exact h.upd hk frS_ok (fun _ => rfl) (fun j hj => by rw [frS_d] at hj; exact absurd hj (by simp)) (fun hh => absurd hh (by decide))
    · rw [if_neg hr] at e; exact absurd e hr
  · rw [if_neg e]; exact h
/-- The slots behind a call. -/
def actT (n : Nat) (T : Nat → Sl) (k g i m : Int) (v d : Bool) : Nat → Sl :=
  if k = 0 ∨ k = 1 ∨ k = 2 then takT n T g
  else if k = 4 ∨ k = 5 ∨ k = 6 then marT n T i m v d
  else if k = 7 then raiT n T i m (refE n T i (outB m))
  else if k = 3 then freT n T i
  else T
theorem Inv.act {n : Nat} {T : Nat → Sl} (h : Inv n T) (k g i m : Int) (v d : Bool) : Inv n (actT n T k g i m v d) := by
  unfold actT
  split
  · exact h.taken g
  · split
    · exact h.marked i m v d
    · split
      · exact h.raised i m
      · split
        · exact h.freed i
        · exact h
/-- What a call finds: the table, the list, the call's own block. -/
theorem act_start {w : World} {B b n : Nat} {vv : Value} {T X : Nat → Sl} (A : Array Value) (hT : TAt w b n T) (hL : LAt w B vv n X) (hB : B ≤ b) : ∃ w1 a, Hid (w.alloc (.cells A 33) = w1) ∧ Hid (w.heap.size = a) ∧ a ≠ b ∧ Hid (w1.heap[a]? = some (.cells A 33 (0, 0))) ∧ TAt w1 b n T ∧ LAt w1 B vv n X ∧ Hid (Kt B b w w1) := by
  have hb1 : Below w.heap.size w (w.alloc (.cells A 33)) := (Below.refl _ _).alloc (Nat.le_refl _) _
  have hlt := hT.lt
  exact ⟨_, _, Lib.hid rfl, Lib.hid rfl, by omega, Lib.hid (heap_alloc_new _ _), hT.below hb1, hL.below hb1, Lib.hid (Kt.of_below hb1 (Nat.le_trans hB (Nat.le_of_lt hlt)))⟩
theorem LawP.more {B b n : Nat} {w w1 w' : World} {T X T' X' : Nat → Sl} {e : Ending} (h : LawP B b n w1 T X T' X' e w') (k : Kt B b w w1) : LawP B b n w T X T' X' e w' := by
  obtain ⟨v', bb, h1, h2, h3, h4, h5⟩ := h
  exact ⟨v', bb, h1, h2, h3, h4, k.trans h5⟩
set_option maxRecDepth 100000 in
set_option maxHeartbeats 8000000 in
theorem ldo0_any (B b n : Nat) (vv : Value) (T X : Nat → Sl) (gr i m : Int) (v d : Bool) (w : World) (hT : TAt w b n T) (hL : LAt w B vv n X) (h8 : n ≤ 8) (hB : B ≤ b) (hI : Inv n X) : Calls Try.prog 11 #[.pointer (some ⟨b, 0, none⟩), vv, .agg #[.int .i64 0, .int .i64 gr, .int .i64 i, .int .i64 m, .bool v, .bool d]] w (LawP B b n w T X (actT n T 0 gr i m v d) (actT n X 0 gr i m v d)) := by
  have hact : ∀ Y, actT n Y 0 gr i m v d = takT n Y gr := fun Y => by unfold actT; rw [if_pos (by decide)]
  rw [hact, hact]
  clear hact
  obtain ⟨ao, c, rfl⟩ := own_form hL
  obtain ⟨w1, a, hw1, ha, hab, HR1, t1, l1, HK1⟩ := act_start #[.int .i64 0, .int .i64 gr, .int .i64 i, .int .i64 m, .bool v, .bool d] hT hL hB
  have CM := Lib.hid (ltake_any B b n (.slice ao n c) T X gr w1 t1 l1 h8 hB hI)
  have q0 : w1.cell? ⟨a, 0, none⟩ = some (.int .i64 0) := row_cell22 HR1.out 0 _ rfl
  have q1 : w1.cell? ⟨a, 1, none⟩ = some (.int .i64 gr) := row_cell22 HR1.out 1 _ rfl
  have q2 : w1.cell? ⟨a, 2, none⟩ = some (.int .i64 i) := row_cell22 HR1.out 2 _ rfl
  have q3 : w1.cell? ⟨a, 3, none⟩ = some (.int .i64 m) := row_cell22 HR1.out 3 _ rfl
  have q4 : w1.cell? ⟨a, 4, none⟩ = some (.bool v) := row_cell22 HR1.out 4 _ rfl
  have q5 : w1.cell? ⟨a, 5, none⟩ = some (.bool d) := row_cell22 HR1.out 5 _ rfl
  clear hT hL t1 l1
  go_enter Try.func11, Try.ntmps11
  go_upto_region 1 with fail
  rw [hw1.out, ha.out]
  clear hw1 ha
  go_wp2_with fail
  refine CM.out.mono ?_
  rintro e w2 ⟨v', bb, rfl, h2, h3, h4, h5⟩
  have HZ := Lib.hid (⟨h2, h3, h4, HK1.out.trans h5⟩ : _ ∧ _ ∧ _ ∧ _)
  clear h2 h3 h4 h5
  go_wp2_with fail
  go_ret2
  exact ⟨v', bb, rfl, HZ.out.1, HZ.out.2.1, HZ.out.2.2.1, HZ.out.2.2.2⟩
set_option maxRecDepth 100000 in
set_option maxHeartbeats 8000000 in
theorem ldo1_any (B b n : Nat) (vv : Value) (T X : Nat → Sl) (gr i m : Int) (v d : Bool) (w : World) (hT : TAt w b n T) (hL : LAt w B vv n X) (h8 : n ≤ 8) (hB : B ≤ b) (hI : Inv n X) : Calls Try.prog 11 #[.pointer (some ⟨b, 0, none⟩), vv, .agg #[.int .i64 1, .int .i64 gr, .int .i64 i, .int .i64 m, .bool v, .bool d]] w (LawP B b n w T X (actT n T 1 gr i m v d) (actT n X 1 gr i m v d)) := by
  have hact : ∀ Y, actT n Y 1 gr i m v d = takT n Y gr := fun Y => by unfold actT; rw [if_pos (by decide)]
  rw [hact, hact]
  clear hact
  obtain ⟨ao, c, rfl⟩ := own_form hL
  obtain ⟨w1, a, hw1, ha, hab, HR1, t1, l1, HK1⟩ := act_start #[.int .i64 1, .int .i64 gr, .int .i64 i, .int .i64 m, .bool v, .bool d] hT hL hB
  have CM := Lib.hid (ltake_any B b n (.slice ao n c) T X gr w1 t1 l1 h8 hB hI)
  have q0 : w1.cell? ⟨a, 0, none⟩ = some (.int .i64 1) := row_cell22 HR1.out 0 _ rfl
  have q1 : w1.cell? ⟨a, 1, none⟩ = some (.int .i64 gr) := row_cell22 HR1.out 1 _ rfl
  have q2 : w1.cell? ⟨a, 2, none⟩ = some (.int .i64 i) := row_cell22 HR1.out 2 _ rfl
  have q3 : w1.cell? ⟨a, 3, none⟩ = some (.int .i64 m) := row_cell22 HR1.out 3 _ rfl
  have q4 : w1.cell? ⟨a, 4, none⟩ = some (.bool v) := row_cell22 HR1.out 4 _ rfl
  have q5 : w1.cell? ⟨a, 5, none⟩ = some (.bool d) := row_cell22 HR1.out 5 _ rfl
  clear hT hL t1 l1
  go_enter Try.func11, Try.ntmps11
  go_upto_region 1 with fail
  rw [hw1.out, ha.out]
  clear hw1 ha
  go_wp2_with fail
  refine CM.out.mono ?_
  rintro e w2 ⟨v', bb, rfl, h2, h3, h4, h5⟩
  have HZ := Lib.hid (⟨h2, h3, h4, HK1.out.trans h5⟩ : _ ∧ _ ∧ _ ∧ _)
  clear h2 h3 h4 h5
  go_wp2_with fail
  go_ret2
  exact ⟨v', bb, rfl, HZ.out.1, HZ.out.2.1, HZ.out.2.2.1, HZ.out.2.2.2⟩
set_option maxRecDepth 100000 in
set_option maxHeartbeats 8000000 in
theorem ldo2_any (B b n : Nat) (vv : Value) (T X : Nat → Sl) (gr i m : Int) (v d : Bool) (w : World) (hT : TAt w b n T) (hL : LAt w B vv n X) (h8 : n ≤ 8) (hB : B ≤ b) (hI : Inv n X) : Calls Try.prog 11 #[.pointer (some ⟨b, 0, none⟩), vv, .agg #[.int .i64 2, .int .i64 gr, .int .i64 i, .int .i64 m, .bool v, .bool d]] w (LawP B b n w T X (actT n T 2 gr i m v d) (actT n X 2 gr i m v d)) := by
  have hact : ∀ Y, actT n Y 2 gr i m v d = takT n Y gr := fun Y => by unfold actT; rw [if_pos (by decide)]
  rw [hact, hact]
  clear hact
  obtain ⟨ao, c, rfl⟩ := own_form hL
  obtain ⟨w1, a, hw1, ha, hab, HR1, t1, l1, HK1⟩ := act_start #[.int .i64 2, .int .i64 gr, .int .i64 i, .int .i64 m, .bool v, .bool d] hT hL hB
  have CM := Lib.hid (ltake_any B b n (.slice ao n c) T X gr w1 t1 l1 h8 hB hI)
  have q0 : w1.cell? ⟨a, 0, none⟩ = some (.int .i64 2) := row_cell22 HR1.out 0 _ rfl
  have q1 : w1.cell? ⟨a, 1, none⟩ = some (.int .i64 gr) := row_cell22 HR1.out 1 _ rfl
  have q2 : w1.cell? ⟨a, 2, none⟩ = some (.int .i64 i) := row_cell22 HR1.out 2 _ rfl
  have q3 : w1.cell? ⟨a, 3, none⟩ = some (.int .i64 m) := row_cell22 HR1.out 3 _ rfl
  have q4 : w1.cell? ⟨a, 4, none⟩ = some (.bool v) := row_cell22 HR1.out 4 _ rfl
  have q5 : w1.cell? ⟨a, 5, none⟩ = some (.bool d) := row_cell22 HR1.out 5 _ rfl
  clear hT hL t1 l1
  go_enter Try.func11, Try.ntmps11
  go_upto_region 1 with fail
  rw [hw1.out, ha.out]
  clear hw1 ha
  go_wp2_with fail
  refine CM.out.mono ?_
  rintro e w2 ⟨v', bb, rfl, h2, h3, h4, h5⟩
  have HZ := Lib.hid (⟨h2, h3, h4, HK1.out.trans h5⟩ : _ ∧ _ ∧ _ ∧ _)
  clear h2 h3 h4 h5
  go_wp2_with fail
  go_ret2
  exact ⟨v', bb, rfl, HZ.out.1, HZ.out.2.1, HZ.out.2.2.1, HZ.out.2.2.2⟩
set_option maxRecDepth 100000 in
set_option maxHeartbeats 8000000 in
theorem ldo4_any (B b n : Nat) (vv : Value) (T X : Nat → Sl) (gr i m : Int) (v d : Bool) (w : World) (hT : TAt w b n T) (hL : LAt w B vv n X) (h8 : n ≤ 8) (hB : B ≤ b) (hI : Inv n X) : Calls Try.prog 11 #[.pointer (some ⟨b, 0, none⟩), vv, .agg #[.int .i64 4, .int .i64 gr, .int .i64 i, .int .i64 m, .bool v, .bool d]] w (LawP B b n w T X (actT n T 4 gr i m v d) (actT n X 4 gr i m v d)) := by
  have hact : ∀ Y, actT n Y 4 gr i m v d = marT n Y i m v d := fun Y => by unfold actT; rw [if_neg (by decide), if_pos (by decide)]
  rw [hact, hact]
  clear hact
  obtain ⟨ao, c, rfl⟩ := own_form hL
  obtain ⟨w1, a, hw1, ha, hab, HR1, t1, l1, HK1⟩ := act_start #[.int .i64 4, .int .i64 gr, .int .i64 i, .int .i64 m, .bool v, .bool d] hT hL hB
  have CM := Lib.hid (lmark0_any B b n (.slice ao n c) T X 4 gr i m v d w1 t1 l1 h8 hB hI (by decide))
  have q0 : w1.cell? ⟨a, 0, none⟩ = some (.int .i64 4) := row_cell22 HR1.out 0 _ rfl
  have q1 : w1.cell? ⟨a, 1, none⟩ = some (.int .i64 gr) := row_cell22 HR1.out 1 _ rfl
  have q2 : w1.cell? ⟨a, 2, none⟩ = some (.int .i64 i) := row_cell22 HR1.out 2 _ rfl
  have q3 : w1.cell? ⟨a, 3, none⟩ = some (.int .i64 m) := row_cell22 HR1.out 3 _ rfl
  have q4 : w1.cell? ⟨a, 4, none⟩ = some (.bool v) := row_cell22 HR1.out 4 _ rfl
  have q5 : w1.cell? ⟨a, 5, none⟩ = some (.bool d) := row_cell22 HR1.out 5 _ rfl
  clear hT hL t1 l1
  go_enter Try.func11, Try.ntmps11
  go_upto_region 1 with fail
  rw [hw1.out, ha.out]
  clear hw1 ha
  go_wp2_with fail
  refine CM.out.mono ?_
  rintro e w2 ⟨v', bb, rfl, h2, h3, h4, h5⟩
  have HZ := Lib.hid (⟨h2, h3, h4, HK1.out.trans h5⟩ : _ ∧ _ ∧ _ ∧ _)
  clear h2 h3 h4 h5
  go_wp2_with fail
  go_ret2
  exact ⟨v', bb, rfl, HZ.out.1, HZ.out.2.1, HZ.out.2.2.1, HZ.out.2.2.2⟩
set_option maxRecDepth 100000 in
set_option maxHeartbeats 8000000 in
theorem ldo5_any (B b n : Nat) (vv : Value) (T X : Nat → Sl) (gr i m : Int) (v d : Bool) (w : World) (hT : TAt w b n T) (hL : LAt w B vv n X) (h8 : n ≤ 8) (hB : B ≤ b) (hI : Inv n X) : Calls Try.prog 11 #[.pointer (some ⟨b, 0, none⟩), vv, .agg #[.int .i64 5, .int .i64 gr, .int .i64 i, .int .i64 m, .bool v, .bool d]] w (LawP B b n w T X (actT n T 5 gr i m v d) (actT n X 5 gr i m v d)) := by
  have hact : ∀ Y, actT n Y 5 gr i m v d = marT n Y i m v d := fun Y => by unfold actT; rw [if_neg (by decide), if_pos (by decide)]
  rw [hact, hact]
  clear hact
  obtain ⟨ao, c, rfl⟩ := own_form hL
  obtain ⟨w1, a, hw1, ha, hab, HR1, t1, l1, HK1⟩ := act_start #[.int .i64 5, .int .i64 gr, .int .i64 i, .int .i64 m, .bool v, .bool d] hT hL hB
  have CM := Lib.hid (lmark0_any B b n (.slice ao n c) T X 5 gr i m v d w1 t1 l1 h8 hB hI (by decide))
  have q0 : w1.cell? ⟨a, 0, none⟩ = some (.int .i64 5) := row_cell22 HR1.out 0 _ rfl
  have q1 : w1.cell? ⟨a, 1, none⟩ = some (.int .i64 gr) := row_cell22 HR1.out 1 _ rfl
  have q2 : w1.cell? ⟨a, 2, none⟩ = some (.int .i64 i) := row_cell22 HR1.out 2 _ rfl
  have q3 : w1.cell? ⟨a, 3, none⟩ = some (.int .i64 m) := row_cell22 HR1.out 3 _ rfl
  have q4 : w1.cell? ⟨a, 4, none⟩ = some (.bool v) := row_cell22 HR1.out 4 _ rfl
  have q5 : w1.cell? ⟨a, 5, none⟩ = some (.bool d) := row_cell22 HR1.out 5 _ rfl
  clear hT hL t1 l1
  go_enter Try.func11, Try.ntmps11
  go_upto_region 1 with fail
  rw [hw1.out, ha.out]
  clear hw1 ha
  go_wp2_with fail
  refine CM.out.mono ?_
  rintro e w2 ⟨v', bb, rfl, h2, h3, h4, h5⟩
  have HZ := Lib.hid (⟨h2, h3, h4, HK1.out.trans h5⟩ : _ ∧ _ ∧ _ ∧ _)
  clear h2 h3 h4 h5
  go_wp2_with fail
  go_ret2
  exact ⟨v', bb, rfl, HZ.out.1, HZ.out.2.1, HZ.out.2.2.1, HZ.out.2.2.2⟩
set_option maxRecDepth 100000 in
set_option maxHeartbeats 8000000 in
theorem ldo6_any (B b n : Nat) (vv : Value) (T X : Nat → Sl) (gr i m : Int) (v d : Bool) (w : World) (hT : TAt w b n T) (hL : LAt w B vv n X) (h8 : n ≤ 8) (hB : B ≤ b) (hI : Inv n X) : Calls Try.prog 11 #[.pointer (some ⟨b, 0, none⟩), vv, .agg #[.int .i64 6, .int .i64 gr, .int .i64 i, .int .i64 m, .bool v, .bool d]] w (LawP B b n w T X (actT n T 6 gr i m v d) (actT n X 6 gr i m v d)) := by
  have hact : ∀ Y, actT n Y 6 gr i m v d = marT n Y i m v d := fun Y => by unfold actT; rw [if_neg (by decide), if_pos (by decide)]
  rw [hact, hact]
  clear hact
  obtain ⟨ao, c, rfl⟩ := own_form hL
  obtain ⟨w1, a, hw1, ha, hab, HR1, t1, l1, HK1⟩ := act_start #[.int .i64 6, .int .i64 gr, .int .i64 i, .int .i64 m, .bool v, .bool d] hT hL hB
  have CM := Lib.hid (lmark0_any B b n (.slice ao n c) T X 6 gr i m v d w1 t1 l1 h8 hB hI (by decide))
  have q0 : w1.cell? ⟨a, 0, none⟩ = some (.int .i64 6) := row_cell22 HR1.out 0 _ rfl
  have q1 : w1.cell? ⟨a, 1, none⟩ = some (.int .i64 gr) := row_cell22 HR1.out 1 _ rfl
  have q2 : w1.cell? ⟨a, 2, none⟩ = some (.int .i64 i) := row_cell22 HR1.out 2 _ rfl
  have q3 : w1.cell? ⟨a, 3, none⟩ = some (.int .i64 m) := row_cell22 HR1.out 3 _ rfl
  have q4 : w1.cell? ⟨a, 4, none⟩ = some (.bool v) := row_cell22 HR1.out 4 _ rfl
  have q5 : w1.cell? ⟨a, 5, none⟩ = some (.bool d) := row_cell22 HR1.out 5 _ rfl
  clear hT hL t1 l1
  go_enter Try.func11, Try.ntmps11
  go_upto_region 1 with fail
  rw [hw1.out, ha.out]
  clear hw1 ha
  go_wp2_with fail
  refine CM.out.mono ?_
  rintro e w2 ⟨v', bb, rfl, h2, h3, h4, h5⟩
  have HZ := Lib.hid (⟨h2, h3, h4, HK1.out.trans h5⟩ : _ ∧ _ ∧ _ ∧ _)
  clear h2 h3 h4 h5
  go_wp2_with fail
  go_ret2
  exact ⟨v', bb, rfl, HZ.out.1, HZ.out.2.1, HZ.out.2.2.1, HZ.out.2.2.2⟩
theorem Inv.fnd {n : Nat} {X : Nat → Sl} (h : Inv n X) (g : Int) : fndR X n g = match fndO X n g with | some i => (i : Int) | none => -1 := by
  by_cases hg : 0 ≤ g ∧ g < 16
  · exact fndR_O hg
  · have h2 : fndO X n g = none := by unfold fndO grpB; rw [if_neg (by simpa using hg)]
    rw [h2]
    unfold fndR
    by_cases h0 : 0 ≤ g
    · rw [if_pos h0, fst_none (P := fun s : Sl => decide (s.g = g)) (T := X) (fun j hj => decide_eq_false (fun e => by have := (h.ok j).g2; omega))]
    · rw [if_neg h0]
set_option maxRecDepth 100000 in
set_option maxHeartbeats 8000000 in
theorem ldo8_any (B b n : Nat) (vv : Value) (T X : Nat → Sl) (k gr i m : Int) (v d : Bool) (w : World) (hT : TAt w b n T) (hL : LAt w B vv n X) (h8 : n ≤ 8) (hB : B ≤ b) (hI : Inv n X) (hk0 : ¬ k = 0) (hk1 : ¬ k = 1) (hk2 : ¬ k = 2) (hk3 : ¬ k = 3) (hk4 : ¬ k = 4) (hk5 : ¬ k = 5) (hk6 : ¬ k = 6) (hk7 : ¬ k = 7) : Calls Try.prog 11 #[.pointer (some ⟨b, 0, none⟩), vv, .agg #[.int .i64 k, .int .i64 gr, .int .i64 i, .int .i64 m, .bool v, .bool d]] w (LawP B b n w T X (actT n T k gr i m v d) (actT n X k gr i m v d)) := by
  have hact : ∀ Y, actT n Y k gr i m v d = Y := fun Y => by unfold actT; rw [if_neg (by omega), if_neg (by omega), if_neg hk7, if_neg hk3]
  rw [hact, hact]
  clear hact
  obtain ⟨ao, c, rfl⟩ := own_form hL
  obtain ⟨w1, a, hw1, ha, hab, HR1, t1, l1, HK1⟩ := act_start #[.int .i64 k, .int .i64 gr, .int .i64 i, .int .i64 m, .bool v, .bool d] hT hL hB
  have CF := Lib.hid (findT_any b n T gr w1 t1 h8)
  have CR := Lib.hid (fun w' (hb : Below w1.heap.size w1 w') => rfind_any B n (.slice ao n c) X gr w' (l1.below hb) h8)
  rw [hI.fnd gr] at CR
  have hBw1 : B ≤ w1.heap.size := Nat.le_trans hB (Nat.le_of_lt t1.lt)
  have HT1 := Lib.hid t1
  have HL1 := Lib.hid l1
  have q0 : w1.cell? ⟨a, 0, none⟩ = some (.int .i64 k) := row_cell22 HR1.out 0 _ rfl
  have q1 : w1.cell? ⟨a, 1, none⟩ = some (.int .i64 gr) := row_cell22 HR1.out 1 _ rfl
  have haw : a < w1.heap.size := (Array.getElem?_eq_some_iff.1 HR1.out).1
  obtain ⟨x, hx⟩ : ∃ x, fndO X n gr = x := ⟨_, rfl⟩
  obtain ⟨y, hy⟩ : ∃ y, fndO T n gr = y := ⟨_, rfl⟩
  have HXY : Hid (T = X → y = x) := Lib.hid (fun e => by rw [← hx, ← hy, e])
  rw [hx] at CR
  rw [hy] at CF
  clear hT hL t1 l1 hx hy hI
  go_enter Try.func11, Try.ntmps11
  go_upto_region 1 with fail
  rw [hw1.out, ha.out]
  clear hw1 ha
  rcases y with _ | y <;> rcases x with _ | x
  all_goals
    unfold fstV at CF
    go_wp2_with fail
    refine CF.out.mono ?_
    rintro e w2 ⟨rfl, b2⟩
    have q1' := (b2.cell (p := ⟨a, 1, none⟩) haw).trans q1
    have CR2 := Lib.hid (CR.out w2 b2)
    have HT2 := Lib.hid (HT1.out.below b2)
    have HL2 := Lib.hid (HL1.out.below b2)
    have HK2 := Lib.hid (HK1.out.trans (Kt.of_below b2 hBw1))
    clear b2 CF CR
    go_wp2_with fail
    refine CR2.out.mono ?_
    rintro e w' ⟨rfl, rfl⟩
    clear CR2
  · go_wp2_with fail
    go_ret2
    exact ⟨_, _, rfl, fun _ => rfl, HT2.out, HL2.out, HK2.out⟩
  · have hx0 : (0 : Int) ≤ (x : Int) := by omega
    go_wp2_with fail
    go_ret2
    exact ⟨_, _, rfl, fun e => absurd (HXY.out e) (by simp), HT2.out, HL2.out, HK2.out⟩
  · go_wp2_with fail
    go_ret2
    exact ⟨_, _, rfl, fun e => absurd (HXY.out e) (by simp), HT2.out, HL2.out, HK2.out⟩
  · have hx0 : (0 : Int) ≤ (x : Int) := by omega
    go_wp2_with fail
    go_ret2
    exact ⟨_, _, rfl, fun e => by have h := HXY.out e; injection h with h; subst h; simp, HT2.out, HL2.out, HK2.out⟩
set_option maxRecDepth 100000 in
set_option maxHeartbeats 8000000 in
theorem ldo7_any (B b n : Nat) (vv : Value) (T X : Nat → Sl) (gr i m : Int) (v d : Bool) (w : World) (hT : TAt w b n T) (hL : LAt w B vv n X) (h8 : n ≤ 8) (hB : B ≤ b) (hI : Inv n X) : Calls Try.prog 11 #[.pointer (some ⟨b, 0, none⟩), vv, .agg #[.int .i64 7, .int .i64 gr, .int .i64 i, .int .i64 m, .bool v, .bool d]] w (LawP B b n w T X (actT n T 7 gr i m v d) (actT n X 7 gr i m v d)) := by
  have hact : ∀ Y, actT n Y 7 gr i m v d = raiT n Y i m (refE n Y i (outB m)) := fun Y => by unfold actT; rw [if_neg (by decide), if_neg (by decide), if_pos rfl]
  rw [hact, hact]
  clear hact
  obtain ⟨ao, c, rfl⟩ := own_form hL
  obtain ⟨w1, a, hw1, ha, hab, HR1, t1, l1, HK1⟩ := act_start #[.int .i64 7, .int .i64 gr, .int .i64 i, .int .i64 m, .bool v, .bool d] hT hL hB
  have CM := Lib.hid (lmark7_any B b n (.slice ao n c) T X gr i m v d w1 t1 l1 h8 hB hI)
  have q0 : w1.cell? ⟨a, 0, none⟩ = some (.int .i64 7) := row_cell22 HR1.out 0 _ rfl
  have q1 : w1.cell? ⟨a, 1, none⟩ = some (.int .i64 gr) := row_cell22 HR1.out 1 _ rfl
  have q2 : w1.cell? ⟨a, 2, none⟩ = some (.int .i64 i) := row_cell22 HR1.out 2 _ rfl
  have q3 : w1.cell? ⟨a, 3, none⟩ = some (.int .i64 m) := row_cell22 HR1.out 3 _ rfl
  have q4 : w1.cell? ⟨a, 4, none⟩ = some (.bool v) := row_cell22 HR1.out 4 _ rfl
  have q5 : w1.cell? ⟨a, 5, none⟩ = some (.bool d) := row_cell22 HR1.out 5 _ rfl
  clear hT hL t1 l1
  go_enter Try.func11, Try.ntmps11
  go_upto_region 1 with fail
  rw [hw1.out, ha.out]
  clear hw1 ha
  go_wp2_with fail
  refine CM.out.mono ?_
  rintro e w2 ⟨v', bb, rfl, h2, h3, h4, h5⟩
  have HZ := Lib.hid (⟨h2, h3, h4, HK1.out.trans h5⟩ : _ ∧ _ ∧ _ ∧ _)
  clear h2 h3 h4 h5
  go_wp2_with fail
  go_ret2
  exact ⟨v', bb, rfl, HZ.out.1, HZ.out.2.1, HZ.out.2.2.1, HZ.out.2.2.2⟩
set_option maxRecDepth 100000 in
set_option maxHeartbeats 8000000 in
theorem ldo3_any (B b n : Nat) (vv : Value) (T X : Nat → Sl) (gr i m : Int) (v d : Bool) (w : World) (hT : TAt w b n T) (hL : LAt w B vv n X) (h8 : n ≤ 8) (hB : B ≤ b) (hI : Inv n X) : Calls Try.prog 11 #[.pointer (some ⟨b, 0, none⟩), vv, .agg #[.int .i64 3, .int .i64 gr, .int .i64 i, .int .i64 m, .bool v, .bool d]] w (LawP B b n w T X (actT n T 3 gr i m v d) (actT n X 3 gr i m v d)) := by
  have hact : ∀ Y, actT n Y 3 gr i m v d = freT n Y i := fun Y => by unfold actT; rw [if_neg (by decide), if_neg (by decide), if_neg (by decide), if_pos rfl]
  rw [hact, hact]
  clear hact
  obtain ⟨ao, c, rfl⟩ := own_form hL
  obtain ⟨w1, a, hw1, ha, hab, HR1, t1, l1, HK1⟩ := act_start #[.int .i64 3, .int .i64 gr, .int .i64 i, .int .i64 m, .bool v, .bool d] hT hL hB
  have CT := Lib.hid (freeT_any B b n T i w1 t1 h8 hB)
  have HI := Lib.hid hI
  obtain ⟨z, hz⟩ : ∃ z, freE n T i = z := ⟨_, rfl⟩
  rw [hz] at CT
  have HZ : Hid (T = X → freE n X i = z) := Lib.hid (fun e => by rw [← e]; exact hz)
  obtain ⟨T2, hT2⟩ : ∃ T2, freT n T i = T2 := ⟨_, rfl⟩
  rw [hT2] at CT ⊢
  have q0 : w1.cell? ⟨a, 0, none⟩ = some (.int .i64 3) := row_cell22 HR1.out 0 _ rfl
  have q2 : w1.cell? ⟨a, 2, none⟩ = some (.int .i64 i) := row_cell22 HR1.out 2 _ rfl
  clear hz hT2 hI hT hL
  go_enter Try.func11, Try.ntmps11
  go_upto_region 1 with fail
  rw [hw1.out, ha.out]
  clear hw1 ha
  go_wp2_with fail
  refine CT.out.mono ?_
  rintro e w2 ⟨rfl, t2, k2⟩
  have HT2 := Lib.hid t2
  have HL2 := Lib.hid (l1.kt k2 t1)
  have HK2 := Lib.hid (HK1.out.trans k2)
  have hr2 := (k2.other a (Array.getElem?_eq_some_iff.1 HR1.out).1 hab).trans HR1.out
  have hBw2 : B ≤ w2.heap.size := Nat.le_trans hB (Nat.le_of_lt t2.lt)
  clear t2 k2 CT q0 q2 t1 l1 HK1 HR1
  have q2 : w2.cell? ⟨a, 2, none⟩ = some (.int .i64 i) := row_cell22 hr2 2 _ rfl
  have hcase : (¬ 0 ≤ i ∨ (0 ≤ i ∧ ¬ i < (n : Int))) ∨ (0 ≤ i ∧ i < (n : Int)) := by omega
  rcases hcase with hout | ⟨hi0, hin⟩
  · have hE : refE n X i false = 3 := by unfold refE; rw [if_pos (by rcases hout with h | ⟨h, h'⟩; exact Or.inl (by omega); exact Or.inr (Or.inl (by omega)))]
    have hF : freE n X i = 3 := by unfold freE; rw [hE]; rfl
    have HE : Hid (freE n X i = 3 ∧ freT n X i = X) := Lib.hid ⟨hF, by unfold freT; rw [hF]; rfl⟩
    rw [HE.out.1] at HZ
    clear hE hF
    rcases hout with u1 | ⟨u1, u2⟩
    · have u3 : i < 0 := by omega
      go_wp2_with fail
      go_ret2
      exact ⟨_, _, rfl, fun e => by have h := HZ.out e; subst h; rfl, HT2.out, by rw [HE.out.2]; exact HL2.out, HK2.out⟩
    · have u3 : ¬ i < 0 := by omega
      have u4 : (n : Int) ≤ i := by omega
      go_wp2_with fail
      go_ret2
      exact ⟨_, _, rfl, fun e => by have h := HZ.out e; subst h; rfl, HT2.out, by rw [HE.out.2]; exact HL2.out, HK2.out⟩
  · obtain ⟨j, rfl⟩ : ∃ j : Nat, i = (j : Int) := ⟨i.toNat, by omega⟩
    have hjn : j < n := by omega
    have u3 : ¬ (j : Int) < 0 := by omega
    have u4 : ¬ (n : Int) ≤ (j : Int) := by omega
    have hRE : refE n X (j : Int) false = if X j = frS then 7 else 0 := by unfold refE; rw [if_neg (by simp; omega), Int.toNat_natCast]
    have hneg := HI.out.neg j
    obtain ⟨r, rfl, hb, hBr, hc⟩ := HL2.out.at_ (by omega)
    have c0 : w2.cell? ⟨r, j * 10, none⟩ = some (.int .i64 (X j).g) := hc j hjn 0 (by omega)
    by_cases hx : (X j).g < 0
    · rw [decide_eq_true hx] at hneg
      have hxf : X j = frS := of_decide_eq_true hneg
      rw [if_pos hxf] at hRE
      have hF : freE n X (j : Int) = 7 := by unfold freE; rw [hRE]; rfl
      have HE : Hid (freE n X (j : Int) = 7 ∧ freT n X (j : Int) = X) := Lib.hid ⟨hF, by unfold freT; rw [hF]; rfl⟩
      rw [HE.out.1] at HZ
      obtain ⟨x, hxx⟩ : ∃ x, (X j).g = x := ⟨_, rfl⟩
      rw [hxx] at c0 hx
      clear hxx hc hneg hxf hRE hF
      go_wp2_with fail
      go_ret2
      exact ⟨_, _, rfl, fun e => by have h := HZ.out e; subst h; rfl, HT2.out, by rw [HE.out.2]; exact HL2.out, HK2.out⟩
    · rw [decide_eq_false hx] at hneg
      have hxf : X j ≠ frS := of_decide_eq_false hneg
      rw [if_neg hxf] at hRE
      have hF : freE n X (j : Int) = if (X j).busy = true then 15 else 0 := by unfold freE; rw [hRE, if_pos rfl, Int.toNat_natCast]
      have HFT : Hid (freT n X (j : Int) = if freE n X (j : Int) = 0 then upd X j frS else X) := Lib.hid (by unfold freT; rw [Int.toNat_natCast])
      have c1 : w2.cell? ⟨r, j * 10 + 1, none⟩ = some (.bool (X j).v0) := hc j hjn 1 (by omega)
      have c2 : w2.cell? ⟨r, j * 10 + 2, none⟩ = some (.bool (X j).v1) := hc j hjn 2 (by omega)
      have c3 : w2.cell? ⟨r, j * 10 + 3, none⟩ = some (.bool (X j).v2) := hc j hjn 3 (by omega)
      have c4 : w2.cell? ⟨r, j * 10 + 4, none⟩ = some (.bool (X j).v3) := hc j hjn 4 (by omega)
      have c5 : w2.cell? ⟨r, j * 10 + 5, none⟩ = some (.bool (X j).d0) := hc j hjn 5 (by omega)
      have c6 : w2.cell? ⟨r, j * 10 + 6, none⟩ = some (.bool (X j).d1) := hc j hjn 6 (by omega)
      have c7 : w2.cell? ⟨r, j * 10 + 7, none⟩ = some (.bool (X j).d2) := hc j hjn 7 (by omega)
      have c8 : w2.cell? ⟨r, j * 10 + 8, none⟩ = some (.bool (X j).d3) := hc j hjn 8 (by omega)
      have c9 : w2.cell? ⟨r, j * 10 + 9, none⟩ = some (.int .i64 (X j).l) := hc j hjn 9 (by omega)
      have CS := Lib.hid (fun w' (hb : Below w2.heap.size w2 w') => rset_any B n j (.slice (some ⟨r, 0, none⟩) n c) X frS w' (HL2.out.below hb) h8 hjn)
      obtain ⟨s, hs⟩ : ∃ s, X j = s := ⟨_, rfl⟩
      rw [hs] at c0 c1 c2 c3 c4 c5 c6 c7 c8 c9 hF hx
      have CB := Lib.hid (rbusy_any s w2)
      have HF := Lib.hid hF
      have haw2 : a < w2.heap.size := (Array.getElem?_eq_some_iff.1 hr2).1
      clear hs hc hneg hxf hRE hF
      cases hbz : s.busy with
      | true =>
        rw [hbz] at CB HF
        have HE : Hid (freE n X (j : Int) = 15 ∧ freT n X (j : Int) = X) := Lib.hid ⟨HF.out, by rw [HFT.out, HF.out]; rfl⟩
        rw [HE.out.1] at HZ
        clear hbz HF HFT CS
        go_wp2_with fail
        refine CB.out.mono ?_
        rintro e w3 ⟨rfl, b3⟩
        have HT3 := Lib.hid (HT2.out.below b3)
        have HL3 := Lib.hid (HL2.out.below b3)
        have HK3 := Lib.hid (HK2.out.trans (Kt.of_below b3 hBw2))
        clear b3 CB
        go_wp2_with fail
        go_ret2
        exact ⟨_, _, rfl, fun e => by have h := HZ.out e; subst h; rfl, HT3.out, by rw [HE.out.2]; exact HL3.out, HK3.out⟩
      | false =>
        rw [hbz] at CB HF
        have HE : Hid (freE n X (j : Int) = 0 ∧ freT n X (j : Int) = upd X j frS) := Lib.hid ⟨HF.out, by rw [HFT.out, HF.out, if_pos (by decide)]⟩
        rw [HE.out.1] at HZ
        clear hbz HF HFT
        go_wp2_with fail
        refine CB.out.mono ?_
        rintro e w3 ⟨rfl, b3⟩
        have q2' := (b3.cell (p := ⟨a, 2, none⟩) haw2).trans q2
        have HT3 := Lib.hid (HT2.out.below b3)
        have HK3 := Lib.hid (HK2.out.trans (Kt.of_below b3 hBw2))
        have hBw3 : B ≤ w3.heap.size := Nat.le_trans hBw2 b3.size
        have CS3 := Lib.hid (CS.out w3 b3)
        clear b3 CB CS
        simp only [frS] at CS3
        go_wp2_with fail
        refine CS3.out.mono ?_
        rintro e w4 ⟨v', rfl, l4, b4⟩
        have HL4 := Lib.hid (own_base22 l4 hBw3)
        have HT4 := Lib.hid (HT3.out.below b4)
        have HK4 := Lib.hid (HK3.out.trans (Kt.of_below b4 hBw3))
        clear l4 b4 CS3
        go_wp2_with fail
        go_ret2
        exact ⟨_, _, rfl, fun e => by have h := HZ.out e; subst h; rfl, HT4.out, by rw [HE.out.2]; exact HL4.out, HK4.out⟩
theorem ldo_any (B b n : Nat) (vv : Value) (T X : Nat → Sl) (k gr i m : Int) (v d : Bool) (w : World) (hT : TAt w b n T) (hL : LAt w B vv n X) (h8 : n ≤ 8) (hB : B ≤ b) (hI : Inv n X) : Calls Try.prog 11 #[.pointer (some ⟨b, 0, none⟩), vv, .agg #[.int .i64 k, .int .i64 gr, .int .i64 i, .int .i64 m, .bool v, .bool d]] w (LawP B b n w T X (actT n T k gr i m v d) (actT n X k gr i m v d)) := by
  by_cases h0 : k = 0
  · subst h0; exact ldo0_any B b n vv T X gr i m v d w hT hL h8 hB hI
  by_cases h1 : k = 1
  · subst h1; exact ldo1_any B b n vv T X gr i m v d w hT hL h8 hB hI
  by_cases h2 : k = 2
  · subst h2; exact ldo2_any B b n vv T X gr i m v d w hT hL h8 hB hI
  by_cases h3 : k = 3
  · subst h3; exact ldo3_any B b n vv T X gr i m v d w hT hL h8 hB hI
  by_cases h4 : k = 4
  · subst h4; exact ldo4_any B b n vv T X gr i m v d w hT hL h8 hB hI
  by_cases h5 : k = 5
  · subst h5; exact ldo5_any B b n vv T X gr i m v d w hT hL h8 hB hI
  by_cases h6 : k = 6
  · subst h6; exact ldo6_any B b n vv T X gr i m v d w hT hL h8 hB hI
  by_cases h7 : k = 7
  · subst h7; exact ldo7_any B b n vv T X gr i m v d w hT hL h8 hB hI
  exact ldo8_any B b n vv T X k gr i m v d w hT hL h8 hB hI h0 h1 h2 h3 h4 h5 h6 h7
end Go.Proofs.Ythhgodfgigcacaa
