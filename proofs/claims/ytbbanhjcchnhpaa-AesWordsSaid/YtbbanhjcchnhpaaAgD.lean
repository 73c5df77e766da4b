/- The reference of package aes (cellaret): mixed. -/
import Derived.Test.YtbbanhjcchnhpaaAgC
namespace Go.Proofs.Ytbbanhjcchnhpaa
open Go.RowKit Go.Deep
set_option linter.unusedVariables false
set_option linter.unusedSimpArgs false
/-- Column c's four numbers. -/
def xC (f : Nat → Nat) (c i : Nat) : Nat := f (4 * c + i)
def mO (f : Nat → Nat) (c t j : Nat) : Nat := if j / 4 < c then colT aE (xC f (j / 4)) 16 (j % 4) else if j / 4 = c then colT aE (xC f c) t (j % 4) else 0
theorem mO_zero (f : Nat → Nat) (j : Nat) : mO f 0 0 j = 0 := by
  unfold mO
  rw [if_neg (show ¬ j / 4 < 0 by omega)]
  split <;> rfl
theorem mO_next (f : Nat → Nat) (c j : Nat) : mO f (c + 1) 0 j = mO f c 16 j := by
  unfold mO
  by_cases h : j / 4 < c
  · rw [if_pos h, if_pos (show j / 4 < c + 1 by omega)]
  · rw [if_neg h]
    by_cases e : j / 4 = c
    · rw [if_pos e, if_pos (show j / 4 < c + 1 by omega), e]
    · rw [if_neg e, if_neg (show ¬ j / 4 < c + 1 by omega)]
      split <;> rfl
theorem mO_at (f : Nat → Nat) (c t k : Nat) (hk : k < 4) : mO f c t (k + 4 * c) = colT aE (xC f c) t k := by
  unfold mO
  rw [if_neg (show ¬ (k + 4 * c) / 4 < c by omega), if_pos (show (k + 4 * c) / 4 = c by omega), show (k + 4 * c) % 4 = k by omega]
theorem mO_step (f : Nat → Nat) (c i k m : Nat) (hi : i < 4) (hk : k < 4) (hm : (i + k) % 4 = m) (j : Nat) : mO f c (4 * i + (k + 1)) j = if j = m + 4 * c then colT aE (xC f c) (4 * i + k) m ^^^ gmul (aE i) (f (4 * c + k)) else mO f c (4 * i + k) j := by
  unfold mO
  have hcol : ∀ x, colT aE (xC f c) (4 * i + (k + 1)) x = if x = m then colT aE (xC f c) (4 * i + k) x ^^^ gmul (aE i) (f (4 * c + k)) else colT aE (xC f c) (4 * i + k) x := fun x => by
    rw [show 4 * i + (k + 1) = 4 * i + k + 1 by omega]
    show (if x = ((4 * i + k) / 4 + (4 * i + k) % 4) % 4 then _ else _) = _
    rw [show (4 * i + k) / 4 = i by omega, show (4 * i + k) % 4 = k by omega, hm]
    rfl
  by_cases h : j / 4 < c
  · rw [if_pos h, if_pos h, if_neg (show ¬ j = m + 4 * c by omega)]
  · rw [if_neg h, if_neg h]
    by_cases e : j / 4 = c
    · rw [if_pos e, if_pos e, hcol]
      by_cases e2 : j % 4 = m
      · rw [if_pos e2, if_pos (show j = m + 4 * c by omega), e2]
      · rw [if_neg e2, if_neg (show ¬ j = m + 4 * c by omega)]
    · rw [if_neg e, if_neg e, if_neg (show ¬ j = m + 4 * c by omega)]
theorem mixed_worlds (f : Nat → Nat) (w : World) : ∃ w2, Hid ((w.alloc (.cells (madeCells #[.int .i64 0] 16) 3)).alloc (.cells #[.int .i64 2, .int .i64 1, .int .i64 1, .int .i64 3] 3) = w2) ∧ Hid (w2.rowIs w.heap.size 3 16 (fun j => .int .i64 (mO f 0 0 j : Int))) ∧ Hid (∀ i, i < 4 → w2.cell? ⟨w.heap.size + 1, i, none⟩ = some (.int .i64 (aE i : Int))) ∧ Hid (Below w.heap.size w w2) := by
  have h1 := World.rowIs_made w (.int .i64 0) 16 3
  have hs : (w.alloc (.cells (madeCells #[.int .i64 0] 16) 3)).heap.size = w.heap.size + 1 := by simp
  have B1 : Below w.heap.size w (w.alloc (.cells (madeCells #[.int .i64 0] 16) 3)) := (Below.refl _ _).alloc (Nat.le_refl _) _
  refine ⟨_, Lib.hid rfl, Lib.hid ?_, Lib.hid ?_, Lib.hid ((B1.alloc (by rw [hs]; omega) _))⟩
  · refine World.rowIs.congr (World.rowIs.of_block h1 (((Below.refl (w.heap.size + 1) _).alloc (by rw [hs]; exact Nat.le_refl _) _).block w.heap.size (Nat.lt_succ_self _))) fun j hj => by rw [mO_zero]; rfl
  · intro i hi
    have h2 := heap_alloc_new (w.alloc (.cells (madeCells #[.int .i64 0] 16) 3)) (.cells #[.int .i64 2, .int .i64 1, .int .i64 1, .int .i64 3] 3)
    rw [hs] at h2
    rw [cell_of_row _ _ i _ _ _ h2]
    rcases (show i = 0 ∨ i = 1 ∨ i = 2 ∨ i = 3 by omega) with rfl | rfl | rfl | rfl <;> rfl
set_option maxRecDepth 100000 in
set_option maxHeartbeats 3000000 in
theorem mixed_any (f : Nat → Nat) (sb sc : Nat) (w : World) (hf : ∀ j, j < 16 → f j < 256) (hS : Hid (IAt w sb 16 f)) :
    Calls Try.prog 62 #[.slice (some ⟨sb, 0, none⟩) 16 sc] w fun e w' => e = .returned (.slice (some ⟨w.heap.size, 0, none⟩) 16 16) ∧ IAt w' w.heap.size 16 (fun j => colT aE (xC f (j / 4)) 16 (j % 4)) ∧ Below w.heap.size w w' := by
  have hmk := makeI16
  obtain ⟨w2, HW2, HR2, HA2, B2⟩ := mixed_worlds f w
  go_enter Try.func62, Try.ntmps62
  go_wp2_with fail
  rw [HW2.out]
  have lts := hS.out.lt
  have HS := Lib.hid (hS.out.below B2.out)
  clear HW2 hS hmk
  obtain ⟨q, hq⟩ : ∃ q, Hid (w.heap.size = q) := ⟨_, Lib.hid rfl⟩
  rw [hq.out] at HR2 HA2 lts
  rw [show (w.heap.size) = q from hq.out]
  obtain ⟨p, hp⟩ : ∃ p, Hid (q + 1 = p) := ⟨_, Lib.hid rfl⟩
  rw [hp.out] at HA2 ⊢
  have hpq : p ≠ q := by have := hp.out; omega
  go_loopw [5] (fun x wi => ∃ c : Nat, x = .int .i64 (c : Int) ∧ c ≤ 4 ∧ Hid (wi.rowIs q 3 16 (fun j => .int .i64 (mO f c 0 j : Int))) ∧ Hid (Kp q w2 wi)) (fun x _ => 4 - (intOf x).toNat)
  case atStart => exact ⟨0, rfl, by omega, HR2, Lib.hid (Kp.refl _ _)⟩
  clear HR2
  case round =>
    obtain ⟨c, rfl, hc, HR, HB⟩ := hrel
    by_cases hlc : c < 4
    · as_aux_lemma =>
      have hci : (c : Int) < 4 := by omega
      go_wp2_with fail
      go_loopw [6] (fun x wi => ∃ i : Nat, x = .int .i64 (i : Int) ∧ i ≤ 4 ∧ Hid (wi.rowIs q 3 16 (fun j => .int .i64 (mO f c (4 * i) j : Int))) ∧ Hid (Kp q w2 wi)) (fun x _ => 4 - (intOf x).toNat)
      case atStart => exact ⟨0, rfl, by omega, HR, HB⟩
      clear HR HB
      case round =>
        obtain ⟨i, rfl, hi, HR, HB⟩ := hrel
        by_cases hli : i < 4
        · as_aux_lemma =>
          have hii : (i : Int) < 4 := by omega
          go_wp2_with fail
          go_loopw [7] (fun x wi => ∃ k : Nat, x = .int .i64 (k : Int) ∧ k ≤ 4 ∧ Hid (wi.rowIs q 3 16 (fun j => .int .i64 (mO f c (4 * i + k) j : Int))) ∧ Hid (Kp q w2 wi)) (fun x _ => 4 - (intOf x).toNat)
          case atStart => exact ⟨0, rfl, by omega, HR, HB⟩
          clear HR HB
          case round =>
            obtain ⟨k, rfl, hk, HR, HB⟩ := hrel
            by_cases hlk : k < 4
            · as_aux_lemma =>
              have hki : (k : Int) < 4 := by omega
              obtain ⟨m, hm⟩ : ∃ m, Hid ((i + k) % 4 = m) := ⟨_, Lib.hid rfl⟩
              have hm4 : m < 4 := by rw [← hm.out]; exact Nat.mod_lt _ (by decide)
              have hcm : ((i : Int) + (k : Int)) % 4 = (m : Int) := by have := hm.out; omega
              have hct : ((i : Int) + (k : Int)).tmod 4 = (m : Int) := by rw [Int.tmod_eq_emod_of_nonneg (by omega)]; exact hcm
              have x1 : ((m : Int) + 4 * (c : Int)).toNat = m + 4 * c := by omega
              have x2 : ((k : Int) + 4 * (c : Int)).toNat = k + 4 * c := by omega
              have x3 : (m : Int) + 4 * (c : Int) < 16 := by omega
              have x4 : (k : Int) + 4 * (c : Int) < 16 := by omega
              have x5 : (0 : Int) ≤ (m : Int) + 4 * (c : Int) := by omega
              have x6 : (0 : Int) ≤ (k : Int) + 4 * (c : Int) := by omega
              have y2 : IntKind.i64.wrap ((i : Int) + k) = i + k := IntWalk.i64_in _ (by omega)
              have y5 : IntKind.i64.wrap (4 * (c : Int)) = 4 * c := IntWalk.i64_in _ (by omega)
              have y6 : IntKind.i64.wrap ((k : Int) + 4 * c) = k + 4 * c := IntWalk.i64_in _ (by omega)
              have y7 : IntKind.i64.wrap ((m : Int) + 4 * c) = m + 4 * c := IntWalk.i64_in _ (by omega)
              have c0 := (HS.out.under lts HB.out.below).cell (k + 4 * c) (by omega)
              have hfb := hf (k + 4 * c) (by omega)
              have c1 := HB.out.cell hpq (HA2.out i hli)
              have hab := aE_lt i
              have HST : Hid (∀ j, mO f c (4 * i + (k + 1)) j = if j = m + 4 * c then colT aE (xC f c) (4 * i + k) m ^^^ gmul (aE i) (f (k + 4 * c)) else mO f c (4 * i + k) j) := Lib.hid (fun j => by
                rw [mO_step f c i k m hli hlk hm.out j, Nat.add_comm k (4 * c)])
              have d0 := World.rowIs.cell HR.out (i := m + 4 * c) (by omega)
              rw [mO_at f c _ m hm4] at d0
              have hcb := colT_lt aE (xC f c) aE_lt (4 * i + k) m
              have f0 := World.rowIs.frozen HR.out (m + 4 * c)
              generalize colT aE (xC f c) (4 * i + k) m = ov at d0 hcb HST
              generalize f (k + 4 * c) = fv at c0 hfb HST
              generalize aE i = av at c1 hab HST
              have CM := Lib.hid (fun w => r02mul_any av fv w hab hfb)
              have hgb := gmul_lt av fv hab
              generalize gmul av fv = gv at CM hgb HST
              have CA := Lib.hid (fun w => r02add_any ov gv w (by omega) (by omega))
              generalize ov ^^^ gv = z at CA HST
              go_upto_region 13 with fail
              refine wp_region_lin (S := (fun w' => w'.cell? ⟨sb, k + 4 * c, none⟩ = some (.int .i64 (fv : Int)) ∧ w'.cell? ⟨p, i, none⟩ = some (.int .i64 (av : Int)) ∧ w'.cell? ⟨q, m + 4 * c, none⟩ = some (.int .i64 (ov : Int)))) [(0, true), (1, true), (2, true), (3, true), (4, true), (5, true), (6, true), (7, true), (8, true), (9, true), (10, true), (11, true), (12, true), (13, true), (14, true), (15, true), (16, true), (17, false), (18, false), (19, true), (20, false)] (by kernel_rfl) (by kernel_rfl) rfl (by kernel_rfl) ?_ (fun hHeld => ?_)
              · (try dsimp only); exact ⟨c0, c1, d0⟩
              (refine wpL_calm (o := { dst := some 30, op := Go.Op.move (Go.Operand.tmp 3), type := 35, pos := "ref.go:79", after := #[], guard := none }) (v := ?_) rfl (Or.inl ⟨by rfl, ?_⟩) ?_; rotate_left; (focus (intro w hSw; (try dsimp only at hSw); go_simp; (try (with_reducible rfl)); done)); try simp only [Act.put, List.setIfInBounds_toArray, List.set_cons_zero, List.set_cons_succ])
              (refine wpL_calm (o := { dst := some 31, op := Go.Op.move (Go.Operand.tmp 8), type := 3, pos := "ref.go:79", after := #[], guard := none }) (v := ?_) rfl (Or.inl ⟨by rfl, ?_⟩) ?_; rotate_left; (focus (intro w hSw; (try dsimp only at hSw); go_simp; (try (with_reducible rfl)); done)); try simp only [Act.put, List.setIfInBounds_toArray, List.set_cons_zero, List.set_cons_succ])
              (refine wpL_calm (o := { dst := some 32, op := Go.Op.move (Go.Operand.tmp 3), type := 35, pos := "ref.go:79", after := #[], guard := none }) (v := ?_) rfl (Or.inl ⟨by rfl, ?_⟩) ?_; rotate_left; (focus (intro w hSw; (try dsimp only at hSw); go_simp; (try (with_reducible rfl)); done)); try simp only [Act.put, List.setIfInBounds_toArray, List.set_cons_zero, List.set_cons_succ])
              (refine wpL_calm (o := { dst := some 33, op := Go.Op.move (Go.Operand.tmp 8), type := 3, pos := "ref.go:79", after := #[], guard := none }) (v := ?_) rfl (Or.inl ⟨by rfl, ?_⟩) ?_; rotate_left; (focus (intro w hSw; (try dsimp only at hSw); go_simp; (try (with_reducible rfl)); done)); try simp only [Act.put, List.setIfInBounds_toArray, List.set_cons_zero, List.set_cons_succ])
              (refine wpL_calm (o := { dst := some 34, op := Go.Op.indexAddr 35 (Go.Operand.tmp 32) (Go.Operand.tmp 33), type := 0, pos := "ref.go:79", after := #[{ on := 2, ground := Go.Ground.data }, { on := 3, ground := Go.Ground.data }], guard := none }) (v := ?_) rfl (Or.inl ⟨by rfl, ?_⟩) ?_; rotate_left; (focus (intro w hSw; (try dsimp only at hSw); go_simp; (try (with_reducible rfl)); done)); try simp only [Act.put, List.setIfInBounds_toArray, List.set_cons_zero, List.set_cons_succ])
              (refine wpL_calm (o := { dst := some 35, op := Go.Op.load 3 (Go.Operand.tmp 34), type := 3, pos := "ref.go:79", after := #[{ on := 4, ground := Go.Ground.data }], guard := none }) (v := ?_) rfl (Or.inl ⟨by rfl, ?_⟩) ?_; rotate_left; (focus (intro w hSw; (try dsimp only at hSw); go_simp; (try (with_reducible rfl)); done)); try simp only [Act.put, List.setIfInBounds_toArray, List.set_cons_zero, List.set_cons_succ])
              (refine wpL_calm (o := { dst := some 36, op := Go.Op.move (Go.Operand.tmp 4), type := 35, pos := "ref.go:79", after := #[], guard := none }) (v := ?_) rfl (Or.inl ⟨by rfl, ?_⟩) ?_; rotate_left; (focus (intro w hSw; (try dsimp only at hSw); go_simp; (try (with_reducible rfl)); done)); try simp only [Act.put, List.setIfInBounds_toArray, List.set_cons_zero, List.set_cons_succ])
              (refine wpL_calm (o := { dst := some 37, op := Go.Op.move (Go.Operand.tmp 6), type := 3, pos := "ref.go:79", after := #[], guard := none }) (v := ?_) rfl (Or.inl ⟨by rfl, ?_⟩) ?_; rotate_left; (focus (intro w hSw; (try dsimp only at hSw); go_simp; (try (with_reducible rfl)); done)); try simp only [Act.put, List.setIfInBounds_toArray, List.set_cons_zero, List.set_cons_succ])
              (refine wpL_calm (o := { dst := some 38, op := Go.Op.indexAddr 35 (Go.Operand.tmp 36) (Go.Operand.tmp 37), type := 0, pos := "ref.go:79", after := #[{ on := 6, ground := Go.Ground.data }, { on := 7, ground := Go.Ground.data }], guard := none }) (v := ?_) rfl (Or.inl ⟨by rfl, ?_⟩) ?_; rotate_left; (focus (intro w hSw; (try dsimp only at hSw); go_simp; (try (with_reducible rfl)); done)); try simp only [Act.put, List.setIfInBounds_toArray, List.set_cons_zero, List.set_cons_succ])
              (refine wpL_calm (o := { dst := some 39, op := Go.Op.load 3 (Go.Operand.tmp 38), type := 3, pos := "ref.go:79", after := #[{ on := 8, ground := Go.Ground.data }], guard := none }) (v := ?_) rfl (Or.inl ⟨by rfl, ?_⟩) ?_; rotate_left; (focus (intro w hSw; (try dsimp only at hSw); go_simp; (try (with_reducible rfl)); done)); try simp only [Act.put, List.setIfInBounds_toArray, List.set_cons_zero, List.set_cons_succ])
              (refine wpL_calm (o := { dst := some 40, op := Go.Op.move (Go.Operand.tmp 0), type := 35, pos := "ref.go:79", after := #[], guard := none }) (v := ?_) rfl (Or.inl ⟨by rfl, ?_⟩) ?_; rotate_left; (focus (intro w hSw; (try dsimp only at hSw); go_simp; (try (with_reducible rfl)); done)); try simp only [Act.put, List.setIfInBounds_toArray, List.set_cons_zero, List.set_cons_succ])
              (refine wpL_calm (o := { dst := some 41, op := Go.Op.move (Go.Operand.tmp 7), type := 3, pos := "ref.go:79", after := #[], guard := none }) (v := ?_) rfl (Or.inl ⟨by rfl, ?_⟩) ?_; rotate_left; (focus (intro w hSw; (try dsimp only at hSw); go_simp; (try (with_reducible rfl)); done)); try simp only [Act.put, List.setIfInBounds_toArray, List.set_cons_zero, List.set_cons_succ])
              (refine wpL_calm (o := { dst := some 42, op := Go.Op.move (Go.Operand.tmp 5), type := 3, pos := "ref.go:79", after := #[], guard := none }) (v := ?_) rfl (Or.inl ⟨by rfl, ?_⟩) ?_; rotate_left; (focus (intro w hSw; (try dsimp only at hSw); go_simp; (try (with_reducible rfl)); done)); try simp only [Act.put, List.setIfInBounds_toArray, List.set_cons_zero, List.set_cons_succ])
              (refine wpL_calm (o := { dst := some 43, op := Go.Op.binOp Go.BinOp.mul 3 (Go.Operand.const (Go.Value.int Go.IntKind.i64 4)) (Go.Operand.tmp 42) 3, type := 3, pos := "ref.go:79", after := #[{ on := 12, ground := Go.Ground.data }], guard := none }) (v := ?_) rfl (Or.inl ⟨by rfl, ?_⟩) ?_; rotate_left; (focus (intro w hSw; (try dsimp only at hSw); go_simp; (try (with_reducible rfl)); done)); try simp only [Act.put, List.setIfInBounds_toArray, List.set_cons_zero, List.set_cons_succ])
              (refine wpL_calm (o := { dst := some 44, op := Go.Op.binOp Go.BinOp.add 3 (Go.Operand.tmp 41) (Go.Operand.tmp 43) 3, type := 3, pos := "ref.go:79", after := #[{ on := 11, ground := Go.Ground.data }, { on := 13, ground := Go.Ground.data }], guard := none }) (v := ?_) rfl (Or.inl ⟨by rfl, ?_⟩) ?_; rotate_left; (focus (intro w hSw; (try dsimp only at hSw); go_simp; (try (with_reducible rfl)); done)); try simp only [Act.put, List.setIfInBounds_toArray, List.set_cons_zero, List.set_cons_succ])
              (refine wpL_calm (o := { dst := some 45, op := Go.Op.indexAddr 35 (Go.Operand.tmp 40) (Go.Operand.tmp 44), type := 0, pos := "ref.go:79", after := #[{ on := 10, ground := Go.Ground.data }, { on := 14, ground := Go.Ground.data }], guard := none }) (v := ?_) rfl (Or.inl ⟨by rfl, ?_⟩) ?_; rotate_left; (focus (intro w hSw; (try dsimp only at hSw); go_simp; (try (with_reducible rfl)); done)); try simp only [Act.put, List.setIfInBounds_toArray, List.set_cons_zero, List.set_cons_succ])
              (refine wpL_calm (o := { dst := some 46, op := Go.Op.load 3 (Go.Operand.tmp 45), type := 3, pos := "ref.go:79", after := #[{ on := 15, ground := Go.Ground.data }], guard := none }) (v := ?_) rfl (Or.inl ⟨by rfl, ?_⟩) ?_; rotate_left; (focus (intro w hSw; (try dsimp only at hSw); go_simp; (try (with_reducible rfl)); done)); try simp only [Act.put, List.setIfInBounds_toArray, List.set_cons_zero, List.set_cons_succ])
              refine wpL_loud1 (o := { dst := some 47, op := Go.Op.call { callee := Go.Callee.value (Go.Operand.func 74), args := #[Go.Operand.tmp 39, Go.Operand.tmp 46], argTypes := #[3, 3] }, type := 3, pos := "ref.go:79", after := #[{ on := 9, ground := Go.Ground.data }, { on := 16, ground := Go.Ground.data }], guard := none }) rfl (fun K hK => ?_)
              (go_simp; go_at_call 74; refine (CM.out _).mono ?_; rintro e w' ⟨rfl, rfl⟩)
              try go_wp2_with fail
              refine hK.out _ _ ?_ (fun hHeld => ?_)
              · (try dsimp only); exact hHeld
              clear hK K
              try simp only [Act.put, List.setIfInBounds_toArray, List.set_cons_zero, List.set_cons_succ]
              refine wpL_loud1 (o := { dst := some 48, op := Go.Op.call { callee := Go.Callee.value (Go.Operand.func 47), args := #[Go.Operand.tmp 35, Go.Operand.tmp 47], argTypes := #[3, 3] }, type := 3, pos := "ref.go:79", after := #[{ on := 5, ground := Go.Ground.data }, { on := 17, ground := Go.Ground.data }, { on := 17, ground := Go.Ground.chain }], guard := none }) rfl (fun K hK => ?_)
              (go_simp; go_at_call 47; refine (CA.out _).mono ?_; rintro e w' ⟨rfl, rfl⟩)
              try go_wp2_with fail
              refine hK.out _ _ ?_ (fun hHeld => ?_)
              · (try dsimp only); exact hHeld
              clear hK K
              try simp only [Act.put, List.setIfInBounds_toArray, List.set_cons_zero, List.set_cons_succ]
              (refine wpL_calm (o := { dst := some 49, op := Go.Op.indexAddr 35 (Go.Operand.tmp 30) (Go.Operand.tmp 31), type := 0, pos := "ref.go:79", after := #[{ on := 0, ground := Go.Ground.data }, { on := 1, ground := Go.Ground.data }, { on := 0, ground := Go.Ground.phase }, { on := 1, ground := Go.Ground.phase }, { on := 2, ground := Go.Ground.phase }, { on := 3, ground := Go.Ground.phase }, { on := 4, ground := Go.Ground.phase }, { on := 5, ground := Go.Ground.phase }, { on := 6, ground := Go.Ground.phase }, { on := 7, ground := Go.Ground.phase }, { on := 8, ground := Go.Ground.phase }, { on := 9, ground := Go.Ground.phase }, { on := 10, ground := Go.Ground.phase }, { on := 11, ground := Go.Ground.phase }, { on := 12, ground := Go.Ground.phase }, { on := 13, ground := Go.Ground.phase }, { on := 14, ground := Go.Ground.phase }, { on := 15, ground := Go.Ground.phase }, { on := 16, ground := Go.Ground.phase }, { on := 17, ground := Go.Ground.phase }, { on := 18, ground := Go.Ground.phase }], guard := none }) (v := ?_) rfl (Or.inl ⟨by rfl, ?_⟩) ?_; rotate_left; (focus (intro w hSw; (try dsimp only at hSw); go_simp; (try (with_reducible rfl)); done)); try simp only [Act.put, List.setIfInBounds_toArray, List.set_cons_zero, List.set_cons_succ])
              refine wpL_loud0 (o := { dst := none, op := Go.Op.store 3 (Go.Operand.tmp 49) (Go.Operand.tmp 48), type := 0, pos := "ref.go:79", after := #[{ on := 19, ground := Go.Ground.data }, { on := 18, ground := Go.Ground.data }, { on := 18, ground := Go.Ground.chain }, { on := 0, ground := Go.Ground.phase }, { on := 1, ground := Go.Ground.phase }, { on := 2, ground := Go.Ground.phase }, { on := 3, ground := Go.Ground.phase }, { on := 4, ground := Go.Ground.phase }, { on := 5, ground := Go.Ground.phase }, { on := 6, ground := Go.Ground.phase }, { on := 7, ground := Go.Ground.phase }, { on := 8, ground := Go.Ground.phase }, { on := 9, ground := Go.Ground.phase }, { on := 10, ground := Go.Ground.phase }, { on := 11, ground := Go.Ground.phase }, { on := 12, ground := Go.Ground.phase }, { on := 13, ground := Go.Ground.phase }, { on := 14, ground := Go.Ground.phase }, { on := 15, ground := Go.Ground.phase }, { on := 16, ground := Go.Ground.phase }, { on := 17, ground := Go.Ground.phase }, { on := 18, ground := Go.Ground.phase }], guard := none }) rfl (by kernel_rfl) (fun K hK => ?_)
              go_simp
              refine hK.out _ _ ?_
              clear hK K
              try simp only [Act.put, List.setIfInBounds_toArray, List.set_cons_zero, List.set_cons_succ]
              refine wpL_nil ?_
              refine NoPanic.normal ?_
              go_wp2_with fail
              go_roundw
              case rel => exact ⟨k + 1, by go_num, by omega, Lib.hid (by
                refine World.rowIs.congr (World.rowIs.set HR.out (m + 4 * c) (.int .i64 (z : Int))) fun j hj => ?_
                rw [HST.out j]
                by_cases e : j = m + 4 * c
                · rw [if_pos e, if_pos e]
                · rw [if_neg e, if_neg e]), Lib.hid (by first | exact HB.out.setCell (m + 4 * c) _ | exact (HB.out.setCell (m + 4 * c) _).drew | exact (HB.out.setCell (m + 4 * c) _).drew.drew)⟩
              case measure => simp [intOf]; omega
            · as_aux_lemma =>
              obtain rfl : k = 4 := by omega
              rw [show ((4 : Nat) : Int) = 4 from rfl]
              go_wp2_with fail
              go_roundw
              case rel => exact ⟨i + 1, by go_num, by omega, Lib.hid (by rw [show 4 * (i + 1) = 4 * i + 4 by omega]; exact HR.out), HB⟩
              case measure => simp [intOf]; omega
        · as_aux_lemma =>
          obtain rfl : i = 4 := by omega
          rw [show ((4 : Nat) : Int) = 4 from rfl]
          go_wp2_with fail
          go_roundw
          case rel => exact ⟨c + 1, by go_num, by omega, Lib.hid (World.rowIs.congr HR.out fun j hj => by rw [mO_next]), HB⟩
          case measure => simp [intOf]; omega
    · as_aux_lemma =>
      obtain rfl : c = 4 := by omega
      rw [show ((4 : Nat) : Int) = 4 from rfl]
      go_wp2_with fail
      go_ret
      refine ⟨by rw [hq.out]; rfl, ?_, ?_⟩
      · rw [hq.out]; exact (IAt.of_row HR.out).congr fun j hj => by unfold mO; rw [if_pos (show j / 4 < 4 by omega)]
      · exact B2.out.trans (by rw [hq.out]; exact HB.out.below)
end Go.Proofs.Ytbbanhjcchnhpaa
