/- Package aes (cellaret): shift. -/
import Derived.Test.YtbbanhjcchnhpaaAeK
namespace Go.Proofs.Ytbbanhjcchnhpaa
open Go.RowKit Go.Deep
set_option linter.unusedVariables false
set_option linter.unusedSimpArgs false
/-- What lies below g stays; of what was there, block g alone turns. -/
structure Kp (g : Nat) (w w' : World) : Prop where
  below : Below g w w'
  other : ∀ k, k < w.heap.size → k ≠ g → w'.heap[k]? = w.heap[k]?
theorem Kp.refl (g : Nat) (w : World) : Kp g w w := ⟨Below.refl _ _, fun _ _ _ => rfl⟩
theorem Kp.of_below {g : Nat} {w w' : World} (h : Below w.heap.size w w') (hg : g < w.heap.size) : Kp g w w' := ⟨h.mono (Nat.le_of_lt hg), fun k hk _ => h.block k hk⟩
theorem Kp.trans {g : Nat} {a b c : World} (h : Kp g a b) (k : Kp g b c) : Kp g a c := ⟨h.below.trans k.below, fun i hi hn => (k.other i (Nat.lt_of_lt_of_le hi h.below.size) hn).trans (h.other i hi hn)⟩
theorem Kp.setCell {g : Nat} {w w' : World} (h : Kp g w w') (k : Nat) (v : Value) : Kp g w (w'.setCell ⟨g, k, none⟩ v) := ⟨h.below.setCell (p := ⟨g, k, none⟩) (Nat.le_refl _) v, fun i hi hn => (Below.heap_setCell w' ⟨g, k, none⟩ v i hn).trans (h.other i hi hn)⟩
theorem Kp.drew {g : Nat} {w w' : World} (h : Kp g w w') : Kp g w w'.drew := ⟨h.below.drew, h.other⟩
theorem Kp.setRow {g z : Nat} {w w' : World} (h : Kp g w w') (hz : z = g ∨ (g ≤ z ∧ w.heap.size ≤ z)) (cs : Array Value) : Kp g w (w'.setRow z cs) := ⟨below_setRow h.below (by omega) cs, fun i hi hn => (setRow_other w' z i cs (by omega)).trans (h.other i hi hn)⟩
theorem Kp.row {g : Nat} {w w' : World} {b : Nat} {o : Obj} (h : Kp g w w') (hn : b ≠ g) (hb : w.heap[b]? = some o) : w'.heap[b]? = some o := (h.other b (Array.getElem?_eq_some_iff.1 hb).1 hn).trans hb
/-- Where byte j of a shifted state comes from. -/
def srcS (b j : Nat) : Nat := j % 4 + 4 * ((j / 4 + b * (j % 4)) % 4)
def shF (f : Nat → UInt8) (b t j : Nat) : UInt8 := if j < t then f (srcS b j) else f j
theorem shF_step (f : Nat → UInt8) (b c r : Nat) (hc : c < 4) (hr : r < 4) (j : Nat) : shF f b (4 * c + r + 1) j = if j = r + 4 * c then f (r + 4 * ((c + b * r) % 4)) else shF f b (4 * c + r) j := by
  unfold shF
  by_cases e : j = r + 4 * c
  · rw [if_pos e, if_pos (show j < 4 * c + r + 1 by omega)]
    unfold srcS
    rw [show j % 4 = r by omega, show j / 4 = c by omega]
  · rw [if_neg e]
    by_cases h : j < 4 * c + r
    · rw [if_pos h, if_pos (show j < 4 * c + r + 1 by omega)]
    · rw [if_neg h, if_neg (show ¬ j < 4 * c + r + 1 by omega)]
set_option maxRecDepth 100000 in
set_option maxHeartbeats 3000000 in
theorem shift_any (f : Nat → UInt8) (g b : Nat) (w : World) (hb : b ≤ 3) (hR : Hid (w.rowIs g 82 16 (fun j => .int .u8 ((f j).toNat : Int)))) :
    Calls Try.prog 58 #[.pointer (some ⟨g, 0, none⟩), .int .i64 (b : Int)] w fun e w' => e = .returned (.tuple #[]) ∧ w'.rowIs g 82 16 (fun j => .int .u8 ((f (srcS b j)).toNat : Int)) ∧ Kp g w w' := by
  have hgs := World.rowIs.lt hR.out
  have hg := st16_row hR.out
  go_enter Try.func58, Try.ntmps58
  go_wp2_with (first | (refine wpList_load_row rfl 82 _ rfl g rfl _ _ _ _ hg Try.underlying82 rfl (by rw [st16_size]; kernel_rfl) ?_) | (refine wpList_store_row rfl _ _ _ rfl w.heap.size (st16 f) rfl rfl 82 _ (heap_alloc_new _ _) (by rw [st16_size]; kernel_rfl) (by rw [st16_size]; rfl) (st16_one _) ?_))
  obtain ⟨w2, HW2, HQ2, B2⟩ : ∃ w2, Hid ((w.alloc (.cells #[.int .u8 0, .int .u8 0, .int .u8 0, .int .u8 0, .int .u8 0, .int .u8 0, .int .u8 0, .int .u8 0, .int .u8 0, .int .u8 0, .int .u8 0, .int .u8 0, .int .u8 0, .int .u8 0, .int .u8 0, .int .u8 0] 82)).setRow w.heap.size (st16 f) = w2) ∧ Hid (w2.heap[w.heap.size]? = some (.cells (st16 f) 82 (0, 0))) ∧ Below w.heap.size w w2 :=
    ⟨_, Lib.hid rfl, Lib.hid (setRow_heap _ _ _ (st16 f) 82 (0, 0) (heap_alloc_new _ _)), below_setRow ((Below.refl _ _).alloc (Nat.le_refl _) _) (Nat.le_refl _) _⟩
  rw [HW2.out]
  clear HW2 hg
  have HR2 : Hid (w2.rowIs g 82 16 (fun j => .int .u8 ((shF f b (4 * 0 + 0) j).toNat : Int))) := Lib.hid (World.rowIs.of_block hR.out (B2.block g hgs))
  have BG : Kp g w w2 := Kp.of_below B2 hgs
  have HQR : Hid (w2.rowIs w.heap.size 82 16 (fun j => .int .u8 ((f j).toNat : Int))) := Lib.hid ⟨_, HQ2.out, st16_size f, st16_get f⟩
  have hgq : g ≠ w.heap.size := Nat.ne_of_lt hgs
  clear hR HQ2
  generalize w.heap.size = q at *
  go_loopw [10] (fun x wi => ∃ c : Nat, x = .int .i64 (c : Int) ∧ c ≤ 4 ∧ Hid (wi.rowIs g 82 16 (fun j => .int .u8 ((shF f b (4 * c + 0) j).toNat : Int))) ∧ Hid (wi.rowIs q 82 16 (fun j => .int .u8 ((f j).toNat : Int))) ∧ Hid (Kp g w wi)) (fun x _ => 4 - (intOf x).toNat)
  case atStart => exact ⟨0, rfl, by omega, HR2, HQR, Lib.hid BG⟩
  clear HR2 HQR
  case round =>
    obtain ⟨c, rfl, hc, HR, HQ, HB⟩ := hrel
    by_cases hlc : c < 4
    · as_aux_lemma =>
      have hci : (c : Int) < 4 := by omega
      go_wp2_with fail
      go_loopw [13] (fun x wi => ∃ r : Nat, x = .int .i64 (r : Int) ∧ r ≤ 4 ∧ Hid (wi.rowIs g 82 16 (fun j => .int .u8 ((shF f b (4 * c + r) j).toNat : Int))) ∧ Hid (wi.rowIs q 82 16 (fun j => .int .u8 ((f j).toNat : Int))) ∧ Hid (Kp g w wi)) (fun x _ => 4 - (intOf x).toNat)
      case atStart => exact ⟨0, rfl, by omega, HR, HQ, HB⟩
      clear HR HQ HB
      case round =>
        obtain ⟨r, rfl, hr, HR, HQ, HB⟩ := hrel
        by_cases hlr : r < 4
        · as_aux_lemma =>
          have hri : (r : Int) < 4 := by omega
          obtain ⟨m, hm⟩ : ∃ m, Hid (b * r = m) := ⟨_, Lib.hid rfl⟩
          have hm9 : m ≤ 9 := by rw [← hm.out]; exact Nat.le_trans (Nat.mul_le_mul hb (show r ≤ 3 by omega)) (by decide)
          have hbr : (b : Int) * (r : Int) = (m : Int) := by rw [← hm.out]; exact (Int.natCast_mul b r).symm
          obtain ⟨n, hn⟩ : ∃ n, Hid ((c + m) % 4 = n) := ⟨_, Lib.hid rfl⟩
          have hn4 : n < 4 := by rw [← hn.out]; exact Nat.mod_lt _ (by decide)
          have hcm : ((c : Int) + (m : Int)) % 4 = (n : Int) := by have := hn.out; omega
          have hct : ((c : Int) + (m : Int)).tmod 4 = (n : Int) := by rw [Int.tmod_eq_emod_of_nonneg (by omega)]; exact hcm
          have x1 : ((r : Int) + 4 * (n : Int)).toNat = r + 4 * n := by omega
          have x2 : ((r : Int) + 4 * (c : Int)).toNat = r + 4 * c := by omega
          have x3 : (r : Int) + 4 * (n : Int) < 16 := by omega
          have x4 : (r : Int) + 4 * (c : Int) < 16 := by omega
          have x5 : (0 : Int) ≤ (r : Int) + 4 * (n : Int) := by omega
          have x6 : (0 : Int) ≤ (r : Int) + 4 * (c : Int) := by omega
          have y1 : IntKind.i64.wrap (m : Int) = m := IntWalk.i64_in _ (by omega)
          have y2 : IntKind.i64.wrap ((c : Int) + m) = c + m := IntWalk.i64_in _ (by omega)
          have y3 : IntKind.i64.wrap (4 * (n : Int)) = 4 * n := IntWalk.i64_in _ (by omega)
          have y4 : IntKind.i64.wrap ((r : Int) + 4 * n) = r + 4 * n := IntWalk.i64_in _ (by omega)
          have y5 : IntKind.i64.wrap (4 * (c : Int)) = 4 * c := IntWalk.i64_in _ (by omega)
          have y6 : IntKind.i64.wrap ((r : Int) + 4 * c) = r + 4 * c := IntWalk.i64_in _ (by omega)
          have c0 := World.rowIs.cell HQ.out (i := r + 4 * n) (by omega)
          have d0 := World.rowIs.cell HR.out (i := r + 4 * c) (by omega)
          have f0 := World.rowIs.frozen HR.out (r + 4 * c)
          go_upto_region 7 with fail
          refine wp_region_lin (S := (fun w' => w'.cell? ⟨q, r + 4 * n, none⟩ = some (.int .u8 ((f (r + 4 * n)).toNat : Int)))) [(0, true), (1, true), (2, true), (3, true), (4, true), (5, true), (6, true), (7, true), (8, true), (9, true), (10, true), (11, true), (12, true), (13, true), (14, true), (15, true), (16, true), (17, true), (18, false)] (by kernel_rfl) (by kernel_rfl) rfl (by kernel_rfl) ?_ (fun hHeld => ?_)
          · (try dsimp only); exact c0
          (refine wpL_calm (o := { dst := some 16, op := Go.Op.move (Go.Operand.tmp 0), type := 86, pos := "aes.go:109", after := #[], guard := none }) (v := ?_) rfl (Or.inl ⟨by rfl, ?_⟩) ?_; rotate_left; (focus (intro w hSw; (try dsimp only at hSw); go_simp; (try (with_reducible rfl)); done)); try simp only [Act.put, List.setIfInBounds_toArray, List.set_cons_zero, List.set_cons_succ])
          (refine wpL_calm (o := { dst := some 17, op := Go.Op.move (Go.Operand.tmp 6), type := 3, pos := "aes.go:109", after := #[], guard := none }) (v := ?_) rfl (Or.inl ⟨by rfl, ?_⟩) ?_; rotate_left; (focus (intro w hSw; (try dsimp only at hSw); go_simp; (try (with_reducible rfl)); done)); try simp only [Act.put, List.setIfInBounds_toArray, List.set_cons_zero, List.set_cons_succ])
          (refine wpL_calm (o := { dst := some 18, op := Go.Op.move (Go.Operand.tmp 5), type := 3, pos := "aes.go:109", after := #[], guard := none }) (v := ?_) rfl (Or.inl ⟨by rfl, ?_⟩) ?_; rotate_left; (focus (intro w hSw; (try dsimp only at hSw); go_simp; (try (with_reducible rfl)); done)); try simp only [Act.put, List.setIfInBounds_toArray, List.set_cons_zero, List.set_cons_succ])
          (refine wpL_calm (o := { dst := some 19, op := Go.Op.binOp Go.BinOp.mul 3 (Go.Operand.const (Go.Value.int Go.IntKind.i64 4)) (Go.Operand.tmp 18) 3, type := 3, pos := "aes.go:109", after := #[{ on := 2, ground := Go.Ground.data }], guard := none }) (v := ?_) rfl (Or.inl ⟨by rfl, ?_⟩) ?_; rotate_left; (focus (intro w hSw; (try dsimp only at hSw); go_simp; (try (with_reducible rfl)); done)); try simp only [Act.put, List.setIfInBounds_toArray, List.set_cons_zero, List.set_cons_succ])
          (refine wpL_calm (o := { dst := some 20, op := Go.Op.binOp Go.BinOp.add 3 (Go.Operand.tmp 17) (Go.Operand.tmp 19) 3, type := 3, pos := "aes.go:109", after := #[{ on := 1, ground := Go.Ground.data }, { on := 3, ground := Go.Ground.data }], guard := none }) (v := ?_) rfl (Or.inl ⟨by rfl, ?_⟩) ?_; rotate_left; (focus (intro w hSw; (try dsimp only at hSw); go_simp; (try (with_reducible rfl)); done)); try simp only [Act.put, List.setIfInBounds_toArray, List.set_cons_zero, List.set_cons_succ])
          (refine wpL_calm (o := { dst := some 21, op := Go.Op.move (Go.Operand.tmp 6), type := 3, pos := "aes.go:109", after := #[], guard := none }) (v := ?_) rfl (Or.inl ⟨by rfl, ?_⟩) ?_; rotate_left; (focus (intro w hSw; (try dsimp only at hSw); go_simp; (try (with_reducible rfl)); done)); try simp only [Act.put, List.setIfInBounds_toArray, List.set_cons_zero, List.set_cons_succ])
          (refine wpL_calm (o := { dst := some 22, op := Go.Op.move (Go.Operand.tmp 5), type := 3, pos := "aes.go:109", after := #[], guard := none }) (v := ?_) rfl (Or.inl ⟨by rfl, ?_⟩) ?_; rotate_left; (focus (intro w hSw; (try dsimp only at hSw); go_simp; (try (with_reducible rfl)); done)); try simp only [Act.put, List.setIfInBounds_toArray, List.set_cons_zero, List.set_cons_succ])
          (refine wpL_calm (o := { dst := some 23, op := Go.Op.move (Go.Operand.tmp 1), type := 3, pos := "aes.go:109", after := #[], guard := none }) (v := ?_) rfl (Or.inl ⟨by rfl, ?_⟩) ?_; rotate_left; (focus (intro w hSw; (try dsimp only at hSw); go_simp; (try (with_reducible rfl)); done)); try simp only [Act.put, List.setIfInBounds_toArray, List.set_cons_zero, List.set_cons_succ])
          (refine wpL_calm (o := { dst := some 24, op := Go.Op.move (Go.Operand.tmp 6), type := 3, pos := "aes.go:109", after := #[], guard := none }) (v := ?_) rfl (Or.inl ⟨by rfl, ?_⟩) ?_; rotate_left; (focus (intro w hSw; (try dsimp only at hSw); go_simp; (try (with_reducible rfl)); done)); try simp only [Act.put, List.setIfInBounds_toArray, List.set_cons_zero, List.set_cons_succ])
          (refine wpL_calm (o := { dst := some 25, op := Go.Op.binOp Go.BinOp.mul 3 (Go.Operand.tmp 23) (Go.Operand.tmp 24) 3, type := 3, pos := "aes.go:109", after := #[{ on := 7, ground := Go.Ground.data }, { on := 8, ground := Go.Ground.data }], guard := none }) (v := ?_) rfl (Or.inl ⟨by rfl, ?_⟩) ?_; rotate_left; (focus (intro w hSw; (try dsimp only at hSw); go_simp; (try (with_reducible rfl)); done)); try simp only [Act.put, List.setIfInBounds_toArray, List.set_cons_zero, List.set_cons_succ])
          (refine wpL_calm (o := { dst := some 26, op := Go.Op.binOp Go.BinOp.add 3 (Go.Operand.tmp 22) (Go.Operand.tmp 25) 3, type := 3, pos := "aes.go:109", after := #[{ on := 6, ground := Go.Ground.data }, { on := 9, ground := Go.Ground.data }], guard := none }) (v := ?_) rfl (Or.inl ⟨by rfl, ?_⟩) ?_; rotate_left; (focus (intro w hSw; (try dsimp only at hSw); go_simp; (try (with_reducible rfl)); done)); try simp only [Act.put, List.setIfInBounds_toArray, List.set_cons_zero, List.set_cons_succ])
          (refine wpL_calm (o := { dst := some 27, op := Go.Op.binOp Go.BinOp.rem 3 (Go.Operand.tmp 26) (Go.Operand.const (Go.Value.int Go.IntKind.i64 4)) 3, type := 3, pos := "aes.go:109", after := #[{ on := 10, ground := Go.Ground.data }], guard := none }) (v := ?_) rfl (Or.inl ⟨by rfl, ?_⟩) ?_; rotate_left; (focus (intro w hSw; (try dsimp only at hSw); go_simp; (try (with_reducible rfl)); done)); try simp only [Act.put, List.setIfInBounds_toArray, List.set_cons_zero, List.set_cons_succ])
          (refine wpL_calm (o := { dst := some 28, op := Go.Op.binOp Go.BinOp.mul 3 (Go.Operand.const (Go.Value.int Go.IntKind.i64 4)) (Go.Operand.tmp 27) 3, type := 3, pos := "aes.go:109", after := #[{ on := 11, ground := Go.Ground.data }], guard := none }) (v := ?_) rfl (Or.inl ⟨by rfl, ?_⟩) ?_; rotate_left; (focus (intro w hSw; (try dsimp only at hSw); go_simp; (try (with_reducible rfl)); done)); try simp only [Act.put, List.setIfInBounds_toArray, List.set_cons_zero, List.set_cons_succ])
          (refine wpL_calm (o := { dst := some 29, op := Go.Op.binOp Go.BinOp.add 3 (Go.Operand.tmp 21) (Go.Operand.tmp 28) 3, type := 3, pos := "aes.go:109", after := #[{ on := 5, ground := Go.Ground.data }, { on := 12, ground := Go.Ground.data }], guard := none }) (v := ?_) rfl (Or.inl ⟨by rfl, ?_⟩) ?_; rotate_left; (focus (intro w hSw; (try dsimp only at hSw); go_simp; (try (with_reducible rfl)); done)); try simp only [Act.put, List.setIfInBounds_toArray, List.set_cons_zero, List.set_cons_succ])
          (refine wpL_calm (o := { dst := some 30, op := Go.Op.indexAddr 82 (Go.Operand.tmp 4) (Go.Operand.tmp 29), type := 0, pos := "aes.go:109", after := #[{ on := 13, ground := Go.Ground.data }], guard := none }) (v := ?_) rfl (Or.inl ⟨by rfl, ?_⟩) ?_; rotate_left; (focus (intro w hSw; (try dsimp only at hSw); go_simp; (try (with_reducible rfl)); done)); try simp only [Act.put, List.setIfInBounds_toArray, List.set_cons_zero, List.set_cons_succ])
          (refine wpL_calm (o := { dst := some 31, op := Go.Op.load 66 (Go.Operand.tmp 30), type := 66, pos := "aes.go:109", after := #[{ on := 14, ground := Go.Ground.data }], guard := none }) (v := ?_) rfl (Or.inl ⟨by rfl, ?_⟩) ?_; rotate_left; (focus (intro w hSw; (try dsimp only at hSw); go_simp; (try (with_reducible rfl)); done)); try simp only [Act.put, List.setIfInBounds_toArray, List.set_cons_zero, List.set_cons_succ])
          (refine wpL_calm (o := { dst := some 32, op := Go.Op.nilCheck (Go.Operand.tmp 16), type := 0, pos := "aes.go:109", after := #[{ on := 0, ground := Go.Ground.data }], guard := none }) (v := ?_) rfl (Or.inl ⟨by rfl, ?_⟩) ?_; rotate_left; (focus (intro w hSw; (try dsimp only at hSw); go_simp; (try (with_reducible rfl)); done)); try simp only [Act.put, List.setIfInBounds_toArray, List.set_cons_zero, List.set_cons_succ])
          (refine wpL_calm (o := { dst := some 33, op := Go.Op.indexAddr 82 (Go.Operand.tmp 32) (Go.Operand.tmp 20), type := 0, pos := "aes.go:109", after := #[{ on := 16, ground := Go.Ground.data }, { on := 4, ground := Go.Ground.data }, { on := 0, ground := Go.Ground.phase }, { on := 1, ground := Go.Ground.phase }, { on := 2, ground := Go.Ground.phase }, { on := 3, ground := Go.Ground.phase }, { on := 4, ground := Go.Ground.phase }, { on := 5, ground := Go.Ground.phase }, { on := 6, ground := Go.Ground.phase }, { on := 7, ground := Go.Ground.phase }, { on := 8, ground := Go.Ground.phase }, { on := 9, ground := Go.Ground.phase }, { on := 10, ground := Go.Ground.phase }, { on := 11, ground := Go.Ground.phase }, { on := 12, ground := Go.Ground.phase }, { on := 13, ground := Go.Ground.phase }, { on := 14, ground := Go.Ground.phase }, { on := 15, ground := Go.Ground.phase }], guard := none }) (v := ?_) rfl (Or.inl ⟨by rfl, ?_⟩) ?_; rotate_left; (focus (intro w hSw; (try dsimp only at hSw); go_simp; (try (with_reducible rfl)); done)); try simp only [Act.put, List.setIfInBounds_toArray, List.set_cons_zero, List.set_cons_succ])
          refine wpL_loud0 (o := { dst := none, op := Go.Op.store 66 (Go.Operand.tmp 33) (Go.Operand.tmp 31), type := 0, pos := "aes.go:109", after := #[{ on := 17, ground := Go.Ground.data }, { on := 15, ground := Go.Ground.data }, { on := 0, ground := Go.Ground.phase }, { on := 1, ground := Go.Ground.phase }, { on := 2, ground := Go.Ground.phase }, { on := 3, ground := Go.Ground.phase }, { on := 4, ground := Go.Ground.phase }, { on := 5, ground := Go.Ground.phase }, { on := 6, ground := Go.Ground.phase }, { on := 7, ground := Go.Ground.phase }, { on := 8, ground := Go.Ground.phase }, { on := 9, ground := Go.Ground.phase }, { on := 10, ground := Go.Ground.phase }, { on := 11, ground := Go.Ground.phase }, { on := 12, ground := Go.Ground.phase }, { on := 13, ground := Go.Ground.phase }, { on := 14, ground := Go.Ground.phase }, { on := 15, ground := Go.Ground.phase }], guard := none }) rfl (by kernel_rfl) (fun K hK => ?_)
          go_simp
          refine hK.out _ _ ?_
          clear hK K
          try simp only [Act.put, List.setIfInBounds_toArray, List.set_cons_zero, List.set_cons_succ]
          refine wpL_nil ?_
          refine NoPanic.normal ?_
          go_wp2_with fail
          go_roundw
          case rel => exact ⟨r + 1, by go_num, by omega, Lib.hid (by
            refine World.rowIs.congr (World.rowIs.set HR.out (r + 4 * c) (.int .u8 ((f (r + 4 * n)).toNat : Int))) fun j hj => ?_
            rw [← Nat.add_assoc, shF_step f b c r hlc hlr j, hm.out, hn.out]
            by_cases e : j = r + 4 * c
            · rw [if_pos e, if_pos e]
            · rw [if_neg e, if_neg e]), Lib.hid (World.rowIs.setOther HQ.out (Ne.symm hgq) _), Lib.hid (by first | exact HB.out.setCell (r + 4 * c) _ | exact (HB.out.setCell (r + 4 * c) _).drew)⟩
          case measure => simp [intOf]; omega
        · as_aux_lemma =>
          obtain rfl : r = 4 := by omega
          rw [show ((4 : Nat) : Int) = 4 from rfl]
          go_wp2_with fail
          go_roundw
          case rel => exact ⟨c + 1, by go_num, by omega, Lib.hid (by rw [show 4 * (c + 1) + 0 = 4 * c + 4 by omega]; exact HR.out), HQ, HB⟩
          case measure => simp [intOf]; omega
    · as_aux_lemma =>
      obtain rfl : c = 4 := by omega
      rw [show ((4 : Nat) : Int) = 4 from rfl]
      go_wp2_with fail
      go_end0
      exact ⟨rfl, World.rowIs.congr HR.out fun j hj => by unfold shF; rw [if_pos (show j < 4 * 4 + 0 by omega)], HB.out⟩
end Go.Proofs.Ytbbanhjcchnhpaa
