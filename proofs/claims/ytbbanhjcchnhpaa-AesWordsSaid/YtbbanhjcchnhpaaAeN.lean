/- Package aes (cellaret): adder, and what it makes. -/
import Derived.Test.YtbbanhjcchnhpaaAeM
namespace Go.Proofs.Ytbbanhjcchnhpaa
open Go.RowKit Go.Deep
set_option linter.unusedVariables false
set_option linter.unusedSimpArgs false
/-- Byte j of the words 4n to 4n + 3. -/
def wB (W : Nat → UInt32) (n j : Nat) : UInt8 := byW (W (4 * n + j / 4)) (j % 4)
def adF (f : Nat → UInt8) (W : Nat → UInt32) (n t j : Nat) : UInt8 := if j < t then f j ^^^ wB W n j else f j
theorem adF_step (f : Nat → UInt8) (W : Nat → UInt32) (n c r : Nat) (hc : c < 4) (hr : r < 4) (j : Nat) : adF f W n (4 * c + (r + 1)) j = if j = r + 4 * c then f (r + 4 * c) ^^^ byW (W (4 * n + c)) r else adF f W n (4 * c + r) j := by
  unfold adF
  by_cases e : j = r + 4 * c
  · rw [if_pos e, if_pos (show j < 4 * c + (r + 1) by omega)]
    unfold wB
    rw [show j % 4 = r by omega, show j / 4 = c by omega, e]
  · rw [if_neg e]
    by_cases h : j < 4 * c + r
    · rw [if_pos h, if_pos (show j < 4 * c + (r + 1) by omega)]
    · rw [if_neg h, if_neg (show ¬ j < 4 * c + (r + 1) by omega)]
theorem adF_at (f : Nat → UInt8) (W : Nat → UInt32) (n c r : Nat) : adF f W n (4 * c + r) (r + 4 * c) = f (r + 4 * c) := by
  unfold adF
  rw [if_neg (show ¬ r + 4 * c < 4 * c + r by omega)]
theorem index_b4r (y : Nat → UInt8) (r : Nat) (hr : r < 4) (w : World) : (Instr.index 76 (b4v (y 0) (y 1) (y 2) (y 3)) (.int .i64 (r : Int))).run Try.prog w = .ok (.int .u8 ((y r).toNat : Int)) w := by
  obtain ⟨h0, h1, h2, h3⟩ := index_b4 y
  rcases (show r = 0 ∨ r = 1 ∨ r = 2 ∨ r = 3 by omega) with rfl | rfl | rfl | rfl
  · exact h0 w
  · exact h1 w
  · exact h2 w
  · exact h3 w
theorem adder_any (kg g : Nat) (w : World) : Calls Try.prog 55 #[.pointer (some ⟨kg, 0, none⟩), .pointer (some ⟨g, 0, none⟩)] w fun e w' => e = .returned (.func (.func 77) #[] #[.pointer (some ⟨w.heap.size, 0, none⟩), .pointer (some ⟨w.heap.size + 1, 0, none⟩)]) ∧ w'.cell? ⟨w.heap.size, 0, none⟩ = some (.pointer (some ⟨kg, 0, none⟩)) ∧ w'.cell? ⟨w.heap.size + 1, 0, none⟩ = some (.pointer (some ⟨g, 0, none⟩)) ∧ Below w.heap.size w w' ∧ w'.heap.size = w.heap.size + 2 := by
  go_enter Try.func55, Try.ntmps55
  go_wp2_with fail
  go_ret
  exact ⟨rfl, by simp [go_sem], by simp [go_sem], ((Below.refl _ _).alloc (Nat.le_refl _) _).alloc (by simp) _, by simp⟩
theorem addB_to (a b r : UInt8) (w : World) (h : Hid (a ^^^ b = r)) :
    Calls Try.prog 44 #[.int .u8 (a.toNat : Int), .int .u8 (b.toNat : Int)] w fun e w' => e = .returned (.int .u8 (r.toNat : Int)) ∧ w = w' := by
  have := add_any a.toNat b.toNat w a.toNat_lt b.toNat_lt
  rw [← UInt8.toNat_xor, h.out] at this
  exact this
set_option maxRecDepth 100000 in
set_option maxHeartbeats 3000000 in
theorem add_row (f : Nat → UInt8) (W : Nat → UInt32) (p q g kg n : Nat) (w : World) (hn : n ≤ 14) (hK : Hid (KeyAt w kg W)) (hgk : kg < g) (hp : p ≠ g) (hq : q ≠ g) (hR : Hid (w.rowIs g 82 16 (fun j => .int .u8 ((f j).toNat : Int))))
    (hP : Hid (w.cell? ⟨p, 0, none⟩ = some (.pointer (some ⟨kg, 0, none⟩)))) (hQ : Hid (w.cell? ⟨q, 0, none⟩ = some (.pointer (some ⟨g, 0, none⟩)))) :
    Calls Try.prog 77 #[.int .i64 (n : Int), .pointer (some ⟨p, 0, none⟩), .pointer (some ⟨q, 0, none⟩)] w fun e w' => e = .returned (.tuple #[]) ∧ w'.rowIs g 82 16 (fun j => .int .u8 ((f j ^^^ wB W n j).toNat : Int)) ∧ Kp g w w' ∧ (w'.cell? ⟨p, 0, none⟩ = some (.pointer (some ⟨kg, 0, none⟩)) ∧ w'.cell? ⟨q, 0, none⟩ = some (.pointer (some ⟨g, 0, none⟩))) := by
  go_enter Try.func77, Try.ntmps77
  go_wp2_with fail
  go_loopw [7] (fun x wi => ∃ c : Nat, x = .int .i64 (c : Int) ∧ c ≤ 4 ∧ Hid (wi.rowIs g 82 16 (fun j => .int .u8 ((adF f W n (4 * c + 0) j).toNat : Int))) ∧ Hid (Kp g w wi) ∧ Hid (wi.cell? ⟨p, 0, none⟩ = some (.pointer (some ⟨kg, 0, none⟩))) ∧ Hid (wi.cell? ⟨q, 0, none⟩ = some (.pointer (some ⟨g, 0, none⟩)))) (fun x _ => 4 - (intOf x).toNat)
  case atStart => exact ⟨0, rfl, by omega, Lib.hid (World.rowIs.congr hR.out fun j hj => by unfold adF; rw [if_neg (show ¬ j < 4 * 0 + 0 by omega)]), Lib.hid (Kp.refl _ _), hP, hQ⟩
  clear hR hP hQ
  case round =>
    obtain ⟨c, rfl, hc, HR, HB, HP, HQ⟩ := hrel
    by_cases hlc : c < 4
    · as_aux_lemma =>
      have hci : (c : Int) < 4 := by omega
      have hKr := hK.out.under hgk HB.out.below
      have cw := hKr.word (4 * n + c) (by omega)
      have z1 : IntKind.i64.wrap (4 * (n : Int)) = 4 * n := IntWalk.i64_in _ (by omega)
      have z2 : IntKind.i64.wrap (4 * (n : Int) + c) = 4 * n + c := IntWalk.i64_in _ (by omega)
      have z3 : (4 * (n : Int) + c).toNat = 4 * n + c := by omega
      have z4 : (0 : Int) ≤ 4 * (n : Int) + c := by omega
      have z5 : 4 * (n : Int) + c < 60 := by omega
      have cp := HP.out
      have CB := Lib.hid (fun w => bytesOf_any (W (4 * n + c)) w)
      have HS := Lib.hid (fun r hr j => adF_step f W n c r hlc hr j)
      clear hKr
      generalize W (4 * n + c) = x at cw CB HS
      go_wp2_with fail
      refine (CB.out _).mono ?_
      rintro e w1 ⟨rfl, b1⟩
      clear CB cw
      have hgr := World.rowIs.lt HR.out
      have HR1 : Hid (w1.rowIs g 82 16 (fun j => .int .u8 ((adF f W n (4 * c + 0) j).toNat : Int))) := Lib.hid (World.rowIs.of_block HR.out (b1.block g hgr))
      have HB1 : Hid (Kp g w w1) := Lib.hid (HB.out.trans (Kp.of_below b1 hgr))
      have HP1 : Hid (w1.cell? ⟨p, 0, none⟩ = some (.pointer (some ⟨kg, 0, none⟩))) := Lib.hid ((b1.cell (p := ⟨p, 0, none⟩) (block_lt_of_cell HP.out)).trans HP.out)
      have HQ1 : Hid (w1.cell? ⟨q, 0, none⟩ = some (.pointer (some ⟨g, 0, none⟩))) := Lib.hid ((b1.cell (p := ⟨q, 0, none⟩) (block_lt_of_cell HQ.out)).trans HQ.out)
      clear HR HB HP HQ b1 cp
      obtain ⟨y, hy⟩ : ∃ y, Hid (byW x = y) := ⟨_, Lib.hid rfl⟩
      rw [hy.out] at HS ⊢
      clear hy
      go_wp2_with fail
      go_loopw [20] (fun x wi => ∃ r : Nat, x = .int .i64 (r : Int) ∧ r ≤ 4 ∧ Hid (wi.rowIs g 82 16 (fun j => .int .u8 ((adF f W n (4 * c + r) j).toNat : Int))) ∧ Hid (Kp g w wi) ∧ Hid (wi.cell? ⟨p, 0, none⟩ = some (.pointer (some ⟨kg, 0, none⟩))) ∧ Hid (wi.cell? ⟨q, 0, none⟩ = some (.pointer (some ⟨g, 0, none⟩)))) (fun x _ => 4 - (intOf x).toNat)
      case atStart => exact ⟨0, rfl, by omega, HR1, HB1, HP1, HQ1⟩
      clear HR1 HB1 HP1 HQ1
      case round =>
        obtain ⟨r, rfl, hr, HR, HB, HP, HQ⟩ := hrel
        by_cases hlr : r < 4
        · as_aux_lemma =>
          have hri : (r : Int) < 4 := by omega
          have x2 : ((r : Int) + 4 * (c : Int)).toNat = r + 4 * c := by omega
          have x4 : (r : Int) + 4 * (c : Int) < 16 := by omega
          have x6 : (0 : Int) ≤ (r : Int) + 4 * (c : Int) := by omega
          have y5 : IntKind.i64.wrap (4 * (c : Int)) = 4 * c := IntWalk.i64_in _ (by omega)
          have y6 : IntKind.i64.wrap ((r : Int) + 4 * c) = r + 4 * c := IntWalk.i64_in _ (by omega)
          have d0 := World.rowIs.cell HR.out (i := r + 4 * c) (by omega)
          rw [adF_at] at d0
          have f0 := World.rowIs.frozen HR.out (r + 4 * c)
          have hix := index_b4r y r hlr
          obtain ⟨v, hv⟩ : ∃ v, Hid (f (r + 4 * c) ^^^ y r = v) := ⟨_, Lib.hid rfl⟩
          have CA := Lib.hid (fun w => addB_to _ _ v w hv)
          have cq := HQ.out
          go_upto_region 6 with fail
          refine wp_region_lin (S := (fun w' => w'.cell? ⟨q, 0, none⟩ = some (.pointer (some ⟨g, 0, none⟩)) ∧ w'.cell? ⟨g, r + 4 * c, none⟩ = some (.int .u8 ((f (r + 4 * c)).toNat : Int)))) [(0, true), (1, true), (2, true), (3, true), (4, true), (5, true), (6, true), (7, true), (8, true), (9, true), (10, true), (11, true), (12, true), (13, true), (15, true), (14, false), (16, true), (17, false)] (by kernel_rfl) (by kernel_rfl) rfl (by kernel_rfl) ?_ (fun hHeld => ?_)
          · (try dsimp only); exact ⟨cq, d0⟩
          (refine wpL_calm (o := { dst := some 24, op := Go.Op.load 86 (Go.Operand.tmp 2), type := 86, pos := "aes.go:127", after := #[], guard := none }) (v := ?_) rfl (Or.inl ⟨by rfl, ?_⟩) ?_; rotate_left; (focus (intro w hSw; (try dsimp only at hSw); go_simp; (try (with_reducible rfl)); done)); try simp only [Act.put, List.setIfInBounds_toArray, List.set_cons_zero, List.set_cons_succ])
          (refine wpL_calm (o := { dst := some 25, op := Go.Op.move (Go.Operand.tmp 5), type := 3, pos := "aes.go:127", after := #[], guard := none }) (v := ?_) rfl (Or.inl ⟨by rfl, ?_⟩) ?_; rotate_left; (focus (intro w hSw; (try dsimp only at hSw); go_simp; (try (with_reducible rfl)); done)); try simp only [Act.put, List.setIfInBounds_toArray, List.set_cons_zero, List.set_cons_succ])
          (refine wpL_calm (o := { dst := some 26, op := Go.Op.move (Go.Operand.tmp 4), type := 3, pos := "aes.go:127", after := #[], guard := none }) (v := ?_) rfl (Or.inl ⟨by rfl, ?_⟩) ?_; rotate_left; (focus (intro w hSw; (try dsimp only at hSw); go_simp; (try (with_reducible rfl)); done)); try simp only [Act.put, List.setIfInBounds_toArray, List.set_cons_zero, List.set_cons_succ])
          (refine wpL_calm (o := { dst := some 27, op := Go.Op.binOp Go.BinOp.mul 3 (Go.Operand.const (Go.Value.int Go.IntKind.i64 4)) (Go.Operand.tmp 26) 3, type := 3, pos := "aes.go:127", after := #[{ on := 2, ground := Go.Ground.data }], guard := none }) (v := ?_) rfl (Or.inl ⟨by rfl, ?_⟩) ?_; rotate_left; (focus (intro w hSw; (try dsimp only at hSw); go_simp; (try (with_reducible rfl)); done)); try simp only [Act.put, List.setIfInBounds_toArray, List.set_cons_zero, List.set_cons_succ])
          (refine wpL_calm (o := { dst := some 28, op := Go.Op.binOp Go.BinOp.add 3 (Go.Operand.tmp 25) (Go.Operand.tmp 27) 3, type := 3, pos := "aes.go:127", after := #[{ on := 1, ground := Go.Ground.data }, { on := 3, ground := Go.Ground.data }], guard := none }) (v := ?_) rfl (Or.inl ⟨by rfl, ?_⟩) ?_; rotate_left; (focus (intro w hSw; (try dsimp only at hSw); go_simp; (try (with_reducible rfl)); done)); try simp only [Act.put, List.setIfInBounds_toArray, List.set_cons_zero, List.set_cons_succ])
          (refine wpL_calm (o := { dst := some 29, op := Go.Op.load 86 (Go.Operand.tmp 2), type := 86, pos := "aes.go:127", after := #[], guard := none }) (v := ?_) rfl (Or.inl ⟨by rfl, ?_⟩) ?_; rotate_left; (focus (intro w hSw; (try dsimp only at hSw); go_simp; (try (with_reducible rfl)); done)); try simp only [Act.put, List.setIfInBounds_toArray, List.set_cons_zero, List.set_cons_succ])
          (refine wpL_calm (o := { dst := some 30, op := Go.Op.move (Go.Operand.tmp 5), type := 3, pos := "aes.go:127", after := #[], guard := none }) (v := ?_) rfl (Or.inl ⟨by rfl, ?_⟩) ?_; rotate_left; (focus (intro w hSw; (try dsimp only at hSw); go_simp; (try (with_reducible rfl)); done)); try simp only [Act.put, List.setIfInBounds_toArray, List.set_cons_zero, List.set_cons_succ])
          (refine wpL_calm (o := { dst := some 31, op := Go.Op.move (Go.Operand.tmp 4), type := 3, pos := "aes.go:127", after := #[], guard := none }) (v := ?_) rfl (Or.inl ⟨by rfl, ?_⟩) ?_; rotate_left; (focus (intro w hSw; (try dsimp only at hSw); go_simp; (try (with_reducible rfl)); done)); try simp only [Act.put, List.setIfInBounds_toArray, List.set_cons_zero, List.set_cons_succ])
          (refine wpL_calm (o := { dst := some 32, op := Go.Op.binOp Go.BinOp.mul 3 (Go.Operand.const (Go.Value.int Go.IntKind.i64 4)) (Go.Operand.tmp 31) 3, type := 3, pos := "aes.go:127", after := #[{ on := 7, ground := Go.Ground.data }], guard := none }) (v := ?_) rfl (Or.inl ⟨by rfl, ?_⟩) ?_; rotate_left; (focus (intro w hSw; (try dsimp only at hSw); go_simp; (try (with_reducible rfl)); done)); try simp only [Act.put, List.setIfInBounds_toArray, List.set_cons_zero, List.set_cons_succ])
          (refine wpL_calm (o := { dst := some 33, op := Go.Op.binOp Go.BinOp.add 3 (Go.Operand.tmp 30) (Go.Operand.tmp 32) 3, type := 3, pos := "aes.go:127", after := #[{ on := 6, ground := Go.Ground.data }, { on := 8, ground := Go.Ground.data }], guard := none }) (v := ?_) rfl (Or.inl ⟨by rfl, ?_⟩) ?_; rotate_left; (focus (intro w hSw; (try dsimp only at hSw); go_simp; (try (with_reducible rfl)); done)); try simp only [Act.put, List.setIfInBounds_toArray, List.set_cons_zero, List.set_cons_succ])
          (refine wpL_calm (o := { dst := some 34, op := Go.Op.nilCheck (Go.Operand.tmp 29), type := 0, pos := "aes.go:127", after := #[{ on := 5, ground := Go.Ground.data }], guard := none }) (v := ?_) rfl (Or.inl ⟨by rfl, ?_⟩) ?_; rotate_left; (focus (intro w hSw; (try dsimp only at hSw); go_simp; (try (with_reducible rfl)); done)); try simp only [Act.put, List.setIfInBounds_toArray, List.set_cons_zero, List.set_cons_succ])
          (refine wpL_calm (o := { dst := some 35, op := Go.Op.indexAddr 82 (Go.Operand.tmp 34) (Go.Operand.tmp 33), type := 0, pos := "aes.go:127", after := #[{ on := 10, ground := Go.Ground.data }, { on := 9, ground := Go.Ground.data }], guard := none }) (v := ?_) rfl (Or.inl ⟨by rfl, ?_⟩) ?_; rotate_left; (focus (intro w hSw; (try dsimp only at hSw); go_simp; (try (with_reducible rfl)); done)); try simp only [Act.put, List.setIfInBounds_toArray, List.set_cons_zero, List.set_cons_succ])
          (refine wpL_calm (o := { dst := some 36, op := Go.Op.load 66 (Go.Operand.tmp 35), type := 66, pos := "aes.go:127", after := #[{ on := 11, ground := Go.Ground.data }], guard := none }) (v := ?_) rfl (Or.inl ⟨by rfl, ?_⟩) ?_; rotate_left; (focus (intro w hSw; (try dsimp only at hSw); go_simp; (try (with_reducible rfl)); done)); try simp only [Act.put, List.setIfInBounds_toArray, List.set_cons_zero, List.set_cons_succ])
          (refine wpL_calm (o := { dst := some 37, op := Go.Op.move (Go.Operand.tmp 6), type := 5, pos := "aes.go:127", after := #[], guard := none }) (v := ?_) rfl (Or.inl ⟨by rfl, ?_⟩) ?_; rotate_left; (focus (intro w hSw; (try dsimp only at hSw); go_simp; (try (with_reducible rfl)); done)); try simp only [Act.put, List.setIfInBounds_toArray, List.set_cons_zero, List.set_cons_succ])
          (refine wpL_calm (o := { dst := some 39, op := Go.Op.nilCheck (Go.Operand.tmp 24), type := 0, pos := "aes.go:127", after := #[{ on := 0, ground := Go.Ground.data }], guard := none }) (v := ?_) rfl (Or.inl ⟨by rfl, ?_⟩) ?_; rotate_left; (focus (intro w hSw; (try dsimp only at hSw); go_simp; (try (with_reducible rfl)); done)); try simp only [Act.put, List.setIfInBounds_toArray, List.set_cons_zero, List.set_cons_succ])
          refine wpL_loud1 (o := { dst := some 38, op := Go.Op.call { callee := Go.Callee.value (Go.Operand.func 44), args := #[Go.Operand.tmp 36, Go.Operand.tmp 37], argTypes := #[66, 66] }, type := 66, pos := "aes.go:127", after := #[{ on := 12, ground := Go.Ground.data }, { on := 13, ground := Go.Ground.data }], guard := none }) rfl (fun K hK => ?_)
          (go_simp; go_at_call 44; refine (CA.out _).mono ?_; rintro e w' ⟨rfl, rfl⟩)
          try go_wp2_with fail
          refine hK.out _ _ ?_ (fun hHeld => ?_)
          · (try dsimp only); try trivial
          clear hK K
          try simp only [Act.put, List.setIfInBounds_toArray, List.set_cons_zero, List.set_cons_succ]
          (refine wpL_calm (o := { dst := some 40, op := Go.Op.indexAddr 82 (Go.Operand.tmp 39) (Go.Operand.tmp 28), type := 0, pos := "aes.go:127", after := #[{ on := 15, ground := Go.Ground.data }, { on := 4, ground := Go.Ground.data }, { on := 0, ground := Go.Ground.phase }, { on := 1, ground := Go.Ground.phase }, { on := 2, ground := Go.Ground.phase }, { on := 3, ground := Go.Ground.phase }, { on := 4, ground := Go.Ground.phase }, { on := 5, ground := Go.Ground.phase }, { on := 6, ground := Go.Ground.phase }, { on := 7, ground := Go.Ground.phase }, { on := 8, ground := Go.Ground.phase }, { on := 9, ground := Go.Ground.phase }, { on := 10, ground := Go.Ground.phase }, { on := 11, ground := Go.Ground.phase }, { on := 12, ground := Go.Ground.phase }, { on := 13, ground := Go.Ground.phase }, { on := 14, ground := Go.Ground.phase }], guard := none }) (v := ?_) rfl (Or.inl ⟨by rfl, ?_⟩) ?_; rotate_left; (focus (intro w hSw; (try dsimp only at hSw); go_simp; (try (with_reducible rfl)); done)); try simp only [Act.put, List.setIfInBounds_toArray, List.set_cons_zero, List.set_cons_succ])
          refine wpL_loud0 (o := { dst := none, op := Go.Op.store 66 (Go.Operand.tmp 40) (Go.Operand.tmp 38), type := 0, pos := "aes.go:127", after := #[{ on := 16, ground := Go.Ground.data }, { on := 14, ground := Go.Ground.data }, { on := 14, ground := Go.Ground.chain }, { on := 0, ground := Go.Ground.phase }, { on := 1, ground := Go.Ground.phase }, { on := 2, ground := Go.Ground.phase }, { on := 3, ground := Go.Ground.phase }, { on := 4, ground := Go.Ground.phase }, { on := 5, ground := Go.Ground.phase }, { on := 6, ground := Go.Ground.phase }, { on := 7, ground := Go.Ground.phase }, { on := 8, ground := Go.Ground.phase }, { on := 9, ground := Go.Ground.phase }, { on := 10, ground := Go.Ground.phase }, { on := 11, ground := Go.Ground.phase }, { on := 12, ground := Go.Ground.phase }, { on := 13, ground := Go.Ground.phase }, { on := 14, ground := Go.Ground.phase }], guard := none }) rfl (by kernel_rfl) (fun K hK => ?_)
          go_simp
          refine hK.out _ _ ?_
          clear hK K
          try simp only [Act.put, List.setIfInBounds_toArray, List.set_cons_zero, List.set_cons_succ]
          refine wpL_nil ?_
          refine NoPanic.normal ?_
          go_wp2_with fail
          go_roundw
          case rel => exact ⟨r + 1, by go_num, by omega, Lib.hid (by
            refine World.rowIs.congr (World.rowIs.set HR.out (r + 4 * c) (.int .u8 (v.toNat : Int))) fun j hj => ?_
            rw [HS.out r hlr j, hv.out]
            by_cases e : j = r + 4 * c
            · rw [if_pos e, if_pos e]
            · rw [if_neg e, if_neg e]), Lib.hid (by first | exact HB.out.setCell (r + 4 * c) _ | exact (HB.out.setCell (r + 4 * c) _).drew | exact (HB.out.setCell (r + 4 * c) _).drew.drew),
            Lib.hid ((World.cell?_setCell_other _ _ _ _ (by intro e'; simp only [Addr.mk.injEq] at e'; exact hp e'.1.symm)).trans HP.out), Lib.hid ((World.cell?_setCell_other _ _ _ _ (by intro e'; simp only [Addr.mk.injEq] at e'; exact hq e'.1.symm)).trans HQ.out)⟩
          case measure => simp [intOf]; omega
        · as_aux_lemma =>
          obtain rfl : r = 4 := by omega
          rw [show ((4 : Nat) : Int) = 4 from rfl]
          go_wp2_with fail
          go_roundw
          case rel => exact ⟨c + 1, by go_num, by omega, Lib.hid (by rw [show 4 * (c + 1) + 0 = 4 * c + 4 by omega]; exact HR.out), HB, HP, HQ⟩
          case measure => simp [intOf]; omega
    · as_aux_lemma =>
      obtain rfl : c = 4 := by omega
      rw [show ((4 : Nat) : Int) = 4 from rfl]
      go_wp2_with fail
      go_end0
      exact ⟨rfl, World.rowIs.congr HR.out fun j hj => by unfold adF; rw [if_pos (show j < 4 * 4 + 0 by omega)], HB.out, HP.out, HQ.out⟩
end Go.Proofs.Ytbbanhjcchnhpaa
