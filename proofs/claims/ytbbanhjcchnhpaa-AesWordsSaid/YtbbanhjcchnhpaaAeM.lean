/- Package aes (cellaret): each, with forth and with back. -/
import Derived.Test.YtbbanhjcchnhpaaAeL
namespace Go.Proofs.Ytbbanhjcchnhpaa
open Go.RowKit Go.Deep
set_option linter.unusedVariables false
set_option linter.unusedSimpArgs false
def mE (φ : UInt8 → UInt8) (f : Nat → UInt8) (k j : Nat) : UInt8 := if j < k then φ (f j) else f j
theorem KeyAt.under {w w' : World} {g q : Nat} {W : Nat → UInt32} (h : KeyAt w g W) (hg : g < q) (hb : Below q w w') : KeyAt w' g W := World.rowIs.of_block h (hb.block g hg)
set_option maxRecDepth 100000 in
set_option maxHeartbeats 3000000 in
theorem each_any (fn : Nat) (φ : UInt8 → UInt8) (f : Nat → UInt8) (g kg : Nat) (W : Nat → UInt32) (w : World) (hK : Hid (KeyAt w kg W)) (hgk : kg < g) (hR : Hid (w.rowIs g 82 16 (fun j => .int .u8 ((f j).toNat : Int))))
    (heg : ∀ (args : Array Value) (w : World), (callFunc fn args).run Try.prog w = .ok (.enter fn args) w) (HF : Hid (∀ (b : UInt8) (w : World), KeyAt w kg W → Calls Try.prog fn #[.pointer (some ⟨kg, 0, none⟩), .int .u8 (b.toNat : Int)] w fun e w' => e = .returned (.int .u8 ((φ b).toNat : Int)) ∧ w = w')) :
    Calls Try.prog 57 #[.pointer (some ⟨g, 0, none⟩), .func (.func fn) #[.pointer (some ⟨kg, 0, none⟩)] #[]] w fun e w' => e = .returned (.tuple #[]) ∧ w'.rowIs g 82 16 (fun j => .int .u8 ((φ (f j)).toNat : Int)) ∧ Kp g w w' := by
  go_enter Try.func57, Try.ntmps57
  go_wp2_with fail
  go_loopw [7] (fun x wi => ∃ k : Nat, x = .int .i64 (k : Int) ∧ k ≤ 16 ∧ Hid (wi.rowIs g 82 16 (fun j => .int .u8 ((mE φ f k j).toNat : Int))) ∧ Hid (Kp g w wi)) (fun x _ => 16 - (intOf x).toNat)
  case atStart => exact ⟨0, rfl, by omega, Lib.hid (World.rowIs.congr hR.out fun j hj => by unfold mE; rw [if_neg (show ¬ j < 0 by omega)]), Lib.hid (Kp.refl _ _)⟩
  clear hR
  case round =>
    obtain ⟨k, rfl, hk, HR, HB⟩ := hrel
    by_cases hlt : k < 16
    · as_aux_lemma =>
      have hli : (k : Int) < 16 := by omega
      have c0 := World.rowIs.cell HR.out (i := k) hlt
      rw [show mE φ f k k = f k by unfold mE; rw [if_neg (Nat.lt_irrefl k)]] at c0
      have f0 := World.rowIs.frozen HR.out k
      have HKr : Hid (KeyAt wr kg W) := Lib.hid (hK.out.under hgk HB.out.below)
      go_upto_region 2 with fail
      refine wp_region_lin (S := (fun w' => w'.cell? ⟨g, k, none⟩ = some (.int .u8 ((f k).toNat : Int)))) [(0, true), (1, true), (2, true), (3, true), (4, true), (5, true)] (by kernel_rfl) (by kernel_rfl) rfl (by kernel_rfl) ?_ (fun hHeld => ?_)
      · (try dsimp only); exact c0
      (refine wpL_calm (o := { dst := some 9, op := Go.Op.move (Go.Operand.tmp 7), type := 3, pos := "aes.go:99", after := #[], guard := none }) (v := ?_) rfl (Or.inl ⟨by rfl, ?_⟩) ?_; rotate_left; (focus (intro w hSw; (try dsimp only at hSw); go_simp; (try (with_reducible rfl)); done)); try simp only [Act.put, List.setIfInBounds_toArray, List.set_cons_zero, List.set_cons_succ])
      (refine wpL_calm (o := { dst := some 10, op := Go.Op.nilCheck (Go.Operand.tmp 6), type := 0, pos := "aes.go:99", after := #[{ on := 4, ground := Go.Ground.gcOnly Go.Departure.lateStores }], guard := none }) (v := ?_) rfl (Or.inl ⟨by rfl, ?_⟩) ?_; rotate_left; (focus (intro w hSw; (try dsimp only at hSw); go_simp; (try (with_reducible rfl)); done)); try simp only [Act.put, List.setIfInBounds_toArray, List.set_cons_zero, List.set_cons_succ])
      (refine wpL_calm (o := { dst := some 11, op := Go.Op.indexAddr 82 (Go.Operand.tmp 10) (Go.Operand.tmp 7), type := 0, pos := "aes.go:99", after := #[{ on := 1, ground := Go.Ground.data }, { on := 4, ground := Go.Ground.gcOnly Go.Departure.lateStores }], guard := none }) (v := ?_) rfl (Or.inl ⟨by rfl, ?_⟩) ?_; rotate_left; (focus (intro w hSw; (try dsimp only at hSw); go_simp; (try (with_reducible rfl)); done)); try simp only [Act.put, List.setIfInBounds_toArray, List.set_cons_zero, List.set_cons_succ])
      (refine wpL_calm (o := { dst := some 12, op := Go.Op.load 66 (Go.Operand.tmp 11), type := 66, pos := "aes.go:99", after := #[{ on := 2, ground := Go.Ground.data }, { on := 4, ground := Go.Ground.gcOnly Go.Departure.lateStores }], guard := none }) (v := ?_) rfl (Or.inl ⟨by rfl, ?_⟩) ?_; rotate_left; (focus (intro w hSw; (try dsimp only at hSw); go_simp; (try (with_reducible rfl)); done)); try simp only [Act.put, List.setIfInBounds_toArray, List.set_cons_zero, List.set_cons_succ])
      (refine wpL_calm (o := { dst := some 4, op := Go.Op.assign (Go.Operand.tmp 9), type := 3, pos := "aes.go:99", after := #[{ on := 0, ground := Go.Ground.data }, { on := 0, ground := Go.Ground.phase }, { on := 1, ground := Go.Ground.textOnly Go.Departure.lateStores }, { on := 2, ground := Go.Ground.textOnly Go.Departure.lateStores }, { on := 3, ground := Go.Ground.textOnly Go.Departure.lateStores }], guard := none }) (v := ?_) rfl (Or.inl ⟨by rfl, ?_⟩) ?_; rotate_left; (focus (intro w hSw; (try dsimp only at hSw); go_simp; (try (with_reducible rfl)); done)); try simp only [Act.put, List.setIfInBounds_toArray, List.set_cons_zero, List.set_cons_succ])
      (refine wpL_calm (o := { dst := some 5, op := Go.Op.assign (Go.Operand.tmp 12), type := 66, pos := "aes.go:99", after := #[{ on := 3, ground := Go.Ground.data }, { on := 4, ground := Go.Ground.chain }, { on := 0, ground := Go.Ground.phase }, { on := 1, ground := Go.Ground.phase }, { on := 2, ground := Go.Ground.phase }, { on := 3, ground := Go.Ground.phase }, { on := 4, ground := Go.Ground.phase }], guard := none }) (v := ?_) rfl (Or.inl ⟨by rfl, ?_⟩) ?_; rotate_left; (focus (intro w hSw; (try dsimp only at hSw); go_simp; (try (with_reducible rfl)); done)); try simp only [Act.put, List.setIfInBounds_toArray, List.set_cons_zero, List.set_cons_succ])
      refine wpL_nil ?_
      refine NoPanic.normal ?_
      go_upto_region 3 with fail
      refine wp_region_lin (S := (fun _ => True)) [(0, true), (1, true), (2, true), (3, true), (5, true), (4, false), (6, true), (7, false)] (by kernel_rfl) (by kernel_rfl) rfl (by kernel_rfl) ?_ (fun hHeld => ?_)
      · (try dsimp only); try exact trivial
      (refine wpL_calm (o := { dst := some 13, op := Go.Op.move (Go.Operand.tmp 0), type := 86, pos := "aes.go:100", after := #[], guard := none }) (v := ?_) rfl (Or.inl ⟨by rfl, ?_⟩) ?_; rotate_left; (focus (intro w hSw; (try dsimp only at hSw); go_simp; (try (with_reducible rfl)); done)); try simp only [Act.put, List.setIfInBounds_toArray, List.set_cons_zero, List.set_cons_succ])
      (refine wpL_calm (o := { dst := some 14, op := Go.Op.move (Go.Operand.tmp 4), type := 3, pos := "aes.go:100", after := #[], guard := none }) (v := ?_) rfl (Or.inl ⟨by rfl, ?_⟩) ?_; rotate_left; (focus (intro w hSw; (try dsimp only at hSw); go_simp; (try (with_reducible rfl)); done)); try simp only [Act.put, List.setIfInBounds_toArray, List.set_cons_zero, List.set_cons_succ])
      (refine wpL_calm (o := { dst := some 15, op := Go.Op.move (Go.Operand.tmp 1), type := 68, pos := "aes.go:100", after := #[], guard := none }) (v := ?_) rfl (Or.inl ⟨by rfl, ?_⟩) ?_; rotate_left; (focus (intro w hSw; (try dsimp only at hSw); go_simp; (try (with_reducible rfl)); done)); try simp only [Act.put, List.setIfInBounds_toArray, List.set_cons_zero, List.set_cons_succ])
      (refine wpL_calm (o := { dst := some 16, op := Go.Op.move (Go.Operand.tmp 5), type := 66, pos := "aes.go:100", after := #[], guard := none }) (v := ?_) rfl (Or.inl ⟨by rfl, ?_⟩) ?_; rotate_left; (focus (intro w hSw; (try dsimp only at hSw); go_simp; (try (with_reducible rfl)); done)); try simp only [Act.put, List.setIfInBounds_toArray, List.set_cons_zero, List.set_cons_succ])
      (refine wpL_calm (o := { dst := some 18, op := Go.Op.nilCheck (Go.Operand.tmp 13), type := 0, pos := "aes.go:100", after := #[{ on := 0, ground := Go.Ground.data }], guard := none }) (v := ?_) rfl (Or.inl ⟨by rfl, ?_⟩) ?_; rotate_left; (focus (intro w hSw; (try dsimp only at hSw); go_simp; (try (with_reducible rfl)); done)); try simp only [Act.put, List.setIfInBounds_toArray, List.set_cons_zero, List.set_cons_succ])
      refine wpL_loud1 (o := { dst := some 17, op := Go.Op.call { callee := Go.Callee.value (Go.Operand.tmp 15), args := #[Go.Operand.tmp 16], argTypes := #[66] }, type := 66, pos := "aes.go:100", after := #[{ on := 2, ground := Go.Ground.data }, { on := 3, ground := Go.Ground.data }], guard := none }) rfl (fun K hK => ?_)
      (go_simp; refine (HF.out _ _ ?_).mono ?_; exact HKr.out; rintro e w' ⟨rfl, rfl⟩)
      try go_wp2_with fail
      refine hK.out _ _ ?_ (fun hHeld => ?_)
      · (try dsimp only); try trivial
      clear hK K
      try simp only [Act.put, List.setIfInBounds_toArray, List.set_cons_zero, List.set_cons_succ]
      (refine wpL_calm (o := { dst := some 19, op := Go.Op.indexAddr 82 (Go.Operand.tmp 18) (Go.Operand.tmp 14), type := 0, pos := "aes.go:100", after := #[{ on := 5, ground := Go.Ground.data }, { on := 1, ground := Go.Ground.data }, { on := 0, ground := Go.Ground.phase }, { on := 1, ground := Go.Ground.phase }, { on := 2, ground := Go.Ground.phase }, { on := 3, ground := Go.Ground.phase }, { on := 4, ground := Go.Ground.phase }], guard := none }) (v := ?_) rfl (Or.inl ⟨by rfl, ?_⟩) ?_; rotate_left; (focus (intro w hSw; (try dsimp only at hSw); go_simp; (try (with_reducible rfl)); done)); try simp only [Act.put, List.setIfInBounds_toArray, List.set_cons_zero, List.set_cons_succ])
      refine wpL_loud0 (o := { dst := none, op := Go.Op.store 66 (Go.Operand.tmp 19) (Go.Operand.tmp 17), type := 0, pos := "aes.go:100", after := #[{ on := 6, ground := Go.Ground.data }, { on := 4, ground := Go.Ground.data }, { on := 4, ground := Go.Ground.chain }, { on := 0, ground := Go.Ground.phase }, { on := 1, ground := Go.Ground.phase }, { on := 2, ground := Go.Ground.phase }, { on := 3, ground := Go.Ground.phase }, { on := 4, ground := Go.Ground.phase }], guard := none }) rfl (by kernel_rfl) (fun K hK => ?_)
      go_simp
      refine hK.out _ _ ?_
      clear hK K
      try simp only [Act.put, List.setIfInBounds_toArray, List.set_cons_zero, List.set_cons_succ]
      refine wpL_nil ?_
      refine NoPanic.normal ?_
      go_wp2_with fail
      go_roundw
      case rel => exact ⟨k + 1, by go_num, by omega, Lib.hid (by
        refine World.rowIs.congr (World.rowIs.set HR.out k (.int .u8 ((φ (f k)).toNat : Int))) fun j hj => ?_
        unfold mE
        by_cases e : j = k
        · subst e
          rw [if_pos rfl, if_pos (show j < j + 1 by omega)]
        · rw [if_neg e]
          by_cases h : j < k
          · rw [if_pos h, if_pos (show j < k + 1 by omega)]
          · rw [if_neg h, if_neg (show ¬ j < k + 1 by omega)]), Lib.hid (by first | exact HB.out.setCell k _ | exact (HB.out.setCell k _).drew | exact (HB.out.setCell k _).drew.drew)⟩
      case measure => simp [intOf]; omega
    · as_aux_lemma =>
      obtain rfl : k = 16 := by omega
      rw [show ((16 : Nat) : Int) = 16 from rfl]
      go_wp2_with fail
      go_end0
      exact ⟨rfl, World.rowIs.congr HR.out fun j hj => by unfold mE; rw [if_pos hj], HB.out⟩
theorem forth_enter (args : Array Value) (w : World) : (callFunc 56 args).run Try.prog w = .ok (.enter 56 args) w := by go_simp
theorem back_enter (args : Array Value) (w : World) : (callFunc 64 args).run Try.prog w = .ok (.enter 64 args) w := by go_simp
/-- Each, forth. -/
theorem each_forth (f : Nat → UInt8) (g kg : Nat) (W : Nat → UInt32) (w : World) (hK : Hid (KeyAt w kg W)) (hgk : kg < g) (hR : Hid (w.rowIs g 82 16 (fun j => .int .u8 ((f j).toNat : Int)))) :
    Calls Try.prog 57 #[.pointer (some ⟨g, 0, none⟩), .func (.func 56) #[.pointer (some ⟨kg, 0, none⟩)] #[]] w fun e w' => e = .returned (.tuple #[]) ∧ w'.rowIs g 82 16 (fun j => .int .u8 ((bx (f j)).toNat : Int)) ∧ Kp g w w' :=
  each_any _ bx f g kg W w hK hgk hR forth_enter (Lib.hid fun b w h => forth_any kg b W w h)
theorem each_back (f : Nat → UInt8) (g kg : Nat) (W : Nat → UInt32) (w : World) (hK : Hid (KeyAt w kg W)) (hgk : kg < g) (hR : Hid (w.rowIs g 82 16 (fun j => .int .u8 ((f j).toNat : Int)))) :
    Calls Try.prog 57 #[.pointer (some ⟨g, 0, none⟩), .func (.func 64) #[.pointer (some ⟨kg, 0, none⟩)] #[]] w fun e w' => e = .returned (.tuple #[]) ∧ w'.rowIs g 82 16 (fun j => .int .u8 ((ux (f j)).toNat : Int)) ∧ Kp g w w' :=
  each_any _ ux f g kg W w hK hgk hR back_enter (Lib.hid fun b w h => back_any kg b W w h)
end Go.Proofs.Ytbbanhjcchnhpaa
