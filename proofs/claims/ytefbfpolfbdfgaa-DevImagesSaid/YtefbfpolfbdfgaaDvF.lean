/- Package dev (cellaret): awake. -/
import Derived.Test.YtefbfpolfbdfgaaDvE
namespace Go.Proofs.Ytefbfpolfbdfgaa
open Go.RowKit Go.Deep
set_option linter.unusedVariables false
set_option linter.unusedSimpArgs false
set_option maxRecDepth 100000 in
set_option maxHeartbeats 1000000 in
theorem ints_one (a ca b cb : Nat) (w : World) (h1 : w.cell? ⟨a, 0, none⟩ = some (.int .i64 1)) (h2 : w.cell? ⟨b, 0, none⟩ = some (.int .i64 1)) : Calls Try.prog 20 #[.slice (some ⟨a, 0, none⟩) 1 ca, .slice (some ⟨b, 0, none⟩) 1 cb] w fun e w' => e = .returned (.bool true) ∧ Below w.heap.size w w' := by
  go_enter Try.func20, Try.ntmps20
  go_wp2_with fail
  go_loopw [5] (fun x wi => ∃ k : Nat, x = .int .i64 (k : Int) ∧ k ≤ 1 ∧ wi.cell? ⟨a, 0, none⟩ = some (.int .i64 1) ∧ wi.cell? ⟨b, 0, none⟩ = some (.int .i64 1) ∧ Hid (Below w.heap.size w wi)) (fun x _ => 1 - (intOf x).toNat)
  case atStart => exact ⟨0, rfl, by omega, h1, h2, Lib.hid (Below.refl _ _)⟩
  case round =>
    obtain ⟨k, rfl, hk, c1, c2, HB⟩ := hrel
    rcases (show k = 0 ∨ k = 1 by omega) with rfl | rfl
    · rw [show ((0 : Nat) : Int) = 0 from rfl]
      go_upto_region 6 with fail
      refine wp_region_lin (S := (fun w' => w'.cell? ⟨a, 0, none⟩ = some (.int .i64 1) ∧ w'.cell? ⟨b, 0, none⟩ = some (.int .i64 1))) [(0, true), (1, true), (2, true), (3, true), (4, true), (5, true), (6, true), (7, true), (8, true)] (by kernel_rfl) (by kernel_rfl) rfl (by kernel_rfl) ?_ (fun hHeld => ?_)
      · (try dsimp only); exact ⟨c1, c2⟩
      refine wpL_calm (o := { dst := some 17, op := Go.Op.move (Go.Operand.tmp 0), type := 30, pos := "ref.go:83", after := #[], guard := none }) (v := ?_) rfl (Or.inl ⟨by rfl, ?_⟩) ?_; rotate_left; (focus (intro w hSw; (try dsimp only at hSw); go_simp; (try (with_reducible rfl)); done)); try simp only [Act.put, List.setIfInBounds_toArray, List.set_cons_zero, List.set_cons_succ]
      refine wpL_calm (o := { dst := some 18, op := Go.Op.move (Go.Operand.tmp 5), type := 3, pos := "ref.go:83", after := #[], guard := none }) (v := ?_) rfl (Or.inl ⟨by rfl, ?_⟩) ?_; rotate_left; (focus (intro w hSw; (try dsimp only at hSw); go_simp; (try (with_reducible rfl)); done)); try simp only [Act.put, List.setIfInBounds_toArray, List.set_cons_zero, List.set_cons_succ]
      refine wpL_calm (o := { dst := some 19, op := Go.Op.indexAddr 30 (Go.Operand.tmp 17) (Go.Operand.tmp 18), type := 0, pos := "ref.go:83", after := #[{ on := 0, ground := Go.Ground.data }, { on := 1, ground := Go.Ground.data }], guard := none }) (v := ?_) rfl (Or.inl ⟨by rfl, ?_⟩) ?_; rotate_left; (focus (intro w hSw; (try dsimp only at hSw); go_simp; (try (with_reducible rfl)); done)); try simp only [Act.put, List.setIfInBounds_toArray, List.set_cons_zero, List.set_cons_succ]
      refine wpL_calm (o := { dst := some 20, op := Go.Op.load 3 (Go.Operand.tmp 19), type := 3, pos := "ref.go:83", after := #[{ on := 2, ground := Go.Ground.data }], guard := none }) (v := ?_) rfl (Or.inl ⟨by rfl, ?_⟩) ?_; rotate_left; (focus (intro w hSw; (try dsimp only at hSw); go_simp; (try (with_reducible rfl)); done)); try simp only [Act.put, List.setIfInBounds_toArray, List.set_cons_zero, List.set_cons_succ]
      refine wpL_calm (o := { dst := some 21, op := Go.Op.move (Go.Operand.tmp 1), type := 30, pos := "ref.go:83", after := #[], guard := none }) (v := ?_) rfl (Or.inl ⟨by rfl, ?_⟩) ?_; rotate_left; (focus (intro w hSw; (try dsimp only at hSw); go_simp; (try (with_reducible rfl)); done)); try simp only [Act.put, List.setIfInBounds_toArray, List.set_cons_zero, List.set_cons_succ]
      refine wpL_calm (o := { dst := some 22, op := Go.Op.move (Go.Operand.tmp 5), type := 3, pos := "ref.go:83", after := #[], guard := none }) (v := ?_) rfl (Or.inl ⟨by rfl, ?_⟩) ?_; rotate_left; (focus (intro w hSw; (try dsimp only at hSw); go_simp; (try (with_reducible rfl)); done)); try simp only [Act.put, List.setIfInBounds_toArray, List.set_cons_zero, List.set_cons_succ]
      refine wpL_calm (o := { dst := some 23, op := Go.Op.indexAddr 30 (Go.Operand.tmp 21) (Go.Operand.tmp 22), type := 0, pos := "ref.go:83", after := #[{ on := 4, ground := Go.Ground.data }, { on := 5, ground := Go.Ground.data }], guard := none }) (v := ?_) rfl (Or.inl ⟨by rfl, ?_⟩) ?_; rotate_left; (focus (intro w hSw; (try dsimp only at hSw); go_simp; (try (with_reducible rfl)); done)); try simp only [Act.put, List.setIfInBounds_toArray, List.set_cons_zero, List.set_cons_succ]
      refine wpL_calm (o := { dst := some 24, op := Go.Op.load 3 (Go.Operand.tmp 23), type := 3, pos := "ref.go:83", after := #[{ on := 6, ground := Go.Ground.data }], guard := none }) (v := ?_) rfl (Or.inl ⟨by rfl, ?_⟩) ?_; rotate_left; (focus (intro w hSw; (try dsimp only at hSw); go_simp; (try (with_reducible rfl)); done)); try simp only [Act.put, List.setIfInBounds_toArray, List.set_cons_zero, List.set_cons_succ]
      refine wpL_calm (o := { dst := some 25, op := Go.Op.binOp Go.BinOp.neq 3 (Go.Operand.tmp 20) (Go.Operand.tmp 24) 3, type := 4, pos := "ref.go:83", after := #[{ on := 3, ground := Go.Ground.data }, { on := 7, ground := Go.Ground.data }], guard := none }) (v := ?_) rfl (Or.inl ⟨by rfl, ?_⟩) ?_; rotate_left; (focus (intro w hSw; (try dsimp only at hSw); go_simp; (try (with_reducible rfl)); done)); try simp only [Act.put, List.setIfInBounds_toArray, List.set_cons_zero, List.set_cons_succ]
      refine wpL_nil ?_
      refine NoPanic.normal ?_
      go_wp2_with fail
      go_roundw
      case rel => exact ⟨1, by first | rfl | go_num, by omega, c1, c2, Lib.hid HB.out.drew⟩
      case measure => simp [intOf]
    · rw [show ((1 : Nat) : Int) = 1 from rfl]
      go_wp2_with fail
      go_ret
      exact ⟨rfl, HB.out⟩
/-- The device's states as awake goes on. -/
def aw0 : Nat → Bk := ofB (zsB (64 * 3)) 3
def aw1 (A : ByteArray) : Nat → Bk := upB aw0 1 ⟨A, (aw0 1).safe, true⟩
def aw2 (A : ByteArray) : Nat → Bk := stB (aw1 A) (fun i => (aw1 A i).now) 3
def aw3 (A B : ByteArray) : Nat → Bk := upB (aw2 A) 1 ⟨B, (aw2 A 1).safe, true⟩
def aw4 (A B : ByteArray) : Nat → Bk := stB (aw3 A B) (fun i => (aw3 A B i).safe) 3
theorem aw3_now (A B : ByteArray) : (aw3 A B 1).now = B := rfl
theorem aw4_now (A B : ByteArray) : (aw4 A B 1).now = A := rfl
theorem aw3_zero (A B : ByteArray) : (aw3 A B 0).wr = false := rfl
theorem aw3_un (A B : ByteArray) : uL (aw3 A B) 3 = [.int .i64 1] := rfl
set_option maxRecDepth 100000 in
set_option maxHeartbeats 3000000 in
theorem awake10 (w : World) : Calls Try.prog 5 #[] w fun e w' => e = .returned (.bool true) ∧ Below w.heap.size w w' := by
  have CA := Lib.hid (fun w => full_any ⟨#[97]⟩ 64 w (by omega) (by decide))
  have CB := Lib.hid (fun w => full_any ⟨#[98]⟩ 64 w (by omega) (by decide))
  rw [show ((64 : Nat) : Int) = 64 from rfl] at CA CB
  have hA : (⟨(zpadL (⟨#[97]⟩ : ByteArray).data.toList 64).toArray⟩ : ByteArray).size = 64 := by decide +kernel
  have hB : (⟨(zpadL (⟨#[98]⟩ : ByteArray).data.toList 64).toArray⟩ : ByteArray).size = 64 := by decide +kernel
  generalize (⟨(zpadL (⟨#[97]⟩ : ByteArray).data.toList 64).toArray⟩ : ByteArray) = A at *
  generalize (⟨(zpadL (⟨#[98]⟩ : ByteArray).data.toList 64).toArray⟩ : ByteArray) = B at *
  have CN := Lib.hid (fun w => new_okD 3 w (by omega) (by omega))
  have W1 := Lib.hid (fun g rb w hD => write_okD g rb 3 1 aw0 A w hD (by omega) hA)
  have FL := Lib.hid (fun g rb w hD => flush_okD g rb 3 (aw1 A) w hD (by omega))
  have W2 := Lib.hid (fun g rb w hD => write_okD g rb 3 1 (aw2 A) B w hD (by omega) hB)
  have R1 := Lib.hid (fun g rb w hD => read_okD g rb 3 1 (aw3 A B) w hD (by omega))
  have UN := Lib.hid (fun g rb w hD => unsafe_okD g rb 3 (aw3 A B) w hD (by omega))
  have CR := Lib.hid (fun g rb w hD => crash_zero g rb 3 (aw3 A B) w hD (by omega) (aw3_zero A B))
  have R2 := Lib.hid (fun g rb w hD => read_okD g rb 3 1 (aw4 A B) w hD (by omega))
  have BL := Lib.hid (fun g rb w hD => blocks_okD g rb 3 (aw4 A B) w hD)
  rw [aw3_now] at R1
  rw [aw4_now] at R2
  rw [aw3_un] at UN
  rw [show ((1 : Nat) : Int) = 1 from rfl] at W1 W2 R1 R2
  rw [show ((3 : Nat) : Int) = 3 from rfl] at CN BL
  have E1 : Hid (∀ w' g rb, DvAt w' g rb 3 (upB aw0 1 ⟨A, (aw0 1).safe, true⟩) → DvAt w' g rb 3 (aw1 A)) := Lib.hid (fun _ _ _ h => h)
  have E2 : Hid (∀ w' g rb, DvAt w' g rb 3 (stB (aw1 A) (fun i => (aw1 A i).now) 3) → DvAt w' g rb 3 (aw2 A)) := Lib.hid (fun _ _ _ h => h)
  have E3 : Hid (∀ w' g rb, DvAt w' g rb 3 (upB (aw2 A) 1 ⟨B, (aw2 A 1).safe, true⟩) → DvAt w' g rb 3 (aw3 A B)) := Lib.hid (fun _ _ _ h => h)
  have E4 : Hid (∀ w' g rb, DvAt w' g rb 3 (stB (aw3 A B) (fun i => (aw3 A B i).safe) 3) → DvAt w' g rb 3 (aw4 A B)) := Lib.hid (fun _ _ _ h => h)
  clear hA hB
  go_enter Try.func5, Try.ntmps5
  go_wp2_with fail
  refine (CN.out _).mono ?_
  rintro e w1 ⟨g, rb, rfl, hD, b1, hrb⟩
  have D1 : Hid (DvAt w1 g rb 3 aw0) := Lib.hid hD
  have B1 := Lib.hid b1
  clear hD b1 CN
  go_wp2_with fail
  refine (CA.out _).mono ?_
  rintro e w2 ⟨rfl, b2⟩
  have D2 := Lib.hid (D1.out.below b2)
  have B2 := Lib.hid (B1.out.trans (b2.mono B1.out.size))
  clear D1 B1 b2 CA
  go_wp2_with fail
  refine (CB.out _).mono ?_
  rintro e w3 ⟨rfl, b3⟩
  have D3 := Lib.hid (D2.out.below b3)
  have B3 := Lib.hid (B2.out.trans (b3.mono B2.out.size))
  clear D2 B2 b3 CB
  go_wp2_with fail
  refine (W1.out g rb _ D3.out).mono ?_
  rintro e w4 ⟨rfl, d4, k4⟩
  have D4 := Lib.hid (E1.out _ _ _ d4)
  have B4 := Lib.hid (B3.out.trans (k4.below.mono hrb))
  clear D3 B3 d4 k4 W1 E1
  go_wp2_with fail
  refine (FL.out g rb _ D4.out).mono ?_
  rintro e w5 ⟨rfl, d5, k5⟩
  have D5 := Lib.hid (E2.out _ _ _ d5)
  have B5 := Lib.hid (B4.out.trans (k5.below.mono hrb))
  clear D4 B4 d5 k5 FL E2
  go_wp2_with fail
  refine (W2.out g rb _ D5.out).mono ?_
  rintro e w6 ⟨rfl, d6, k6⟩
  have D6 := Lib.hid (E3.out _ _ _ d6)
  have B6 := Lib.hid (B5.out.trans (k6.below.mono hrb))
  clear D5 B5 d6 k6 W2 E3
  go_wp2_with fail
  refine (R1.out g rb _ D6.out).mono ?_
  rintro e w' ⟨rfl, rfl⟩
  clear R1
  go_wp2_with fail
  refine (UN.out g rb _ D6.out).mono ?_
  rintro e w7 ⟨v, base, rfl, ho, b7⟩
  have D7 := Lib.hid (D6.out.below b7)
  have B7 := Lib.hid (B6.out.trans (b7.mono B6.out.size))
  have HO := Lib.hid ho
  obtain ⟨vg, vc, hv, hvl, hvcell⟩ : ∃ vg vc, v = .slice (some ⟨vg, 0, none⟩) 1 vc ∧ vg < w7.heap.size ∧ w7.cell? ⟨vg, 0, none⟩ = some (.int .i64 1) := by
    rcases ho.2 with ⟨rfl, h0⟩ | ⟨gg, cap, cur, rfl, hb, hg, hnc, hcm, _⟩
    · cases h0
    · refine ⟨gg, cap, rfl, (Array.getElem?_eq_some_iff.1 hg).1, ?_⟩
      have := ho.cells (g := gg) rfl 0 _ rfl
      rwa [Addr.add_mid, Nat.zero_add] at this
  subst hv
  have HV := Lib.hid hvcell
  clear D6 B6 b7 ho HO hvcell UN
  have hrl7 := World.rowIs.lt D7.out.row
  go_wp2_with fail
  refine (CR.out g rb _ D7.out).mono ?_
  rintro e w8 ⟨rfl, d8, k8⟩
  have D8 := Lib.hid (E4.out _ _ _ d8)
  have B8 := Lib.hid (B7.out.trans (k8.below.mono hrb))
  have hne : vg ≠ rb := fun e => by
    have h1 := HV.out
    rw [e, show (0 : Nat) = 0 * 3 from rfl, D7.out.now 0 (by omega)] at h1
    cases h1
  have HV8 := Lib.hid (k8.cell hne HV.out)
  clear D7 B7 d8 k8 CR HV E4
  go_wp2_with fail
  refine (R2.out g rb _ D8.out).mono ?_
  rintro e w' ⟨rfl, rfl⟩
  clear R2
  go_wp2_with fail
  have hlt8 : vg < w8.heap.size := block_lt_of_cell HV8.out
  have HV9 := (((Below.refl w8.heap.size w8).alloc (Nat.le_refl _) (.cells #[.int .i64 1] 3)).cell (p := ⟨vg, 0, none⟩) hlt8).trans HV8.out
  refine (ints_one vg vc w8.heap.size 1 _ HV9 (cell_of_row _ _ 0 _ _ _ (heap_alloc_new _ _))).mono ?_
  rintro e w9 ⟨rfl, b9⟩
  have b10 : Below w8.heap.size w8 w9 := ((Below.refl _ _).alloc (Nat.le_refl _) _).trans (b9.mono (by simp))
  have D9 := Lib.hid (D8.out.below b10)
  have B9 := Lib.hid (B8.out.trans (b10.mono B8.out.size))
  clear b9 b10 HV9 HV8 D8 B8
  go_wp2_with fail
  refine (BL.out g rb _ D9.out).mono ?_
  rintro e w' ⟨rfl, rfl⟩
  go_wp2_with fail
  go_ret
  exact ⟨by first | rfl | simp, B9.out⟩
end Go.Proofs.Ytefbfpolfbdfgaa
