/- The reference of layer 3: Add, bits, num. -/
import Derived.Test.YtndhegdhkoileaaDoorSiA
namespace Go.Proofs.YtndhegdhkoileaaDoor
open Go.RowKit Go.Deep
set_option linter.unusedVariables false
set_option linter.unusedSimpArgs false
theorem u32_bd (x : UInt32) : (x.toNat : Int) ≤ 4294967295 := by have := x.toNat_lt; omega
theorem r03add_any (x y : UInt32) (w : World) : Calls Tryd.prog 26 #[.int .i64 (x.toNat : Int), .int .i64 (y.toNat : Int)] w fun e w' => e = .returned (.int .i64 ((x + y).toNat : Int)) ∧ w = w' := by
  have h1 := u32_bd x
  have h2 := u32_bd y
  have HA := Lib.hid (w_add x y)
  generalize hs : x + y = s at *
  generalize hX : x.toNat = X at *
  generalize hY : y.toNat = Y at *
  clear hs hX hY
  go_enter Tryd.func26, Tryd.ntmps26
  go_wp2_with fail
  go_ret
  exact ⟨by rw [HA.out]; rfl, rfl⟩
theorem row_updN {w : World} {g n : Nat} {f f' : Nat → Nat} (h : w.rowIs g 3 n (fun j => .int .i64 (f j : Int))) (k x : Nat) (hx : ∀ j, j < n → f' j = if j = k then x else f j) : (w.setCell ⟨g, k, none⟩ (.int .i64 (x : Int))).rowIs g 3 n (fun j => .int .i64 (f' j : Int)) := by
  refine (h.set k _).congr fun j hj => ?_
  rw [hx j hj]
  by_cases e : j = k
  · rw [if_pos e, if_pos e]
  · rw [if_neg e, if_neg e]
def btF (x : UInt32) (m j : Nat) : Nat := if m ≤ j then wbt x (31 - j) else 0
theorem btF_succ (x : UInt32) (q j : Nat) (hj : j < 32) : btF x q j = if j = q then x.toNat / 2 ^ (32 - (q + 1)) % 2 else btF x (q + 1) j := by
  unfold btF
  by_cases e : j = q
  · subst e; rw [if_pos (Nat.le_refl _), if_pos rfl]; unfold wbt; rw [show 32 - (j + 1) = 31 - j from by omega]
  · rw [if_neg e]
    by_cases h : q ≤ j
    · rw [if_pos h, if_pos (by omega)]
    · rw [if_neg h, if_neg (by omega)]
theorem half_of (x : UInt32) (q : Nat) (hq : q + 1 ≤ 32) : x.toNat / 2 ^ (32 - q) = x.toNat / 2 ^ (32 - (q + 1)) / 2 := by
  rw [Nat.div_div_eq_div_mul, ← Nat.pow_succ, show (32 - (q + 1)).succ = 32 - q from by omega]
set_option maxRecDepth 100000 in
set_option maxHeartbeats 1000000 in
theorem bits_any (x : UInt32) (w : World) : Calls Tryd.prog 33 #[.int .i64 (x.toNat : Int)] w fun e w' => e = .returned (.slice (some ⟨w.heap.size, 0, none⟩) 32 32) ∧ RowN w' w.heap.size 32 (bitsL x) ∧ Below w.heap.size w w' := by
  have hmk := run_make_row' (P := Tryd.prog) 33 3 (.int .i64 0) 8 Tryd.underlying33 info_i64' rfl .i64 .i64 32 (by omega) (by omega)
  rw [show ((32 : Nat) : Int) = 32 from rfl] at hmk
  have hr1 : (w.alloc (.cells (madeCells #[.int .i64 0] 32) 3)).rowIs w.heap.size 3 32 (fun j => .int .i64 (btF x 32 j : Int)) := (World.rowIs_made w _ _ _).congr (fun j hj => by unfold btF; rw [if_neg (by omega)]; rfl)
  have hx := u32_bd x
  have HZ : Hid (x.toNat = x.toNat / 2 ^ (32 - 32)) := Lib.hid (by simp)
  have HHA := Lib.hid (half_of x)
  have HBS := Lib.hid (btF_succ x)
  have HFI : Hid (∀ j, j < 32 → btF x 0 j = lget (bitsL x) j) := Lib.hid (fun j hj => by unfold btF; rw [if_pos (by omega), bitsL_at x j hj])
  have HBD : Hid (∀ m, x.toNat / 2 ^ m ≤ 4294967295) := Lib.hid (fun m => by have := Nat.div_le_self x.toNat (2 ^ m); omega)
  generalize bitsL x = BL at *
  go_enter Tryd.func33, Tryd.ntmps33
  go_upto_region 2 with fail
  have B1 : Below w.heap.size w (w.alloc (.cells (madeCells #[.int .i64 0] 32) 3)) := (Below.refl _ _).alloc (Nat.le_refl _) _
  clear hmk
  generalize w.alloc (.cells (madeCells #[.int .i64 0] 32) 3) = w1 at *
  generalize hgt : w.heap.size = gt at *
  have HGT := Lib.hid hgt
  clear hgt
  go_wp2_with fail
  go_loopw [0, 4] (fun a i wi => ∃ m : Nat, i = .int .i64 ((m : Int) - 1) ∧ m ≤ 32 ∧ a = .int .i64 ((x.toNat / 2 ^ (32 - m) : Nat) : Int) ∧ Hid (wi.rowIs gt 3 32 (fun j => .int .i64 (btF x m j : Int))) ∧ Hid (Below gt w wi)) (fun _ i _ => (intOf i + 1).toNat)
  case atStart => exact ⟨32, rfl, by omega, by rw [← HZ.out], Lib.hid hr1, Lib.hid B1⟩
  clear hr1 B1
  case round =>
    obtain ⟨m, rfl, hm, rfl, HR, HB⟩ := hrel
    match m, hm, HR with
    | 0, hm, HR =>
      rw [show ((0 : Nat) : Int) - 1 = -1 from rfl]
      go_wp2_with fail
      go_ret
      exact ⟨by rw [HGT.out]; rfl, by rw [HGT.out]; exact World.rowIs.congr HR.out (fun j hj => by rw [HFI.out j hj]), by rw [HGT.out]; exact HB.out⟩
    | q + 1, hm, HR =>
      rw [show ((q + 1 : Nat) : Int) - 1 = (q : Int) from by omega]
      have HH := Lib.hid (HHA.out q hm)
      have HS := Lib.hid (fun j hj => HBS.out q j hj)
      have hA := HBD.out (32 - (q + 1))
      generalize x.toNat / 2 ^ (32 - (q + 1)) = A at *
      have d0 := World.rowIs.cell HR.out (i := q) (by omega)
      have f0 := World.rowIs.frozen HR.out q
      have hq : (q : Int) < 32 := by omega
      have hA2 : (A : Int) ≤ 4294967295 := by omega
      have hm2 : (A : Int) % 2 = ((A % 2 : Nat) : Int) := by omega
      have HM2 := Lib.hid hm2
      clear hm2
      go_wp2_with fail
      go_roundw
      case rel => exact ⟨q, by go_num, by omega, by rw [HH.out]; congr 1, Lib.hid (by rw [HM2.out]; exact row_updN HR.out q (A % 2) HS.out), Lib.hid (HB.out.setCell (p := ⟨gt, _, none⟩) (Nat.le_refl _) _)⟩
      case measure => simp [intOf]
theorem numT_bd (l : List Nat) (h : ∀ i, lget l i ≤ 1) (k : Nat) (hk : k ≤ 32) : numT l k ≤ 4294967295 := by
  have h1 := numT_lt l h k
  have h2 := Nat.pow_le_pow_right (n := 2) (by decide) hk
  have : 2 ^ 32 = 4294967296 := by decide
  omega
theorem numT_succ (l : List Nat) (k : Nat) : numT l (k + 1) = 2 * numT l k + lget l k := rfl
attribute [local irreducible] numT
set_option maxRecDepth 100000 in
set_option maxHeartbeats 1000000 in
theorem num_any (l : List Nat) (g c : Nat) (w : World) (hb : ∀ i, lget l i ≤ 1) (hr : RowN w g 32 l) : Calls Tryd.prog 34 #[.slice (some ⟨g, 0, none⟩) 32 c] w fun e w' => e = .returned (.int .i64 (numT l 32 : Int)) ∧ w = w' := by
  have HB := Lib.hid (numT_bd l hb)
  have HS := Lib.hid (numT_succ l)
  have HBB := Lib.hid hb
  have HR := Lib.hid hr
  have H0 : Hid (numT l 0 = 0) := Lib.hid (by with_unfolding_all rfl)
  clear hb hr
  go_enter Tryd.func34, Tryd.ntmps34
  go_wp2_with fail
  go_loopw [3, 4] (fun n i wi => ∃ k : Nat, i = .int .i64 k ∧ k ≤ 32 ∧ n = .int .i64 (numT l k : Int) ∧ w = wi) (fun _ i _ => 32 - (intOf i).toNat)
  case atStart => exact ⟨0, rfl, by omega, by rw [H0.out]; rfl, rfl⟩
  case round =>
    obtain ⟨k, rfl, hk, rfl, rfl⟩ := hrel
    have b1 := HB.out k hk
    by_cases hlt : k < 32
    · have hli : (k : Int) < 32 := by omega
      have d0 := World.rowIs.cell HR.out (i := k) hlt
      have b2 := HBB.out k
      have hs := HS.out k
      have HS1 := Lib.hid hs
      clear hs
      generalize numT l k = n at *
      generalize lget l k = b at *
      go_wp2_with fail
      go_roundw
      case rel => exact ⟨k + 1, by go_num, by omega, by rw [HS1.out]; go_num, trivial⟩
      case measure => simp [intOf]; omega
    · obtain rfl : k = 32 := by omega
      rw [show ((32 : Nat) : Int) = 32 from rfl]
      go_wp2_with fail
      go_ret
      exact ⟨rfl, rfl⟩
end Go.Proofs.YtndhegdhkoileaaDoor
