/- Package slots: bits. -/
import Derived.Test.YthhgodfgigcacaaSlI
namespace Go.Proofs.Ythhgodfgigcacaa
open Go.RowKit Go.Deep
set_option linter.unusedVariables false
set_option linter.unusedSimpArgs false
def b2n (b : Bool) (m : Nat) : Nat := if b then m else 0
def Sl.v (s : Sl) (i : Nat) : Bool := match i with | 0 => s.v0 | 1 => s.v1 | 2 => s.v2 | _ => s.v3
def Sl.d (s : Sl) (i : Nat) : Bool := match i with | 0 => s.d0 | 1 => s.d1 | 2 => s.d2 | _ => s.d3
def bitN (s : Sl) : Nat → Nat
  | 0 => 0
  | k + 1 => bitN s k + b2n (s.v k) (16 * 2 ^ k) + b2n (s.d k) (2 ^ k)
theorem or64 (a b : Nat) (ha : a < 4294967296) (hb : b < 4294967296) : bits .or .i64 (a : Int) (b : Int) = ((a ||| b : Nat) : Int) := by
  have hx : a ||| b < 2 ^ 32 := Nat.or_lt_two_pow (by omega) (by omega)
  have h1 : ∀ c : Nat, c < 4294967296 → (BitVec.ofInt 64 (c : Int)).toNat = c := fun c hc => by
    rw [BitVec.ofInt_natCast, BitVec.toNat_ofNat]; exact Nat.mod_eq_of_lt (by omega)
  show IntKind.i64.wrap ((BitVec.ofInt 64 (a : Int) ||| BitVec.ofInt 64 (b : Int)).toNat : Int) = _
  rw [BitVec.toNat_or, h1 a ha, h1 b hb, IntKind.wrap_i64]
  omega
theorem and64 (a b : Nat) (ha : a < 4294967296) (hb : b < 4294967296) : bits .and .i64 (a : Int) (b : Int) = ((a &&& b : Nat) : Int) := by
  have hx : a &&& b < 2 ^ 32 := Nat.and_lt_two_pow _ (by omega)
  have h1 : ∀ c : Nat, c < 4294967296 → (BitVec.ofInt 64 (c : Int)).toNat = c := fun c hc => by
    rw [BitVec.ofInt_natCast, BitVec.toNat_ofNat]; exact Nat.mod_eq_of_lt (by omega)
  show IntKind.i64.wrap ((BitVec.ofInt 64 (a : Int) &&& BitVec.ofInt 64 (b : Int)).toNat : Int) = _
  rw [BitVec.toNat_and, h1 a ha, h1 b hb, IntKind.wrap_i64]
  omega
theorem or_k0 (g l : Int) : ∀ v0 v1 v2 v3 d0 d1 d2 d3 : Bool, bitN ⟨g, v0, v1, v2, v3, d0, d1, d2, d3, l⟩ 0 ||| 16 = bitN ⟨g, v0, v1, v2, v3, d0, d1, d2, d3, l⟩ 0 + 16 ∧ bitN ⟨g, v0, v1, v2, v3, d0, d1, d2, d3, l⟩ 0 ||| 1 = bitN ⟨g, v0, v1, v2, v3, d0, d1, d2, d3, l⟩ 0 + 1 ∧ (bitN ⟨g, v0, v1, v2, v3, d0, d1, d2, d3, l⟩ 0 + 16) ||| 1 = bitN ⟨g, v0, v1, v2, v3, d0, d1, d2, d3, l⟩ 0 + 16 + 1 ∧ bitN ⟨g, v0, v1, v2, v3, d0, d1, d2, d3, l⟩ 0 < 256 := by
  show ∀ v0 v1 v2 v3 d0 d1 d2 d3 : Bool, bitN (⟨0, v0, v1, v2, v3, d0, d1, d2, d3, 0⟩ : Sl) 0 ||| 16 = bitN (⟨0, v0, v1, v2, v3, d0, d1, d2, d3, 0⟩ : Sl) 0 + 16 ∧ bitN (⟨0, v0, v1, v2, v3, d0, d1, d2, d3, 0⟩ : Sl) 0 ||| 1 = bitN (⟨0, v0, v1, v2, v3, d0, d1, d2, d3, 0⟩ : Sl) 0 + 1 ∧ (bitN (⟨0, v0, v1, v2, v3, d0, d1, d2, d3, 0⟩ : Sl) 0 + 16) ||| 1 = bitN (⟨0, v0, v1, v2, v3, d0, d1, d2, d3, 0⟩ : Sl) 0 + 16 + 1 ∧ bitN (⟨0, v0, v1, v2, v3, d0, d1, d2, d3, 0⟩ : Sl) 0 < 256
  decide
theorem or_k1 (g l : Int) : ∀ v0 v1 v2 v3 d0 d1 d2 d3 : Bool, bitN ⟨g, v0, v1, v2, v3, d0, d1, d2, d3, l⟩ 1 ||| 32 = bitN ⟨g, v0, v1, v2, v3, d0, d1, d2, d3, l⟩ 1 + 32 ∧ bitN ⟨g, v0, v1, v2, v3, d0, d1, d2, d3, l⟩ 1 ||| 2 = bitN ⟨g, v0, v1, v2, v3, d0, d1, d2, d3, l⟩ 1 + 2 ∧ (bitN ⟨g, v0, v1, v2, v3, d0, d1, d2, d3, l⟩ 1 + 32) ||| 2 = bitN ⟨g, v0, v1, v2, v3, d0, d1, d2, d3, l⟩ 1 + 32 + 2 ∧ bitN ⟨g, v0, v1, v2, v3, d0, d1, d2, d3, l⟩ 1 < 256 := by
  show ∀ v0 v1 v2 v3 d0 d1 d2 d3 : Bool, bitN (⟨0, v0, v1, v2, v3, d0, d1, d2, d3, 0⟩ : Sl) 1 ||| 32 = bitN (⟨0, v0, v1, v2, v3, d0, d1, d2, d3, 0⟩ : Sl) 1 + 32 ∧ bitN (⟨0, v0, v1, v2, v3, d0, d1, d2, d3, 0⟩ : Sl) 1 ||| 2 = bitN (⟨0, v0, v1, v2, v3, d0, d1, d2, d3, 0⟩ : Sl) 1 + 2 ∧ (bitN (⟨0, v0, v1, v2, v3, d0, d1, d2, d3, 0⟩ : Sl) 1 + 32) ||| 2 = bitN (⟨0, v0, v1, v2, v3, d0, d1, d2, d3, 0⟩ : Sl) 1 + 32 + 2 ∧ bitN (⟨0, v0, v1, v2, v3, d0, d1, d2, d3, 0⟩ : Sl) 1 < 256
  decide
theorem or_k2 (g l : Int) : ∀ v0 v1 v2 v3 d0 d1 d2 d3 : Bool, bitN ⟨g, v0, v1, v2, v3, d0, d1, d2, d3, l⟩ 2 ||| 64 = bitN ⟨g, v0, v1, v2, v3, d0, d1, d2, d3, l⟩ 2 + 64 ∧ bitN ⟨g, v0, v1, v2, v3, d0, d1, d2, d3, l⟩ 2 ||| 4 = bitN ⟨g, v0, v1, v2, v3, d0, d1, d2, d3, l⟩ 2 + 4 ∧ (bitN ⟨g, v0, v1, v2, v3, d0, d1, d2, d3, l⟩ 2 + 64) ||| 4 = bitN ⟨g, v0, v1, v2, v3, d0, d1, d2, d3, l⟩ 2 + 64 + 4 ∧ bitN ⟨g, v0, v1, v2, v3, d0, d1, d2, d3, l⟩ 2 < 256 := by
  show ∀ v0 v1 v2 v3 d0 d1 d2 d3 : Bool, bitN (⟨0, v0, v1, v2, v3, d0, d1, d2, d3, 0⟩ : Sl) 2 ||| 64 = bitN (⟨0, v0, v1, v2, v3, d0, d1, d2, d3, 0⟩ : Sl) 2 + 64 ∧ bitN (⟨0, v0, v1, v2, v3, d0, d1, d2, d3, 0⟩ : Sl) 2 ||| 4 = bitN (⟨0, v0, v1, v2, v3, d0, d1, d2, d3, 0⟩ : Sl) 2 + 4 ∧ (bitN (⟨0, v0, v1, v2, v3, d0, d1, d2, d3, 0⟩ : Sl) 2 + 64) ||| 4 = bitN (⟨0, v0, v1, v2, v3, d0, d1, d2, d3, 0⟩ : Sl) 2 + 64 + 4 ∧ bitN (⟨0, v0, v1, v2, v3, d0, d1, d2, d3, 0⟩ : Sl) 2 < 256
  decide
theorem or_k3 (g l : Int) : ∀ v0 v1 v2 v3 d0 d1 d2 d3 : Bool, bitN ⟨g, v0, v1, v2, v3, d0, d1, d2, d3, l⟩ 3 ||| 128 = bitN ⟨g, v0, v1, v2, v3, d0, d1, d2, d3, l⟩ 3 + 128 ∧ bitN ⟨g, v0, v1, v2, v3, d0, d1, d2, d3, l⟩ 3 ||| 8 = bitN ⟨g, v0, v1, v2, v3, d0, d1, d2, d3, l⟩ 3 + 8 ∧ (bitN ⟨g, v0, v1, v2, v3, d0, d1, d2, d3, l⟩ 3 + 128) ||| 8 = bitN ⟨g, v0, v1, v2, v3, d0, d1, d2, d3, l⟩ 3 + 128 + 8 ∧ bitN ⟨g, v0, v1, v2, v3, d0, d1, d2, d3, l⟩ 3 < 256 := by
  show ∀ v0 v1 v2 v3 d0 d1 d2 d3 : Bool, bitN (⟨0, v0, v1, v2, v3, d0, d1, d2, d3, 0⟩ : Sl) 3 ||| 128 = bitN (⟨0, v0, v1, v2, v3, d0, d1, d2, d3, 0⟩ : Sl) 3 + 128 ∧ bitN (⟨0, v0, v1, v2, v3, d0, d1, d2, d3, 0⟩ : Sl) 3 ||| 8 = bitN (⟨0, v0, v1, v2, v3, d0, d1, d2, d3, 0⟩ : Sl) 3 + 8 ∧ (bitN (⟨0, v0, v1, v2, v3, d0, d1, d2, d3, 0⟩ : Sl) 3 + 128) ||| 8 = bitN (⟨0, v0, v1, v2, v3, d0, d1, d2, d3, 0⟩ : Sl) 3 + 128 + 8 ∧ bitN (⟨0, v0, v1, v2, v3, d0, d1, d2, d3, 0⟩ : Sl) 3 < 256
  decide
theorem row_cell22 {w : World} {a : Nat} {A : Array Value} {t : TypeId} {z : Nat × Nat} (h : w.heap[a]? = some (.cells A t z)) (j : Nat) (v : Value) (e : A[j]? = some v) : w.cell? ⟨a, j, none⟩ = some v := by
  unfold World.cell?
  simp [h, e]
set_option maxRecDepth 100000 in
set_option maxHeartbeats 4000000 in
theorem bits_any (s : Sl) (w : World) : Calls Try.prog 38 #[.agg #[.int .i64 s.g, .bool s.v0, .bool s.v1, .bool s.v2, .bool s.v3, .bool s.d0, .bool s.d1, .bool s.d2, .bool s.d3, .int .i64 s.l]] w fun e w' => e = .returned (.int .i64 (bitN s 4 : Int)) ∧ Below w.heap.size w w' := by
  obtain ⟨N, hN⟩ : ∃ N, Hid (bitN s 4 = N) := ⟨_, Lib.hid rfl⟩
  rw [hN.out]
  obtain ⟨w1, hw1⟩ : ∃ w1, Hid (w.alloc (.cells #[.int .i64 s.g, .bool s.v0, .bool s.v1, .bool s.v2, .bool s.v3, .bool s.d0, .bool s.d1, .bool s.d2, .bool s.d3, .int .i64 s.l] 44) = w1) := ⟨_, Lib.hid rfl⟩
  obtain ⟨a, ha⟩ : ∃ a, Hid (w.heap.size = a) := ⟨_, Lib.hid rfl⟩
  have HB1 : Hid (Below w.heap.size w w1) := Lib.hid (by rw [← hw1.out]; exact (Below.refl _ _).alloc (Nat.le_refl _) _)
  have hr2 : w1.heap[a]? = some (.cells #[.int .i64 s.g, .bool s.v0, .bool s.v1, .bool s.v2, .bool s.v3, .bool s.d0, .bool s.d1, .bool s.d2, .bool s.d3, .int .i64 s.l] 44 (0, 0)) := by rw [← hw1.out, ← ha.out]; exact heap_alloc_new _ _
  have hc : ∀ j v, (#[.int .i64 s.g, .bool s.v0, .bool s.v1, .bool s.v2, .bool s.v3, .bool s.d0, .bool s.d1, .bool s.d2, .bool s.d3, .int .i64 s.l] : Array Value)[j]? = some v → w1.cell? ⟨a, j, none⟩ = some v := fun j v e => row_cell22 hr2 j v e
  obtain ⟨g, v0, v1, v2, v3, d0, d1, d2, d3, l⟩ := s
  have q1 : w1.cell? ⟨a, 1, none⟩ = some (.bool v0) := hc 1 _ rfl
  have q2 : w1.cell? ⟨a, 2, none⟩ = some (.bool v1) := hc 2 _ rfl
  have q3 : w1.cell? ⟨a, 3, none⟩ = some (.bool v2) := hc 3 _ rfl
  have q4 : w1.cell? ⟨a, 4, none⟩ = some (.bool v3) := hc 4 _ rfl
  have q5 : w1.cell? ⟨a, 5, none⟩ = some (.bool d0) := hc 5 _ rfl
  have q6 : w1.cell? ⟨a, 6, none⟩ = some (.bool d1) := hc 6 _ rfl
  have q7 : w1.cell? ⟨a, 7, none⟩ = some (.bool d2) := hc 7 _ rfl
  have q8 : w1.cell? ⟨a, 8, none⟩ = some (.bool d3) := hc 8 _ rfl
  clear hc hr2
  go_enter Try.func38, Try.ntmps38
  go_upto_region 1 with fail
  rw [hw1.out, ha.out]
  clear hw1 ha
  go_wp2_with fail
  go_loopw [5, 3, 4] (fun s5 s3 _ wi => ∃ k : Nat, s5 = .int .i64 (k : Int) ∧ s3 = .int .i64 (bitN ⟨g, v0, v1, v2, v3, d0, d1, d2, d3, l⟩ k : Int) ∧ k ≤ 4 ∧ w1 = wi) (fun s5 _ _ _ => 4 - (intOf s5).toNat)
  case atStart => exact ⟨0, rfl, rfl, by omega, rfl⟩
  case round =>
    obtain ⟨k, rfl, rfl, hk, rfl⟩ := hrel
    by_cases hlt : k < 4
    · rcases (show k = 0 ∨ k = 1 ∨ k = 2 ∨ k = 3 by omega) with rfl | rfl | rfl | rfl
      · rw [show ((0 : Nat) : Int) = 0 from rfl]
        obtain ⟨o1, o2, o3, o4⟩ := or_k0 g l v0 v1 v2 v3 d0 d1 d2 d3
        have hn : bitN ⟨g, v0, v1, v2, v3, d0, d1, d2, d3, l⟩ (0 + 1) = bitN ⟨g, v0, v1, v2, v3, d0, d1, d2, d3, l⟩ 0 + b2n v0 16 + b2n d0 1 := rfl
        obtain ⟨y, hy⟩ : ∃ y, bitN ⟨g, v0, v1, v2, v3, d0, d1, d2, d3, l⟩ 0 = y := ⟨_, rfl⟩
        rw [hy] at o1 o2 o3 o4 hn ⊢
        have HA := Lib.hid ((or64 y 16 (by omega) (by omega)).trans (by rw [o1]))
        have HD := Lib.hid ((or64 y 1 (by omega) (by omega)).trans (by rw [o2]))
        have HE := Lib.hid ((or64 (y + 16) 1 (by omega) (by omega)).trans (by rw [o3]))
        have HN := Lib.hid hn
        clear hy o1 o2 o3 o4 hn
        cases v0 <;> cases d0
        all_goals
          go_wp2_with fail
          go_roundw
          case rel => exact ⟨0 + 1, rfl, by rw [HN.out]; first | rfl | exact congrArg _ HD.out | exact congrArg _ HA.out | exact congrArg _ ((congrArg (fun z => bits BinOp.or IntKind.i64 z 1) HA.out).trans HE.out), by omega, by first | rfl | trivial⟩
          case measure => simp [intOf]
      · rw [show ((1 : Nat) : Int) = 1 from rfl]
        obtain ⟨o1, o2, o3, o4⟩ := or_k1 g l v0 v1 v2 v3 d0 d1 d2 d3
        have hn : bitN ⟨g, v0, v1, v2, v3, d0, d1, d2, d3, l⟩ (1 + 1) = bitN ⟨g, v0, v1, v2, v3, d0, d1, d2, d3, l⟩ 1 + b2n v1 32 + b2n d1 2 := rfl
        obtain ⟨y, hy⟩ : ∃ y, bitN ⟨g, v0, v1, v2, v3, d0, d1, d2, d3, l⟩ 1 = y := ⟨_, rfl⟩
        rw [hy] at o1 o2 o3 o4 hn ⊢
        have HA := Lib.hid ((or64 y 32 (by omega) (by omega)).trans (by rw [o1]))
        have HD := Lib.hid ((or64 y 2 (by omega) (by omega)).trans (by rw [o2]))
        have HE := Lib.hid ((or64 (y + 32) 2 (by omega) (by omega)).trans (by rw [o3]))
        have HN := Lib.hid hn
        clear hy o1 o2 o3 o4 hn
        cases v1 <;> cases d1
        all_goals
          go_wp2_with fail
          go_roundw
          case rel => exact ⟨1 + 1, rfl, by rw [HN.out]; first | rfl | exact congrArg _ HD.out | exact congrArg _ HA.out | exact congrArg _ ((congrArg (fun z => bits BinOp.or IntKind.i64 z 2) HA.out).trans HE.out), by omega, by first | rfl | trivial⟩
          case measure => simp [intOf]
      · rw [show ((2 : Nat) : Int) = 2 from rfl]
        obtain ⟨o1, o2, o3, o4⟩ := or_k2 g l v0 v1 v2 v3 d0 d1 d2 d3
        have hn : bitN ⟨g, v0, v1, v2, v3, d0, d1, d2, d3, l⟩ (2 + 1) = bitN ⟨g, v0, v1, v2, v3, d0, d1, d2, d3, l⟩ 2 + b2n v2 64 + b2n d2 4 := rfl
        obtain ⟨y, hy⟩ : ∃ y, bitN ⟨g, v0, v1, v2, v3, d0, d1, d2, d3, l⟩ 2 = y := ⟨_, rfl⟩
        rw [hy] at o1 o2 o3 o4 hn ⊢
        have HA := Lib.hid ((or64 y 64 (by omega) (by omega)).trans (by rw [o1]))
        have HD := Lib.hid ((or64 y 4 (by omega) (by omega)).trans (by rw [o2]))
        have HE := Lib.hid ((or64 (y + 64) 4 (by omega) (by omega)).trans (by rw [o3]))
        have HN := Lib.hid hn
        clear hy o1 o2 o3 o4 hn
        cases v2 <;> cases d2
        all_goals
          go_wp2_with fail
          go_roundw
          case rel => exact ⟨2 + 1, rfl, by rw [HN.out]; first | rfl | exact congrArg _ HD.out | exact congrArg _ HA.out | exact congrArg _ ((congrArg (fun z => bits BinOp.or IntKind.i64 z 4) HA.out).trans HE.out), by omega, by first | rfl | trivial⟩
          case measure => simp [intOf]
      · rw [show ((3 : Nat) : Int) = 3 from rfl]
        obtain ⟨o1, o2, o3, o4⟩ := or_k3 g l v0 v1 v2 v3 d0 d1 d2 d3
        have hn : bitN ⟨g, v0, v1, v2, v3, d0, d1, d2, d3, l⟩ (3 + 1) = bitN ⟨g, v0, v1, v2, v3, d0, d1, d2, d3, l⟩ 3 + b2n v3 128 + b2n d3 8 := rfl
        obtain ⟨y, hy⟩ : ∃ y, bitN ⟨g, v0, v1, v2, v3, d0, d1, d2, d3, l⟩ 3 = y := ⟨_, rfl⟩
        rw [hy] at o1 o2 o3 o4 hn ⊢
        have HA := Lib.hid ((or64 y 128 (by omega) (by omega)).trans (by rw [o1]))
        have HD := Lib.hid ((or64 y 8 (by omega) (by omega)).trans (by rw [o2]))
        have HE := Lib.hid ((or64 (y + 128) 8 (by omega) (by omega)).trans (by rw [o3]))
        have HN := Lib.hid hn
        clear hy o1 o2 o3 o4 hn
        cases v3 <;> cases d3
        all_goals
          go_wp2_with fail
          go_roundw
          case rel => exact ⟨3 + 1, rfl, by rw [HN.out]; first | rfl | exact congrArg _ HD.out | exact congrArg _ HA.out | exact congrArg _ ((congrArg (fun z => bits BinOp.or IntKind.i64 z 8) HA.out).trans HE.out), by omega, by first | rfl | trivial⟩
          case measure => simp [intOf]
    · obtain rfl : k = 4 := by omega
      rw [show ((4 : Nat) : Int) = 4 from rfl]
      go_wp2_with fail
      go_ret
      exact ⟨by rw [← hN.out]; rfl, HB1.out⟩
end Go.Proofs.Ythhgodfgigcacaa
