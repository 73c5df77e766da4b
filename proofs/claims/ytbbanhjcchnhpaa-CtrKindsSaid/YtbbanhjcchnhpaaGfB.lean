/- Contracts of package gf (cellaret): powers by squares, inverses, turns; the reference's products. -/
import Derived.Test.YtbbanhjcchnhpaaGfA
import Derived.Deep.QuietTactic
import Derived.BigQuiet
namespace Go.Proofs.Ytbbanhjcchnhpaa
open Go.RowKit
set_option linter.unusedVariables false

theorem ret_i64 {a b : Int} (h : a = b) : Ending.returned (.int .i64 a) = .returned (.int .i64 b) := by rw [h]
theorem i64_xor_nat (a b : Nat) (ha : a < 4611686018427387904) (hb : b < 4611686018427387904) : bits BinOp.xor .i64 (a : Int) (b : Int) = ((a ^^^ b : Nat) : Int) := by
  have hx : a ^^^ b < 2 ^ 62 := Nat.xor_lt_two_pow (by omega) (by omega)
  have h1 : (BitVec.ofInt 64 (a : Int)).toNat = a := by
    rw [BitVec.ofInt_natCast, BitVec.toNat_ofNat]; exact Nat.mod_eq_of_lt (by omega)
  have h2 : (BitVec.ofInt 64 (b : Int)).toNat = b := by
    rw [BitVec.ofInt_natCast, BitVec.toNat_ofNat]; exact Nat.mod_eq_of_lt (by omega)
  show IntKind.i64.wrap ((BitVec.ofInt 64 (a : Int) ^^^ BitVec.ofInt 64 (b : Int)).toNat : Int) = _
  rw [BitVec.toNat_xor, h1, h2, IntKind.wrap_i64]
  omega
theorem i64_and1 (b : Nat) (hb : b < 4611686018427387904) : bits BinOp.and .i64 (b : Int) 1 = ((b % 2 : Nat) : Int) := by
  have h := (bits_nat .i64 62 (by decide) (fun n h0 h1 => by rw [IntKind.wrap_i64]; omega) b 1 (by omega) (by omega)).1
  show bits BinOp.and .i64 (b : Int) ((1 : Nat) : Int) = _
  rw [h, Nat.and_one_is_mod]

set_option maxRecDepth 100000 in
set_option maxHeartbeats 1000000 in
theorem again1_any (n a b m : Nat) (w : World) (ha : a < 256) (hn : n < 256) (hc : w.cell? ⟨b, 0, none⟩ = some (.int .i64 n)) (hm : Hid (gag n a = m)) :
    Calls Try.prog 82 #[.int .u8 a, .func (.func 73) #[] #[], .pointer (some ⟨b, 0, none⟩)] w fun e w' => e = .returned (.int .u8 m) ∧ w = w' := by
  go_enter Try.func82, Try.ntmps82
  go_wp2
  go_loop [0, 6, 7] (fun x p y => ∃ f a' n' p' : Nat, x = .int .u8 a' ∧ y = .int .i64 n' ∧ p = .int .u8 p' ∧ a' < 256 ∧ n' < 256 ∧ p' < 256 ∧ n' < 2 ^ f ∧ Hid (agGo f n' a' p' = m))
    (fun _ _ y => (intOf y).toNat)
  case atStart => exact ⟨8, a, n, 1, rfl, rfl, rfl, ha, hn, by omega, hn, hm⟩
  case round =>
    obtain ⟨f, a', n', p', rfl, rfl, rfl, ha', hn', hp', hf, hg⟩ := hrel
    have HF := Lib.hid hf
    clear hf
    by_cases h0 : n' = 0
    · subst h0
      have hz : Hid (p' = m) := Lib.hid (by have := hg.out; rwa [agGo_zero] at this)
      go_wp2
      go_ret
      exact ⟨ret_u8 (by rw [hz.out]), rfl⟩
    · have hpos : 0 < n' := by omega
      clear h0
      obtain ⟨f, rfl⟩ : ∃ g, f = g + 1 := by
        cases f with
        | zero => have := HF.out; simp at this; omega
        | succ g => exact ⟨g, rfl⟩
      by_cases hodd : n' % 2 = 1
      · have ht : (bits BinOp.and .i64 (n' : Int) 1 != 0) = true := by rw [i64_and1 n' (by omega), hodd]; rfl
        have hg2 : Hid (agGo f (n' / 2) (gmul a' a') (gmul p' a') = m) := Lib.hid (by have := hg.out; unfold agGo at this; rwa [if_pos hodd] at this)
        have HO := Lib.hid hodd
        clear hodd
        go_wp2_with fail
        refine (mul_any _ _ _ hp' ha').mono ?_
        rintro e w' ⟨rfl, rfl⟩
        go_wp2_with fail
        refine (mul_any _ _ _ ha' ha').mono ?_
        rintro e w' ⟨rfl, rfl⟩
        go_wp2
        go_round
        case rel => exact ⟨f, gmul a' a', n' / 2, gmul p' a', rfl, by go_num, rfl, gmul_lt _ _ ha', by omega, gmul_lt _ _ hp', by have := HF.out; rw [Nat.pow_succ] at this; omega, hg2⟩
        case measure => simp [intOf]; omega
      · have ht : (bits BinOp.and .i64 (n' : Int) 1 != 0) = false := by rw [i64_and1 n' (by omega), show n' % 2 = 0 from by omega]; rfl
        have hg2 : Hid (agGo f (n' / 2) (gmul a' a') p' = m) := Lib.hid (by have := hg.out; unfold agGo at this; rwa [if_neg hodd] at this)
        have HO := Lib.hid hodd
        clear hodd
        go_wp2_with fail
        refine (mul_any _ _ _ ha' ha').mono ?_
        rintro e w' ⟨rfl, rfl⟩
        go_wp2
        go_round
        case rel => exact ⟨f, gmul a' a', n' / 2, p', rfl, by go_num, rfl, gmul_lt _ _ ha', by omega, hp', by have := HF.out; rw [Nat.pow_succ] at this; omega, hg2⟩
        case measure => simp [intOf]; omega
theorem again_any (n : Int) (w : World) :
    Calls Try.prog 72 #[.int .i64 n] w fun e w' => e = .returned (.func (.func 82) #[] #[.pointer (some ⟨w.heap.size, 0, none⟩)]) ∧ w.alloc (.cells #[.int .i64 n] 3) = w' := by
  go_enter Try.func72, Try.ntmps72
  go_wp2
  go_ret
  exact ⟨rfl, rfl⟩
set_option maxRecDepth 100000 in
theorem inv_any (a : Nat) (w : World) (ha : a < 256) :
    Calls Try.prog 43 #[.int .u8 a] w fun e w' => e = .returned (.int .u8 (ginv a : Nat)) ∧ Below w.heap.size w w' := by
  by_cases h0 : a = 0
  · subst h0
    rw [show ginv 0 = 0 from rfl]
    go_enter Try.func43, Try.ntmps43
    go_wp2
    go_ret
    exact ⟨rfl, Below.refl _ _⟩
  · have hne : ((a : Int) == 0) = false := by rw [beq_eq_false_iff_ne]; omega
    rw [show ginv a = gag 254 a from if_neg h0]
    have hc := World.cell?_alloc_new w #[.int .i64 ((254 : Nat) : Int)] 3 0
    have HA := Lib.hid (fun w0 b hc => again1_any 254 a b (gag 254 a) w0 ha (by omega) hc (Lib.hid rfl))
    clear h0
    go_enter Try.func43, Try.ntmps43
    go_wp2_with fail
    refine (again_any 254 _).mono ?_
    rintro e w' ⟨rfl, rfl⟩
    go_wp2_with fail
    refine (HA.out _ _ hc).mono ?_
    rintro e w' ⟨rfl, rfl⟩
    go_wp2
    go_ret
    exact ⟨rfl, (Below.refl _ _).alloc (Nat.le_refl _) _⟩

set_option maxRecDepth 100000 in
theorem r02add_any (a b : Nat) (w : World) (ha : a < 4611686018427387904) (hb : b < 4611686018427387904) :
    Calls Try.prog 47 #[.int .i64 a, .int .i64 b] w fun e w' => e = .returned (.int .i64 ((a ^^^ b : Nat) : Int)) ∧ w = w' := by
  have hx := i64_xor_nat a b ha hb
  go_enter Try.func47, Try.ntmps47
  go_wp2
  go_ret
  exact ⟨rfl, rfl⟩
set_option maxRecDepth 100000 in
set_option maxHeartbeats 1000000 in
theorem r02mul_raw (a b m : Nat) (w : World) (ha : a < 256) (hb : b < 256) (hm : Hid (gmul a b = m)) :
    Calls Try.prog 74 #[.int .i64 a, .int .i64 b] w fun e w' => e = .returned (.int .i64 m) ∧ w = w' := by
  go_enter Try.func74, Try.ntmps74
  go_wp2
  go_loop [0, 1, 5] (fun x y s => ∃ f a' b' s' : Nat, x = .int .i64 a' ∧ y = .int .i64 b' ∧ s = .int .i64 s' ∧ a' < 256 ∧ b' < 256 ∧ s' < 256 ∧ b' < 2 ^ f ∧ Hid (mulGo f a' b' s' = m))
    (fun _ y _ => (intOf y).toNat)
  case atStart => exact ⟨8, a, b, 0, rfl, rfl, rfl, ha, hb, by omega, hb, hm⟩
  case round =>
    obtain ⟨f, a', b', s', rfl, rfl, rfl, ha', hb', hs', hf, hg⟩ := hrel
    have HF := Lib.hid hf
    clear hf
    by_cases h0 : b' = 0
    · subst h0
      have hz : Hid (s' = m) := Lib.hid (by have := hg.out; rwa [mulGo_zero] at this)
      go_wp2
      go_ret
      exact ⟨ret_i64 (by rw [hz.out]), rfl⟩
    · have hpos : 0 < b' := by omega
      clear h0
      obtain ⟨f, rfl⟩ : ∃ g, f = g + 1 := by
        cases f with
        | zero => have := HF.out; simp at this; omega
        | succ g => exact ⟨g, rfl⟩
      have hx := i64_xor_nat s' a' (by omega) (by omega)
      have hy := i64_xor_nat (2 * a') 283 (by omega) (by omega)
      rw [show (((2 * a') : Nat) : Int) = (a' : Int) * 2 from by omega, show ((283 : Nat) : Int) = 283 from rfl] at hy
      by_cases hodd : b' % 2 = 1
      · have hg2 : Hid (mulGo f (tw a') (b' / 2) (s' ^^^ a') = m) := Lib.hid (by have := hg.out; unfold mulGo at this; rwa [if_pos hodd] at this)
        have ho : ((b' : Int) % 2 == 1) = true := by rw [beq_iff_eq]; omega
        clear hodd
        by_cases hh : a' < 128
        · have ht := Lib.hid (tw_low a' hh)
          go_wp2
          go_round
          case rel => exact ⟨f, tw a', b' / 2, s' ^^^ a', by rw [ht.out]; go_num, by go_num, rfl, tw_lt _ ha', by omega, xor_lt _ _ hs' ha', by have := HF.out; rw [Nat.pow_succ] at this; omega, hg2⟩
          case measure => simp [intOf]; omega
        · have ht : Hid (tw a' = (2 * a') ^^^ 283) := Lib.hid (if_neg hh)
          go_wp2
          go_round
          case rel => exact ⟨f, tw a', b' / 2, s' ^^^ a', by rw [ht.out], by go_num, rfl, tw_lt _ ha', by omega, xor_lt _ _ hs' ha', by have := HF.out; rw [Nat.pow_succ] at this; omega, hg2⟩
          case measure => simp [intOf]; omega
      · have hg2 : Hid (mulGo f (tw a') (b' / 2) s' = m) := Lib.hid (by have := hg.out; unfold mulGo at this; rwa [if_neg hodd] at this)
        have ho : ((b' : Int) % 2 == 1) = false := by rw [beq_eq_false_iff_ne]; omega
        clear hodd
        by_cases hh : a' < 128
        · have ht := Lib.hid (tw_low a' hh)
          go_wp2
          go_round
          case rel => exact ⟨f, tw a', b' / 2, s', by rw [ht.out]; go_num, by go_num, rfl, tw_lt _ ha', by omega, hs', by have := HF.out; rw [Nat.pow_succ] at this; omega, hg2⟩
          case measure => simp [intOf]; omega
        · have ht : Hid (tw a' = (2 * a') ^^^ 283) := Lib.hid (if_neg hh)
          go_wp2
          go_round
          case rel => exact ⟨f, tw a', b' / 2, s', by rw [ht.out], by go_num, rfl, tw_lt _ ha', by omega, hs', by have := HF.out; rw [Nat.pow_succ] at this; omega, hg2⟩
          case measure => simp [intOf]; omega
theorem r02mul_any (a b : Nat) (w : World) (ha : a < 256) (hb : b < 256) :
    Calls Try.prog 74 #[.int .i64 a, .int .i64 b] w fun e w' => e = .returned (.int .i64 (gmul a b : Nat)) ∧ w = w' := r02mul_raw a b _ w ha hb (Lib.hid rfl)
end Go.Proofs.Ytbbanhjcchnhpaa
