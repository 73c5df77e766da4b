/- Contracts of package gf (cellaret): sums, products, inverses; the law GfMuls, GfField. -/
import Derived.Test.YtbbanhjcchnhpaaProg
import Derived.Test.YtbbanhjcchnhpaaGf
import Derived.WalkKit
import Derived.WalkSpells
import Derived.WalkLawsBesides
import Derived.Handy
import Derived.Lib.Hide
import Derived.RegionTactic
import Derived.Laws.BitsAllLaws
import Derived.OpenShut
namespace Go.Proofs.Ytbbanhjcchnhpaa
open Go.RowKit
set_option linter.unusedVariables false

theorem below_trans {w w1 w2 : World} (h1 : Below w.heap.size w w1) (h2 : Below w1.heap.size w1 w2) : Below w.heap.size w w2 := h1.trans (h2.mono h1.size)

theorem ret_u8 {a b : Int} (h : a = b) : Ending.returned (.int .u8 a) = .returned (.int .u8 b) := by rw [h]
set_option maxRecDepth 100000 in
theorem add_any (a b : Nat) (w : World) (ha : a < 256) (hb : b < 256) :
    Calls Try.prog 44 #[.int .u8 a, .int .u8 b] w fun e w' => e = .returned (.int .u8 ((a ^^^ b : Nat) : Int)) ∧ w = w' := by
  have hx := u8_xor_nat a b ha hb
  go_enter Try.func44, Try.ntmps44
  go_wp2
  go_ret
  exact ⟨rfl, rfl⟩
set_option maxRecDepth 100000 in
theorem twice_any (a : Nat) (w : World) (ha : a < 256) :
    Calls Try.prog 51 #[.int .u8 a] w fun e w' => e = .returned (.int .u8 (tw a : Nat)) ∧ w = w' := by
  have h1 := u8_and_nat a 128 ha (by omega)
  by_cases h : 128 ≤ a
  · have hb : (bits BinOp.and .u8 (a : Int) 128 != 0) = true := by
      have := (and128 a ha).2 h
      rw [bne_iff_ne]
      show bits BinOp.and .u8 (a : Int) ((128 : Nat) : Int) ≠ 0
      rw [h1]; omega
    have hx := u8_xor_nat ((2 * a) % 256) 27 (by omega) (by omega)
    rw [tw_high a ha h] at hx
    rw [show (((2 * a) % 256 : Nat) : Int) = 2 * (a : Int) % 256 from by omega] at hx
    have HX := Lib.hid hx
    clear hx
    go_enter Try.func51, Try.ntmps51
    go_wp2
    go_ret
    exact ⟨ret_u8 (by rw [Int.mul_comm (a : Int) 2]; exact HX.out), rfl⟩
  · have hb : (bits BinOp.and .u8 (a : Int) 128 != 0) = false := by
      have : ¬ (a &&& 128 ≠ 0) := fun hh => h ((and128 a ha).1 hh)
      rw [bne_eq_false_iff_eq]
      show bits BinOp.and .u8 (a : Int) ((128 : Nat) : Int) = 0
      rw [h1]; omega
    rw [tw_low a (by omega)]
    go_enter Try.func51, Try.ntmps51
    go_wp2
    go_ret
    exact ⟨ret_u8 (by omega), rfl⟩

theorem and1 (b : Nat) (hb : b < 256) : bits BinOp.and .u8 (b : Int) 1 = ((b % 2 : Nat) : Int) := by
  have h1 := u8_and_nat b 1 hb (by omega)
  show bits BinOp.and .u8 (b : Int) ((1 : Nat) : Int) = _
  rw [h1, Nat.and_one_is_mod]

set_option maxRecDepth 100000 in
set_option maxHeartbeats 1000000 in
theorem mul_raw (a b : Nat) (w : World) (ha : a < 256) (hb : b < 256) (m : Nat) (hm : Hid (gmul a b = m)) (hm' : Hid (gmul b a = m)) :
    Calls Try.prog 73 #[.int .u8 a, .int .u8 b] w fun e w' => e = .returned (.int .u8 m) ∧ w = w' := by
  by_cases hlt : a < b
  all_goals
    go_enter Try.func73, Try.ntmps73
    go_wp2
    go_loop [0, 1, 5] (fun x y s => ∃ f a' b' s' : Nat, x = .int .u8 a' ∧ y = .int .u8 b' ∧ s = .int .u8 s' ∧ a' < 256 ∧ b' < 256 ∧ s' < 256 ∧ b' < 2 ^ f ∧ Hid (mulGo f a' b' s' = m))
      (fun _ y _ => (intOf y).toNat)
    case atStart => first | exact ⟨8, a, b, 0, rfl, rfl, rfl, ha, hb, by omega, hb, hm⟩ | exact ⟨8, b, a, 0, rfl, rfl, rfl, hb, ha, by omega, ha, hm'⟩
    case round =>
      obtain ⟨f, a', b', s', rfl, rfl, rfl, ha', hb', hs', hf, hg⟩ := hrel
      have HF := Lib.hid hf
      clear hf
      by_cases h0 : b' = 0
      · subst h0
        have hz : Hid (s' = m) := Lib.hid (by have := hg.out; rwa [mulGo_zero] at this)
        go_wp2
        go_ret
        exact ⟨ret_u8 (by rw [hz.out]), rfl⟩
      · have hne : ((b' : Int) != 0) = true := by rw [bne_iff_ne]; omega
        obtain ⟨f, rfl⟩ : ∃ g, f = g + 1 := by
          cases f with
          | zero => have := HF.out; simp at this; omega
          | succ g => exact ⟨g, rfl⟩
        have hpos : 0 < b' := by omega
        clear h0
        by_cases hodd : b' % 2 = 1
        · have ht : (bits BinOp.and .u8 (b' : Int) 1 != 0) = true := by rw [and1 b' hb', hodd]; rfl
          have hg2 : Hid (mulGo f (tw a') (b' / 2) (s' ^^^ a') = m) := Lib.hid (by have := hg.out; unfold mulGo at this; rwa [if_pos hodd] at this)
          have HO := Lib.hid hodd
          clear hodd
          go_wp2_with (first | (go_at_call 44; refine (add_any _ _ _ hs' ha').mono ?_; rintro e w' ⟨rfl, rfl⟩) | (go_at_call 51; refine (twice_any _ _ ha').mono ?_; rintro e w' ⟨rfl, rfl⟩))
          go_round
          case rel => exact ⟨f, tw a', b' / 2, s' ^^^ a', rfl, by go_num, rfl, tw_lt _ ha', by omega, xor_lt _ _ hs' ha', by have := HF.out; rw [Nat.pow_succ] at this; omega, hg2⟩
          case measure => simp [intOf]; omega
        · have ht : (bits BinOp.and .u8 (b' : Int) 1 != 0) = false := by rw [and1 b' hb', show b' % 2 = 0 from by omega]; rfl
          have hg2 : Hid (mulGo f (tw a') (b' / 2) s' = m) := Lib.hid (by have := hg.out; unfold mulGo at this; rwa [if_neg hodd] at this)
          have HO := Lib.hid hodd
          clear hodd
          go_wp2_with (first | (go_at_call 51; refine (twice_any _ _ ha').mono ?_; rintro e w' ⟨rfl, rfl⟩))
          go_round
          case rel => exact ⟨f, tw a', b' / 2, s', rfl, by go_num, rfl, tw_lt _ ha', by omega, hs', by have := HF.out; rw [Nat.pow_succ] at this; omega, hg2⟩
          case measure => simp [intOf]; omega
theorem mul_any (a b : Nat) (w : World) (ha : a < 256) (hb : b < 256) :
    Calls Try.prog 73 #[.int .u8 a, .int .u8 b] w fun e w' => e = .returned (.int .u8 (gmul a b : Nat)) ∧ w = w' :=
  mul_raw a b w ha hb _ (Lib.hid rfl) (Lib.hid (gmul_comm b a hb ha))
end Go.Proofs.Ytbbanhjcchnhpaa
