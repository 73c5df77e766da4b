/- Contracts of the reference of layer 1: Xor. -/
import Derived.Test.YtbbanhjcchnhpaaLibC
import Derived.Test.YtbbanhjcchnhpaaBeD
namespace Go.Proofs.Ytbbanhjcchnhpaa
open Go.RowKit Go.Deep

theorem pow_facts (k : Nat) (h : k < 8) : ∃ p : Nat, 1 ≤ p ∧ p ≤ 128 ∧ p = 2 ^ k := by
  refine ⟨2 ^ k, Nat.pos_of_ne_zero (by simp), ?_, rfl⟩
  have : 2 ^ k ≤ 2 ^ 7 := Nat.pow_le_pow_right (by omega) (by omega)
  exact this

set_option maxRecDepth 100000 in
set_option maxHeartbeats 800000 in
theorem r01xor_any (a b : ByteArray) (w : World) (h : a.size ≤ b.size) (hm : a.size ≤ 140737488351232) :
    Calls Try.prog 33 #[.string a, .string b] w fun e w' => e = .returned (.string ⟨(xorL a.data.toList b.data.toList).toArray⟩) ∧ Below w.heap.size w w' := by
  obtain ⟨i0, hi, hz0, hz1, hz2⟩ := info_parts Try.info_u8
  go_enter Try.func33, Try.ntmps33
  go_wp2
  go_loopw [5, 6] (fun v i wr => ∃ k : Nat, k ≤ a.size ∧ i = .int .i64 k ∧ wr.ownsRow w.heap.size 5 1 v ((xorL a.data.toList b.data.toList).take k).length (((xorL a.data.toList b.data.toList).take k).map fun c => .int .u8 (c.toNat : Int)) ∧ Below w.heap.size w wr)
    (fun _ i _ => a.size - (intOf i).toNat)
  case atStart => exact ⟨0, by omega, rfl, World.ownsRow_nil _ _ _ _, Below.refl _ _⟩
  case round =>
    obtain ⟨k, hk, rfl, hown, hbel⟩ := hrel
    have hlen : Hid ((xorL a.data.toList b.data.toList).length = a.size) := Lib.hid (by rw [xorL_length, Lib.size_eq])
    by_cases hlt : k < a.size
    · have hlb : k < b.size := by omega
      have HO := Lib.hid hown
      clear hown
      go_wp2
      obtain ⟨wo, rfl⟩ : ∃ wo : World, wo = wr := ⟨_, rfl⟩
      go_loopw [7, 8, 9] (fun x bit j wi => ∃ n : Nat, n ≤ 8 ∧ j = .int .i64 n ∧ x = .int .i64 ((a[k].toNat ^^^ b[k].toNat) % 2 ^ n : Nat) ∧ bit = .int .i64 ((2 ^ n : Nat) : Int) ∧ ∃ d, wi = wo.drewN d)
        (fun _ _ j _ => 8 - (intOf j).toNat)
      case atStart => exact ⟨0, by omega, rfl, by simp [Nat.mod_one], rfl, 0, rfl⟩
      case round =>
        obtain ⟨n, hn, rfl, rfl, rfl, d, rfl⟩ := hrel
        by_cases hl8 : n < 8
        · obtain ⟨p, hp1, hp2, hp⟩ := pow_facts n hl8
          have HP := Lib.hid hp
          rw [← hp]
          have hx : (((a[k].toNat ^^^ b[k].toNat) % p : Nat) : Int) < p := by
            have := Nat.mod_lt (a[k].toNat ^^^ b[k].toNat) (show p > 0 by omega)
            omega
          clear hp
          generalize hX : (a[k].toNat ^^^ b[k].toNat) % p = X at hx ⊢
          have HX := Lib.hid hX
          clear hX
          go_wp2
          go_quiet (fail)
          go_wp2
          all_goals
            go_roundw
            case measure => simp [intOf]; omega
          case rel =>
            have hh : ((wrap64 ((wrap64 (a[k].toNat : Int)).tdiv (p : Int))).tmod 2 != (wrap64 ((wrap64 (b[k].toNat : Int)).tdiv (p : Int))).tmod 2) = true := by assumption
            rw [byteq _ _ hp1, byteq _ _ hp1, bne_iff_ne, HP.out] at hh
            refine ⟨n + 1, by omega, by go_num, ?_, ?_, ?_⟩
            · rw [xor_step_ne _ _ _ (by simpa using hh), ← HX.out, HP.out]; simp
            · rw [HP.out, Nat.pow_succ]; simp
            · exact ⟨_, rfl⟩
          case rel =>
            have hh : ((wrap64 ((wrap64 (a[k].toNat : Int)).tdiv (p : Int))).tmod 2 != (wrap64 ((wrap64 (b[k].toNat : Int)).tdiv (p : Int))).tmod 2) = false := by assumption
            rw [byteq _ _ hp1, byteq _ _ hp1, bne_eq_false_iff_eq, HP.out] at hh
            refine ⟨n + 1, by omega, by go_num, ?_, ?_, ?_⟩
            · rw [xor_step_eq _ _ _ (by simpa using hh), ← HX.out, HP.out]
            · rw [HP.out, Nat.pow_succ]; simp
            · exact ⟨_, rfl⟩
        · obtain rfl : n = 8 := by omega
          rw [xor8]
          have hxt := Lib.hid (xorL_take a b k hlt hlb)
          generalize a[k] ^^^ b[k] = c at hxt ⊢
          have hcb : (c.toNat : Int) ≤ 255 := by have := c.toNat_lt; omega
          have hll : Hid (((xorL a.data.toList b.data.toList).take k).length = k) := Lib.hid (by rw [List.length_take, hlen.out]; omega)
          go_wp2_with (at_builtin; refine wpList_append_own _ rfl _ _ 77 rfl w.heap.size 5 i0 (.int .u8 0) 1 1 Try.underlying77 hi hz0 hz1 hz2 rfl (by decide) _ _ _ rfl ((ownsRow_drewN HO.out d).alloc _) ⟨wo.heap.size, 0, none⟩ 1 1 [.int .u8 (c.toNat : Int)] rfl rfl ?c1 ?c2 ?c3 ?c4 ?c5 ?_)
          case c1 =>
            intro j u hj
            match j, hj with
            | 0, hj => simp at hj; subst hj; exact World.cell?_alloc_at (w := wo.drewN d) _ _ _ _ rfl
          case c2 => intro u hu; simp at hu; subst hu; rfl
          case c3 => rw [hll.out]; unfold maxLen; omega
          case c4 => rw [hll.out]; omega
          case c5 => have := hbel.size; simp; omega
          · intro v' w1 hown' hgrow _
            have hb1 : Below w.heap.size w w1 := ((below_drewN hbel d).alloc hbel.size _).grown hgrow (by have := hbel.size; simp; omega) (fun j e => by
              exact (HO.out.lt j e).1)
            go_wp2
            go_roundw
            case rel =>
              refine ⟨k + 1, by omega, by go_num, ?_, hb1⟩
              rw [hxt.out]
              simpa using hown'
            case measure => simp [intOf]; omega
    · have hall : Hid ((xorL a.data.toList b.data.toList).take k = xorL a.data.toList b.data.toList) := Lib.hid (List.take_of_length_le (by rw [hlen.out]; omega))
      rw [hall.out] at hown
      have hcv := conv_owned (P := Try.prog) (dst := 9) Try.underlying77 Try.underlying5 Try.underlying9 hown
      clear hown
      go_wp2
      go_ret
      exact ⟨rfl, hbel⟩
end Go.Proofs.Ytbbanhjcchnhpaa
