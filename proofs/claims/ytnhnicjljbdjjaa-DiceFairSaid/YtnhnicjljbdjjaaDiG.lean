/- Contracts (cellaret): the law DiceOrders. -/
import Derived.Test.YtnhnicjljbdjjaaDiF
namespace Go.Proofs.Ytnhnicjljbdjjaa
open Go.RowKit Go.Deep
set_option linter.unusedVariables false

theorem mem_erase_or (zs : List Int) (k : Nat) (hk : k < zs.length) (x : Int) : (x = zs.getD k 0 ∨ x ∈ zs.eraseIdx k) ↔ x ∈ zs := by
  have h1 : zs = zs.take k ++ (zs.getD k 0 :: zs.drop (k + 1)) := by
    have : zs.getD k 0 = zs[k] := by rw [List.getD_eq_getElem?_getD, List.getElem?_eq_getElem hk]; rfl
    rw [this, ← List.drop_eq_getElem_cons hk, List.take_append_drop]
  rw [List.eraseIdx_eq_take_drop_succ]
  generalize zs.getD k 0 = z at h1 ⊢
  generalize hA : zs.take k = A at h1 ⊢
  generalize hB : zs.drop (k + 1) = B at h1 ⊢
  rw [h1]
  simp only [List.mem_append, List.mem_cons]
  constructor
  · rintro (h | h | h)
    · exact .inr (.inl h)
    · exact .inl h
    · exact .inr (.inr h)
  · rintro (h | h | h)
    · exact .inr (.inl h)
    · exact .inl h
    · exact .inr (.inr h)
theorem orderGo_mem (s left : Nat) (zs out : List Int) (hs : zs.length = s) (x : Int) : x ∈ orderGo s left zs out ↔ x ∈ out ∨ x ∈ zs := by
  induction s generalizing left zs out with
  | zero =>
    have : zs = [] := List.length_eq_zero_iff.1 hs
    subst this
    simp [orderGo]
  | succ s ih =>
    have hk : left % zs.length < zs.length := Nat.mod_lt _ (by omega)
    unfold orderGo
    rw [ih _ _ _ (by rw [List.length_eraseIdx, if_pos hk, hs]; rfl), List.mem_append, List.mem_singleton, or_assoc, mem_erase_or zs _ hk x]
theorem orderL_mem (draw n i : Nat) (hi : i < n) : (i : Int) ∈ orderL draw n := by
  unfold orderL
  rw [orderGo_mem _ _ _ _ (by simp)]
  exact .inr (List.mem_map.2 ⟨i, List.mem_range.2 hi, rfl⟩)

set_option maxRecDepth 100000 in
set_option maxHeartbeats 1000000 in
theorem diceOrders_range (draw n : Int) (w : World) (h : draw < 0) :
    Calls Try.prog 5 #[.int .i64 draw, .int .i64 n] w fun e w' => e = .returned (.bool true) ∧ Below w.heap.size w w' := by
  go_enter Try.func5, Try.ntmps5
  go_wp2_with fail
  refine (order_range draw n _ h).mono ?_
  rintro e w' ⟨rfl, rfl⟩
  go_wp2_with fail
  refine (awake08 _).mono ?_
  rintro e w1 ⟨rfl, b1⟩
  go_wp2
  go_ret
  exact ⟨rfl, b1⟩
set_option maxRecDepth 100000 in
set_option maxHeartbeats 1000000 in
theorem diceOrders_arg (draw n : Int) (w : World) (h : 0 ≤ draw) (hn : n < 0 ∨ (0 ≤ n ∧ 12 < n)) :
    Calls Try.prog 5 #[.int .i64 draw, .int .i64 n] w fun e w' => e = .returned (.bool true) ∧ Below w.heap.size w w' := by
  have HC := Lib.hid (fun w => order_arg draw n w h hn)
  rcases hn with hn | ⟨h0, hn⟩
  all_goals
    go_enter Try.func5, Try.ntmps5
    go_wp2_with fail
    refine (HC.out _).mono ?_
    rintro e w' ⟨rfl, rfl⟩
    go_wp2_with fail
    refine (awake08 _).mono ?_
    rintro e w1 ⟨rfl, b1⟩
    go_wp2
    go_ret
    exact ⟨rfl, b1⟩
set_option maxRecDepth 100000 in
set_option maxHeartbeats 2000000 in
theorem diceOrders_ok (draw n : Nat) (tgt : List Int) (w : World) (hd : draw ≤ 9223372036854775807) (hn : n ≤ 12) (ht : Hid (orderL draw n = tgt)) (hl : tgt.length = n) (hm : Hid (∀ i : Nat, i < n → (i : Int) ∈ tgt)) :
    Calls Try.prog 5 #[.int .i64 draw, .int .i64 n] w fun e w' => e = .returned (.bool true) ∧ Below w.heap.size w w' := by
  go_enter Try.func5, Try.ntmps5
  go_wp2_with fail
  refine (order_any draw n tgt _ hd hn ht).mono ?_
  rintro e w1 ⟨⟨v1, rfl, hv1⟩, b1⟩
  obtain ⟨ao, m1, c1, rfl⟩ := own_slice hv1
  obtain ⟨hm1, hat1⟩ := IntsAt.own hv1
  rw [hl] at hm1
  subst hm1
  clear hv1
  have HA := Lib.hid hat1
  clear hat1
  go_wp2
  go_loop [7] (fun x => ∃ i : Nat, x = .int .i64 i ∧ i ≤ m1) (fun x => m1 - (intOf x).toNat)
  case atStart => exact ⟨0, rfl, by omega⟩
  case round =>
    obtain ⟨i, rfl, hi⟩ := hrel
    by_cases hlt : i < m1
    · have HH := Lib.hid (fun w hat => has_raw ao m1 c1 tgt (i : Int) w hl hat (by omega) true (Lib.hid (by rw [decide_eq_true_iff]; exact hm.out i hlt)))
      go_wp2_with fail
      refine (HH.out _ HA.out).mono ?_
      rintro e w' ⟨rfl, rfl⟩
      go_wp2
      go_round
      case rel => exact ⟨i + 1, by go_num, by omega⟩
      case measure => simp [intOf]; omega
    · obtain rfl : i = m1 := by omega
      go_wp2_with fail
      refine (awake08 _).mono ?_
      rintro e w2 ⟨rfl, b2⟩
      have B2 := b1.trans (b2.mono b1.size)
      have hat2 := HA.out.below b2
      have HA2 := Lib.hid hat2
      clear hat2
      go_wp2_with fail
      refine (r08order_any draw i tgt _ hd hn ht).mono ?_
      rintro e w3 ⟨⟨v3, rfl, hv3⟩, b3⟩
      have B3 := B2.trans (b3.mono B2.size)
      obtain ⟨bo, m3, c3, rfl⟩ := own_slice hv3
      obtain ⟨hm3, hat3⟩ := IntsAt.own hv3
      rw [hl] at hm3
      subst hm3
      clear hv3
      have HI := Lib.hid (ints_raw ao bo _ _ c1 c3 tgt tgt _ hl hl (HA2.out.below b3) hat3 (by unfold maxLen; omega) true (Lib.hid (by simp)))
      clear hat3
      go_wp2_with fail
      refine (HI.out).mono ?_
      rintro e w4 ⟨rfl, b4⟩
      have B4 := B3.trans (b4.mono B3.size)
      go_wp2
      go_ret
      exact ⟨rfl, B4⟩
theorem diceOrders_walk (draw n : Int) (w : World) (w1 : (Lit.int .i64 draw).wf = true) (w2 : (Lit.int .i64 n).wf = true) :
    Calls Try.prog 5 #[.int .i64 draw, .int .i64 n] w fun e w' => e = .returned (.bool true) ∧ Below w.heap.size w w' := by
  have b1 := bounds_i64 w1
  by_cases h : draw < 0
  · exact diceOrders_range draw n w h
  by_cases hn : n < 0 ∨ (0 ≤ n ∧ 12 < n)
  · exact diceOrders_arg draw n w (by omega) hn
  obtain ⟨d, rfl⟩ : ∃ d : Nat, draw = d := ⟨draw.toNat, by omega⟩
  obtain ⟨m, rfl⟩ : ∃ m : Nat, n = m := ⟨n.toNat, by omega⟩
  exact diceOrders_ok d m _ w (by omega) (by omega) (Lib.hid rfl) (orderL_length _ _) (Lib.hid (fun i hi => orderL_mem d m i hi))
end Go.Proofs.Ytnhnicjljbdjjaa
