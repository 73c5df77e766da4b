/- Contracts (cellaret): lists compared; what must come at any rate; the law DiceBelow. -/
import Derived.Test.YtnhnicjljbdjjaaDiC
namespace Go.Proofs.Ytnhnicjljbdjjaa
open Go.RowKit Go.Deep
set_option linter.unusedVariables false

set_option maxRecDepth 100000 in
set_option maxHeartbeats 400000 in
theorem order_zero (draw : Nat) (w : World) (hd : draw ≤ 9223372036854775807) :
    Calls Try.prog 11 #[.int .i64 draw, .int .i64 0] w fun e w' => e = .returned (.tuple #[.slice none 0 0, .int .i64 0]) ∧ Below w.heap.size w w' := by
  go_enter Try.func11, Try.ntmps11
  go_wp2
  go_loop [6, 21] (fun x y => x = .slice none 0 0 ∧ y = .int .i64 0) (fun _ _ => 0)
  case atStart => exact ⟨rfl, rfl⟩
  case round =>
    obtain ⟨rfl, rfl⟩ := hrel
    have hB : Below w.heap.size w (w.alloc (.cells #[.int .i64 (draw : Int)] 3)) := (Below.refl _ _).alloc (Nat.le_refl _) _
    go_wp2_with fail
    refine (roller_any _ _).mono ?_
    rintro e w' ⟨rfl, rfl⟩
    go_wp2
    go_loop [6, 7, 32] (fun x y z => x = .slice none 0 0 ∧ y = .slice none 0 0 ∧ z = .int .i64 0) (fun _ _ _ => 0)
    case atStart => exact ⟨rfl, rfl, rfl⟩
    case round =>
      obtain ⟨rfl, rfl, rfl⟩ := hrel
      go_wp2
      go_ret2
      exact ⟨rfl, hB⟩
theorem order_any (draw n : Nat) (tgt : List Int) (w : World) (hd : draw ≤ 9223372036854775807) (hn : n ≤ 12) (ht : Hid (orderL draw n = tgt)) :
    Calls Try.prog 11 #[.int .i64 draw, .int .i64 n] w fun e w' => (∃ v, e = .returned (.tuple #[v, .int .i64 0]) ∧ w'.ownsRow w.heap.size 3 1 v tgt.length (tgt.map (Value.int .i64))) ∧ Below w.heap.size w w' := by
  by_cases h0 : n = 0
  · subst h0
    have e : tgt = [] := ht.out.symm
    subst e
    refine (order_zero draw w hd).mono ?_
    rintro e w' ⟨rfl, hb⟩
    exact ⟨⟨_, rfl, World.ownsRow_nil _ _ _ _⟩, hb⟩
  · exact order_pos draw n tgt w hd hn (by omega) ht

theorem IntsAt.own {w : World} {base : Nat} {e : TypeId} {ao : Option Addr} {len cap : Nat} {zs : List Int} (h : w.ownsRow base e 1 (.slice ao len cap) zs.length (zs.map (Value.int .i64))) : len = zs.length ∧ IntsAt w ao len zs := by
  rcases h.2 with ⟨h0, h1⟩ | ⟨g, cap', cur, h0, hb, hg, _⟩
  · simp only [Value.slice.injEq] at h0
    obtain ⟨rfl, rfl, rfl⟩ := h0
    exact ⟨h1.symm, fun hp => absurd hp (by omega)⟩
  · simp only [Value.slice.injEq] at h0
    obtain ⟨rfl, rfl, rfl⟩ := h0
    refine ⟨rfl, fun hp => ⟨g, 0, rfl, (Array.getElem?_eq_some_iff.1 hg).1, fun i hi => ?_⟩⟩
    have := h.cells (g := g) rfl i (.int .i64 (zs.getD i 0)) (by simp [List.getD, hi])
    simpa [Addr.add_lit] using this
theorem own_slice {w : World} {base : Nat} {e : TypeId} {size n : Nat} {v : Value} {xs : List Value} (h : w.ownsRow base e size v n xs) : ∃ a m c, v = .slice a m c := by
  rcases h.2 with ⟨h, _⟩ | ⟨g, cap, cur, h, _⟩
  · exact ⟨_, _, _, h⟩
  · exact ⟨_, _, _, h⟩
theorem IntsAt.drewN {w : World} {ao : Option Addr} {len : Nat} {zs : List Int} (h : IntsAt w ao len zs) (d : Nat) : IntsAt (w.drewN d) ao len zs := h

set_option maxRecDepth 100000 in
set_option maxHeartbeats 400000 in
theorem ints_raw (a b : Option Addr) (m n c d : Nat) (zs ys : List Int) (w : World) (hz : zs.length = m) (hy : ys.length = n) (ha : IntsAt w a m zs) (hb : IntsAt w b n ys) (hm : m ≤ maxLen) (r : Bool) (hr : Hid (decide (zs = ys) = r)) :
    Calls Try.prog 13 #[.slice a m c, .slice b n d] w fun e w' => e = .returned (.bool r) ∧ Below w.heap.size w w' := by
  by_cases hmn : m = n
  · subst hmn
    have HA := Lib.hid ha
    have HB := Lib.hid hb
    clear ha hb
    have hmm : m ≤ 9223372036854775807 := hm
    go_enter Try.func13, Try.ntmps13
    go_wp2
    go_loopw [5] (fun x wi => ∃ i : Nat, x = .int .i64 i ∧ i ≤ m ∧ Hid (∀ j, j < i → zs.getD j 0 = ys.getD j 0) ∧ ∃ q, wi = w.drewN q)
      (fun x _ => m - (intOf x).toNat)
    case atStart => exact ⟨0, rfl, by omega, Lib.hid (fun j hj => absurd hj (by omega)), 0, rfl⟩
    case round =>
      obtain ⟨i, rfl, hi, HE, q, rfl⟩ := hrel
      by_cases hlt : i < m
      · obtain ⟨b1, o1, rfl, _, h1⟩ := HA.out (by omega)
        obtain ⟨b2, o2, rfl, _, h2⟩ := HB.out (by omega)
        have c1 : (w.drewN q).cell? ⟨b1, o1 + i, none⟩ = _ := h1 i hlt
        have c2 : (w.drewN q).cell? ⟨b2, o2 + i, none⟩ = _ := h2 i hlt
        clear h1 h2
        by_cases he : zs.getD i 0 = ys.getD i 0
        · have HE2 : Hid (∀ j, j < i + 1 → zs.getD j 0 = ys.getD j 0) := Lib.hid (fun j hj => by
            by_cases e : j = i
            · rw [e]; exact he
            · exact HE.out j (by omega))
          rw [he] at c1
          generalize ys.getD i 0 = y at c1 c2
          clear he
          generalize hwq : w.drewN q = wq at c1 c2 ⊢
          have HW := Lib.hid hwq
          clear hwq
          go_wp2
          go_quiet (fail)
          go_wp2
          go_roundw
          case rel => exact ⟨i + 1, by go_num, by omega, HE2, _, by rw [← HW.out]; exact (World.drewN_drewN _ _ _)⟩
          case measure => simp [intOf]; omega
        · have er : r = false := by
            rw [← hr.out, decide_eq_false_iff_not]
            rintro rfl
            exact he rfl
          subst er
          have hne : (zs.getD i 0 != ys.getD i 0) = true := by rw [bne_iff_ne]; exact he
          clear he hr
          generalize zs.getD i 0 = z at c1 hne
          generalize ys.getD i 0 = y at c2 hne
          have hbq : Below w.heap.size w (w.drewN q) := below_drewN (Below.refl _ _) _
          generalize w.drewN q = wq at c1 c2 hbq ⊢
          go_wp2
          go_quiet (fail)
          go_wp2
          go_ret
          exact ⟨rfl, below_drewN hbq _⟩
      · obtain rfl : i = m := by omega
        have er : r = true := by
          rw [← hr.out, decide_eq_true_iff]
          refine List.ext_getElem (by rw [hz, hy]) (fun j h1 h2 => ?_)
          have := HE.out j (by omega)
          simpa [List.getD, h1, h2] using this
        subst er
        have hbq : Below w.heap.size w (w.drewN q) := below_drewN (Below.refl _ _) _
        go_wp2
        go_ret
        exact ⟨rfl, hbq⟩
  · have er : r = false := by
      rw [← hr.out, decide_eq_false_iff_not]
      rintro rfl
      exact hmn (hz.symm.trans hy)
    subst er
    have hne : ((m : Int) != (n : Int)) = true := by rw [bne_iff_ne]; omega
    clear hmn hr
    go_enter Try.func13, Try.ntmps13
    go_wp2
    go_ret
    exact ⟨rfl, Below.refl _ _⟩

set_option maxRecDepth 100000 in
set_option maxHeartbeats 400000 in
theorem awake08 (w : World) : Calls Try.prog 9 #[] w fun e w' => e = .returned (.bool true) ∧ Below w.heap.size w w' := by
  have hat : IntsAt (w.alloc (.cells #[.int .i64 2, .int .i64 0, .int .i64 3, .int .i64 1] 3)) (some ⟨w.heap.size, 0, none⟩) 4 [2, 0, 3, 1] := fun _ => ⟨_, 0, rfl, by simp, fun i hi => by
    have : i = 0 ∨ i = 1 ∨ i = 2 ∨ i = 3 := by omega
    rcases this with rfl | rfl | rfl | rfl <;> simp [List.getD]⟩
  have B0 : Below w.heap.size w (w.alloc (.cells #[.int .i64 2, .int .i64 0, .int .i64 3, .int .i64 1] 3)) := (Below.refl _ _).alloc (Nat.le_refl _) _
  have hall : Hid (∀ j, j < 4 → fits (([2, 0, 3, 1] : List Int).getD j 0)) := Lib.hid (fun j hj => by
    have : j = 0 ∨ j = 1 ∨ j = 2 ∨ j = 3 := by omega
    rcases this with rfl | rfl | rfl | rfl <;> simp [List.getD, fits])
  have H2 := Lib.hid (pick_ok 5 6 5 0 3 (some ⟨w.heap.size, 0, none⟩) 4 4 [2, 0, 3, 1] _ (by omega) (by omega) hat hall (Lib.hid rfl) (by omega) (by omega) (Lib.hid rfl) (Lib.hid rfl) (by omega) (Lib.hid (by decide)))
  have HO := Lib.hid (fun w => order_pos 1 3 [1, 0, 2] w (by omega) (by omega) (by omega) (Lib.hid (by decide)))
  clear hall hat
  go_enter Try.func9, Try.ntmps9
  go_wp2_with fail
  generalize w.alloc (.cells #[.int .i64 2, .int .i64 0, .int .i64 3, .int .i64 1] 3) = w0 at H2 B0 ⊢
  refine (H2.out).mono ?_
  rintro e w1 ⟨rfl, b1⟩
  have B1 := B0.trans (b1.mono B0.size)
  clear B0 b1 H2
  go_wp2_with fail
  refine (HO.out _).mono ?_
  rintro e w2 ⟨⟨v, rfl, hv⟩, b2⟩
  have B2 := B1.trans (b2.mono B1.size)
  obtain ⟨ao, m, c, rfl⟩ := own_slice hv
  obtain ⟨hm, hat2⟩ := IntsAt.own hv
  have hm3 : m = 3 := hm
  subst hm3
  clear hv hm B1 b2
  have hat3 : IntsAt (w2.alloc (.cells #[.int .i64 1, .int .i64 0, .int .i64 2] 3)) (some ⟨w2.heap.size, 0, none⟩) 3 [1, 0, 2] := fun _ => ⟨_, 0, rfl, by simp, fun i hi => by
    have : i = 0 ∨ i = 1 ∨ i = 2 := by omega
    rcases this with rfl | rfl | rfl <;> simp [List.getD]⟩
  have B3 : Below w2.heap.size w2 (w2.alloc (.cells #[.int .i64 1, .int .i64 0, .int .i64 2] 3)) := (Below.refl _ _).alloc (Nat.le_refl _) _
  have hat4 := hat2.below B3
  have HI := Lib.hid (ints_raw ao (some ⟨w2.heap.size, 0, none⟩) 3 3 c 3 [1, 0, 2] [1, 0, 2] _ rfl rfl hat4 hat3 (by unfold maxLen; omega) true (Lib.hid (by decide)))
  clear hat2 hat3 hat4
  go_wp2_with fail
  refine (HI.out).mono ?_
  rintro e w3 ⟨rfl, b3⟩
  have B4 := B3.trans (b3.mono B3.size)
  go_wp2
  go_ret
  exact ⟨rfl, B2.trans (B4.mono B2.size)⟩

set_option maxRecDepth 100000 in
set_option maxHeartbeats 1000000 in
theorem diceBelow_range (draw n num : Int) (w : World) (h : draw < 0) :
    Calls Try.prog 3 #[.int .i64 draw, .int .i64 n, .int .i64 num] w fun e w' => e = .returned (.bool true) ∧ Below w.heap.size w w' := by
  go_enter Try.func3, Try.ntmps3
  go_wp2_with fail
  refine (below_range draw n _ h).mono ?_
  rintro e w' ⟨rfl, rfl⟩
  go_wp2_with fail
  refine (chance_range draw num n _ h).mono ?_
  rintro e w' ⟨rfl, rfl⟩
  go_wp2_with fail
  refine (awake08 _).mono ?_
  rintro e w1 ⟨rfl, b1⟩
  go_wp2
  go_ret
  exact ⟨rfl, b1⟩
set_option maxRecDepth 100000 in
set_option maxHeartbeats 1000000 in
theorem diceBelow_arg (draw n num : Int) (w : World) (h : 0 ≤ draw) (hn : n < 1 ∨ 1048576 < n) :
    Calls Try.prog 3 #[.int .i64 draw, .int .i64 n, .int .i64 num] w fun e w' => e = .returned (.bool true) ∧ Below w.heap.size w w' := by
  have HB := Lib.hid (fun w => below_arg draw n w h hn)
  have HC := Lib.hid (fun w => chance_arg draw num n w h (by omega))
  rcases hn with hn | hn
  all_goals
    go_enter Try.func3, Try.ntmps3
    go_wp2_with fail
    refine (HB.out _).mono ?_
    rintro e w' ⟨rfl, rfl⟩
    go_wp2_with fail
    refine (HC.out _).mono ?_
    rintro e w' ⟨rfl, rfl⟩
    go_wp2_with fail
    refine (awake08 _).mono ?_
    rintro e w1 ⟨rfl, b1⟩
    go_wp2
    go_ret
    exact ⟨rfl, b1⟩
set_option maxRecDepth 100000 in
set_option maxHeartbeats 2000000 in
theorem diceBelow_ok (draw n k q : Nat) (num : Int) (w : World) (hd : draw ≤ 9223372036854775807) (hn : 1 ≤ n) (hn' : n ≤ 1048576) (hk : Hid (draw % n = k)) (hq : Hid (draw / n = q)) (hm : Hid (q * n + k = draw)) :
    Calls Try.prog 3 #[.int .i64 draw, .int .i64 n, .int .i64 num] w fun e w' => e = .returned (.bool true) ∧ Below w.heap.size w w' := by
  have HB := Lib.hid (fun w => below_ok draw n k q w hd hn hn' hk hq)
  have hkn : k < n := by rw [← hk.out]; exact Nat.mod_lt _ hn
  have hqd : q ≤ draw := by rw [← hq.out]; exact Nat.div_le_self _ _
  obtain ⟨d1, _⟩ := divs draw n
  rw [hq.out] at d1
  have hmm : ∃ p : Nat, (q : Int) * (n : Int) = (p : Int) ∧ p + k = draw := ⟨q * n, by rw [Int.natCast_mul], hm.out⟩
  obtain ⟨p, hp, hpk⟩ := hmm
  have hpf : ((p : Int) + (k : Int) != (draw : Int)) = false := by rw [bne_eq_false_iff_eq]; omega
  have hor : num < 0 ∨ (0 ≤ num ∧ (n : Int) < num) ∨ (0 ≤ num ∧ num ≤ n ∧ (k : Int) < num) ∨ (0 ≤ num ∧ num ≤ n ∧ num ≤ (k : Int)) := by omega
  rcases hor with h | ⟨h0, h⟩ | ⟨h0, h, h1⟩ | ⟨h0, h, h1⟩
  · have HC := Lib.hid (fun w => chance_arg draw num n w (by omega) (by omega))
    go_enter Try.func3, Try.ntmps3
    go_wp2_with fail
    refine (HB.out _).mono ?_
    rintro e w0 ⟨rfl, b0⟩
    go_wp2_with fail
    refine (HC.out _).mono ?_
    rintro e w' ⟨rfl, rfl⟩
    go_wp2_with fail
    refine (awake08 _).mono ?_
    rintro e w1 ⟨rfl, b1⟩
    go_wp2
    go_ret
    exact ⟨rfl, below_trans b0 b1⟩
  · have HC := Lib.hid (fun w => chance_arg draw num n w (by omega) (by omega))
    go_enter Try.func3, Try.ntmps3
    go_wp2_with fail
    refine (HB.out _).mono ?_
    rintro e w0 ⟨rfl, b0⟩
    go_wp2_with fail
    refine (HC.out _).mono ?_
    rintro e w' ⟨rfl, rfl⟩
    go_wp2_with fail
    refine (awake08 _).mono ?_
    rintro e w1 ⟨rfl, b1⟩
    go_wp2
    go_ret
    exact ⟨rfl, below_trans b0 b1⟩
  all_goals
    have HC := Lib.hid (fun w => chance_ok draw n k q num w hd hn hn' h0 h hk hq)
    go_enter Try.func3, Try.ntmps3
    go_wp2_with fail
    refine (HB.out _).mono ?_
    rintro e w0 ⟨rfl, b0⟩
    go_wp2_with fail
    refine (HC.out _).mono ?_
    rintro e w' ⟨rfl, b2⟩
    go_wp2_with fail
    refine (awake08 _).mono ?_
    rintro e w1 ⟨rfl, b1⟩
    go_wp2
    go_ret
    exact ⟨rfl, below_trans b0 (below_trans b2 b1)⟩
theorem diceBelow_walk (draw n num : Int) (w : World) (w1 : (Lit.int .i64 draw).wf = true) (w2 : (Lit.int .i64 n).wf = true) (w3 : (Lit.int .i64 num).wf = true) :
    Calls Try.prog 3 #[.int .i64 draw, .int .i64 n, .int .i64 num] w fun e w' => e = .returned (.bool true) ∧ Below w.heap.size w w' := by
  have b1 := bounds_i64 w1
  by_cases h : draw < 0
  · exact diceBelow_range draw n num w h
  by_cases hn : n < 1 ∨ 1048576 < n
  · exact diceBelow_arg draw n num w (by omega) hn
  obtain ⟨d, rfl⟩ : ∃ d : Nat, draw = d := ⟨draw.toNat, by omega⟩
  obtain ⟨m, rfl⟩ : ∃ m : Nat, n = m := ⟨n.toNat, by omega⟩
  exact diceBelow_ok d m _ _ num w (by omega) (by omega) (by omega) (Lib.hid rfl) (Lib.hid rfl) (Lib.hid (by rw [Nat.mul_comm]; exact Nat.div_add_mod d m))
end Go.Proofs.Ytnhnicjljbdjjaa
