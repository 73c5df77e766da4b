/- Slots: the reference's list of slots. -/
import Derived.Test.YthhgodfgigcacaaSlM
import Derived.Test.YthhgodfgigcacaaApp
namespace Go.Proofs.Ythhgodfgigcacaa
open Go.RowKit Go.Deep
set_option linter.unusedVariables false
set_option linter.unusedSimpArgs false
def LL (X : Nat → Sl) (n : Nat) : List Value := (List.range (n * 10)).map (fun j => slC (X (j / 10)) (j % 10))
theorem LL_length (X : Nat → Sl) (n : Nat) : (LL X n).length = n * 10 := by unfold LL; simp
theorem LL_at (X : Nat → Sl) (n k j : Nat) (hk : k < n) (hj : j < 10) : (LL X n)[k * 10 + j]? = some (slC (X k) j) := by
  unfold LL
  rw [List.getElem?_map, List.getElem?_range (by omega), Option.map_some, show (k * 10 + j) / 10 = k by omega, show (k * 10 + j) % 10 = j by omega]
theorem LL_snoc (X : Nat → Sl) (n : Nat) : LL X (n + 1) = LL X n ++ (slA (X n)).toList := by
  apply List.ext_getElem?
  intro i
  by_cases h : i < n * 10
  · rw [List.getElem?_append_left (by rw [LL_length]; exact h)]
    unfold LL
    rw [List.getElem?_map, List.getElem?_map, List.getElem?_range (by omega), List.getElem?_range h]
  · by_cases h2 : i < n * 10 + 10
    · rw [List.getElem?_append_right (by rw [LL_length]; omega), LL_length]
      obtain ⟨j, rfl⟩ : ∃ j, i = n * 10 + j := ⟨i - n * 10, by omega⟩
      have hj : j < 10 := by omega
      rw [LL_at X (n + 1) n j (by omega) hj, show n * 10 + j - n * 10 = j by omega]
      unfold slC
      rw [Array.getElem?_toList, Array.getElem?_eq_getElem (show j < (slA (X n)).size from hj)]
      rfl
    · rw [List.getElem?_eq_none (by rw [LL_length]; omega), List.getElem?_eq_none (by rw [List.length_append, LL_length]; simp [slA]; omega)]
theorem LL_congr {X Y : Nat → Sl} {n : Nat} (h : ∀ k, k < n → X k = Y k) : LL X n = LL Y n := by
  unfold LL
  apply List.map_congr_left
  intro j hj
  have := List.mem_range.1 hj
  rw [h (j / 10) (by omega)]
def LAt (w : World) (B : Nat) (v : Value) (n : Nat) (X : Nat → Sl) : Prop := w.ownsRow B 44 10 v n (LL X n)
theorem slC_one (s : Sl) (j : Nat) (hj : j < 10) : (slC s j).oneCell' = true := by
  rcases (show j = 0 ∨ j = 1 ∨ j = 2 ∨ j = 3 ∨ j = 4 ∨ j = 5 ∨ j = 6 ∨ j = 7 ∨ j = 8 ∨ j = 9 by omega) with rfl | rfl | rfl | rfl | rfl | rfl | rfl | rfl | rfl | rfl <;> rfl
theorem LL_one (X : Nat → Sl) (n : Nat) : ∀ u ∈ LL X n, u.oneCell' = true := fun u hu => by
  unfold LL at hu
  obtain ⟨j, _, rfl⟩ := List.mem_map.1 hu
  exact slC_one _ _ (Nat.mod_lt _ (by omega))
theorem own_below22 {w w' : World} {base n size : Nat} {e : TypeId} {v : Value} {xs : List Value} (h3 : w.ownsRow base e size v n xs) (hb : Below w.heap.size w w') : w'.ownsRow base e size v n xs := by
  refine ⟨h3.1, ?_⟩
  rcases h3.2 with h | ⟨g, cap, cur, rfl, h1, h2, h4⟩
  · exact Or.inl h
  · exact Or.inr ⟨g, cap, cur, rfl, h1, (hb.block g (Array.getElem?_eq_some_iff.1 h2).1).trans h2, h4⟩
theorem own_base22 {w : World} {B C n size : Nat} {e : TypeId} {v : Value} {xs : List Value} (h : w.ownsRow B e size v n xs) (hc : C ≤ B) : w.ownsRow C e size v n xs := by
  refine ⟨h.1, ?_⟩
  rcases h.2 with hh | ⟨g2, cap, cur, rfl, q1, q⟩
  · exact Or.inl hh
  · exact Or.inr ⟨g2, cap, cur, rfl, Nat.le_trans hc q1, q⟩
theorem own_form {w : World} {base n size : Nat} {e : TypeId} {v : Value} {xs : List Value} (h : w.ownsRow base e size v n xs) : ∃ a c, v = .slice a n c := by
  rcases h.2 with ⟨rfl, rfl⟩ | ⟨g, cap, cur, rfl, _⟩
  · exact ⟨_, _, rfl⟩
  · exact ⟨_, _, rfl⟩
section
variable {w w' : World} {B n : Nat} {v : Value} {X Y : Nat → Sl}
theorem LAt.below (h : LAt w B v n X) (k : Below w.heap.size w w') : LAt w' B v n X := own_below22 h k
theorem LAt.congr (h : LAt w B v n X) (e : ∀ k, k < n → X k = Y k) : LAt w B v n Y := by unfold LAt; rw [← LL_congr e]; exact h
/-- A list with a thing in it: where it lies. -/
theorem LAt.at_ {ao : Option Addr} {c : Nat} (h : LAt w B (.slice ao n c) n X) (hn : 0 < n) : ∃ g, ao = some ⟨g, 0, none⟩ ∧ g < w.heap.size ∧ B ≤ g ∧ ∀ k, k < n → ∀ j, j < 10 → w.cell? ⟨g, k * 10 + j, none⟩ = some (slC (X k) j) := by
  rcases h.2 with ⟨_, e⟩ | ⟨g, cap, cur, e, h1, h2, h3⟩
  · omega
  · injection e with e1 e2 e3
    subst e1
    refine ⟨g, rfl, (Array.getElem?_eq_some_iff.1 h2).1, h1, fun k hk j hj => ?_⟩
    have := World.ownsRow.cells h (g := g) rfl (k * 10 + j) _ (LL_at X n k j hk hj)
    rw [Addr.add_mid, Nat.zero_add] at this
    exact this
/-- A table's call changes no list. -/
theorem LAt.kt {b m : Nat} {T : Nat → Sl} (h : LAt w B v n X) (k : Kt B b w w') (hT : TAt w b m T) : LAt w' B v n X := by
  refine ⟨h.1, ?_⟩
  rcases h.2 with hh | ⟨g, cap, cur, e, h1, h2, h3⟩
  · exact Or.inl hh
  · refine Or.inr ⟨g, cap, cur, e, h1, ?_, h3⟩
    refine (k.other g (Array.getElem?_eq_some_iff.1 h2).1 (fun e2 => ?_)).trans h2
    subst e2
    obtain ⟨c, hb, _, _⟩ := hT
    rw [hb] at h2
    injection h2 with h2
    injection h2 with _ t
    exact absurd t (by decide)
end
theorem info_slD : (Try.prog.info? 44).map (fun i => (i.zero, i.size, i.bytes)) = some (some (.agg #[.int .i64 0, .bool false, .bool false, .bool false, .bool false, .bool false, .bool false, .bool false, .bool false, .int .i64 0]), 10, 24) := by kernel_rfl
theorem info_parts22 {P : Program} {t : TypeId} {z : Value} {n m : Nat} (h : (P.info? t).map (fun i => (i.zero, i.size, i.bytes)) = some (some z, n, m)) : ∃ i, P.info? t = some i ∧ i.zero = some z ∧ i.size = n ∧ i.bytes = m := by
  cases hi : P.info? t with
  | none => rw [hi] at h; simp at h
  | some i => rw [hi] at h; simp at h; exact ⟨i, rfl, h.1, h.2.1, h.2.2⟩
set_option maxRecDepth 100000 in
set_option maxHeartbeats 8000000 in
theorem rnew_any (n : Nat) (w : World) (h8 : n ≤ 8) : Calls Try.prog 10 #[.int .i64 (n : Int)] w fun e w' => ∃ v, e = .returned v ∧ LAt w' w.heap.size v n (fun _ => frS) ∧ Below w.heap.size w w' := by
  obtain ⟨i0, hi0, hz0, hz1, hz2⟩ := info_parts22 info_slD
  go_enter Try.func10, Try.ntmps10
  go_wp2_with fail
  go_loopw [4, 3] (fun s4 s3 wi => ∃ k : Nat, s4 = .int .i64 (k : Int) ∧ k ≤ n ∧ Hid (LAt wi w.heap.size s3 k (fun _ => frS)) ∧ Hid (Below w.heap.size w wi)) (fun s4 _ _ => n - (intOf s4).toNat)
  case atStart => exact ⟨0, rfl, by omega, Lib.hid (World.ownsRow_nil _ _ _ _), Lib.hid (Below.refl _ _)⟩
  case round =>
    obtain ⟨k, rfl, hk, HL, HB⟩ := hrel
    by_cases hlt : k < n
    · have hli : (k : Int) < (n : Int) := by omega
      have hszB := HB.out.size
      obtain ⟨a, c, rfl⟩ := own_form HL.out
      have hrow : (wr.alloc (.cells #[.int .i64 (-1), .bool false, .bool false, .bool false, .bool false, .bool false, .bool false, .bool false, .bool false, .int .i64 0] 44)).heap[wr.heap.size]? = some (.cells #[.int .i64 (-1), .bool false, .bool false, .bool false, .bool false, .bool false, .bool false, .bool false, .bool false, .int .i64 0] 44 (0, 0)) := heap_alloc_new _ _
      go_wp2_with (at_builtin; refine wpList_append_own _ rfl _ _ 28 rfl w.heap.size 44 i0 (.agg #[.int .i64 0, .bool false, .bool false, .bool false, .bool false, .bool false, .bool false, .bool false, .bool false, .int .i64 0]) 10 24 Try.underlying28 hi0 hz0 hz1 hz2 rfl (by decide) _ k (LL (fun _ => frS) k) rfl (HL.out.alloc _) ⟨wr.heap.size, 0, none⟩ 1 1 (slA frS).toList rfl rfl ?c1 ?c2 ?c3 ?c4 ?c5 ?_)
      case c1 =>
        intro j u hu
        rw [Addr.add_mid, Nat.zero_add]
        rw [Array.getElem?_toList] at hu
        exact row_cell22 hrow j u hu
      case c2 =>
        intro u hu
        simp [slA, frS] at hu
        rcases hu with rfl | rfl | rfl <;> rfl
      case c3 => unfold maxLen; omega
      case c4 => omega
      case c5 => simp; omega
      intro v' w2 hown hg _
      have HB2 := Lib.hid ((HB.out.alloc hszB _).grown hg (by simp; omega) (fun j e => (HL.out.lt j e).1))
      have HL2 : Hid (LAt w2 w.heap.size v' (k + 1) (fun _ => frS)) := Lib.hid (by unfold LAt; rw [LL_snoc]; exact hown)
      obtain ⟨a2, c2, rfl⟩ := own_form hown
      clear hown hg HB HL hrow
      go_wp2_with fail
      go_roundw
      case rel => exact ⟨k + 1, by go_num, by omega, HL2, HB2⟩
      case measure => simp [intOf]; omega
    · obtain rfl : k = n := by omega
      have hli : ¬ (k : Int) < (k : Int) := by omega
      go_wp2_with fail
      go_ret
      exact ⟨_, rfl, HL.out, HB.out⟩
def fndR (X : Nat → Sl) (n : Nat) (g : Int) : Int := if 0 ≤ g then (match fstO (fun s : Sl => decide (s.g = g)) X n with | some i => (i : Int) | none => -1) else -1
set_option maxRecDepth 100000 in
set_option maxHeartbeats 8000000 in
theorem rfind_any (B n : Nat) (v : Value) (X : Nat → Sl) (g : Int) (w : World) (hL : LAt w B v n X) (h8 : n ≤ 8) : Calls Try.prog 31 #[v, .int .i64 g] w fun e w' => e = .returned (.int .i64 (fndR X n g)) ∧ w = w' := by
  obtain ⟨ao, c, rfl⟩ := own_form hL
  have HL := Lib.hid hL
  clear hL
  obtain ⟨r, hr⟩ : ∃ r, Hid (fndR X n g = r) := ⟨_, Lib.hid rfl⟩
  rw [hr.out]
  go_enter Try.func31, Try.ntmps31
  go_wp2_with fail
  go_loopw [5] (fun s5 wi => ∃ k : Nat, s5 = .int .i64 (k : Int) ∧ k ≤ n ∧ Hid (0 ≤ g → ∀ j, j < k → (fun s : Sl => decide (s.g = g)) (X j) = false) ∧ w = wi) (fun s5 _ => n - (intOf s5).toNat)
  case atStart => exact ⟨0, rfl, by omega, Lib.hid (fun _ j h => absurd h (by omega)), rfl⟩
  case round =>
    obtain ⟨k, rfl, hk, HN, rfl⟩ := hrel
    by_cases hlt : k < n
    · have hli : (k : Int) < (n : Int) := by omega
      obtain ⟨b, rfl, hb, _, hc⟩ := HL.out.at_ (by omega)
      have c0 : w.cell? ⟨b, k * 10, none⟩ = some (.int .i64 (X k).g) := hc k hlt 0 (by omega)
      have HNX : Hid ((X k).g ≠ g ∨ ¬ 0 ≤ g → 0 ≤ g → ∀ j, j < k + 1 → (fun s : Sl => decide (s.g = g)) (X j) = false) := Lib.hid (fun h h0 j hj => by
        by_cases e : j = k
        · rw [e]; exact decide_eq_false (by rcases h with h | h; exact h; exact absurd h0 h)
        · exact HN.out h0 j (by omega))
      have HF : Hid ((X k).g = g → 0 ≤ g → r = (k : Int)) := Lib.hid (fun h h0 => by
        rw [← hr.out]
        unfold fndR
        rw [if_pos h0, fst_some (P := fun s : Sl => decide (s.g = g)) (T := X) hlt (decide_eq_true h) (HN.out h0)])
      obtain ⟨x, hx⟩ : ∃ x, (X k).g = x := ⟨_, rfl⟩
      rw [hx] at c0 HNX HF
      clear hx HN hc
      by_cases hxg : x = g
      · by_cases h0 : 0 ≤ g
        · have HR := Lib.hid (HF.out hxg h0)
          subst hxg
          clear HF HNX
          go_wp2_with fail
          go_ret
          exact ⟨by rw [HR.out]; rfl, rfl⟩
        · have HN2 := Lib.hid (HNX.out (Or.inr h0))
          subst hxg
          clear HF HNX
          go_wp2_with fail
          go_roundw
          case rel => exact ⟨k + 1, by go_num, by omega, HN2, by first | rfl | trivial⟩
          case measure => simp [intOf]; omega
      · have HN2 := Lib.hid (HNX.out (Or.inl hxg))
        clear HF HNX
        go_wp2_with fail
        go_roundw
        case rel => exact ⟨k + 1, by go_num, by omega, HN2, by first | rfl | trivial⟩
        case measure => simp [intOf]; omega
    · obtain rfl : k = n := by omega
      have hli : ¬ (k : Int) < (k : Int) := by omega
      have HR : Hid (r = -1) := Lib.hid (by
        rw [← hr.out]
        unfold fndR
        by_cases h0 : 0 ≤ g
        · rw [if_pos h0, fst_none (P := fun s : Sl => decide (s.g = g)) (T := X) (HN.out h0)]
        · rw [if_neg h0])
      go_wp2_with fail
      go_ret
      exact ⟨by rw [HR.out]; rfl, rfl⟩
end Go.Proofs.Ythhgodfgigcacaa
