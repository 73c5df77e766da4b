/- The reference's queue: Remove. -/
import Derived.Test.YtfkepplpeakgmaaLvP
namespace Go.Proofs.Ytfkepplpeakgmaa
open Go.RowKit Go.Deep
set_option linter.unusedVariables false
set_option linter.unusedSimpArgs false
def keepL (i : Nat) (L : List Nat) : List Nat := L.filter (fun x => decide (x ≠ i))
theorem rem_keep (R : Nat → List Nat) (i k : Nat) : rem R i k = keepL i (R k) := rfl
theorem keepL_take (i : Nat) (L : List Nat) (j : Nat) (hj : j < L.length) : keepL i (L.take (j + 1)) = if L[j] ≠ i then keepL i (L.take j) ++ [L[j]] else keepL i (L.take j) := by
  unfold keepL
  rw [List.take_succ_eq_append_getElem hj, List.filter_append]
  by_cases h : L[j] = i
  · rw [if_neg (fun hh => hh h), List.filter_cons_of_neg (by simpa using h)]; simp
  · rw [if_pos h, List.filter_cons_of_pos (by simpa using h)]; simp
theorem keepL_len (i : Nat) (L : List Nat) (j : Nat) : (keepL i (L.take j)).length ≤ L.length := by
  unfold keepL
  exact Nat.le_trans (List.length_filter_le _ _) (by rw [List.length_take]; omega)
theorem zi_get {L : List Nat} {j : Nat} (hj : j < L.length) : (ziL L).getD j 0 = (L[j] : Int) := by
  unfold ziL
  rw [List.getD_eq_getElem?_getD, List.getElem?_map, List.getElem?_eq_getElem hj]
  rfl
theorem nvL_snoc (L : List Nat) (x : Nat) : nvL (L ++ [x]) = nvL L ++ [.int .i64 (x : Int)] := by unfold nvL; rw [List.map_append]; rfl
/-- The rows behind k rounds. -/
def remK (X : Nat → List Nat) (i k : Nat) : Nat → List Nat := fun m => if m < k then keepL i (X m) else X m
theorem XqAt.below {w w' : World} {B h : Nat} {X : Nat → List Nat} (hX : XqAt w B h X) (b : Below w.heap.size w w') : XqAt w' B h X := by
  obtain ⟨hB, s, hs, ho⟩ := hX
  exact ⟨hB, s, World.rowIs.of_block hs (b.block h (World.rowIs.lt hs)), fun l hl => own_belowD (ho l hl) b⟩
/-- A list put into the queue's row. -/
theorem XqAt.store {w : World} {B h k : Nat} {X : Nat → List Nat} {v : Value} {L : List Nat} (hX : XqAt w B h X) (hk : k < 4) (hv : w.ownsRow B 3 1 v L.length (nvL L)) : XqAt (w.setCell ⟨h, k, none⟩ v) B h (setR X k L) := by
  obtain ⟨hB, s, hs, ho⟩ := hX
  have hkeep : ∀ (u : Value) (M : List Nat), w.ownsRow B 3 1 u M.length (nvL M) → (w.setCell ⟨h, k, none⟩ v).ownsRow B 3 1 u M.length (nvL M) := fun u M hu => by
    refine ⟨hu.1, ?_⟩
    rcases hu.2 with hh | ⟨g2, cap, cur, rfl, q1, q2, q3⟩
    · exact Or.inl hh
    · refine Or.inr ⟨g2, cap, cur, rfl, q1, ?_, q3⟩
      rw [Below.heap_setCell w ⟨h, k, none⟩ v g2 (fun e => ?_)]
      · exact q2
      · obtain ⟨c, hb, _, _⟩ := hs
        have e' : g2 = h := e
        subst e'
        rw [hb] at q2
        injection q2 with q2
        injection q2 with _ t
        exact absurd t (by decide)
  refine ⟨hB, fun j => if j = k then v else s j, World.rowIs.set hs k v, fun l hl => ?_⟩
  unfold setR
  show (w.setCell ⟨h, k, none⟩ v).ownsRow B 3 1 (if l = k then v else s l) _ _
  by_cases e : l = k
  · subst e; rw [if_pos rfl, if_pos rfl]; exact hkeep v L hv
  · rw [if_neg e, if_neg e]; exact hkeep _ _ (ho l hl)
theorem remK_next (X : Nat → List Nat) (i k : Nat) (hk : k < 4) : setR (remK X i k) k (keepL i (X k)) = remK X i (k + 1) := by
  funext m
  unfold setR remK
  by_cases e : m = k
  · subst e; rw [if_pos rfl, if_pos (by omega)]
  · rw [if_neg e]
    by_cases e2 : m < k
    · rw [if_pos e2, if_pos (by omega)]
    · rw [if_neg e2, if_neg (by omega)]
theorem own_base {w : World} {B C : Nat} {v : Value} {n : Nat} {xs : List Value} (h : w.ownsRow B 3 1 v n xs) (hc : C ≤ B) : w.ownsRow C 3 1 v n xs := by
  refine ⟨h.1, ?_⟩
  rcases h.2 with hh | ⟨g2, cap, cur, rfl, q1, q⟩
  · exact Or.inl hh
  · exact Or.inr ⟨g2, cap, cur, rfl, Nat.le_trans hc q1, q⟩
theorem remK_len {X : Nat → List Nat} (i k m : Nat) (h : (X m).length ≤ 16) : (remK X i k m).length ≤ 16 := by
  unfold remK
  split
  · unfold keepL; exact Nat.le_trans (List.length_filter_le _ _) h
  · exact h
set_option maxRecDepth 100000 in
set_option maxHeartbeats 8000000 in
theorem rremove_any (B h i : Nat) (X : Nat → List Nat) (w : World) (hX : XqAt w B h X) (hBw : B ≤ w.heap.size) (hl : ∀ l, l < 4 → (X l).length ≤ 16) : Calls Try.prog 37 #[.pointer (some ⟨h, 0, none⟩), .int .i64 (i : Int)] w fun e w' => e = .returned (.tuple #[]) ∧ XqAt w' B h (remK X i 4) ∧ Kq B [h] w w' := by
  have HX := Lib.hid hX
  have HL := Lib.hid hl
  have H0 : Hid (remK X i 0 = X) := Lib.hid (by funext m; unfold remK; rw [if_neg (by omega)])
  obtain ⟨i0, hi0, hz0, hz1, hz2⟩ := info_partsD info_i64D
  clear hX hl
  go_enter Try.func37, Try.ntmps37
  go_wp2_with fail
  go_loopw [4, 5, 6] (fun s4 s5 s6 wi => ∃ k : Nat, s4 = .int .i64 (k : Int) ∧ k ≤ 4 ∧ Hid (XqAt wi B h (remK X i k)) ∧ Hid (Kq B [h] w wi)) (fun s4 _ _ _ => 4 - (intOf s4).toNat)
  case atStart => exact ⟨0, rfl, by omega, Lib.hid (by rw [H0.out]; exact HX.out), Lib.hid (Kq.refl _ _ _)⟩
  case round =>
    obtain ⟨k, rfl, hk, HX1, HK1⟩ := hrel
    clear HX H0
    generalize wr = w1 at *
    by_cases hlt : k < 4
    · have hli : (k : Int) < 4 := by omega
      obtain ⟨_, s, hs, ho⟩ := HX1.out
      have HS := Lib.hid hs
      obtain ⟨ao, c, e, hat⟩ := own_zi (ho k hlt)
      have ek : remK X i k k = X k := by unfold remK; rw [if_neg (by omega)]
      rw [ek] at e hat
      have hlen := HL.out k hlt
      have HKN := Lib.hid (remK_next X i k hlt)
      obtain ⟨L, hL⟩ : ∃ L, X k = L := ⟨_, rfl⟩
      rw [hL] at e hat hlen HKN
      have HSL : Hid (w1.cell? ⟨h, k, none⟩ = some (.slice ao L.length c)) := Lib.hid (by rw [← e]; exact World.rowIs.cell hs (by omega))
      have hhw : h < w1.heap.size := World.rowIs.lt hs
      have HAT := Lib.hid hat
      obtain ⟨len, hlen'⟩ : ∃ len, Hid (L.length = len) := ⟨_, Lib.hid rfl⟩
      rw [hlen'.out] at HSL HAT hlen
      have hBr : B ≤ w1.heap.size := Nat.le_trans hBw HK1.out.below.size
      clear hs ho e hat ek hL HS
      go_wp2_with fail
      go_loopw [5, 6] (fun s5 s6 wi => ∃ j : Nat, s6 = .int .i64 (j : Int) ∧ j ≤ len ∧ (∃ a m c, s5 = .slice a m c) ∧ Hid (wi.ownsRow w1.heap.size 3 1 s5 (keepL i (L.take j)).length (nvL (keepL i (L.take j)))) ∧ Hid (Below w1.heap.size w1 wi)) (fun _ s6 _ => len - (intOf s6).toNat)
      case atStart => exact ⟨0, rfl, by omega, ⟨_, _, _, rfl⟩, Lib.hid (World.ownsRow_nil _ _ _ _), Lib.hid (Below.refl _ _)⟩
      case round =>
        obtain ⟨j, rfl, hj, ⟨a, m, c5, rfl⟩, HO, HB⟩ := hrel
        have c0 := (HB.out.cell (p := ⟨h, k, none⟩) hhw).trans HSL.out
        by_cases hlt2 : j < len
        · have hli2 : (j : Int) < (len : Int) := by omega
          have HAT2 := HAT.out.below HB.out
          obtain ⟨b, off, rfl, hb, hall⟩ := HAT2 (by omega)
          have c1 := hall j hlt2
          have hjl : j < L.length := by rw [hlen'.out]; exact hlt2
          rw [zi_get hjl] at c1
          have ht := keepL_take i L j hjl
          have hkl := keepL_len i L j
          rw [hlen'.out] at hkl
          clear hall HAT2 hb
          by_cases hx : L[j] = i
          · rw [if_neg (fun hh => hh hx)] at ht
            have HO2 := Lib.hid HO.out
            rw [← ht] at HO2
            rw [hx] at c1
            have hbb : ((i : Int) != (i : Int)) = false := by simp
            clear ht hkl hx
            go_wp2_with fail
            go_roundw
            case rel => exact ⟨j + 1, by go_num, by omega, ⟨_, _, _, rfl⟩, HO2, HB⟩
            case measure => simp [intOf]; omega
          · rw [if_pos hx] at ht
            have hxi : (L[j] : Int) ≠ (i : Int) := by omega
            have hbb : ((L[j] : Int) != (i : Int)) = true := by simpa using hxi
            have HT := Lib.hid ht
            generalize L[j] = x at *
            generalize keepL i (L.take j) = M at *
            have HKL := Lib.hid hkl
            have hsz := HB.out.size
            clear ht hkl hx hxi
            go_wp2_with (at_builtin; refine wpList_append_own _ rfl _ _ 39 rfl w1.heap.size 3 i0 (.int .i64 0) 1 8 Try.underlying39 hi0 hz0 hz1 hz2 rfl (by decide) _ _ _ rfl (HO.out.alloc _) ⟨wr.heap.size, 0, none⟩ 1 1 [.int .i64 (x : Int)] rfl rfl ?c1 ?c2 ?c3 ?c4 ?c5 ?_)
            case c1 =>
              intro q u hq
              match q, hq with
              | 0, hq => simp at hq; subst hq; exact World.cell?_alloc_at (w := wr) _ _ _ _ rfl
            case c2 => intro u hu; simp at hu; subst hu; rfl
            case c3 => have := HKL.out; unfold maxLen; omega
            case c4 => have := HKL.out; omega
            case c5 => simp; omega
            · intro v' w2 hown' hgrow _
              have hb1 := Lib.hid ((HB.out.alloc hsz _).grown hgrow (by simp; omega) (fun j e => (HO.out.lt j e).1))
              have HO2 : Hid (w2.ownsRow w1.heap.size 3 1 v' (keepL i (L.take (j + 1))).length (nvL (keepL i (L.take (j + 1))))) := Lib.hid (by rw [HT.out, nvL_snoc, List.length_append]; exact hown')
              obtain ⟨a2, l2, c2, rfl⟩ := own_slice hown'
              clear hown' hgrow HO HB HKL HT
              go_wp2_with fail
              go_roundw
              case rel => exact ⟨j + 1, by go_num, by omega, ⟨_, _, _, rfl⟩, HO2, hb1⟩
              case measure => simp [intOf]; omega
        · have e1 : L.take j = L := List.take_of_length_le (by rw [hlen'.out]; omega)
          rw [e1] at HO
          have HXw := HX1.out.below HB.out
          have hBh := HX1.out.1
          have HX2 : Hid (XqAt (wr.setCell ⟨h, k, none⟩ (.slice a m c5)) B h (remK X i (k + 1))) := Lib.hid (by rw [← HKN.out]; exact HXw.store hlt (own_base HO.out hBr))
          have HK2 := Lib.hid ((HK1.out.trans (Kq.of_below HB.out hBr)).setCell k (.slice a m c5) hBh (by simp))
          have f0 : wr.frozen? ⟨h, k, none⟩ = false := by obtain ⟨_, s, hs, _⟩ := HXw; exact World.rowIs.frozen hs k
          have hli2 : ¬ (j : Int) < (len : Int) := by omega
          clear HXw HX1 HK1 HO HB e1
          go_wp2_with fail
          go_roundw
          case rel => exact ⟨k + 1, by go_num, by omega, HX2, HK2⟩
          case measure => simp [intOf]; omega
    · obtain rfl : k = 4 := by omega
      rw [show ((4 : Nat) : Int) = 4 from rfl]
      go_wp2_with fail
      go_end0
      exact ⟨rfl, HX1.out, HK1.out⟩
end Go.Proofs.Ytfkepplpeakgmaa
