/- Contracts (cellaret): lists compared; what must come at any rate; the law DiceBelow. -/
import Derived.Test.YtdoeaepfjdjmmaaDiC
namespace Go.Proofs.Ytdoeaepfjdjmmaa
open Go.RowKit Go.Deep
set_option linter.unusedVariables false

theorem IntsAt.own {w : World} {base : Nat} {e : TypeId} {ao : Option Addr} {len cap : Nat} {zs : List Int} (h : w.ownsRow base e 1 (.slice ao len cap) zs.length (zs.map (Value.int .i64))) : len = zs.length ∧ IntsAt w ao len zs := by
  rcases h.2 with ⟨h0, h1⟩ | ⟨g, cap', cur, h0, hb, hg, _⟩
  · simp only [Value.slice.injEq] at h0
    obtain ⟨rfl, rfl, rfl⟩ := h0
    exact ⟨h1.symm, fun hp => absurd hp (by omega)⟩
  · simp only [Value.slice.injEq] at h0
    obtain ⟨rfl, rfl, rfl⟩ := h0
    refine ⟨rfl, fun hp => ⟨g, 0, rfl, (Array.getElem?_eq_some_iff.1 hg).1, fun i hi => ?_⟩⟩
    have := h.cells (g := g) rfl i (.int .i64 (zs.getD i 0)) (by simp [List.getD, hi])
    simpa [Addr.add_lit] using this
theorem own_slice {w : World} {base : Nat} {e : TypeId} {size n : Nat} {v : Value} {xs : List Value} (h : w.ownsRow base e size v n xs) : ∃ a m c, v = .slice a m c := by
  rcases h.2 with ⟨h, _⟩ | ⟨g, cap, cur, h, _⟩
  · exact ⟨_, _, _, h⟩
  · exact ⟨_, _, _, h⟩
theorem IntsAt.drewN {w : World} {ao : Option Addr} {len : Nat} {zs : List Int} (h : IntsAt w ao len zs) (d : Nat) : IntsAt (w.drewN d) ao len zs := h

set_option maxRecDepth 100000 in
set_option maxHeartbeats 400000 in
theorem ints_raw (a b : Option Addr) (m n c d : Nat) (zs ys : List Int) (w : World) (hz : zs.length = m) (hy : ys.length = n) (ha : IntsAt w a m zs) (hb : IntsAt w b n ys) (hm : m ≤ maxLen) (r : Bool) (hr : Hid (decide (zs = ys) = r)) :
    Calls Try.prog 22 #[.slice a m c, .slice b n d] w fun e w' => e = .returned (.bool r) ∧ Below w.heap.size w w' := by
  by_cases hmn : m = n
  · subst hmn
    have HA := Lib.hid ha
    have HB := Lib.hid hb
    clear ha hb
    have hmm : m ≤ 9223372036854775807 := hm
    go_enter Try.func22, Try.ntmps22
    go_wp2
    go_loopw [5] (fun x wi => ∃ i : Nat, x = .int .i64 i ∧ i ≤ m ∧ Hid (∀ j, j < i → zs.getD j 0 = ys.getD j 0) ∧ ∃ q, wi = w.drewN q)
      (fun x _ => m - (intOf x).toNat)
    case atStart => exact ⟨0, rfl, by omega, Lib.hid (fun j hj => absurd hj (by omega)), 0, rfl⟩
    case round =>
      obtain ⟨i, rfl, hi, HE, q, rfl⟩ := hrel
      by_cases hlt : i < m
      · obtain ⟨b1, o1, rfl, _, h1⟩ := HA.out (by omega)
        obtain ⟨b2, o2, rfl, _, h2⟩ := HB.out (by omega)
        have c1 : (w.drewN q).cell? ⟨b1, o1 + i, none⟩ = _ := h1 i hlt
        have c2 : (w.drewN q).cell? ⟨b2, o2 + i, none⟩ = _ := h2 i hlt
        clear h1 h2
        by_cases he : zs.getD i 0 = ys.getD i 0
        · have HE2 : Hid (∀ j, j < i + 1 → zs.getD j 0 = ys.getD j 0) := Lib.hid (fun j hj => by
            by_cases e : j = i
            · rw [e]; exact he
            · exact HE.out j (by omega))
          rw [he] at c1
          generalize ys.getD i 0 = y at c1 c2
          clear he
          generalize hwq : w.drewN q = wq at c1 c2 ⊢
          have HW := Lib.hid hwq
          clear hwq
          go_wp2
          go_quiet (fail)
          go_wp2
          go_roundw
          case rel => exact ⟨i + 1, by go_num, by omega, HE2, _, by rw [← HW.out]; exact (World.drewN_drewN _ _ _)⟩
          case measure => simp [intOf]; omega
        · have er : r = false := by
            rw [← hr.out, decide_eq_false_iff_not]
            rintro rfl
            exact he rfl
          subst er
          have hne : (zs.getD i 0 != ys.getD i 0) = true := by rw [bne_iff_ne]; exact he
          clear he hr
          generalize zs.getD i 0 = z at c1 hne
          generalize ys.getD i 0 = y at c2 hne
          have hbq : Below w.heap.size w (w.drewN q) := below_drewN (Below.refl _ _) _
          generalize w.drewN q = wq at c1 c2 hbq ⊢
          go_wp2
          go_quiet (fail)
          go_wp2
          go_ret
          exact ⟨rfl, below_drewN hbq _⟩
      · obtain rfl : i = m := by omega
        have er : r = true := by
          rw [← hr.out, decide_eq_true_iff]
          refine List.ext_getElem (by rw [hz, hy]) (fun j h1 h2 => ?_)
          have := HE.out j (by omega)
          simpa [List.getD, h1, h2] using this
        subst er
        have hbq : Below w.heap.size w (w.drewN q) := below_drewN (Below.refl _ _) _
        go_wp2
        go_ret
        exact ⟨rfl, hbq⟩
  · have er : r = false := by
      rw [← hr.out, decide_eq_false_iff_not]
      rintro rfl
      exact hmn (hz.symm.trans hy)
    subst er
    have hne : ((m : Int) != (n : Int)) = true := by rw [bne_iff_ne]; omega
    clear hmn hr
    go_enter Try.func22, Try.ntmps22
    go_wp2
    go_ret
    exact ⟨rfl, Below.refl _ _⟩

end Go.Proofs.Ytdoeaepfjdjmmaa
