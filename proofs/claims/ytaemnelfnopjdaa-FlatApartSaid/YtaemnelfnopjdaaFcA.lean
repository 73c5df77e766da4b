/- The reference of flat: May, Data, Last. -/
import Derived.Test.YtaemnelfnopjdaaFaE
import Derived.Test.YtaemnelfnopjdaaFaF
namespace Go.Proofs.Ytaemnelfnopjdaa
open Go.RowKit Go.Deep Go.Maps
set_option linter.unusedVariables false
set_option linter.unusedSimpArgs false
set_option maxRecDepth 100000 in
set_option maxHeartbeats 4000000 in
theorem rmay_any {w : World} {g : Nat} (n : Nat) (a k : Int) (c0 : w.cell? ⟨g, 0, none⟩ = some (.int .i64 (n : Int))) (hn : n ≤ 64) (hk : k ≤ 9223372036854775807) : Calls Try.prog 26 #[.pointer (some ⟨g, 0, none⟩), .int .i64 a, .int .i64 k] w fun e w' => e = .returned (.int .i64 (refF n a k)) ∧ w = w' := by
  obtain ⟨r, hr⟩ : ∃ r, Hid (refF n a k = r) := ⟨_, Lib.hid rfl⟩
  rw [hr.out]
  have hr2 := hr.out
  unfold refF at hr2
  clear hr
  go_enter Try.func26, Try.ntmps26
  by_cases h1 : k < 1
  · rw [if_pos h1] at hr2
    subst hr2
    go_wp2_with fail
    go_ret
    exact ⟨rfl, rfl⟩
  · rw [if_neg h1] at hr2
    by_cases h2 : a < 0
    · rw [if_pos (Or.inl h2)] at hr2
      subst hr2
      go_wp2_with fail
      go_ret
      exact ⟨rfl, rfl⟩
    · by_cases h3 : (n : Int) ≤ a
      · rw [if_pos (by omega)] at hr2
        subst hr2
        go_wp2_with fail
        go_ret
        exact ⟨rfl, rfl⟩
      · by_cases h4 : (n : Int) - a < k
        · rw [if_pos (by omega)] at hr2
          subst hr2
          go_wp2_with fail
          go_ret
          exact ⟨rfl, rfl⟩
        · rw [if_neg (by omega)] at hr2
          subst hr2
          go_wp2_with fail
          go_ret
          exact ⟨rfl, rfl⟩
set_option maxRecDepth 100000 in
set_option maxHeartbeats 4000000 in
theorem rdata_any {w : World} {g : Nat} (n : Nat) (a : Int) (s : ByteArray) (c0 : w.cell? ⟨g, 0, none⟩ = some (.int .i64 (n : Int))) (hn : n ≤ 64) (hs : s.size ≤ 1000000) : Calls Try.prog 24 #[.pointer (some ⟨g, 0, none⟩), .int .i64 a, .string s] w fun e w' => e = .returned (.int .i64 (refF n a (wholeN s.size : Int))) ∧ w = w' := by
  have CM := Lib.hid (rmay_any n a (((s.size / 48 : Nat)) : Int) c0 hn (by omega))
  obtain ⟨q, hq⟩ : ∃ q, s.size = q := ⟨_, rfl⟩
  have htm : Int.tmod (q : Int) 48 = ((q % 48 : Nat) : Int) := by rw [Int.tmod_eq_emod_of_nonneg (by omega)]; omega
  have htd : Int.tdiv (q : Int) 48 = ((q / 48 : Nat) : Int) := by rw [Int.tdiv_eq_ediv_of_nonneg (by omega)]; omega
  rw [hq] at CM ⊢
  obtain ⟨d, hd⟩ : ∃ d, q / 48 = d := ⟨_, rfl⟩
  rw [hd] at CM htd
  have hdi : (q : Int) / 48 = (d : Int) := by omega
  obtain ⟨r, hr⟩ : ∃ r, refF n a (wholeN q : Int) = r := ⟨_, rfl⟩
  rw [hr]
  unfold wholeN at hr
  rw [hd] at hr
  by_cases h : q % 48 = 0
  · rw [if_pos h] at hr
    have h0 : (q : Int) % 48 = 0 := by omega
    rw [h] at htm
    by_cases hz : q = 0
    · have hd0 : d = 0 := by omega
      subst hd0
      have e2 : r = 2 := by rw [← hr]; unfold refF; rw [if_pos (by omega)]
      subst e2
      have hz2 : (q : Int) = 0 := by omega
      clear CM hr h hd hdi htd c0
      subst hz
      go_enter Try.func24, Try.ntmps24
      go_wp2_with fail
      go_ret
      exact ⟨rfl, rfl⟩
    · have hz2 : ((q : Int) == 0) = false := by simp; omega
      have hz3 : ¬ (q : Int) = 0 := by omega
      rw [hr] at CM
      clear hr h hz
      go_enter Try.func24, Try.ntmps24
      go_wp2_with fail
      refine CM.out.mono ?_
      rintro e w' ⟨rfl, rfl⟩
      go_wp2_with fail
      go_ret
      exact ⟨rfl, rfl⟩
  · rw [if_neg h] at hr
    have e2 : r = 2 := by rw [← hr]; rfl
    subst e2
    have h0 : ((q : Int) % 48 == 0) = false := by simp; omega
    have h1 : ((q : Int) % 48 != 0) = true := by simp; omega
    clear CM hr h hd hdi htd htm
    go_enter Try.func24, Try.ntmps24
    go_wp2_with fail
    go_ret
    exact ⟨rfl, rfl⟩
/-- A row of texts that no one changes. -/
def TxR (w : World) (b : Nat) (L : List (List UInt8)) : Prop := b < w.heap.size ∧ ∀ i (hi : i < L.length), w.cell? ⟨b, i, none⟩ = some (.string ⟨(L[i]).toArray⟩)
theorem TxR.below {w w' : World} {b : Nat} {L : List (List UInt8)} (h : TxR w b L) (k : Below w.heap.size w w') : TxR w' b L :=
  ⟨Nat.lt_of_lt_of_le h.1 k.size, fun i hi => (k.cell (p := ⟨b, i, none⟩) h.1).trans (h.2 i hi)⟩
theorem TxR.kq {w w' : World} {A b : Nat} {N : List Nat} {L : List (List UInt8)} (h : TxR w b L) (k : Kq A N w w') (hb : b ∉ N) : TxR w' b L :=
  ⟨Nat.lt_of_lt_of_le h.1 k.below.size, fun i hi => k.cell hb (h.2 i hi)⟩
theorem TxR.last {w : World} {b : Nat} {L : List (List UInt8)} {x : List UInt8} (h : TxR w b (L ++ [x])) : w.cell? ⟨b, L.length, none⟩ = some (.string ⟨x.toArray⟩) := by
  have := h.2 L.length (by simp)
  simpa using this
set_option maxRecDepth 100000 in
set_option maxHeartbeats 4000000 in
theorem rlast_any {w : World} {b : Nat} {L : List (List UInt8)} {x : List UInt8} (cap : Nat) (h : TxR w b (L ++ [x])) (hl : L.length ≤ 1000000) (hc : L.length + 1 ≤ cap) : Calls Try.prog 44 #[.agg #[.slice (some ⟨b, 0, none⟩) (L.length + 1) cap]] w fun e w' => e = .returned (.string ⟨x.toArray⟩) ∧ Below w.heap.size w w' := by
  have hcl := h.last
  have hb := h.1
  clear h
  obtain ⟨s, hs⟩ : ∃ s : ByteArray, (⟨x.toArray⟩ : ByteArray) = s := ⟨_, rfl⟩
  rw [hs] at hcl ⊢
  generalize L.length = m at *
  obtain ⟨w1, hw1⟩ : ∃ w1, w.alloc (.cells #[.slice (some ⟨b, 0, none⟩) (m + 1) cap] 62) = w1 := ⟨_, rfl⟩
  have b1 : Below w.heap.size w w1 := by rw [← hw1]; exact (Below.refl _ _).alloc (Nat.le_refl _) _
  have x0 : w1.cell? ⟨w.heap.size, 0, none⟩ = some (.slice (some ⟨b, 0, none⟩) (m + 1) cap) := by rw [← hw1]; exact World.cell?_alloc_at _ _ _ _ rfl
  have hcl := (b1.cell (p := ⟨b, m, none⟩) hb).trans hcl
  have HB1 := Lib.hid b1
  have HW1 := Lib.hid hw1
  obtain ⟨gx, hgx⟩ : ∃ gx, Hid (w.heap.size = gx) := ⟨_, Lib.hid rfl⟩
  rw [hgx.out] at x0
  have hm : (m : Int) < ((m + 1 : Nat) : Int) := by omega
  clear hw1 b1
  go_enter Try.func44, Try.ntmps44
  go_upto_region 1 with fail
  (try rw [HW1.out]); (try rw [hgx.out])
  clear HW1
  go_wp2_with fail
  go_ret
  exact ⟨rfl, HB1.out⟩
end Go.Proofs.Ytaemnelfnopjdaa
