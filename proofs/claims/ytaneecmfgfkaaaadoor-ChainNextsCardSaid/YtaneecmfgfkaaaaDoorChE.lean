/- Contracts (cellaret): chain.Along of rows that are refused; chain.Next. -/
import Derived.Test.YtaneecmfgfkaaaaDoorChD
namespace Go.Proofs.YtaneecmfgfkaaaaDoor
open Go.RowKit Go.Deep Go.Maps
set_option linter.unusedVariables false
set_option linter.unusedSimpArgs false
theorem two_made (w : World) (D : Array Value) : ∃ w2, Hid ((w.alloc (.cells D 34)).alloc (.cells z32 34) = w2) ∧ w2.heap[w.heap.size]? = some (.cells D 34 (0, 0)) ∧ w2.heap[w.heap.size + 1]? = some (.cells z32 34 (0, 0)) ∧ Below w.heap.size w w2 ∧ w2.heap.size = w.heap.size + 2 := by
  have h1 := heap_alloc_new w (.cells D 34)
  have b1 := (Below.refl w.heap.size w).alloc (Nat.le_refl _) (.cells D 34)
  generalize hw1 : w.alloc (.cells D 34) = w1 at *
  have s1 : w1.heap.size = w.heap.size + 1 := by rw [← hw1]; simp
  have b2 := (Below.refl w1.heap.size w1).alloc (Nat.le_refl _) (.cells z32 34)
  have h2 := heap_alloc_new w1 (.cells z32 34)
  exact ⟨_, Lib.hid rfl, (b2.block _ (by omega)).trans h1, by rw [← s1]; exact h2, b1.trans (b2.mono (by omega)), by simp [s1]⟩
theorem erB_yes (L : List ByteArray) (h : okB L = true) : erB L = 0 := by unfold erB; rw [if_pos h]
theorem erB_no (L : List ByteArray) (h : okB L = false) : erB L = 6 := by unfold erB; rw [h]; rfl
theorem TxtB.mono {B B' : Nat} {w : World} {X : Option OrS} {a : Option Addr} {L : List ByteArray} (h : TxtB B w X a L) (hB : B ≤ B') : TxtB B' w X a L := fun h0 => by
  obtain ⟨g, o, h1, h2, h3, h4⟩ := h h0
  exact ⟨g, o, h1, Nat.lt_of_lt_of_le h2 hB, h3, h4⟩
attribute [local irreducible] digA sumL z32 alL alT
set_option maxRecDepth 100000 in
set_option maxHeartbeats 4000000 in
theorem along_no (base : Nat) (o : Option Addr) (X : Option OrS) (D : Array Value) (R : List (List ByteArray)) (lr : Option Addr) (m c : Nat) (w : World)
    (hm : R.length = m) (hm2 : m ≤ 100000) (hbad : ∃ i, ∃ h : i < R.length, okB R[i] = false) (hR : RowsB w.heap.size w X lr R) :
    Calls Tryd.prog 21 #[.pointer o, .agg D, .slice lr m c] w fun e w' => e = .returned (.tuple #[.agg z32, .int .i64 6]) ∧ Below w.heap.size w w' := by
  have hz := zero_dig
  have hb := build_z32
  have HM := Lib.hid hm
  have HRW := Lib.hid hR
  have HBAD := Lib.hid hbad
  clear hm hR hbad
  obtain ⟨w2, HW2, h4, h6, B2, hs2⟩ := two_made w D
  go_enter Tryd.func21, Tryd.ntmps21
  go_upto_region 1 with fail
  rw [HW2.out]
  clear HW2
  have K2 := Lib.hid (KeptX.below (X := X) B2)
  go_wp2_with fail
  go_loop [16] (fun x => ∃ k : Nat, x = .int .i64 (k : Int) ∧ k ≤ m ∧ Hid (∀ i (h : i < R.length), i < k → okB R[i] = true)) (fun x => m - (intOf x).toNat)
  case atStart => exact ⟨0, rfl, by omega, Lib.hid (fun i h hi => absurd hi (by omega))⟩
  case round =>
    obtain ⟨k, rfl, hk, HK⟩ := hrel
    by_cases hlt : k < m
    · have hkR : k < R.length := by rw [HM.out]; exact hlt
      have hR2 := HRW.out.kept (Nat.le_refl _) K2.out
      obtain ⟨g, oo, rfl, hg, hgf, hc⟩ := hR2 (by omega)
      obtain ⟨la, cc, q1, q2, q3, q4⟩ := hc k hkR
      have hli : (k : Int) < (m : Int) := by omega
      have hT : Hid (0 < (R[k]).length → ∃ g o, la = some ⟨g, o, none⟩ ∧ ∀ i (h : i < (R[k]).length), w2.cell? ⟨g, o + i, none⟩ = some (.string (R[k])[i])) := Lib.hid (fun h0 => by
        obtain ⟨g, o, e1, _, _, e2⟩ := q4 h0
        exact ⟨g, o, e1, e2⟩)
      have HC2 := Lib.hid (check_any R[k] la (R[k]).length cc w2 rfl q3 hT)
      by_cases hok : okB R[k] = true
      · have HER := Lib.hid (erB_yes _ hok)
        have HK2 : Hid (∀ i (h : i < R.length), i < k + 1 → okB R[i] = true) := Lib.hid (fun i h hi => by
          by_cases e : i = k
          · subst e; exact hok
          · exact HK.out i h (by omega))
        rw [HER.out] at HC2
        clear hc q4 hT HER hR2 HK
        generalize (R[k]'hkR).length = nn at *
        go_wp2_with fail
        refine HC2.out.mono ?_
        rintro e w' ⟨rfl, rfl⟩
        go_wp2_with fail
        go_round
        case rel => exact ⟨k + 1, by go_num, by omega, HK2⟩
        case measure => simp [intOf]; omega
      · have HER := Lib.hid (erB_no _ (by simpa using hok))
        rw [HER.out] at HC2
        clear hc q4 hT HER hR2 HK
        generalize (R[k]'hkR).length = nn at *
        go_wp2_with fail
        refine HC2.out.mono ?_
        rintro e w' ⟨rfl, rfl⟩
        go_wp2_with (refine wpList_store_row rfl _ _ _ rfl (w.heap.size + 1) z32 rfl rfl 34 _ h6 (by rw [z32_sizeC]; kernel_rfl) rfl (by with_unfolding_all exact z32_one) ?_)
        refine bodyPost_ret_by (results_ct rfl _ _ (w.heap.size + 1) 34 z32 (0, 0) _ rfl (setRow_heap _ _ _ z32 34 (0, 0) h6) Tryd.underlying34 rfl (by rw [z32_sizeC]; kernel_rfl)) rfl ⟨rfl, ?_⟩
        exact below_setRow B2 (by omega) _
    · obtain ⟨i, hi, hf⟩ := HBAD.out
      have := HK.out i hi (by rw [HM.out] at hi; omega)
      rw [hf] at this
      cases this
end Go.Proofs.YtaneecmfgfkaaaaDoor
