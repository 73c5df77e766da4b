/- Contracts (cellaret): chain.Next. -/
import Derived.Test.YtaneecmfgfkaaaaDoorChE
namespace Go.Proofs.YtaneecmfgfkaaaaDoor
open Go.RowKit Go.Deep Go.Maps
set_option linter.unusedVariables false
set_option linter.unusedSimpArgs false
attribute [local irreducible] digA sumL z32 alL alT
/-- One row of blocks as the only row. -/
theorem rowsB_one (X : Option OrS) (L : List ByteArray) (la : Option Addr) (n c : Nat) (W : World) (hn : L.length = n) (hc : n ≤ c) (hm : n ≤ 9223372036854775807) (q : Nat) (hq : W.heap[q]? = some (.cells #[.slice la n c] 25 (0, 0))) (hf : FreeX X q) (hT : TxtB W.heap.size W X la L) :
    RowsB W.heap.size W X (some ⟨q, 0, none⟩) [L] := fun _ => ⟨q, 0, rfl, (Array.getElem?_eq_some_iff.1 hq).1, hf, fun i hi => by
  obtain rfl : i = 0 := by have : i < 1 := hi; omega
  exact ⟨la, c, by rw [show ([L][0]).length = n from hn]; exact cell_of_row W q 0 _ _ _ hq, by rw [show ([L][0]).length = n from hn]; exact hc, by rw [show ([L][0]).length = n from hn]; exact hm, hT⟩⟩
theorem alL_one (a : List UInt8) (L : List ByteArray) : alL a [L] 1 = nextL a L := by with_unfolding_all rfl
theorem alT_one (a : List UInt8) (L : List ByteArray) : alT a [L] 1 = [nextT a L] := by with_unfolding_all rfl
set_option maxRecDepth 100000 in
set_option maxHeartbeats 2000000 in
theorem next_x (base : Nat) (o : Option Addr) (X : Option OrS) (a : List UInt8) (L : List ByteArray) (la : Option Addr) (n c : Nat) (w : World) (hG : Gl w) (hbf : 0 < base) (hbk : 1 < base) (hX : OrX base w o X) (hF : FewX X 1000) (ha : a.length = 32)
    (hn : L.length = n) (hc : n ≤ c) (hok : okB L = true) (hT : TxtB w.heap.size w X la L) :
    Calls Tryd.prog 20 #[.pointer o, .agg (digA a), .slice la n c] w fun e w' => ∃ X', e = .returned (.tuple #[.agg (digA (nextL a L)), .int .i64 0]) ∧ OrX base w' o X' ∧ SumsX X X' [nextT a L] ∧ Below base w w' ∧ KeptX w w' X X' := by
  have hz := zero_dig
  have hb0 := hX.base
  have hnm : n ≤ 9223372036854775807 := by have := (okB_inv L hok).1; omega
  have hda : (digA a).size = 32 := by with_unfolding_all (rw [digA_size, ha])
  obtain ⟨w2, HW2, h4, h6, B2, hs2⟩ := two_made w (digA a)
  have h3 := heap_alloc_new w2 (.cells #[.slice la n c] 25)
  have b3 := (Below.refl w2.heap.size w2).alloc (Nat.le_refl _) (.cells #[.slice la n c] 25)
  have s3 : (w2.alloc (.cells #[.slice la n c] 25)).heap.size = w.heap.size + 3 := by simp [hs2]
  obtain ⟨w3, HW3⟩ : ∃ w3, Hid (w2.alloc (.cells #[.slice la n c] 25) = w3) := ⟨_, Lib.hid rfl⟩
  rw [HW3.out] at h3 b3 s3
  have B3 := B2.trans (b3.mono B2.size)
  have h63 := (b3.block (w.heap.size + 1) (by omega)).trans h6
  have hT3 : TxtB w3.heap.size w3 X la L := (hT.kept (Nat.le_refl _) (KeptX.below B3)).mono (by omega)
  have hok1 : ∀ i (h : i < [L].length), okB [L][i] = true := fun i hi => by
    obtain rfl : i = 0 := by have : i < 1 := hi; omega
    exact hok
  have HAL := Lib.hid (along_any base o X a [L] (some ⟨w2.heap.size, 0, none⟩) 1 1 w3 (hG.below B3) hbf hbk (hX.below B3) hF ha rfl (by omega) hok1 (rowsB_one X L la n c w3 hn hc hnm _ h3 (hX.free _ (by omega)) hT3))
  rw [alL_one, alT_one] at HAL
  have HK3 : Hid (KeptX w w3 X X) := Lib.hid (KeptX.below B3)
  have hR1 : FreeX X (w.heap.size + 1) := hX.free _ (by omega)
  have hl1 : w.heap.size + 1 < w3.heap.size := by omega
  have hdz : (digA (nextL a L)).size = 32 := by with_unfolding_all (rw [digA_size, nextL_len])
  have hone : (digA (nextL a L)).all (·.oneCell') = true := by with_unfolding_all exact digA_one _
  clear hT hX hF hok hok1 hnm hn ha hT3
  generalize digA (nextL a L) = DN at *
  generalize digA a = DA at *
  go_enter Tryd.func20, Tryd.ntmps20
  go_upto_region 1 with fail
  rw [HW2.out]
  clear HW2
  go_wp2_with (refine wpList_load_row rfl _ _ rfl w.heap.size rfl 34 DA (0, 0) _ h4 Tryd.underlying34 rfl (by rw [hda]; kernel_rfl) ?_)
  rw [HW3.out]
  rw [hs2] at HAL
  refine HAL.out.mono ?_
  rintro e w4 ⟨X', rfl, X4, S4, b4, K4⟩
  have h64 := K4.keep _ _ h63 hR1
  have hf4 := K4.free _ hl1 hR1
  have HX4 := Lib.hid X4
  have HS4 := Lib.hid S4
  have HB4 := Lib.hid ((B3.mono hb0).trans b4)
  have HK4 := Lib.hid (HK3.out.trans K4)
  clear X4 S4 b4 K4 HAL HK3
  go_wp2_with (refine wpList_store_row rfl _ _ _ rfl (w.heap.size + 1) DN rfl rfl 34 _ h64 (by rw [hdz]; kernel_rfl) (by rw [hdz, z32_sizeC]) hone ?_)
  refine bodyPost_ret_by (results_ct rfl _ _ (w.heap.size + 1) 34 DN (0, 0) _ rfl (setRow_heap _ _ _ DN 34 (0, 0) h64) Tryd.underlying34 rfl (by rw [hdz]; kernel_rfl)) rfl ⟨X', rfl, ?_, HS4.out, ?_, ?_⟩
  · exact HX4.out.row _ DN hf4
  · exact below_setRow HB4.out (by omega) _
  · exact HK4.out.row _ DN (by omega)
set_option maxRecDepth 100000 in
set_option maxHeartbeats 2000000 in
theorem next_no (base : Nat) (o : Option Addr) (X : Option OrS) (D : Array Value) (L : List ByteArray) (la : Option Addr) (n c : Nat) (w : World) (hX : OrX base w o X) (hD : D.size = 32)
    (hn : L.length = n) (hc : n ≤ c) (hnm : n ≤ 9223372036854775807) (hok : okB L = false) (hT : TxtB w.heap.size w X la L) :
    Calls Tryd.prog 20 #[.pointer o, .agg D, .slice la n c] w fun e w' => e = .returned (.tuple #[.agg z32, .int .i64 6]) ∧ Below w.heap.size w w' := by
  have hz := zero_dig
  obtain ⟨w2, HW2, h4, h6, B2, hs2⟩ := two_made w D
  have h3 := heap_alloc_new w2 (.cells #[.slice la n c] 25)
  have b3 := (Below.refl w2.heap.size w2).alloc (Nat.le_refl _) (.cells #[.slice la n c] 25)
  have s3 : (w2.alloc (.cells #[.slice la n c] 25)).heap.size = w.heap.size + 3 := by simp [hs2]
  obtain ⟨w3, HW3⟩ : ∃ w3, Hid (w2.alloc (.cells #[.slice la n c] 25) = w3) := ⟨_, Lib.hid rfl⟩
  rw [HW3.out] at h3 b3 s3
  have B3 := B2.trans (b3.mono B2.size)
  have h63 := (b3.block (w.heap.size + 1) (by omega)).trans h6
  have hT3 : TxtB w3.heap.size w3 X la L := (hT.kept (Nat.le_refl _) (KeptX.below B3)).mono (by omega)
  have HAL := Lib.hid (along_no base o X D [L] (some ⟨w2.heap.size, 0, none⟩) 1 1 w3 rfl (by omega) ⟨0, by simp, hok⟩ (rowsB_one X L la n c w3 hn hc hnm _ h3 (hX.free _ (by omega)) hT3))
  have hl1 : w.heap.size + 1 < w3.heap.size := by omega
  clear hT hX hok hnm hn hT3
  go_enter Tryd.func20, Tryd.ntmps20
  go_upto_region 1 with fail
  rw [HW2.out]
  clear HW2
  go_wp2_with (refine wpList_load_row rfl _ _ rfl w.heap.size rfl 34 D (0, 0) _ h4 Tryd.underlying34 rfl (by rw [hD]; kernel_rfl) ?_)
  rw [HW3.out]
  rw [hs2] at HAL
  refine HAL.out.mono ?_
  rintro e w4 ⟨rfl, b4⟩
  have h64 := (b4.block _ hl1).trans h63
  have B4 := B3.trans (b4.mono B3.size)
  clear b4 HAL
  go_wp2_with (refine wpList_store_row rfl _ _ _ rfl (w.heap.size + 1) z32 rfl rfl 34 _ h64 (by rw [z32_sizeC]; kernel_rfl) rfl (by with_unfolding_all exact z32_one) ?_)
  refine bodyPost_ret_by (results_ct rfl _ _ (w.heap.size + 1) 34 z32 (0, 0) _ rfl (setRow_heap _ _ _ z32 34 (0, 0) h64) Tryd.underlying34 rfl (by rw [z32_sizeC]; kernel_rfl)) rfl ⟨rfl, ?_⟩
  exact below_setRow B4 (by omega) _
end Go.Proofs.YtaneecmfgfkaaaaDoor
