/- The reference's Look (package view). -/
import Derived.Test.YtapmnacggpcffaaVwK
namespace Go.Proofs.Ytapmnacggpcffaa
open Go.RowKit Go.Deep
set_option linter.unusedVariables false
set_option linter.unusedSimpArgs false
theorem z64_any (w : World) : Calls Try.prog 18 #[.int .i64 64] w fun e w' => e = .returned (.string z64) ∧ Below w.heap.size w w' := zeros_anyz 64 w (by omega)
set_option maxRecDepth 100000 in
set_option maxHeartbeats 16000000 in
theorem rlook_any (s : ByteArray) (i : Nat) (w : World) (hs : s.size = 18432) (hi : i < 288) : Calls Try.prog 10 #[.string s, .int .i64 (i : Int)] w fun e w' => e = .returned (.agg (seenA s i)) ∧ Below w.heap.size w w' := by
  obtain ⟨w1, hw1⟩ : ∃ w1, w.alloc (.cells #[.int .i64 0, .int .i64 0, .int .i64 0, .bool false] 33) = w1 := ⟨_, rfl⟩
  have B1 : Below w.heap.size w w1 := by rw [← hw1]; exact (Below.refl _ _).alloc (Nat.le_refl _) _
  have s1 : w1.heap.size = w.heap.size + 1 := by rw [← hw1]; simp
  have r1 : w1.heap[w.heap.size]? = some (.cells #[.int .i64 0, .int .i64 0, .int .i64 0, .bool false] 33 (0, 0)) := by rw [← hw1]; exact heap_alloc_new _ _
  have CB := Lib.hid (rblock_any s i w1 hs hi)
  have CZ := Lib.hid (z64_any w1)
  have hbs := blkP_size hs hi
  have HY := Lib.hid (@numV_yes s i)
  have HN := Lib.hid (@numV_no s i)
  have HZ : Hid (zerV s i = ((blkP s i).toList == z64.toList)) := Lib.hid rfl
  obtain ⟨t, ht⟩ : ∃ t, blkP s i = t := ⟨_, rfl⟩
  rw [ht] at CB hbs HY HN HZ
  obtain ⟨Z, hZ⟩ : ∃ Z, (t.toList == z64.toList) = Z := ⟨_, rfl⟩
  rw [hZ] at HZ
  have HSE : Hid (∀ K I N, whatK (i : Int) = K → whatI (i : Int) = I → numV s i = N → seenA s i = #[.int .i64 K, .int .i64 I, .int .i64 N, .bool Z]) := Lib.hid (fun K I N h1 h2 h3 => by unfold seenA; rw [h1, h2, h3, HZ.out])
  have HKR := Lib.hid (fun w' r hr => rkd_raw t w' hbs r hr)
  generalize z64 = zz at *
  have HW1 := Lib.hid hw1
  have HB1 := Lib.hid B1
  clear hw1 ht HZ B1
  go_enter Try.func10, Try.ntmps10
  go_upto_region 1 with fail
  rw [HW1.out]
  clear HW1
  go_wp2_with fail
  refine CB.out.mono ?_
  rintro e w' ⟨rfl, rfl⟩
  clear CB
  go_wp2_with fail
  refine CZ.out.mono ?_
  rintro e wz ⟨rfl, hbz⟩
  have r1 := (hbz.block w.heap.size (by omega)).trans r1
  have HBz := Lib.hid (HB1.out.trans (hbz.mono HB1.out.size))
  have hsz : w.heap.size + 1 ≤ wz.heap.size := by rw [← s1]; exact hbz.size
  obtain ⟨g1, hg1⟩ : ∃ g1, Hid (wz.heap.size = g1) := ⟨_, Lib.hid rfl⟩
  obtain ⟨w2, hw2⟩ : ∃ w2, wz.alloc (.cells #[.int .i64 0, .int .i64 0, .int .i64 (-1), .bool Z] 33) = w2 := ⟨_, rfl⟩
  have B2 : Below wz.heap.size wz w2 := by rw [← hw2]; exact (Below.refl _ _).alloc (Nat.le_refl _) _
  have r2 : w2.heap[g1]? = some (.cells #[.int .i64 0, .int .i64 0, .int .i64 (-1), .bool Z] 33 (0, 0)) := by rw [← hw2, ← hg1.out]; exact heap_alloc_new _ _
  have q2 := (B2.block w.heap.size (by omega)).trans r1
  obtain ⟨y0, y1, y2, y3⟩ := four_cells r2
  have HB2 := Lib.hid (HBz.out.trans (B2.mono HBz.out.size))
  have hf0 : w2.frozen? ⟨g1, 0, none⟩ = false := by simp [World.frozen?, r2]
  have hf1 : w2.frozen? ⟨g1, 1, none⟩ = false := by simp [World.frozen?, r2]
  have hf2 : w2.frozen? ⟨g1, 2, none⟩ = false := by simp [World.frozen?, r2]
  have hgne : w.heap.size ≠ g1 := by rw [← hg1.out]; omega
  have hgle : w.heap.size ≤ g1 := by rw [← hg1.out]; omega
  have HW2 := Lib.hid hw2
  clear hw2 B2 r1 CZ hbz
  go_upto_region 3 with fail
  try rw [hZ]
  rw [HW2.out, hg1.out]
  clear HW2 hg1 hZ hsz s1 HBz HB1
  rcases (show i < 1 ∨ (1 ≤ i ∧ i < 81) ∨ (81 ≤ i ∧ i < 161) ∨ (161 ≤ i ∧ i < 224) ∨ 224 ≤ i by omega) with c0 | ⟨c0, c1⟩ | ⟨c0, c1⟩ | ⟨c0, c1⟩ | c0
  · as_aux_lemma =>
    have hK : whatK (i : Int) = 0 := by unfold whatK; rw [if_pos (by omega)]
    have hI : whatI (i : Int) = 0 := by unfold whatI; rw [if_pos (by omega)]
    have hNV := HN.out (by intro h; omega)
    have d1 : ¬ (1 : Int) ≤ (i : Int) := by omega
    have d2 : ¬ (81 : Int) ≤ (i : Int) := by omega
    have d3 : ¬ (161 : Int) ≤ (i : Int) := by omega
    have d4 : ¬ (224 : Int) ≤ (i : Int) := by omega
    go_wp2_with (refine wpList_store_new rfl 33 _ _ rfl w.heap.size #[.int .i64 0, .int .i64 0, .int .i64 (-1), .bool Z] rfl rfl 33 _ q2 (size_seen 0 0 (-1) Z) rfl (one_seen 0 0 (-1) Z) ?_; intro w4 hrow4 hbel4 hs4)
    refine bodyPost_ret_by (results_cell_row rfl _ _ w.heap.size 33 #[.int .i64 0, .int .i64 0, .int .i64 (-1), .bool Z] (0, 0) _ rfl hrow4 Try.underlying33 rfl (size_seen 0 0 (-1) Z)) rfl ⟨by rw [HSE.out _ _ _ hK hI hNV], HB2.out.trans hbel4⟩
  · as_aux_lemma =>
    have hK : whatK (i : Int) = 1 := by unfold whatK; rw [if_neg (by omega), if_pos (by omega)]
    have hI : whatI (i : Int) = (i : Int) - 1 := by unfold whatI; rw [if_neg (by omega), if_pos (by omega)]
    have hNV := HN.out (by intro h; omega)
    have d1 : (1 : Int) ≤ (i : Int) := by omega
    have d1' : (i : Int) < 81 := by omega
    have d2 : ¬ (81 : Int) ≤ (i : Int) := by omega
    have d3 : ¬ (161 : Int) ≤ (i : Int) := by omega
    have d4 : ¬ (224 : Int) ≤ (i : Int) := by omega
    have q3 : ((w2.setCell ⟨g1, 0, none⟩ (.int .i64 1)).setCell ⟨g1, 1, none⟩ (.int .i64 ((i : Int) - 1))).heap[w.heap.size]? = some (.cells #[.int .i64 0, .int .i64 0, .int .i64 0, .bool false] 33 (0, 0)) := (blk_setCell_other _ _ _ _ (by show w.heap.size ≠ g1; exact hgne)).trans ((blk_setCell_other _ _ _ _ (by show w.heap.size ≠ g1; exact hgne)).trans q2)
    have HB3 := Lib.hid ((HB2.out.setCell (p := ⟨g1, 0, none⟩) (by show w.heap.size ≤ g1; exact hgle) (.int .i64 1)).setCell (p := ⟨g1, 1, none⟩) (by show w.heap.size ≤ g1; exact hgle) (.int .i64 ((i : Int) - 1)))
    go_wp2_with (refine wpList_store_new rfl 33 _ _ rfl w.heap.size #[.int .i64 1, .int .i64 ((i : Int) - 1), .int .i64 (-1), .bool Z] rfl rfl 33 _ q3 (size_seen 1 ((i : Int) - 1) (-1) Z) rfl (one_seen 1 ((i : Int) - 1) (-1) Z) ?_; intro w4 hrow4 hbel4 hs4)
    refine bodyPost_ret_by (results_cell_row rfl _ _ w.heap.size 33 #[.int .i64 1, .int .i64 ((i : Int) - 1), .int .i64 (-1), .bool Z] (0, 0) _ rfl hrow4 Try.underlying33 rfl (size_seen 1 ((i : Int) - 1) (-1) Z)) rfl ⟨by rw [HSE.out _ _ _ hK hI hNV], HB3.out.trans hbel4⟩
  · as_aux_lemma =>
    have hK : whatK (i : Int) = 2 := by unfold whatK; rw [if_neg (by omega), if_neg (by omega), if_pos (by omega)]
    have hI : whatI (i : Int) = (i : Int) - 81 := by unfold whatI; rw [if_neg (by omega), if_neg (by omega), if_pos (by omega)]; omega
    have hNV := HN.out (by intro h; omega)
    have d1 : (1 : Int) ≤ (i : Int) := by omega
    have d1' : ¬ (i : Int) < 81 := by omega
    have d2 : (81 : Int) ≤ (i : Int) := by omega
    have d2' : (i : Int) < 161 := by omega
    have d3 : ¬ (161 : Int) ≤ (i : Int) := by omega
    have d4 : ¬ (224 : Int) ≤ (i : Int) := by omega
    have q3 : ((w2.setCell ⟨g1, 0, none⟩ (.int .i64 2)).setCell ⟨g1, 1, none⟩ (.int .i64 ((i : Int) - 81))).heap[w.heap.size]? = some (.cells #[.int .i64 0, .int .i64 0, .int .i64 0, .bool false] 33 (0, 0)) := (blk_setCell_other _ _ _ _ (by show w.heap.size ≠ g1; exact hgne)).trans ((blk_setCell_other _ _ _ _ (by show w.heap.size ≠ g1; exact hgne)).trans q2)
    have HB3 := Lib.hid ((HB2.out.setCell (p := ⟨g1, 0, none⟩) (by show w.heap.size ≤ g1; exact hgle) (.int .i64 2)).setCell (p := ⟨g1, 1, none⟩) (by show w.heap.size ≤ g1; exact hgle) (.int .i64 ((i : Int) - 81)))
    go_wp2_with (refine wpList_store_new rfl 33 _ _ rfl w.heap.size #[.int .i64 2, .int .i64 ((i : Int) - 81), .int .i64 (-1), .bool Z] rfl rfl 33 _ q3 (size_seen 2 ((i : Int) - 81) (-1) Z) rfl (one_seen 2 ((i : Int) - 81) (-1) Z) ?_; intro w4 hrow4 hbel4 hs4)
    refine bodyPost_ret_by (results_cell_row rfl _ _ w.heap.size 33 #[.int .i64 2, .int .i64 ((i : Int) - 81), .int .i64 (-1), .bool Z] (0, 0) _ rfl hrow4 Try.underlying33 rfl (size_seen 2 ((i : Int) - 81) (-1) Z)) rfl ⟨by rw [HSE.out _ _ _ hK hI hNV], HB3.out.trans hbel4⟩
  · as_aux_lemma =>
    have hK : whatK (i : Int) = 3 := by unfold whatK; rw [if_neg (by omega), if_neg (by omega), if_neg (by omega), if_pos (by omega)]
    have hI : whatI (i : Int) = (i : Int) - 161 := by unfold whatI; rw [if_neg (by omega), if_neg (by omega), if_neg (by omega), if_pos (by omega)]
    have hNV := HN.out (by intro h; omega)
    have d1 : (1 : Int) ≤ (i : Int) := by omega
    have d1' : ¬ (i : Int) < 81 := by omega
    have d2 : (81 : Int) ≤ (i : Int) := by omega
    have d2' : ¬ (i : Int) < 161 := by omega
    have d3 : (161 : Int) ≤ (i : Int) := by omega
    have d3' : (i : Int) < 224 := by omega
    have d4 : ¬ (224 : Int) ≤ (i : Int) := by omega
    have q3 : ((w2.setCell ⟨g1, 0, none⟩ (.int .i64 3)).setCell ⟨g1, 1, none⟩ (.int .i64 ((i : Int) - 161))).heap[w.heap.size]? = some (.cells #[.int .i64 0, .int .i64 0, .int .i64 0, .bool false] 33 (0, 0)) := (blk_setCell_other _ _ _ _ (by show w.heap.size ≠ g1; exact hgne)).trans ((blk_setCell_other _ _ _ _ (by show w.heap.size ≠ g1; exact hgne)).trans q2)
    have HB3 := Lib.hid ((HB2.out.setCell (p := ⟨g1, 0, none⟩) (by show w.heap.size ≤ g1; exact hgle) (.int .i64 3)).setCell (p := ⟨g1, 1, none⟩) (by show w.heap.size ≤ g1; exact hgle) (.int .i64 ((i : Int) - 161)))
    go_wp2_with (refine wpList_store_new rfl 33 _ _ rfl w.heap.size #[.int .i64 3, .int .i64 ((i : Int) - 161), .int .i64 (-1), .bool Z] rfl rfl 33 _ q3 (size_seen 3 ((i : Int) - 161) (-1) Z) rfl (one_seen 3 ((i : Int) - 161) (-1) Z) ?_; intro w4 hrow4 hbel4 hs4)
    refine bodyPost_ret_by (results_cell_row rfl _ _ w.heap.size 33 #[.int .i64 3, .int .i64 ((i : Int) - 161), .int .i64 (-1), .bool Z] (0, 0) _ rfl hrow4 Try.underlying33 rfl (size_seen 3 ((i : Int) - 161) (-1) Z)) rfl ⟨by rw [HSE.out _ _ _ hK hI hNV], HB3.out.trans hbel4⟩
  · as_aux_lemma =>
    have hK : whatK (i : Int) = 4 := whatK_4 c0
    have hI : whatI (i : Int) = (i : Int) - 224 := by unfold whatI; rw [if_neg (by omega), if_neg (by omega), if_neg (by omega), if_neg (by omega)]
    have d1 : (1 : Int) ≤ (i : Int) := by omega
    have d1' : ¬ (i : Int) < 81 := by omega
    have d2 : (81 : Int) ≤ (i : Int) := by omega
    have d2' : ¬ (i : Int) < 161 := by omega
    have d3 : (161 : Int) ≤ (i : Int) := by omega
    have d3' : ¬ (i : Int) < 224 := by omega
    have d4 : (224 : Int) ≤ (i : Int) := by omega
    obtain ⟨wS, hwS⟩ : ∃ wS, (w2.setCell ⟨g1, 0, none⟩ (.int .i64 4)).setCell ⟨g1, 1, none⟩ (.int .i64 ((i : Int) - 224)) = wS := ⟨_, rfl⟩
    have qS : wS.heap[w.heap.size]? = some (.cells #[.int .i64 0, .int .i64 0, .int .i64 0, .bool false] 33 (0, 0)) := by rw [← hwS]; exact (blk_setCell_other _ _ _ _ (by show w.heap.size ≠ g1; exact hgne)).trans ((blk_setCell_other _ _ _ _ (by show w.heap.size ≠ g1; exact hgne)).trans q2)
    have rS : wS.heap[g1]? = some (.cells #[.int .i64 4, .int .i64 ((i : Int) - 224), .int .i64 (-1), .bool Z] 33 (0, 0)) := by rw [← hwS]; simp [World.setCell, Array.getElem?_modify, r2]
    have HBS : Hid (Below w.heap.size w wS) := Lib.hid (by rw [← hwS]; exact (HB2.out.setCell (p := ⟨g1, 0, none⟩) (by show w.heap.size ≤ g1; exact hgle) _).setCell (p := ⟨g1, 1, none⟩) (by show w.heap.size ≤ g1; exact hgle) _)
    have HWS := Lib.hid hwS
    obtain ⟨r, hr⟩ : ∃ r, okK t = r := ⟨_, rfl⟩
    have CK := Lib.hid (HKR.out wS r hr)
    obtain ⟨k, hk⟩ : ∃ k, kB t = k := ⟨_, rfl⟩
    obtain ⟨v, hv⟩ : ∃ v, kV t = v := ⟨_, rfl⟩
    rw [hk, hv] at CK
    rw [hr, hk, hv] at HY
    rw [hr, hk] at HN
    clear hwS hr hk hv HKR
    go_upto_region 15 with fail
    rw [HWS.out]
    clear HWS y0 y1 y2 y3 hf0 hf1 hf2 r2 q2 HB2
    go_wp2_with fail
    refine CK.out.mono ?_
    rintro e w5 ⟨rfl, hb5⟩
    have r5 := (hb5.block g1 (Array.getElem?_eq_some_iff.1 rS).1).trans rS
    have q5 := (hb5.block w.heap.size (Array.getElem?_eq_some_iff.1 qS).1).trans qS
    obtain ⟨y0, y1, y2, y3⟩ := four_cells r5
    have hf2 : w5.frozen? ⟨g1, 2, none⟩ = false := by simp [World.frozen?, r5]
    have HB5 := Lib.hid (HBS.out.trans (hb5.mono HBS.out.size))
    clear CK hb5 rS qS HBS
    cases r
    · as_aux_lemma =>
      have hNV := HN.out (by simp)
      go_wp2_with (refine wpList_store_new rfl 33 _ _ rfl w.heap.size #[.int .i64 4, .int .i64 ((i : Int) - 224), .int .i64 (-1), .bool Z] rfl rfl 33 _ q5 (size_seen 4 ((i : Int) - 224) (-1) Z) rfl (one_seen 4 ((i : Int) - 224) (-1) Z) ?_; intro w4 hrow4 hbel4 hs4)
      refine bodyPost_ret_by (results_cell_row rfl _ _ w.heap.size 33 #[.int .i64 4, .int .i64 ((i : Int) - 224), .int .i64 (-1), .bool Z] (0, 0) _ rfl hrow4 Try.underlying33 rfl (size_seen 4 ((i : Int) - 224) (-1) Z)) rfl ⟨by rw [HSE.out _ _ _ hK hI hNV], HB5.out.trans hbel4⟩
    · by_cases h1 : k = 1
      · as_aux_lemma =>
        subst h1
        have hNV := HY.out rfl rfl c0
        have q6 := (blk_setCell_other w5 ⟨g1, 2, none⟩ (.int .i64 v) w.heap.size (by show w.heap.size ≠ g1; exact hgne)).trans q5
        have HB6 := Lib.hid (HB5.out.setCell (p := ⟨g1, 2, none⟩) (by show w.heap.size ≤ g1; exact hgle) (.int .i64 v))
        go_wp2_with (refine wpList_store_new rfl 33 _ _ rfl w.heap.size #[.int .i64 4, .int .i64 ((i : Int) - 224), .int .i64 v, .bool Z] rfl rfl 33 _ q6 (size_seen 4 ((i : Int) - 224) v Z) rfl (one_seen 4 ((i : Int) - 224) v Z) ?_; intro w4 hrow4 hbel4 hs4)
        refine bodyPost_ret_by (results_cell_row rfl _ _ w.heap.size 33 #[.int .i64 4, .int .i64 ((i : Int) - 224), .int .i64 v, .bool Z] (0, 0) _ rfl hrow4 Try.underlying33 rfl (size_seen 4 ((i : Int) - 224) v Z)) rfl ⟨by rw [HSE.out _ _ _ hK hI hNV], HB6.out.trans hbel4⟩
      · as_aux_lemma =>
        have hNV := HN.out (by simp; omega)
        have hk1 : ((k : Int) == 1) = false := by simp; omega
        go_wp2_with (refine wpList_store_new rfl 33 _ _ rfl w.heap.size #[.int .i64 4, .int .i64 ((i : Int) - 224), .int .i64 (-1), .bool Z] rfl rfl 33 _ q5 (size_seen 4 ((i : Int) - 224) (-1) Z) rfl (one_seen 4 ((i : Int) - 224) (-1) Z) ?_; intro w4 hrow4 hbel4 hs4)
        refine bodyPost_ret_by (results_cell_row rfl _ _ w.heap.size 33 #[.int .i64 4, .int .i64 ((i : Int) - 224), .int .i64 (-1), .bool Z] (0, 0) _ rfl hrow4 Try.underlying33 rfl (size_seen 4 ((i : Int) - 224) (-1) Z)) rfl ⟨by rw [HSE.out _ _ _ hK hI hNV], HB5.out.trans hbel4⟩
end Go.Proofs.Ytapmnacggpcffaa
