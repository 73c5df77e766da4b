/- Trees of bare leaves: Leaf of any oracle, Bare, High, node.Same (layer 17). -/
import Derived.Test.YtaneecmfgfkaaaaDoorNoW
import Derived.Test.YtaneecmfgfkaaaaDoorShg
namespace Go.Proofs.YtaneecmfgfkaaaaDoor
open Go.RowKit Go.Deep Go.Maps
set_option linter.unusedVariables false
set_option linter.unusedSimpArgs false
def bareS : Nat → List UInt8
  | 0 => bareL
  | h + 1 => ndL (bareS h) (bareS h)
def bareB : Nat → ByteArray
  | 0 => z64B
  | h + 1 => sB (bareS h ++ bareS h)
theorem bareS_len : ∀ h, (bareS h).length = 32
  | 0 => bareL_len
  | h + 1 => ndL_len _ _
theorem bareB_size : ∀ h, (bareB h).size = 64
  | 0 => z64B_size
  | h + 1 => by show (sB (bareS h ++ bareS h)).size = 64; rw [sB_size, List.length_append, bareS_len]
theorem bareS_sum (h : Nat) : sumL (oneB ++ bareB (h + 1)).data.toList = bareS (h + 1) := by
  show sumL (oneB ++ sB (bareS h ++ bareS h)).data.toList = ndL (bareS h) (bareS h)
  rw [oneB_nd]
  rfl
theorem bare_root (x : List UInt8) (f : Nat → List UInt8) (h0 : f 0 = x) (hs : ∀ k, f (k + 1) = ndL (f k) (f k)) : ∀ k, rootD k (List.replicate (2 ^ k) x) = f k
  | 0 => by rw [h0]; rfl
  | k + 1 => by
    show ndL (rootD k ((List.replicate (2 ^ (k + 1)) x).take (2 ^ k))) (rootD k ((List.replicate (2 ^ (k + 1)) x).drop (2 ^ k))) = _
    rw [List.take_replicate, List.drop_replicate, show min (2 ^ k) (2 ^ (k + 1)) = 2 ^ k from by rw [Nat.pow_succ]; omega, show 2 ^ (k + 1) - 2 ^ k = 2 ^ k from by rw [Nat.pow_succ]; omega, bare_root x f h0 hs k, hs k]
theorem sums_nil : sumsL [] = List.replicate 64 bareL := by
  unfold sumsL
  apply List.ext_getElem?
  intro i
  by_cases hi : i < 64
  · rw [List.getElem?_map, List.getElem?_range hi, List.getElem?_replicate, if_pos hi]
    show some (sumsF [] i) = some bareL
    unfold sumsF
    rw [if_neg (by simp)]
  · rw [List.getElem?_eq_none (by simp; omega), List.getElem?_eq_none (by simp; omega)]
theorem root_nil : rootD 6 (sumsL []) = bareS 6 := by rw [sums_nil]; exact bare_root bareL bareS rfl (fun _ => rfl) 6
theorem info_u8N : (Tryd.prog.info? 5).map (fun i => (i.zero, i.size, i.bytes)) = some (some (.int .u8 0), 1, 1) := by kernel_rfl
theorem make64 (w : World) : (Instr.makeSlice 65 (.int .i64 64) (.int .i64 64)).run Tryd.prog w = .ok (.slice (some ⟨w.heap.size, 0, none⟩) 64 64) (w.alloc (.cells (madeCells #[.int .u8 0] 64) 5)) :=
  run_make_row' (P := Tryd.prog) 65 5 (.int .u8 0) 1 Tryd.underlying65 info_u8N rfl .i64 .i64 64 (by omega) (by omega) (w := w)
theorem conv64 (w : World) : (convert 65 9 (.slice (some ⟨w.heap.size, 0, none⟩) 64 64)).run Tryd.prog (w.alloc (.cells (madeCells #[.int .u8 0] 64) 5)) = .ok (.string z64B) (w.alloc (.cells (madeCells #[.int .u8 0] 64) 5)) :=
  conv_row (P := Tryd.prog) (cap := 64) (W := 64) (dst := 9) (f := fun _ => 0) Tryd.underlying65 Tryd.underlying5 Tryd.underlying9 (World.rowIs_made w (.int .u8 0) 64 5) (Nat.le_refl _)
theorem isNode_yes (n : Nat) (h : n < 63) (w : World) : Calls Tryd.prog 46 #[.int .i64 (n : Int)] w fun e w' => e = .returned (.bool true) ∧ w = w' := by
  have h1 : 0 ≤ (n : Int) := by omega
  have h2 : (n : Int) < 63 := by omega
  go_enter Tryd.func46, Tryd.ntmps46
  go_wp2_with fail
  go_ret
  exact ⟨by first | done | rfl, rfl⟩
theorem isNode_no (n : Int) (h : n < 0 ∨ 62 < n) (w : World) : Calls Tryd.prog 46 #[.int .i64 n] w fun e w' => e = .returned (.bool false) ∧ w = w' := by
  by_cases h1 : 0 ≤ n
  · have h2 : ¬ n < 63 := by omega
    go_enter Tryd.func46, Tryd.ntmps46
    go_wp2_with fail
    go_ret
    exact ⟨by first | done | rfl, rfl⟩
  · go_enter Tryd.func46, Tryd.ntmps46
    go_wp2_with fail
    go_ret
    exact ⟨by first | done | rfl, rfl⟩
attribute [local irreducible] digA sumL z32 sB bv rootD oneB bareS bareB z64B
set_option maxRecDepth 100000 in
set_option maxHeartbeats 4000000 in
theorem leaf_x (base : Nat) (o : Option Addr) (X : Option OrS) (s : ByteArray) (w : World) (hG : Gl w) (hbf : 0 < base) (hbk : 1 < base) (hX : OrX base w o X) (hF : FewX X 1000000) (hs : s.size = 64) :
    Calls Tryd.prog 44 #[.pointer o, .string s] w fun e w' => ∃ X', e = .returned (.tuple #[.agg (digA (sumL ((⟨#[0]⟩ : ByteArray) ++ s).data.toList)), .int .i64 0]) ∧ OrX base w' o X' ∧ SumX X X' ((⟨#[0]⟩ : ByteArray) ++ s).data.toList ∧ Below base w w' ∧ KeptX w w' X X' := by
  have hz := zero_dig
  have hbw := hX.base
  obtain ⟨w1, HW1, hr1, B1⟩ := made_zN w
  have HS := Lib.hid (fun p q wc h1 h2 h3 h4 => sumr_x base o X s (⟨#[0]⟩ : ByteArray) p q wc h1 hbf hbk h2 hF hs (by decide) h3 h4)
  have hdz : (digA (sumL ((⟨#[0]⟩ : ByteArray) ++ s).data.toList)).size = 32 := by with_unfolding_all (rw [digA_size, sumL_len])
  have hone : (digA (sumL ((⟨#[0]⟩ : ByteArray) ++ s).data.toList)).all (·.oneCell') = true := by with_unfolding_all exact digA_one _
  generalize ((⟨#[0]⟩ : ByteArray) ++ s).data.toList = ms at *
  generalize digA (sumL ms) = DG at *
  have hX1 := hX.below B1
  have hfr : FreeX X w.heap.size := hX.free _ (Nat.le_refl _)
  have HB1 := Lib.hid B1
  clear hX
  go_enter Tryd.func44, Tryd.ntmps44
  go_upto_region 1 with fail
  rw [HW1.out]
  clear HW1
  go_wp2_with fail
  refine (summer_any o _ w1).mono ?_
  rintro e w2 ⟨rfl, c1, c2, b2, _⟩
  have hr2 := blk_belowN b2 hr1
  have B2 := HB1.out.trans (b2.mono HB1.out.size)
  have HS2 := Lib.hid (HS.out _ _ w2 (hG.below B2) (hX1.below b2) c1 c2)
  have HK2 := Lib.hid (KeptX.below (X := X) B2)
  clear b2 hr1 HB1 c1 c2 hX1 HS
  go_wp2_with fail
  refine HS2.out.mono ?_
  rintro e w3 ⟨X', rfl, hX3, hS3, b3, K3⟩
  have hr3 := K3.keep _ _ hr2 hfr
  have hf3 := K3.free _ (blk_ltN hr2) hfr
  have HX3 := Lib.hid (hX3.row w.heap.size DG hf3)
  have HB3 : Hid (Below base w (w3.setRow w.heap.size DG)) := Lib.hid (below_setRow ((B2.mono hbw).trans b3) hbw _)
  have HK3 : Hid (KeptX w (w3.setRow w.heap.size DG) X X') := Lib.hid ((HK2.out.trans K3).row _ _ (Nat.le_refl _))
  have HS3 := Lib.hid hS3
  clear hX3 hS3 b3 K3 hr2 B2 HS2 HK2
  go_wp2_with (refine wpList_store_row rfl _ _ _ rfl w.heap.size DG rfl rfl 34 _ hr3 (by rw [hdz]; kernel_rfl) (by rw [hdz, z32_size']) hone ?_)
  refine bodyPost_ret_by (results_ct rfl _ _ w.heap.size 34 DG (0, 0) _ rfl (setRow_heap _ _ _ DG 34 (0, 0) hr3) Tryd.underlying34 rfl (by rw [hdz]; kernel_rfl)) rfl ⟨X', rfl, HX3.out, HS3.out, HB3.out, HK3.out⟩
/-- High of a node. -/
def hiN (n : Nat) : Int := 7 - (Lib.bitLen (n + 1) : Int)
set_option maxRecDepth 100000 in
set_option maxHeartbeats 2000000 in
theorem high_yes (n : Nat) (h : n < 63) (w : World) : Calls Tryd.prog 29 #[.int .i64 (n : Int)] w fun e w' => e = .returned (.tuple #[.int .i64 (hiN n), .int .i64 0]) ∧ w = w' := by
  have h1 : 0 ≤ (n : Int) := by omega
  have h2 : (n : Int) < 63 := by omega
  have HL := Lib.hid (fun w => Tryd.bits_Len ((n : Int) + 1) w (by omega) (by omega))
  have e1 : ((n : Int) + 1).toNat = n + 1 := by omega
  have hb : (Lib.bitLen (n + 1) : Int) ≤ 6 := by
    have : ∀ k, k < 63 → Lib.bitLen (k + 1) ≤ 6 := by
      have : ((List.range 63).all fun k => decide (Lib.bitLen (k + 1) ≤ 6)) = true := by decide +kernel
      intro k hk
      simpa using List.all_eq_true.1 this k (List.mem_range.2 hk)
    have := this n h
    omega
  have HH : Hid (7 - (Lib.bitLen (n + 1) : Int) = hiN n) := Lib.hid rfl
  rw [e1] at HL
  have hb0 : (0 : Int) ≤ (Lib.bitLen (n + 1) : Int) := by omega
  have HI := Lib.hid (fun w => isNode_yes n h w)
  generalize hiN n = hn at *
  generalize Lib.bitLen (n + 1) = bl at *
  go_enter Tryd.func29, Tryd.ntmps29
  go_wp2_with fail
  refine (HI.out w).mono ?_
  rintro e w' ⟨rfl, rfl⟩
  go_wp2_with fail
  refine (HL.out w).mono ?_
  rintro e w' ⟨rfl, rfl⟩
  go_wp2_with fail
  go_ret2
  exact ⟨by rw [HH.out]; first | done | rfl, rfl⟩
theorem high_no (n : Int) (h : n < 0 ∨ 62 < n) (w : World) : Calls Tryd.prog 29 #[.int .i64 n] w fun e w' => e = .returned (.tuple #[.int .i64 0, .int .i64 3]) ∧ w = w' := by
  have HI := Lib.hid (fun w => isNode_no n h w)
  go_enter Tryd.func29, Tryd.ntmps29
  go_wp2_with fail
  refine (HI.out w).mono ?_
  rintro e w' ⟨rfl, rfl⟩
  go_wp2_with fail
  go_ret2
  exact ⟨by first | done | rfl, rfl⟩
set_option maxRecDepth 100000 in
set_option maxHeartbeats 4000000 in
/-- Have two lists one root? Without an oracle. -/
theorem nsame_form1 (la lb : Option Addr) (n c m d : Nat) (w : World) (hn : n ≠ 64) : Calls Tryd.prog 31 #[.pointer none, .slice la n c, .slice lb m d] w fun e w' => e = .returned (.bool false) ∧ Below w.heap.size w w' := by
  have hz := zero_dig
  have HR := Lib.hid (fun w => root_form none la n c w hn)
  go_enter Tryd.func31, Tryd.ntmps31
  go_wp2_with fail
  refine (HR.out w).mono ?_
  rintro e w1 ⟨rfl, b1⟩
  have hz1 := z32_size'
  go_wp2_with (refine wpList_store_row rfl _ _ _ rfl w1.heap.size z32 rfl rfl 34 _ (heap_alloc_new _ _) (by rw [z32_size']; kernel_rfl) (by rw [z32_size']) (by with_unfolding_all exact z32_one) ?_)
  go_ret
  exact ⟨by first | done | rfl, below_setRow (b1.trans ((Below.refl w1.heap.size w1).alloc (Nat.le_refl _) _ |>.mono b1.size)) b1.size _⟩
set_option maxRecDepth 100000 in
set_option maxHeartbeats 8000000 in
theorem nsame_form2 (L : List (List UInt8)) (la lb : Option Addr) (c m d : Nat) (w : World) (hG : Gl w) (hL : L.length = 64) (h32 : ∀ x ∈ L, x.length = 32) (hT : DigAt w la L) (hm : m ≠ 64) : Calls Tryd.prog 31 #[.pointer none, .slice la 64 c, .slice lb m d] w fun e w' => e = .returned (.bool false) ∧ Below w.heap.size w w' := by
  have hz := zero_dig
  have HR := Lib.hid (fun w => root_form none lb m d w hm)
  have HX : Hid (Calls Tryd.prog 24 #[.pointer none, .slice la 64 c] w fun e w' => e = .returned (.tuple #[.agg (digA (rootD 6 L)), .int .i64 0]) ∧ Below w.heap.size w w') := Lib.hid ((root_x w.heap.size none none L la c w hG hG.sf hG.sk (by with_unfolding_all exact Nat.le_refl _) (FewX.none _) hL h32 hT).mono fun e w' ⟨X', q1, _, _, q2, _⟩ => ⟨q1, q2⟩)
  have z1 : (digA (rootD 6 L)).size = 32 := by with_unfolding_all (rw [digA_size, rootD_len L h32 6 hL])
  have o1 : (digA (rootD 6 L)).all (·.oneCell') = true := by with_unfolding_all exact digA_one _
  clear hL h32 hT
  generalize digA (rootD 6 L) = D1 at *
  go_enter Tryd.func31, Tryd.ntmps31
  go_wp2_with fail
  refine HX.out.mono ?_
  rintro e w1 ⟨rfl, b1⟩
  obtain ⟨w2, HW2, hd2, b2⟩ := stored_dg w1 D1
  go_upto_region 2 with (refine wpList_store_row rfl _ _ _ rfl w1.heap.size D1 rfl rfl 34 _ (heap_alloc_new _ _) (by rw [z1]; kernel_rfl) (by rw [z1, z32_size']) o1 ?_)
  rw [HW2.out]
  clear HW2
  have B2 := b1.trans (b2.mono b1.size)
  generalize w1.heap.size = q1 at *
  go_wp2_with fail
  refine (HR.out w2).mono ?_
  rintro e w3 ⟨rfl, b3⟩
  have B3 := B2.trans (b3.mono B2.size)
  go_wp2_with (refine wpList_store_row rfl _ _ _ rfl w3.heap.size z32 rfl rfl 34 _ (heap_alloc_new _ _) (by rw [z32_size']; kernel_rfl) (by rw [z32_size']) (by with_unfolding_all exact z32_one) ?_)
  go_ret
  exact ⟨by first | done | rfl, below_setRow (B3.trans ((Below.refl w3.heap.size w3).alloc (Nat.le_refl _) _ |>.mono B3.size)) B3.size _⟩
end Go.Proofs.YtaneecmfgfkaaaaDoor
