/- Contracts (cellaret): chain.Start, Check (made by genchd.py). -/
import Derived.Test.YtaneecmfgfkaaaaDoorChC
namespace Go.Proofs.YtaneecmfgfkaaaaDoor
open Go.RowKit Go.Deep Go.Maps
set_option linter.unusedVariables false
set_option linter.unusedSimpArgs false
def stB : ByteArray := ⟨#[115, 116, 97, 114, 116]⟩
theorem stB_size : stB.size = 5 := rfl
def kyB : ByteArray := ⟨#[107, 101, 121]⟩
theorem kyB_size : kyB.size = 3 := rfl
/-- The texts that starts and checks are the sums of. -/
def startT (d a : UInt8) (s : ByteArray) : List UInt8 := [115, 116, 97, 114, 116] ++ [d, a] ++ s.data.toList
def keyT (k : ByteArray) : List UInt8 := [107, 101, 121] ++ k.data.toList
theorem startT_eq (d a : UInt8) (s : ByteArray) : stB ++ sB [d, a] ++ s = sB (startT d a s) := by
  conv => lhs; rw [sB_of s]
  show sB [115, 116, 97, 114, 116] ++ sB [d, a] ++ sB s.data.toList = _
  rw [sB_app, sB_app]
  rfl
theorem keyT_eq (k : ByteArray) : kyB ++ k = sB (keyT k) := by
  conv => lhs; rw [sB_of k]
  show sB [107, 101, 121] ++ sB k.data.toList = _
  rw [sB_app]
  rfl
theorem z32_sizeC : z32.size = 32 := rfl
theorem made_z (w : World) : ∃ w1, Hid (w.alloc (.cells z32 34) = w1) ∧ w1.heap[w.heap.size]? = some (.cells z32 34 (0, 0)) ∧ Below w.heap.size w w1 := ⟨_, Lib.hid rfl, heap_alloc_new _ _, (Below.refl _ _).alloc (Nat.le_refl _) _⟩
attribute [local irreducible] digA sumL z32 sB stB kyB startT keyT
set_option maxRecDepth 100000 in
set_option maxHeartbeats 1000000 in
theorem start_arg1 (o : Option Addr) (s : ByteArray) (d a : Int) (w : World) (h0 : d ≠ 0) (h1 : d ≠ 1) : Calls Tryd.prog 37 #[.pointer o, .string s, .int .i64 d, .int .i64 a] w fun e w' => e = .returned (.tuple #[.agg z32, .int .i64 2]) ∧ Below w.heap.size w w' := by
  have hz := zero_dig
  have hb := build_z32
  have e0 : (d != 0) = true := by simpa using h0
  have e1 : (d != 1) = true := by simpa using h1
  obtain ⟨w1, HW1, hr1, B1⟩ := made_z w
  go_enter Tryd.func37, Tryd.ntmps37
  go_upto_region 1 with fail
  rw [HW1.out]
  clear HW1
  go_wp2_with (refine wpList_store_row rfl _ _ _ rfl w.heap.size z32 rfl rfl 34 _ hr1 (by rw [z32_sizeC]; kernel_rfl) rfl (by with_unfolding_all exact z32_one) ?_)
  refine bodyPost_ret_by (results_ct rfl _ _ w.heap.size 34 z32 (0, 0) _ rfl (setRow_heap _ _ _ z32 34 (0, 0) hr1) Tryd.underlying34 rfl (by rw [z32_sizeC]; kernel_rfl)) rfl ⟨rfl, ?_⟩
  exact below_setRow B1 (Nat.le_refl _) _
set_option maxRecDepth 100000 in
set_option maxHeartbeats 1000000 in
theorem start_arg2 (o : Option Addr) (s : ByteArray) (a : Int) (w : World) (h0 : a ≠ 0) (h1 : a ≠ 1) : Calls Tryd.prog 37 #[.pointer o, .string s, .int .i64 0, .int .i64 a] w fun e w' => e = .returned (.tuple #[.agg z32, .int .i64 2]) ∧ Below w.heap.size w w' := by
  have hz := zero_dig
  have hb := build_z32
  have e0 : (a != 0) = true := by simpa using h0
  have e1 : (a != 1) = true := by simpa using h1
  obtain ⟨w1, HW1, hr1, B1⟩ := made_z w
  go_enter Tryd.func37, Tryd.ntmps37
  go_upto_region 1 with fail
  rw [HW1.out]
  clear HW1
  go_wp2_with (refine wpList_store_row rfl _ _ _ rfl w.heap.size z32 rfl rfl 34 _ hr1 (by rw [z32_sizeC]; kernel_rfl) rfl (by with_unfolding_all exact z32_one) ?_)
  refine bodyPost_ret_by (results_ct rfl _ _ w.heap.size 34 z32 (0, 0) _ rfl (setRow_heap _ _ _ z32 34 (0, 0) hr1) Tryd.underlying34 rfl (by rw [z32_sizeC]; kernel_rfl)) rfl ⟨rfl, ?_⟩
  exact below_setRow B1 (Nat.le_refl _) _
set_option maxRecDepth 100000 in
set_option maxHeartbeats 1000000 in
theorem start_arg3 (o : Option Addr) (s : ByteArray) (a : Int) (w : World) (h0 : a ≠ 0) (h1 : a ≠ 1) : Calls Tryd.prog 37 #[.pointer o, .string s, .int .i64 1, .int .i64 a] w fun e w' => e = .returned (.tuple #[.agg z32, .int .i64 2]) ∧ Below w.heap.size w w' := by
  have hz := zero_dig
  have hb := build_z32
  have e0 : (a != 0) = true := by simpa using h0
  have e1 : (a != 1) = true := by simpa using h1
  obtain ⟨w1, HW1, hr1, B1⟩ := made_z w
  go_enter Tryd.func37, Tryd.ntmps37
  go_upto_region 1 with fail
  rw [HW1.out]
  clear HW1
  go_wp2_with (refine wpList_store_row rfl _ _ _ rfl w.heap.size z32 rfl rfl 34 _ hr1 (by rw [z32_sizeC]; kernel_rfl) rfl (by with_unfolding_all exact z32_one) ?_)
  refine bodyPost_ret_by (results_ct rfl _ _ w.heap.size 34 z32 (0, 0) _ rfl (setRow_heap _ _ _ z32 34 (0, 0) hr1) Tryd.underlying34 rfl (by rw [z32_sizeC]; kernel_rfl)) rfl ⟨rfl, ?_⟩
  exact below_setRow B1 (Nat.le_refl _) _
set_option maxRecDepth 100000 in
set_option maxHeartbeats 1000000 in
theorem start_form00 (o : Option Addr) (s : ByteArray) (w : World) (hs : s.size ≠ 64) : Calls Tryd.prog 37 #[.pointer o, .string s, .int .i64 0, .int .i64 0] w fun e w' => e = .returned (.tuple #[.agg z32, .int .i64 6]) ∧ Below w.heap.size w w' := by
  have hz := zero_dig
  have hb := build_z32
  have ht : ((s.size : Int) != 64) = true := by simp; omega
  obtain ⟨w1, HW1, hr1, B1⟩ := made_z w
  go_enter Tryd.func37, Tryd.ntmps37
  go_upto_region 1 with fail
  rw [HW1.out]
  clear HW1
  go_wp2_with (refine wpList_store_row rfl _ _ _ rfl w.heap.size z32 rfl rfl 34 _ hr1 (by rw [z32_sizeC]; kernel_rfl) rfl (by with_unfolding_all exact z32_one) ?_)
  refine bodyPost_ret_by (results_ct rfl _ _ w.heap.size 34 z32 (0, 0) _ rfl (setRow_heap _ _ _ z32 34 (0, 0) hr1) Tryd.underlying34 rfl (by rw [z32_sizeC]; kernel_rfl)) rfl ⟨rfl, ?_⟩
  exact below_setRow B1 (Nat.le_refl _) _
set_option maxRecDepth 100000 in
set_option maxHeartbeats 1000000 in
theorem start_form01 (o : Option Addr) (s : ByteArray) (w : World) (hs : s.size ≠ 64) : Calls Tryd.prog 37 #[.pointer o, .string s, .int .i64 0, .int .i64 1] w fun e w' => e = .returned (.tuple #[.agg z32, .int .i64 6]) ∧ Below w.heap.size w w' := by
  have hz := zero_dig
  have hb := build_z32
  have ht : ((s.size : Int) != 64) = true := by simp; omega
  obtain ⟨w1, HW1, hr1, B1⟩ := made_z w
  go_enter Tryd.func37, Tryd.ntmps37
  go_upto_region 1 with fail
  rw [HW1.out]
  clear HW1
  go_wp2_with (refine wpList_store_row rfl _ _ _ rfl w.heap.size z32 rfl rfl 34 _ hr1 (by rw [z32_sizeC]; kernel_rfl) rfl (by with_unfolding_all exact z32_one) ?_)
  refine bodyPost_ret_by (results_ct rfl _ _ w.heap.size 34 z32 (0, 0) _ rfl (setRow_heap _ _ _ z32 34 (0, 0) hr1) Tryd.underlying34 rfl (by rw [z32_sizeC]; kernel_rfl)) rfl ⟨rfl, ?_⟩
  exact below_setRow B1 (Nat.le_refl _) _
set_option maxRecDepth 100000 in
set_option maxHeartbeats 1000000 in
theorem start_form10 (o : Option Addr) (s : ByteArray) (w : World) (hs : s.size ≠ 64) : Calls Tryd.prog 37 #[.pointer o, .string s, .int .i64 1, .int .i64 0] w fun e w' => e = .returned (.tuple #[.agg z32, .int .i64 6]) ∧ Below w.heap.size w w' := by
  have hz := zero_dig
  have hb := build_z32
  have ht : ((s.size : Int) != 64) = true := by simp; omega
  obtain ⟨w1, HW1, hr1, B1⟩ := made_z w
  go_enter Tryd.func37, Tryd.ntmps37
  go_upto_region 1 with fail
  rw [HW1.out]
  clear HW1
  go_wp2_with (refine wpList_store_row rfl _ _ _ rfl w.heap.size z32 rfl rfl 34 _ hr1 (by rw [z32_sizeC]; kernel_rfl) rfl (by with_unfolding_all exact z32_one) ?_)
  refine bodyPost_ret_by (results_ct rfl _ _ w.heap.size 34 z32 (0, 0) _ rfl (setRow_heap _ _ _ z32 34 (0, 0) hr1) Tryd.underlying34 rfl (by rw [z32_sizeC]; kernel_rfl)) rfl ⟨rfl, ?_⟩
  exact below_setRow B1 (Nat.le_refl _) _
set_option maxRecDepth 100000 in
set_option maxHeartbeats 1000000 in
theorem start_form11 (o : Option Addr) (s : ByteArray) (w : World) (hs : s.size ≠ 64) : Calls Tryd.prog 37 #[.pointer o, .string s, .int .i64 1, .int .i64 1] w fun e w' => e = .returned (.tuple #[.agg z32, .int .i64 6]) ∧ Below w.heap.size w w' := by
  have hz := zero_dig
  have hb := build_z32
  have ht : ((s.size : Int) != 64) = true := by simp; omega
  obtain ⟨w1, HW1, hr1, B1⟩ := made_z w
  go_enter Tryd.func37, Tryd.ntmps37
  go_upto_region 1 with fail
  rw [HW1.out]
  clear HW1
  go_wp2_with (refine wpList_store_row rfl _ _ _ rfl w.heap.size z32 rfl rfl 34 _ hr1 (by rw [z32_sizeC]; kernel_rfl) rfl (by with_unfolding_all exact z32_one) ?_)
  refine bodyPost_ret_by (results_ct rfl _ _ w.heap.size 34 z32 (0, 0) _ rfl (setRow_heap _ _ _ z32 34 (0, 0) hr1) Tryd.underlying34 rfl (by rw [z32_sizeC]; kernel_rfl)) rfl ⟨rfl, ?_⟩
  exact below_setRow B1 (Nat.le_refl _) _
theorem conv_two00 (V : World) : (convert 65 9 (.slice (some ⟨V.heap.size, 0, none⟩) 2 2)).run Tryd.prog (V.alloc (.cells #[.int .u8 0, .int .u8 0] 5)) = .ok (.string (sB [0, 0])) (V.alloc (.cells #[.int .u8 0, .int .u8 0] 5)) := by
  have h := heap_alloc_new V (.cells #[.int .u8 0, .int .u8 0] 5)
  with_unfolding_all exact run_convert_bytes_back (P := Tryd.prog) (V.alloc (.cells #[.int .u8 0, .int .u8 0] 5)) 65 9 5 ⟨V.heap.size, 0, none⟩ 2 [0, 0] Tryd.underlying65 Tryd.underlying5 Tryd.underlying9 (fun j hj => by
    rw [Addr.add_mid, Nat.zero_add, cell_of_row _ _ j _ _ _ h]
    rcases (show j = 0 ∨ j = 1 by have : j < 2 := hj; omega) with rfl | rfl <;> rfl)
set_option maxRecDepth 100000 in
set_option maxHeartbeats 1000000 in
theorem start_x00 (base : Nat) (o : Option Addr) (X : Option OrS) (s : ByteArray) (w : World) (hG : Gl w) (hbf : 0 < base) (hbk : 1 < base) (hX : OrX base w o X) (hF : FewX X 1000000) (hs : s.size = 64) :
    Calls Tryd.prog 37 #[.pointer o, .string s, .int .i64 0, .int .i64 0] w fun e w' => ∃ X', e = .returned (.tuple #[.agg (digA (sumL (startT 0 0 s))), .int .i64 0]) ∧ OrX base w' o X' ∧ SumX X X' (startT 0 0 s) ∧ Below base w w' ∧ KeptX w w' X X' := by
  have hz := zero_dig
  have hb0 := hX.base
  have ht : ((s.size : Int) != 64) = false := by simp; omega
  have has : (sB [0, 0]).size = 2 := by with_unfolding_all rfl
  have hadd1 : ∀ V : World, (Op.stringOp .add (⟨#[115, 116, 97, 114, 116]⟩ : ByteArray) (sB [0, 0])).run Tryd.prog V = .ok (.string (stB ++ sB [0, 0])) V := fun V => by with_unfolding_all exact run_string_add_sum V stB (sB [0, 0]) (by rw [stB_size, has]; omega)
  have hadd2 : ∀ V : World, (Op.stringOp .add (stB ++ sB [0, 0]) s).run Tryd.prog V = .ok (.string (sB (startT 0 0 s))) V := fun V => by rw [← startT_eq]; exact run_string_add_sum V _ _ (by rw [ByteArray.size_append, stB_size, has, hs]; omega)
  have hts : (sB (startT 0 0 s)).size ≤ 10000 := by rw [← startT_eq, ByteArray.size_append, ByteArray.size_append, stB_size, has, hs]; omega
  have hcv := conv_two00
  obtain ⟨w1, HW1, hr1, B1⟩ := made_z w
  have HS := Lib.hid (fun w hw hx => sum_x base o X (sB (startT 0 0 s)) w hw hbf hbk hx hF (by omega))
  rw [show (sB (startT 0 0 s)).data.toList = startT 0 0 s from by with_unfolding_all exact sB_list _] at HS
  obtain ⟨hdz, hone⟩ := dig_ok' (startT 0 0 s)
  have HX1 := Lib.hid (hX.below B1)
  have hRb : FreeX X w.heap.size := hX.free w.heap.size (Nat.le_refl _)
  have G1 := hG.below B1
  have HK1 : Hid (KeptX w w1 X X) := Lib.hid (KeptX.below B1)
  have hs1 := (Array.getElem?_eq_some_iff.1 hr1).1
  clear hF hX has hts
  generalize digA (sumL (startT 0 0 s)) = DN at *
  generalize sB (startT 0 0 s) = tB at *
  generalize startT 0 0 s = tl at *
  generalize sB [0, 0] = aB at *
  generalize stB = nB at *
  go_enter Tryd.func37, Tryd.ntmps37
  go_upto_region 1 with fail
  rw [HW1.out]
  clear HW1
  go_wp2_with fail
  have b2 := (Below.refl w1.heap.size w1).alloc (Nat.le_refl _) (.cells #[.int .u8 0, .int .u8 0] 5)
  refine (HS.out _ (G1.below b2) (HX1.out.below b2)).mono ?_
  rintro e w3 ⟨X', rfl, X3, S3, b3, K3⟩
  have K13 := (HK1.out.trans (KeptX.below (X := X) b2)).trans K3
  have hr3 := K3.keep _ _ ((b2.block _ hs1).trans hr1) hRb
  have hf3 := K3.free w.heap.size (Nat.lt_of_lt_of_le hs1 b2.size) hRb
  have B3 := ((B1.mono hb0).trans (b2.mono (Nat.le_trans hb0 B1.size))).trans b3
  have HX3 := Lib.hid X3
  have HS3 := Lib.hid S3
  have HK3 := Lib.hid K13
  clear X3 S3 K13 K3 b3 b2 hadd1 hadd2 hcv
  go_wp2_with (refine wpList_store_row rfl _ _ _ rfl w.heap.size DN rfl rfl 34 _ hr3 (by rw [hdz]; kernel_rfl) (by rw [hdz, z32_sizeC]) hone ?_)
  refine bodyPost_ret_by (results_ct rfl _ _ w.heap.size 34 DN (0, 0) _ rfl (setRow_heap _ _ _ DN 34 (0, 0) hr3) Tryd.underlying34 rfl (by rw [hdz]; kernel_rfl)) rfl ⟨X', rfl, ?_, HS3.out, ?_, ?_⟩
  · exact HX3.out.row w.heap.size DN hf3
  · exact below_setRow B3 hb0 _
  · exact HK3.out.row w.heap.size DN (Nat.le_refl _)
theorem conv_two01 (V : World) : (convert 65 9 (.slice (some ⟨V.heap.size, 0, none⟩) 2 2)).run Tryd.prog (V.alloc (.cells #[.int .u8 0, .int .u8 1] 5)) = .ok (.string (sB [0, 1])) (V.alloc (.cells #[.int .u8 0, .int .u8 1] 5)) := by
  have h := heap_alloc_new V (.cells #[.int .u8 0, .int .u8 1] 5)
  with_unfolding_all exact run_convert_bytes_back (P := Tryd.prog) (V.alloc (.cells #[.int .u8 0, .int .u8 1] 5)) 65 9 5 ⟨V.heap.size, 0, none⟩ 2 [0, 1] Tryd.underlying65 Tryd.underlying5 Tryd.underlying9 (fun j hj => by
    rw [Addr.add_mid, Nat.zero_add, cell_of_row _ _ j _ _ _ h]
    rcases (show j = 0 ∨ j = 1 by have : j < 2 := hj; omega) with rfl | rfl <;> rfl)
set_option maxRecDepth 100000 in
set_option maxHeartbeats 1000000 in
theorem start_x01 (base : Nat) (o : Option Addr) (X : Option OrS) (s : ByteArray) (w : World) (hG : Gl w) (hbf : 0 < base) (hbk : 1 < base) (hX : OrX base w o X) (hF : FewX X 1000000) (hs : s.size = 64) :
    Calls Tryd.prog 37 #[.pointer o, .string s, .int .i64 0, .int .i64 1] w fun e w' => ∃ X', e = .returned (.tuple #[.agg (digA (sumL (startT 0 1 s))), .int .i64 0]) ∧ OrX base w' o X' ∧ SumX X X' (startT 0 1 s) ∧ Below base w w' ∧ KeptX w w' X X' := by
  have hz := zero_dig
  have hb0 := hX.base
  have ht : ((s.size : Int) != 64) = false := by simp; omega
  have has : (sB [0, 1]).size = 2 := by with_unfolding_all rfl
  have hadd1 : ∀ V : World, (Op.stringOp .add (⟨#[115, 116, 97, 114, 116]⟩ : ByteArray) (sB [0, 1])).run Tryd.prog V = .ok (.string (stB ++ sB [0, 1])) V := fun V => by with_unfolding_all exact run_string_add_sum V stB (sB [0, 1]) (by rw [stB_size, has]; omega)
  have hadd2 : ∀ V : World, (Op.stringOp .add (stB ++ sB [0, 1]) s).run Tryd.prog V = .ok (.string (sB (startT 0 1 s))) V := fun V => by rw [← startT_eq]; exact run_string_add_sum V _ _ (by rw [ByteArray.size_append, stB_size, has, hs]; omega)
  have hts : (sB (startT 0 1 s)).size ≤ 10000 := by rw [← startT_eq, ByteArray.size_append, ByteArray.size_append, stB_size, has, hs]; omega
  have hcv := conv_two01
  obtain ⟨w1, HW1, hr1, B1⟩ := made_z w
  have HS := Lib.hid (fun w hw hx => sum_x base o X (sB (startT 0 1 s)) w hw hbf hbk hx hF (by omega))
  rw [show (sB (startT 0 1 s)).data.toList = startT 0 1 s from by with_unfolding_all exact sB_list _] at HS
  obtain ⟨hdz, hone⟩ := dig_ok' (startT 0 1 s)
  have HX1 := Lib.hid (hX.below B1)
  have hRb : FreeX X w.heap.size := hX.free w.heap.size (Nat.le_refl _)
  have G1 := hG.below B1
  have HK1 : Hid (KeptX w w1 X X) := Lib.hid (KeptX.below B1)
  have hs1 := (Array.getElem?_eq_some_iff.1 hr1).1
  clear hF hX has hts
  generalize digA (sumL (startT 0 1 s)) = DN at *
  generalize sB (startT 0 1 s) = tB at *
  generalize startT 0 1 s = tl at *
  generalize sB [0, 1] = aB at *
  generalize stB = nB at *
  go_enter Tryd.func37, Tryd.ntmps37
  go_upto_region 1 with fail
  rw [HW1.out]
  clear HW1
  go_wp2_with fail
  have b2 := (Below.refl w1.heap.size w1).alloc (Nat.le_refl _) (.cells #[.int .u8 0, .int .u8 1] 5)
  refine (HS.out _ (G1.below b2) (HX1.out.below b2)).mono ?_
  rintro e w3 ⟨X', rfl, X3, S3, b3, K3⟩
  have K13 := (HK1.out.trans (KeptX.below (X := X) b2)).trans K3
  have hr3 := K3.keep _ _ ((b2.block _ hs1).trans hr1) hRb
  have hf3 := K3.free w.heap.size (Nat.lt_of_lt_of_le hs1 b2.size) hRb
  have B3 := ((B1.mono hb0).trans (b2.mono (Nat.le_trans hb0 B1.size))).trans b3
  have HX3 := Lib.hid X3
  have HS3 := Lib.hid S3
  have HK3 := Lib.hid K13
  clear X3 S3 K13 K3 b3 b2 hadd1 hadd2 hcv
  go_wp2_with (refine wpList_store_row rfl _ _ _ rfl w.heap.size DN rfl rfl 34 _ hr3 (by rw [hdz]; kernel_rfl) (by rw [hdz, z32_sizeC]) hone ?_)
  refine bodyPost_ret_by (results_ct rfl _ _ w.heap.size 34 DN (0, 0) _ rfl (setRow_heap _ _ _ DN 34 (0, 0) hr3) Tryd.underlying34 rfl (by rw [hdz]; kernel_rfl)) rfl ⟨X', rfl, ?_, HS3.out, ?_, ?_⟩
  · exact HX3.out.row w.heap.size DN hf3
  · exact below_setRow B3 hb0 _
  · exact HK3.out.row w.heap.size DN (Nat.le_refl _)
theorem conv_two10 (V : World) : (convert 65 9 (.slice (some ⟨V.heap.size, 0, none⟩) 2 2)).run Tryd.prog (V.alloc (.cells #[.int .u8 1, .int .u8 0] 5)) = .ok (.string (sB [1, 0])) (V.alloc (.cells #[.int .u8 1, .int .u8 0] 5)) := by
  have h := heap_alloc_new V (.cells #[.int .u8 1, .int .u8 0] 5)
  with_unfolding_all exact run_convert_bytes_back (P := Tryd.prog) (V.alloc (.cells #[.int .u8 1, .int .u8 0] 5)) 65 9 5 ⟨V.heap.size, 0, none⟩ 2 [1, 0] Tryd.underlying65 Tryd.underlying5 Tryd.underlying9 (fun j hj => by
    rw [Addr.add_mid, Nat.zero_add, cell_of_row _ _ j _ _ _ h]
    rcases (show j = 0 ∨ j = 1 by have : j < 2 := hj; omega) with rfl | rfl <;> rfl)
set_option maxRecDepth 100000 in
set_option maxHeartbeats 1000000 in
theorem start_x10 (base : Nat) (o : Option Addr) (X : Option OrS) (s : ByteArray) (w : World) (hG : Gl w) (hbf : 0 < base) (hbk : 1 < base) (hX : OrX base w o X) (hF : FewX X 1000000) (hs : s.size = 64) :
    Calls Tryd.prog 37 #[.pointer o, .string s, .int .i64 1, .int .i64 0] w fun e w' => ∃ X', e = .returned (.tuple #[.agg (digA (sumL (startT 1 0 s))), .int .i64 0]) ∧ OrX base w' o X' ∧ SumX X X' (startT 1 0 s) ∧ Below base w w' ∧ KeptX w w' X X' := by
  have hz := zero_dig
  have hb0 := hX.base
  have ht : ((s.size : Int) != 64) = false := by simp; omega
  have has : (sB [1, 0]).size = 2 := by with_unfolding_all rfl
  have hadd1 : ∀ V : World, (Op.stringOp .add (⟨#[115, 116, 97, 114, 116]⟩ : ByteArray) (sB [1, 0])).run Tryd.prog V = .ok (.string (stB ++ sB [1, 0])) V := fun V => by with_unfolding_all exact run_string_add_sum V stB (sB [1, 0]) (by rw [stB_size, has]; omega)
  have hadd2 : ∀ V : World, (Op.stringOp .add (stB ++ sB [1, 0]) s).run Tryd.prog V = .ok (.string (sB (startT 1 0 s))) V := fun V => by rw [← startT_eq]; exact run_string_add_sum V _ _ (by rw [ByteArray.size_append, stB_size, has, hs]; omega)
  have hts : (sB (startT 1 0 s)).size ≤ 10000 := by rw [← startT_eq, ByteArray.size_append, ByteArray.size_append, stB_size, has, hs]; omega
  have hcv := conv_two10
  obtain ⟨w1, HW1, hr1, B1⟩ := made_z w
  have HS := Lib.hid (fun w hw hx => sum_x base o X (sB (startT 1 0 s)) w hw hbf hbk hx hF (by omega))
  rw [show (sB (startT 1 0 s)).data.toList = startT 1 0 s from by with_unfolding_all exact sB_list _] at HS
  obtain ⟨hdz, hone⟩ := dig_ok' (startT 1 0 s)
  have HX1 := Lib.hid (hX.below B1)
  have hRb : FreeX X w.heap.size := hX.free w.heap.size (Nat.le_refl _)
  have G1 := hG.below B1
  have HK1 : Hid (KeptX w w1 X X) := Lib.hid (KeptX.below B1)
  have hs1 := (Array.getElem?_eq_some_iff.1 hr1).1
  clear hF hX has hts
  generalize digA (sumL (startT 1 0 s)) = DN at *
  generalize sB (startT 1 0 s) = tB at *
  generalize startT 1 0 s = tl at *
  generalize sB [1, 0] = aB at *
  generalize stB = nB at *
  go_enter Tryd.func37, Tryd.ntmps37
  go_upto_region 1 with fail
  rw [HW1.out]
  clear HW1
  go_wp2_with fail
  have b2 := (Below.refl w1.heap.size w1).alloc (Nat.le_refl _) (.cells #[.int .u8 1, .int .u8 0] 5)
  refine (HS.out _ (G1.below b2) (HX1.out.below b2)).mono ?_
  rintro e w3 ⟨X', rfl, X3, S3, b3, K3⟩
  have K13 := (HK1.out.trans (KeptX.below (X := X) b2)).trans K3
  have hr3 := K3.keep _ _ ((b2.block _ hs1).trans hr1) hRb
  have hf3 := K3.free w.heap.size (Nat.lt_of_lt_of_le hs1 b2.size) hRb
  have B3 := ((B1.mono hb0).trans (b2.mono (Nat.le_trans hb0 B1.size))).trans b3
  have HX3 := Lib.hid X3
  have HS3 := Lib.hid S3
  have HK3 := Lib.hid K13
  clear X3 S3 K13 K3 b3 b2 hadd1 hadd2 hcv
  go_wp2_with (refine wpList_store_row rfl _ _ _ rfl w.heap.size DN rfl rfl 34 _ hr3 (by rw [hdz]; kernel_rfl) (by rw [hdz, z32_sizeC]) hone ?_)
  refine bodyPost_ret_by (results_ct rfl _ _ w.heap.size 34 DN (0, 0) _ rfl (setRow_heap _ _ _ DN 34 (0, 0) hr3) Tryd.underlying34 rfl (by rw [hdz]; kernel_rfl)) rfl ⟨X', rfl, ?_, HS3.out, ?_, ?_⟩
  · exact HX3.out.row w.heap.size DN hf3
  · exact below_setRow B3 hb0 _
  · exact HK3.out.row w.heap.size DN (Nat.le_refl _)
theorem conv_two11 (V : World) : (convert 65 9 (.slice (some ⟨V.heap.size, 0, none⟩) 2 2)).run Tryd.prog (V.alloc (.cells #[.int .u8 1, .int .u8 1] 5)) = .ok (.string (sB [1, 1])) (V.alloc (.cells #[.int .u8 1, .int .u8 1] 5)) := by
  have h := heap_alloc_new V (.cells #[.int .u8 1, .int .u8 1] 5)
  with_unfolding_all exact run_convert_bytes_back (P := Tryd.prog) (V.alloc (.cells #[.int .u8 1, .int .u8 1] 5)) 65 9 5 ⟨V.heap.size, 0, none⟩ 2 [1, 1] Tryd.underlying65 Tryd.underlying5 Tryd.underlying9 (fun j hj => by
    rw [Addr.add_mid, Nat.zero_add, cell_of_row _ _ j _ _ _ h]
    rcases (show j = 0 ∨ j = 1 by have : j < 2 := hj; omega) with rfl | rfl <;> rfl)
set_option maxRecDepth 100000 in
set_option maxHeartbeats 1000000 in
theorem start_x11 (base : Nat) (o : Option Addr) (X : Option OrS) (s : ByteArray) (w : World) (hG : Gl w) (hbf : 0 < base) (hbk : 1 < base) (hX : OrX base w o X) (hF : FewX X 1000000) (hs : s.size = 64) :
    Calls Tryd.prog 37 #[.pointer o, .string s, .int .i64 1, .int .i64 1] w fun e w' => ∃ X', e = .returned (.tuple #[.agg (digA (sumL (startT 1 1 s))), .int .i64 0]) ∧ OrX base w' o X' ∧ SumX X X' (startT 1 1 s) ∧ Below base w w' ∧ KeptX w w' X X' := by
  have hz := zero_dig
  have hb0 := hX.base
  have ht : ((s.size : Int) != 64) = false := by simp; omega
  have has : (sB [1, 1]).size = 2 := by with_unfolding_all rfl
  have hadd1 : ∀ V : World, (Op.stringOp .add (⟨#[115, 116, 97, 114, 116]⟩ : ByteArray) (sB [1, 1])).run Tryd.prog V = .ok (.string (stB ++ sB [1, 1])) V := fun V => by with_unfolding_all exact run_string_add_sum V stB (sB [1, 1]) (by rw [stB_size, has]; omega)
  have hadd2 : ∀ V : World, (Op.stringOp .add (stB ++ sB [1, 1]) s).run Tryd.prog V = .ok (.string (sB (startT 1 1 s))) V := fun V => by rw [← startT_eq]; exact run_string_add_sum V _ _ (by rw [ByteArray.size_append, stB_size, has, hs]; omega)
  have hts : (sB (startT 1 1 s)).size ≤ 10000 := by rw [← startT_eq, ByteArray.size_append, ByteArray.size_append, stB_size, has, hs]; omega
  have hcv := conv_two11
  obtain ⟨w1, HW1, hr1, B1⟩ := made_z w
  have HS := Lib.hid (fun w hw hx => sum_x base o X (sB (startT 1 1 s)) w hw hbf hbk hx hF (by omega))
  rw [show (sB (startT 1 1 s)).data.toList = startT 1 1 s from by with_unfolding_all exact sB_list _] at HS
  obtain ⟨hdz, hone⟩ := dig_ok' (startT 1 1 s)
  have HX1 := Lib.hid (hX.below B1)
  have hRb : FreeX X w.heap.size := hX.free w.heap.size (Nat.le_refl _)
  have G1 := hG.below B1
  have HK1 : Hid (KeptX w w1 X X) := Lib.hid (KeptX.below B1)
  have hs1 := (Array.getElem?_eq_some_iff.1 hr1).1
  clear hF hX has hts
  generalize digA (sumL (startT 1 1 s)) = DN at *
  generalize sB (startT 1 1 s) = tB at *
  generalize startT 1 1 s = tl at *
  generalize sB [1, 1] = aB at *
  generalize stB = nB at *
  go_enter Tryd.func37, Tryd.ntmps37
  go_upto_region 1 with fail
  rw [HW1.out]
  clear HW1
  go_wp2_with fail
  have b2 := (Below.refl w1.heap.size w1).alloc (Nat.le_refl _) (.cells #[.int .u8 1, .int .u8 1] 5)
  refine (HS.out _ (G1.below b2) (HX1.out.below b2)).mono ?_
  rintro e w3 ⟨X', rfl, X3, S3, b3, K3⟩
  have K13 := (HK1.out.trans (KeptX.below (X := X) b2)).trans K3
  have hr3 := K3.keep _ _ ((b2.block _ hs1).trans hr1) hRb
  have hf3 := K3.free w.heap.size (Nat.lt_of_lt_of_le hs1 b2.size) hRb
  have B3 := ((B1.mono hb0).trans (b2.mono (Nat.le_trans hb0 B1.size))).trans b3
  have HX3 := Lib.hid X3
  have HS3 := Lib.hid S3
  have HK3 := Lib.hid K13
  clear X3 S3 K13 K3 b3 b2 hadd1 hadd2 hcv
  go_wp2_with (refine wpList_store_row rfl _ _ _ rfl w.heap.size DN rfl rfl 34 _ hr3 (by rw [hdz]; kernel_rfl) (by rw [hdz, z32_sizeC]) hone ?_)
  refine bodyPost_ret_by (results_ct rfl _ _ w.heap.size 34 DN (0, 0) _ rfl (setRow_heap _ _ _ DN 34 (0, 0) hr3) Tryd.underlying34 rfl (by rw [hdz]; kernel_rfl)) rfl ⟨X', rfl, ?_, HS3.out, ?_, ?_⟩
  · exact HX3.out.row w.heap.size DN hf3
  · exact below_setRow B3 hb0 _
  · exact HK3.out.row w.heap.size DN (Nat.le_refl _)
end Go.Proofs.YtaneecmfgfkaaaaDoor
