/- The law ShaConstants. -/
import Derived.Test.YtndhegdhkoileaaDoorShX
import Derived.Test.YtndhegdhkoileaaDoorShR
namespace Go.Proofs.YtndhegdhkoileaaDoor
open Go.RowKit Go.Deep
set_option linter.unusedVariables false
set_option linter.unusedSimpArgs false
theorem kc_cell {w : World} (h : w.rangeAt 1 0 kL) (k : Nat) (hk : k < 64) : w.cell? ⟨1, k, none⟩ = some (.int .u32 ((kc k).toNat : Int)) := by
  have h1 : kL[k]? = some (wv (kc k)) := by
    unfold kL kc
    have : k < klist.length := hk
    rw [List.getElem?_map, List.getElem?_eq_getElem this, List.getD_eq_getElem?_getD, List.getElem?_eq_getElem this]
    rfl
  have := h k _ h1
  rwa [Nat.zero_add] at this
set_option maxRecDepth 100000 in
set_option maxHeartbeats 1000000 in
theorem constant_bad (k : Int) (w : World) (hk : k < 0 ∨ 63 < k) : Calls Tryd.prog 19 #[.int .i64 k] w fun e w' => e = .returned (.tuple #[.int .u32 0, .int .i64 3]) ∧ w = w' := by
  go_enter Tryd.func19, Tryd.ntmps19
  rcases hk with hk | hk
  · go_wp2_with fail
    go_ret2
    exact ⟨rfl, rfl⟩
  · have h0 : ¬ k < 0 := by omega
    have h1 : (64 : Int) ≤ k := by omega
    go_wp2_with fail
    go_ret2
    exact ⟨rfl, rfl⟩
set_option maxRecDepth 100000 in
set_option maxHeartbeats 1000000 in
theorem constant_ok (k : Nat) (w : World) (hG : Gl w) (hk : k < 64) : Calls Tryd.prog 19 #[.int .i64 (k : Int)] w fun e w' => e = .returned (.tuple #[.int .u32 ((kc k).toNat : Int), .int .i64 0]) ∧ w = w' := by
  have hc := kc_cell hG.k k hk
  have hk1 : (k : Int) < 64 := by omega
  have hk2 : ¬ ((64 : Int) ≤ (k : Int)) := by omega
  generalize kc k = q at *
  go_enter Tryd.func19, Tryd.ntmps19
  go_wp2_with fail
  go_ret2
  exact ⟨rfl, rfl⟩
set_option maxRecDepth 100000 in
set_option maxHeartbeats 1000000 in
theorem words_any (w : World) (hG : Gl w) : Calls Tryd.prog 20 #[] w fun e w' => e = .returned (.agg (vL v0).toArray) ∧ Below w.heap.size w w' := by
  have hz8 := zero_w8
  have k1 := hG.f
  go_enter Tryd.func20, Tryd.ntmps20
  go_upto_region 1 with fail
  obtain ⟨w1, HW1, hr1, B1⟩ : ∃ w1, Hid (w.alloc (.cells #[.int .u32 0, .int .u32 0, .int .u32 0, .int .u32 0, .int .u32 0, .int .u32 0, .int .u32 0, .int .u32 0] 29) = w1) ∧ w1.heap[w.heap.size]? = some (.cells #[.int .u32 0, .int .u32 0, .int .u32 0, .int .u32 0, .int .u32 0, .int .u32 0, .int .u32 0, .int .u32 0] 29 (0, 0)) ∧ Below w.heap.size w w1 := ⟨_, Lib.hid rfl, heap_alloc_new _ _, (Below.refl _ _).alloc (Nat.le_refl _) _⟩
  rw [HW1.out]
  clear HW1
  have k2 := (hG.below B1).f
  go_wp2_with (first | (refine wpList_load_mid rfl 29 _ rfl 0 0 rfl (vL v0) _ k2 Tryd.underlying29 rfl (by kernel_rfl) ?_) | (refine wpList_store_row rfl _ _ _ rfl w.heap.size (vL v0).toArray rfl rfl 29 _ hr1 (by kernel_rfl) rfl (by simp [vL, Value.oneCell']) ?_))
  refine bodyPost_ret_by (results_cell_row rfl _ _ w.heap.size 29 (vL v0).toArray (0, 0) _ rfl (setRow_heap _ _ _ (vL v0).toArray 29 (0, 0) hr1) Tryd.underlying29 rfl (by kernel_rfl)) rfl ⟨rfl, ?_⟩
  exact below_setRow B1 (Nat.le_refl _) _
def fN : List Nat := flist.map (·.toNat)
set_option maxRecDepth 100000 in
set_option maxHeartbeats 1000000 in
theorem first_any (w : World) : Calls Tryd.prog 21 #[] w fun e w' => e = .returned (.slice (some ⟨w.heap.size, 0, none⟩) 8 8) ∧ w'.heap[w.heap.size]? = some (.cells (nv fN).toArray 3 (0, 0)) ∧ Below w.heap.size w w' := by
  go_enter Tryd.func21, Tryd.ntmps21
  go_wp2_with fail
  go_ret
  exact ⟨rfl, heap_alloc_new _ _, (Below.refl _ _).alloc (Nat.le_refl _) _⟩
theorem v0_nat (i : Nat) (hi : i < 8) : (nv fN)[i]? = some (.int .i64 ((v0.at i).toNat : Int)) ∧ (vL v0)[i]? = some (.int .u32 ((v0.at i).toNat : Int)) := by
  rcases (show i = 0 ∨ i = 1 ∨ i = 2 ∨ i = 3 ∨ i = 4 ∨ i = 5 ∨ i = 6 ∨ i = 7 by omega) with rfl | rfl | rfl | rfl | rfl | rfl | rfl | rfl <;> exact ⟨rfl, rfl⟩
theorem kN_at (k : Nat) (hk : k < 64) : (nv (klist.map (·.toNat)))[k]? = some (.int .i64 ((kc k).toNat : Int)) := by
  unfold nv kc
  have h : k < klist.length := hk
  rw [List.getElem?_map, List.getElem?_map, List.getElem?_eq_getElem h, List.getD_eq_getElem?_getD, List.getElem?_eq_getElem h]
  rfl
end Go.Proofs.YtndhegdhkoileaaDoor
