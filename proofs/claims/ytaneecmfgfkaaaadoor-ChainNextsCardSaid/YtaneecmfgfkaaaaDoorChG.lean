/- Contracts (cellaret): what the next anchor should be (layer 14). -/
import Derived.Test.YtaneecmfgfkaaaaDoorChF
import Derived.Test.YtaneecmfgfkaaaaDoorOrO
namespace Go.Proofs.YtaneecmfgfkaaaaDoor
open Go.RowKit Go.Deep Go.Maps
set_option linter.unusedVariables false
set_option linter.unusedSimpArgs false
/-- The text so far. -/
def preT (a : List UInt8) (L : List ByteArray) (k : Nat) : List UInt8 := [110, 101, 120, 116] ++ a ++ catL (L.take k)
theorem catL_take (L : List ByteArray) (k : Nat) (h : k < L.length) : catL (L.take (k + 1)) = catL (L.take k) ++ (L[k]).data.toList := by
  rw [catL_flat, catL_flat, List.take_succ_eq_append_getElem h]
  simp only [List.map_append, List.map_cons, List.map_nil, List.flatten_append, List.flatten_cons, List.flatten_nil, List.append_nil]
theorem preT_zero (a : List UInt8) (L : List ByteArray) : nxB ++ sB a = sB (preT a L 0) := by
  show sB [110, 101, 120, 116] ++ sB a = _
  rw [sB_app]
  unfold preT
  congr 1
  rw [catL_flat]
  simp
theorem preT_step (a : List UInt8) (L : List ByteArray) (k : Nat) (h : k < L.length) : sB (preT a L k) ++ L[k] = sB (preT a L (k + 1)) := by
  conv => lhs; rw [sB_of L[k]]
  rw [sB_app]
  unfold preT
  rw [catL_take L k h]
  simp [List.append_assoc]
theorem preT_full (a : List UInt8) (L : List ByteArray) : preT a L L.length = nextT a L := by
  unfold preT nextT
  rw [List.take_length]
theorem preT_len (a : List UInt8) (L : List ByteArray) (ha : a.length = 32) (hL : L.length ≤ 80) : ∀ k, k ≤ L.length → (∀ i (h : i < L.length), i < k → (L[i]).size = 64) → (preT a L k).length = 36 + 64 * k
  | 0, _, _ => by unfold preT; rw [catL_flat]; simp [ha]
  | k + 1, hk, h => by
    have ih := preT_len a L ha hL k (by omega) (fun i hi hik => h i hi (by omega))
    unfold preT at ih ⊢
    rw [catL_take L k (by omega), ← List.append_assoc, List.length_append, ih, ← Lib.size_eq, h k (by omega) (by omega)]
    omega
theorem sB_size' (d : List UInt8) : (sB d).size = d.length := sB_size d
theorem sB_list' (d : List UInt8) : (sB d).data.toList = d := sB_list d
attribute [local irreducible] digA sumL z32 sB nxB preT nextT
set_option maxRecDepth 100000 in
set_option maxHeartbeats 2000000 in
theorem lawNext_len (D : Array Value) (L : List ByteArray) (la : Option Addr) (n c : Nat) (w : World) (hD : D.size = 32) (hn : L.length = n) (hl : n = 0 ∨ 80 < n) :
    Calls Tryd.prog 22 #[.agg D, .slice la n c] w fun e w' => e = .returned (.tuple #[.agg z32, .int .i64 6]) ∧ Below w.heap.size w w' := by
  have hz := zero_dig
  have hb := build_z32
  obtain ⟨w2, HW2, h2, h4, B2, hs2⟩ := two_made w D
  rcases hl with hl | hl
  · subst hl
    clear hn hs2
    go_enter Tryd.func22, Tryd.ntmps22
    go_upto_region 1 with fail
    rw [HW2.out]
    clear HW2
    go_wp2_with (refine wpList_store_row rfl _ _ _ rfl (w.heap.size + 1) z32 rfl rfl 34 _ h4 (by rw [z32_sizeC]; kernel_rfl) rfl (by with_unfolding_all exact z32_one) ?_)
    refine bodyPost_ret_by (results_ct rfl _ _ (w.heap.size + 1) 34 z32 (0, 0) _ rfl (setRow_heap _ _ _ z32 34 (0, 0) h4) Tryd.underlying34 rfl (by rw [z32_sizeC]; kernel_rfl)) rfl ⟨rfl, ?_⟩
    exact below_setRow B2 (by omega) _
  · have e0 : ((n : Int) == 0) = false := by rw [beq_eq_false_iff_ne]; omega
    have e1 : (80 : Int) < (n : Int) := by omega
    clear hn hs2
    go_enter Tryd.func22, Tryd.ntmps22
    go_upto_region 1 with fail
    rw [HW2.out]
    clear HW2
    go_wp2_with (refine wpList_store_row rfl _ _ _ rfl (w.heap.size + 1) z32 rfl rfl 34 _ h4 (by rw [z32_sizeC]; kernel_rfl) rfl (by with_unfolding_all exact z32_one) ?_)
    refine bodyPost_ret_by (results_ct rfl _ _ (w.heap.size + 1) 34 z32 (0, 0) _ rfl (setRow_heap _ _ _ z32 34 (0, 0) h4) Tryd.underlying34 rfl (by rw [z32_sizeC]; kernel_rfl)) rfl ⟨rfl, ?_⟩
    exact below_setRow B2 (by omega) _
/-- What the reference tells. -/
def nextD (a : List UInt8) (L : List ByteArray) : Array Value := if okB L = true then digA (nextL a L) else z32
theorem nextD_yes (a : List UInt8) (L : List ByteArray) (h : okB L = true) : nextD a L = digA (nextL a L) := by unfold nextD; rw [if_pos h]
theorem nextD_no (a : List UInt8) (L : List ByteArray) (h : okB L = false) : nextD a L = z32 := by unfold nextD; rw [h]; rfl
set_option maxRecDepth 100000 in
set_option maxHeartbeats 4000000 in
theorem lawNext_any (a : List UInt8) (L : List ByteArray) (la : Option Addr) (n c : Nat) (w : World) (hG : Gl w) (ha : a.length = 32) (hn : L.length = n) (hc : n ≤ c) (hT : TxtAt w la L) :
    Calls Tryd.prog 22 #[.agg (digA a), .slice la n c] w fun e w' => e = .returned (.tuple #[.agg (nextD a L), .int .i64 (erB L)]) ∧ Below w.heap.size w w' := by
  have hda : (digA a).size = 32 := by with_unfolding_all (rw [digA_size, ha])
  by_cases hl : n = 0 ∨ 80 < n
  · have hbad : okB L = false := okB_len L (by omega)
    rw [nextD_no a L hbad, erB_no L hbad]
    exact lawNext_len _ L la n c w hda hn hl
  · have hz := zero_dig
    have hb := build_z32
    have e0 : ((n : Int) == 0) = false := by rw [beq_eq_false_iff_ne]; omega
    have e1 : ¬ (80 : Int) < (n : Int) := by omega
    obtain ⟨g, oo, rfl, hgl, hcc⟩ := hT (by omega)
    obtain ⟨w2, HW2, h2, h4, B2, hs2⟩ := two_made w (digA a)
    have HC2 : Hid (∀ i (h : i < L.length), w2.cell? ⟨g, oo + i, none⟩ = some (.string L[i])) := Lib.hid (fun i h => (B2.cell (p := ⟨g, oo + i, none⟩) hgl).trans (hcc i h))
    have HCV : Hid (∀ w2 : World, w2.heap[w.heap.size]? = some (.cells (digA a) 34 (0, 0)) → (convert 65 9 (.slice (some ⟨w.heap.size, 0, none⟩) 32 32)).run Tryd.prog w2 = .ok (.string (sB a)) w2) := Lib.hid (fun w2 h => by with_unfolding_all exact conv_dig h ha)
    have hcv := HCV.out w2 h2
    have has : (sB a).size = 32 := by with_unfolding_all (rw [sB_size]; exact ha)
    have hadd0 : ∀ V : World, (Op.stringOp .add (⟨#[110, 101, 120, 116]⟩ : ByteArray) (sB a)).run Tryd.prog V = .ok (.string (sB (preT a L 0))) V := fun V => by rw [← preT_zero]; with_unfolding_all exact run_string_add_sum V nxB (sB a) (by rw [nxB_size, has]; omega)
    have HPL := Lib.hid (preT_len a L ha (by omega))
    have hsP : ∀ k, (sB (preT a L k)).size = (preT a L k).length := fun k => by with_unfolding_all exact sB_size _
    have HADD : Hid (∀ k (h : k < L.length), (∀ i (h : i < L.length), i < k → (L[i]).size = 64) → (L[k]).size = 64 → ∀ V : World, (Op.stringOp .add (sB (preT a L k)) L[k]).run Tryd.prog V = .ok (.string (sB (preT a L (k + 1)))) V) := Lib.hid (fun k h hall hk V => by rw [← preT_step a L k h]; exact run_string_add_sum V _ _ (by rw [hsP, HPL.out k (by omega) hall, hk]; omega))
    have HBAD := Lib.hid (okB_bad L)
    have HOK := Lib.hid (okB_all L ⟨by omega, by omega⟩)
    have HNO := Lib.hid (fun h => (⟨nextD_no a L h, erB_no L h⟩ : _ ∧ _))
    have HYES := Lib.hid (fun h => (⟨nextD_yes a L h, erB_yes L h⟩ : _ ∧ _))
    have HN := Lib.hid hn
    have HSUM : Hid (∀ w, Gl w → (∀ i (h : i < L.length), i < n → (L[i]).size = 64) → Calls Tryd.prog 14 #[.string (sB (preT a L n))] w fun e w' => e = .returned (.agg (digA (nextL a L))) ∧ Below w.heap.size w w') := Lib.hid (fun w hw hall => by
      have e : preT a L n = nextT a L := by rw [← hn]; exact preT_full a L
      have hz : (sB (preT a L n)).size ≤ 10000 := by rw [hsP, HPL.out n (by omega) hall]; omega
      rw [e] at hz ⊢
      have := sum_any (sB (nextT a L)) w (by omega) hw
      rw [sB_list' (nextT a L)] at this
      exact this)
    have hdz : (digA (nextL a L)).size = 32 := by with_unfolding_all (rw [digA_size, nextL_len])
    have hone : (digA (nextL a L)).all (·.oneCell') = true := by with_unfolding_all exact digA_one _
    have G2 := hG.below B2
    clear hn hl hT hcc hsP has ha
    generalize nextD a L = ND at *
    generalize erB L = er at *
    generalize digA (nextL a L) = DN at *
    generalize digA a = DA at *
    generalize sB a = aB at *
    obtain ⟨P, HP⟩ : ∃ P : Nat → ByteArray, ∀ k, sB (preT a L k) = P k := ⟨_, fun _ => rfl⟩
    simp only [HP] at hadd0 HADD HSUM
    clear HP HPL
    go_enter Tryd.func22, Tryd.ntmps22
    go_upto_region 1 with fail
    rw [HW2.out]
    clear HW2
    go_wp2_with fail
    go_loop [7, 6] (fun x s => ∃ k : Nat, x = .int .i64 (k : Int) ∧ s = .string (P k) ∧ k ≤ n ∧ Hid (∀ i (hi : i < L.length), i < k → (L[i]).size = 64)) (fun x _ => n - (intOf x).toNat)
    case atStart => exact ⟨0, rfl, rfl, by omega, Lib.hid (fun i hi h => absurd h (by omega))⟩
    case round =>
      obtain ⟨k, rfl, rfl, hk, HK⟩ := hrel
      by_cases hlt : k < n
      · have hkL : k < L.length := by rw [HN.out]; exact hlt
        have c0 := HC2.out k hkL
        have hli : (k : Int) < (n : Int) := by omega
        by_cases hs : (L[k]).size = 64
        · have HK2 : Hid (∀ i (hi : i < L.length), i < k + 1 → (L[i]).size = 64) := Lib.hid (fun i hi h => by
            by_cases e : i = k
            · subst e; exact hs
            · exact HK.out i hi (by omega))
          have ht : (((L[k]).size : Int) != 64) = false := by simp; omega
          have hadd := HADD.out k hkL HK.out hs
          clear hs hadd0
          generalize (L[k]'hkL) = b at *
          go_wp2_with fail
          go_round
          case rel => exact ⟨k + 1, by go_num, rfl, by omega, HK2⟩
          case measure => simp [intOf]; omega
        · have ht : (((L[k]).size : Int) != 64) = true := by simp; omega
          obtain ⟨rfl, rfl⟩ := HNO.out (HBAD.out k hkL hs)
          clear hs hadd0 hcv
          generalize (L[k]'hkL) = b at *
          go_wp2_with (refine wpList_store_row rfl _ _ _ rfl (w.heap.size + 1) z32 rfl rfl 34 _ h4 (by rw [z32_sizeC]; kernel_rfl) rfl (by with_unfolding_all exact z32_one) ?_)
          refine bodyPost_ret_by (results_ct rfl _ _ (w.heap.size + 1) 34 z32 (0, 0) _ rfl (setRow_heap _ _ _ z32 34 (0, 0) h4) Tryd.underlying34 rfl (by rw [z32_sizeC]; kernel_rfl)) rfl ⟨rfl, ?_⟩
          exact below_setRow B2 (by omega) _
      · obtain rfl : k = n := by omega
        obtain ⟨rfl, rfl⟩ := HYES.out (HOK.out (fun i hi => HK.out i hi (by rw [← HN.out]; exact hi)))
        have HS := Lib.hid (HSUM.out w2 G2 HK.out)
        clear hadd0 hcv
        go_wp2_with fail
        refine HS.out.mono ?_
        rintro e w3 ⟨rfl, b3⟩
        have h43 := (b3.block _ (Array.getElem?_eq_some_iff.1 h4).1).trans h4
        have B3 := B2.trans (b3.mono B2.size)
        clear b3
        go_wp2_with (refine wpList_store_row rfl _ _ _ rfl (w.heap.size + 1) ND rfl rfl 34 _ h43 (by rw [hdz]; kernel_rfl) (by rw [hdz, z32_sizeC]) hone ?_)
        refine bodyPost_ret_by (results_ct rfl _ _ (w.heap.size + 1) 34 ND (0, 0) _ rfl (setRow_heap _ _ _ ND 34 (0, 0) h43) Tryd.underlying34 rfl (by rw [hdz]; kernel_rfl)) rfl ⟨rfl, ?_⟩
        exact below_setRow B3 (by omega) _
end Go.Proofs.YtaneecmfgfkaaaaDoor
