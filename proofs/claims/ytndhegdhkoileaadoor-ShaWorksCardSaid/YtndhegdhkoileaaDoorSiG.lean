/- The reference of layer 3: Sum; sha.Work. -/
import Derived.Test.YtndhegdhkoileaaDoorSiE
import Derived.Test.YtndhegdhkoileaaDoorSiF
import Derived.Test.YtndhegdhkoileaaDoorShZ
namespace Go.Proofs.YtndhegdhkoileaaDoor
open Go.RowKit Go.Deep
set_option linter.unusedVariables false
set_option linter.unusedSimpArgs false
/-- What is left of a text behind q blocks. -/
def remB (L : List UInt8) (q : Nat) : ByteArray := ⟨(L.drop (64 * q)).toArray⟩
theorem remB_size (L : List UInt8) (q : Nat) : (remB L q).size = L.length - 64 * q := by unfold remB; rw [bytes_size, List.length_drop]
theorem remB_zero (L : List UInt8) : remB L 0 = ⟨L.toArray⟩ := rfl
theorem ext_list (s : ByteArray) (a b : Nat) : (s.extract a b).data.toList = (s.data.toList.drop a).take (b - a) := by
  rw [ByteArray.data_extract, Array.toList_extract]
theorem ba_ext {s t : ByteArray} (h : s.data.toList = t.data.toList) : s = t := by
  rw [bytes_ba s, bytes_ba t, h]
theorem remB_take (L : List UInt8) (q : Nat) : ((remB L q).extract 0 64).data.toList = (L.drop (64 * q)).take 64 := by
  rw [ext_list]; rfl
theorem remB_drop (L : List UInt8) (q : Nat) : (remB L q).extract 64 (remB L q).size = remB L (q + 1) := by
  apply ba_ext
  rw [ext_list]
  show ((L.drop (64 * q)).drop 64).take ((remB L q).size - 64) = L.drop (64 * (q + 1))
  rw [remB_size, List.drop_drop, show 64 * q + 64 = 64 * (q + 1) from by omega, List.take_of_length_le (by rw [List.length_drop]; omega)]
theorem fN_eq : nv fN = nv (vN v0) := rfl
theorem dig_row {w : World} {g : Nat} {v : V8} (h : w.rowIs g 24 32 (fun j => .int .u8 ((lrow v 32 j).toNat : Int))) : w.heap[g]? = some (.cells (digA (layV v)) 24 (0, 0)) := by
  obtain ⟨c, h1, h2, h3⟩ := h
  have hc : c = digA (layV v) := by
    apply Array.ext_getElem?
    intro i
    by_cases hi : i < 32
    · rw [h3 i hi]
      unfold digA bv
      rw [← lb_all, List.getElem?_toArray, List.getElem?_map, List.getElem?_map, List.getElem?_range hi]
      simp only [lrow, if_pos hi, Option.map_some]
    · rw [Array.getElem?_eq_none (by omega), Array.getElem?_eq_none (by unfold digA bv; rw [← lb_all]; simp; omega)]
  rw [← hc]; exact h1
theorem stored_z32 (w : World) (v : V8) : ∃ w3, Hid ((w.alloc (.cells z32 24)).setRow w.heap.size z32 = w3) ∧ w3.rowIs w.heap.size 24 32 (fun j => .int .u8 ((lrow v 0 j).toNat : Int)) ∧ Below w.heap.size w w3 :=
  ⟨_, Lib.hid rfl, ⟨z32, setRow_heap _ _ _ z32 24 (0, 0) (heap_alloc_new _ _), rfl, fun i hi => by
    show z32[i]? = some (.int .u8 ((lrow v 0 i).toNat : Int))
    have : lrow v 0 i = 0 := by unfold lrow; rw [if_neg (by omega)]
    rw [this]
    have hz : z32 = (List.replicate 32 (Value.int .u8 0)).toArray := rfl
    rw [hz, List.getElem?_toArray, List.getElem?_replicate, if_pos hi]
    rfl⟩, below_setRow ((Below.refl _ _).alloc (Nat.le_refl _) _) (Nat.le_refl _) _⟩
theorem row_updB {w : World} {g n : Nat} {t : TypeId} {f f' : Nat → UInt8} (h : w.rowIs g t n (fun j => .int .u8 ((f j).toNat : Int))) (k : Nat) (x : UInt8) (hx : ∀ j, j < n → f' j = if j = k then x else f j) : (w.setCell ⟨g, k, none⟩ (.int .u8 (x.toNat : Int))).rowIs g t n (fun j => .int .u8 ((f' j).toNat : Int)) := by
  refine (h.set k _).congr fun j hj => ?_
  rw [hx j hj]
  by_cases e : j = k
  · rw [if_pos e, if_pos e]
  · rw [if_neg e, if_neg e]
theorem q256' (x k : Nat) (hk : k < 3) : x / 256 ^ (3 - k) = x / 256 ^ (3 - (k + 1)) / 256 := by
  rw [Nat.div_div_eq_div_mul, ← Nat.pow_succ, show (3 - (k + 1)).succ = 3 - k from by omega]
theorem z32_one : z32.all (·.oneCell') = true := by simp [z32, Value.oneCell']
attribute [local irreducible] work blk layV padL kN digA remB
set_option maxRecDepth 100000 in
set_option maxHeartbeats 4000000 in
theorem sumR_any (s : ByteArray) (w : World) (hn : s.size ≤ 300) : Calls Tryd.prog 10 #[.string s] w fun e w' => e = .returned (.agg (digA (sumL s.data.toList))) ∧ Below w.heap.size w w' := by
  have hz := zero_dig
  have HC := Lib.hid (fun w => constants_any w)
  have HF := Lib.hid (fun w => first_any w)
  have HP := Lib.hid (fun w => padded_any s w hn)
  have HPM := Lib.hid (pad_mod s.data.toList)
  have HPB : Hid (padB s = remB (padL s.data.toList) 0) := Lib.hid (by rw [remB_zero]; rfl)
  have HSV : Hid (layV (work v0 (padL s.data.toList) ((padL s.data.toList).length / 64)) = sumL s.data.toList) := Lib.hid rfl
  generalize sumL s.data.toList = SL at *
  generalize padL s.data.toList = L at *
  have HRS := Lib.hid (remB_size L)
  have HRT := Lib.hid (remB_take L)
  have HRD := Lib.hid (remB_drop L)
  have HWS := Lib.hid (fun q => work_snoc q v0 L)
  have HW0 := Lib.hid (work_zero v0 L)
  have HFN := Lib.hid fN_eq
  obtain ⟨w0, HW00, hr0, B0⟩ : ∃ w0, Hid (w.alloc (.cells z32 24) = w0) ∧ w0.heap[w.heap.size]? = some (.cells z32 24 (0, 0)) ∧ Below w.heap.size w w0 := ⟨_, Lib.hid rfl, heap_alloc_new _ _, (Below.refl _ _).alloc (Nat.le_refl _) _⟩
  have s0 : w.heap.size < w0.heap.size := (Array.getElem?_eq_some_iff.1 hr0).1
  generalize hNN : L.length / 64 = N at *
  have HN := Lib.hid hNN
  clear hNN
  go_enter Tryd.func10, Tryd.ntmps10
  go_upto_region 1 with fail
  rw [HW00.out]
  clear HW00
  go_wp2_with fail
  refine (HC.out _).mono ?_
  rintro e w1 ⟨rk, rfl, hK1, b1⟩
  obtain ⟨gk, ck, rfl, hck, hbk, hgk, hrk⟩ := own_rowI hK1 (by omega)
  have K1 : NAt w1 gk kN := ⟨by with_unfolding_all exact hrk, hgk⟩
  have hr1 := (b1.block _ s0).trans hr0
  have B1 := B0.trans (b1.mono B0.size)
  have s1 : w.heap.size < w1.heap.size := Nat.lt_of_lt_of_le s0 b1.size
  clear hK1 hrk hr0 B0 b1
  go_wp2_with fail
  refine (HF.out _).mono ?_
  rintro e w2 ⟨rfl, hF2, b2⟩
  have K2 := K1.below b2
  have hr2 := (b2.block _ s1).trans hr1
  have B2 := B1.trans (b2.mono B1.size)
  have s2 : w1.heap.size < w2.heap.size := (Array.getElem?_eq_some_iff.1 hF2).1
  have F2 : NAt w2 w1.heap.size (vN v0) := ⟨fun j u hu => by rw [Nat.zero_add, cell_of_row w2 _ j _ _ _ hF2, List.getElem?_toArray, HFN.out]; exact hu, s2⟩
  clear K1 hr1 B1 hF2 b2
  generalize w1.heap.size = g1 at *
  go_wp2_with fail
  refine (HP.out _).mono ?_
  rintro e w3 ⟨rfl, b3⟩
  rw [HPB.out]
  have K3 := Lib.hid (K2.below b3)
  have F3 := F2.below b3
  have hr3 := Lib.hid ((b3.block _ (by omega)).trans hr2)
  have B3 := Lib.hid (B2.trans (b3.mono B2.size))
  have s3 : w.heap.size < w3.heap.size := Nat.lt_of_lt_of_le (by omega) b3.size
  clear K2 F2 hr2 B2 b3 HC HF HP
  generalize hgb : w.heap.size = gb at *
  have HGB := Lib.hid hgb
  clear hgb
  go_wp2_with fail
  go_loopw [0, 4] (fun x h wi => ∃ q g c : Nat, x = .string (remB L q) ∧ h = .slice (some ⟨g, 0, none⟩) 8 c ∧ q ≤ N ∧ Hid (NAt wi g (vN (work v0 L q))) ∧ Hid (Below w3.heap.size w3 wi)) (fun x _ _ => (match x with | .string t => t.size | _ => 0))
  case atStart => exact ⟨0, g1, 8, rfl, rfl, by omega, Lib.hid (by rw [HW0.out]; exact F3), Lib.hid (Below.refl _ _)⟩
  clear F3
  case round =>
    obtain ⟨q, g, c, rfl, rfl, hq, HV, HB⟩ := hrel
    have hsz := HRS.out q
    have hL : L.length = 64 * N := by have := HPM.out; have := HN.out; omega
    have HSZ := HB.out.size
    by_cases hlt : q < N
    · as_aux_lemma =>
      have h0 : 0 < (remB L q).size := by omega
      have h64 : 64 ≤ (remB L q).size := by omega
      have hd := HRD.out q
      have hs1 : (remB L (q + 1)).size < (remB L q).size := by rw [HRS.out, HRS.out]; omega
      have HWS1 := Lib.hid (HWS.out q)
      have HBL := Lib.hid (fun gk ck w h1 h2 h3 => block_any (work v0 L q) ((remB L q).extract 0 64) _ (HRT.out q) (by rw [List.length_take, List.length_drop]; omega) g c gk ck w h1 h2 h3)
      generalize remB L q = R0 at *
      have HDR := Lib.hid hd
      clear hsz hd
      go_wp2_with fail
      have K4 := K3.out.below HB.out
      refine (HBL.out gk ck _ HV.out.1 HV.out.2 K4).mono ?_
      rintro e w4 ⟨r4, rfl, hO4, b4⟩
      obtain ⟨g4, c4, rfl, hc4, hbg4, hg4, hr4⟩ := own_rowI hO4 (by omega)
      have B4 := HB.out.trans (b4.mono HSZ)
      have hd := HDR.out
      clear hO4 b4 K4
      go_wp2_with fail
      go_roundw
      case rel => exact ⟨q + 1, g4, c4, rfl, rfl, by omega, Lib.hid ⟨by rw [HWS1.out]; exact hr4, hg4⟩, Lib.hid B4⟩
      case measure => exact hs1
    · as_aux_lemma =>
      obtain rfl : q = N := by omega
      have h0 : ¬ 0 < (remB L q).size := by omega
      obtain ⟨wm, hwm⟩ : ∃ x, x = wr := ⟨_, rfl⟩
      subst hwm
      generalize hV : work v0 L q = V at *
      have V6 := Lib.hid (Vat.of HV.out.1 HV.out.2)
      have HWM := Lib.hid ((hr3.out ▸ HB.out.block gb s3 : wm.heap[gb]? = _))
      have BM := Lib.hid (B3.out.trans (HB.out.mono (by omega)))
      have hgm : g < wm.heap.size := HV.out.2
      have hbm : gb < wm.heap.size := Nat.lt_of_lt_of_le s3 HSZ
      obtain ⟨w5, HW5, hR5, b5⟩ := stored_z32 wm V
      clear HV HB hV K3
      generalize remB L q = RN at *
      clear hsz
      go_upto_region 8 with (refine wpList_store_row rfl _ _ _ rfl wm.heap.size z32 rfl rfl 24 _ (heap_alloc_new _ _) (by kernel_rfl) rfl z32_one ?_)
      rw [HW5.out]
      clear HW5
      have V7 := Lib.hid (V6.out.below b5)
      have HR7 := Lib.hid ((b5.block _ hbm).trans HWM.out)
      have B7 := Lib.hid (BM.out.trans (b5.mono (by omega)))
      generalize hg5 : wm.heap.size = g5 at *
      have hs5 : g5 < w5.heap.size := World.rowIs.lt hR5
      have HR5 := Lib.hid hR5
      clear hR5 b5 V6 HWM BM
      go_wp2_with fail
      go_loopw [6] (fun x wi => ∃ i : Nat, x = .int .i64 i ∧ i ≤ 32 ∧ Hid (wi.rowIs g5 24 32 (fun j => .int .u8 ((lrow V i j).toNat : Int))) ∧ Hid (Below g5 w5 wi)) (fun x _ => 32 - (intOf x).toNat)
      case atStart => exact ⟨0, rfl, by omega, HR5, Lib.hid (Below.refl _ _)⟩
      clear HR5
      case round =>
        obtain ⟨i, rfl, hi, HR, HB⟩ := hrel
        by_cases hlt : i < 32
        · as_aux_lemma =>
          have hli : (i : Int) < 32 := by omega
          obtain ⟨wn, hwn⟩ : ∃ x, x = wr := ⟨_, rfl⟩
          subst hwn
          have d0 := World.rowIs.cell HR.out (i := i) hlt
          have f0 := World.rowIs.frozen HR.out i
          have hcv := (HB.out.cell (p := ⟨g, i / 4, none⟩) hgm).trans (V7.out.at (i / 4) (by omega))
          have HLB : Hid (lb V i = UInt8.ofNat ((V.at (i / 4)).toNat / 256 ^ (3 - i % 4) % 256)) := Lib.hid rfl
          have HLS := Lib.hid (lrow_step V i)
          have hx := u32_bd (V.at (i / 4))
          generalize (V.at (i / 4)).toNat = X at *
          have e1 : (i : Int) / 4 = ((i / 4 : Nat) : Int) := by omega
          have e2 : (i : Int) % 4 = ((i % 4 : Nat) : Int) := by omega
          have hd8 : i / 4 < 8 := by omega
          have hr3' : i % 4 ≤ 3 := by omega
          generalize i / 4 = d at *
          generalize i % 4 = r at *
          have hd8' : (d : Int) < 8 := by omega
          have HX0 : Hid (X = X / 256 ^ (3 - 3)) := Lib.hid (by simp)
          have HQ := Lib.hid (q256' X)
          have HXB : Hid (∀ m, X / 256 ^ m ≤ 4294967295) := Lib.hid (fun m => by have := Nat.div_le_self X (256 ^ m); omega)
          go_wp2_with fail
          go_loopw [7, 8] (fun n kk wi => ∃ k : Nat, kk = .int .i64 k ∧ r ≤ k ∧ k ≤ 3 ∧ n = .int .i64 ((X / 256 ^ (3 - k) : Nat) : Int) ∧ wn = wi) (fun _ kk _ => (intOf kk).toNat)
          case atStart => exact ⟨3, rfl, hr3', by omega, by rw [← HX0.out], rfl⟩
          case round =>
            obtain ⟨k, rfl, hk1, hk2, rfl, rfl⟩ := hrel
            have hb := HXB.out (3 - k)
            by_cases hlk : r < k
            · as_aux_lemma =>
              have hlk' : (r : Int) < (k : Int) := by omega
              have HQ1 := Lib.hid (HQ.out (k - 1) (by omega))
              rw [show k - 1 + 1 = k from by omega] at HQ1
              generalize X / 256 ^ (3 - k) = N at *
              go_wp2_with fail
              go_roundw
              case rel => exact ⟨k - 1, by congr 1; omega, by omega, by omega, by rw [HQ1.out]; congr 1, trivial⟩
              case measure => simp [intOf]; omega
            · as_aux_lemma =>
              obtain rfl : k = r := by omega
              have hlk' : ¬ ((k : Int) < (k : Int)) := by omega
              have HBY : Hid (((X / 256 ^ (3 - k) : Nat) : Int) % 256 = ((lb V i).toNat : Int)) := Lib.hid (by rw [HLB.out, UInt8.toNat_ofNat']; omega)
              generalize X / 256 ^ (3 - k) = N at *
              go_wp2_with fail
              go_roundw
              case rel => exact ⟨i + 1, by go_num, by omega, Lib.hid (by rw [HBY.out]; exact row_updB HR.out i _ (fun j _ => HLS.out j)), Lib.hid (HB.out.setCell (p := ⟨g5, _, none⟩) (Nat.le_refl _) _)⟩
              case measure => simp [intOf]; omega
        · as_aux_lemma =>
          obtain rfl : i = 32 := by omega
          rw [show ((32 : Nat) : Int) = 32 from rfl]
          have hD := dig_row HR.out
          have hR8 := (HB.out.block gb hbm).trans HR7.out
          have B8 := B7.out.trans (HB.out.mono (by omega))
          obtain ⟨hsz, hone⟩ := dig_ok V
          rw [HSV.out] at hD hsz hone
          clear HR HB
          generalize hDG : digA SL = D at *
          have HDG := Lib.hid hDG
          clear hDG
          go_wp2_with (first | (refine wpList_load_row rfl _ _ rfl g5 rfl 24 D (0, 0) _ hD Tryd.underlying24 rfl (by rw [hsz]; kernel_rfl) ?_) | (refine wpList_store_row rfl _ _ _ rfl gb D rfl rfl 24 _ hR8 (by rw [hsz]; kernel_rfl) (by rw [hsz]; rfl) hone ?_))
          refine bodyPost_ret_by (results_cell_row rfl _ _ gb 24 D (0, 0) _ rfl (setRow_heap _ _ _ D 24 (0, 0) hR8) Tryd.underlying24 rfl (by rw [hsz]; kernel_rfl)) rfl ⟨by rw [HDG.out], ?_⟩
          rw [HGB.out]
          exact below_setRow B8 (Nat.le_refl _) _
end Go.Proofs.YtndhegdhkoileaaDoor
