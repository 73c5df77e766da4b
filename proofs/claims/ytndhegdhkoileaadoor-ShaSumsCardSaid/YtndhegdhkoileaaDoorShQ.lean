/- The law ShaHex. -/
import Derived.Test.YtndhegdhkoileaaDoorShP
namespace Go.Proofs.YtndhegdhkoileaaDoor
open Go.ChangeShapes Go.WideShapes Go.Deep Go.RowKit
set_option linter.unusedVariables false
set_option linter.unusedSimpArgs false
theorem hex_at : ∀ (l : List UInt8) (i : Nat), i < l.length → bAt (hexL l) (2 * i) = hxd ((bAt l i).toNat / 16) ∧ bAt (hexL l) (2 * i + 1) = hxd ((bAt l i).toNat % 16)
  | a :: l, 0, _ => ⟨rfl, rfl⟩
  | a :: l, i + 1, h => by
    have ih := hex_at l i (by simpa using h)
    have e : hexL (a :: l) = hxd (a.toNat / 16) :: hxd (a.toNat % 16) :: hexL l := rfl
    have e2 : bAt (a :: l) (i + 1) = bAt l i := rfl
    rw [e, e2, show 2 * (i + 1) = 2 * i + 1 + 1 from by omega]
    exact ih
theorem hxd_lo (q : Nat) (h : q < 10) : ((hxd q).toNat : Int) = 48 + q := by
  rcases (show q = 0 ∨ q = 1 ∨ q = 2 ∨ q = 3 ∨ q = 4 ∨ q = 5 ∨ q = 6 ∨ q = 7 ∨ q = 8 ∨ q = 9 by omega) with rfl | rfl | rfl | rfl | rfl | rfl | rfl | rfl | rfl | rfl <;> rfl
theorem hxd_hi (q : Nat) (h : 10 ≤ q) (h2 : q < 16) : ((hxd q).toNat : Int) = 87 + q := by
  rcases (show q = 10 ∨ q = 11 ∨ q = 12 ∨ q = 13 ∨ q = 14 ∨ q = 15 by omega) with rfl | rfl | rfl | rfl | rfl | rfl <;> rfl
/-- Digit k of a byte. -/
def dgt (b : UInt8) (k : Nat) : Nat := if k = 0 then b.toNat / 16 else b.toNat % 16
theorem hex_index (l : List UInt8) (hl : l.length = 32) (i k : Nat) (hi : i < 32) (hk : k < 2) (w : World) : (Instr.index 9 (.string ⟨(hexL l).toArray⟩) (.int .i64 (2 * (i : Int) + (k : Int)))).run Tryd.prog w = .ok (.int .u8 ((hxd (dgt (bAt l i) k)).toNat : Int)) w := by
  have hs : (⟨(hexL l).toArray⟩ : ByteArray).size = 64 := by rw [bytes_size, hex_len, hl]
  have hln : (hexL l).length = 64 := by rw [hex_len, hl]
  rw [run_index_string w 9 _ .i64 _ Tryd.underlying9, dif_pos ⟨by omega, by rw [hs]; omega⟩]
  have hn : (2 * (i : Int) + (k : Int)).toNat = 2 * i + k := by omega
  have hg : ∀ n (h : n < (⟨(hexL l).toArray⟩ : ByteArray).size), n = 2 * i + k → (⟨(hexL l).toArray⟩ : ByteArray)[n] = hxd (dgt (bAt l i) k) := by
    rintro n h rfl
    have h1 : (⟨(hexL l).toArray⟩ : ByteArray)[2 * i + k] = (hexL l)[2 * i + k]'(by omega) := rfl
    have h2 : bAt (hexL l) (2 * i + k) = (hexL l)[2 * i + k]'(by omega) := by unfold bAt; rw [List.getElem?_eq_getElem (by omega)]; rfl
    rw [h1, ← h2]
    obtain ⟨q1, q2⟩ := hex_at l i (by omega)
    rcases (show k = 0 ∨ k = 1 by omega) with rfl | rfl
    · exact q1
    · exact q2
  rw [hg _ _ hn]
attribute [local irreducible] work blk klist kL layV padL wv0 rst tailL sumL hexL digA
set_option maxRecDepth 100000 in
set_option maxHeartbeats 2000000 in
theorem hexlaw_any (l : List UInt8) (hl : l.length = 32) (w : World) (hG : Gl w) : Calls Tryd.prog 7 #[.agg (digA l)] w fun e w' => e = .returned (.bool true) ∧ Below w.heap.size w w' := by
  have HX := Lib.hid (fun w => hex_any l hl w)
  have HI := Lib.hid (hex_index l hl)
  have hz64 : (((⟨(hexL l).toArray⟩ : ByteArray).size : Nat) : Int) = 64 := by rw [bytes_size, hex_len, hl]; rfl
  have hcell : ∀ i, i < 32 → (digA l)[i]? = some (.int .u8 ((bAt l i).toNat : Int)) := fun i hi => by
    with_unfolding_all (show (bv l).toArray[i]? = _)
    unfold bv bAt
    rw [List.getElem?_toArray, List.getElem?_map, List.getElem?_eq_getElem (by omega)]
    rfl
  have hdz : (digA l).size = 32 := by with_unfolding_all (show (bv l).toArray.size = _); unfold bv; simpa using hl
  have HCL := Lib.hid hcell
  have hed := eql_dig (sumL []) (sumL_len _)
  have HDN := Lib.hid (fun w hw => digest_nil w hw)
  have HS := Lib.hid (fun w hw => sum_any ⟨#[]⟩ w (by decide) hw)
  have htr : sumL (⟨#[]⟩ : ByteArray).data.toList = sumL [] := rfl
  rw [htr] at HS
  clear hcell htr
  generalize digA l = DA at *
  generalize digA (sumL []) = SD at *
  generalize (⟨(hexL l).toArray⟩ : ByteArray) = S at *
  obtain ⟨w1, HW1, hD1, B1⟩ : ∃ w1, Hid (w.alloc (.cells DA 24) = w1) ∧ w1.heap[w.heap.size]? = some (.cells DA 24 (0, 0)) ∧ Below w.heap.size w w1 := ⟨_, Lib.hid rfl, heap_alloc_new _ _, (Below.refl _ _).alloc (Nat.le_refl _) _⟩
  go_enter Tryd.func7, Tryd.ntmps7
  go_upto_region 1 with fail
  rw [HW1.out]
  clear HW1
  go_wp2_with (refine wpList_load_row rfl _ _ rfl w.heap.size rfl 24 DA (0, 0) _ hD1 Tryd.underlying24 rfl (by rw [hdz]; kernel_rfl) ?_)
  refine (HX.out w1).mono ?_
  rintro e w2 ⟨rfl, b2⟩
  have hD2 := (b2.block _ (Array.getElem?_eq_some_iff.1 hD1).1).trans hD1
  have B2 := B1.trans (b2.mono B1.size)
  clear HX hD1 B1 b2
  generalize hgb : w.heap.size = gb at *
  have HGB := Lib.hid hgb
  have hG2 : Gl w2 := hG.below (by rw [hgb]; exact B2)
  have B2sz : w.heap.size ≤ w2.heap.size := by rw [hgb]; exact Nat.le_of_lt (Array.getElem?_eq_some_iff.1 hD2).1
  clear hgb
  go_wp2_with fail
  go_loopw [4] (fun x wi => ∃ i : Nat, x = .int .i64 i ∧ i ≤ 32 ∧ w2 = wi) (fun x _ => 32 - (intOf x).toNat)
  case atStart => exact ⟨0, rfl, by omega, rfl⟩
  case round =>
    obtain ⟨i, rfl, hi, rfl⟩ := hrel
    by_cases hlt : i < 32
    · have hli : (i : Int) < 32 := by omega
      have hix := HI.out i
      have hc := (cell_of_row w2 gb i _ _ _ hD2).trans (HCL.out i hlt)
      have hb := (bAt l i).toNat_lt
      generalize bAt l i = b at *
      have HIX := Lib.hid hix
      clear hix
      have HC := Lib.hid hc
      clear hc
      go_wp2_with fail
      go_loopw [5, 6] (fun n x wi => ∃ k : Nat, x = .int .i64 k ∧ k ≤ 2 ∧ n = .int .i64 (if k = 0 then 0 else if k = 1 then ((b.toNat / 16 : Nat) : Int) else (b.toNat : Int)) ∧ w2 = wi) (fun _ x _ => 2 - (intOf x).toNat)
      case atStart => exact ⟨0, rfl, by omega, rfl, rfl⟩
      case round =>
        obtain ⟨k, rfl, hk, rfl, rfl⟩ := hrel
        by_cases hlk : k < 2
        · have hlj : (k : Int) < 2 := by omega
          have ix := HIX.out k hlt hlk
          have hq : dgt b k < 16 := by unfold dgt; split <;> omega
          have hn0 : 0 ≤ (if k = 0 then 0 else if k = 1 then ((b.toNat / 16 : Nat) : Int) else (b.toNat : Int)) ∧ (if k = 0 then 0 else if k = 1 then ((b.toNat / 16 : Nat) : Int) else (b.toNat : Int)) ≤ 255 := by repeat' split <;> omega
          have HN : Hid (16 * (if k = 0 then 0 else if k = 1 then ((b.toNat / 16 : Nat) : Int) else (b.toNat : Int)) + (dgt b k : Int) = (if k + 1 = 0 then 0 else if k + 1 = 1 then ((b.toNat / 16 : Nat) : Int) else (b.toNat : Int))) := by
            refine Lib.hid ?_
            rcases (show k = 0 ∨ k = 1 by omega) with rfl | rfl
            · simp [dgt]
            · simp [dgt]; omega
          generalize (if k = 0 then 0 else if k = 1 then ((b.toNat / 16 : Nat) : Int) else (b.toNat : Int)) = n1 at *
          obtain ⟨hn1, hn3⟩ := hn0
          generalize dgt b k = q at *
          by_cases hq10 : q < 10
          · rw [hxd_lo q hq10] at ix
            have c1 : (48 : Int) + (q : Int) < 97 := by omega
            have c2 : ¬ ((97 : Int) ≤ 48 + (q : Int)) := by omega
            have c3 : ¬ ((48 : Int) + (q : Int) < 48) := by omega
            have c4 : ¬ ((63 : Int) < 48 + (q : Int)) := by omega
            go_wp2_with fail
            go_roundw
            case rel => exact ⟨k + 1, by go_num, by omega, by rw [← HN.out]; congr 1; omega, trivial⟩
            case measure => simp [intOf]; omega
          · rw [hxd_hi q (by omega) hq] at ix
            have c1 : (97 : Int) ≤ 87 + (q : Int) := by omega
            have c2 : (87 : Int) + (q : Int) ≤ 102 := by omega
            have c3 : ¬ ((87 : Int) + (q : Int) - 39 < 48) := by omega
            have c4 : ¬ ((63 : Int) < 87 + (q : Int) - 39) := by omega
            go_wp2_with fail
            go_roundw
            case rel => exact ⟨k + 1, by go_num, by omega, by rw [← HN.out]; congr 1; omega, trivial⟩
            case measure => simp [intOf]; omega
        · obtain rfl : k = 2 := by omega
          have hc := HC.out
          go_wp2_with fail
          go_roundw
          case rel => exact ⟨i + 1, by go_num, by omega, trivial⟩
          case measure => simp [intOf]; omega
    · obtain rfl : i = 32 := by omega
      go_wp2_with fail
      refine (awake_any w2 hG2).mono ?_
      rintro e w3 ⟨rfl, b3⟩
      have G3 := hG2.below b3
      have B3 := b3
      go_wp2_with fail
      refine (add_nil S w3).mono ?_
      rintro e w3' ⟨rfl, rfl⟩
      go_wp2_with fail
      refine (HDN.out w3 G3).mono ?_
      rintro e w4 ⟨rfl, b4⟩
      have B4 := B3.trans (b4.mono B3.size)
      go_wp2_with fail
      refine (HS.out w4 (G3.below b4)).mono ?_
      rintro e w5 ⟨rfl, b5⟩
      have B5 := B4.trans (b5.mono B4.size)
      go_wp2_with fail
      go_ret
      rw [HGB.out]
      exact ⟨rfl, B2.trans (B5.mono (by rw [← HGB.out]; exact B2sz))⟩
section
variable {H : Type} {enc : TypeId × Value → H}
theorem shaHex_walk {r : Reach} {b0 : Nat} (v : Value) (d : DataW H) (p : List MemPlace) (w : World) (hok : Value.okWide Tryd.prog w r b0 24 v) (h : DataW.Trod enc Tryd.prog w 0 (fun _ => true) true 24 v d p) (hG : Gl w) :
    Calls Tryd.prog 7 #[v] w fun e w' => e = .returned (.bool true) ∧ Below w.heap.size w w' := by
  obtain ⟨l, hl, rfl⟩ := open_dig hok h
  exact hexlaw_any l hl w hG
end
end Go.Proofs.YtndhegdhkoileaaDoor
