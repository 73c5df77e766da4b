/- Contracts (cellaret): what must come at any rate (layer 3); a nil hasher. -/
import Derived.Test.YtndhegdhkoileaaDoorShN
namespace Go.Proofs.YtndhegdhkoileaaDoor
open Go.RowKit Go.Deep
set_option linter.unusedVariables false
set_option linter.unusedSimpArgs false
def rowB (f : Nat → Int) (n : Nat) : List Value := (List.range n).map fun i => .int .u8 (f i)
theorem run_eql_rowb {P : Program} {t e : TypeId} {n m : Nat} (f g : Nat → Int) (ht : P.underlying t = some (.array n e)) (he : P.underlying e = some (.int .u8)) (hsz : ∀ w, (sizeOf e).run P w = .ok 1 w) (hm : n = m) (w : World) :
    (binOp .eql t (.agg (rowB f m).toArray) (.agg (rowB g m).toArray)).run P w = .ok (.bool ((List.range m).all fun i => f i == g i)) w := by
  subst hm
  rw [run_eql_struct, show (10000 : Nat) = 9998 + 2 from rfl, List.range_eq_range', Op.equalIn]
  simp only [Sem.run_bind, run_underlying ht, Result.andThen_ok, hsz, Std.Legacy.Range.forIn_eq_forIn_range', Std.Legacy.Range.size, Nat.sub_zero, Nat.add_sub_cancel, Nat.div_one]
  have hl : ∀ i ∈ List.range' 0 n 1, i < n := fun i hi => by simpa using (List.mem_range'_1.1 hi).2
  generalize List.range' 0 n 1 = l at hl ⊢
  induction l with
  | nil => simp
  | cons i l ih =>
    have hi : i < n := hl i (by simp)
    have px : ∀ h : Nat → Int, (part e (rowB h n).toArray (i * 1)).run P w = .ok (.int .u8 (h i)) w := fun h => by
      simp [part, isAgg, run_underlying he, rowB, hi]
    have pe : (Op.equalIn (9998 + 1) e (.int .u8 (f i)) (.int .u8 (g i))).run P w = .ok (f i == g i) w := run_equalIn_int w 9998 e .u8 .u8 _ _ he
    simp only [List.forIn_cons, Sem.run_bind, px, pe, Result.andThen_ok, List.all_cons]
    cases hb : (f i == g i)
    · simp
    · simp only [Bool.not_true, Bool.false_eq_true, if_false, Sem.run_pure, Result.andThen_ok, Bool.true_and]
      exact ih fun j hj => hl j (by simp [hj])
theorem bv_row (l : List UInt8) : bv l = rowB (fun i => ((bAt l i).toNat : Int)) l.length := by
  unfold bv rowB
  apply List.ext_getElem?
  intro i
  by_cases h : i < l.length
  · rw [List.getElem?_map, List.getElem?_map, List.getElem?_range h, List.getElem?_eq_getElem h]
    simp only [Option.map_some, bAt, List.getElem?_eq_getElem h]
    rfl
  · rw [List.getElem?_eq_none (by simpa using h), List.getElem?_eq_none (by simpa using h)]
theorem size_b : ∀ w, (sizeOf 5).run Tryd.prog w = .ok 1 w := fun w => by kernel_rfl
theorem eql_dig (l : List UInt8) (hl : l.length = 32) (w : World) : (binOp .eql 24 (.agg (digA l)) (.agg (digA l))).run Tryd.prog w = .ok (.bool true) w := by
  unfold digA
  rw [bv_row, run_eql_rowb _ _ Tryd.underlying24 Tryd.underlying5 size_b hl.symm w]
  simp
theorem layV_len (v : V8) : (layV v).length = 32 := by rw [← lb_all]; simp
theorem sumL_len (l : List UInt8) : (sumL l).length = 32 := layV_len _
theorem abc_hex : hexL (sumL [97, 98, 99]) = [98, 97, 55, 56, 49, 54, 98, 102, 56, 102, 48, 49, 99, 102, 101, 97, 52, 49, 52, 49, 52, 48, 100, 101, 53, 100, 97, 101, 50, 50, 50, 51, 98, 48, 48, 51, 54, 49, 97, 51, 57, 54, 49, 55, 55, 97, 57, 99, 98, 52, 49, 48, 102, 102, 54, 49, 102, 50, 48, 48, 49, 53, 97, 100] := by decide +kernel
theorem abc_str : (⟨(hexL (sumL [97, 98, 99])).toArray⟩ : ByteArray) = ⟨#[98, 97, 55, 56, 49, 54, 98, 102, 56, 102, 48, 49, 99, 102, 101, 97, 52, 49, 52, 49, 52, 48, 100, 101, 53, 100, 97, 101, 50, 50, 50, 51, 98, 48, 48, 51, 54, 49, 97, 51, 57, 54, 49, 55, 55, 97, 57, 99, 98, 52, 49, 48, 102, 102, 54, 49, 102, 50, 48, 48, 49, 53, 97, 100]⟩ := by rw [abc_hex]
attribute [local irreducible] work blk klist kL layV padL wv0 rst tailL sumL hexL digA
set_option maxRecDepth 100000 in
set_option maxHeartbeats 2000000 in
theorem awake_any (w : World) (hG : Gl w) : Calls Tryd.prog 8 #[] w fun e w' => e = .returned (.bool true) ∧ Below w.heap.size w w' := by
  have hG1 := hG.sf
  have hG2 := hG.sk
  have HS := Lib.hid (fun w hw => sum_any ⟨#[97, 98, 99]⟩ w (by decide) hw)
  have htr : sumL (⟨#[97, 98, 99]⟩ : ByteArray).data.toList = sumL [97, 98, 99] := rfl
  rw [htr] at HS
  have HX := Lib.hid (fun w => hex_any (sumL [97, 98, 99]) (sumL_len _) w)
  rw [abc_str] at HX
  have hed := eql_dig (sumL [97, 98, 99]) (sumL_len _)
  have HD := Lib.hid (fun base g w hw hh => digest_any base g (([] ++ (⟨#[97]⟩ : ByteArray).data.toList) ++ (⟨#[98, 99]⟩ : ByteArray).data.toList) w hw hh (by decide))
  have htr2 : sumL (([] ++ (⟨#[97]⟩ : ByteArray).data.toList) ++ (⟨#[98, 99]⟩ : ByteArray).data.toList) = sumL [97, 98, 99] := rfl
  rw [htr2] at HD
  have HA1 := Lib.hid (fun base g w hw h1 h2 h3 hh => add_any base g [] ⟨#[97]⟩ w hw h1 h2 h3 hh (by decide))
  have HA2 := Lib.hid (fun base g w hw h1 h2 h3 hh => add_any base g ([] ++ (⟨#[97]⟩ : ByteArray).data.toList) ⟨#[98, 99]⟩ w hw h1 h2 h3 hh (by decide))
  clear htr htr2
  generalize digA (sumL [97, 98, 99]) = SL at *
  generalize (([] ++ (⟨#[97]⟩ : ByteArray).data.toList) ++ (⟨#[98, 99]⟩ : ByteArray).data.toList) = T2 at *
  generalize ([] ++ (⟨#[97]⟩ : ByteArray).data.toList) = T1 at *
  go_enter Tryd.func8, Tryd.ntmps8
  go_wp2_with fail
  refine (HS.out w hG).mono ?_
  rintro e w1 ⟨rfl, B1⟩
  go_wp2_with fail
  refine (HX.out w1).mono ?_
  rintro e w2 ⟨rfl, b2⟩
  have B2 := B1.trans (b2.mono B1.size)
  clear HX b2 B1
  go_wp2_with fail
  refine (new_any w.heap.size w2 (hG.below B2) B2.size).mono ?_
  rintro e w3 ⟨rfl, H3, b3⟩
  have B3 := B2.trans (b3.mono B2.size)
  clear b3 B2
  generalize w2.heap.size = g at *
  go_wp2_with fail
  refine (HA1.out w.heap.size g w3 (hG.below B3) hG1 hG2 B3.size H3).mono ?_
  rintro e w4 ⟨rfl, H4, b4⟩
  have B4 := B3.trans b4
  clear b4 B3 H3
  go_wp2_with fail
  refine (HA2.out w.heap.size g w4 (hG.below B4) hG1 hG2 B4.size H4).mono ?_
  rintro e w5 ⟨rfl, H5, b5⟩
  have B5 := B4.trans b5
  clear b5 B4 H4
  go_wp2_with fail
  refine (HD.out w.heap.size g w5 (hG.below B5) H5).mono ?_
  rintro e w6 ⟨rfl, b6⟩
  have B6 := B5.trans (b6.mono B5.size)
  clear b6 B5 H5
  go_wp2_with fail
  refine (HS.out w6 (hG.below B6)).mono ?_
  rintro e w7 ⟨rfl, b7⟩
  have B7 := B6.trans (b7.mono B6.size)
  clear b7 B6
  go_wp2_with fail
  go_ret
  exact ⟨rfl, B7⟩
end Go.Proofs.YtndhegdhkoileaaDoor
