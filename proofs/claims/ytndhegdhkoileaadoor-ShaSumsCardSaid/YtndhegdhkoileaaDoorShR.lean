/- The law ShaParts. -/
import Derived.Test.YtndhegdhkoileaaDoorShQ
import Derived.Deep.Slices
import Derived.Lib.Builder
namespace Go.Proofs.YtndhegdhkoileaaDoor
open Go.ChangeShapes Go.WideShapes Go.Deep Go.RowKit
set_option linter.unusedVariables false
set_option linter.unusedSimpArgs false
theorem run_neq_rowb {P : Program} {t e : TypeId} {n m : Nat} (f : Nat → Int) (ht : P.underlying t = some (.array n e)) (he : P.underlying e = some (.int .u8)) (hsz : ∀ w, (sizeOf e).run P w = .ok 1 w) (hm : n = m) (w : World) :
    (binOp .neq t (.agg (rowB f m).toArray) (.agg (rowB f m).toArray)).run P w = .ok (.bool false) w := by
  subst hm
  rw [run_neq_struct, show (10000 : Nat) = 9998 + 2 from rfl, Op.equalIn]
  simp only [Sem.run_bind, run_underlying ht, Result.andThen_ok, hsz, Std.Legacy.Range.forIn_eq_forIn_range', Std.Legacy.Range.size, Nat.sub_zero, Nat.add_sub_cancel, Nat.div_one]
  have hl : ∀ i ∈ List.range' 0 n 1, i < n := fun i hi => by simpa using (List.mem_range'_1.1 hi).2
  generalize List.range' 0 n 1 = l at hl ⊢
  induction l with
  | nil => simp
  | cons i l ih =>
    have hi : i < n := hl i (by simp)
    have px : ∀ h : Nat → Int, (part e (rowB h n).toArray (i * 1)).run P w = .ok (.int .u8 (h i)) w := fun h => by
      simp [part, isAgg, run_underlying he, rowB, hi]
    have pe : (Op.equalIn (9998 + 1) e (.int .u8 (f i)) (.int .u8 (f i))).run P w = .ok (f i == f i) w := run_equalIn_int w 9998 e .u8 .u8 _ _ he
    simp only [List.forIn_cons, Sem.run_bind, px, pe, Result.andThen_ok, beq_self_eq_true, Bool.not_true, Bool.false_eq_true, if_false, Sem.run_pure]
    exact ih fun j hj => hl j (by simp [hj])
theorem neq_dig (l : List UInt8) (hl : l.length = 32) (w : World) : (binOp .neq 24 (.agg (digA l)) (.agg (digA l))).run Tryd.prog w = .ok (.bool false) w := by
  unfold digA
  rw [bv_row, run_neq_rowb _ Tryd.underlying24 Tryd.underlying5 size_b hl.symm w]
theorem ptr_neq (w : World) (g : Nat) : (binOp .neq 38 (.pointer (some ⟨g, 0, none⟩)) (.pointer (some ⟨g, 0, none⟩))).run Tryd.prog w = .ok (.bool false) w := by
  obtain ⟨j, hj⟩ : ∃ j, Tryd.prog.info? 60 = some j := Option.isSome_iff_exists.1 (by kernel_rfl)
  exact Lib.run_neq_ptr_same w ⟨g, 0, none⟩ Tryd.underlying38 hj
section
variable {H : Type} {enc : TypeId × Value → H} {P : Program} {w : World}
/-- A slice of strings that came in. -/
def StrRow (w : World) (ao : Option Addr) (len : Nat) : Prop := 0 < len → ∃ b off, ao = some ⟨b, off, none⟩ ∧ b < w.heap.size ∧ ∀ i, i < len → ∃ s, w.cell? ⟨b, off + i, none⟩ = some (.string s)
theorem cell_lt' {w : World} {a : Addr} {v : Value} (h : w.cell? a = some v) : a.block < w.heap.size := block_lt_of_cell h
theorem open_strs {t e : TypeId} {v : Value} {d : DataW H} {p : List MemPlace} (ht : P.underlying t = some (.slice e)) (he : P.underlying e = some .string) (hC : P.cellsOf e = 1)
    (hok : ∃ a len cap, v = .slice a len cap) (h : DataW.Trod enc P w 0 (fun _ => true) true t v d p) : ∃ ao len cap, v = .slice ao len cap ∧ len ≤ maxLen ∧ StrRow w ao len := by
  obtain ⟨a0, l0, c0, rfl⟩ := hok
  obtain ⟨fuel, hf⟩ := h
  rcases open_slice ht hf with ⟨hcs, _⟩ | ⟨a, len, cap, m, n, D, Pl, hcs, hb, hl, hm, hmm, hx, hi⟩
  · simp [Value.cells] at hcs
    obtain ⟨rfl, rfl, rfl⟩ := hcs
    exact ⟨_, _, _, rfl, by unfold maxLen; omega, fun h => absurd h (by omega)⟩
  · simp [Value.cells] at hcs
    obtain ⟨rfl, rfl, rfl⟩ := hcs
    have hs : ∀ i, i < l0 → ∃ s, w.cell? (a.add i) = some (.string s) := fun i hil => by
      have him : i < m := by rw [hmm]; split <;> omega
      obtain ⟨cs', hc, ht'⟩ := hi i him
      rw [hC] at hc
      obtain ⟨_, hcl, hat⟩ := World.cells?_some hc
      obtain ⟨s, rfl, _⟩ := DataW.trod_string he ht'
      have h1 := hat 0 (by omega)
      rw [Nat.mul_one] at h1
      refine ⟨s, ?_⟩
      rw [Go.Deep.add_add, Nat.add_zero] at h1
      exact h1
    refine ⟨_, _, _, rfl, by omega, fun hpos => ?_⟩
    obtain ⟨s0, h0⟩ := hs 0 hpos
    obtain ⟨b, off, spot⟩ := a
    have hspot : spot = none := by
      have := World.cell?_spot h0
      simpa [Addr.add] using this
    subst hspot
    refine ⟨b, off, rfl, by simpa [Addr.add] using cell_lt' h0, fun i hil => ?_⟩
    obtain ⟨s, h1⟩ := hs i hil
    exact ⟨s, by rw [← h1, Addr.add_lit]⟩
end
theorem cat_data (A s : ByteArray) : (A ++ s).data.toList = A.data.toList ++ s.data.toList := by
  rw [bytes_ba A, bytes_ba s, bytes_add]
theorem cat_size (A s : ByteArray) : (A ++ s).size = A.size + s.size := by
  rw [Lib.size_eq, Lib.size_eq, Lib.size_eq, cat_data, List.length_append]
attribute [local irreducible] work blk klist kL layV padL wv0 rst tailL sumL hexL digA
set_option maxRecDepth 100000 in
set_option maxHeartbeats 2000000 in
theorem parts_any (ao : Option Addr) (len cap : Nat) (w : World) (hm : len ≤ maxLen) (hR : StrRow w ao len) (hG : Gl w) : Calls Tryd.prog 5 #[.slice ao len cap] w fun e w' => e = .returned (.bool true) ∧ Below w.heap.size w w' := by
  unfold maxLen at hm
  have hm2 : (len : Int) ≤ 9223372036854775807 := by omega
  have hG1 := hG.sf
  have hG2 := hG.sk
  have HR := Lib.hid hR
  clear hR
  go_enter Tryd.func5, Tryd.ntmps5
  go_wp2_with fail
  refine (new_any w.heap.size w hG (Nat.le_refl _)).mono ?_
  rintro e w1 ⟨rfl, H1, B1⟩
  go_wp2_with fail
  generalize hgb : w.heap.size = gb at *
  have HGB := Lib.hid hgb
  clear hgb
  go_loopw [4, 5] (fun s x wi => ∃ (i : Nat) (A : ByteArray), x = .int .i64 i ∧ i ≤ 20 ∧ s = .string A ∧ A.size ≤ 500 * i ∧ Hid (HashAt gb wi gb A.data.toList) ∧ Hid (Below gb w wi)) (fun _ x _ => 20 - (intOf x).toNat)
  case atStart => exact ⟨0, ⟨#[]⟩, rfl, by omega, rfl, by decide, Lib.hid H1, Lib.hid B1⟩
  case round =>
    obtain ⟨i, A, rfl, hi, rfl, hA, HH, HB⟩ := hrel
    by_cases hlt : i < 20 ∧ i < len
    · obtain ⟨hi20, hil⟩ := hlt
      have hli : (i : Int) < 20 := by omega
      have hli2 : (i : Int) < (len : Int) := by omega
      obtain ⟨b, off, rfl, hbl, hcs⟩ := HR.out (by omega)
      obtain ⟨s, hs⟩ := hcs i hil
      rw [HGB.out] at hbl
      have hs' : wr.cell? ⟨b, off + i, none⟩ = some (.string s) := (HB.out.cell (p := ⟨b, off + i, none⟩) hbl).trans hs
      have HBB := HB.out.size
      clear hs hcs
      by_cases h500 : 500 < s.size
      · have h5 : (500 : Int) < (s.size : Int) := by omega
        go_wp2_with fail
        go_roundw
        case rel => exact ⟨i + 1, A, by go_num, by omega, rfl, by omega, HH, HB⟩
        case measure => simp [intOf]; omega
      · have h5 : (s.size : Int) ≤ 500 := by omega
        have a1 : (9223372036854775807 < A.size + s.size) = False := by simp; omega
        have hA2 : (A ++ s).size ≤ 500 * (i + 1) := by rw [cat_size]; omega
        have HA3 := Lib.hid hA2
        have HLN : Hid (A.data.toList.length = A.size) := Lib.hid (by rw [← Lib.size_eq])
        have HCD := Lib.hid (cat_data A s)
        have GR := hG.below (HGB.out.symm ▸ HB.out)
        have hned := neq_dig (sumL (A ++ s).data.toList) (sumL_len _)
        have HS := Lib.hid (fun w hw => sum_any (A ++ s) w (by have := HA3.out; omega) hw)
        have HDG := Lib.hid (fun w hw hh => digest_any gb gb (A ++ s).data.toList w hw hh (by rw [← Lib.size_eq]; have := HA3.out; omega))
        have hpn : ∀ w, (binOp .neq 38 (.pointer (some ⟨gb, 0, none⟩)) (.pointer (some ⟨gb, 0, none⟩))).run Tryd.prog w = .ok (.bool false) w := fun w => ptr_neq w gb
        generalize digA (sumL (A ++ s).data.toList) = SD at *
        clear hA2
        go_wp2_with fail
        refine (add_any gb gb A.data.toList s wr GR hG1 hG2 (by rw [← HGB.out]; exact HBB) HH.out (by rw [HLN.out]; omega)).mono ?_
        rintro e w3 ⟨rfl, H3, b3⟩
        rw [← HCD.out] at H3
        have H3h := Lib.hid H3
        have B3 := Lib.hid (HB.out.trans b3)
        have G3 := hG.below (HGB.out.symm ▸ B3.out)
        clear H3 b3
        go_wp2_with fail
        refine (HDG.out w3 G3 H3h.out).mono ?_
        rintro e w4 ⟨rfl, b4⟩
        have H4 := Lib.hid (H3h.out.below b4)
        have B4 := Lib.hid (B3.out.trans (b4.mono (by have := B3.out.size; rw [HGB.out] at this; exact this)))
        have G4 := G3.below b4
        clear b4
        go_wp2_with fail
        refine (HS.out w4 G4).mono ?_
        rintro e w5 ⟨rfl, b5⟩
        have H5 := Lib.hid (H4.out.below b5)
        have B5 := Lib.hid (B4.out.trans (b5.mono (by have := B4.out.size; rw [HGB.out] at this; exact this)))
        clear b5
        go_wp2_with fail
        go_roundw
        case rel => exact ⟨i + 1, A ++ s, by go_num, by omega, rfl, HA3.out, H5, B5⟩
        case measure => simp [intOf]; omega
    · have hx : ¬ ((i : Int) < 20) ∨ ¬ ((i : Int) < (len : Int)) := by omega
      have GR := hG.below (HGB.out.symm ▸ HB.out)
      have hed := eql_dig (sumL A.data.toList) (sumL_len _)
      have HS := Lib.hid (fun w hw => sum_any A w (by omega) hw)
      have HDG := Lib.hid (fun w hw hh => digest_any gb gb A.data.toList w hw hh (by rw [← Lib.size_eq]; omega))
      generalize digA (sumL A.data.toList) = SD at *
      have HAW := Lib.hid (awake_any wr GR)
      rcases hx with hx | hx <;> go_wp2_with fail
      all_goals
        refine HAW.out.mono ?_
        rintro e w3 ⟨rfl, b3⟩
        have H3 := Lib.hid (HH.out.below b3)
        have B3 := Lib.hid (HB.out.trans (b3.mono (by have := HB.out.size; rw [HGB.out] at this; exact this)))
        have G3 := GR.below b3
        clear b3
        go_wp2_with fail
        refine (HDG.out w3 G3 H3.out).mono ?_
        rintro e w4 ⟨rfl, b4⟩
        have B4 := Lib.hid (B3.out.trans (b4.mono (by have := B3.out.size; rw [HGB.out] at this; exact this)))
        have G4 := G3.below b4
        clear b4
        go_wp2_with fail
        refine (HS.out w4 G4).mono ?_
        rintro e w5 ⟨rfl, b5⟩
        have B5 := Lib.hid (B4.out.trans (b5.mono (by have := B4.out.size; rw [HGB.out] at this; exact this)))
        clear b5
        go_wp2_with fail
        go_ret
        exact ⟨rfl, by first | exact B5.out | (rw [HGB.out]; exact B5.out)⟩
section
variable {H : Type} {enc : TypeId × Value → H}
theorem shaParts_walk (v : Value) (d : DataW H) (p : List MemPlace) (w : World) (hok : ∃ a len cap, v = .slice a len cap) (h : DataW.Trod enc Tryd.prog w 0 (fun _ => true) true 37 v d p) (hG : Gl w) :
    Calls Tryd.prog 5 #[v] w fun e w' => e = .returned (.bool true) ∧ Below w.heap.size w w' := by
  obtain ⟨ao, len, cap, rfl, hm, hR⟩ := open_strs Tryd.underlying37 Tryd.underlying9 (by kernel_rfl) hok h
  exact parts_any ao len cap w hm hR hG
end
end Go.Proofs.YtndhegdhkoileaaDoor
