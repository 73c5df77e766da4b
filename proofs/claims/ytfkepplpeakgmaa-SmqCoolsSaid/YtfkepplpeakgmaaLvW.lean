/- The reference's queue: Put. -/
import Derived.Test.YtfkepplpeakgmaaLvU
import Derived.Test.YtfkepplpeakgmaaApp
namespace Go.Proofs.Ytfkepplpeakgmaa
open Go.RowKit Go.Deep
set_option linter.unusedVariables false
set_option linter.unusedSimpArgs false
theorem XqAt.congr {w : World} {B h : Nat} {X Y : Nat → List Nat} (hX : XqAt w B h X) (e : ∀ l, l < 4 → Y l = X l) : XqAt w B h Y := by
  obtain ⟨hB, s, hs, ho⟩ := hX
  exact ⟨hB, s, hs, fun l hl => by rw [e l hl]; exact ho l hl⟩
theorem src_own {w : World} {base n c : Nat} {ao : Option Addr} {L : List Nat} (h : w.ownsRow base 3 1 (.slice ao n c) n (nvL L)) : Src Try.prog 1 39 (.slice ao n c) n (nvL L) w := by
  have h0 := h
  obtain ⟨hl, h | ⟨g, cap, cur, e, _⟩⟩ := h0
  · obtain ⟨e, rfl⟩ := h
    injection e with e1 _ e3
    subst e1 e3
    have : nvL L = [] := List.eq_nil_of_length_eq_zero (by simpa using hl)
    rw [this]
    exact Src.ofNil _ Try.underlying39 _
  · injection e with e1 _ e3
    subst e1 e3
    refine Src.ofSlice _ Try.underlying39 ⟨g, 0, none⟩ n c (nvL L) hl (h.cells rfl) ?_
    intro u hu
    unfold nvL at hu
    obtain ⟨x, _, rfl⟩ := List.mem_map.1 hu
    rfl
theorem rem4 (X : Nat → List Nat) (i : Nat) : ∀ l, l < 4 → rem X i l = remK X i 4 l := fun l hl => by unfold remK; rw [if_pos hl]; rfl
theorem rem_len {X : Nat → List Nat} (i : Nat) {l : Nat} (h : (X l).length ≤ 16) : (rem X i l).length ≤ 16 := Nat.le_trans (List.length_filter_le _ _) h
set_option maxRecDepth 100000 in
set_option maxHeartbeats 8000000 in
theorem rput_any (B h i l : Nat) (X : Nat → List Nat) (w : World) (hX : XqAt w B h X) (hBw : B ≤ w.heap.size) (hl : ∀ l, l < 4 → (X l).length ≤ 16) (hll : l < 4) : Calls Try.prog 35 #[.pointer (some ⟨h, 0, none⟩), .int .i64 (i : Int), .int .i64 (l : Int)] w fun e w' => e = .returned (.tuple #[]) ∧ XqAt w' B h (put X i l) ∧ Kq B [h] w w' := by
  have CR := Lib.hid (rremove_any B h i X w hX hBw hl)
  have HR : Hid ((rem X i l).length ≤ 16) := Lib.hid (rem_len i (hl l hll))
  obtain ⟨i0, hi0, hz0, hz1, hz2⟩ := info_partsD info_i64D
  clear hX hl
  go_enter Try.func35, Try.ntmps35
  go_wp2_with fail
  refine CR.out.mono ?_
  rintro e w1 ⟨rfl, hX1, hK1⟩
  have HX1 := Lib.hid (hX1.congr (rem4 X i))
  have HK1 := Lib.hid hK1
  have hB1 : B ≤ w1.heap.size := Nat.le_trans hBw hK1.below.size
  clear hX1 hK1 CR
  obtain ⟨hBh, s, hs, ho⟩ := HX1.out
  have hhw : h < w1.heap.size := World.rowIs.lt hs
  obtain ⟨ao, c, e, _⟩ := own_zi (ho l hll)
  have HO0 := Lib.hid (ho l hll)
  rw [e] at HO0
  have c0 : w1.cell? ⟨h, l, none⟩ = some (.slice ao (rem X i l).length c) := by rw [← e]; exact World.rowIs.cell hs hll
  clear hs ho e
  have hli : (l : Int) < 4 := by omega
  obtain ⟨len, hlen⟩ : ∃ len, Hid ((rem X i l).length = len) := ⟨_, Lib.hid rfl⟩
  rw [hlen.out] at HO0 HR c0
  have hlen16 := HR.out
  have hnn : (w1.alloc (.cells #[] 3)).ownsRow w1.heap.size 3 1 (.slice (some ⟨w1.heap.size, 0, none⟩) 0 0) 0 [] := World.ownsRow_made _ _ _ (Nat.le_refl _) (Nat.zero_le _) rfl
  have hba : Below w1.heap.size w1 (w1.alloc (.cells #[] 3)) := (Below.refl _ _).alloc (Nat.le_refl _) _
  have c1 := (hba.cell (p := ⟨h, l, none⟩) hhw).trans c0
  have HNN := Lib.hid hnn
  have HBA := Lib.hid hba
  have HO1 := Lib.hid (own_belowD HO0.out hba)
  clear hnn hba
  have HL0 : Hid ((nvL (rem X i l)).length = len) := Lib.hid (by rw [nvL_length]; exact hlen.out)
  have HXB := Lib.hid (HX1.out.below HBA.out)
  have hszA := HBA.out.size
  generalize hwa : w1.alloc (.cells #[] 3) = wa at *
  go_wp2_with (at_builtin; refine wpList_append_src _ rfl _ _ 39 39 rfl w1.heap.size 3 i0 (.int .i64 0) Try.underlying39 hi0 hz0 (by rw [hz1]; rfl) (.slice (some ⟨w1.heap.size, 0, none⟩) 0 0) 0 [] rfl (by rw [hz1]; exact HNN.out) (.slice ao len c) len (nvL (rem X i l)) rfl (by rw [hz1]; exact src_own HO1.out) (by unfold maxLen; omega) (by rw [hz2]; omega) hszA ?_)
  intro v2 w2 O2 G2
  obtain ⟨a2, m2, c2, rfl⟩ := own_slice O2
  have em : m2 = len := by
    obtain ⟨a, c', e⟩ := own_slD O2
    injection e
  subst em
  have HB2 := Lib.hid (HBA.out.grown G2 hszA (fun j e => (HNN.out.lt j e).1))
  have HO2 := Lib.hid O2
  clear O2 G2 HNN
  have hsz2 := HB2.out.size
  go_wp2_with (at_builtin; refine wpList_append_own _ rfl _ _ 39 rfl w1.heap.size 3 i0 (.int .i64 0) 1 8 Try.underlying39 hi0 hz0 hz1 hz2 rfl (by decide) _ _ _ rfl (HO2.out.alloc _) ⟨w2.heap.size, 0, none⟩ 1 1 [.int .i64 (i : Int)] rfl rfl ?c1 ?c2 ?c3 ?c4 ?c5 ?_)
  case c1 =>
    intro q u hq
    match q, hq with
    | 0, hq => simp at hq; subst hq; exact World.cell?_alloc_at (w := w2) _ _ _ _ rfl
  case c2 => intro u hu; simp at hu; subst hu; rfl
  case c3 => unfold maxLen; omega
  case c4 => omega
  case c5 => simp; omega
  intro v3 w3 O3 G3 _
  have HB3 := Lib.hid ((HB2.out.alloc hsz2 _).grown G3 (by simp; omega) (fun j e => (HO2.out.lt j e).1))
  obtain ⟨a3, m3, c3, rfl⟩ := own_slice O3
  have O3' : w3.ownsRow w1.heap.size 3 1 (.slice a3 m3 c3) (rem X i l ++ [i]).length (nvL (rem X i l ++ [i])) := by
    rw [nvL_snoc, List.length_append, hlen.out]; exact O3
  have HX3 := HX1.out.below HB3.out
  have HXF : Hid (XqAt (w3.setCell ⟨h, l, none⟩ (.slice a3 m3 c3)) B h (put X i l)) := Lib.hid (HX3.store hll (own_base O3' hB1))
  have HKF := Lib.hid ((HK1.out.trans (Kq.of_below HB3.out hB1)).setCell l (.slice a3 m3 c3) hBh (by simp))
  have f0 : w3.frozen? ⟨h, l, none⟩ = false := by obtain ⟨_, s, hs, _⟩ := HX3; exact World.rowIs.frozen hs l
  have c4 := (HB3.out.cell (p := ⟨h, l, none⟩) hhw).trans c0
  clear c0 c1 O3 G3 O3' HX3 HB3 HO2 HB2 HXB HBA HX1 HK1 HO0 HO1
  go_wp2_with fail
  go_end0
  exact ⟨rfl, HXF.out, HKF.out⟩
end Go.Proofs.Ytfkepplpeakgmaa
