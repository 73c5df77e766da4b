/- The reference's devices: Flush. -/
import Derived.Test.YtjmginkkjkbpoaaRwB
namespace Go.Proofs.Ytjmginkkjkbpoaa
open Go.RowKit Go.Deep
set_option linter.unusedVariables false
set_option linter.unusedSimpArgs false
theorem make288 (w : World) : (Instr.makeSlice 30 (.int .i64 288) (.int .i64 288)).run Try.prog w = .ok (.slice (some ⟨w.heap.size, 0, none⟩) 288 288) (w.alloc (.cells (madeCells #[.bool false] 288) 4)) :=
  run_make_row' (P := Try.prog) 30 4 (.bool false) 1 Try.underlying30 (by kernel_rfl) rfl .i64 .i64 288 (by omega) (by omega) (w := w)
theorem made288 (w : World) (B : Nat) (hB : B ≤ w.heap.size) : B288 (w.alloc (.cells (madeCells #[.bool false] 288) 4)) B (.slice (some ⟨w.heap.size, 0, none⟩) 288 288) := by
  obtain ⟨c, h1, h2, h3⟩ := World.rowIs_made w (.bool false) 288 4
  exact ⟨_, 288, fun _ => false, rfl, Nat.le_refl _, by unfold maxLen; omega, hB, ⟨c, h1⟩, fun i hi => (cell_of_row _ _ i _ _ _ h1).trans (h3 i hi)⟩
set_option maxRecDepth 100000 in
set_option maxHeartbeats 2000000 in
theorem dvFlush_any (B g : Nat) (w : World) (hD : DAt w B g) (hBw : B ≤ w.heap.size) : Calls Try.prog 33 #[.pointer (some ⟨g, 0, none⟩)] w fun e w' => e = .returned (.tuple #[]) ∧ DAt w' B g ∧ Kq B [g] w w' := by
  obtain ⟨is, his, hs0, hs1, hs2⟩ := inf12 inf12s
  obtain ⟨hB, n, sf, b, hg, hn, hsf, hb⟩ := hD
  obtain ⟨d0, d1, d2, df⟩ := dv_cells hg
  have HNN := Lib.hid hn
  have HG := Lib.hid hg
  obtain ⟨gn, cn, T, rfl, hc, hcm, hBn, ⟨cs, hgn⟩, hcell⟩ := hn
  have bn : Below w.heap.size w (w.alloc (.cells #[] 9)) := (Below.refl _ _).alloc (Nat.le_refl _) _
  have hgl := (Array.getElem?_eq_some_iff.1 hgn).1
  have hgd := (Array.getElem?_eq_some_iff.1 hg).1
  have HNW : Hid (∀ j u, (txV T 288)[j]? = some u → (w.alloc (.cells #[] 9)).cell? ((⟨gn, 0, none⟩ : Addr).add j) = some u) := Lib.hid (fun j u hu => by
    obtain ⟨hj, rfl⟩ := txV_get T 288 j u hu
    rw [Addr.add_lit, Nat.zero_add]
    exact (bn.cell (p := ⟨gn, j, none⟩) hgl).trans (hcell j hj).1)
  have HSZ : Hid (∀ i, i < 288 → (T i).size = 64) := Lib.hid (fun i hi => (hcell i hi).2)
  have HNR := Lib.hid (nilRow12 w w.heap.size 9 (Nat.le_refl _))
  have hmk := make288
  clear hcell hgn hsf hb hg df d1 d2
  go_enter Try.func33, Try.ntmps33
  go_wp2_with (at_builtin; refine wpList_append_own _ rfl _ _ 77 rfl w.heap.size 9 is (.string ⟨#[]⟩) 1 16 Try.underlying77 his hs0 hs1 hs2 rfl (by decide) _ 0 [] rfl HNR.out ⟨gn, 0, none⟩ 288 cn (txV T 288) rfl (by rw [txV_len]) HNW.out (txV_one T 288) (by unfold maxLen; omega) (by omega) (by simp) ?_)
  intro v1 w1 O G _
  try rw [List.nil_append] at O
  try rw [Nat.zero_add] at O
  have t1 := own_T64 O HSZ.out
  have b1 : Below w.heap.size w w1 := bn.grown G (by simp) (fun q hq => (HNR.out.lt q hq).1)
  obtain ⟨a1, k1, rfl⟩ := t1.sl
  have hg1 := (b1.block g hgd).trans HG.out
  obtain ⟨c0, c1, c2, cf⟩ := dv_cells hg1
  have f1 := cf 1
  have HK1 : Hid (Kq B [g] w (w1.setCell ⟨g, 1, none⟩ (.slice a1 288 k1))) := Lib.hid (kq_one (Kq.of_below b1 hBw) 1 _ hB)
  have HG2 : Hid ((w1.setCell ⟨g, 1, none⟩ (.slice a1 288 k1)).heap[g]? = some (.cells #[.slice (some ⟨gn, 0, none⟩) 288 cn, .slice a1 288 k1, b] 79 (0, 0))) := Lib.hid (heap_set hg1)
  have HT1 : Hid (T64 (w1.setCell ⟨g, 1, none⟩ (.slice a1 288 k1)) B (.slice a1 288 k1)) := Lib.hid ((t1.base hBw).other hg1 (by decide))
  have HT2 : Hid (T64 (w1.setCell ⟨g, 1, none⟩ (.slice a1 288 k1)) B (.slice (some ⟨gn, 0, none⟩) 288 cn)) := Lib.hid ((HNN.out.below b1).other hg1 (by decide))
  clear c0 c2 cf t1 b1 hg1 d0 HG HNN O G bn
  go_upto_region 1 with fail
  clear c1 f1
  generalize w1.setCell ⟨g, 1, none⟩ (.slice a1 288 k1) = w2 at *
  obtain ⟨c0, c1, c2, cf⟩ := dv_cells HG2.out
  have hz2 : B ≤ w2.heap.size := Nat.le_trans hBw HK1.out.below.size
  have hg2l := (Array.getElem?_eq_some_iff.1 HG2.out).1
  obtain ⟨w3, HW3, HM3, b3⟩ : ∃ w3, Hid (w2.alloc (.cells (madeCells #[.bool false] 288) 4) = w3) ∧ Hid (B288 w3 B (.slice (some ⟨w2.heap.size, 0, none⟩) 288 288)) ∧ Below w2.heap.size w2 w3 := ⟨_, Lib.hid rfl, Lib.hid (made288 w2 B hz2), (Below.refl _ _).alloc (Nat.le_refl _) _⟩
  have hg3 := (b3.block g hg2l).trans HG2.out
  obtain ⟨e0, e1, e2, ef⟩ := dv_cells hg3
  have f2 := ef 2
  have HK3 : Hid (Kq B [g] w (w3.setCell ⟨g, 2, none⟩ (.slice (some ⟨w2.heap.size, 0, none⟩) 288 288))) := Lib.hid (kq_one (HK1.out.trans (Kq.of_below b3 hz2)) 2 _ hB)
  have HD3 : Hid (DAt (w3.setCell ⟨g, 2, none⟩ (.slice (some ⟨w2.heap.size, 0, none⟩) 288 288)) B g) := Lib.hid (DAt.set hB hg3 rfl (HT2.out.below b3) (HT1.out.below b3) HM3.out)
  clear e0 e1 cf ef b3 hg3 c1 c2
  go_wp2_with (rw [HW3.out])
  go_end0
  exact ⟨rfl, HD3.out, HK3.out⟩
end Go.Proofs.Ytjmginkkjkbpoaa
