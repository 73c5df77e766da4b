/- The law GfColumns (cellaret): its argument, and the walk. -/
import Derived.Test.YtgojeonpnjjkeaaGfKe
namespace Go.Proofs.Ytgojeonpnjjkeaa
open Go.RowKit Go.Deep Go.ChangeShapes Go.WideShapes
set_option linter.unusedVariables false
theorem row_els {H : Type} {enc : TypeId × Value → H} {w : World} {n : Nat} {s : Value} {y : DataW H × List MemPlace} (h : DataW.trod enc Try.prog w 0 (fun _ => true) true n 37 [s] = some y) :
    ∃ ao m c zs, s = .slice ao m c ∧ m ≤ maxLen ∧ ElsAt w ao m zs ∧ ∀ i, i < m → zs.getD i 0 < 256 := by
  have hs : ∃ a len cap, s = .slice a len cap := by
    rcases open_slice Try.underlying37 h with ⟨hcs, _⟩ | ⟨a, len, cap, _, _, _, _, hcs, _⟩
    · simp at hcs
      exact ⟨_, _, _, hcs⟩
    · simp at hcs
      exact ⟨_, _, _, hcs⟩
  obtain ⟨a0, l0, c0, rfl⟩ := hs
  obtain ⟨ao, len, cap, zs, hv, hm, hz, hw, hc⟩ := open_int_row (enc := enc) (d := y.1) (p := y.2) Try.underlying37 Try.underlying5 (by kernel_rfl) ⟨a0, l0, c0, rfl⟩ ⟨n, h⟩
  have hg : ∀ i, (zs.map Int.toNat).getD i 0 = (zs.getD i 0).toNat := fun i => by
    rw [List.getD_eq_getElem?_getD, List.getD_eq_getElem?_getD, List.getElem?_map]
    cases zs[i]? <;> rfl
  refine ⟨ao, len, cap, zs.map Int.toNat, hv, hm, fun hp => ?_, fun i hi => ?_⟩
  · obtain ⟨b, off, e, l, hcell⟩ := hc hp
    refine ⟨b, off, e, l, fun i hi => ?_⟩
    have := bounds_u8 (hw i hi)
    rw [hcell i hi, hg i, Int.toNat_of_nonneg (by omega)]
  · have := bounds_u8 (hw i hi)
    rw [hg i]
    omega
theorem gfColumns_walk {H : Type} {enc : TypeId × Value → H} {r : Reach} {b0 : Nat} (v : Value) (d : DataW H) (p : List MemPlace) (w : World)
    (hok : Value.okWide Try.prog w r b0 39 v) (h : DataW.Trod enc Try.prog w 0 (fun _ => true) true 39 v d p) :
    Calls Try.prog 7 #[v] w fun e w' => e = .returned (.bool true) ∧ Below w.heap.size w w' := by
  obtain ⟨f, g, s1, s2, y1, y2, n, rfl, hf, hg, h1, h2⟩ := open_cols hok h
  obtain ⟨ao, m, c, zs, rfl, hm, ha, hz⟩ := row_els h1
  obtain ⟨bo, n', c', ys, rfl, hn, hb, hy⟩ := row_els h2
  exact gfColumns_body f g ao bo m n' c c' zs ys w hf hg hm hn ha hb (Lib.hid hz) (Lib.hid hy)
end Go.Proofs.Ytgojeonpnjjkeaa
