/- Laws of package view: arguments opened; ViewDiffers. -/
import Derived.Test.YtapmnacggpcffaaVwN
namespace Go.Proofs.Ytapmnacggpcffaa
open Go.ChangeShapes Go.WideShapes Go.Deep Go.RowKit
set_option linter.unusedVariables false
set_option linter.unusedSimpArgs false
theorem list_of_ex {α : Type} : ∀ (n : Nat) (p : Nat → α → Prop), (∀ i, i < n → ∃ x, p i x) → ∃ X : List α, X.length = n ∧ ∀ i (h : i < X.length), p i X[i]
  | 0, p, _ => ⟨[], rfl, fun i h => absurd h (Nat.not_lt_zero _)⟩
  | n + 1, p, h => by
    obtain ⟨X, h1, h2⟩ := list_of_ex n p (fun i hi => h i (by omega))
    obtain ⟨x, hx⟩ := h n (by omega)
    refine ⟨X ++ [x], by simp [h1], fun i hi => ?_⟩
    by_cases e : i < X.length
    · rw [List.getElem_append_left e]; exact h2 i e
    · have : i = n := by simp at hi; omega
      subst this
      rw [List.getElem_append_right (by omega)]
      simpa [h1] using hx
theorem inI_of {a : Int} (h : (Lit.int .i64 a).wf = true) : InI a := by
  have : decide (-9223372036854775808 ≤ a) && decide (a ≤ 9223372036854775807) := h
  simpa [InI] using this
section
variable {H : Type} {enc : TypeId × Value → H} {P : Program} {w : World}
theorem arr_ints13 {t e : TypeId} {n fuel : Nat} {k : IntKind} {cs : List Value} {x : DataW H × List MemPlace} (ht : P.underlying t = some (.array n e)) (he : P.underlying e = some (.int k)) (hc : P.cellsOf e = 1)
    (h : DataW.trod enc P w 0 (fun _ => true) true fuel t cs = some x) : ∀ j, j < n → ∃ z, cs[j]? = some (.int k z) ∧ (Lit.int k z).wf = true := by
  obtain ⟨xs, m, _, _, _, hxl, hi⟩ := DataW.trod_array ht h
  intro j hj
  have h1 := hi j hj
  rw [hc, Nat.mul_one, List.getElem?_eq_getElem (by omega)] at h1
  obtain ⟨z, hz, _, hw⟩ := DataW.trod_int he h1
  refine ⟨z, ?_, hw⟩
  have := congrArg (fun l => l[0]?) hz
  simpa [List.getElem?_take, List.getElem?_drop] using this
end
def u8at13 (l : List Value) (j : Nat) : UInt8 := match l[j]? with | some (.int _ z) => UInt8.ofNat z.toNat | _ => 0
theorem u8_wf13 {z : Int} (h : (Lit.int .u8 z).wf = true) : ((UInt8.ofNat z.toNat).toNat : Int) = z := by
  have h2 : IntKind.u8.min ≤ z ∧ z ≤ IntKind.u8.max := by simpa [Lit.wf] using h
  rw [show IntKind.u8.min = 0 from by decide, show IntKind.u8.max = 255 from by decide] at h2
  obtain ⟨h3, h4⟩ := h2
  rw [UInt8.toNat_ofNat']
  omega
section
variable {H : Type} {enc : TypeId × Value → H} {w : World}
/-- One block, from its cells. -/
theorem cg_cells {n : Nat} {cs : List Value} {y : DataW H × List MemPlace} (h : DataW.trod enc Try.prog w 0 (fun _ => true) true n 51 cs = some y) : cs.length = 2 ∧ ∃ x : Cg, cs[0]? = some (.int .i64 x.1) ∧ cs[1]? = some (.string x.2) ∧ InI x.1 := by
  obtain ⟨f0, f1, hs, ⟨t0, o0⟩, ⟨t1, o1⟩⟩ := change_fields
  obtain ⟨ys, n2, hn', hy, hlen, hyl, hf'⟩ := DataW.trod_struct hs h
  have hcl : cs.length = 2 := hlen.trans (by kernel_rfl)
  have hyl2 : ys.length = 2 := hyl
  obtain ⟨y0, g0⟩ : ∃ y, ys[0]? = some y := ⟨_, List.getElem?_eq_getElem (by omega)⟩
  obtain ⟨y1, g1⟩ : ∃ y, ys[1]? = some y := ⟨_, List.getElem?_eq_getElem (by omega)⟩
  have k0 := hf' 0 f0 rfl
  have k1 := hf' 1 f1 rfl
  rw [t0, o0, g0, show Try.prog.cellsOf 3 = 1 from by kernel_rfl, take_one _ _ (by omega)] at k0
  rw [t1, o1, g1, show Try.prog.cellsOf 9 = 1 from by kernel_rfl, take_one _ _ (by omega)] at k1
  obtain ⟨z, hz, hw⟩ := field_int Try.underlying3 k0
  obtain ⟨s, hs'⟩ := field_str Try.underlying9 k1
  exact ⟨hcl, (z, s), by rw [List.getElem?_eq_getElem (by omega), hz], by rw [List.getElem?_eq_getElem (by omega), hs'], inI_of hw⟩
theorem open_cgN {n : Nat} {v : Value} {y : DataW H × List MemPlace} (h : DataW.trod enc Try.prog w 0 (fun _ => true) true n 22 [v] = some y) :
    ∃ (ao : Option Addr) (len cap : Nat) (ps : List Cg), v = .slice ao len cap ∧ len ≤ cap ∧ cap ≤ maxLen ∧ ps.length = len ∧ CgAt w ao ps ∧ Wf ps := by
  rcases open_slice Try.underlying22 h with ⟨hcs, _⟩ | ⟨a, len, cap, m, n', D, Pl, hcs, hb, hl, hm, hmm, hx, hi⟩
  · simp at hcs
    subst hcs
    exact ⟨none, 0, 0, [], rfl, by omega, by unfold maxLen; omega, rfl, fun h => by simp at h, fun x hx => by simp at hx⟩
  · simp at hcs
    subst hcs
    have hp : ∀ i, i < len → ∃ x : Cg, w.cell? (a.add (i * 2 + 0)) = some (.int .i64 x.1) ∧ w.cell? (a.add (i * 2 + 1)) = some (.string x.2) ∧ InI x.1 := fun i hil => by
      have him : i < m := by rw [hmm]; split <;> omega
      obtain ⟨cs', hc, ht'⟩ := hi i him
      rw [show Try.prog.cellsOf 51 = 2 from by kernel_rfl] at hc
      obtain ⟨_, hcl, hat⟩ := World.cells?_some hc
      obtain ⟨_, x, h0, h1, hw⟩ := cg_cells ht'
      refine ⟨x, ?_, ?_, hw⟩
      · rw [← Go.Deep.add_add, hat 0 (by omega)]; exact h0
      · rw [← Go.Deep.add_add, hat 1 (by omega)]; exact h1
    by_cases h0 : 0 < len
    · obtain ⟨x0, c0, _⟩ := hp 0 h0
      obtain ⟨b, off, spot⟩ := a
      have hspot : spot = none := by
        have := World.cell?_spot c0
        simpa [Addr.add] using this
      subst hspot
      obtain ⟨ps, h1, h2⟩ := list_of_ex len (fun i (x : Cg) => w.cell? ((⟨b, off, none⟩ : Addr).add (i * 2 + 0)) = some (.int .i64 x.1) ∧ w.cell? ((⟨b, off, none⟩ : Addr).add (i * 2 + 1)) = some (.string x.2) ∧ InI x.1) hp
      refine ⟨_, _, _, ps, rfl, hl, hm, h1, fun _ => ⟨b, off, rfl, by simpa [Addr.add] using block_lt_of_cell c0, fun i hil => ?_⟩, fun x hx => ?_⟩
      · have h3 := h2 i hil
        rw [Addr.add_lit, Addr.add_lit] at h3
        exact ⟨h3.1, h3.2.1⟩
      · obtain ⟨i, hi', rfl⟩ := List.getElem_of_mem hx
        exact (h2 i hi').2.2
    · obtain rfl : len = 0 := by omega
      exact ⟨_, _, _, [], rfl, hl, hm, rfl, fun h => by simp at h, fun x hx => by simp at hx⟩
set_option maxRecDepth 100000 in
theorem open_four33 {r : Reach} {b0 : Nat} {v : Value} {d : DataW H} {p : List MemPlace} (hok : Value.okWide Try.prog w r b0 38 v) (h : DataW.Trod enc Try.prog w 0 (fun _ => true) true 38 v d p) :
    ∃ (aL : Option Addr) (cL : Nat) (L : List Cg) (aM : Option Addr) (cM : Nat) (M : List Cg) (slow : Bool) (f : Nat → UInt8), v = .agg (fourA (.slice aL L.length cL) (.slice aM M.length cM) slow f) ∧ L.length ≤ maxLen ∧ CgAt w aL L ∧ M.length ≤ maxLen ∧ CgAt w aM M := by
  obtain ⟨f0, f1, f2, f3, hs, ⟨t0, o0⟩, ⟨t1, o1⟩, ⟨t2, o2⟩, ⟨t3, o3⟩⟩ := four_fields33
  obtain ⟨cs, rfl, hsz⟩ := okWide_struct hs hok
  obtain ⟨l⟩ := cs
  have hl : l.length = 35 := hsz.trans (by kernel_rfl)
  obtain ⟨fuel, hf⟩ := h
  have e0 : (Value.agg ⟨l⟩).cells.toList = l := by simp [Value.cells]
  rw [e0] at hf
  obtain ⟨ys, n2, hn', hy, hlen, hyl, hf'⟩ := DataW.trod_struct hs hf
  have hyl4 : ys.length = 4 := hyl
  obtain ⟨y0, g0⟩ : ∃ y, ys[0]? = some y := ⟨_, List.getElem?_eq_getElem (by omega)⟩
  obtain ⟨y1, g1⟩ : ∃ y, ys[1]? = some y := ⟨_, List.getElem?_eq_getElem (by omega)⟩
  obtain ⟨y2, g2⟩ : ∃ y, ys[2]? = some y := ⟨_, List.getElem?_eq_getElem (by omega)⟩
  obtain ⟨y3, g3⟩ : ∃ y, ys[3]? = some y := ⟨_, List.getElem?_eq_getElem (by omega)⟩
  have k0 := hf' 0 f0 rfl
  have k1 := hf' 1 f1 rfl
  have k2 := hf' 2 f2 rfl
  have k3 := hf' 3 f3 rfl
  rw [t0, o0, g0, show Try.prog.cellsOf 22 = 1 from by kernel_rfl, take_one _ _ (by omega)] at k0
  rw [t1, o1, g1, show Try.prog.cellsOf 22 = 1 from by kernel_rfl, take_one _ _ (by omega)] at k1
  rw [t2, o2, g2, show Try.prog.cellsOf 4 = 1 from by kernel_rfl, take_one _ _ (by omega)] at k2
  rw [t3, o3, g3, show Try.prog.cellsOf 36 = 32 from by kernel_rfl] at k3
  obtain ⟨aL, nL, cL, L, e0, p1, p2, p3, p4, _⟩ := open_cgN k0
  obtain ⟨aM, nM, cM, M, e1, q1, q2, q3, q4, _⟩ := open_cgN k1
  obtain ⟨slow, e2⟩ := field_bool Try.underlying4 k2
  have hr := arr_ints13 Try.underlying36 Try.underlying5 (by kernel_rfl) k3
  subst p3 q3
  refine ⟨aL, cL, L, aM, cM, M, slow, fun j => u8at13 l (3 + j), ?_, by omega, p4, by omega, q4⟩
  congr 1
  unfold fourA ckC
  apply Array.ext_getElem?
  intro i
  rw [List.getElem?_toArray, List.getElem?_toArray]
  rcases i with _ | _ | _ | i
  · rw [List.getElem?_eq_getElem (by omega), e0]; rfl
  · rw [List.getElem?_eq_getElem (by omega), e1]; rfl
  · rw [List.getElem?_eq_getElem (by omega), e2]; rfl
  · by_cases hi : i < 32
    · obtain ⟨z, hz, hw⟩ := hr i hi
      rw [List.getElem?_take, if_pos hi, List.getElem?_drop] at hz
      show l[i + 1 + 1 + 1]? = ((List.range 32).map _)[i]?
      rw [List.getElem?_map, List.getElem?_range hi, show i + 1 + 1 + 1 = 3 + i by omega, hz]
      simp only [Option.map_some]
      unfold u8at13
      rw [hz]
      show _ = some (Value.int .u8 ((UInt8.ofNat z.toNat).toNat : Int))
      rw [u8_wf13 hw]
    · rw [List.getElem?_eq_none (by omega)]
      show none = ((List.range 32).map _)[i]?
      rw [List.getElem?_eq_none (by simp; omega)]
set_option maxRecDepth 100000 in
theorem viewDiffers_walk {r : Reach} {b0 : Nat} (v : Value) (d : DataW H) (q : List MemPlace) (w : World) (hok : Value.okWide Try.prog w r b0 38 v) (h : DataW.Trod enc Try.prog w 0 (fun _ => true) true 38 v d q) :
    Calls Try.prog 4 #[v] w fun e w' => e = .returned (.bool true) ∧ Below w.heap.size w w' := by
  obtain ⟨aL, cL, L, aM, cM, M, slow, f, rfl, h1, h2, h3, h4⟩ := open_four33 hok h
  exact viewDiffers_any aL aM cL cM L M slow f w h2 h1 h4 h3
end
end Go.Proofs.Ytapmnacggpcffaa
