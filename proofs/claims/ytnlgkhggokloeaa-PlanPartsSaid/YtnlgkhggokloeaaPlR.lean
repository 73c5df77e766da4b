/- Laws of package plan: arguments opened. -/
import Derived.Test.YtnlgkhggokloeaaPlQ
import Derived.Test.YtnlgkhggokloeaaOpenR
import Derived.OpenShut
import Derived.ChangeArms
namespace Go.Proofs.Ytnlgkhggokloeaa
open Go.ChangeShapes Go.WideShapes Go.Deep Go.RowKit
set_option linter.unusedVariables false
set_option linter.unusedSimpArgs false
theorem list_of_ex {α : Type} : ∀ (n : Nat) (p : Nat → α → Prop), (∀ i, i < n → ∃ x, p i x) → ∃ X : List α, X.length = n ∧ ∀ i (h : i < X.length), p i X[i]
  | 0, p, _ => ⟨[], rfl, fun i h => absurd h (Nat.not_lt_zero _)⟩
  | n + 1, p, h => by
    obtain ⟨X, h1, h2⟩ := list_of_ex n p (fun i hi => h i (by omega))
    obtain ⟨x, hx⟩ := h n (by omega)
    refine ⟨X ++ [x], by simp [h1], fun i hi => ?_⟩
    by_cases e : i < X.length
    · rw [List.getElem_append_left e]; exact h2 i e
    · have : i = n := by simp at hi; omega
      subst this
      rw [List.getElem_append_right (by omega)]
      simpa [h1] using hx
theorem inI_of {a : Int} (h : (Lit.int .i64 a).wf = true) : InI a := by
  have : decide (-9223372036854775808 ≤ a) && decide (a ≤ 9223372036854775807) := h
  simpa [InI] using this
theorem put_fieldsO : ∃ f0 f1, Try.prog.underlying 48 = some (.struct #[f0, f1]) ∧ (f0.type = 3 ∧ f0.offset = 0) ∧ (f1.type = 9 ∧ f1.offset = 1) :=
  ⟨_, _, Try.underlying48, ⟨rfl, rfl⟩, ⟨rfl, rfl⟩⟩
section
variable {H : Type} {enc : TypeId × Value → H} {P : Program} {w : World}
theorem arr_ints13 {t e : TypeId} {n fuel : Nat} {k : IntKind} {cs : List Value} {x : DataW H × List MemPlace} (ht : P.underlying t = some (.array n e)) (he : P.underlying e = some (.int k)) (hc : P.cellsOf e = 1)
    (h : DataW.trod enc P w 0 (fun _ => true) true fuel t cs = some x) : ∀ j, j < n → ∃ z, cs[j]? = some (.int k z) ∧ (Lit.int k z).wf = true := by
  obtain ⟨xs, m, _, _, _, hxl, hi⟩ := DataW.trod_array ht h
  intro j hj
  have h1 := hi j hj
  rw [hc, Nat.mul_one, List.getElem?_eq_getElem (by omega)] at h1
  obtain ⟨z, hz, _, hw⟩ := DataW.trod_int he h1
  refine ⟨z, ?_, hw⟩
  have := congrArg (fun l => l[0]?) hz
  simpa [List.getElem?_take, List.getElem?_drop] using this
end
def u8at13 (l : List Value) (j : Nat) : UInt8 := match l[j]? with | some (.int _ z) => UInt8.ofNat z.toNat | _ => 0
theorem u8_wf13 {z : Int} (h : (Lit.int .u8 z).wf = true) : ((UInt8.ofNat z.toNat).toNat : Int) = z := by
  have h2 : IntKind.u8.min ≤ z ∧ z ≤ IntKind.u8.max := by simpa [Lit.wf] using h
  rw [show IntKind.u8.min = 0 from by decide, show IntKind.u8.max = 255 from by decide] at h2
  obtain ⟨h3, h4⟩ := h2
  rw [UInt8.toNat_ofNat']
  omega
theorem rec_fields : ∃ f0 f1 f2, Try.prog.underlying 34 = some (.struct #[f0, f1, f2]) ∧ (f0.type = 3 ∧ f0.offset = 0) ∧ (f1.type = 30 ∧ f1.offset = 1) ∧ (f2.type = 25 ∧ f2.offset = 33) :=
  ⟨_, _, _, Try.underlying34, ⟨rfl, rfl⟩, ⟨rfl, rfl⟩, ⟨rfl, rfl⟩⟩
theorem rc_list (l : List Value) (hl : l.length = 34) (s : Int) (u : Value) (r : List UInt8) (hr : r.length = 32) (ps : List Pt) (h0 : l[0]? = some (.int .i64 s)) (h1 : ∀ j, j < 32 → l[1 + j]? = some (.int .u8 (((r[j]?.getD 0).toNat : Nat) : Int))) (h2 : l[33]? = some u) : (⟨l⟩ : Array Value) = rcA ⟨s, r, ps⟩ u := by
  unfold rcA
  dsimp only
  apply Array.ext_getElem?
  intro i
  rw [List.getElem?_toArray]
  rcases i with _ | i
  · exact h0
  · rw [List.getElem?_toArray, List.getElem?_cons_succ]
    have hrl : (rootV r).length = 32 := by rw [rootV_len, hr]
    by_cases hi : i < 32
    · rw [List.getElem?_append_left (by omega), Nat.add_comm i 1, h1 i hi]
      unfold rootV
      rw [List.getElem?_map, List.getElem?_eq_getElem (by omega)]
      rfl
    · by_cases e : i = 32
      · subst e
        rw [List.getElem?_append_right (by omega), hrl]
        exact h2
      · rw [List.getElem?_eq_none (by omega), List.getElem?_append_right (by omega), hrl, List.getElem?_eq_none (by simp; omega)]
section
variable {H : Type} {enc : TypeId × Value → H} {w : World}
/-- One block, from its cells. -/
theorem put_cells {n : Nat} {cs : List Value} {y : DataW H × List MemPlace} (h : DataW.trod enc Try.prog w 0 (fun _ => true) true n 48 cs = some y) : cs.length = 2 ∧ ∃ x : Pu, cs[0]? = some (.int .i64 x.1) ∧ cs[1]? = some (.string x.2) ∧ InI x.1 := by
  obtain ⟨f0, f1, hs, ⟨t0, o0⟩, ⟨t1, o1⟩⟩ := put_fieldsO
  obtain ⟨ys, n2, hn', hy, hlen, hyl, hf'⟩ := DataW.trod_struct hs h
  have hcl : cs.length = 2 := hlen.trans (by kernel_rfl)
  have hyl2 : ys.length = 2 := hyl
  obtain ⟨y0, g0⟩ : ∃ y, ys[0]? = some y := ⟨_, List.getElem?_eq_getElem (by omega)⟩
  obtain ⟨y1, g1⟩ : ∃ y, ys[1]? = some y := ⟨_, List.getElem?_eq_getElem (by omega)⟩
  have k0 := hf' 0 f0 rfl
  have k1 := hf' 1 f1 rfl
  rw [t0, o0, g0, show Try.prog.cellsOf 3 = 1 from by kernel_rfl, take_one _ _ (by omega)] at k0
  rw [t1, o1, g1, show Try.prog.cellsOf 9 = 1 from by kernel_rfl, take_one _ _ (by omega)] at k1
  obtain ⟨z, hz, hw⟩ := field_int Try.underlying3 k0
  obtain ⟨s, hs'⟩ := field_str Try.underlying9 k1
  exact ⟨hcl, (z, s), by rw [List.getElem?_eq_getElem (by omega), hz], by rw [List.getElem?_eq_getElem (by omega), hs'], inI_of hw⟩
theorem open_puN {n : Nat} {v : Value} {y : DataW H × List MemPlace} (h : DataW.trod enc Try.prog w 0 (fun _ => true) true n 25 [v] = some y) :
    ∃ (ao : Option Addr) (len cap : Nat) (ps : List Pu), v = .slice ao len cap ∧ len ≤ cap ∧ cap ≤ maxLen ∧ ps.length = len ∧ PuAt w ao ps ∧ Wf ps := by
  rcases open_slice Try.underlying25 h with ⟨hcs, _⟩ | ⟨a, len, cap, m, n', D, Pl, hcs, hb, hl, hm, hmm, hx, hi⟩
  · simp at hcs
    subst hcs
    exact ⟨none, 0, 0, [], rfl, by omega, by unfold maxLen; omega, rfl, fun h => by simp at h, fun x hx => by simp at hx⟩
  · simp at hcs
    subst hcs
    have hp : ∀ i, i < len → ∃ x : Pu, w.cell? (a.add (i * 2 + 0)) = some (.int .i64 x.1) ∧ w.cell? (a.add (i * 2 + 1)) = some (.string x.2) ∧ InI x.1 := fun i hil => by
      have him : i < m := by rw [hmm]; split <;> omega
      obtain ⟨cs', hc, ht'⟩ := hi i him
      rw [show Try.prog.cellsOf 48 = 2 from by kernel_rfl] at hc
      obtain ⟨_, hcl, hat⟩ := World.cells?_some hc
      obtain ⟨_, x, h0, h1, hw⟩ := put_cells ht'
      refine ⟨x, ?_, ?_, hw⟩
      · rw [← Go.Deep.add_add, hat 0 (by omega)]; exact h0
      · rw [← Go.Deep.add_add, hat 1 (by omega)]; exact h1
    by_cases h0 : 0 < len
    · obtain ⟨x0, c0, _⟩ := hp 0 h0
      obtain ⟨b, off, spot⟩ := a
      have hspot : spot = none := by
        have := World.cell?_spot c0
        simpa [Addr.add] using this
      subst hspot
      obtain ⟨ps, h1, h2⟩ := list_of_ex len (fun i (x : Pu) => w.cell? ((⟨b, off, none⟩ : Addr).add (i * 2 + 0)) = some (.int .i64 x.1) ∧ w.cell? ((⟨b, off, none⟩ : Addr).add (i * 2 + 1)) = some (.string x.2) ∧ InI x.1) hp
      refine ⟨_, _, _, ps, rfl, hl, hm, h1, fun _ => ⟨b, off, rfl, by simpa [Addr.add] using block_lt_of_cell c0, fun i hil => ?_⟩, fun x hx => ?_⟩
      · have h3 := h2 i hil
        rw [Addr.add_lit, Addr.add_lit] at h3
        exact ⟨h3.1, h3.2.1⟩
      · obtain ⟨i, hi', rfl⟩ := List.getElem_of_mem hx
        exact (h2 i hi').2.2
    · obtain rfl : len = 0 := by omega
      exact ⟨_, _, _, [], rfl, hl, hm, rfl, fun h => by simp at h, fun x hx => by simp at hx⟩
theorem open_puO {v : Value} {d : DataW H} {p : List MemPlace} (hok : ∃ a len cap, v = .slice a len cap) (hh : DataW.Trod enc Try.prog w 0 (fun _ => true) true 25 v d p) :
    ∃ (ao : Option Addr) (len cap : Nat) (ps : List Pu), v = .slice ao len cap ∧ len ≤ cap ∧ cap ≤ maxLen ∧ ps.length = len ∧ PuAt w ao ps ∧ Wf ps := by
  obtain ⟨a', len', cap', rfl⟩ := hok
  obtain ⟨n, h⟩ := hh
  have ec : (Value.slice a' len' cap').cells.toList = [.slice a' len' cap'] := by simp [Value.cells]
  rw [ec] at h
  rcases open_slice Try.underlying25 h with ⟨hcs, _⟩ | ⟨a, len, cap, m, n', D, Pl, hcs, hb, hl, hm, hmm, hx, hi⟩
  · simp at hcs
    obtain ⟨rfl, rfl, rfl⟩ := hcs
    exact ⟨none, 0, 0, [], rfl, by omega, by unfold maxLen; omega, rfl, fun h => by simp at h, fun x hx => by simp at hx⟩
  · simp at hcs
    obtain ⟨rfl, rfl, rfl⟩ := hcs
    have hp : ∀ i, i < len' → ∃ x : Pu, w.cell? (a.add (i * 2 + 0)) = some (.int .i64 x.1) ∧ w.cell? (a.add (i * 2 + 1)) = some (.string x.2) ∧ InI x.1 := fun i hil => by
      have him : i < m := by rw [hmm]; split <;> omega
      obtain ⟨cs', hc, ht'⟩ := hi i him
      rw [show Try.prog.cellsOf 48 = 2 from by kernel_rfl] at hc
      obtain ⟨_, hcl, hat⟩ := World.cells?_some hc
      obtain ⟨_, x, h0, h1, hw⟩ := put_cells ht'
      refine ⟨x, ?_, ?_, hw⟩
      · rw [← Go.Deep.add_add, hat 0 (by omega)]; exact h0
      · rw [← Go.Deep.add_add, hat 1 (by omega)]; exact h1
    by_cases h0 : 0 < len'
    · obtain ⟨x0, c0, _⟩ := hp 0 h0
      obtain ⟨b, off, spot⟩ := a
      have hspot : spot = none := by
        have := World.cell?_spot c0
        simpa [Addr.add] using this
      subst hspot
      obtain ⟨ps, h1, h2⟩ := list_of_ex len' (fun i (x : Pu) => w.cell? ((⟨b, off, none⟩ : Addr).add (i * 2 + 0)) = some (.int .i64 x.1) ∧ w.cell? ((⟨b, off, none⟩ : Addr).add (i * 2 + 1)) = some (.string x.2) ∧ InI x.1) hp
      refine ⟨_, _, _, ps, rfl, hl, hm, h1, fun _ => ⟨b, off, rfl, by simpa [Addr.add] using block_lt_of_cell c0, fun i hil => ?_⟩, fun x hx => ?_⟩
      · have h3 := h2 i hil
        rw [Addr.add_lit, Addr.add_lit] at h3
        exact ⟨h3.1, h3.2.1⟩
      · obtain ⟨i, hi', rfl⟩ := List.getElem_of_mem hx
        exact (h2 i hi').2.2
    · obtain rfl : len' = 0 := by omega
      exact ⟨_, _, _, [], rfl, hl, hm, rfl, fun h => by simp at h, fun x hx => by simp at hx⟩
/-- One record, from its cells. -/
theorem rec_cells {n : Nat} {cs : List Value} {y : DataW H × List MemPlace} (h : DataW.trod enc Try.prog w 0 (fun _ => true) true n 34 cs = some y) : ∃ x : Rv, cs = rvL x ∧ RvOk w x := by
  obtain ⟨f0, f1, f2, hs, ⟨t0, o0⟩, ⟨t1, o1⟩, ⟨t2, o2⟩⟩ := rec_fields
  obtain ⟨ys, n', hn', hy, hlen, hyl, hf'⟩ := DataW.trod_struct hs h
  have hl : cs.length = 34 := hlen.trans (by kernel_rfl)
  have hyl3 : ys.length = 3 := hyl
  obtain ⟨y0, g0⟩ : ∃ y, ys[0]? = some y := ⟨_, List.getElem?_eq_getElem (by omega)⟩
  obtain ⟨y1, g1⟩ : ∃ y, ys[1]? = some y := ⟨_, List.getElem?_eq_getElem (by omega)⟩
  obtain ⟨y2, g2⟩ : ∃ y, ys[2]? = some y := ⟨_, List.getElem?_eq_getElem (by omega)⟩
  have h0 := hf' 0 f0 rfl
  have h1 := hf' 1 f1 rfl
  have h2 := hf' 2 f2 rfl
  rw [t0, o0, g0, show Try.prog.cellsOf 3 = 1 from by kernel_rfl, take_one _ _ (by omega)] at h0
  rw [t1, o1, g1, show Try.prog.cellsOf 30 = 32 from by kernel_rfl] at h1
  rw [t2, o2, g2, show Try.prog.cellsOf 25 = 1 from by kernel_rfl, take_one _ _ (by omega)] at h2
  obtain ⟨z, hz, _⟩ := field_int Try.underlying3 h0
  have hr := arr_ints13 Try.underlying30 Try.underlying5 (by kernel_rfl) h1
  obtain ⟨ao, m, cap, ps, hv, hnc, hcm, hpl, hP, hW⟩ := open_puN h2
  refine ⟨⟨⟨z, (List.range 32).map fun j => u8at13 cs (1 + j), ps⟩, ao, cap⟩, ?_, by simp, by rw [hpl]; exact hnc, hcm, hP, hW⟩
  have he := rc_list cs hl z (.slice ao m cap) ((List.range 32).map fun j => u8at13 cs (1 + j)) (by simp) ps ?_ (fun j hj => ?_) ?_
  · have he := congrArg Array.toList he
    rw [show (.slice ao m cap : Value) = .slice ao ps.length cap by rw [hpl]] at he
    exact he
  · rw [List.getElem?_eq_getElem (by omega), hz]
  · obtain ⟨q, hq, hw⟩ := hr j hj
    rw [List.getElem?_take, if_pos hj, List.getElem?_drop] at hq
    rw [List.getElem?_map, List.getElem?_range hj]
    simp only [Option.map_some, Option.getD_some]
    rw [hq]
    unfold u8at13
    rw [hq]
    show _ = some (Value.int .u8 ((UInt8.ofNat q.toNat).toNat : Int))
    rw [u8_wf13 hw]
  · rw [List.getElem?_eq_getElem (by omega), hv]
theorem open_recN {n : Nat} {v : Value} {y : DataW H × List MemPlace} (h : DataW.trod enc Try.prog w 0 (fun _ => true) true n 22 [v] = some y) :
    ∃ (ao : Option Addr) (len cap : Nat) (L : List Rv), v = .slice ao len cap ∧ len ≤ cap ∧ cap ≤ maxLen ∧ L.length = len ∧ RsAt w ao L := by
  rcases open_slice Try.underlying22 h with ⟨hcs, _⟩ | ⟨a, len, cap, m, n', D, Pl, hcs, hb, hl, hm, hmm, hx, hi⟩
  · simp at hcs
    subst hcs
    exact ⟨none, 0, 0, [], rfl, by omega, by unfold maxLen; omega, rfl, fun x hx => by simp at hx, fun h => by simp at h⟩
  · simp at hcs
    subst hcs
    have hp : ∀ i, i < len → ∃ x : Rv, (∀ j u, (rvL x)[j]? = some u → w.cell? (a.add (i * 34 + j)) = some u) ∧ RvOk w x := fun i hil => by
      have him : i < m := by rw [hmm]; split <;> omega
      obtain ⟨cs', hc, ht'⟩ := hi i him
      rw [show Try.prog.cellsOf 34 = 34 from by kernel_rfl] at hc
      obtain ⟨_, hcl, hat⟩ := World.cells?_some hc
      obtain ⟨x, rfl, hok⟩ := rec_cells ht'
      refine ⟨x, fun j u hu => ?_, hok⟩
      have hj := (List.getElem?_eq_some_iff.1 hu).1
      rw [rvL_len hok] at hj
      rw [← Go.Deep.add_add, hat j (by omega)]; exact hu
    by_cases h0 : 0 < len
    · obtain ⟨x0, c0, hok0⟩ := hp 0 h0
      have c0 := c0 0 (.int .i64 x0.r.seq) rfl
      obtain ⟨b, off, spot⟩ := a
      have hspot : spot = none := by
        have := World.cell?_spot c0
        simpa [Addr.add] using this
      subst hspot
      obtain ⟨L, h1, h2⟩ := list_of_ex len (fun i (x : Rv) => (∀ j u, (rvL x)[j]? = some u → w.cell? ((⟨b, off, none⟩ : Addr).add (i * 34 + j)) = some u) ∧ RvOk w x) hp
      refine ⟨_, _, _, L, rfl, hl, hm, h1, fun x hx => ?_, fun _ => ⟨b, off, rfl, by simpa [Addr.add] using block_lt_of_cell c0, fun i hil j u hu => ?_⟩⟩
      · obtain ⟨i, hi', rfl⟩ := List.getElem_of_mem hx
        exact (h2 i hi').2
      · have h3 := (h2 i hil).1 j u hu
        rw [Addr.add_lit] at h3
        rw [Nat.add_assoc]
        exact h3
    · obtain rfl : len = 0 := by omega
      exact ⟨_, _, _, [], rfl, hl, hm, rfl, fun x hx => by simp at hx, fun h => by simp at h⟩
theorem open_recs {v : Value} {d : DataW H} {p : List MemPlace} (hok : ∃ a len cap, v = .slice a len cap) (hh : DataW.Trod enc Try.prog w 0 (fun _ => true) true 22 v d p) :
    ∃ (ao : Option Addr) (cap : Nat) (L : List Rv), v = .slice ao L.length cap ∧ L.length ≤ maxLen ∧ L.length ≤ cap ∧ RsAt w ao L := by
  obtain ⟨a', len', cap', rfl⟩ := hok
  obtain ⟨n, h⟩ := hh
  have ec : (Value.slice a' len' cap').cells.toList = [.slice a' len' cap'] := by simp [Value.cells]
  rw [ec] at h
  obtain ⟨ao, len, cap, L, e, h1, h2, h3, h4⟩ := open_recN h
  exact ⟨ao, cap, L, by rw [e, h3], by omega, by omega, h4⟩
end
end Go.Proofs.Ytnlgkhggokloeaa
