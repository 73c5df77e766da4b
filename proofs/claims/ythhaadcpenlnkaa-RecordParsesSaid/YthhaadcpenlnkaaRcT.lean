/- Laws of package record (cellaret): arguments opened. -/
import Derived.Test.YthhaadcpenlnkaaRcS
import Derived.Test.YthhaadcpenlnkaaOpenR
import Derived.OpenShut
import Derived.ChangeArms
namespace Go.Proofs.Ythhaadcpenlnkaa
open Go.ChangeShapes Go.WideShapes Go.Deep Go.RowKit
set_option linter.unusedVariables false
set_option linter.unusedSimpArgs false
section
variable {H : Type} {enc : TypeId × Value → H} {P : Program} {w : World}
theorem arr_ints13 {t e : TypeId} {n fuel : Nat} {k : IntKind} {cs : List Value} {x : DataW H × List MemPlace} (ht : P.underlying t = some (.array n e)) (he : P.underlying e = some (.int k)) (hc : P.cellsOf e = 1)
    (h : DataW.trod enc P w 0 (fun _ => true) true fuel t cs = some x) : ∀ j, j < n → ∃ z, cs[j]? = some (.int k z) ∧ (Lit.int k z).wf = true := by
  obtain ⟨xs, m, _, _, _, hxl, hi⟩ := DataW.trod_array ht h
  intro j hj
  have h1 := hi j hj
  rw [hc, Nat.mul_one, List.getElem?_eq_getElem (by omega)] at h1
  obtain ⟨z, hz, _, hw⟩ := DataW.trod_int he h1
  refine ⟨z, ?_, hw⟩
  have := congrArg (fun l => l[0]?) hz
  simpa [List.getElem?_take, List.getElem?_drop] using this
end
def u8at13 (l : List Value) (j : Nat) : UInt8 := match l[j]? with | some (.int _ z) => UInt8.ofNat z.toNat | _ => 0
theorem u8_wf13 {z : Int} (h : (Lit.int .u8 z).wf = true) : ((UInt8.ofNat z.toNat).toNat : Int) = z := by
  have h2 : IntKind.u8.min ≤ z ∧ z ≤ IntKind.u8.max := by simpa [Lit.wf] using h
  rw [show IntKind.u8.min = 0 from by decide, show IntKind.u8.max = 255 from by decide] at h2
  obtain ⟨h3, h4⟩ := h2
  rw [UInt8.toNat_ofNat']
  omega
theorem rec_fields : ∃ f0 f1 f2, Try.prog.underlying 26 = some (.struct #[f0, f1, f2]) ∧ (f0.type = 3 ∧ f0.offset = 0) ∧ (f1.type = 23 ∧ f1.offset = 1) ∧ (f2.type = 24 ∧ f2.offset = 33) :=
  ⟨_, _, _, Try.underlying26, ⟨rfl, rfl⟩, ⟨rfl, rfl⟩, ⟨rfl, rfl⟩⟩
theorem put_fields : ∃ f0 f1, Try.prog.underlying 48 = some (.struct #[f0, f1]) ∧ (f0.type = 3 ∧ f0.offset = 0) ∧ (f1.type = 9 ∧ f1.offset = 1) :=
  ⟨_, _, Try.underlying48, ⟨rfl, rfl⟩, ⟨rfl, rfl⟩⟩
theorem rc_list (l : List Value) (hl : l.length = 34) (s : Int) (u : Value) (r : List UInt8) (hr : r.length = 32) (ps : List Pt) (h0 : l[0]? = some (.int .i64 s)) (h1 : ∀ j, j < 32 → l[1 + j]? = some (.int .u8 (((r[j]?.getD 0).toNat : Nat) : Int))) (h2 : l[33]? = some u) : (⟨l⟩ : Array Value) = rcA ⟨s, r, ps⟩ u := by
  unfold rcA
  dsimp only
  apply Array.ext_getElem?
  intro i
  rw [List.getElem?_toArray]
  rcases i with _ | i
  · exact h0
  · rw [List.getElem?_toArray, List.getElem?_cons_succ]
    have hrl : (rootV r).length = 32 := by rw [rootV_len, hr]
    by_cases hi : i < 32
    · rw [List.getElem?_append_left (by omega), Nat.add_comm i 1, h1 i hi]
      unfold rootV
      rw [List.getElem?_map, List.getElem?_eq_getElem (by omega)]
      rfl
    · by_cases e : i = 32
      · subst e
        rw [List.getElem?_append_right (by omega), hrl]
        exact h2
      · rw [List.getElem?_eq_none (by omega), List.getElem?_append_right (by omega), hrl, List.getElem?_eq_none (by simp; omega)]
section
variable {H : Type} {enc : TypeId × Value → H} {w : World}
theorem open_puts {n : Nat} {v : Value} {y : DataW H × List MemPlace} (h : DataW.trod enc Try.prog w 0 (fun _ => true) true n 24 [v] = some y) :
    ∃ (ao : Option Addr) (len cap : Nat) (ps : List Pt), v = .slice ao len cap ∧ len ≤ cap ∧ cap ≤ maxLen ∧ ps.length = len ∧ PtAt w ao ps := by
  rcases open_slice Try.underlying24 h with ⟨hcs, _⟩ | ⟨a, len, cap, m, n', D, Pl, hcs, hb, hl, hm, hmm, hx, hi⟩
  · simp at hcs
    subst hcs
    exact ⟨none, 0, 0, [], rfl, by omega, by unfold maxLen; omega, rfl, fun h => by simp at h⟩
  · simp at hcs
    subst hcs
    obtain ⟨f0, f1, hs, ⟨t0, o0⟩, ⟨t1, o1⟩⟩ := put_fields
    have hp : ∀ i, i < len → ∃ x : Pt, w.cell? (a.add (i * 2 + 0)) = some (.int .i64 x.1) ∧ w.cell? (a.add (i * 2 + 1)) = some (.string x.2) := fun i hil => by
      have him : i < m := by rw [hmm]; split <;> omega
      obtain ⟨cs', hc, ht'⟩ := hi i him
      rw [show Try.prog.cellsOf 48 = 2 from by kernel_rfl] at hc
      obtain ⟨_, hcl, hat⟩ := World.cells?_some hc
      obtain ⟨ys, n2, hn', hy, hlen, hyl, hf'⟩ := DataW.trod_struct hs ht'
      have hyl2 : ys.length = 2 := hyl
      obtain ⟨y0, g0⟩ : ∃ y, ys[0]? = some y := ⟨_, List.getElem?_eq_getElem (by omega)⟩
      obtain ⟨y1, g1⟩ : ∃ y, ys[1]? = some y := ⟨_, List.getElem?_eq_getElem (by omega)⟩
      have k0 := hf' 0 f0 rfl
      have k1 := hf' 1 f1 rfl
      rw [t0, o0, g0, show Try.prog.cellsOf 3 = 1 from by kernel_rfl, take_one _ _ (by omega)] at k0
      rw [t1, o1, g1, show Try.prog.cellsOf 9 = 1 from by kernel_rfl, take_one _ _ (by omega)] at k1
      obtain ⟨z, hz, _⟩ := field_int Try.underlying3 k0
      obtain ⟨s, hs'⟩ := field_str Try.underlying9 k1
      refine ⟨(z, s), ?_, ?_⟩
      · rw [← Go.Deep.add_add, hat 0 (by omega), List.getElem?_eq_getElem (by omega), hz]
      · rw [← Go.Deep.add_add, hat 1 (by omega), List.getElem?_eq_getElem (by omega), hs']
    by_cases h0 : 0 < len
    · obtain ⟨x0, c0, _⟩ := hp 0 h0
      obtain ⟨b, off, spot⟩ := a
      have hspot : spot = none := by
        have := World.cell?_spot c0
        simpa [Addr.add] using this
      subst hspot
      obtain ⟨ps, h1, h2⟩ := list_of_ex len (fun i (x : Pt) => w.cell? ((⟨b, off, none⟩ : Addr).add (i * 2 + 0)) = some (.int .i64 x.1) ∧ w.cell? ((⟨b, off, none⟩ : Addr).add (i * 2 + 1)) = some (.string x.2)) hp
      refine ⟨_, len, cap, ps, rfl, hl, hm, h1, fun _ => ⟨b, off, rfl, by simpa [Addr.add] using block_lt_of_cell c0, fun i hil => ?_⟩⟩
      have h3 := h2 i hil
      rw [Addr.add_lit, Addr.add_lit] at h3
      have a1 : pAt ps i = (ps[i]).1 := by unfold pAt; rw [List.getElem?_eq_getElem hil]; rfl
      have b1 : pB ps i = (ps[i]).2 := by unfold pB; rw [List.getElem?_eq_getElem hil]; rfl
      rw [a1, b1]
      exact h3
    · obtain rfl : len = 0 := by omega
      exact ⟨_, 0, cap, [], rfl, hl, hm, rfl, fun h => by simp at h⟩
theorem open_rec {r : Reach} {b0 : Nat} {v : Value} {d : DataW H} {p : List MemPlace} (hok : Value.okWide Try.prog w r b0 26 v) (h : DataW.Trod enc Try.prog w 0 (fun _ => true) true 26 v d p) :
    ∃ (R : Rc) (ao : Option Addr) (n cap : Nat), v = .agg (rcA R (.slice ao n cap)) ∧ R.root.length = 32 ∧ R.ps.length = n ∧ n ≤ cap ∧ cap ≤ maxLen ∧ PtAt w ao R.ps := by
  obtain ⟨f0, f1, f2, hs, ⟨t0, o0⟩, ⟨t1, o1⟩, ⟨t2, o2⟩⟩ := rec_fields
  obtain ⟨cs, rfl, hsz⟩ := okWide_struct hs hok
  obtain ⟨l⟩ := cs
  have hl : l.length = 34 := hsz.trans (by kernel_rfl)
  obtain ⟨fuel, hf⟩ := h
  obtain ⟨ys, n', hn', hy, hlen, hyl, hf'⟩ := DataW.trod_struct hs hf
  have e0 : (Value.agg ⟨l⟩).cells.toList = l := by simp [Value.cells]
  rw [e0] at hf'
  have hyl3 : ys.length = 3 := hyl
  obtain ⟨y0, g0⟩ : ∃ y, ys[0]? = some y := ⟨_, List.getElem?_eq_getElem (by omega)⟩
  obtain ⟨y1, g1⟩ : ∃ y, ys[1]? = some y := ⟨_, List.getElem?_eq_getElem (by omega)⟩
  obtain ⟨y2, g2⟩ : ∃ y, ys[2]? = some y := ⟨_, List.getElem?_eq_getElem (by omega)⟩
  have h0 := hf' 0 f0 rfl
  have h1 := hf' 1 f1 rfl
  have h2 := hf' 2 f2 rfl
  rw [t0, o0, g0, show Try.prog.cellsOf 3 = 1 from by kernel_rfl, take_one _ _ (by omega)] at h0
  rw [t1, o1, g1, show Try.prog.cellsOf 23 = 32 from by kernel_rfl] at h1
  rw [t2, o2, g2, show Try.prog.cellsOf 24 = 1 from by kernel_rfl, take_one _ _ (by omega)] at h2
  obtain ⟨z, hz, _⟩ := field_int Try.underlying3 h0
  have hr := arr_ints13 Try.underlying23 Try.underlying5 (by kernel_rfl) h1
  obtain ⟨ao, n, cap, ps, hv, hnc, hcm, hpl, hP⟩ := open_puts h2
  refine ⟨⟨z, (List.range 32).map fun j => u8at13 l (1 + j), ps⟩, ao, n, cap, ?_, by simp, hpl, hnc, hcm, hP⟩
  congr 1
  refine rc_list l hl z _ _ (by simp) ps ?_ (fun j hj => ?_) ?_
  · rw [List.getElem?_eq_getElem (by omega), hz]
  · obtain ⟨q, hq, hw⟩ := hr j hj
    rw [List.getElem?_take, if_pos hj, List.getElem?_drop] at hq
    rw [List.getElem?_map, List.getElem?_range hj]
    simp only [Option.map_some, Option.getD_some]
    rw [hq]
    unfold u8at13
    rw [hq]
    show _ = some (Value.int .u8 ((UInt8.ofNat q.toNat).toNat : Int))
    rw [u8_wf13 hw]
  · rw [List.getElem?_eq_getElem (by omega), hv]
theorem open_txts {r : Reach} {b0 : Nat} {v : Value} {d : DataW H} {p : List MemPlace} (hok : ∃ a len cap, v = .slice a len cap) (h : DataW.Trod enc Try.prog w 0 (fun _ => true) true 29 v d p) :
    ∃ (L : List ByteArray) (ao : Option Addr) (n cap : Nat), v = .slice ao n cap ∧ L.length = n ∧ n ≤ cap ∧ cap ≤ maxLen ∧ TxtAt w ao L := by
  obtain ⟨ao, n, cap, rfl, h1, h2, h3⟩ := open_strs Try.underlying29 Try.underlying9 (by kernel_rfl) hok h
  obtain ⟨L, h4, h5⟩ := txt_of h3
  exact ⟨L, ao, n, cap, rfl, h4, h1, h2, h5⟩
end
end Go.Proofs.Ythhaadcpenlnkaa
