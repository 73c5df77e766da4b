/- Opening arguments that are slices of structs of any fields. -/
import Derived.Test.YtaemnelfnopjdaaOpen
import Derived.SizedLaws
namespace Go.Proofs.Ytaemnelfnopjdaa
open Go.ChangeShapes Go.WideShapes Go.Deep Go.RowKit
set_option linter.unusedVariables false
section
variable {H : Type} {enc : TypeId × Value → H} {P : Program} {w : World}
/-- What the walk is told of a slice of structs of C cells: where the cells lie, and that each field reads as its type. -/
def RowsAt (P : Program) (enc : TypeId × Value → H) (w : World) (ao : Option Addr) (len C : Nat) (fs : Array Field) : Prop :=
  0 < len → ∃ b off, ao = some ⟨b, off, none⟩ ∧ b < w.heap.size ∧ ∀ i, i < len → ∃ (n : Nat) (cs : List Value), cs.length = C ∧ (∀ j, j < C → w.cell? ⟨b, off + i * C + j, none⟩ = cs[j]?) ∧
    ∀ (j : Nat) (f : Field), fs[j]? = some f → ∃ y, DataW.trod enc P w 0 (fun _ => true) true n f.type ((cs.drop f.offset).take (P.cellsOf f.type)) = some y
theorem open_rows {t e : TypeId} {fs : Array Field} {C B : Nat} {v : Value} {d : DataW H} {p : List MemPlace} (ht : P.underlying t = some (.slice e)) (he : P.underlying e = some (.struct fs))
    (hC : P.cellsOf e = C) (hpos : 0 < C) (hok : ∃ a len cap, v = .slice a len cap) (h : DataW.Trod enc P w 0 (fun _ => true) true t v d p)
    (hB : P.bytesOf e = B) (z : ∀ es sp, d = .slice es sp → (es.length + sp.length) * P.bytesOf e ≤ reachBytes) :
    ∃ ao len cap, v = .slice ao len cap ∧ len ≤ cap ∧ cap ≤ maxLen ∧ len * B ≤ 140737488355328 ∧ RowsAt P enc w ao len C fs := by
  obtain ⟨a0, l0, c0, rfl⟩ := hok
  obtain ⟨fuel, hf⟩ := h
  rcases open_slice ht hf with ⟨hcs, _⟩ | ⟨a, len, cap, m, n, D, Pl, hcs, hb, hl, hm, hmm, hx, hi⟩
  · simp [Value.cells] at hcs
    obtain ⟨rfl, rfl, rfl⟩ := hcs
    exact ⟨_, _, _, rfl, by omega, by unfold maxLen; omega, by omega, fun h => absurd h (by omega)⟩
  · simp [Value.cells] at hcs
    obtain ⟨rfl, rfl, rfl⟩ := hcs
    have hd := congrArg Prod.fst hx
    have hz := z _ _ hd
    simp only [List.length_map, List.length_range] at hz
    have hr := reachBytes_lt
    rw [hB] at hz
    have hlB : l0 * B ≤ 140737488355328 := Nat.le_trans (Nat.mul_le_mul_right B (Nat.le_add_right l0 (m - l0))) (by omega)
    refine ⟨_, _, _, rfl, by omega, by omega, hlB, fun hpos' => ?_⟩
    have cell0 : ∀ i, i < l0 → ∃ cs', cs'.length = C ∧ (∀ j, j < C → w.cell? (a.add (i * C + j)) = cs'[j]?) ∧ DataW.trod enc P w 0 (fun _ => true) true n e cs' = some (D i, Pl i) := fun i hil => by
      have him : i < m := by rw [hmm]; split <;> omega
      obtain ⟨cs', hc, ht'⟩ := hi i him
      rw [hC] at hc
      obtain ⟨_, hcl, hat⟩ := World.cells?_some hc
      exact ⟨cs', hcl, fun j hj => by rw [← Go.Deep.add_add]; exact hat j hj, ht'⟩
    obtain ⟨cs0, hl0, hc0, _⟩ := cell0 0 hpos'
    have h00 := hc0 0 hpos
    have hv0 : cs0[0]? = some (cs0[0]'(by omega)) := List.getElem?_eq_getElem (by omega)
    rw [hv0] at h00
    obtain ⟨b, off, spot⟩ := a
    have hspot : spot = none := by
      have := World.cell?_spot h00
      simpa [Addr.add] using this
    subst hspot
    refine ⟨b, off, rfl, by simpa [Addr.add] using cell_lt h00, fun i hil => ?_⟩
    obtain ⟨cs', hcl, hat, ht'⟩ := cell0 i hil
    obtain ⟨ys, n', hn', hy, hlen, hyl, hf'⟩ := DataW.trod_struct he ht'
    refine ⟨n', cs', hcl, fun j hj => ?_, fun j f hj => ?_⟩
    · rw [← hat j hj, Addr.add_lit, Nat.add_assoc]
    · have h1 := hf' j f hj
      have hjl : j < ys.length := by rw [hyl]; exact (Array.getElem?_eq_some_iff.1 hj).1
      exact ⟨_, h1.trans (List.getElem?_eq_getElem hjl)⟩
theorem take_one {α : Type} (cs : List α) (o : Nat) (h : o < cs.length) : (cs.drop o).take 1 = [cs[o]] := by
  rw [List.drop_eq_getElem_cons h]
  rfl
theorem field_str {w : World} {n : Nat} {t : TypeId} {v : Value} {y : DataW H × List MemPlace} (ht : P.underlying t = some .string) (h : DataW.trod enc P w 0 (fun _ => true) true n t [v] = some y) :
    ∃ x, v = .string x := by
  cases n with
  | zero => simp [DataW.trod] at h
  | succ n =>
    simp only [DataW.trod, ht] at h
    cases v <;> simp at h
    exact ⟨_, rfl⟩
end
end Go.Proofs.Ytaemnelfnopjdaa
