/- Opening a list of acts: each with its two losses. -/
import Derived.Test.YtjmginkkjkbpoaaRwR
import Derived.Test.YtjmginkkjkbpoaaOpenR
namespace Go.Proofs.Ytjmginkkjkbpoaa
open Go.RowKit Go.Deep Go.ChangeShapes Go.WideShapes
set_option linter.unusedVariables false
set_option linter.unusedSimpArgs false
theorem loss_fields : ∃ f0 f1 f2, Try.prog.underlying 32 = some (.struct #[f0, f1, f2]) ∧ (f0.type = 30 ∧ f0.offset = 0) ∧ (f1.type = 3 ∧ f1.offset = 1) ∧ (f2.type = 3 ∧ f2.offset = 2) :=
  ⟨_, _, _, Try.underlying32, ⟨rfl, rfl⟩, ⟨rfl, rfl⟩, ⟨rfl, rfl⟩⟩
theorem act_fields12b : ∃ f0 f1 f2 f3 f4 f5 f6 f7, Try.prog.underlying 34 = some (.struct #[f0, f1, f2, f3, f4, f5, f6, f7]) ∧ (f0.type = 3 ∧ f0.offset = 0) ∧ (f1.type = 3 ∧ f1.offset = 1) ∧ (f2.type = 3 ∧ f2.offset = 2) ∧ (f3.type = 3 ∧ f3.offset = 3) ∧ (f4.type = 9 ∧ f4.offset = 4) ∧ (f5.type = 4 ∧ f5.offset = 5) ∧ (f6.type = 32 ∧ f6.offset = 6) ∧ (f7.type = 32 ∧ f7.offset = 9) :=
  ⟨_, _, _, _, _, _, _, _, Try.underlying34, ⟨rfl, rfl⟩, ⟨rfl, rfl⟩, ⟨rfl, rfl⟩, ⟨rfl, rfl⟩, ⟨rfl, rfl⟩, ⟨rfl, rfl⟩, ⟨rfl, rfl⟩, ⟨rfl, rfl⟩⟩
/-- The cells of an act. -/
def actL (k d i m : Int) (s : ByteArray) (raw : Bool) (X Y : LsV) : List Value := [.int .i64 k, .int .i64 d, .int .i64 i, .int .i64 m, .string s, .bool raw, .slice X.ao X.kl X.kc, .int .i64 X.torn, .int .i64 X.bytes, .slice Y.ao Y.kl Y.kc, .int .i64 Y.torn, .int .i64 Y.bytes]
/-- A list of acts, below B. -/
def ActsB (w : World) (B : Nat) (ao : Option Addr) (n : Nat) : Prop := 0 < n → ∃ b off, ao = some ⟨b, off, none⟩ ∧ b < B ∧ ∀ i, i < n → ∃ k d ii m s raw X Y, w.rangeAt b (off + i * 12) (actL k d ii m s raw X Y) ∧ LsB w B X ∧ LsB w B Y
theorem ActsB.below {w w' : World} {B : Nat} {ao : Option Addr} {n : Nat} (h : ActsB w B ao n) (hb : Below B w w') : ActsB w' B ao n := fun hp => by
  obtain ⟨b, off, rfl, hlt, hall⟩ := h hp
  refine ⟨b, off, rfl, hlt, fun i hi => ?_⟩
  obtain ⟨k, d, ii, m, s, raw, X, Y, h1, h2, h3⟩ := hall i hi
  exact ⟨k, d, ii, m, s, raw, X, Y, fun j v hj => (hb.cell (p := ⟨b, off + i * 12 + j, none⟩) hlt).trans (h1 j v hj), h2.below hb, h3.below hb⟩
section
variable {H : Type} {enc : TypeId × Value → H} {w : World}
theorem open_loss {fuel : Nat} {c0 c1 c2 : Value} {y : DataW H × List MemPlace} (h : DataW.trod enc Try.prog w 0 (fun _ => true) true fuel 32 [c0, c1, c2] = some y) (hz : ∀ n ∈ y.1.weights Try.prog 32, n ≤ reachBytes) :
    ∃ X : LsV, c0 = .slice X.ao X.kl X.kc ∧ c1 = .int .i64 X.torn ∧ c2 = .int .i64 X.bytes ∧ LsB w w.heap.size X := by
  obtain ⟨f0, f1, f2, hs, ⟨t0, o0⟩, ⟨t1, o1⟩, ⟨t2, o2⟩⟩ := loss_fields
  obtain ⟨ys, n', hn', hy, hlen, hyl, hf'⟩ := DataW.trod_struct hs h
  have hyl3 : ys.length = 3 := hyl
  have h0 := (hf' 0 f0 rfl).trans (List.getElem?_eq_getElem (by omega))
  have h1 := (hf' 1 f1 rfl).trans (List.getElem?_eq_getElem (by omega))
  have h2 := (hf' 2 f2 rfl).trans (List.getElem?_eq_getElem (by omega))
  rw [t0, o0, show Try.prog.cellsOf 30 = 1 from by kernel_rfl] at h0
  rw [t1, o1, show Try.prog.cellsOf 3 = 1 from by kernel_rfl] at h1
  rw [t2, o2, show Try.prog.cellsOf 3 = 1 from by kernel_rfl] at h2
  obtain ⟨torn, q1, _⟩ := field_int Try.underlying3 (show DataW.trod enc Try.prog w 0 (fun _ => true) true n' 3 [c1] = some _ from h1)
  obtain ⟨bytes, q2, _⟩ := field_int Try.underlying3 (show DataW.trod enc Try.prog w 0 (fun _ => true) true n' 3 [c2] = some _ from h2)
  subst q1 q2
  have h0 : DataW.trod enc Try.prog w 0 (fun _ => true) true n' 30 [c0] = some ys[0] := h0
  rcases open_slice Try.underlying30 h0 with ⟨hcs, _⟩ | ⟨a, len, cap, m, n, D, Pl, hcs, hb, hl, hm, hmm, hx, hi⟩
  · simp at hcs
    subst hcs
    exact ⟨⟨none, 0, 0, fun _ => false, torn, bytes⟩, rfl, rfl, rfl, Or.inl rfl, fun kb ko e => by cases e⟩
  · simp at hcs
    subst hcs
    have hlm : len ≤ m := by rw [hmm]; split <;> omega
    have hkl : len ≤ 140737488351232 := by
      have hmem : (len + (m - len)) * Try.prog.bytesOf 4 ∈ y.1.weights Try.prog 32 := by
        rw [hy]
        have hw : (len + (m - len)) * Try.prog.bytesOf 4 ∈ ys[0].1.weights Try.prog 30 := by
          rw [hx]
          simp [DataW.weights, Try.underlying30]
        show _ ∈ DataW.weights Try.prog 32 (DataW.agg (ys.map (·.1)))
        simp only [DataW.weights, hs]
        exact DataW.weights_mem_each (j := 0) (t := 30) (by rw [← t0]; rfl) (by rw [List.getElem?_map, List.getElem?_eq_getElem (by omega)]; rfl) _ hw
      have := hz _ hmem
      rw [show Try.prog.bytesOf 4 = 1 from by kernel_rfl] at this
      unfold reachBytes at this
      omega
    have cell0 : ∀ i, i < len → ∃ b : Bool, w.cell? (a.add i) = some (.bool b) := fun i hil => by
      obtain ⟨cs', hc, ht'⟩ := hi i (by omega)
      rw [show Try.prog.cellsOf 4 = 1 from by kernel_rfl, Nat.mul_one] at hc
      obtain ⟨_, hcl, hat⟩ := World.cells?_some hc
      obtain ⟨c, rfl⟩ : ∃ c, cs' = [c] := by
        match cs', hcl with
        | [c], _ => exact ⟨c, rfl⟩
      obtain ⟨b, rfl⟩ := field_bool Try.underlying4 ht'
      have h3 := hat 0 (by omega)
      refine ⟨b, ?_⟩
      simpa [Go.Deep.add_add] using h3
    obtain ⟨K, hK⟩ := choose_lt cell0
    obtain ⟨b, off, spot⟩ := a
    by_cases hl0 : len = 0
    · subst hl0
      exact ⟨⟨some ⟨b, off, spot⟩, 0, cap, fun _ => false, torn, bytes⟩, rfl, rfl, rfl, Or.inl rfl, fun kb ko _ e => absurd rfl e⟩
    · have h00 := hK 0 (by omega)
      have hspot : spot = none := by
        have := World.cell?_spot h00
        simpa [Addr.add] using this
      subst hspot
      have hlt : b < w.heap.size := by simpa [Addr.add] using cell_lt h00
      refine ⟨⟨some ⟨b, off, none⟩, len, cap, K, torn, bytes⟩, rfl, rfl, rfl, Or.inr ⟨b, off, rfl, hlt, hkl, fun j hj => ?_⟩, fun kb ko e _ => by cases e; exact hlt⟩
      have := hK j hj
      rwa [Addr.add_lit] at this
theorem weights_all {P : Program} {e : TypeId} : ∀ {ds : List (DataW H)} {j : Nat} {d : DataW H}, ds[j]? = some d → ∀ n ∈ d.weights P e, n ∈ DataW.weightsAll P e ds
  | d0 :: ds, 0, d, hd, n, hn => by
    simp only [List.getElem?_cons_zero, Option.some.injEq] at hd
    subst hd
    simp only [DataW.weightsAll, List.mem_append]
    exact Or.inl hn
  | d0 :: ds, j + 1, d, hd, n, hn => by
    simp only [List.getElem?_cons_succ] at hd
    simp only [DataW.weightsAll, List.mem_append]
    exact Or.inr (weights_all hd n hn)
  | [], _, _, hd, _, _ => by simp at hd
theorem cells12 (cs : List Value) (h : cs.length = 12) : ∃ v0 v1 v2 v3 v4 v5 v6 v7 v8 v9 v10 v11, cs = [v0, v1, v2, v3, v4, v5, v6, v7, v8, v9, v10, v11] :=
  match cs, h with | [a, b, c, d, e, f, g, h, i, j, k, l], _ => ⟨a, b, c, d, e, f, g, h, i, j, k, l, rfl⟩
set_option maxHeartbeats 4000000 in
theorem open_act12b {fuel : Nat} {cs : List Value} {y : DataW H × List MemPlace} (hl : cs.length = 12) (h : DataW.trod enc Try.prog w 0 (fun _ => true) true fuel 34 cs = some y) (hz : ∀ n ∈ y.1.weights Try.prog 34, n ≤ reachBytes) :
    ∃ k d ii m s raw X Y, cs = actL k d ii m s raw X Y ∧ LsB w w.heap.size X ∧ LsB w w.heap.size Y := by
  obtain ⟨f0, f1, f2, f3, f4, f5, f6, f7, hs, ⟨t0, o0⟩, ⟨t1, o1⟩, ⟨t2, o2⟩, ⟨t3, o3⟩, ⟨t4, o4⟩, ⟨t5, o5⟩, ⟨t6, o6⟩, ⟨t7, o7⟩⟩ := act_fields12b
  obtain ⟨ys, n', hn', hy, hlen, hyl, hf'⟩ := DataW.trod_struct hs h
  have hyl8 : ys.length = 8 := hyl
  obtain ⟨v0, v1, v2, v3, v4, v5, v6, v7, v8, v9, v10, v11, rfl⟩ := cells12 cs hl
  have h0 := (hf' 0 f0 rfl).trans (List.getElem?_eq_getElem (by omega))
  have h1 := (hf' 1 f1 rfl).trans (List.getElem?_eq_getElem (by omega))
  have h2 := (hf' 2 f2 rfl).trans (List.getElem?_eq_getElem (by omega))
  have h3 := (hf' 3 f3 rfl).trans (List.getElem?_eq_getElem (by omega))
  have h4 := (hf' 4 f4 rfl).trans (List.getElem?_eq_getElem (by omega))
  have h5 := (hf' 5 f5 rfl).trans (List.getElem?_eq_getElem (by omega))
  have h6 := (hf' 6 f6 rfl).trans (List.getElem?_eq_getElem (by omega))
  have h7 := (hf' 7 f7 rfl).trans (List.getElem?_eq_getElem (by omega))
  rw [t0, o0, show Try.prog.cellsOf 3 = 1 from by kernel_rfl] at h0
  rw [t1, o1, show Try.prog.cellsOf 3 = 1 from by kernel_rfl] at h1
  rw [t2, o2, show Try.prog.cellsOf 3 = 1 from by kernel_rfl] at h2
  rw [t3, o3, show Try.prog.cellsOf 3 = 1 from by kernel_rfl] at h3
  rw [t4, o4, show Try.prog.cellsOf 9 = 1 from by kernel_rfl] at h4
  rw [t5, o5, show Try.prog.cellsOf 4 = 1 from by kernel_rfl] at h5
  rw [t6, o6, show Try.prog.cellsOf 32 = 3 from by kernel_rfl] at h6
  rw [t7, o7, show Try.prog.cellsOf 32 = 3 from by kernel_rfl] at h7
  have wt : ∀ j (hj : j < 8) t, (([f0, f1, f2, f3, f4, f5, f6, f7] : List Field).map (·.type))[j]? = some t → ∀ n ∈ (ys[j]'(by omega)).1.weights Try.prog t, n ≤ reachBytes := fun j hj t ht n hn => by
    refine hz n ?_
    rw [hy]
    show _ ∈ DataW.weights Try.prog 34 (DataW.agg (ys.map (·.1)))
    simp only [DataW.weights, hs]
    exact DataW.weights_mem_each (j := j) (t := t) ht (by rw [List.getElem?_map, List.getElem?_eq_getElem (by omega)]; rfl) _ hn
  obtain ⟨k, rfl, _⟩ := field_int Try.underlying3 (show DataW.trod enc Try.prog w 0 (fun _ => true) true n' 3 [v0] = some _ from h0)
  obtain ⟨d, rfl, _⟩ := field_int Try.underlying3 (show DataW.trod enc Try.prog w 0 (fun _ => true) true n' 3 [v1] = some _ from h1)
  obtain ⟨i, rfl, _⟩ := field_int Try.underlying3 (show DataW.trod enc Try.prog w 0 (fun _ => true) true n' 3 [v2] = some _ from h2)
  obtain ⟨m, rfl, _⟩ := field_int Try.underlying3 (show DataW.trod enc Try.prog w 0 (fun _ => true) true n' 3 [v3] = some _ from h3)
  obtain ⟨s, rfl⟩ := field_str Try.underlying9 (show DataW.trod enc Try.prog w 0 (fun _ => true) true n' 9 [v4] = some _ from h4)
  obtain ⟨raw, rfl⟩ := field_bool Try.underlying4 (show DataW.trod enc Try.prog w 0 (fun _ => true) true n' 4 [v5] = some _ from h5)
  obtain ⟨X, rfl, rfl, rfl, hX⟩ := open_loss (show DataW.trod enc Try.prog w 0 (fun _ => true) true n' 32 [v6, v7, v8] = some _ from h6) (wt 6 (by omega) _ (by rw [← t6]; rfl))
  obtain ⟨Y, rfl, rfl, rfl, hY⟩ := open_loss (show DataW.trod enc Try.prog w 0 (fun _ => true) true n' 32 [v9, v10, v11] = some _ from h7) (wt 7 (by omega) _ (by rw [← t7]; rfl))
  exact ⟨k, d, i, m, s, raw, X, Y, rfl, hX, hY⟩
theorem open_acts12 {v : Value} {d : DataW H} {p : List MemPlace} (hok : ∃ a len cap, v = .slice a len cap) (h : DataW.Trod enc Try.prog w 0 (fun _ => true) true 22 v d p) (hz : ∀ n ∈ d.weights Try.prog 22, n ≤ reachBytes) :
    ∃ ao n c, v = .slice ao n c ∧ n ≤ 140737488351232 ∧ ActsB w w.heap.size ao n := by
  obtain ⟨a0, l0, c0, rfl⟩ := hok
  obtain ⟨fuel, hf⟩ := h
  rcases open_slice Try.underlying22 hf with ⟨hcs, _⟩ | ⟨a, len, cap, m, n, D, Pl, hcs, hb, hl, hm, hmm, hx, hi⟩
  · simp [Value.cells] at hcs
    obtain ⟨rfl, rfl, rfl⟩ := hcs
    exact ⟨_, _, _, rfl, by omega, fun h => absurd h (by omega)⟩
  · simp [Value.cells] at hcs
    obtain ⟨rfl, rfl, rfl⟩ := hcs
    have hd : d = _ := congrArg Prod.fst hx
    dsimp only at hd
    subst hd
    have hlm : l0 ≤ m := by rw [hmm]; split <;> omega
    have hn0 : l0 ≤ 140737488351232 := by
      have := hz ((l0 + (m - l0)) * Try.prog.bytesOf 34) (by simp [DataW.weights, Try.underlying22])
      rw [show Try.prog.bytesOf 34 = 136 from by kernel_rfl] at this
      unfold reachBytes at this
      omega
    have wt : ∀ i, i < l0 → ∀ n ∈ (D i).weights Try.prog 34, n ≤ reachBytes := fun i hi n hn => hz n (by
      simp only [DataW.weights, Try.underlying22, List.mem_cons, List.mem_append]
      exact Or.inr (Or.inl (weights_all (j := i) (by rw [List.getElem?_map, List.getElem?_range hi]; rfl) n hn)))
    have cell0 : ∀ i, i < l0 → ∃ k d ii m s raw X Y, (∀ j, j < 12 → w.cell? (a.add (i * 12 + j)) = (actL k d ii m s raw X Y)[j]?) ∧ LsB w w.heap.size X ∧ LsB w w.heap.size Y := fun i hil => by
      obtain ⟨cs', hc, ht'⟩ := hi i (by omega)
      rw [show Try.prog.cellsOf 34 = 12 from by kernel_rfl] at hc
      obtain ⟨_, hcl, hat⟩ := World.cells?_some hc
      obtain ⟨k, d, ii, m, s, raw, X, Y, rfl, hX, hY⟩ := open_act12b hcl ht' (wt i hil)
      exact ⟨k, d, ii, m, s, raw, X, Y, fun j hj => by rw [← Go.Deep.add_add]; exact hat j hj, hX, hY⟩
    refine ⟨_, _, _, rfl, hn0, fun hpos => ?_⟩
    obtain ⟨k0, d0, ii0, m0, s0, raw0, X0, Y0, q0, _⟩ := cell0 0 hpos
    have h00 := (q0 0 (by omega)).trans (show _ = some (Value.int .i64 k0) from rfl)
    clear q0
    obtain ⟨b, off, spot⟩ := a
    have hsp : spot = none := by
      have := World.cell?_spot h00
      simpa [Addr.add] using this
    subst hsp
    refine ⟨b, off, rfl, by simpa [Addr.add] using cell_lt h00, fun i hi => ?_⟩
    obtain ⟨k, d, ii, m, s, raw, X, Y, h1, h2, h3⟩ := cell0 i hi
    refine ⟨k, d, ii, m, s, raw, X, Y, fun j v hj => ?_, h2, h3⟩
    have hj12 : j < 12 := by
      have := (List.getElem?_eq_some_iff.1 hj).1
      simpa [actL] using this
    have := h1 j hj12
    rw [Addr.add_lit, ← Nat.add_assoc] at this
    exact this.trans hj
end
end Go.Proofs.Ytjmginkkjkbpoaa
