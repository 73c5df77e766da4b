/- Package over: the reference's Set. -/
import Derived.Test.YtnlgkhggokloeaaOvE
import Derived.Test.YtnlgkhggokloeaaApp
namespace Go.Proofs.Ytnlgkhggokloeaa
open Go.RowKit Go.Deep
set_option linter.unusedVariables false
set_option linter.unusedSimpArgs false
theorem ins_at {x : Pu} : ∀ {D : List Pu} (i : Nat), i ≤ D.length → (∀ j (hj : j < D.length), j < i → D[j].1 < x.1) → (∀ hi : i < D.length, x.1 < D[i].1) → insL x D = D.take i ++ x :: D.drop i
  | [], i, _, _, _ => by simp [insL]
  | y :: r, 0, _, _, h => by
    have this : x.1 < y.1 := h (by simp)
    unfold insL
    rw [if_pos this]; rfl
  | y :: r, i + 1, hi, h0, h => by
    have hy : y.1 < x.1 := h0 0 (by simp) (by omega)
    have ih := ins_at (x := x) (D := r) i (by simpa using hi) (fun j hj hji => h0 (j + 1) (by simpa using hj) (by omega)) (fun hi' => h (by simpa using hi'))
    unfold insL
    rw [if_neg (by omega), ih]; rfl
theorem puC_app (A B : List Pu) : puC (A ++ B) = puC A ++ puC B := by unfold puC; rw [List.flatMap_append]
def subP (ao : Option Addr) (c k : Nat) : Option Addr := if c = k then ao else ao.map (·.add (k * 2))
theorem size_put : ∀ w, (sizeOf 48).run Try.prog w = .ok 2 w := fun w => by kernel_rfl
theorem addr0P (ao : Option Addr) : ao.map (·.add 0) = ao := by cases ao <;> simp [Addr.add]
theorem slice_hP (ao : Option Addr) (n c k : Nat) (hk : k ≤ c) (w : World) : (Instr.slice 25 (.slice ao n c) none (some (.int .i64 k)) none).run Try.prog w = .ok (.slice ao k c) w := by
  have h1 : (0 : Int) ≤ (k : Int) ∧ (k : Int) ≤ (c : Int) := ⟨by omega, by omega⟩
  unfold Instr.slice
  simp only [Sem.run_bind, run_underlying Try.underlying25, Result.andThen_ok, Instr.sliceBounds, Instr.sliceBound, Sem.run_pure, asIntOf, if_pos h1, size_put, Int.toNat_natCast, Nat.zero_mul, Nat.sub_zero, addr0P, ite_self]
theorem slice_lP (ao : Option Addr) (n c k : Nat) (hk : k ≤ n) (hn : n ≤ c) (w : World) : (Instr.slice 25 (.slice ao n c) (some (.int .i64 k)) none none).run Try.prog w = .ok (.slice (subP ao c k) (n - k) (c - k)) w := by
  have h1 : (0 : Int) ≤ (k : Int) ∧ (k : Int) ≤ (n : Int) := ⟨by omega, by omega⟩
  unfold Instr.slice
  simp only [Sem.run_bind, run_underlying Try.underlying25, Result.andThen_ok, Instr.sliceBounds, Instr.sliceBound, Sem.run_pure, asIntOf, if_pos h1, size_put, Int.toNat_natCast]
  rfl
theorem one_pu (L : List Pu) : ∀ u ∈ puC L, u.oneCell' = true := by
  intro u hu
  unfold puC at hu
  rw [List.mem_flatMap] at hu
  obtain ⟨p, _, h⟩ := hu
  simp at h
  rcases h with rfl | rfl <;> rfl
theorem src_take {w : World} {N n c i : Nat} {ao : Option Addr} {D : List Pu} (h : w.ownsRow N 48 2 (.slice ao n c) n (puC D)) (hD : D.length = n) (hi : i ≤ n) : Src Try.prog 2 25 (.slice ao i c) i (puC (D.take i)) w := by
  have h0 := h
  obtain ⟨hl, h | ⟨g, cap, cur, e, _⟩⟩ := h0
  · obtain ⟨e, rfl⟩ := h
    injection e with e1 _ e3
    subst e1 e3
    obtain rfl : i = 0 := by omega
    exact Src.ofNil _ Try.underlying25 _
  · injection e with e1 _ e3
    subst e1 e3
    have e2 : (D.take i).length = i := by rw [List.length_take]; omega
    refine Src.ofSlice _ Try.underlying25 ⟨g, 0, none⟩ i c (puC (D.take i)) (by rw [puC_len, e2]) (fun j v hv => ?_) (one_pu _)
    refine h.cells rfl j v ?_
    have hjl := (List.getElem?_eq_some_iff.1 hv).1
    rw [← List.take_append_drop i D, puC_app, List.getElem?_append_left hjl]
    exact hv
theorem src_drop {w : World} {N n c i : Nat} {ao : Option Addr} {D : List Pu} (h : w.ownsRow N 48 2 (.slice ao n c) n (puC D)) (hD : D.length = n) (hi : i ≤ n) : Src Try.prog 2 25 (.slice (subP ao c i) (n - i) (c - i)) (n - i) (puC (D.drop i)) w := by
  have h0 := h
  obtain ⟨hl, h | ⟨g, cap, cur, e, _, _, hnc, _⟩⟩ := h0
  · obtain ⟨e, rfl⟩ := h
    injection e with e1 _ e3
    subst e1 e3
    obtain rfl : i = 0 := by omega
    have : D = [] := List.eq_nil_of_length_eq_zero hD
    subst this
    exact Src.ofNil _ Try.underlying25 _
  · injection e with e1 _ e3
    subst e1 e3
    have e2 : (D.drop i).length = n - i := by rw [List.length_drop]; omega
    have e3 : (D.take i).length = i := by rw [List.length_take]; omega
    unfold subP
    by_cases hc : c = i
    · rw [if_pos hc]
      have : D.drop i = [] := List.drop_eq_nil_of_le (by omega)
      rw [this, show n - i = 0 by omega]
      exact Src.ofSlice _ Try.underlying25 ⟨g, 0, none⟩ 0 (c - i) [] rfl (fun j v hv => by simp at hv) (fun u hu => by simp at hu)
    · rw [if_neg hc]
      show Src _ _ _ (.slice (some (Addr.add ⟨g, 0, none⟩ (i * 2))) (n - i) (c - i)) _ _ _
      rw [Addr.add_lit]
      refine Src.ofSlice _ Try.underlying25 ⟨g, 0 + i * 2, none⟩ (n - i) (c - i) (puC (D.drop i)) (by rw [puC_len, e2]) (fun j v hv => ?_) (one_pu _)
      have := h.cells (g := g) rfl (i * 2 + j) v (by
        rw [← List.take_append_drop i D, puC_app, List.getElem?_append_right (by rw [puC_len, e3]; omega), puC_len, e3, show i * 2 + j - i * 2 = j by omega]
        exact hv)
      rw [Addr.add_lit] at this ⊢
      rw [show 0 + i * 2 + j = 0 + (i * 2 + j) by omega]
      exact this
end Go.Proofs.Ytnlgkhggokloeaa
