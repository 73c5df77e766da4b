/- The reference's constants (layer 3): digits, times. -/
import Derived.Test.YtndhegdhkoileaaDoorShS
import Derived.Laws.MakeOwn
namespace Go.Proofs.YtndhegdhkoileaaDoor
open Go.RowKit Go.Deep
set_option linter.unusedVariables false
set_option linter.unusedSimpArgs false
def lget (l : List Nat) (i : Nat) : Nat := l[i]?.getD 0
theorem lget_set (l : List Nat) (i j x : Nat) (hi : i < l.length) : lget (l.set i x) j = if j = i then x else lget l j := by
  unfold lget
  rw [List.getElem?_set]
  by_cases e : i = j
  · subst e; rw [if_pos rfl, if_pos hi, if_pos rfl]; rfl
  · rw [if_neg e, if_neg (fun h => e h.symm)]
/-- One digit times a number, laid on what is there: after k digits. -/
def tmI (a b : List Nat) (i : Nat) (L : List Nat) : Nat → List Nat × Nat
  | 0 => (L, 0)
  | k + 1 => (fun r : List Nat × Nat => (fun n => (r.1.set (i + k) (n % 65536), n / 65536)) (lget r.1 (i + k) + lget a i * lget b k + r.2)) (tmI a b i L k)
def tmO (a b : List Nat) : Nat → List Nat
  | 0 => List.replicate (a.length + b.length) 0
  | i + 1 => (fun r : List Nat × Nat => r.1.set (i + b.length) (lget r.1 (i + b.length) + r.2)) (tmI a b i (tmO a b i) b.length)
def timesL (a b : List Nat) : List Nat := tmO a b a.length
def Dg (l : List Nat) : Prop := ∀ j, lget l j ≤ 65535
theorem dg_set {l : List Nat} (h : Dg l) (i x : Nat) (hi : i < l.length) (hx : x ≤ 65535) : Dg (l.set i x) := fun j => by
  rw [lget_set l i j x hi]
  split
  · exact hx
  · exact h j
theorem mul_le16 {x y : Nat} (hx : x ≤ 65535) (hy : y ≤ 65535) : x * y ≤ 4294836225 := Nat.mul_le_mul hx hy
theorem tmI_ok (a b : List Nat) (i : Nat) (L : List Nat) (ha : Dg a) (hb : Dg b) (hL : Dg L) (hi : i + b.length < L.length) (hz : ∀ j, i + b.length ≤ j → lget L j = 0) : ∀ k, k ≤ b.length →
    Dg (tmI a b i L k).1 ∧ (tmI a b i L k).1.length = L.length ∧ (tmI a b i L k).2 ≤ 65535 ∧ ∀ j, i + b.length ≤ j → lget (tmI a b i L k).1 j = 0
  | 0, _ => ⟨hL, rfl, by show (0 : Nat) ≤ 65535; omega, hz⟩
  | k + 1, h => by
    obtain ⟨h1, h2, h3, h4⟩ := tmI_ok a b i L ha hb hL hi hz k (by omega)
    unfold tmI
    generalize tmI a b i L k = r at *
    have e1 := h1 (i + k)
    have e2 := mul_le16 (ha i) (hb k)
    show Dg (r.1.set (i + k) ((lget r.1 (i + k) + lget a i * lget b k + r.2) % 65536)) ∧ (r.1.set (i + k) ((lget r.1 (i + k) + lget a i * lget b k + r.2) % 65536)).length = L.length ∧ (lget r.1 (i + k) + lget a i * lget b k + r.2) / 65536 ≤ 65535 ∧ _
    refine ⟨dg_set h1 _ _ (by omega) (by omega), by rw [List.length_set, h2], by omega, fun j hj => ?_⟩
    show lget (r.1.set (i + k) _) j = 0
    rw [lget_set _ _ _ _ (by omega), if_neg (by omega)]
    exact h4 j hj
theorem tmO_ok (a b : List Nat) (ha : Dg a) (hb : Dg b) : ∀ i, i ≤ a.length → Dg (tmO a b i) ∧ (tmO a b i).length = a.length + b.length ∧ ∀ j, i + b.length ≤ j → lget (tmO a b i) j = 0
  | 0, _ => by
    have hz : ∀ j, lget (tmO a b 0) j = 0 := fun j => by
      show lget (List.replicate (a.length + b.length) 0) j = 0
      unfold lget
      rw [List.getElem?_replicate]
      split <;> rfl
    exact ⟨fun j => by rw [hz j]; omega, by show (List.replicate _ _).length = _; simp, fun j _ => hz j⟩
  | i + 1, h => by
    obtain ⟨h1, h2, h3⟩ := tmO_ok a b ha hb i (by omega)
    obtain ⟨q1, q2, q3, q4⟩ := tmI_ok a b i (tmO a b i) ha hb h1 (by omega) h3 b.length (Nat.le_refl _)
    unfold tmO
    generalize tmI a b i (tmO a b i) b.length = r at *
    show Dg (r.1.set (i + b.length) (lget r.1 (i + b.length) + r.2)) ∧ (r.1.set (i + b.length) (lget r.1 (i + b.length) + r.2)).length = _ ∧ ∀ j, _ → lget (r.1.set (i + b.length) (lget r.1 (i + b.length) + r.2)) j = 0
    have e := q4 (i + b.length) (Nat.le_refl _)
    refine ⟨dg_set q1 _ _ (by omega) (by omega), by rw [List.length_set, q2, h2], fun j hj => ?_⟩
    rw [lget_set _ _ _ _ (by omega), if_neg (by omega)]
    exact q4 j (by omega)
theorem info_i64' : (Tryd.prog.info? 3).map (fun i => (i.zero, i.size, i.bytes)) = some (some (.int .i64 0), 1, 8) := by kernel_rfl
/-- A row of numbers behind a slice. -/
def NumRow (w : World) (g : Nat) (l : List Nat) : Prop := w.rowIs g 3 l.length (fun j => .int .i64 (lget l j : Int))
theorem NumRow.below {w w' : World} {g : Nat} {l : List Nat} (h : NumRow w g l) (hb : Below w.heap.size w w') : NumRow w' g l := row_below h hb h.lt
set_option maxRecDepth 100000 in
set_option maxHeartbeats 1000000 in
theorem digits_any (n : Nat) (hn : n < 281474976710656) (w : World) : Calls Tryd.prog 35 #[.int .i64 (n : Int)] w fun e w' => e = .returned (.slice (some ⟨w.heap.size, 0, none⟩) 3 3) ∧ NumRow w' w.heap.size [n % 65536, n / 65536 % 65536, n / 4294967296] ∧ Below w.heap.size w w' := by
  go_enter Tryd.func35, Tryd.ntmps35
  go_wp2_with fail
  go_ret
  refine ⟨rfl, ⟨_, heap_alloc_new _ _, rfl, fun i hi => ?_⟩, (Below.refl _ _).alloc (Nat.le_refl _) _⟩
  rcases (show i = 0 ∨ i = 1 ∨ i = 2 by have : i < 3 := hi; omega) with rfl | rfl | rfl
  · show some (Value.int .i64 ((n : Int) % 65536)) = some (Value.int .i64 ((n % 65536 : Nat) : Int)); congr 2
  · show some (Value.int .i64 ((n : Int) / 65536 % 65536)) = some (Value.int .i64 ((n / 65536 % 65536 : Nat) : Int)); congr 2
  · show some (Value.int .i64 ((n : Int) / 4294967296)) = some (Value.int .i64 ((n / 4294967296 : Nat) : Int)); congr 2
end Go.Proofs.YtndhegdhkoileaaDoor
