/- What must come at any rate (layer 14). -/
import Derived.Test.YtaneecmfgfkaaaaDoorChG
import Derived.Test.YtaneecmfgfkaaaaDoorOrF
namespace Go.Proofs.YtaneecmfgfkaaaaDoor
open Go.RowKit Go.Deep Go.Maps
set_option linter.unusedVariables false
set_option linter.unusedSimpArgs false
theorem OrX.some {base : Nat} {w : World} {a : Addr} {X : Option OrS} (h : OrX base w (some a) X) : ∃ S, X = some S ∧ a = ⟨S.g, 0, none⟩ ∧ OrP base w S.g S.l S.tv S.sv S.b S.D := by
  match X, h with
  | Option.some S, h => exact ⟨S, rfl, h.1, h.2⟩
theorem two_len (l : List (List UInt8)) (a b : List UInt8) (hne : a ≠ b) (nd : l.Nodup) (hm : ∀ t, t ∈ l ↔ t = a ∨ t = b) : l.length = 2 := by
  match l, nd, hm with
  | [], _, hm => exact absurd ((hm a).2 (Or.inl rfl)) (by simp)
  | [x], _, hm =>
    have h1 := (hm a).2 (Or.inl rfl)
    have h2 := (hm b).2 (Or.inr rfl)
    simp at h1 h2
    exact absurd (h1.trans h2.symm) hne
  | [x, y], _, _ => rfl
  | x :: y :: z :: r, nd, hm =>
    exfalso
    have hx := (hm x).1 (by simp)
    have hy := (hm y).1 (by simp)
    have hz := (hm z).1 (by simp)
    simp only [List.nodup_cons, List.mem_cons, not_or] at nd
    obtain ⟨⟨h1, h2, _⟩, ⟨h3, _⟩, _⟩ := nd
    rcases hx with rfl | rfl <;> rcases hy with rfl | rfl <;> rcases hz with rfl | rfl <;> simp_all
/-- 64 times s, as the statement says it: s, and bytes 0. -/
def supB : ByteArray := ⟨(fullL [115] 64).toArray⟩
theorem supB_size : supB.size = 64 := by rw [show supB = sB (fullL [115] 64) from rfl, sB_size]; exact fullL_len _ _ (by decide)
theorem supB_ok : okB [supB] = true := okB_all _ ⟨by simp, by simp⟩ (fun i hi => by
  obtain rfl : i = 0 := by have : i < 1 := hi; omega
  exact supB_size)
theorem full_sup (w : World) : Calls Tryd.prog 36 #[.string ⟨#[115]⟩, .int .i64 64] w fun e w' => e = .returned (.string supB) ∧ Below w.heap.size w w' := full_anyz ⟨#[115]⟩ 64 w (by decide) (by decide)
/-- A row of one text, newly made. -/
theorem made_t (w : World) (s : ByteArray) (X : Option OrS) (hf : FreeX X w.heap.size) : TxtB (w.alloc (.cells #[.string s] 9)).heap.size (w.alloc (.cells #[.string s] 9)) X (some ⟨w.heap.size, 0, none⟩) [s] := fun _ => ⟨w.heap.size, 0, rfl, by simp, hf, fun i hi => by
  obtain rfl : i = 0 := by have : i < 1 := hi; omega
  exact cell_of_row _ _ 0 _ _ _ (heap_alloc_new w _)⟩
def awA : List UInt8 := sumL (startT 1 0 supB)
theorem awA_len : awA.length = 32 := sumL_len _
theorem aw_ne : startT 1 0 supB ≠ nextT awA [supB] := fun e => by
  have h := congrArg List.length e
  have h1 : (startT 1 0 supB).length = 71 := by
    unfold startT
    rw [List.length_append, List.length_append, ← Lib.size_eq, supB_size]
    rfl
  have h2 : (nextT awA [supB]).length = 100 := by
    unfold nextT
    rw [List.length_append, List.length_append, awA_len, catL_flat]
    simp only [List.map_cons, List.map_nil, List.flatten_cons, List.flatten_nil, List.append_nil, ← Lib.size_eq, supB_size]
    rfl
  omega
theorem aw_t1 : (⟨#[115, 116, 97, 114, 116, 1, 0]⟩ : ByteArray) ++ supB = sB (startT 1 0 supB) := by
  rw [← startT_eq]
  rfl
theorem aw_t2 (s : ByteArray) : catL [s] = s.data.toList := by rw [catL_flat]; simp
theorem aw_t3 : nxB ++ sB awA ++ supB = sB (nextT awA [supB]) := by
  rw [← nextT_eq, aw_t2, ← sB_of]
end Go.Proofs.YtaneecmfgfkaaaaDoor
