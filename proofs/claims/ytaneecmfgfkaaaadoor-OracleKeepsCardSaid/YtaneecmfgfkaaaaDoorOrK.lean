/- The oracle: every 32 bytes read as a key; the first pair by definition. -/
import Derived.Test.YtaneecmfgfkaaaaDoorOrH
namespace Go.Proofs.YtaneecmfgfkaaaaDoor
open Go.RowKit Go.Deep Go.Maps
set_option linter.unusedVariables false
set_option linter.unusedSimpArgs false
theorem mapM_some {α β : Type} (f : α → Option β) (g : α → β) : ∀ l : List α, (∀ x ∈ l, f x = some (g x)) → l.mapM f = some (l.map g)
  | [], _ => rfl
  | a :: l, h => by
    rw [List.mapM_cons, h a (by simp), mapM_some f g l (fun x hx => h x (by simp [hx]))]
    rfl
theorem u8_lit_wf (b : UInt8) : (Lit.int .u8 (b.toNat : Int)).wf = true := by
  have := b.toNat_lt
  have h1 : IntKind.u8.min ≤ (b.toNat : Int) ∧ (b.toNat : Int) ≤ IntKind.u8.max := by
    rw [show IntKind.u8.min = 0 from by decide, show IntKind.u8.max = 255 from by decide]
    omega
  simpa [Lit.wf] using h1
set_option maxRecDepth 100000 in
theorem key_dig (x : List UInt8) (h : x.length = 32) : ∃ l, keyOf Tryd.prog 34 (.agg (digA x)) = some l := by
  have hc : (bv x).length = 32 := by unfold bv; rw [List.length_map]; exact h
  have h32 : Tryd.prog.cellsOf 34 = 32 := by kernel_rfl
  have h1 : Tryd.prog.cellsOf 5 = 1 := by kernel_rfl
  have hk : Tryd.prog.keyType 34 = true := by kernel_rfl
  obtain ⟨d, hd⟩ : ∃ d, Tryd.prog.types.size = d + 1 := Nat.exists_eq_add_one_of_ne_zero (Nat.ne_of_gt (of_decide_eq_true (by kernel_rfl)))
  have hform : (Value.agg (digA x)).formed Tryd.prog 34 = true := by
    simp only [Value.formed, Tryd.underlying34, h32]
    unfold digA
    simpa using hc
  have hcells : (Value.agg (digA x)).cells.toList = bv x := rfl
  have hl : Tryd.prog.keyLits (d + 1 + 1) 34 (bv x) = some ((List.range 32).map fun i => [Lit.int .u8 ((bAt x i).toNat : Int)]).flatten := by
    have hm := mapM_some (fun i => Tryd.prog.keyLits (d + 1) 5 (((bv x).drop (i * 1)).take 1)) (fun i => [Lit.int .u8 ((bAt x i).toNat : Int)]) (List.range 32) (fun i hi => by
      have hi32 : i < 32 := List.mem_range.1 hi
      have e : ((bv x).drop (i * 1)).take 1 = [.int .u8 ((bAt x i).toNat : Int)] := by
        rw [Nat.mul_one]
        have hix : i < x.length := by omega
        have : (bv x).drop i = .int .u8 ((bAt x i).toNat : Int) :: (bv x).drop (i + 1) := by
          rw [List.drop_eq_getElem_cons (by omega)]
          congr 1
          unfold bv bAt
          rw [List.getElem_map, List.getElem?_eq_getElem hix]
          rfl
        rw [this]
        rfl
      simp only [e, Program.keyLits, Tryd.underlying5]
      rw [if_pos ⟨trivial, u8_lit_wf _⟩])
    simp only [Program.keyLits, Tryd.underlying34, h32, h1, hc, if_true] at hm ⊢
    rw [hm]
    rfl
  refine ⟨.string (keyBytes ((List.range 32).map fun i => [Lit.int .u8 ((bAt x i).toNat : Int)]).flatten), ?_⟩
  unfold keyOf
  simp only [Tryd.underlying34, hk, hform, Bool.and_self, if_true, hd, hcells, hl, Option.map_some]
theorem idxOf_le (a : List UInt8) : ∀ (l : List (List UInt8)) (i : Nat) (h : i < l.length), l[i] = a → l.idxOf a ≤ i
  | b :: l, 0, h, e => by
    have : b = a := e
    subst this
    simp
  | b :: l, i + 1, h, e => by
    have ih := idxOf_le a l i (by simpa using h) (by simpa using e)
    rw [List.idxOf_cons]
    cases hb : (b == a)
    · simp; omega
    · simp
/-- Are two places unlike texts of one sum? -/
def htB (L : List ByteArray) (X : List (List UInt8)) (i k : Nat) : Bool := !((L[i]?.getD ⟨#[]⟩).toList == (L[k]?.getD ⟨#[]⟩).toList) && ((X[i]?.getD []) == (X[k]?.getD []))
theorem hit_of (L : List ByteArray) (X : List (List UInt8)) (k : Nat) (hk : k < X.length) (h : hitB L X k = true) : (X.take k).idxOf (X[k]?.getD []) < k ∧ htB L X ((X.take k).idxOf (X[k]?.getD [])) k = true := by
  unfold hitB at h
  rw [Bool.and_eq_true, decide_eq_true_eq] at h
  obtain ⟨h1, h2⟩ := h
  have hl : (X.take k).idxOf (X[k]?.getD []) < (X.take k).length := List.idxOf_lt_length_iff.2 h1
  have hlk : (X.take k).idxOf (X[k]?.getD []) < k := by rw [List.length_take] at hl; omega
  refine ⟨hlk, ?_⟩
  unfold htB
  rw [Bool.and_eq_true]
  refine ⟨h2, ?_⟩
  have h3 : (X.take k)[(X.take k).idxOf (X[k]?.getD [])]'hl = X[k]?.getD [] := List.getElem_idxOf hl
  rw [List.getElem_take] at h3
  rw [List.getElem?_eq_getElem (by omega), Option.getD_some, h3]
  simp
theorem pairF_none (L : List ByteArray) (X : List (List UInt8)) : ∀ n, n ≤ X.length → (∀ k, k < n → ∀ i, i < k → htB L X i k = false) → pairF L X n = none
  | 0, _, _ => rfl
  | n + 1, hn, h => by
    have ih := pairF_none L X n (by omega) (fun k hk => h k (by omega))
    show (pairF L X n).or _ = none
    rw [ih, Option.none_or]
    cases hb : hitB L X n
    · rfl
    · obtain ⟨q1, q2⟩ := hit_of L X n (by omega) hb
      rw [h n (by omega) _ q1] at q2
      cases q2
theorem pairF_some (L : List ByteArray) (X : List (List UInt8)) (i k : Nat) (hk : k < X.length) (hik : i < k) (hpre : ∀ k', k' < k → ∀ i', i' < k' → htB L X i' k' = false) (hi : ∀ i', i' < i → htB L X i' k = false) (h : htB L X i k = true) : pairF L X (k + 1) = some (i, k) := by
  have ih := pairF_none L X k (by omega) hpre
  show (pairF L X k).or _ = _
  rw [ih, Option.none_or]
  unfold htB at h
  rw [Bool.and_eq_true] at h
  obtain ⟨h1, h2⟩ := h
  have hX : X[i]?.getD [] = X[k]?.getD [] := by simpa using h2
  have hiX : i < X.length := by omega
  have hmem : (X[k]?.getD []) ∈ X.take k := by
    rw [← hX, List.getElem?_eq_getElem hiX, Option.getD_some]
    exact List.mem_take_iff_getElem.2 ⟨i, by omega, rfl⟩
  have hl : (X.take k).idxOf (X[k]?.getD []) < (X.take k).length := List.idxOf_lt_length_iff.2 hmem
  have hg : (X.take k)[(X.take k).idxOf (X[k]?.getD [])]'hl = X[k]?.getD [] := List.getElem_idxOf hl
  have hle : (X.take k).idxOf (X[k]?.getD []) ≤ i := by
    refine idxOf_le _ _ i (by rw [List.length_take]; omega) ?_
    rw [List.getElem_take, ← hX, List.getElem?_eq_getElem hiX, Option.getD_some]
  have e : (X.take k).idxOf (X[k]?.getD []) = i := by
    rcases Nat.lt_or_ge ((X.take k).idxOf (X[k]?.getD [])) i with hlt | hge
    · exfalso
      generalize hj : (X.take k).idxOf (X[k]?.getD []) = j at *
      rw [List.getElem_take] at hg
      have hjX : X[j]?.getD [] = X[k]?.getD [] := by rw [List.getElem?_eq_getElem (by omega), Option.getD_some]; exact hg
      have p1 := hi j hlt
      have p2 := hpre i hik j hlt
      unfold htB at p1 p2
      rw [hjX] at p1 p2
      rw [hX] at p2
      have q1 : (L[j]?.getD ⟨#[]⟩).toList = (L[k]?.getD ⟨#[]⟩).toList := by simpa using p1
      have q2 : (L[j]?.getD ⟨#[]⟩).toList = (L[i]?.getD ⟨#[]⟩).toList := by simpa using p2
      rw [← q2, q1] at h1
      simp at h1
    · omega
  have hb : hitB L X k = true := by
    unfold hitB
    rw [Bool.and_eq_true, decide_eq_true_eq, e]
    exact ⟨hmem, h1⟩
  rw [hb, e]
  rfl
end Go.Proofs.YtaneecmfgfkaaaaDoor
