/- Package dev (cellaret): Unsafe. -/
import Derived.Test.YtefbfpolfbdfgaaDvD
namespace Go.Proofs.Ytefbfpolfbdfgaa
open Go.RowKit Go.Deep
set_option linter.unusedVariables false
set_option linter.unusedSimpArgs false
theorem info_i64D : (Try.prog.info? 3).map (fun i => (i.zero, i.size, i.bytes)) = some (some (.int .i64 0), 1, 8) := by kernel_rfl
theorem own_belowD {w w' : World} {base n size : Nat} {e : TypeId} {v : Value} {xs : List Value} (h3 : w.ownsRow base e size v n xs) (hb : Below w.heap.size w w') : w'.ownsRow base e size v n xs := by
  refine ⟨h3.1, ?_⟩
  rcases h3.2 with h | ⟨g2, cap, cur, rfl, q1, q2, q3⟩
  · exact Or.inl h
  · exact Or.inr ⟨g2, cap, cur, rfl, q1, (hb.block g2 (Array.getElem?_eq_some_iff.1 q2).1).trans q2, q3⟩
/-- The blocks among the first k that were written, as values. -/
def uL (bs : Nat → Bk) : Nat → List Value
  | 0 => []
  | k + 1 => if (bs k).wr = true then uL bs k ++ [.int .i64 (k : Int)] else uL bs k
theorem uL_len (bs : Nat → Bk) (k : Nat) : (uL bs k).length ≤ k := by
  induction k with
  | zero => exact Nat.le_refl _
  | succ k ih =>
    show (if (bs k).wr = true then uL bs k ++ [.int .i64 (k : Int)] else uL bs k).length ≤ _
    split
    · rw [List.length_append]; simp; omega
    · omega
/-- A row that grows behind a cell of its own at block l. -/
structure UnAtD (base l : Nat) (w0 w : World) (xs : List Value) : Prop where
  row : ∃ v, w.cell? ⟨l, 0, none⟩ = some v ∧ w.ownsRow base 3 1 v xs.length xs
  free : w.frozen? ⟨l, 0, none⟩ = false
  below : Below l w0 w
  other : ∀ k, k < base → k ≠ l → w.heap[k]? = w0.heap[k]?
  size : base ≤ w.heap.size
theorem own_slD {w : World} {base n size : Nat} {e : TypeId} {v : Value} {xs : List Value} (h : w.ownsRow base e size v n xs) : ∃ a c, v = .slice a n c := by
  rcases h.2 with ⟨rfl, rfl⟩ | ⟨g, cap, cur, rfl, hb, hg, hnc, hcm, _⟩
  · exact ⟨none, 0, rfl⟩
  · exact ⟨some ⟨g, 0, none⟩, cap, rfl⟩
theorem grown_setD (w : World) (l : Nat) (v : Value) : w.grownBy (w.setCell ⟨l, 0, none⟩ v) (some l) :=
  ⟨rfl, rfl, rfl, by simp [World.setCell], fun k hk hn => Below.heap_setCell w ⟨l, 0, none⟩ v k (fun e => hn (by rw [show k = l from e]))⟩
theorem UnAtD.push {base l : Nat} {w0 w w1 : World} {xs : List Value} {v v' x : Value} {o : Obj} (hU : UnAtD base l w0 w xs) (hl : l < base) (hv : w.cell? ⟨l, 0, none⟩ = some v) (ho : w.ownsRow base 3 1 v xs.length xs) (hown : w1.ownsRow base 3 1 v' (xs.length + 1) (xs ++ [x])) (hg : (w.alloc o).grownBy w1 v.ownBlock) :
    w1.cell? ⟨l, 0, none⟩ = some v ∧ w1.frozen? ⟨l, 0, none⟩ = false ∧ UnAtD base l w0 (w1.setCell ⟨l, 0, none⟩ v') (xs ++ [x]) := by
  have hvl : v.ownBlock ≠ some l := fun e => by have := (ho.lt l e).1; omega
  have hvl' : v'.ownBlock ≠ some l := fun e => by have := (hown.lt l e).1; omega
  have hll := block_lt_of_cell hv
  have hll : l < w.heap.size := hll
  have hB := ((Below.refl w.heap.size w).alloc (Nat.le_refl _) o)
  have c1 : (w.alloc o).cell? ⟨l, 0, none⟩ = some v := (hB.cell (p := ⟨l, 0, none⟩) hll).trans hv
  have f1 : (w.alloc o).frozen? ⟨l, 0, none⟩ = false := (hB.frozen (p := ⟨l, 0, none⟩) hll).trans hU.free
  have hla : l < (w.alloc o).heap.size := by simp; omega
  have c2 : w1.cell? ⟨l, 0, none⟩ = some v := (hg.cell_far ⟨l, 0, none⟩ hla (fun e => hvl e.symm)).trans c1
  have f2 : w1.frozen? ⟨l, 0, none⟩ = false := (hg.frozen_far ⟨l, 0, none⟩ hla (fun e => hvl e.symm)).trans f1
  have hsz : w.heap.size ≤ w1.heap.size := by have := hg.size; simp at this; omega
  refine ⟨c2, f2, ⟨v', World.cell?_setCell_same _ _ _ c2, ?_⟩, by rw [World.frozen?_setCell]; exact f2, ?_, fun k hk hn => ?_, ?_⟩
  · rw [List.length_append]
    exact hown.kept (grown_setD w1 l v') (Or.inr hvl')
  · have b1 : Below l w0 (w.alloc o) := hU.below.alloc (Nat.le_of_lt hll) o
    exact ((b1.grown hg (by simp; omega) (fun j e => by have := (ho.lt j e).1; omega)).setCell (p := ⟨l, 0, none⟩) (Nat.le_refl _) v')
  · have hkw : k < w.heap.size := Nat.lt_of_lt_of_le hk hU.size
    rw [Below.heap_setCell w1 ⟨l, 0, none⟩ v' k hn]
    exact (hg.block k (by simp; omega) (fun e => by have := (ho.lt k e.symm).1; omega)).trans ((hB.block k hkw).trans (hU.other k hk hn))
  · have := hU.size
    simp [World.setCell]
    omega
set_option maxRecDepth 100000 in
set_option maxHeartbeats 2000000 in
theorem unsafe1_any (base l i : Nat) (b : Value) (xs : List Value) (w0 w : World) (hl : l < base) (hU : Hid (UnAtD base l w0 w xs)) (hx : xs.length ≤ 1000) (hi : i ≤ 1000) : Calls Try.prog 26 #[.int .i64 (i : Int), b, .pointer (some ⟨l, 0, none⟩)] w fun e w' => e = .returned (.tuple #[]) ∧ UnAtD base l w0 w' (xs ++ [.int .i64 (i : Int)]) := by
  obtain ⟨i0, hi0, hz0, hz1, hz2⟩ := info_partsD info_i64D
  obtain ⟨v, hc, ho⟩ := hU.out.row
  have HO := Lib.hid ho
  have hf := hU.out.free
  have hll := block_lt_of_cell hc
  have hbs := hU.out.size
  clear ho
  go_enter Try.func26, Try.ntmps26
  go_wp2_with (at_builtin; refine wpList_append_own _ rfl _ _ 30 rfl base 3 i0 (.int .i64 0) 1 8 Try.underlying30 hi0 hz0 hz1 hz2 rfl (by decide) v xs.length xs rfl (HO.out.alloc _) ⟨w.heap.size, 0, none⟩ 1 1 [.int .i64 (i : Int)] rfl rfl ?c1 ?c2 (by unfold maxLen; omega) (by omega) (by simp; omega) ?_)
  case c2 => first | rfl | (intro u hu; simp at hu; subst hu; rfl)
  intro v' w1 hown hg _
  obtain ⟨d1, d2, d3⟩ := hU.out.push hl hc HO.out hown hg
  have HU' := Lib.hid d3
  obtain ⟨a', c', rfl⟩ := own_slD hown
  clear hown hg d3 hc HO hU hf
  go_wp2_with fail
  go_end0
  exact ⟨rfl, HU'.out⟩
theorem unsafe1_enter (args : Array Value) (w : World) : (callFunc 26 args).run Try.prog w = .ok (.enter 26 args) w := by go_simp
theorem unsafe_nilD (w : World) : Calls Try.prog 9 #[.pointer none] w fun e w' => e = .returned (.slice none 0 0) ∧ w = w' := by
  go_enter Try.func9, Try.ntmps9
  go_wp2_with fail
  go_ret
  exact ⟨rfl, rfl⟩
set_option maxRecDepth 100000 in
set_option maxHeartbeats 2000000 in
theorem unsafe_okD (g rb n : Nat) (bs : Nat → Bk) (w : World) (hD : DvAt w g rb n bs) (hn : n ≤ 512) : Calls Try.prog 9 #[.pointer (some ⟨g, 0, none⟩)] w fun e w' => ∃ v base, e = .returned v ∧ w'.ownsRow base 3 1 v (uL bs n).length (uL bs n) ∧ Below w.heap.size w w' := by
  have hrl := World.rowIs.lt hD.row
  have hgl : g < w.heap.size := block_lt_of_cell hD.hd
  obtain ⟨w0, HW0, c0, f0, B0⟩ : ∃ w0, Hid (w.alloc (.cells #[.slice none 0 0] 30) = w0) ∧ w0.cell? ⟨w.heap.size, 0, none⟩ = some (.slice none 0 0) ∧ w0.frozen? ⟨w.heap.size, 0, none⟩ = false ∧ Hid (Below w.heap.size w w0) := ⟨_, Lib.hid rfl, cell_of_row _ _ 0 _ _ _ (heap_alloc_new _ _), frozen_of_row _ _ 0 _ _ (heap_alloc_new _ _), Lib.hid ((Below.refl _ _).alloc (Nat.le_refl _) _)⟩
  have HD0 := Lib.hid (hD.below B0.out)
  have hl0 : w.heap.size < w0.heap.size := block_lt_of_cell c0
  have C0 := Lib.hid c0
  have F0 := Lib.hid f0
  clear hD c0 f0
  go_enter Try.func9, Try.ntmps9
  go_upto_region 4 with fail
  rw [HW0.out]
  clear HW0
  go_wp2_with fail
  refine (walker_any g _).mono ?_
  rintro e w1 ⟨rfl, hp, b1⟩
  have HD1 := Lib.hid (HD0.out.below b1)
  have HP1 := Lib.hid hp
  have hs1 : w0.heap.size < w1.heap.size := block_lt_of_cell hp
  have C1 := Lib.hid ((b1.cell (p := ⟨w.heap.size, 0, none⟩) hl0).trans C0.out)
  have F1 := Lib.hid ((b1.frozen (p := ⟨w.heap.size, 0, none⟩) hl0).trans F0.out)
  have B1 := Lib.hid (B0.out.trans (b1.mono B0.out.size))
  obtain ⟨l, hl⟩ : ∃ l, Hid (w.heap.size = l) := ⟨_, Lib.hid rfl⟩
  rw [hl.out] at C1 F1 hrl hgl hl0 B1
  rw [show w.heap.size = l from hl.out]
  clear hp b1 HD0 C0 F0 B0
  generalize w0.heap.size = p at *
  have HU1 : Hid (UnAtD w1.heap.size l w1 w1 (uL bs 0)) := Lib.hid ⟨⟨_, C1.out, World.ownsRow_nil _ _ _ _⟩, F1.out, Below.refl _ _, fun _ _ _ => rfl, Nat.le_refl _⟩
  have HDP : Hid (∀ w', Below l w1 w' → DvAt w' g rb n bs) := Lib.hid (fun w' hb => ⟨(hb.cell (p := ⟨g, 0, none⟩) hgl).trans HD1.out.hd, World.rowIs.of_block HD1.out.row (hb.block rb hrl), HD1.out.ne⟩)
  have CW := Lib.hid (walk1 g rb n p 26 (.pointer (some ⟨l, 0, none⟩)) (fun _ => bs) (fun k w' => UnAtD w1.heap.size l w1 w' (uL bs k)) w1 hn HD1 HP1 HU1 unsafe1_enter
    (Lib.hid (fun i hi hw w' hD' hp' hJ' => by
      have hx := uL_len bs i
      exact (unsafe1_any w1.heap.size l i (.pointer (some ⟨rb, i * 3, none⟩)) (uL bs i) w1 w' (by omega) (Lib.hid hJ') (by omega) (by omega)).mono (fun e w'' h => by
        have h2 : UnAtD w1.heap.size l w1 w'' (uL bs (i + 1)) := by
          show UnAtD _ _ _ _ (if (bs i).wr = true then uL bs i ++ [.int .i64 (i : Int)] else uL bs i)
          rw [if_pos hw]
          exact h.2
        refine ⟨h.1, HDP.out _ h.2.below, ?_, h2⟩
        have hpb := h.2.other p hs1 (Nat.ne_of_gt hl0)
        exact (World.cell?_of_block (a := ⟨p, 0, none⟩) hpb).trans HP1.out)))
    (Lib.hid (fun i hi hw => ⟨rfl, fun w' h => by
      show UnAtD _ _ _ _ (if (bs i).wr = true then uL bs i ++ [.int .i64 (i : Int)] else uL bs i)
      rw [if_neg (by rw [hw]; decide)]
      exact h⟩)))
  go_wp2_with fail
  refine (CW.out).mono ?_
  rintro e w2 ⟨rfl, -, u2⟩
  obtain ⟨v, hv, hov⟩ := u2.row
  have HOV := Lib.hid hov
  have HB2 := Lib.hid (B1.out.trans u2.below)
  obtain ⟨a', c', rfl⟩ := own_slD hov
  clear u2 CW hov HDP HU1
  go_wp2_with fail
  go_ret
  exact ⟨_, _, rfl, HOV.out, by rw [hl.out]; exact HB2.out⟩
end Go.Proofs.Ytefbfpolfbdfgaa
