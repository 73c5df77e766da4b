/- Package view: what is seen of one block (the looker, and the reference's Look). -/
import Derived.Test.YtapmnacggpcffaaVwB
namespace Go.Proofs.Ytapmnacggpcffaa
open Go.RowKit Go.Deep
set_option linter.unusedVariables false
set_option linter.unusedSimpArgs false
/-- A new row is stored: the world that comes is a new one. -/
theorem wpList_store_new {P : Program} {ops : Array Oper} {rest : List Oper} {o : Oper} {a : Act} {w : World} {Q : Exit → Act → World → Prop} (hgd : o.guard = none) (ty : TypeId) (x y : Operand) (ho : o.op = .store ty x y)
    (g : Nat) (cells : Array Value) (hx : a.eval x = .pointer (some ⟨g, 0, none⟩)) (hy : a.eval y = .agg cells)
    (t : TypeId) (old : Array Value) (hg : w.heap[g]? = some (.cells old t (0, 0))) (hi : (P.info? ty).map (·.size) = some cells.size)
    (hold : old.size = cells.size) (h1 : cells.all (·.oneCell') = true)
    (h : ∀ w2, w2.heap[g]? = some (.cells cells t (0, 0)) → Below g w w2 → w2.heap.size = w.heap.size → wpList P ops Q rest (a.put o.dst undef) w2) : wpList P ops Q (o :: rest) a w :=
  wpList_store_row hgd ty x y ho g cells hx hy t old hg hi hold h1 (h _ (setRow_heap w g old cells t (0, 0) hg) (below_setRow (Below.refl _ _) (Nat.le_refl _) _) (by simp [World.setRow]))
/-- The number that is seen. -/
def numV (s : ByteArray) (i : Nat) : Int := if okK (blkP s i) = true ∧ kB (blkP s i) = 1 ∧ 224 ≤ i then kV (blkP s i) else -1
def zerV (s : ByteArray) (i : Nat) : Bool := (blkP s i).toList == z64.toList
def seenA (s : ByteArray) (i : Nat) : Array Value := #[.int .i64 (whatK i), .int .i64 (whatI i), .int .i64 (numV s i), .bool (zerV s i)]
theorem numV_yes {s : ByteArray} {i : Nat} (h1 : okK (blkP s i) = true) (h2 : kB (blkP s i) = 1) (h3 : 224 ≤ i) : numV s i = kV (blkP s i) := if_pos ⟨h1, h2, h3⟩
theorem numV_no {s : ByteArray} {i : Nat} (h : ¬ (okK (blkP s i) = true ∧ kB (blkP s i) = 1 ∧ 224 ≤ i)) : numV s i = -1 := if_neg h
theorem whatK_4 {i : Nat} (h : 224 ≤ i) : whatK (i : Int) = 4 := by unfold whatK; rw [if_neg (by omega), if_neg (by omega), if_neg (by omega), if_neg (by omega)]
theorem whatK_n4 {i : Nat} (h : ¬ 224 ≤ i) : whatK (i : Int) ≠ 4 := by
  unfold whatK
  split
  · decide
  · split
    · decide
    · split
      · decide
      · rw [if_pos (by omega)]; decide
theorem seen_size : (Try.prog.info? 33).map (·.size) = some 4 := by kernel_rfl
theorem one_seen (a b c : Int) (d : Bool) : (#[.int .i64 a, .int .i64 b, .int .i64 c, .bool d] : Array Value).all (·.oneCell') = true := by simp [Value.oneCell']
theorem size_seen (a b c : Int) (d : Bool) : (Try.prog.info? 33).map (·.size) = some (#[.int .i64 a, .int .i64 b, .int .i64 c, .bool d] : Array Value).size := seen_size
theorem four_cells {w : World} {g : Nat} {t : TypeId} {a b c d : Value} {fr : Nat × Nat} (h : w.heap[g]? = some (.cells #[a, b, c, d] t fr)) : w.cell? ⟨g, 0, none⟩ = some a ∧ w.cell? ⟨g, 1, none⟩ = some b ∧ w.cell? ⟨g, 2, none⟩ = some c ∧ w.cell? ⟨g, 3, none⟩ = some d :=
  ⟨cell_of_row w g 0 _ _ _ h, cell_of_row w g 1 _ _ _ h, cell_of_row w g 2 _ _ _ h, cell_of_row w g 3 _ _ _ h⟩
set_option maxRecDepth 100000 in
set_option maxHeartbeats 8000000 in
theorem look1_any (s : ByteArray) (i B b1 b2 : Nat) (w : World) (hs : s.size = 18432) (hi : i < 288) (hL : LkAt w B b1 b2 s) : Calls Try.prog 21 #[.int .i64 (i : Int), .pointer (some ⟨b1, 0, none⟩), .pointer (some ⟨b2, 0, none⟩)] w fun e w' => e = .returned (.agg (seenA s i)) ∧ Below w.heap.size w w' := by
  obtain ⟨w1, hw1⟩ : ∃ w1, w.alloc (.cells #[.int .i64 0, .int .i64 0, .int .i64 0, .bool false] 33) = w1 := ⟨_, rfl⟩
  have B1 : Below w.heap.size w w1 := by rw [← hw1]; exact (Below.refl _ _).alloc (Nat.le_refl _) _
  have s1 : w1.heap.size = w.heap.size + 1 := by rw [← hw1]; simp
  have r1 : w1.heap[w.heap.size]? = some (.cells #[.int .i64 0, .int .i64 0, .int .i64 0, .bool false] 33 (0, 0)) := by rw [← hw1]; exact heap_alloc_new _ _
  have hL1 := hL.below B1 hL.2.2.1 hL.2.2.2.1
  have c1 := hL1.2.2.2.2.1
  have c2 := hL1.2.2.2.2.2
  have CB := Lib.hid (block_any s i w1 hs hi)
  have CW := Lib.hid (what_ok (i : Int) w1 (by omega))
  have hbs := blkP_size hs hi
  have HY := Lib.hid (@numV_yes s i)
  have HN := Lib.hid (@numV_no s i)
  have HZ : Hid (zerV s i = ((blkP s i).toList == z64.toList)) := Lib.hid rfl
  have HSE : Hid (∀ K I N Z, whatK (i : Int) = K → whatI (i : Int) = I → numV s i = N → zerV s i = Z → seenA s i = #[.int .i64 K, .int .i64 I, .int .i64 N, .bool Z]) := Lib.hid (fun K I N Z h1 h2 h3 h4 => by unfold seenA; rw [h1, h2, h3, h4])
  have hK4 : 224 ≤ i → whatK (i : Int) = 4 := whatK_4
  have hKn : ¬ 224 ≤ i → whatK (i : Int) ≠ 4 := whatK_n4
  obtain ⟨K, hK⟩ : ∃ K, whatK (i : Int) = K := ⟨_, rfl⟩
  obtain ⟨I, hI⟩ : ∃ I, whatI (i : Int) = I := ⟨_, rfl⟩
  rw [hK] at hK4 hKn
  rw [hK, hI] at CW
  obtain ⟨t, ht⟩ : ∃ t, blkP s i = t := ⟨_, rfl⟩
  rw [ht] at CB hbs HY HN HZ
  obtain ⟨Z, hZ⟩ : ∃ Z, (t.toList == z64.toList) = Z := ⟨_, rfl⟩
  rw [hZ] at HZ
  generalize z64 = zz at *
  have HSE : Hid (∀ N, numV s i = N → seenA s i = #[.int .i64 K, .int .i64 I, .int .i64 N, .bool Z]) := Lib.hid (fun N h => HSE.out K I N Z hK hI h HZ.out)
  obtain ⟨w2, hw2⟩ : ∃ w2, w1.alloc (.cells #[.int .i64 K, .int .i64 I, .int .i64 (-1), .bool Z] 33) = w2 := ⟨_, rfl⟩
  have B2 : Below w1.heap.size w1 w2 := by rw [← hw2]; exact (Below.refl _ _).alloc (Nat.le_refl _) _
  have r2 : w2.heap[w.heap.size + 1]? = some (.cells #[.int .i64 K, .int .i64 I, .int .i64 (-1), .bool Z] 33 (0, 0)) := by rw [← hw2, ← s1]; exact heap_alloc_new _ _
  have q2 := (B2.block w.heap.size (by omega)).trans r1
  obtain ⟨y0, y1, y2, y3⟩ := four_cells r2
  have HB2 := Lib.hid (B1.trans (B2.mono B1.size))
  have CK := Lib.hid (fun r hr => kd_raw t w2 hbs r hr)
  have HW1 := Lib.hid hw1
  have HW2 := Lib.hid hw2
  have hf2 : w2.frozen? ⟨w.heap.size + 1, 2, none⟩ = false := by simp [World.frozen?, r2]
  clear hL hL1 hw1 hw2 B1 B2 r1 HZ ht hK hI
  go_enter Try.func21, Try.ntmps21
  go_upto_region 1 with fail
  rw [HW1.out]
  clear HW1
  go_wp2_with fail
  refine CB.out.mono ?_
  rintro e w' ⟨rfl, rfl⟩
  go_wp2_with fail
  refine CW.out.mono ?_
  rintro e w' ⟨rfl, rfl⟩
  clear CB CW
  go_upto_region 4 with fail
  try rw [hZ]
  try rw [s1]
  rw [HW2.out]
  clear HW2 c1 c2 hZ
  go_wp2_with fail
  obtain ⟨r, hr⟩ : ∃ r, okK t = r := ⟨_, rfl⟩
  have CK := Lib.hid (CK.out r hr)
  obtain ⟨k, hk⟩ : ∃ k, kB t = k := ⟨_, rfl⟩
  obtain ⟨v, hv⟩ : ∃ v, kV t = v := ⟨_, rfl⟩
  rw [hk, hv] at CK
  rw [hr, hk, hv] at HY
  rw [hr, hk] at HN
  have HEND : Hid (∀ (N : Int) (w3 w4 : World), numV s i = N → Below w.heap.size w w3 → Below w.heap.size w3 w4 → ∀ v, v = Value.agg #[.int .i64 K, .int .i64 I, .int .i64 N, .bool Z] → Ending.returned v = .returned (.agg (seenA s i)) ∧ Below w.heap.size w w4) := Lib.hid (fun N w3 w4 hN h1 h2 v hv => ⟨by rw [hv, HSE.out N hN], h1.trans h2⟩)
  clear hr hk hv HSE
  cases r
  · have hNV := HN.out (by simp)
    refine CK.out.mono ?_
    rintro e w' ⟨rfl, rfl⟩
    clear CK
    go_wp2_with (refine wpList_store_new rfl 33 _ _ rfl w.heap.size #[.int .i64 K, .int .i64 I, .int .i64 (-1), .bool Z] rfl rfl 33 _ q2 (size_seen K I (-1) Z) rfl (one_seen K I (-1) Z) ?_; intro w4 hrow4 hbel4 hs4)
    refine bodyPost_ret_by (results_cell_row rfl _ _ w.heap.size 33 #[.int .i64 K, .int .i64 I, .int .i64 (-1), .bool Z] (0, 0) _ rfl hrow4 Try.underlying33 rfl (size_seen K I (-1) Z)) rfl (HEND.out (-1) _ w4 hNV HB2.out hbel4 _ rfl)
  · by_cases h1 : k = 1
    · subst h1
      by_cases h2 : 224 ≤ i
      · have hNV := HY.out rfl rfl h2
        obtain rfl : K = 4 := hK4 h2
        have q3 : (w2.setCell ⟨w.heap.size + 1, 2, none⟩ (.int .i64 v)).heap[w.heap.size]? = some (.cells #[.int .i64 0, .int .i64 0, .int .i64 0, .bool false] 33 (0, 0)) := (blk_setCell_other _ _ _ _ (by show w.heap.size ≠ w.heap.size + 1; omega)).trans q2
        have HB3 := Lib.hid (HB2.out.setCell (p := ⟨w.heap.size + 1, 2, none⟩) (by show w.heap.size ≤ w.heap.size + 1; omega) (.int .i64 v))
        refine CK.out.mono ?_
        rintro e w' ⟨rfl, rfl⟩
        clear CK
        go_wp2_with (refine wpList_store_new rfl 33 _ _ rfl w.heap.size #[.int .i64 4, .int .i64 I, .int .i64 v, .bool Z] rfl rfl 33 _ q3 (size_seen 4 I v Z) rfl (one_seen 4 I v Z) ?_; intro w4 hrow4 hbel4 hs4)
        refine bodyPost_ret_by (results_cell_row rfl _ _ w.heap.size 33 #[.int .i64 4, .int .i64 I, .int .i64 v, .bool Z] (0, 0) _ rfl hrow4 Try.underlying33 rfl (size_seen 4 I v Z)) rfl (HEND.out v _ w4 hNV HB3.out hbel4 _ rfl)
      · have hNV := HN.out (by simp; omega)
        have hKne : (K == 4) = false := by simpa using hKn h2
        refine CK.out.mono ?_
        rintro e w' ⟨rfl, rfl⟩
        clear CK
        go_wp2_with (refine wpList_store_new rfl 33 _ _ rfl w.heap.size #[.int .i64 K, .int .i64 I, .int .i64 (-1), .bool Z] rfl rfl 33 _ q2 (size_seen K I (-1) Z) rfl (one_seen K I (-1) Z) ?_; intro w4 hrow4 hbel4 hs4)
        refine bodyPost_ret_by (results_cell_row rfl _ _ w.heap.size 33 #[.int .i64 K, .int .i64 I, .int .i64 (-1), .bool Z] (0, 0) _ rfl hrow4 Try.underlying33 rfl (size_seen K I (-1) Z)) rfl (HEND.out (-1) _ w4 hNV HB2.out hbel4 _ rfl)
    · have hNV := HN.out (by simp; omega)
      have hk1 : ((k : Int) == 1) = false := by simp; omega
      refine CK.out.mono ?_
      rintro e w' ⟨rfl, rfl⟩
      clear CK
      go_wp2_with (refine wpList_store_new rfl 33 _ _ rfl w.heap.size #[.int .i64 K, .int .i64 I, .int .i64 (-1), .bool Z] rfl rfl 33 _ q2 (size_seen K I (-1) Z) rfl (one_seen K I (-1) Z) ?_; intro w4 hrow4 hbel4 hs4)
      refine bodyPost_ret_by (results_cell_row rfl _ _ w.heap.size 33 #[.int .i64 K, .int .i64 I, .int .i64 (-1), .bool Z] (0, 0) _ rfl hrow4 Try.underlying33 rfl (size_seen K I (-1) Z)) rfl (HEND.out (-1) _ w4 hNV HB2.out hbel4 _ rfl)
end Go.Proofs.Ytapmnacggpcffaa
