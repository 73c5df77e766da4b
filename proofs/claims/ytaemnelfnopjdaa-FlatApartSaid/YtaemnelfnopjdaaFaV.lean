/- Package flat: New; the reference's Zeros; the law's data. -/
import Derived.Test.YtaemnelfnopjdaaFaT
import Derived.Test.YtaemnelfnopjdaaFaU
namespace Go.Proofs.Ytaemnelfnopjdaa
open Go.RowKit Go.Deep Go.Maps
set_option linter.unusedVariables false
set_option linter.unusedSimpArgs false
theorem wpList_insert_own {H : Type} {P : Program} {w : World} {ops : Array Oper} {rest : List Oper} {o : Oper} {a : Act} {Q : Exit → Act → World → Prop} (hgd : o.guard = none)
    (m x v : Operand) (t : TypeId) (hop : o.op = Op.insert t m x v)
    (k e : TypeId) (Ky : Keyed P k) (ht : P.underlying t = some (.map k e)) (R : Value → Option (DataW H × List MemPlace)) (b n : Nat) (D : DataW H)
    (hm : a.eval m = .map (some b)) (hown : w.ownsMap P k R b n D) (hn : n < maxLen) (key val : Value) (kl : Lit) (hx : a.eval x = key) (hv : a.eval v = val) (hkey : keyOf P k key = some kl)
    (d : DataW H) (ps : List MemPlace) (hval : R val = some (d, ps))
    (hK : ∀ w', w'.ownsMap P k R b (n + 1) (D.put kl d) → w.grownBy w' (some b) → wpList P ops Q rest (a.put o.dst undef) w') : wpList P ops Q (o :: rest) a w := by
  refine wpList_plain hgd fun K hQ => ?_
  obtain ⟨w', hrun, r1, r2⟩ := hown.update Ky ht hn hkey hval
  unfold Oper.wp
  simp [execOp, hop, hm, hx, hv, hrun, Result.andThen]
  exact hQ _ _ (hK w' r1 r2)
def z48B : ByteArray := ⟨z48.toArray⟩
theorem made48 : (madeCells #[.int .u8 0] 48) = (Lib.byteCells z48).toArray := by kernel_rfl
/-- A new model. -/
def newM (n : Nat) : Fl := ⟨n, [z48], [zst], []⟩
theorem newM_ok {n : Nat} (h1 : 1 ≤ n) (h2 : n ≤ 64) : FlOk (newM n) :=
  { n1 := h1, n64 := h2, t48 := fun t ht => by rw [List.mem_singleton.1 ht]; rfl, tz := rfl, nd := by simp [newM], f64 := fun f hf => by rw [List.mem_singleton.1 hf]; exact zst_len, fe := fun f hf x hx => by
      rw [List.mem_singleton.1 hf] at hx
      have := List.eq_of_mem_replicate hx
      subst this; exact Nat.zero_lt_one, fz := fun f hf => by
      rw [List.mem_singleton.1 hf]
      unfold zst
      rw [List.drop_replicate], ne := by simp [newM], ch := fun c hc => (by cases hc), ce := fun c hc => (by cases hc) }
theorem idx_new : Idx ((DataW.map [] : DataW Unit).put (kS z48) (.lit (.int .i64 0))) [z48] := by
  have := Idx.nil.put (D := (DataW.map [] : DataW Unit)) (l := []) (by exact ⟨_, rfl⟩) z48 (by simp)
  simpa using this
theorem info_u8Z : (Try.prog.info? 5).map (fun i => (i.zero, i.size, i.bytes)) = some (some (.int .u8 0), 1, 1) := by kernel_rfl
theorem conv_made (w w1 : World) (n : Nat) (hw : w.alloc (.cells (madeCells #[.int .u8 0] n) 5) = w1) : (convert 46 9 (.slice (some ⟨w.heap.size, 0, none⟩) n n)).run Try.prog w1 = .ok (.string ⟨(List.replicate n (0 : UInt8)).toArray⟩) w1 := by
  have r : w1.rowIs w.heap.size 5 n (fun _ => .int .u8 0) := by rw [← hw]; exact World.rowIs_made w (.int .u8 0) n 5
  have := run_convert_bytes_back (P := Try.prog) w1 46 9 5 ⟨w.heap.size, 0, none⟩ n (List.replicate n (0 : UInt8)) Try.underlying46 Try.underlying5 Try.underlying9 (fun j hj => by
    rw [List.length_replicate] at hj
    rw [Addr.add_lit, Nat.zero_add, r.cell hj, List.getElem_replicate]
    rfl)
  rw [List.length_replicate] at this
  exact this
set_option maxRecDepth 100000 in
set_option maxHeartbeats 2000000 in
theorem zeros_anyF (n : Nat) (w : World) (hn : n ≤ 1000000) : Calls Try.prog 14 #[.int .i64 (n : Int)] w fun e w' => e = .returned (.string ⟨(List.replicate n (0 : UInt8)).toArray⟩) ∧ Below w.heap.size w w' := by
  have hmk := run_make_row' (P := Try.prog) 46 5 (.int .u8 0) 1 Try.underlying46 info_u8Z rfl .i64 .i64 n (by omega) (by omega) w
  obtain ⟨w1, hw1⟩ : ∃ w1, w.alloc (.cells (madeCells #[.int .u8 0] n) 5) = w1 := ⟨_, rfl⟩
  have hcv := conv_made w w1 n hw1
  have HB : Hid (Below w.heap.size w w1) := Lib.hid (by rw [← hw1]; exact (Below.refl _ _).alloc (Nat.le_refl _) _)
  rw [hw1] at hmk
  generalize (⟨(List.replicate n (0 : UInt8)).toArray⟩ : ByteArray) = Z at *
  clear hw1
  go_enter Try.func14, Try.ntmps14
  go_wp2_with fail
  go_ret
  exact ⟨rfl, HB.out⟩
theorem z48_rep : (List.replicate 48 (0 : UInt8)) = z48 := rfl
theorem own_of_block {w : World} {B g n size : Nat} {e : TypeId} {cur : Array Value} (hg : w.heap[g]? = some (.cells cur e (0, 0))) (hs : cur.size = n * size) (hB : B ≤ g) (hn : n ≤ maxLen) : w.ownsRow B e size (.slice (some ⟨g, 0, none⟩) n n) n cur.toList :=
  ⟨by rw [Array.length_toList, hs], Or.inr ⟨g, n, cur, rfl, hB, hg, Nat.le_refl _, hn, hs, by rw [List.take_of_length_le (by rw [Array.length_toList, hs]; exact Nat.le_refl _)]⟩⟩
theorem stA_list (s : List Nat) : (stA s).toList = nC s := rfl
set_option maxRecDepth 100000 in
set_option maxHeartbeats 4000000 in
theorem new_any (n : Int) (w : World) : Calls Try.prog 7 #[.int .i64 n] w fun e w' => if n < 1 ∨ 64 < n then e = .returned (.tuple #[.pointer none, .int .i64 2]) ∧ w = w' else ∃ g OL, e = .returned (.tuple #[.pointer (some ⟨g, 0, none⟩), .int .i64 0]) ∧ FlW w' w.heap.size g OL [] (newM n.toNat) ∧ Below w.heap.size w w' := by
  by_cases h : n < 1 ∨ 64 < n
  · as_aux_lemma =>
    rw [show (fun (e : Ending) (w' : World) => if n < 1 ∨ 64 < n then e = .returned (.tuple #[.pointer none, .int .i64 2]) ∧ w = w' else ∃ g OL, e = .returned (.tuple #[.pointer (some ⟨g, 0, none⟩), .int .i64 0]) ∧ FlW w' w.heap.size g OL [] (newM n.toNat) ∧ Below w.heap.size w w') = (fun e w' => e = .returned (.tuple #[.pointer none, .int .i64 2]) ∧ w = w') from by funext e w'; rw [if_pos h]]
    by_cases h1 : n < 1
    · have h1' : decide (n < 1) = true := decide_eq_true h1
      clear h
      go_enter Try.func7, Try.ntmps7
      go_wp2_with fail
      go_ret2
      exact ⟨rfl, rfl⟩
    · have h1' : decide (n < 1) = false := decide_eq_false h1
      have h2 : 64 < n := by omega
      have h2' : decide (64 < n) = true := decide_eq_true h2
      clear h h1
      go_enter Try.func7, Try.ntmps7
      go_wp2_with fail
      go_ret2
      exact ⟨rfl, rfl⟩
  · as_aux_lemma =>
    rw [show (fun (e : Ending) (w' : World) => if n < 1 ∨ 64 < n then e = .returned (.tuple #[.pointer none, .int .i64 2]) ∧ w = w' else ∃ g OL, e = .returned (.tuple #[.pointer (some ⟨g, 0, none⟩), .int .i64 0]) ∧ FlW w' w.heap.size g OL [] (newM n.toNat) ∧ Below w.heap.size w w') = (fun e w' => ∃ g OL, e = .returned (.tuple #[.pointer (some ⟨g, 0, none⟩), .int .i64 0]) ∧ FlW w' w.heap.size g OL [] (newM n.toNat) ∧ Below w.heap.size w w') from by funext e w'; rw [if_neg h]]
    obtain ⟨N, rfl⟩ : ∃ N : Nat, n = (N : Int) := ⟨n.toNat, by omega⟩
    have h1' : decide ((N : Int) < 1) = false := decide_eq_false (by omega)
    have h2' : decide (64 < (N : Int)) = false := decide_eq_false (by omega)
    rw [show ((N : Int)).toNat = N by omega]
    have hmm := @run_makeMap Try.prog
    obtain ⟨Z, hZ, hZi⟩ := info_stF
    obtain ⟨ist, hist, hsz0, hsz1, hsz2⟩ := info_partsF hZi
    have hmk := run_make_row' (P := Try.prog) 46 5 (.int .u8 0) 1 Try.underlying46 info_u8Z rfl .i64 .i64 48 (by omega) (by omega) w
    rw [show (((48 : Nat) : Int)) = 48 from rfl] at hmk
    obtain ⟨w1, hw1⟩ : ∃ w1, w.alloc (.cells (madeCells #[.int .u8 0] 48) 5) = w1 := ⟨_, rfl⟩
    have hcv := conv_made w w1 48 hw1
    have B1 : Below w.heap.size w w1 := by rw [← hw1]; exact (Below.refl _ _).alloc (Nat.le_refl _) _
    rw [hw1] at hmk
    rw [z48_rep] at hcv
    have hzd : (⟨z48.toArray⟩ : ByteArray) = z48B := rfl
    rw [hzd] at hcv
    have s1 : w1.heap.size = w.heap.size + 1 := by rw [← hw1]; simp
    obtain ⟨w2, hw2⟩ : ∃ w2, w1.alloc (.cells #[.string z48B] 9) = w2 := ⟨_, rfl⟩
    have B2 : Below w1.heap.size w1 w2 := by rw [← hw2]; exact (Below.refl _ _).alloc (Nat.le_refl _) _
    have s2 : w2.heap.size = w.heap.size + 1 + 1 := by rw [← hw2, ← s1]; simp
    have r2 : w2.heap[w.heap.size + 1]? = some (.cells #[.string z48B] 9 (0, 0)) := by rw [← hw2, ← s1]; exact heap_alloc_new _ _
    obtain ⟨w3, hw3⟩ : ∃ w3, w2.alloc (.map #[] 0) = w3 := ⟨_, rfl⟩
    have B3 : Below w2.heap.size w2 w3 := by rw [← hw3]; exact (Below.refl _ _).alloc (Nat.le_refl _) _
    have s3 : w3.heap.size = w.heap.size + 1 + 1 + 1 := by rw [← hw3, ← s2]; simp
    have m3 : w3.ownsMap Try.prog 9 (plainElem Try.prog 3) (w.heap.size + 1 + 1) 0 (DataW.map [] : DataW Unit) := by rw [← hw3, ← s2]; exact World.ownsMap_made (H := Unit) w2 Try.prog 9 _
    have r3 := (B3.block (w.heap.size + 1) (by omega)).trans r2
    obtain ⟨w4, hrun, M4, G4⟩ := m3.update lawS Try.underlying54 (show (0 : Nat) < maxLen by decide) (show keyOf Try.prog 9 (.string z48B) = some (kS z48) from Go.WideMaps.keyOf_string_mk Try.underlying9 (by rw [← hzd, bytes_size]; unfold maxLen; decide)) (plainElem_int (a := 0) Try.underlying3 (nat_wf 0 (by omega)))
    have hrun' : (Instr.mapUpdate 54 (.map (some (w1.heap.size + 1))) (.string z48B) (.int .i64 0)).run Try.prog ((w1.alloc (.cells #[.string z48B] 9)).alloc (.map #[] 0)) = .ok () w4 := by rw [hw2, hw3, s1]; exact hrun
    have r4 := (G4.block (w.heap.size + 1) (by omega) (fun e => by injection e with e; omega)).trans r3
    have HB3 : Hid (Below w.heap.size w w3) := Lib.hid ((B1.trans (B2.mono B1.size)).trans (B3.mono (Nat.le_trans B1.size B2.size)))
    have HKEY := Lib.hid (show keyOf Try.prog 9 (.string z48B) = some (kS z48) from Go.WideMaps.keyOf_string_mk Try.underlying9 (by rw [← hzd, bytes_size]; unfold maxLen; decide))
    have HWF := Lib.hid (nat_wf 0 (by omega))
    have HS1 : Hid (w1.heap.size = w.heap.size + 1) := Lib.hid s1
    have HS2 : Hid (w2.heap.size = w.heap.size + 1 + 1) := Lib.hid s2
    have HW2 := Lib.hid hw2
    have HW3 := Lib.hid hw3
    have HN1 : 1 ≤ N ∧ N ≤ 64 := by omega
    have hcz : (Value.agg #[.int .i64 0, .int .i64 0, .int .i64 0, .int .i64 0, .int .i64 0, .int .i64 0, .int .i64 0, .int .i64 0, .int .i64 0, .int .i64 0, .int .i64 0, .int .i64 0, .int .i64 0, .int .i64 0, .int .i64 0, .int .i64 0, .int .i64 0, .int .i64 0, .int .i64 0, .int .i64 0, .int .i64 0, .int .i64 0, .int .i64 0, .int .i64 0, .int .i64 0, .int .i64 0, .int .i64 0, .int .i64 0, .int .i64 0, .int .i64 0, .int .i64 0, .int .i64 0, .int .i64 0, .int .i64 0, .int .i64 0, .int .i64 0, .int .i64 0, .int .i64 0, .int .i64 0, .int .i64 0, .int .i64 0, .int .i64 0, .int .i64 0, .int .i64 0, .int .i64 0, .int .i64 0, .int .i64 0, .int .i64 0, .int .i64 0, .int .i64 0, .int .i64 0, .int .i64 0, .int .i64 0, .int .i64 0, .int .i64 0, .int .i64 0, .int .i64 0, .int .i64 0, .int .i64 0, .int .i64 0, .int .i64 0, .int .i64 0, .int .i64 0, .int .i64 0]).cells.size = 64 := rfl
    clear h B1 B2 B3 s1 s2 r2 hw1 hw2 hw3 hzd
    go_enter Try.func7, Try.ntmps7
    go_upto_region 4 with fail
    clear hmk hcv
    go_wp2_with (refine wpList_build1 rfl 57 56 _ rfl ist Z 64 Try.underlying57 hist hsz0 hsz1 (by decide) (by decide) (.agg #[.int .i64 0, .int .i64 0, .int .i64 0, .int .i64 0, .int .i64 0, .int .i64 0, .int .i64 0, .int .i64 0, .int .i64 0, .int .i64 0, .int .i64 0, .int .i64 0, .int .i64 0, .int .i64 0, .int .i64 0, .int .i64 0, .int .i64 0, .int .i64 0, .int .i64 0, .int .i64 0, .int .i64 0, .int .i64 0, .int .i64 0, .int .i64 0, .int .i64 0, .int .i64 0, .int .i64 0, .int .i64 0, .int .i64 0, .int .i64 0, .int .i64 0, .int .i64 0, .int .i64 0, .int .i64 0, .int .i64 0, .int .i64 0, .int .i64 0, .int .i64 0, .int .i64 0, .int .i64 0, .int .i64 0, .int .i64 0, .int .i64 0, .int .i64 0, .int .i64 0, .int .i64 0, .int .i64 0, .int .i64 0, .int .i64 0, .int .i64 0, .int .i64 0, .int .i64 0, .int .i64 0, .int .i64 0, .int .i64 0, .int .i64 0, .int .i64 0, .int .i64 0, .int .i64 0, .int .i64 0, .int .i64 0, .int .i64 0, .int .i64 0, .int .i64 0]) rfl hcz ?_)
    go_ret2
    have e0 : (Value.agg #[.int .i64 0, .int .i64 0, .int .i64 0, .int .i64 0, .int .i64 0, .int .i64 0, .int .i64 0, .int .i64 0, .int .i64 0, .int .i64 0, .int .i64 0, .int .i64 0, .int .i64 0, .int .i64 0, .int .i64 0, .int .i64 0, .int .i64 0, .int .i64 0, .int .i64 0, .int .i64 0, .int .i64 0, .int .i64 0, .int .i64 0, .int .i64 0, .int .i64 0, .int .i64 0, .int .i64 0, .int .i64 0, .int .i64 0, .int .i64 0, .int .i64 0, .int .i64 0, .int .i64 0, .int .i64 0, .int .i64 0, .int .i64 0, .int .i64 0, .int .i64 0, .int .i64 0, .int .i64 0, .int .i64 0, .int .i64 0, .int .i64 0, .int .i64 0, .int .i64 0, .int .i64 0, .int .i64 0, .int .i64 0, .int .i64 0, .int .i64 0, .int .i64 0, .int .i64 0, .int .i64 0, .int .i64 0, .int .i64 0, .int .i64 0, .int .i64 0, .int .i64 0, .int .i64 0, .int .i64 0, .int .i64 0, .int .i64 0, .int .i64 0, .int .i64 0]).cells = stA zst := zst_cells
    try rw [e0]
    try rw [zst_cells]
    have G4s : w4.heap.size ≥ w3.heap.size := G4.size
    obtain ⟨w5, hw5⟩ : ∃ w5, w4.alloc (.cells (stA zst) 56) = w5 := ⟨_, rfl⟩
    have B5 : Below w4.heap.size w4 w5 := by rw [← hw5]; exact (Below.refl _ _).alloc (Nat.le_refl _) _
    have s5 : w5.heap.size = w4.heap.size + 1 := by rw [← hw5]; simp
    have r5 : w5.heap[w4.heap.size]? = some (.cells (stA zst) 56 (0, 0)) := by rw [← hw5]; exact heap_alloc_new _ _
    rw [hw5, HS1.out]
    obtain ⟨w6, hw6⟩ : ∃ w6, w5.alloc (.cells #[.int .i64 (N : Int), .slice (some ⟨w.heap.size + 1, 0, none⟩) 1 1, .map (some (w.heap.size + 1 + 1)), .slice (some ⟨w4.heap.size, 0, none⟩) 1 1, .slice none 0 0] 60) = w6 := ⟨_, rfl⟩
    have B6 : Below w5.heap.size w5 w6 := by rw [← hw6]; exact (Below.refl _ _).alloc (Nat.le_refl _) _
    have r6 : w6.heap[w4.heap.size + 1]? = some (.cells #[.int .i64 (N : Int), .slice (some ⟨w.heap.size + 1, 0, none⟩) 1 1, .map (some (w.heap.size + 1 + 1)), .slice (some ⟨w4.heap.size, 0, none⟩) 1 1, .slice none 0 0] 60 (0, 0)) := by rw [← hw6, ← s5]; exact heap_alloc_new _ _
    rw [hw6]
    have B4 : Below w.heap.size w w4 := HB3.out.grown G4 HB3.out.size (fun k e => by injection e with e; omega)
    have BE : Below w.heap.size w w6 := (B4.trans (B5.mono B4.size)).trans (B6.mono (Nat.le_trans B4.size B5.size))
    have t6 := (B6.block (w.heap.size + 1) (by omega)).trans ((B5.block (w.heap.size + 1) (by omega)).trans r4)
    have f6 := (B6.block w4.heap.size (by omega)).trans r5
    have m6 := map_at_block (map_at_block M4 (B5.block (w.heap.size + 1 + 1) (by omega))) (B6.block (w.heap.size + 1 + 1) (by omega))
    have hF : FlAt w6 w.heap.size (w4.heap.size + 1) (newM N) (.slice (some ⟨w.heap.size + 1, 0, none⟩) 1 1) (.slice (some ⟨w4.heap.size, 0, none⟩) 1 1) (.slice none 0 0) [] (w.heap.size + 1 + 1) _ :=
      { hg := r6
        bg := by omega
        ht := own_of_block t6 rfl (by omega) (by decide)
        hm := m6
        bb := by omega
        ix := idx_new
        hf := by
          have := own_of_block (n := 1) (size := 64) f6 (by rw [stA_size zst_len]) (show w.heap.size ≤ w4.heap.size by omega) (by decide)
          rw [stA_list] at this
          show w6.ownsRow w.heap.size 56 64 _ 1 ([zst].flatMap nC)
          simpa using this
        hc := World.ownsRow_nil _ _ _ _
        ch := fun c hc => by cases hc
        ce := rfl }
    first
      | exact ⟨_, _, rfl, ⟨_, _, _, _, _, _, hF, rfl, rfl⟩, BE⟩
      | exact ⟨w4.heap.size + 1, rfl, ⟨_, ⟨_, _, _, _, _, _, hF, rfl, rfl⟩⟩, BE⟩
end Go.Proofs.Ytaemnelfnopjdaa
