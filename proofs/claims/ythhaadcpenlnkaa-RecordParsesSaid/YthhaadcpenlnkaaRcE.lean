/- Package record (cellaret): a row of places as a block; the reference's N. -/
import Derived.Test.YthhaadcpenlnkaaRcD
namespace Go.Proofs.Ythhaadcpenlnkaa
open Go.RowKit Go.Deep
set_option linter.unusedVariables false
set_option linter.unusedSimpArgs false
theorem rN_any (n W : Int) (w : World) (hn : n ≤ 9223372036854775807) :
    Calls Try.prog 25 #[.int .i64 n, .int .i64 W] w fun e w' => e = .returned (.string ⟨(putL n W).toArray⟩) ∧ Below w.heap.size w w' := by
  have CP := Lib.hid (r01put_any n W w hn)
  go_enter Try.func25, Try.ntmps25
  go_wp2_with fail
  refine (CP.out).mono ?_
  rintro e w' ⟨rfl, hb⟩
  go_wp2_with fail
  go_ret
  exact ⟨rfl, hb⟩
/-- Where the Puts are. -/
def atsL (ps : List Pt) : List Int := ps.map (·.1)
theorem atsL_len (ps : List Pt) : (atsL ps).length = ps.length := by simp [atsL]
theorem atsL_get (ps : List Pt) (j : Nat) (h : j < ps.length) : (atsL ps).getD j 0 = pAt ps j := by simp [atsL, pAt, h]
/-- The places of one block. -/
def chunk (ps : List Pt) (c : Nat) : List Int := ((atsL ps).drop (32 * c)).take 32
theorem chunk_len (ps : List Pt) (c : Nat) : (chunk ps c).length = min 32 (ps.length - 32 * c) := by simp [chunk, atsL_len]
theorem chunk_get (ps : List Pt) (c j : Nat) (h : j < (chunk ps c).length) : (chunk ps c).getD j 0 = pAt ps (32 * c + j) := by
  rw [chunk_len] at h
  rw [← atsL_get ps _ (by omega)]
  unfold chunk
  simp only [List.getD_eq_getElem?_getD, List.getElem?_take, List.getElem?_drop]
  rw [if_pos (by omega)]
/-- A block of places. -/
def atsB (ps : List Pt) (c : Nat) : ByteArray := ⟨(zpadL (rowB 2 (chunk ps c)) 64).toArray⟩
theorem putE_two {n : Int} (h0 : 0 ≤ n) (h : n ≤ 65535) : putE n 2 = 0 := by
  unfold putE
  rw [if_pos (by omega), if_neg]
  rintro (h' | ⟨-, h'⟩)
  · omega
  · apply h'
    show n / 2 ^ (8 * 2) = 0
    rw [show (2 : Int) ^ (8 * 2) = 65536 by decide]
    omega
theorem putL_two {n : Int} (h0 : 0 ≤ n) (h : n ≤ 65535) : putL n 2 = beL n 2 := putL_ok (W := 2) (putE_two h0 h)
theorem rowB_two (l : List Int) (h : ∀ i, i < l.length → 0 ≤ l.getD i 0 ∧ l.getD i 0 ≤ 65535) : (rowB 2 l).length = 2 * l.length := by
  induction l with
  | nil => rfl
  | cons n r ih =>
    have h0 := h 0 (by simp)
    simp only [List.getD_cons_zero] at h0
    unfold rowB
    rw [List.flatMap_cons, List.length_append, putL_two h0.1 h0.2, beL_length]
    have := ih (fun i hi => by simpa using h (i + 1) (by simpa using hi))
    unfold rowB at this
    rw [this]
    simp
    omega
theorem chunk_ok {ps : List Pt} (h : okPs ps) (c : Nat) : ∀ i, i < (chunk ps c).length → 0 ≤ (chunk ps c).getD i 0 ∧ (chunk ps c).getD i 0 ≤ 65535 := fun i hi => by
  rw [chunk_get ps c i hi]
  rw [chunk_len] at hi
  have h1 := okPs_low h (32 * c + i) (by omega)
  have h2 := (h (32 * c + i) (by omega)).2.1
  omega
theorem chunk_rowE {ps : List Pt} (h : okPs ps) (c : Nat) : rowE 2 (chunk ps c) = 0 := rowE_ok 2 _ (fun i hi => putE_two (chunk_ok h c i hi).1 (chunk_ok h c i hi).2)
theorem chunk_rowL {ps : List Pt} (h : okPs ps) (c : Nat) : rowL 2 (chunk ps c) = rowB 2 (chunk ps c) := by unfold rowL; rw [if_pos (chunk_rowE h c)]
theorem chunk_row_len {ps : List Pt} (h : okPs ps) (c : Nat) : (rowB 2 (chunk ps c)).length ≤ 64 := by
  rw [rowB_two _ (chunk_ok h c), chunk_len]
  omega
theorem rowBlk_any (ps : List Pt) (c : Nat) (ao : Option Addr) (len cap : Nat) (w : World) (h : okPs ps) (hl : (chunk ps c).length = len) (hA : IntsAt w ao len (chunk ps c)) :
    Calls Try.prog 23 #[.slice ao len cap] w fun e w' => e = .returned (.string (atsB ps c)) ∧ Below w.heap.size w w' := by
  have h32 : len ≤ 32 := by rw [← hl, chunk_len]; omega
  have CR := Lib.hid (row_ok 2 ao len cap (chunk ps c) w (by omega) (by omega) (by omega) (Lib.hid hA) (Lib.hid hl))
  rw [chunk_rowE h c, chunk_rowL h c] at CR
  have CP := Lib.hid (fun w => pad_ok ⟨(rowB 2 (chunk ps c)).toArray⟩ 64 w (by omega) (by rw [bytes_size]; exact chunk_row_len h c))
  rw [show ((64 : Nat) : Int) = 64 from rfl] at CP
  have HE : Hid (∀ q, (⟨(zpadL (⟨(rowB 2 (chunk ps c)).toArray⟩ : ByteArray).data.toList 64).toArray⟩ : ByteArray) = q → atsB ps c = q) := Lib.hid (fun q h => h)
  generalize (⟨(rowB 2 (chunk ps c)).toArray⟩ : ByteArray) = s at *
  generalize (⟨(zpadL s.data.toList 64).toArray⟩ : ByteArray) = t at *
  clear hl hA h
  go_enter Try.func23, Try.ntmps23
  go_wp2_with fail
  refine (CR.out).mono ?_
  rintro e w1 ⟨rfl, b1⟩
  go_wp2_with fail
  refine (CP.out _).mono ?_
  rintro e w2 ⟨rfl, b2⟩
  go_wp2_with fail
  go_ret
  exact ⟨by rw [HE.out _ rfl]; rfl, b1.trans (b2.mono b1.size)⟩
/-- A record's first block. -/
def hdB (R : Rc) : ByteArray := (⟨#[114, 99]⟩ : ByteArray) ++ ⟨(beL R.seq 4).toArray⟩ ++ ⟨(beL (R.ps.length : Int) 2).toArray⟩ ++ ⟨R.root.toArray⟩ ++ ⟨(List.replicate 24 (0 : UInt8)).toArray⟩
/-- A record's blocks: the first ones, all. -/
def hdsL (R : Rc) (c : Nat) : List ByteArray := hdB R :: (List.range c).map (atsB R.ps)
def plN (n : Nat) : Nat := (n + 31) / 32
def layL (R : Rc) : List ByteArray := hdsL R (plN R.ps.length) ++ R.ps.map (·.2)
theorem hdsL_len (R : Rc) (c : Nat) : (hdsL R c).length = c + 1 := by simp [hdsL]
theorem hdsL_succ (R : Rc) (c : Nat) : hdsL R (c + 1) = hdsL R c ++ [atsB R.ps c] := by simp [hdsL, List.range_succ]
theorem layL_len (R : Rc) : (layL R).length = lenN R.ps.length := by unfold layL lenN; rw [List.length_append, hdsL_len, List.length_map]; unfold plN; omega
end Go.Proofs.Ythhaadcpenlnkaa
