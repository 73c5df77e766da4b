/- Laws of package view: what must come at any rate, plainly. -/
import Derived.Test.YtapmnacggpcffaaVwI
namespace Go.Proofs.Ytapmnacggpcffaa
open Go.RowKit Go.Deep
set_option linter.unusedVariables false
set_option linter.unusedSimpArgs false
theorem ba_eq33 {a b : ByteArray} (h : a.data.toList = b.data.toList) : a = b := by
  obtain ⟨⟨a⟩⟩ := a
  obtain ⟨⟨b⟩⟩ := b
  simp at h
  rw [h]
theorem ba_dat (l : List UInt8) : (⟨l.toArray⟩ : ByteArray).data.toList = l := rfl
theorem list_blk (F : Nat → UInt8) (n j : Nat) (h : (j + 1) * 64 ≤ n) : List.take ((j + 1) * 64 - j * 64) (List.drop (j * 64) ((List.range n).map F)) = (List.range 64).map fun m => F (64 * j + m) := by
  apply List.ext_getElem?
  intro i
  by_cases hi : i < 64
  · rw [List.getElem?_take, if_pos (by omega), List.getElem?_drop, List.getElem?_map, List.getElem?_range (by omega), List.getElem?_map, List.getElem?_range hi, show j * 64 + i = 64 * j + i by omega]; rfl
  · rw [List.getElem?_take, if_neg (by omega), List.getElem?_eq_none (by simp; omega)]
theorem blk_img (L : List Cg) (j : Nat) (hj : j < 288) : blkP (imgT L) j = ⟨((List.range 64).map fun m => imgF L (64 * j + m)).toArray⟩ := by
  apply ba_eq33
  unfold blkP
  rw [ByteArray.data_extract, Array.toList_extract, List.extract_eq_take_drop]
  unfold imgT
  rw [ba_dat, ba_dat]
  exact list_blk (imgF L) 18432 j (by omega)
def hd7 : ByteArray := headB 7 1
def b7 : ByteArray := ⟨#[0, 0, 0, 0, 0, 0, 0, 7, 1, 0, 0, 0, 0, 0, 0, 0, 0, 0, 0, 0, 0, 0, 0, 0, 0, 0, 0, 0, 0, 0, 0, 0, 0, 0, 0, 0, 0, 0, 0, 0, 0, 0, 0, 0, 0, 0, 0, 0, 0, 0, 0, 0, 0, 0, 0, 0, 0, 0, 0, 0, 0, 0, 0, 0]⟩
def imA : ByteArray := imgT []
def imB : ByteArray := imgT [(227, hd7)]
theorem imA_blk (j : Nat) (hj : j < 288) : blkP imA j = z64 := by
  unfold imA
  rw [blk_img [] j hj]
  show (⟨((List.range 64).map fun _ => (0 : UInt8)).toArray⟩ : ByteArray) = z64
  rw [replicate_mapz]; rfl
theorem imB_F : imgF [(227, hd7)] = wrF (fun _ => 0) 227 hd7 64 := by
  unfold imgF
  show chF (fun _ => 0) (227, hd7) = _
  unfold chF
  rw [if_pos (by decide)]; rfl
theorem imB_blk (j : Nat) (hj : j < 288) (h : j ≠ 227) : blkP imB j = z64 := by
  unfold imB
  rw [blk_img _ j hj, imB_F]
  have e : ((List.range 64).map fun m => wrF (fun _ => 0) 227 hd7 64 (64 * j + m)) = (List.range 64).map fun _ => (0 : UInt8) := by
    apply List.map_congr_left
    intro m hm
    have := List.mem_range.1 hm
    unfold wrF
    rw [if_neg (by omega)]
  rw [e, replicate_mapz]; rfl
theorem b7_bytes : (List.range 64).map (byt hd7) = b7.data.toList := by decide +kernel
theorem imB_227 : blkP imB 227 = b7 := by
  unfold imB
  rw [blk_img _ 227 (by omega), imB_F]
  have e : ((List.range 64).map fun m => wrF (fun _ => 0) 227 hd7 64 (64 * 227 + m)) = (List.range 64).map (byt hd7) := by
    apply List.map_congr_left
    intro m hm
    have := List.mem_range.1 hm
    unfold wrF
    rw [if_pos (by omega), show 64 * 227 + m - 64 * 227 = m by omega]
  rw [e, b7_bytes]
theorem okK_z : okK z64 = false := by decide +kernel
theorem okK_7 : okK b7 = true := by decide +kernel
theorem kB_7 : kB b7 = 1 := by decide +kernel
theorem kV_7 : kV b7 = 7 := by decide +kernel
theorem ne_7 : (z64.toList == b7.toList) = false := by decide +kernel
theorem ne_z : (b7.toList == z64.toList) = false := by decide +kernel
theorem numA (i : Nat) (h : i < 288) : numV imA i = -1 := numV_no (by rw [imA_blk i h, okK_z]; simp)
theorem numB (i : Nat) (h : i < 288) (hn : i ≠ 227) : numV imB i = -1 := numV_no (by rw [imB_blk i h hn, okK_z]; simp)
theorem numB7 : numV imB 227 = 7 := by rw [numV_yes (by rw [imB_227]; exact okK_7) (by rw [imB_227]; exact kB_7) (by omega), imB_227]; exact kV_7
theorem zerB7 : zerV imB 227 = false := by unfold zerV; rw [imB_227]; exact ne_z
theorem frImg_quiet {s : ByteArray} {N M : List Nb} {i : Nat} (h : frImg s i N = some M) : ∀ j, (∀ k, i ≤ k → k < i + j → numV s k < 0) → frImg s (i + j) N = some M
  | 0, _ => h
  | j + 1, hq => by
    have ih := frImg_quiet h j (fun k h1 h2 => hq k h1 (by omega))
    rw [show i + (j + 1) = (i + j) + 1 by omega, frImg_succ, ih, Option.bind_some]
    unfold frS
    rw [if_pos (hq (i + j) (by omega) (by omega))]
theorem frA : frImg imA 288 [] = some [] := by
  have h := frImg_quiet (s := imA) (N := []) (M := []) (i := 0) rfl 288 (fun k _ h => by rw [numA k (by omega)]; decide)
  simpa using h
theorem frB : frImg imB 288 [] = some [(7, b7)] := by
  have h1 := frImg_quiet (s := imB) (N := []) (M := []) (i := 0) rfl 227 (fun k _ h => by rw [numB k (by omega) (by omega)]; decide)
  rw [Nat.zero_add] at h1
  have h2 : frImg imB 228 [] = some [(7, b7)] := by
    rw [show (228 : Nat) = 227 + 1 from rfl, frImg_succ, h1, Option.bind_some, numB7, imB_227]
    unfold frS
    rw [if_neg (by decide)]; rfl
  have h3 := frImg_quiet h2 60 (fun k h1 h2 => by rw [numB k (by omega) (by omega)]; decide)
  exact h3
theorem frAB : frAll [imA, imB] [] = some [(7, b7)] := by
  show (frImg imA 288 []).bind (frAll [imB]) = _
  rw [frA, Option.bind_some]
  show (frImg imB 288 []).bind (frAll []) = _
  rw [frB]; rfl
theorem difAB : difL imA imB true 288 = [227] := by
  have h : ∀ i ∈ List.range 288, difP imA imB true i = decide (i = 227) := by
    intro i hi
    have hi := List.mem_range.1 hi
    unfold difP partP
    by_cases h0 : i = 0
    · subst h0
      rw [if_pos ⟨rfl, rfl⟩, if_pos ⟨rfl, rfl⟩, imA_blk 0 (by omega), imB_blk 0 (by omega) (by omega)]; simp
    · rw [if_neg (fun h => h0 h.2), if_neg (fun h => h0 h.2), imA_blk i hi]
      by_cases h7 : i = 227
      · subst h7
        rw [imB_227, ne_7]; rfl
      · rw [imB_blk i hi h7, decide_eq_false h7]; simp
  unfold difL
  rw [List.filter_congr h]
  decide +kernel
theorem seenC_len (s : ByteArray) : ∀ n, (seenC s n).length = n * 4
  | 0 => rfl
  | n + 1 => by rw [seenC_succ, List.length_append, seenC_len s n]; simp; omega
theorem seenC_get (s : ByteArray) (i : Nat) : ∀ n, i < n → (seenC s n)[i * 4]? = some (.int .i64 (whatK i)) ∧ (seenC s n)[i * 4 + 1]? = some (.int .i64 (whatI i)) ∧ (seenC s n)[i * 4 + 2]? = some (.int .i64 (numV s i)) ∧ (seenC s n)[i * 4 + 3]? = some (.bool (zerV s i))
  | 0, h => absurd h (by omega)
  | n + 1, h => by
    have hl := seenC_len s n
    rw [seenC_succ]
    by_cases e : i = n
    · subst e
      refine ⟨?_, ?_, ?_, ?_⟩
      · rw [List.getElem?_append_right (by omega), show i * 4 - (seenC s i).length = 0 by omega]; rfl
      · rw [List.getElem?_append_right (by omega), show i * 4 + 1 - (seenC s i).length = 1 by omega]; rfl
      · rw [List.getElem?_append_right (by omega), show i * 4 + 2 - (seenC s i).length = 2 by omega]; rfl
      · rw [List.getElem?_append_right (by omega), show i * 4 + 3 - (seenC s i).length = 3 by omega]; rfl
    · obtain ⟨h0, h1, h2, h3⟩ := seenC_get s i n (by omega)
      rw [List.getElem?_append_left (by omega), List.getElem?_append_left (by omega), List.getElem?_append_left (by omega), List.getElem?_append_left (by omega)]
      exact ⟨h0, h1, h2, h3⟩
theorem eql_seen7 (w : World) : (binOp .eql 33 (.agg #[.int .i64 4, .int .i64 3, .int .i64 7, .bool false]) (.agg #[.int .i64 4, .int .i64 3, .int .i64 7, .bool false])).run Try.prog w = .ok (.bool true) w := by kernel_rfl
end Go.Proofs.Ytapmnacggpcffaa
