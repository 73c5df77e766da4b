/- FlatAll, plainly; its argument opened. -/
import Derived.Test.YtaemnelfnopjdaaFbD
namespace Go.Proofs.Ytaemnelfnopjdaa
open Go.ChangeShapes Go.WideShapes Go.Deep Go.RowKit
set_option linter.unusedVariables false
set_option linter.unusedSimpArgs false
/-- The texts of a chain's states. -/
def chT (M : Fl) (f : List Nat) : List (List UInt8) := (List.range (M.C.length + 1)).map fun j => stx M (foldC (M.C.take j) f)
theorem chT_len (M : Fl) (f : List Nat) : (chT M f).length = M.C.length + 1 := by unfold chT; rw [List.length_map, List.length_range]
theorem chT_wr {K : Nat} {M : Fl} {f : List Nat} {now : List UInt8} (h : R1 K M f now) {a k : Nat} {l : List UInt8} (hl : l.length = 48 * k) (hk : 1 ≤ k) (hak : a + k ≤ K) : chT (wrM M a l k) f = chT M f ++ [now.take (48 * a) ++ (l ++ now.drop (48 * a + 48 * k))] := by
  have hn := (h.wr hl hk hak).now
  obtain ⟨w, _⟩ := wr_all h.ok.nd h.ok.t48 hl
  obtain ⟨X, hX⟩ := w.ext
  have hC : (wrM M a l k).C = M.C ++ [(a, (wrL M.T (pcs l k)).2)] := rfl
  have hT : (wrM M a l k).T = M.T ++ X := hX
  unfold chT
  have hlen : (wrM M a l k).C.length + 1 = (M.C.length + 1) + 1 := by rw [hC, List.length_append]; rfl
  rw [hlen, List.range_succ, List.map_append]
  congr 1
  · apply List.map_congr_left
    intro j hj
    have hj := List.mem_range.1 hj
    unfold stx
    rw [hC, List.take_append_of_le_length (by omega), hT]
    show tx (M.T ++ X) ((foldC (M.C.take j) f).take M.n) = _
    rw [tx_ext (valid_take (fold_st h.ok h.mem j).2.1 _)]
  · simp only [List.map_cons, List.map_nil]
    rw [hn, List.take_of_length_le (by rw [hC, List.length_append]; simp)]
theorem chT_safe {K : Nat} {M : Fl} {f : List Nat} {now : List UInt8} (h : R1 K M f now) : chT { M with F := M.F.map (foldC M.C), C := [] } (foldC M.C f) = [now] := by
  rw [h.now]; rfl
theorem chT_start (K : Nat) (h1 : 1 ≤ K) (h2 : K ≤ 64) : chT (newM K) zst = [List.replicate (48 * K) 0] := by
  have := (R1.start h1 h2).now
  rw [this]; rfl
theorem chT_mem {K : Nat} {M : Fl} {f : List Nat} {now : List UInt8} (h : R1 K M f now) {x : List UInt8} : x ∈ chT M f ↔ ∃ g ∈ crashL M, stx M g = x := by
  unfold chT
  constructor
  · intro hx
    obtain ⟨j, hj, rfl⟩ := List.mem_map.1 hx
    have hj := List.mem_range.1 hj
    exact ⟨_, crashL_mem.2 ⟨f, h.mem, j, by omega, rfl⟩, rfl⟩
  · rintro ⟨g, hg, rfl⟩
    obtain ⟨f', hf', k, hk, rfl⟩ := crashL_mem.1 hg
    rw [h.F] at hf'
    obtain rfl := List.mem_singleton.1 hf'
    exact List.mem_map.2 ⟨k, List.mem_range.2 (by omega), rfl⟩
theorem chT_size {K : Nat} {M : Fl} {f : List Nat} {now : List UInt8} (h : R1 K M f now) {x : List UInt8} (hx : x ∈ chT M f) : x.length = 48 * K := by
  unfold chT at hx
  obtain ⟨j, _, rfl⟩ := List.mem_map.1 hx
  have hs := fold_st h.ok h.mem j
  have hn := h.ok.n64
  unfold stx
  rw [tx_len h.ok.t48 (valid_take hs.2.1 _), List.length_take, hs.1, ← h.n]
  omega
def crM (M : Fl) : Fl := { M with F := crashL M, C := [] }
theorem saw_in {K : Nat} {M : Fl} {f : List Nat} {now : List UInt8} (h : R1 K M f now) {s : ByteArray} (hs : s.size = 48 * K) : sawB (crM M) 0 s = decide (s.data.toList ∈ chT M f) := by
  have h1 := saw_all (crash_ok h.ok) rfl (s := s) (by rw [hs]; show 48 * K = 48 * M.n; rw [h.n])
  show sawB { M with F := crashL M, C := [] } 0 s = _
  rw [h1]
  congr 1
  rw [chT_mem h]
  rfl
theorem saw_one {K : Nat} {M : Fl} {f : List Nat} {now : List UInt8} (h : R1 K M f now) {s : ByteArray} (hs : s.data.toList ∈ chT M f) : sawB (crM M) 0 s = true ∧ (sawM (crM M) 0 s).F.length = 1 := by
  have hl := chT_size h hs
  rw [Array.length_toList] at hl
  have hb : sawB (crM M) 0 s = true := by rw [saw_in h hl]; exact decide_eq_true hs
  refine ⟨hb, ?_⟩
  unfold sawM
  rw [if_pos hb]
  show (sawL (crM M) ((0 : Int)).toNat (numL M.T (pcs s.data.toList (wholeN s.size)))).length = 1
  have hok := crash_ok h.ok
  have hn1 := h.ok.n1
  have hw : wholeN s.size = M.n := by
    have : s.size = 48 * M.n := by rw [h.n]; exact hl
    unfold wholeN; rw [this, if_pos (by omega)]; omega
  rw [hw, show ((0 : Int)).toNat = 0 from rfl]
  obtain ⟨g, hg, hgs⟩ := (chT_mem h).1 hs
  have hlen : s.data.toList.length = 48 * M.n := by rw [Array.length_toList, h.n]; exact hl
  have key : ∀ y ∈ (crM M).F, (allIn M.T (pcs s.data.toList M.n) ∧ likeB y 0 (numL M.T (pcs s.data.toList M.n)) = true) ↔ stx M y = s.data.toList := fun y hy => by
    have h1 := like_tx (M := crM M) hok hy (a := 0) (k := M.n) hlen (by show 0 + M.n ≤ M.n; omega)
    have h2 := seg_all (M := crM M) hok hy
    exact h1.trans (by rw [show (48 * M.n) = 48 * (crM M).n from rfl, h2]; exact Iff.rfl)
  have hall := ((key g hg).2 hgs).1
  have hst : ∀ y ∈ (crM M).F, y.length = 64 ∧ valid M.T y ∧ y.drop M.n = List.replicate (64 - M.n) 0 := fun y hy => ⟨hok.f64 y hy, hok.fe y hy, hok.fz y hy⟩
  have hone : (crM M).F.filter (fun y => likeB (foldC (crM M).C y) 0 (numL M.T (pcs s.data.toList M.n))) = [g] := filter_one (crashL_nodup M) hg (fun y hy => by
    constructor
    · intro h1
      exact st_ext h.ok (hst y hy) (hst g hg) (((key y hy).1 ⟨hall, h1⟩).trans hgs.symm)
    · rintro rfl
      exact ((key y hy).2 hgs).2)
  unfold sawL
  rw [hone]; rfl
theorem info_slF : True := trivial
/-- Bytes that came in. -/
def BysF (w : World) (ao : Option Addr) (l : List UInt8) : Prop := 0 < l.length → ∃ g o, ao = some ⟨g, o, none⟩ ∧ g < w.heap.size ∧ ∀ i (hi : i < l.length), w.cell? ⟨g, o + i, none⟩ = some (.int .u8 (l[i].toNat : Int))
theorem BysF.below {w w' : World} {ao : Option Addr} {l : List UInt8} (h : BysF w ao l) (b : Below w.heap.size w w') : BysF w' ao l := fun hp => by
  obtain ⟨g, o, e, hg, hc⟩ := h hp
  exact ⟨g, o, e, Nat.lt_of_lt_of_le hg b.size, fun i hi => (b.cell (p := ⟨g, o + i, none⟩) hg).trans (hc i hi)⟩
theorem BysF.conv {w : World} {ao : Option Addr} {l : List UInt8} (h : BysF w ao l) (n c : Nat) (hn : n ≤ l.length) : (convert 46 9 (.slice ao n c)).run Try.prog w = .ok (.string ⟨(l.take n).toArray⟩) w := by
  by_cases h0 : 0 < n
  · obtain ⟨g, o, rfl, _, hc⟩ := h (by omega)
    have := run_convert_bytes_back (P := Try.prog) w 46 9 5 ⟨g, o, none⟩ c (l.take n) Try.underlying46 Try.underlying5 Try.underlying9 (fun j hj => by
      rw [List.length_take] at hj
      rw [Addr.add_mid, hc j (by omega), List.getElem_take])
    rw [List.length_take, Nat.min_eq_left hn] at this
    exact this
  · obtain rfl : n = 0 := by omega
    rw [List.take_zero]
    cases ao with
    | none => exact run_convert_bytes_string w 46 9 5 none 0 c Try.underlying46 Try.underlying5 Try.underlying9
    | some p =>
      have := run_convert_bytes_back (P := Try.prog) w 46 9 5 p c [] Try.underlying46 Try.underlying5 Try.underlying9 (fun j hj => by simp at hj)
      exact this
end Go.Proofs.Ytaemnelfnopjdaa
