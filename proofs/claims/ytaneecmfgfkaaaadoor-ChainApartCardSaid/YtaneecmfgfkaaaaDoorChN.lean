/- Next and Along of any rows, in one sentence each (layer 14). -/
import Derived.Test.YtaneecmfgfkaaaaDoorChM
import Derived.Test.YtaneecmfgfkaaaaDoorChJ
namespace Go.Proofs.YtaneecmfgfkaaaaDoor
open Go.RowKit Go.Deep Go.Maps
set_option linter.unusedVariables false
set_option linter.unusedSimpArgs false
theorem OrX.freeLow {base : Nat} {w : World} {o : Option Addr} {X : Option OrS} (h : OrX base w o X) (k : Nat) (hk : k < base) : FreeX X k := by
  match o, X, h with
  | .none, .none, h => exact FreeX.none k
  | Option.some a, Option.some S, h =>
    intro S' e
    cases e
    exact ⟨by have := h.2.hb; omega, by have := h.2.hbb; omega, fun e1 => by have := (h.2.ht.lt k e1).1; omega, fun e1 => by have := (h.2.hs.lt k e1).1; omega⟩
theorem TxtAt.b {w wc : World} {la : Option Addr} {L : List ByteArray} {o : Option Addr} {X : Option OrS} (h : TxtAt w la L) (hb : Below w.heap.size w wc) (hX : OrX w.heap.size wc o X) : TxtB wc.heap.size wc X la L := fun h0 => by
  obtain ⟨g, oo, e, hg, hc⟩ := h h0
  exact ⟨g, oo, e, Nat.lt_of_lt_of_le hg hb.size, hX.freeLow g hg, fun i hi => (hb.cell (p := ⟨g, oo + i, none⟩) hg).trans (hc i hi)⟩
theorem next_u (base : Nat) (o : Option Addr) (X : Option OrS) (a : List UInt8) (L : List ByteArray) (la : Option Addr) (n c : Nat) (w : World) (hG : Gl w) (hbf : 0 < base) (hbk : 1 < base) (hX : OrX base w o X) (hF : FewX X 1000) (ha : a.length = 32)
    (hn : L.length = n) (hc : n ≤ c) (hnm : n ≤ 9223372036854775807) (hT : TxtB w.heap.size w X la L) :
    Calls Tryd.prog 20 #[.pointer o, .agg (digA a), .slice la n c] w fun e w' => ∃ X', e = .returned (.tuple #[.agg (nextD a L), .int .i64 (erB L)]) ∧ OrX base w' o X' ∧ SumsX X X' (if okB L = true then [nextT a L] else []) ∧ Below base w w' ∧ KeptX w w' X X' := by
  cases hok : okB L with
  | true =>
    rw [nextD_yes a L hok, show erB L = 0 from by unfold erB; rw [if_pos hok], if_pos rfl]
    exact next_x base o X a L la n c w hG hbf hbk hX hF ha hn hc hok hT
  | false =>
    rw [nextD_no a L hok, show erB L = 6 from by unfold erB; rw [hok]; rfl, if_neg (by simp)]
    have hD : (digA a).size = 32 := by rw [digA_size, ha]
    refine (next_no base o X (digA a) L la n c w hX hD hn hc hnm hok hT).mono fun e w' ⟨h1, h2⟩ => ?_
    exact ⟨X, h1, hX.below h2, SumsX.refl X, h2.mono hX.base, KeptX.below h2⟩
def okR (R : List (List ByteArray)) : Bool := R.all okB
def alongD (a : List UInt8) (R : List (List ByteArray)) : Array Value := if okR R = true then digA (alL a R R.length) else z32
def erR (R : List (List ByteArray)) : Int := if okR R = true then 0 else 6
theorem along_u (base : Nat) (o : Option Addr) (X : Option OrS) (a : List UInt8) (R : List (List ByteArray)) (lr : Option Addr) (m c : Nat) (w : World) (hG : Gl w) (hbf : 0 < base) (hbk : 1 < base) (hX : OrX base w o X) (hF : FewX X 1000) (ha : a.length = 32)
    (hm : R.length = m) (hm2 : m ≤ 100000) (hR : RowsB w.heap.size w X lr R) :
    Calls Tryd.prog 21 #[.pointer o, .agg (digA a), .slice lr m c] w fun e w' => ∃ X', e = .returned (.tuple #[.agg (alongD a R), .int .i64 (erR R)]) ∧ OrX base w' o X' ∧ SumsX X X' (if okR R = true then alT a R m else []) ∧ Below base w w' ∧ KeptX w w' X X' := by
  cases hok : okR R with
  | true =>
    rw [show alongD a R = digA (alL a R m) from by unfold alongD; rw [if_pos hok, hm], show erR R = 0 from by unfold erR; rw [if_pos hok], if_pos rfl]
    exact along_any base o X a R lr m c w hG hbf hbk hX hF ha hm hm2 (fun i hi => List.all_eq_true.1 hok _ (List.getElem_mem hi)) hR
  | false =>
    rw [show alongD a R = z32 from by unfold alongD; rw [hok]; rfl, show erR R = 6 from by unfold erR; rw [hok]; rfl, if_neg (by simp)]
    have hbad : ∃ i, ∃ h : i < R.length, okB R[i] = false := by
      unfold okR at hok
      rw [List.all_eq_false] at hok
      obtain ⟨x, hx, h2⟩ := hok
      obtain ⟨i, hi, rfl⟩ := List.getElem_of_mem hx
      exact ⟨i, hi, by simpa using h2⟩
    refine (along_no base o X (digA a) R lr m c w hm hm2 hbad hR).mono fun e w' ⟨h1, h2⟩ => ?_
    exact ⟨X, h1, hX.below h2, SumsX.refl X, h2.mono hX.base, KeptX.below h2⟩
/-- Two rows of blocks. -/
theorem rowsB_two (L M : List ByteArray) (la lb : Option Addr) (n c m d : Nat) (W : World) (hn : L.length = n) (hc : n ≤ c) (hnm : n ≤ 9223372036854775807) (hm : M.length = m) (hd : m ≤ d) (hmm : m ≤ 9223372036854775807) (hL : TxtB W.heap.size W none la L) (hM : TxtB W.heap.size W none lb M) :
    RowsB (W.alloc (.cells #[.slice la n c, .slice lb m d] 25)).heap.size (W.alloc (.cells #[.slice la n c, .slice lb m d] 25)) none (some ⟨W.heap.size, 0, none⟩) [L, M] := fun _ => by
  have h3 := heap_alloc_new W (.cells #[.slice la n c, .slice lb m d] 25)
  have b3 := (Below.refl W.heap.size W).alloc (Nat.le_refl _) (.cells #[.slice la n c, .slice lb m d] 25)
  have k3 := KeptX.below (X := none) b3
  generalize W.alloc (.cells #[.slice la n c, .slice lb m d] 25) = W' at *
  refine ⟨W.heap.size, 0, rfl, (Array.getElem?_eq_some_iff.1 h3).1, FreeX.none _, fun i hi => ?_⟩
  have hi2 : i < 2 := hi
  rcases (show i = 0 ∨ i = 1 by omega) with rfl | rfl
  · exact ⟨la, c, by rw [show ([L, M][0]).length = n from hn]; exact cell_of_row W' _ 0 _ _ _ h3, by rw [show ([L, M][0]).length = n from hn]; exact hc, by rw [show ([L, M][0]).length = n from hn]; exact hnm, (hL.kept (Nat.le_refl _) k3).mono b3.size⟩
  · exact ⟨lb, d, by rw [show ([L, M][1]).length = m from hm]; exact cell_of_row W' _ 1 _ _ _ h3, by rw [show ([L, M][1]).length = m from hm]; exact hd, by rw [show ([L, M][1]).length = m from hm]; exact hmm, (hM.kept (Nat.le_refl _) k3).mono b3.size⟩
end Go.Proofs.YtaneecmfgfkaaaaDoor
