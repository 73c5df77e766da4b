/- Plain lemmas (bytes of numbers, rows of bytes as strings), over any program. -/
import Derived.WalkKit
import Derived.WalkSpells
import Derived.Deep.OwnRows
import Derived.Laws.IdiomStrings
namespace Go.Proofs.Ytaemnelfnopjdaa
open Go.RowKit Go.Deep

/-- A row of bytes made a string. -/
theorem conv_row {P : Program} {w : World} {src dst e : TypeId} {b n cap : Nat} {f : Nat → UInt8} {W : Nat} (hs : P.underlying src = some (.slice e)) (he : P.underlying e = some (.int .u8))
    (hd : P.underlying dst = some .string) (h : w.rowIs b e n (fun j => .int .u8 ((f j).toNat : Int))) (hW : W ≤ n) :
    (convert src dst (.slice (some ⟨b, 0, none⟩) W cap)).run P w = .ok (.string ⟨((List.range W).map f).toArray⟩) w := by
  have hl : ((List.range W).map f).length = W := by simp
  have := run_convert_bytes_back (P := P) w src dst e ⟨b, 0, none⟩ cap ((List.range W).map f) hs he hd (fun j hj => by
    simp at hj
    have := h.cell (i := j) (by omega)
    by_cases e : j = 0
    · subst e; simpa [Addr.add] using this
    · simpa [Addr.add, e] using this)
  rwa [hl] at this

theorem conv_one {P : Program} (w : World) {src dst e : TypeId} (b : UInt8) (hs : P.underlying src = some (.slice e)) (he : P.underlying e = some (.int .u8))
    (hd : P.underlying dst = some .string) :
    (convert src dst (.slice (some ⟨w.heap.size, 0, none⟩) 1 1)).run P (w.alloc (.cells #[.int .u8 (b.toNat : Int)] e)) = .ok (.string ⟨#[b]⟩) (w.alloc (.cells #[.int .u8 (b.toNat : Int)] e)) :=
  run_convert_bytes_back (P := P) _ src dst e ⟨w.heap.size, 0, none⟩ 1 [b] hs he hd (fun j hj => by
    simp at hj; subst hj; simp [go_sem])
theorem bytes_add (a b : List UInt8) : (⟨a.toArray⟩ : ByteArray) ++ ⟨b.toArray⟩ = ⟨(a ++ b).toArray⟩ := by
  cases a <;> cases b <;> rfl
theorem bytes_size (a : List UInt8) : (⟨a.toArray⟩ : ByteArray).size = a.length := by simp [ByteArray.size]

/-- Bytes that the call itself gathered, made a string. -/
theorem conv_owned {P : Program} {w : World} {src dst e : TypeId} {base : Nat} {v : Value} {l : List UInt8} (hs : P.underlying src = some (.slice e)) (he : P.underlying e = some (.int .u8))
    (hd : P.underlying dst = some .string) (h : w.ownsRow base e 1 v l.length (l.map fun b => .int .u8 (b.toNat : Int))) :
    (convert src dst v).run P w = .ok (.string ⟨l.toArray⟩) w := by
  rcases h.2 with ⟨rfl, h0⟩ | ⟨g, cap, cur, rfl, hb, hg, hn, hcap, hsz, htake⟩
  · have : l = [] := List.length_eq_zero_iff.1 h0
    subst this
    exact run_convert_bytes_string w src dst e none 0 0 hs he hd
  · refine run_convert_bytes_back (P := P) w src dst e ⟨g, 0, none⟩ cap l hs he hd (fun j hj => ?_)
    have h1 : (l.map fun b => Value.int .u8 (b.toNat : Int))[j]? = some (.int .u8 (l[j].toNat : Int)) := by simp [hj]
    exact h.cells rfl j _ h1

/-- Byte i of n, the lowest first. -/
def byteU (n : Int) (i : Nat) : UInt8 := UInt8.ofNat (n / 2 ^ (8 * i) % 256).toNat
theorem byteU_val (n : Int) (i : Nat) : ((byteU n i).toNat : Int) = n / 2 ^ (8 * i) % 256 := by
  unfold byteU
  have h1 := Int.emod_nonneg (n / 2 ^ (8 * i)) (b := 256) (by omega)
  have h2 := Int.emod_lt_of_pos (n / 2 ^ (8 * i)) (b := 256) (by omega)
  generalize n / 2 ^ (8 * i) % 256 = x at *
  rw [UInt8.toNat_ofNat']
  omega

/-- The W lowest bytes of n, the higher first. -/
def beL (n : Int) (W : Nat) : List UInt8 := (List.range W).map (fun j => byteU n (W - 1 - j))
theorem beL_length (n : Int) (W : Nat) : (beL n W).length = W := by simp [beL]
theorem beL_zero (n : Int) : beL n 0 = [] := rfl
theorem beL_succ (n : Int) (W : Nat) : beL n (W + 1) = byteU n W :: beL n W := by
  unfold beL
  rw [List.range_succ_eq_map]
  simp only [List.map_cons, List.map_map]
  congr 1
  apply List.map_congr_left
  intro j hj
  simp at hj
  show byteU n (W + 1 - 1 - (j + 1)) = byteU n (W - 1 - j)
  congr 1
  omega

/-- Put's error number and text. -/
def putE (n W : Int) : Int := if 1 ≤ W ∧ W ≤ 8 then (if n < 0 ∨ (W < 8 ∧ n / 2 ^ (8 * W.toNat) ≠ 0) then 3 else 0) else 2
def putL (n W : Int) : List UInt8 := if putE n W = 0 then beL n W.toNat else []
theorem put_of_arg {n W : Int} (h : ¬ (1 ≤ W ∧ W ≤ 8)) : putE n W = 2 ∧ putL n W = [] := by
  have : putE n W = 2 := by unfold putE; rw [if_neg h]
  exact ⟨this, by unfold putL; rw [this]; rfl⟩
theorem put_of_range {n W : Int} (h : 1 ≤ W ∧ W ≤ 8) (h' : n < 0 ∨ (W < 8 ∧ n / 2 ^ (8 * W.toNat) ≠ 0)) : putE n W = 3 ∧ putL n W = [] := by
  have : putE n W = 3 := by unfold putE; rw [if_pos h, if_pos h']
  exact ⟨this, by unfold putL; rw [this]; rfl⟩
theorem put_of_ok {n W : Int} (h : 1 ≤ W ∧ W ≤ 8) (h' : ¬ (n < 0 ∨ (W < 8 ∧ n / 2 ^ (8 * W.toNat) ≠ 0))) : putE n W = 0 ∧ putL n W = beL n W.toNat := by
  have : putE n W = 0 := by unfold putE; rw [if_pos h, if_neg h']
  exact ⟨this, by unfold putL; rw [this]; rfl⟩
theorem ret_two {s t : List UInt8} {a b : Int} (h : s = t) (h' : a = b) : Ending.returned (.tuple #[.string ⟨s.toArray⟩, .int .i64 a]) = .returned (.tuple #[.string ⟨t.toArray⟩, .int .i64 b]) := by rw [h, h']
end Go.Proofs.Ytaemnelfnopjdaa
