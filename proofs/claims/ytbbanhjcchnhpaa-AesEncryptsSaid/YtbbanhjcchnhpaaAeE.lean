/- Package aes (cellaret): a key's row; the contract of (*Key).Word. -/
import Derived.Test.YtbbanhjcchnhpaaAeD
namespace Go.Proofs.Ytbbanhjcchnhpaa
open Go.RowKit Go.Deep
set_option linter.unusedVariables false
set_option linter.unusedSimpArgs false
/-- A key's cell j: the words W, the images of the first i bytes, and whose they are. -/
def kvF (W : Nat → UInt32) (i j : Nat) : Value := if j < 60 then wv (W j) else if j < 316 then .int .u8 ((if j - 60 < i then boxN (j - 60) else 0 : Nat) : Int) else .int .u8 ((if unboxN (j - 316) < i then unboxN (j - 316) else 0 : Nat) : Int)
theorem kv_step (W : Nat → UInt32) (i : Nat) (hi : i < 256) (j : Nat) (hj : j < 572) : kvF W (i + 1) j = if j = 316 + boxN i then .int .u8 (i : Int) else if j = 60 + i then .int .u8 (boxN i : Int) else kvF W i j := by
  have hb := boxN_lt i hi
  unfold kvF
  by_cases h1 : j < 60
  · rw [if_pos h1, if_pos h1, if_neg (show ¬ j = 316 + boxN i by omega), if_neg (show ¬ j = 60 + i by omega)]
  · rw [if_neg h1, if_neg h1]
    by_cases h2 : j < 316
    · rw [if_pos h2, if_pos h2, if_neg (show ¬ j = 316 + boxN i by omega)]
      by_cases e : j = 60 + i
      · rw [if_pos e, if_pos (show j - 60 < i + 1 by omega), show j - 60 = i by omega]
      · rw [if_neg e]
        by_cases h3 : j - 60 < i
        · rw [if_pos h3, if_pos (show j - 60 < i + 1 by omega)]
        · rw [if_neg h3, if_neg (show ¬ j - 60 < i + 1 by omega)]
    · rw [if_neg h2, if_neg h2, if_neg (show ¬ j = 60 + i by omega)]
      by_cases e : j = 316 + boxN i
      · have hu : unboxN (j - 316) = i := by rw [show j - 316 = boxN i by omega]; exact unbox_box i hi
        rw [if_pos e, hu, if_pos (show i < i + 1 by omega)]
      · have hu : unboxN (j - 316) ≠ i := fun q => e (by have := box_unbox (j - 316) (by omega); rw [q] at this; omega)
        rw [if_neg e]
        by_cases h3 : unboxN (j - 316) < i
        · rw [if_pos h3, if_pos (show unboxN (j - 316) < i + 1 by omega)]
        · rw [if_neg h3, if_neg (show ¬ unboxN (j - 316) < i + 1 by omega)]
theorem kv_word (W : Nat → UInt32) (i k : Nat) (x : UInt32) (hk : k < 60) (j : Nat) : kvF (fun t => if t = k then x else W t) i j = if j = k then wv x else kvF W i j := by
  unfold kvF
  by_cases h1 : j < 60
  · rw [if_pos h1, if_pos h1]
    by_cases e : j = k
    · rw [if_pos e]; exact congrArg wv (if_pos e)
    · rw [if_neg e]; exact congrArg wv (if_neg e)
  · rw [if_neg h1, if_neg h1, if_neg (show ¬ j = k by omega)]
/-- A new key's cells. -/
def R0k : Array Value := (List.replicate 60 (Value.int .u32 0) ++ List.replicate 512 (Value.int .u8 0)).toArray
theorem R0k_size : R0k.size = 572 := by
  unfold R0k
  rw [List.size_toArray, List.length_append, List.length_replicate, List.length_replicate]
theorem R0k_get (j : Nat) (hj : j < 572) : R0k[j]? = some (kvF (fun _ => 0) 0 j) := by
  unfold R0k kvF
  rw [List.getElem?_toArray, List.getElem?_append]
  by_cases h1 : j < 60
  · rw [if_pos (by simpa using h1), if_pos h1, List.getElem?_replicate, if_pos h1]; rfl
  · rw [if_neg (by simpa using h1), if_neg h1, List.getElem?_replicate, if_pos (by simp; omega)]
    by_cases h2 : j < 316
    · rw [if_pos h2, if_neg (show ¬ j - 60 < 0 by omega)]; rfl
    · rw [if_neg h2, if_neg (show ¬ unboxN (j - 316) < 0 by omega)]; rfl
theorem key_build (w : World) : (Instr.build 74 #[]).run Try.prog w = .ok (.agg R0k) w := by kernel_rfl
/-- A key at block g: its words, all images, and whose they are. -/
def KeyAt (w : World) (g : Nat) (W : Nat → UInt32) : Prop := w.rowIs g 74 572 (kvF W 256)
theorem KeyAt.below {w w' : World} {g : Nat} {W : Nat → UInt32} (h : KeyAt w g W) (hb : Below w.heap.size w w') : KeyAt w' g W := World.rowIs.of_block h (hb.block g (World.rowIs.lt h))
theorem KeyAt.lt {w : World} {g : Nat} {W : Nat → UInt32} (h : KeyAt w g W) : g < w.heap.size := World.rowIs.lt h
theorem KeyAt.word {w : World} {g : Nat} {W : Nat → UInt32} (h : KeyAt w g W) (i : Nat) (hi : i < 60) : w.cell? ⟨g, i, none⟩ = some (wv (W i)) := by
  have := World.rowIs.cell h (i := i) (by omega)
  rw [this]
  unfold kvF
  rw [if_pos hi]
theorem KeyAt.box {w : World} {g : Nat} {W : Nat → UInt32} (h : KeyAt w g W) : BoxAt w g := fun b => by
  have hb := b.toNat_lt
  rw [World.rowIs.cell h (i := 60 + b.toNat) (by omega), bx_nat]
  unfold kvF
  rw [if_neg (show ¬ 60 + b.toNat < 60 by omega), if_pos (show 60 + b.toNat < 316 by omega), show 60 + b.toNat - 60 = b.toNat by omega, if_pos (show b.toNat < 256 by omega)]
theorem KeyAt.un {w : World} {g : Nat} {W : Nat → UInt32} (h : KeyAt w g W) : UnAt w g := fun b => by
  have hb := b.toNat_lt
  rw [World.rowIs.cell h (i := 316 + b.toNat) (by omega), ux_nat]
  unfold kvF
  rw [if_neg (show ¬ 316 + b.toNat < 60 by omega), if_neg (show ¬ 316 + b.toNat < 316 by omega), show 316 + b.toNat - 316 = b.toNat by omega, if_pos (unboxN_lt _ hb)]
theorem keyWord_nil (i : Int) (w : World) :
    Calls Try.prog 19 #[.pointer none, .int .i64 i] w fun e w' => e = .returned (.tuple #[.int .u32 0, .int .i64 1]) ∧ w = w' := by
  go_enter Try.func19, Try.ntmps19
  go_wp2
  go_ret2
  exact ⟨rfl, rfl⟩
theorem keyWord_out (g : Nat) (i : Int) (w : World) (hi : i < 0 ∨ 59 < i) :
    Calls Try.prog 19 #[.pointer (some ⟨g, 0, none⟩), .int .i64 i] w fun e w' => e = .returned (.tuple #[.int .u32 0, .int .i64 3]) ∧ w = w' := by
  rcases hi with h | h
  · go_enter Try.func19, Try.ntmps19
    go_wp2
    go_ret2
    exact ⟨rfl, rfl⟩
  · have h0 : ¬ i < 0 := by omega
    have h1 : (60 : Int) ≤ i := by omega
    go_enter Try.func19, Try.ntmps19
    go_wp2
    go_ret2
    exact ⟨rfl, rfl⟩
theorem keyWord_in (g i : Nat) (W : Nat → UInt32) (w : World) (hK : KeyAt w g W) (hi : i < 60) :
    Calls Try.prog 19 #[.pointer (some ⟨g, 0, none⟩), .int .i64 (i : Int)] w fun e w' => e = .returned (.tuple #[wv (W i), .int .i64 0]) ∧ w = w' := by
  have hc := hK.word i hi
  have h0 : ¬ (i : Int) < 0 := by omega
  have h1 : ¬ (60 : Int) ≤ (i : Int) := by omega
  have h2 : (i : Int) < 60 := by omega
  go_enter Try.func19, Try.ntmps19
  go_wp2
  go_ret2
  exact ⟨rfl, rfl⟩
end Go.Proofs.Ytbbanhjcchnhpaa
