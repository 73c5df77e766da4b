/- Package aes (cellaret): a key's row; the contract of (*Key).Word. -/
import Derived.Test.YtbbanhjcchnhpaaMa
import Derived.Test.YtbbanhjcchnhpaaLin
import Derived.Deep.Cut
import Derived.Lib.ConvBytes
namespace Go.Proofs.Ytbbanhjcchnhpaa
open Go.RowKit Go.Deep
set_option linter.unusedVariables false
set_option linter.unusedSimpArgs false
/-- A key's cell j: the words W, the images of the first i bytes, and whose they are. -/
def kvF (W : Nat → UInt32) (i j : Nat) : Value := if j < 60 then wv (W j) else if j < 316 then .int .u8 ((if j - 60 < i then boxN (j - 60) else 0 : Nat) : Int) else .int .u8 ((if unboxN (j - 316) < i then unboxN (j - 316) else 0 : Nat) : Int)
theorem kv_step (W : Nat → UInt32) (i : Nat) (hi : i < 256) (j : Nat) (hj : j < 572) : kvF W (i + 1) j = if j = 316 + boxN i then .int .u8 (i : Int) else if j = 60 + i then .int .u8 (boxN i : Int) else kvF W i j := by
  have hb := boxN_lt i hi
  unfold kvF
  by_cases h1 : j < 60
  · rw [if_pos h1, if_pos h1, if_neg (show ¬ j = 316 + boxN i by omega), if_neg (show ¬ j = 60 + i by omega)]
  · rw [if_neg h1, if_neg h1]
    by_cases h2 : j < 316
    · rw [if_pos h2, if_pos h2, if_neg (show ¬ j = 316 + boxN i by omega)]
      by_cases e : j = 60 + i
      · rw [if_pos e, if_pos (show j - 60 < i + 1 by omega), show j - 60 = i by omega]
      · rw [if_neg e]
        by_cases h3 : j - 60 < i
        · rw [if_pos h3, if_pos (show j - 60 < i + 1 by omega)]
        · rw [if_neg h3, if_neg (show ¬ j - 60 < i + 1 by omega)]
    · rw [if_neg h2, if_neg h2, if_neg (show ¬ j = 60 + i by omega)]
      by_cases e : j = 316 + boxN i
      · have hu : unboxN (j - 316) = i := by rw [show j - 316 = boxN i by omega]; exact unbox_box i hi
        rw [if_pos e, hu, if_pos (show i < i + 1 by omega)]
      · have hu : unboxN (j - 316) ≠ i := fun q => e (by have := box_unbox (j - 316) (by omega); rw [q] at this; omega)
        rw [if_neg e]
        by_cases h3 : unboxN (j - 316) < i
        · rw [if_pos h3, if_pos (show unboxN (j - 316) < i + 1 by omega)]
        · rw [if_neg h3, if_neg (show ¬ unboxN (j - 316) < i + 1 by omega)]
theorem kv_word (W : Nat → UInt32) (i k : Nat) (x : UInt32) (hk : k < 60) (j : Nat) : kvF (fun t => if t = k then x else W t) i j = if j = k then wv x else kvF W i j := by
  unfold kvF
  by_cases h1 : j < 60
  · rw [if_pos h1, if_pos h1]
    by_cases e : j = k
    · rw [if_pos e]; exact congrArg wv (if_pos e)
    · rw [if_neg e]; exact congrArg wv (if_neg e)
  · rw [if_neg h1, if_neg h1, if_neg (show ¬ j = k by omega)]
/-- A new key's cells. -/
def R0k : Array Value := (List.replicate 60 (Value.int .u32 0) ++ List.replicate 512 (Value.int .u8 0)).toArray
theorem R0k_size : R0k.size = 572 := by
  unfold R0k
  rw [List.size_toArray, List.length_append, List.length_replicate, List.length_replicate]
theorem R0k_get (j : Nat) (hj : j < 572) : R0k[j]? = some (kvF (fun _ => 0) 0 j) := by
  unfold R0k kvF
  rw [List.getElem?_toArray, List.getElem?_append]
  by_cases h1 : j < 60
  · rw [if_pos (by simpa using h1), if_pos h1, List.getElem?_replicate, if_pos h1]; rfl
  · rw [if_neg (by simpa using h1), if_neg h1, List.getElem?_replicate, if_pos (by simp; omega)]
    by_cases h2 : j < 316
    · rw [if_pos h2, if_neg (show ¬ j - 60 < 0 by omega)]; rfl
    · rw [if_neg h2, if_neg (show ¬ unboxN (j - 316) < 0 by omega)]; rfl
theorem key_build (w : World) : (Instr.build 74 #[]).run Try.prog w = .ok (.agg R0k) w := by kernel_rfl
/-- A key at block g: its words, all images, and whose they are. -/
def KeyAt (w : World) (g : Nat) (W : Nat → UInt32) : Prop := w.rowIs g 74 572 (kvF W 256)
theorem KeyAt.below {w w' : World} {g : Nat} {W : Nat → UInt32} (h : KeyAt w g W) (hb : Below w.heap.size w w') : KeyAt w' g W := World.rowIs.of_block h (hb.block g (World.rowIs.lt h))
theorem KeyAt.lt {w : World} {g : Nat} {W : Nat → UInt32} (h : KeyAt w g W) : g < w.heap.size := World.rowIs.lt h
theorem KeyAt.word {w : World} {g : Nat} {W : Nat → UInt32} (h : KeyAt w g W) (i : Nat) (hi : i < 60) : w.cell? ⟨g, i, none⟩ = some (wv (W i)) := by
  have := World.rowIs.cell h (i := i) (by omega)
  rw [this]
  unfold kvF
  rw [if_pos hi]
theorem KeyAt.box {w : World} {g : Nat} {W : Nat → UInt32} (h : KeyAt w g W) : BoxAt w g := fun b => by
  have hb := b.toNat_lt
  rw [World.rowIs.cell h (i := 60 + b.toNat) (by omega), bx_nat]
  unfold kvF
  rw [if_neg (show ¬ 60 + b.toNat < 60 by omega), if_pos (show 60 + b.toNat < 316 by omega), show 60 + b.toNat - 60 = b.toNat by omega, if_pos (show b.toNat < 256 by omega)]
theorem KeyAt.un {w : World} {g : Nat} {W : Nat → UInt32} (h : KeyAt w g W) : UnAt w g := fun b => by
  have hb := b.toNat_lt
  rw [World.rowIs.cell h (i := 316 + b.toNat) (by omega), ux_nat]
  unfold kvF
  rw [if_neg (show ¬ 316 + b.toNat < 60 by omega), if_neg (show ¬ 316 + b.toNat < 316 by omega), show 316 + b.toNat - 316 = b.toNat by omega, if_pos (unboxN_lt _ hb)]
theorem keyWord_nil (i : Int) (w : World) :
    Calls Try.prog 19 #[.pointer none, .int .i64 i] w fun e w' => e = .returned (.tuple #[.int .u32 0, .int .i64 1]) ∧ w = w' := by
  go_enter Try.func19, Try.ntmps19
  go_wp2
  go_ret2
  exact ⟨rfl, rfl⟩
theorem keyWord_out (g : Nat) (i : Int) (w : World) (hi : i < 0 ∨ 59 < i) :
    Calls Try.prog 19 #[.pointer (some ⟨g, 0, none⟩), .int .i64 i] w fun e w' => e = .returned (.tuple #[.int .u32 0, .int .i64 3]) ∧ w = w' := by
  rcases hi with h | h
  · go_enter Try.func19, Try.ntmps19
    go_wp2
    go_ret2
    exact ⟨rfl, rfl⟩
  · have h0 : ¬ i < 0 := by omega
    have h1 : (60 : Int) ≤ i := by omega
    go_enter Try.func19, Try.ntmps19
    go_wp2
    go_ret2
    exact ⟨rfl, rfl⟩
theorem keyWord_in (g i : Nat) (W : Nat → UInt32) (w : World) (hK : KeyAt w g W) (hi : i < 60) :
    Calls Try.prog 19 #[.pointer (some ⟨g, 0, none⟩), .int .i64 (i : Int)] w fun e w' => e = .returned (.tuple #[wv (W i), .int .i64 0]) ∧ w = w' := by
  have hc := hK.word i hi
  have h0 : ¬ (i : Int) < 0 := by omega
  have h1 : ¬ (60 : Int) ≤ (i : Int) := by omega
  have h2 : (i : Int) < 60 := by omega
  go_enter Try.func19, Try.ntmps19
  go_wp2
  go_ret2
  exact ⟨rfl, rfl⟩
end Go.Proofs.Ytbbanhjcchnhpaa

/- Package aes (cellaret): New, what its walk needs; a key that is none. -/
namespace Go.Proofs.Ytbbanhjcchnhpaa
open Go.RowKit Go.Deep
set_option linter.unusedVariables false
set_option linter.unusedSimpArgs false
theorem new_no (s : ByteArray) (w : World) (hs : s.size ≠ 32) :
    Calls Try.prog 18 #[.string s] w fun e w' => e = .returned (.tuple #[.pointer none, .int .i64 2]) ∧ w = w' := by
  have h : ((s.size : Int) == 32) = false := by rw [beq_eq_false_iff_ne]; omega
  go_enter Try.func18, Try.ntmps18
  go_wp2
  go_ret2
  exact ⟨rfl, rfl⟩
theorem zeroKey : Try.zeroCells74 = R0k := by kernel_rfl
theorem row_newkey (w : World) : ∃ w2, Hid (w.alloc (.cells Try.zeroCells74 74) = w2) ∧ Hid (w2.rowIs w.heap.size 74 572 (kvF (fun _ => 0) 0)) ∧ Below w.heap.size w w2 ∧ w2.heap.size = w.heap.size + 1 :=
  ⟨_, Lib.hid rfl, Lib.hid ⟨R0k, by rw [zeroKey]; exact heap_alloc_new _ _, R0k_size, R0k_get⟩, (Below.refl _ _).alloc (Nat.le_refl _) _, by simp⟩
theorem conv_sbA (s : ByteArray) (w : World) (hs : s.size ≤ 1125899906842624) : ∃ cap w', Hid ((convert 9 77 (.string s)).run Try.prog w = .ok (.slice (some ⟨w.heap.size, 0, none⟩) s.size cap) w') ∧ s.size ≤ cap ∧ cap ≤ 9223372036854775807 ∧ w'.rangeAt w.heap.size 0 (bv s.data.toList) ∧ Below w.heap.size w w' ∧ w'.heap.size = w.heap.size + 1 := by
  refine ⟨_, _, Lib.hid (Lib.run_convert_string_bytes (P := Try.prog) w 9 77 5 s Try.underlying9 Try.underlying77 Try.underlying5), grownCap_ge _ _ _ _, ?_, ?_, ?_, Lib.bytesWorld_size _ _ _⟩
  · have := grownCap_le_maxLen w s.size 0 5 (by unfold maxLen; omega)
    unfold maxLen at this
    omega
  · intro j u hu
    have hj : j < s.size := by
      have := (List.getElem?_eq_some_iff.1 hu).1
      rw [Lib.size_eq]
      simpa [bv] using this
    rw [Nat.zero_add, Lib.bytesWorld_cell w 5 s j hj, ← hu]
    unfold bv
    have hj' : j < s.data.toList.length := by rw [← Lib.size_eq]; exact hj
    rw [List.getElem?_map, List.getElem?_eq_getElem hj', List.getD_eq_getElem?_getD, List.getElem?_eq_getElem hj']
    rfl
  · exact ⟨rfl, rfl, rfl, by rw [Lib.bytesWorld_size]; omega, fun k hk => Lib.bytesWorld_at_old w _ s k hk⟩
theorem ext4 (s : ByteArray) (k : Nat) (hk : k < 8) (hs : s.size = 32) : (s.extract (4 * k) (4 * k + 4)).data.toList = [bAt s.data.toList (4 * k), bAt s.data.toList (4 * k + 1), bAt s.data.toList (4 * k + 2), bAt s.data.toList (4 * k + 3)] := by
  have hl : s.data.toList.length = 32 := hs
  rw [show (s.extract (4 * k) (4 * k + 4)).data.toList = (s.data.toList.drop (4 * k)).take 4 by simp [ByteArray.data_extract]]
  generalize s.data.toList = l at *
  apply List.ext_getElem
  · simp; omega
  · intro i h1 h2
    simp only [List.length_cons, List.length_nil] at h2
    rw [List.getElem_take, List.getElem_drop]
    unfold bAt
    rcases (show i = 0 ∨ i = 1 ∨ i = 2 ∨ i = 3 by omega) with rfl | rfl | rfl | rfl <;> simp [List.getElem?_eq_getElem (show 4 * k + 0 < l.length by omega), List.getElem?_eq_getElem (show 4 * k + 1 < l.length by omega), List.getElem?_eq_getElem (show 4 * k + 2 < l.length by omega), List.getElem?_eq_getElem (show 4 * k + 3 < l.length by omega), List.getElem?_eq_getElem (show 4 * k < l.length by omega)]
theorem array_at4 (g cap : Nat) (w : World) : (Instr.arrayAt 76 (.slice (some ⟨g, 0, none⟩) 4 cap)).run Try.prog w = .ok (.pointer (some ⟨g, 0, none⟩)) w := by kernel_rfl
/-- A key's own word t. -/
def kw (l : List UInt8) (t : Nat) : UInt32 := be4 (bAt l (4 * t)) (bAt l (4 * t + 1)) (bAt l (4 * t + 2)) (bAt l (4 * t + 3))
def wK (l : List UInt8) (k t : Nat) : UInt32 := if t < k then kw l t else 0
theorem wK_step (l : List UInt8) (k : Nat) : wK l (k + 1) = fun t => if t = k then kw l k else wK l k t := by
  funext t
  unfold wK
  by_cases e : t = k
  · subst e; rw [if_pos (show t < t + 1 by omega), if_pos rfl]
  · rw [if_neg e]
    by_cases h : t < k
    · rw [if_pos h, if_pos (show t < k + 1 by omega)]
    · rw [if_neg h, if_neg (show ¬ t < k + 1 by omega)]
theorem wK_zero (l : List UInt8) : wK l 0 = fun _ => 0 := rfl
end Go.Proofs.Ytbbanhjcchnhpaa

/- Package aes (cellaret): a key's words, as numbers. -/
namespace Go.Proofs.Ytbbanhjcchnhpaa
open Go.RowKit Go.Deep
set_option linter.unusedVariables false
set_option linter.unusedSimpArgs false
/-- A word turned by eight bits. -/
def rolW (x : UInt32) : UInt32 := (x <<< UInt32.ofNat 8) ||| (x >>> UInt32.ofNat 24)
theorem rolW_walk (x : UInt32) : bits BinOp.or .u32 ((x.toNat : Int) * 256 % 4294967296) ((x.toNat : Int) / 16777216) = ((rolW x).toNat : Int) := by
  rw [show (256 : Int) = 2 ^ 8 from rfl, show (16777216 : Int) = 2 ^ 24 from rfl, w_shl x 8 (by omega), w_div x 24 (by omega), w_or]
  rfl
/-- What is added to the word eight ahead. -/
def tW (W : Nat → UInt32) (p i : Nat) : UInt32 := if i % 8 = 0 then imgW (rolW (W (i - 1))) ^^^ (UInt32.ofNat p <<< UInt32.ofNat 24) else if i % 8 = 4 then imgW (W (i - 1)) else W (i - 1)
def nextW (W : Nat → UInt32) (p i : Nat) : UInt32 := W (i - 8) ^^^ tW W p i
/-- The powers of two at word n + 8. -/
def pwE : Nat → Nat
  | 0 => 1
  | n + 1 => if (n + 8) % 8 = 0 then tw (pwE n) else pwE n
def wE (l : List UInt8) : Nat → Nat → UInt32
  | 0 => wK l 8
  | n + 1 => fun t => if t = n + 8 then nextW (wE l n) (pwE n) (n + 8) else wE l n t
def pwI (i : Nat) : Nat := pwE (i - 8)
def wI (l : List UInt8) (i : Nat) : Nat → UInt32 := wE l (i - 8)
theorem pwI_lt (i : Nat) : pwI i < 256 := by
  unfold pwI
  generalize i - 8 = n
  induction n with
  | zero => decide
  | succ n ih =>
    unfold pwE
    split
    · exact tw_lt _ ih
    · exact ih
theorem pwI_step (i : Nat) (hi : 8 ≤ i) : pwI (i + 1) = if i % 8 = 0 then tw (pwI i) else pwI i := by
  unfold pwI
  rw [show i + 1 - 8 = (i - 8) + 1 by omega, pwE, show i - 8 + 8 = i by omega]
theorem wI_step (l : List UInt8) (i : Nat) (hi : 8 ≤ i) : wI l (i + 1) = fun t => if t = i then nextW (wI l i) (pwI i) i else wI l i t := by
  unfold wI pwI
  rw [show i + 1 - 8 = (i - 8) + 1 by omega, wE, show i - 8 + 8 = i by omega]
theorem pow_walk (p : Nat) (hp : p < 256) : (p : Int) * 16777216 % 4294967296 = ((UInt32.ofNat p <<< UInt32.ofNat 24).toNat : Int) := by
  rw [show (16777216 : Int) = 2 ^ 24 from rfl, ← w_shl (UInt32.ofNat p) 24 (by omega), UInt32.toNat_ofNat']
  rw [Nat.mod_eq_of_lt (show p < 2 ^ 32 by omega)]
end Go.Proofs.Ytbbanhjcchnhpaa

/- Package aes (cellaret): New, walked (new_any). -/
namespace Go.Proofs.Ytbbanhjcchnhpaa
open Go.RowKit Go.Deep
set_option linter.unusedVariables false
set_option linter.unusedSimpArgs false
set_option maxRecDepth 100000 in
set_option maxHeartbeats 4000000 in
theorem new_any (s : ByteArray) (w : World) (hs : s.size = 32) :
    Calls Try.prog 18 #[.string s] w fun e w' => e = .returned (.tuple #[.pointer (some ⟨w.heap.size, 0, none⟩), .int .i64 0]) ∧ KeyAt w' w.heap.size (wI s.data.toList 60) ∧ Below w.heap.size w w' := by
  have h : ((s.size : Int) == 32) = true := by rw [beq_iff_eq]; omega
  go_enter Try.func18, Try.ntmps18
  go_wp2_with fail
  obtain ⟨w2, HW2, HR2, b2, hs2⟩ := row_newkey w
  rw [HW2.out]
  clear HW2
  generalize hq : w.heap.size = q at *
  have HQ := Lib.hid hq
  clear hq
  go_loopw [16] (fun i wi => ∃ k : Nat, i = .int .i64 (k : Int) ∧ k ≤ 256 ∧ Hid (wi.rowIs q 74 572 (kvF (fun _ => 0) k)) ∧ Hid (Below q w2 wi)) (fun i _ => 256 - (intOf i).toNat)
  case atStart => exact ⟨0, rfl, by omega, HR2, Lib.hid (Below.refl _ _)⟩
  case round =>
    obtain ⟨k, rfl, hk, HR, HB⟩ := hrel
    by_cases hlt : k < 256
    · as_aux_lemma =>
      have hli : (k : Int) < 256 := by omega
      have HX := Lib.hid (fun w => box_any k w hlt)
      have hbk := boxN_lt k hlt
      obtain ⟨b, hb⟩ : ∃ b, Hid (boxN k = b) := ⟨_, Lib.hid rfl⟩
      rw [hb.out] at HX hbk
      have hbi : (b : Int) < 256 := by omega
      have hqs := World.rowIs.lt HR.out
      go_wp2_with fail
      refine (HX.out _).mono ?_
      rintro e w3 ⟨rfl, b3⟩
      have HR3 : Hid (w3.rowIs q 74 572 (kvF (fun _ => 0) k)) := Lib.hid (World.rowIs.of_block HR.out (b3.block q hqs))
      have hwk : IntKind.u8.wrap (k : Int) = k := by rw [IntKind.wrap_u8']; omega
      have hne : 60 + k ≠ 316 + b := by omega
      have hne' : 316 + b ≠ 60 + k := by omega
      have HB3 : Hid (Below q w2 w3) := Lib.hid (HB.out.trans (b3.mono (by omega)))
      go_upto_region 8 with fail
      refine wp_region_lin (S := (fun _ => True)) [(0, true), (1, true), (2, true), (3, true), (4, true), (5, true), (6, true), (7, true), (8, true), (9, true), (11, true), (12, true), (10, false), (13, true), (14, false)] (by kernel_rfl) (by kernel_rfl) rfl (by kernel_rfl) ?_ (fun hHeld => ?_)
      · (try dsimp only); try exact trivial
      (refine wpL_calm (o := { dst := some 22, op := Go.Op.move (Go.Operand.tmp 4), type := 26, pos := "aes.go:45", after := #[], guard := none }) (v := ?_) rfl (Or.inl ⟨by rfl, ?_⟩) ?_; rotate_left; (focus (intro w hSw; (try dsimp only at hSw); go_simp; (try (with_reducible rfl)); done)); try simp only [Act.put, List.setIfInBounds_toArray, List.set_cons_zero, List.set_cons_succ])
      (refine wpL_calm (o := { dst := some 23, op := Go.Op.move (Go.Operand.tmp 5), type := 3, pos := "aes.go:45", after := #[], guard := none }) (v := ?_) rfl (Or.inl ⟨by rfl, ?_⟩) ?_; rotate_left; (focus (intro w hSw; (try dsimp only at hSw); go_simp; (try (with_reducible rfl)); done)); try simp only [Act.put, List.setIfInBounds_toArray, List.set_cons_zero, List.set_cons_succ])
      (refine wpL_calm (o := { dst := some 24, op := Go.Op.move (Go.Operand.tmp 4), type := 26, pos := "aes.go:45", after := #[{ on := 10, ground := Go.Ground.gcOnly Go.Departure.lateStores }], guard := none }) (v := ?_) rfl (Or.inl ⟨by rfl, ?_⟩) ?_; rotate_left; (focus (intro w hSw; (try dsimp only at hSw); go_simp; (try (with_reducible rfl)); done)); try simp only [Act.put, List.setIfInBounds_toArray, List.set_cons_zero, List.set_cons_succ])
      (refine wpL_calm (o := { dst := some 25, op := Go.Op.move (Go.Operand.tmp 6), type := 5, pos := "aes.go:45", after := #[{ on := 10, ground := Go.Ground.gcOnly Go.Departure.lateStores }], guard := none }) (v := ?_) rfl (Or.inl ⟨by rfl, ?_⟩) ?_; rotate_left; (focus (intro w hSw; (try dsimp only at hSw); go_simp; (try (with_reducible rfl)); done)); try simp only [Act.put, List.setIfInBounds_toArray, List.set_cons_zero, List.set_cons_succ])
      (refine wpL_calm (o := { dst := some 26, op := Go.Op.move (Go.Operand.tmp 6), type := 5, pos := "aes.go:45", after := #[], guard := none }) (v := ?_) rfl (Or.inl ⟨by rfl, ?_⟩) ?_; rotate_left; (focus (intro w hSw; (try dsimp only at hSw); go_simp; (try (with_reducible rfl)); done)); try simp only [Act.put, List.setIfInBounds_toArray, List.set_cons_zero, List.set_cons_succ])
      (refine wpL_calm (o := { dst := some 27, op := Go.Op.move (Go.Operand.tmp 5), type := 3, pos := "aes.go:45", after := #[{ on := 10, ground := Go.Ground.gcOnly Go.Departure.lateStores }], guard := none }) (v := ?_) rfl (Or.inl ⟨by rfl, ?_⟩) ?_; rotate_left; (focus (intro w hSw; (try dsimp only at hSw); go_simp; (try (with_reducible rfl)); done)); try simp only [Act.put, List.setIfInBounds_toArray, List.set_cons_zero, List.set_cons_succ])
      (refine wpL_calm (o := { dst := some 28, op := Go.Op.convert 3 5 (Go.Operand.tmp 27), type := 5, pos := "aes.go:45", after := #[{ on := 5, ground := Go.Ground.data }, { on := 10, ground := Go.Ground.gcOnly Go.Departure.lateStores }], guard := none }) (v := ?_) rfl (Or.inl ⟨by rfl, ?_⟩) ?_; rotate_left; (focus (intro w hSw; (try dsimp only at hSw); go_simp; (try (with_reducible rfl)); done)); try simp only [Act.put, List.setIfInBounds_toArray, List.set_cons_zero, List.set_cons_succ])
      (refine wpL_calm (o := { dst := some 29, op := Go.Op.nilCheck (Go.Operand.tmp 22), type := 0, pos := "aes.go:45", after := #[{ on := 0, ground := Go.Ground.data }], guard := none }) (v := ?_) rfl (Or.inl ⟨by rfl, ?_⟩) ?_; rotate_left; (focus (intro w hSw; (try dsimp only at hSw); go_simp; (try (with_reducible rfl)); done)); try simp only [Act.put, List.setIfInBounds_toArray, List.set_cons_zero, List.set_cons_succ])
      (refine wpL_calm (o := { dst := some 30, op := Go.Op.fieldAddr 74 (Go.Operand.tmp 29) 1, type := 0, pos := "aes.go:45", after := #[{ on := 7, ground := Go.Ground.data }], guard := none }) (v := ?_) rfl (Or.inl ⟨by rfl, ?_⟩) ?_; rotate_left; (focus (intro w hSw; (try dsimp only at hSw); go_simp; (try (with_reducible rfl)); done)); try simp only [Act.put, List.setIfInBounds_toArray, List.set_cons_zero, List.set_cons_succ])
      (refine wpL_calm (o := { dst := some 31, op := Go.Op.indexAddr 72 (Go.Operand.tmp 30) (Go.Operand.tmp 23), type := 0, pos := "aes.go:45", after := #[{ on := 8, ground := Go.Ground.data }, { on := 1, ground := Go.Ground.data }, { on := 0, ground := Go.Ground.phase }, { on := 1, ground := Go.Ground.phase }, { on := 2, ground := Go.Ground.textOnly Go.Departure.lateStores }, { on := 3, ground := Go.Ground.textOnly Go.Departure.lateStores }, { on := 4, ground := Go.Ground.phase }, { on := 5, ground := Go.Ground.textOnly Go.Departure.lateStores }, { on := 6, ground := Go.Ground.textOnly Go.Departure.lateStores }], guard := none }) (v := ?_) rfl (Or.inl ⟨by rfl, ?_⟩) ?_; rotate_left; (focus (intro w hSw; (try dsimp only at hSw); go_simp; (try (with_reducible rfl)); done)); try simp only [Act.put, List.setIfInBounds_toArray, List.set_cons_zero, List.set_cons_succ])
      (refine wpL_calm (o := { dst := some 32, op := Go.Op.nilCheck (Go.Operand.tmp 24), type := 0, pos := "aes.go:45", after := #[{ on := 2, ground := Go.Ground.data }], guard := none }) (v := ?_) rfl (Or.inl ⟨by rfl, ?_⟩) ?_; rotate_left; (focus (intro w hSw; (try dsimp only at hSw); go_simp; (try (with_reducible rfl)); done)); try simp only [Act.put, List.setIfInBounds_toArray, List.set_cons_zero, List.set_cons_succ])
      (refine wpL_calm (o := { dst := some 33, op := Go.Op.fieldAddr 74 (Go.Operand.tmp 32) 2, type := 0, pos := "aes.go:45", after := #[{ on := 11, ground := Go.Ground.data }], guard := none }) (v := ?_) rfl (Or.inl ⟨by rfl, ?_⟩) ?_; rotate_left; (focus (intro w hSw; (try dsimp only at hSw); go_simp; (try (with_reducible rfl)); done)); try simp only [Act.put, List.setIfInBounds_toArray, List.set_cons_zero, List.set_cons_succ])
      refine wpL_loud1 (o := { dst := none, op := Go.Op.store 5 (Go.Operand.tmp 31) (Go.Operand.tmp 26), type := 0, pos := "aes.go:45", after := #[{ on := 9, ground := Go.Ground.data }, { on := 4, ground := Go.Ground.data }, { on := 0, ground := Go.Ground.phase }, { on := 1, ground := Go.Ground.phase }, { on := 2, ground := Go.Ground.textOnly Go.Departure.lateStores }, { on := 3, ground := Go.Ground.textOnly Go.Departure.lateStores }, { on := 4, ground := Go.Ground.phase }, { on := 5, ground := Go.Ground.textOnly Go.Departure.lateStores }, { on := 6, ground := Go.Ground.textOnly Go.Departure.lateStores }], guard := none }) rfl (fun K hK => ?_)
      (have c0 := World.rowIs.cell HR3.out (i := 60 + k) (by omega); have f0 := World.rowIs.frozen HR3.out (60 + k); go_simp)
      refine hK.out _ _ ?_ (fun hHeld => ?_)
      · (try dsimp only); try trivial
      clear hK K
      try simp only [Act.put, List.setIfInBounds_toArray, List.set_cons_zero, List.set_cons_succ]
      (refine wpL_calm (o := { dst := some 34, op := Go.Op.indexAddr 72 (Go.Operand.tmp 33) (Go.Operand.tmp 25), type := 0, pos := "aes.go:45", after := #[{ on := 12, ground := Go.Ground.data }, { on := 3, ground := Go.Ground.data }, { on := 0, ground := Go.Ground.phase }, { on := 1, ground := Go.Ground.phase }, { on := 2, ground := Go.Ground.phase }, { on := 3, ground := Go.Ground.phase }, { on := 4, ground := Go.Ground.phase }, { on := 5, ground := Go.Ground.phase }, { on := 6, ground := Go.Ground.phase }, { on := 7, ground := Go.Ground.phase }, { on := 8, ground := Go.Ground.phase }, { on := 9, ground := Go.Ground.phase }, { on := 10, ground := Go.Ground.phase }], guard := none }) (v := ?_) rfl (Or.inl ⟨by rfl, ?_⟩) ?_; rotate_left; (focus (intro w hSw; (try dsimp only at hSw); go_simp; (try (with_reducible rfl)); done)); try simp only [Act.put, List.setIfInBounds_toArray, List.set_cons_zero, List.set_cons_succ])
      refine wpL_loud0 (o := { dst := none, op := Go.Op.store 5 (Go.Operand.tmp 34) (Go.Operand.tmp 28), type := 0, pos := "aes.go:45", after := #[{ on := 13, ground := Go.Ground.data }, { on := 6, ground := Go.Ground.data }, { on := 10, ground := Go.Ground.chain }, { on := 0, ground := Go.Ground.phase }, { on := 1, ground := Go.Ground.phase }, { on := 2, ground := Go.Ground.phase }, { on := 3, ground := Go.Ground.phase }, { on := 4, ground := Go.Ground.phase }, { on := 5, ground := Go.Ground.phase }, { on := 6, ground := Go.Ground.phase }, { on := 7, ground := Go.Ground.phase }, { on := 8, ground := Go.Ground.phase }, { on := 9, ground := Go.Ground.phase }, { on := 10, ground := Go.Ground.phase }], guard := none }) rfl (by kernel_rfl) (fun K hK => ?_)
      (have R1 := World.rowIs.set HR3.out (60 + k) (.int .u8 (b : Int)); have c1 := World.rowIs.cell R1 (i := 316 + b) (by omega); have f1 := World.rowIs.frozen R1 (316 + b); have c2 := World.rowIs.cell HR3.out (i := 316 + b) (by omega); have f2 := World.rowIs.frozen HR3.out (316 + b); clear R1; go_simp)
      refine hK.out _ _ ?_
      clear hK K
      try simp only [Act.put, List.setIfInBounds_toArray, List.set_cons_zero, List.set_cons_succ]
      refine wpL_nil ?_
      refine NoPanic.normal ?_
      go_wp2_with fail
      go_roundw
      case rel => exact ⟨k + 1, by go_num, by omega, Lib.hid (by
        refine World.rowIs.congr (World.rowIs.set (World.rowIs.set HR3.out (60 + k) (.int .u8 (b : Int))) (316 + b) (.int .u8 (k : Int))) fun j hj => ?_
        rw [kv_step _ k hlt j hj, hb.out]), Lib.hid ((HB3.out.setCell (p := ⟨q, 60 + k, none⟩) (Nat.le_refl _) _).setCell (p := ⟨q, 316 + b, none⟩) (Nat.le_refl _) _).drew⟩
      case measure => simp [intOf]; omega
    · as_aux_lemma =>
      obtain rfl : k = 256 := by omega
      rw [show ((256 : Nat) : Int) = 256 from rfl]
      have HK : Hid (KeyAt wr q (wK s.data.toList 0)) := HR
      clear HR HR2
      have hss : (s.size : Int) = 32 := by omega
      go_wp2_with fail
      obtain ⟨w3, HE⟩ : ∃ w3, Hid (wr = w3) := ⟨_, Lib.hid rfl⟩
      go_loopw [36] (fun i wi => ∃ k : Nat, i = .int .i64 (k : Int) ∧ k ≤ 8 ∧ Hid (KeyAt wi q (wK s.data.toList k)) ∧ Hid (Below q w2 wi)) (fun i _ => 8 - (intOf i).toNat)
      case atStart => exact ⟨0, rfl, by omega, HK, HB⟩
      clear HK HB
      case round =>
        obtain ⟨k, rfl, hk, HK, HB⟩ := hrel
        by_cases hlt : k < 8
        · as_aux_lemma =>
          have hli : (k : Int) < 8 := by omega
          have y0 : IntKind.i64.wrap (4 * (k : Int)) = 4 * k := IntWalk.i64_in _ (by omega)
          have y1 : IntKind.i64.wrap (4 * (k : Int) + 4) = 4 * k + 4 := IntWalk.i64_in _ (by omega)
          go_upto_region 13 with fail
          have z0 : (4 * (k : Int)).toNat = 4 * k := by omega
          have z1 : (4 * (k : Int) + 4).toNat = 4 * k + 4 := by omega
          have i1 : (0 : Int) ≤ 4 * (k : Int) + 4 := by omega
          have i2 : 4 * (k : Int) + 4 ≤ 32 := by omega
          have i3 : (0 : Int) ≤ 4 * (k : Int) := by omega
          have i4 : 4 * (k : Int) ≤ 4 * (k : Int) + 4 := by omega
          obtain ⟨t, ht⟩ : ∃ t, s.extract (4 * k) (4 * k + 4) = t := ⟨_, rfl⟩
          have ht4 := ext4 s k hlt hs
          rw [ht] at ht4
          have hts : t.size = 4 := by rw [Lib.size_eq, ht4]; rfl
          obtain ⟨cap, w5, HC5, hcap, hcap2, hr5, b5, hs5⟩ := conv_sbA t wr.drew (by rw [hts]; decide)
          rw [hts] at HC5
          rw [ht4] at hr5
          have hcv := HC5.out
          have hat := array_at4 wr.heap.size cap
          have hk60 : (k : Int) < 60 := by omega
          have B5 : Below wr.heap.size wr w5 := (Below.refl _ _).drew.trans b5
          have HK5 := Lib.hid (HK.out.below B5)
          have HWD := Lib.hid (word_any (bAt s.data.toList (4 * k)) (bAt s.data.toList (4 * k + 1)) (bAt s.data.toList (4 * k + 2)) (bAt s.data.toList (4 * k + 3)) w5)
          have hqs := HK.out.lt
          have HB5 : Hid (Below q w2 w5) := Lib.hid (HB.out.trans (B5.mono (by omega)))
          clear ht4 hcap hcap2 HC5 hts b5 B5
          refine wp_region_lin (S := (fun _ => True)) [(0, true), (1, true), (2, true), (3, true), (4, true), (5, true), (6, true), (7, true), (8, true), (13, true), (14, true), (9, false), (10, true), (11, false), (12, false), (15, true), (16, false)] (by kernel_rfl) (by kernel_rfl) rfl (by kernel_rfl) ?_ (fun hHeld => ?_)
          · (try dsimp only); try exact trivial
          (refine wpL_calm (o := { dst := some 39, op := Go.Op.move (Go.Operand.tmp 4), type := 26, pos := "aes.go:48", after := #[], guard := none }) (v := ?_) rfl (Or.inl ⟨by rfl, ?_⟩) ?_; rotate_left; (focus (intro w hSw; (try dsimp only at hSw); go_simp; (try (with_reducible rfl)); done)); try simp only [Act.put, List.setIfInBounds_toArray, List.set_cons_zero, List.set_cons_succ])
          (refine wpL_calm (o := { dst := some 40, op := Go.Op.move (Go.Operand.tmp 7), type := 3, pos := "aes.go:48", after := #[], guard := none }) (v := ?_) rfl (Or.inl ⟨by rfl, ?_⟩) ?_; rotate_left; (focus (intro w hSw; (try dsimp only at hSw); go_simp; (try (with_reducible rfl)); done)); try simp only [Act.put, List.setIfInBounds_toArray, List.set_cons_zero, List.set_cons_succ])
          (refine wpL_calm (o := { dst := some 41, op := Go.Op.move (Go.Operand.tmp 0), type := 9, pos := "aes.go:48", after := #[], guard := none }) (v := ?_) rfl (Or.inl ⟨by rfl, ?_⟩) ?_; rotate_left; (focus (intro w hSw; (try dsimp only at hSw); go_simp; (try (with_reducible rfl)); done)); try simp only [Act.put, List.setIfInBounds_toArray, List.set_cons_zero, List.set_cons_succ])
          (refine wpL_calm (o := { dst := some 42, op := Go.Op.move (Go.Operand.tmp 7), type := 3, pos := "aes.go:48", after := #[], guard := none }) (v := ?_) rfl (Or.inl ⟨by rfl, ?_⟩) ?_; rotate_left; (focus (intro w hSw; (try dsimp only at hSw); go_simp; (try (with_reducible rfl)); done)); try simp only [Act.put, List.setIfInBounds_toArray, List.set_cons_zero, List.set_cons_succ])
          (refine wpL_calm (o := { dst := some 43, op := Go.Op.binOp Go.BinOp.mul 3 (Go.Operand.const (Go.Value.int Go.IntKind.i64 4)) (Go.Operand.tmp 42) 3, type := 3, pos := "aes.go:48", after := #[{ on := 3, ground := Go.Ground.data }], guard := none }) (v := ?_) rfl (Or.inl ⟨by rfl, ?_⟩) ?_; rotate_left; (focus (intro w hSw; (try dsimp only at hSw); go_simp; (try (with_reducible rfl)); done)); try simp only [Act.put, List.setIfInBounds_toArray, List.set_cons_zero, List.set_cons_succ])
          (refine wpL_calm (o := { dst := some 44, op := Go.Op.move (Go.Operand.tmp 7), type := 3, pos := "aes.go:48", after := #[], guard := none }) (v := ?_) rfl (Or.inl ⟨by rfl, ?_⟩) ?_; rotate_left; (focus (intro w hSw; (try dsimp only at hSw); go_simp; (try (with_reducible rfl)); done)); try simp only [Act.put, List.setIfInBounds_toArray, List.set_cons_zero, List.set_cons_succ])
          (refine wpL_calm (o := { dst := some 45, op := Go.Op.binOp Go.BinOp.mul 3 (Go.Operand.const (Go.Value.int Go.IntKind.i64 4)) (Go.Operand.tmp 44) 3, type := 3, pos := "aes.go:48", after := #[{ on := 5, ground := Go.Ground.data }], guard := none }) (v := ?_) rfl (Or.inl ⟨by rfl, ?_⟩) ?_; rotate_left; (focus (intro w hSw; (try dsimp only at hSw); go_simp; (try (with_reducible rfl)); done)); try simp only [Act.put, List.setIfInBounds_toArray, List.set_cons_zero, List.set_cons_succ])
          (refine wpL_calm (o := { dst := some 46, op := Go.Op.binOp Go.BinOp.add 3 (Go.Operand.tmp 45) (Go.Operand.const (Go.Value.int Go.IntKind.i64 4)) 3, type := 3, pos := "aes.go:48", after := #[{ on := 6, ground := Go.Ground.data }], guard := none }) (v := ?_) rfl (Or.inl ⟨by rfl, ?_⟩) ?_; rotate_left; (focus (intro w hSw; (try dsimp only at hSw); go_simp; (try (with_reducible rfl)); done)); try simp only [Act.put, List.setIfInBounds_toArray, List.set_cons_zero, List.set_cons_succ])
          (refine wpL_calm (o := { dst := some 47, op := Go.Op.slice 9 (Go.Operand.tmp 41) (some (Go.Operand.tmp 43)) (some (Go.Operand.tmp 46)) none, type := 9, pos := "aes.go:48", after := #[{ on := 2, ground := Go.Ground.data }, { on := 4, ground := Go.Ground.data }, { on := 7, ground := Go.Ground.data }], guard := none }) (v := ?_) rfl (Or.inl ⟨by rfl, ?_⟩) ?_; rotate_left; (focus (intro w hSw; (try dsimp only at hSw); go_simp; (try (with_reducible rfl)); done)); try simp only [Act.put, List.setIfInBounds_toArray, List.set_cons_zero, List.set_cons_succ])
          (refine wpL_calm (o := { dst := some 52, op := Go.Op.nilCheck (Go.Operand.tmp 39), type := 0, pos := "aes.go:48", after := #[{ on := 0, ground := Go.Ground.data }], guard := none }) (v := ?_) rfl (Or.inl ⟨by rfl, ?_⟩) ?_; rotate_left; (focus (intro w hSw; (try dsimp only at hSw); go_simp; (try (with_reducible rfl)); done)); try simp only [Act.put, List.setIfInBounds_toArray, List.set_cons_zero, List.set_cons_succ])
          (refine wpL_calm (o := { dst := some 53, op := Go.Op.fieldAddr 74 (Go.Operand.tmp 52) 0, type := 0, pos := "aes.go:48", after := #[{ on := 13, ground := Go.Ground.data }], guard := none }) (v := ?_) rfl (Or.inl ⟨by rfl, ?_⟩) ?_; rotate_left; (focus (intro w hSw; (try dsimp only at hSw); go_simp; (try (with_reducible rfl)); done)); try simp only [Act.put, List.setIfInBounds_toArray, List.set_cons_zero, List.set_cons_succ])
          refine wpL_loud1 (o := { dst := some 48, op := Go.Op.convert 9 77 (Go.Operand.tmp 47), type := 77, pos := "aes.go:48", after := #[{ on := 8, ground := Go.Ground.data }], guard := none }) rfl (fun K hK => ?_)
          go_simp
          refine hK.out _ _ ?_ (fun hHeld => ?_)
          · (try dsimp only); try trivial
          clear hK K
          try simp only [Act.put, List.setIfInBounds_toArray, List.set_cons_zero, List.set_cons_succ]
          (refine wpL_calm (o := { dst := some 49, op := Go.Op.sliceToArrayPointer 76 (Go.Operand.tmp 48), type := 0, pos := "aes.go:48", after := #[{ on := 9, ground := Go.Ground.data }], guard := none }) (v := ?_) rfl (Or.inl ⟨by rfl, ?_⟩) ?_; rotate_left; (focus (intro w hSw; (try dsimp only at hSw); go_simp; (try (with_reducible rfl)); done)); try simp only [Act.put, List.setIfInBounds_toArray, List.set_cons_zero, List.set_cons_succ])
          refine wpL_loud1 (o := { dst := some 50, op := Go.Op.load 76 (Go.Operand.tmp 49), type := 76, pos := "aes.go:48", after := #[{ on := 10, ground := Go.Ground.data }], guard := none }) rfl (fun K hK => ?_)
          (rw [if_pos (by rfl)]; refine wp_load_mid _ _ rfl wr.heap.size 0 rfl _ _ hr5 Try.underlying76 rfl (by kernel_rfl) ?_)
          refine hK.out _ _ ?_ (fun hHeld => ?_)
          · (try dsimp only); try trivial
          clear hK K
          try simp only [Act.put, List.setIfInBounds_toArray, List.set_cons_zero, List.set_cons_succ]
          refine wpL_loud1 (o := { dst := some 51, op := Go.Op.call { callee := Go.Callee.value (Go.Operand.func 49), args := #[Go.Operand.tmp 50], argTypes := #[76] }, type := 30, pos := "aes.go:48", after := #[{ on := 11, ground := Go.Ground.data }], guard := none }) rfl (fun K hK => ?_)
          (go_simp; go_at_call 49; refine HWD.out.mono ?_; rintro e w6 ⟨rfl, b6⟩; have HK6 := Lib.hid (HK5.out.below b6); have HB6 := Lib.hid (HB5.out.trans (b6.mono (Nat.le_of_lt (Nat.lt_trans hqs (by rw [hs5]; exact Nat.lt_succ_self _))))))
          try go_wp2_with fail
          refine hK.out _ _ ?_ (fun hHeld => ?_)
          · (try dsimp only); try trivial
          clear hK K
          try simp only [Act.put, List.setIfInBounds_toArray, List.set_cons_zero, List.set_cons_succ]
          (refine wpL_calm (o := { dst := some 54, op := Go.Op.indexAddr 71 (Go.Operand.tmp 53) (Go.Operand.tmp 40), type := 0, pos := "aes.go:48", after := #[{ on := 14, ground := Go.Ground.data }, { on := 1, ground := Go.Ground.data }, { on := 0, ground := Go.Ground.phase }, { on := 1, ground := Go.Ground.phase }, { on := 2, ground := Go.Ground.phase }, { on := 3, ground := Go.Ground.phase }, { on := 4, ground := Go.Ground.phase }, { on := 5, ground := Go.Ground.phase }, { on := 6, ground := Go.Ground.phase }, { on := 7, ground := Go.Ground.phase }, { on := 8, ground := Go.Ground.phase }, { on := 9, ground := Go.Ground.phase }, { on := 10, ground := Go.Ground.phase }, { on := 11, ground := Go.Ground.phase }, { on := 12, ground := Go.Ground.phase }], guard := none }) (v := ?_) rfl (Or.inl ⟨by rfl, ?_⟩) ?_; rotate_left; (focus (intro w hSw; (try dsimp only at hSw); go_simp; (try (with_reducible rfl)); done)); try simp only [Act.put, List.setIfInBounds_toArray, List.set_cons_zero, List.set_cons_succ])
          refine wpL_loud0 (o := { dst := none, op := Go.Op.store 30 (Go.Operand.tmp 54) (Go.Operand.tmp 51), type := 0, pos := "aes.go:48", after := #[{ on := 15, ground := Go.Ground.data }, { on := 12, ground := Go.Ground.data }, { on := 12, ground := Go.Ground.chain }, { on := 0, ground := Go.Ground.phase }, { on := 1, ground := Go.Ground.phase }, { on := 2, ground := Go.Ground.phase }, { on := 3, ground := Go.Ground.phase }, { on := 4, ground := Go.Ground.phase }, { on := 5, ground := Go.Ground.phase }, { on := 6, ground := Go.Ground.phase }, { on := 7, ground := Go.Ground.phase }, { on := 8, ground := Go.Ground.phase }, { on := 9, ground := Go.Ground.phase }, { on := 10, ground := Go.Ground.phase }, { on := 11, ground := Go.Ground.phase }, { on := 12, ground := Go.Ground.phase }], guard := none }) rfl (by kernel_rfl) (fun K hK => ?_)
          (have c0 := World.rowIs.cell HK6.out (i := k) (by omega); have f0 := World.rowIs.frozen HK6.out k; go_simp)
          refine hK.out _ _ ?_
          clear hK K
          try simp only [Act.put, List.setIfInBounds_toArray, List.set_cons_zero, List.set_cons_succ]
          refine wpL_nil ?_
          refine NoPanic.normal ?_
          go_wp2_with fail
          go_roundw
          case rel => exact ⟨k + 1, by go_num, by omega, Lib.hid (by
            refine World.rowIs.congr (World.rowIs.set HK6.out k (wv (kw s.data.toList k))) fun j hj => ?_
            rw [wK_step, kv_word _ _ k _ (by omega)]), Lib.hid (by first | exact HB6.out.setCell (p := ⟨q, k, none⟩) (Nat.le_refl _) _ | exact (HB6.out.setCell (p := ⟨q, k, none⟩) (Nat.le_refl _) _).drew)⟩
          case measure => simp [intOf]; omega
        · as_aux_lemma =>
          obtain rfl : k = 8 := by omega
          rw [show ((8 : Nat) : Int) = 8 from rfl]
          have HI0 : Hid (KeyAt wr q (wI s.data.toList 8)) := HK
          clear HK
          go_wp2_with fail
          obtain ⟨w4, HE4⟩ : ∃ w4, Hid (wr = w4) := ⟨_, Lib.hid rfl⟩
          go_loopw [9, 8] (fun x p wi => ∃ i : Nat, x = .int .i64 (i : Int) ∧ p = .int .u8 (pwI i : Nat) ∧ 8 ≤ i ∧ i ≤ 60 ∧ Hid (KeyAt wi q (wI s.data.toList i)) ∧ Hid (Below q w2 wi)) (fun x _ _ => 60 - (intOf x).toNat)
          case atStart => exact ⟨8, rfl, rfl, by omega, by omega, HI0, HB⟩
          clear HI0 HB
          case round =>
            obtain ⟨i, rfl, rfl, h8, h60, HK, HB⟩ := hrel
            by_cases hlt : i < 60
            · have hli : (i : Int) < 60 := by omega
              have hl8 : (8 : Int) ≤ (i : Int) := by omega
              have hp := pwI_lt i
              have HPS := Lib.hid (pwI_step i h8)
              have c1 := HK.out.word (i - 1) (by omega)
              have c8 := HK.out.word (i - 8) (by omega)
              have z1 : ((i : Int) - 1).toNat = i - 1 := by omega
              have z8 : ((i : Int) - 8).toNat = i - 8 := by omega
              have y1 : IntKind.i64.wrap ((i : Int) - 1) = (i : Int) - 1 := IntWalk.i64_in _ (by omega)
              have y8 : IntKind.i64.wrap ((i : Int) - 8) = (i : Int) - 8 := IntWalk.i64_in _ (by omega)
              have b1 : (0 : Int) ≤ (i : Int) - 1 := by omega
              have b2' : (i : Int) - 1 < 60 := by omega
              have b3 : (0 : Int) ≤ (i : Int) - 8 := by omega
              have b4 : (i : Int) - 8 < 60 := by omega
              have hqs := HK.out.lt
              have HBX := Lib.hid HK.out.box
              by_cases hA : i % 8 = 0
              · as_aux_lemma =>
                have hA1 : (i : Int) % 8 = 0 := by omega
                have hrol := rolW_walk (wI s.data.toList i (i - 1))
                have CI := Lib.hid (image_any (rolW (wI s.data.toList i (i - 1))) q wr HBX hqs)
                have CT := Lib.hid (fun w => twice_any (pwI i) w hp)
                obtain ⟨yv, hy⟩ : ∃ yv, Hid (imgW (rolW (wI s.data.toList i (i - 1))) = yv) := ⟨_, Lib.hid rfl⟩
                rw [hy.out] at CI
                have HV : Hid (wI s.data.toList i (i - 8) ^^^ (yv ^^^ (UInt32.ofNat (pwI i) <<< UInt32.ofNat 24)) = nextW (wI s.data.toList i) (pwI i) i) := Lib.hid (by unfold nextW tW; rw [if_pos hA, hy.out])
                have HPW : Hid (((pwI i : Nat) : Int) * 16777216 = ((UInt32.ofNat (pwI i) <<< UInt32.ofNat 24).toNat : Int)) := Lib.hid (by have := pow_walk (pwI i) hp; omega)
                have HPN : Hid (tw (pwI i) = pwI (i + 1)) := Lib.hid (by rw [HPS.out, if_pos hA])
                go_wp2_with fail
                refine CI.out.mono ?_
                rintro e w5 ⟨rfl, b5⟩
                have HK6 : Hid (KeyAt w5 q (wI s.data.toList i)) := Lib.hid (HK.out.below b5)
                have HB6 : Hid (Below q w2 w5) := Lib.hid (HB.out.trans (b5.mono (by omega)))
                have c8' := HK6.out.word (i - 8) (by omega)
                clear c1 c8 b5 HK HB HBX
                go_wp2_with fail
                refine (CT.out _).mono ?_
                rintro e w' ⟨rfl, rfl⟩
                go_upto_region 26 with fail
                refine wp_region_lin (S := (fun w' => w'.cell? ⟨q, i - 8, none⟩ = some (wv (wI s.data.toList i (i - 8))))) [(0, true), (1, true), (2, true), (3, true), (4, true), (5, true), (6, true), (7, true), (8, true), (9, true), (10, true), (11, true), (12, true), (13, true), (14, false)] (by kernel_rfl) (by kernel_rfl) rfl (by kernel_rfl) ?_ (fun hHeld => ?_)
                · (try dsimp only); exact c8'
                (refine wpL_calm (o := { dst := some 89, op := Go.Op.move (Go.Operand.tmp 4), type := 26, pos := "aes.go:60", after := #[], guard := none }) (v := ?_) rfl (Or.inl ⟨by rfl, ?_⟩) ?_; rotate_left; (focus (intro w hSw; (try dsimp only at hSw); go_simp; (try (with_reducible rfl)); done)); try simp only [Act.put, List.setIfInBounds_toArray, List.set_cons_zero, List.set_cons_succ])
                (refine wpL_calm (o := { dst := some 90, op := Go.Op.move (Go.Operand.tmp 9), type := 3, pos := "aes.go:60", after := #[], guard := none }) (v := ?_) rfl (Or.inl ⟨by rfl, ?_⟩) ?_; rotate_left; (focus (intro w hSw; (try dsimp only at hSw); go_simp; (try (with_reducible rfl)); done)); try simp only [Act.put, List.setIfInBounds_toArray, List.set_cons_zero, List.set_cons_succ])
                (refine wpL_calm (o := { dst := some 91, op := Go.Op.move (Go.Operand.tmp 4), type := 26, pos := "aes.go:60", after := #[], guard := none }) (v := ?_) rfl (Or.inl ⟨by rfl, ?_⟩) ?_; rotate_left; (focus (intro w hSw; (try dsimp only at hSw); go_simp; (try (with_reducible rfl)); done)); try simp only [Act.put, List.setIfInBounds_toArray, List.set_cons_zero, List.set_cons_succ])
                (refine wpL_calm (o := { dst := some 92, op := Go.Op.move (Go.Operand.tmp 9), type := 3, pos := "aes.go:60", after := #[], guard := none }) (v := ?_) rfl (Or.inl ⟨by rfl, ?_⟩) ?_; rotate_left; (focus (intro w hSw; (try dsimp only at hSw); go_simp; (try (with_reducible rfl)); done)); try simp only [Act.put, List.setIfInBounds_toArray, List.set_cons_zero, List.set_cons_succ])
                (refine wpL_calm (o := { dst := some 93, op := Go.Op.binOp Go.BinOp.sub 3 (Go.Operand.tmp 92) (Go.Operand.const (Go.Value.int Go.IntKind.i64 8)) 3, type := 3, pos := "aes.go:60", after := #[{ on := 3, ground := Go.Ground.data }], guard := none }) (v := ?_) rfl (Or.inl ⟨by rfl, ?_⟩) ?_; rotate_left; (focus (intro w hSw; (try dsimp only at hSw); go_simp; (try (with_reducible rfl)); done)); try simp only [Act.put, List.setIfInBounds_toArray, List.set_cons_zero, List.set_cons_succ])
                (refine wpL_calm (o := { dst := some 94, op := Go.Op.nilCheck (Go.Operand.tmp 91), type := 0, pos := "aes.go:60", after := #[{ on := 2, ground := Go.Ground.data }], guard := none }) (v := ?_) rfl (Or.inl ⟨by rfl, ?_⟩) ?_; rotate_left; (focus (intro w hSw; (try dsimp only at hSw); go_simp; (try (with_reducible rfl)); done)); try simp only [Act.put, List.setIfInBounds_toArray, List.set_cons_zero, List.set_cons_succ])
                (refine wpL_calm (o := { dst := some 95, op := Go.Op.fieldAddr 74 (Go.Operand.tmp 94) 0, type := 0, pos := "aes.go:60", after := #[{ on := 5, ground := Go.Ground.data }], guard := none }) (v := ?_) rfl (Or.inl ⟨by rfl, ?_⟩) ?_; rotate_left; (focus (intro w hSw; (try dsimp only at hSw); go_simp; (try (with_reducible rfl)); done)); try simp only [Act.put, List.setIfInBounds_toArray, List.set_cons_zero, List.set_cons_succ])
                (refine wpL_calm (o := { dst := some 96, op := Go.Op.indexAddr 71 (Go.Operand.tmp 95) (Go.Operand.tmp 93), type := 0, pos := "aes.go:60", after := #[{ on := 6, ground := Go.Ground.data }, { on := 4, ground := Go.Ground.data }], guard := none }) (v := ?_) rfl (Or.inl ⟨by rfl, ?_⟩) ?_; rotate_left; (focus (intro w hSw; (try dsimp only at hSw); go_simp; (try (with_reducible rfl)); done)); try simp only [Act.put, List.setIfInBounds_toArray, List.set_cons_zero, List.set_cons_succ])
                (refine wpL_calm (o := { dst := some 97, op := Go.Op.load 30 (Go.Operand.tmp 96), type := 30, pos := "aes.go:60", after := #[{ on := 7, ground := Go.Ground.data }], guard := none }) (v := ?_) rfl (Or.inl ⟨by rfl, ?_⟩) ?_; rotate_left; (focus (intro w hSw; (try dsimp only at hSw); go_simp; (try (with_reducible rfl)); done)); try simp only [Act.put, List.setIfInBounds_toArray, List.set_cons_zero, List.set_cons_succ])
                (refine wpL_calm (o := { dst := some 98, op := Go.Op.move (Go.Operand.tmp 10), type := 30, pos := "aes.go:60", after := #[], guard := none }) (v := ?_) rfl (Or.inl ⟨by rfl, ?_⟩) ?_; rotate_left; (focus (intro w hSw; (try dsimp only at hSw); go_simp; (try (with_reducible rfl)); done)); try simp only [Act.put, List.setIfInBounds_toArray, List.set_cons_zero, List.set_cons_succ])
                (refine wpL_calm (o := { dst := some 99, op := Go.Op.binOp Go.BinOp.xor 30 (Go.Operand.tmp 97) (Go.Operand.tmp 98) 30, type := 30, pos := "aes.go:60", after := #[{ on := 8, ground := Go.Ground.data }, { on := 9, ground := Go.Ground.data }], guard := none }) (v := ?_) rfl (Or.inl ⟨by rfl, ?_⟩) ?_; rotate_left; (focus (intro w hSw; (try dsimp only at hSw); go_simp; (try (with_reducible rfl)); done)); try simp only [Act.put, List.setIfInBounds_toArray, List.set_cons_zero, List.set_cons_succ])
                (refine wpL_calm (o := { dst := some 100, op := Go.Op.nilCheck (Go.Operand.tmp 89), type := 0, pos := "aes.go:60", after := #[{ on := 0, ground := Go.Ground.data }], guard := none }) (v := ?_) rfl (Or.inl ⟨by rfl, ?_⟩) ?_; rotate_left; (focus (intro w hSw; (try dsimp only at hSw); go_simp; (try (with_reducible rfl)); done)); try simp only [Act.put, List.setIfInBounds_toArray, List.set_cons_zero, List.set_cons_succ])
                (refine wpL_calm (o := { dst := some 101, op := Go.Op.fieldAddr 74 (Go.Operand.tmp 100) 0, type := 0, pos := "aes.go:60", after := #[{ on := 11, ground := Go.Ground.data }], guard := none }) (v := ?_) rfl (Or.inl ⟨by rfl, ?_⟩) ?_; rotate_left; (focus (intro w hSw; (try dsimp only at hSw); go_simp; (try (with_reducible rfl)); done)); try simp only [Act.put, List.setIfInBounds_toArray, List.set_cons_zero, List.set_cons_succ])
                (refine wpL_calm (o := { dst := some 102, op := Go.Op.indexAddr 71 (Go.Operand.tmp 101) (Go.Operand.tmp 90), type := 0, pos := "aes.go:60", after := #[{ on := 12, ground := Go.Ground.data }, { on := 1, ground := Go.Ground.data }, { on := 0, ground := Go.Ground.phase }, { on := 1, ground := Go.Ground.phase }, { on := 2, ground := Go.Ground.phase }, { on := 3, ground := Go.Ground.phase }, { on := 4, ground := Go.Ground.phase }, { on := 5, ground := Go.Ground.phase }, { on := 6, ground := Go.Ground.phase }, { on := 7, ground := Go.Ground.phase }, { on := 8, ground := Go.Ground.phase }, { on := 9, ground := Go.Ground.phase }, { on := 10, ground := Go.Ground.phase }], guard := none }) (v := ?_) rfl (Or.inl ⟨by rfl, ?_⟩) ?_; rotate_left; (focus (intro w hSw; (try dsimp only at hSw); go_simp; (try (with_reducible rfl)); done)); try simp only [Act.put, List.setIfInBounds_toArray, List.set_cons_zero, List.set_cons_succ])
                refine wpL_loud0 (o := { dst := none, op := Go.Op.store 30 (Go.Operand.tmp 102) (Go.Operand.tmp 99), type := 0, pos := "aes.go:60", after := #[{ on := 13, ground := Go.Ground.data }, { on := 10, ground := Go.Ground.data }, { on := 0, ground := Go.Ground.phase }, { on := 1, ground := Go.Ground.phase }, { on := 2, ground := Go.Ground.phase }, { on := 3, ground := Go.Ground.phase }, { on := 4, ground := Go.Ground.phase }, { on := 5, ground := Go.Ground.phase }, { on := 6, ground := Go.Ground.phase }, { on := 7, ground := Go.Ground.phase }, { on := 8, ground := Go.Ground.phase }, { on := 9, ground := Go.Ground.phase }, { on := 10, ground := Go.Ground.phase }], guard := none }) rfl (by kernel_rfl) (fun K hK => ?_)
                (have c0 := World.rowIs.cell HK6.out (i := i) (by omega); have f0 := World.rowIs.frozen HK6.out i; go_simp)
                refine hK.out _ _ ?_
                clear hK K
                try simp only [Act.put, List.setIfInBounds_toArray, List.set_cons_zero, List.set_cons_succ]
                refine wpL_nil ?_
                refine NoPanic.normal ?_
                go_wp2_with fail
                go_roundw
                case rel => exact ⟨i + 1, by go_num, by rw [HPN.out], by omega, by omega, Lib.hid (by
                  rw [wI_step _ i h8]
                  refine World.rowIs.congr (World.rowIs.set HK6.out i _) fun j hj => ?_
                  rw [kv_word _ _ i _ (by omega)]
                  by_cases e : j = i
                  · rw [if_pos e, if_pos e]; exact congrArg (Value.int .u32) (by rw [HPW.out, w_xor, w_xor, HV.out])
                  · rw [if_neg e, if_neg e]), Lib.hid (by first | exact HB6.out.setCell (p := ⟨q, i, none⟩) (Nat.le_refl _) _ | exact (HB6.out.setCell (p := ⟨q, i, none⟩) (Nat.le_refl _) _).drew)⟩
                case measure => simp [intOf]; omega
              · by_cases hB : i % 8 = 4
                · as_aux_lemma =>
                  have hA1 : (i : Int) % 8 = 4 := by omega
                  have CI := Lib.hid (image_any (wI s.data.toList i (i - 1)) q wr HBX hqs)
                  obtain ⟨yv, hy⟩ : ∃ yv, Hid (imgW (wI s.data.toList i (i - 1)) = yv) := ⟨_, Lib.hid rfl⟩
                  rw [hy.out] at CI
                  have HV : Hid (wI s.data.toList i (i - 8) ^^^ yv = nextW (wI s.data.toList i) (pwI i) i) := Lib.hid (by unfold nextW tW; rw [if_neg hA, if_pos hB, hy.out])
                  have HPN : Hid (pwI i = pwI (i + 1)) := Lib.hid (by rw [HPS.out, if_neg hA])
                  go_wp2_with fail
                  refine CI.out.mono ?_
                  rintro e w5 ⟨rfl, b5⟩
                  have HK6 : Hid (KeyAt w5 q (wI s.data.toList i)) := Lib.hid (HK.out.below b5)
                  have HB6 : Hid (Below q w2 w5) := Lib.hid (HB.out.trans (b5.mono (by omega)))
                  have c8' := HK6.out.word (i - 8) (by omega)
                  clear c1 c8 b5 HK HB HBX
                  go_upto_region 26 with fail
                  refine wp_region_lin (S := (fun w' => w'.cell? ⟨q, i - 8, none⟩ = some (wv (wI s.data.toList i (i - 8))))) [(0, true), (1, true), (2, true), (3, true), (4, true), (5, true), (6, true), (7, true), (8, true), (9, true), (10, true), (11, true), (12, true), (13, true), (14, false)] (by kernel_rfl) (by kernel_rfl) rfl (by kernel_rfl) ?_ (fun hHeld => ?_)
                  · (try dsimp only); exact c8'
                  (refine wpL_calm (o := { dst := some 89, op := Go.Op.move (Go.Operand.tmp 4), type := 26, pos := "aes.go:60", after := #[], guard := none }) (v := ?_) rfl (Or.inl ⟨by rfl, ?_⟩) ?_; rotate_left; (focus (intro w hSw; (try dsimp only at hSw); go_simp; (try (with_reducible rfl)); done)); try simp only [Act.put, List.setIfInBounds_toArray, List.set_cons_zero, List.set_cons_succ])
                  (refine wpL_calm (o := { dst := some 90, op := Go.Op.move (Go.Operand.tmp 9), type := 3, pos := "aes.go:60", after := #[], guard := none }) (v := ?_) rfl (Or.inl ⟨by rfl, ?_⟩) ?_; rotate_left; (focus (intro w hSw; (try dsimp only at hSw); go_simp; (try (with_reducible rfl)); done)); try simp only [Act.put, List.setIfInBounds_toArray, List.set_cons_zero, List.set_cons_succ])
                  (refine wpL_calm (o := { dst := some 91, op := Go.Op.move (Go.Operand.tmp 4), type := 26, pos := "aes.go:60", after := #[], guard := none }) (v := ?_) rfl (Or.inl ⟨by rfl, ?_⟩) ?_; rotate_left; (focus (intro w hSw; (try dsimp only at hSw); go_simp; (try (with_reducible rfl)); done)); try simp only [Act.put, List.setIfInBounds_toArray, List.set_cons_zero, List.set_cons_succ])
                  (refine wpL_calm (o := { dst := some 92, op := Go.Op.move (Go.Operand.tmp 9), type := 3, pos := "aes.go:60", after := #[], guard := none }) (v := ?_) rfl (Or.inl ⟨by rfl, ?_⟩) ?_; rotate_left; (focus (intro w hSw; (try dsimp only at hSw); go_simp; (try (with_reducible rfl)); done)); try simp only [Act.put, List.setIfInBounds_toArray, List.set_cons_zero, List.set_cons_succ])
                  (refine wpL_calm (o := { dst := some 93, op := Go.Op.binOp Go.BinOp.sub 3 (Go.Operand.tmp 92) (Go.Operand.const (Go.Value.int Go.IntKind.i64 8)) 3, type := 3, pos := "aes.go:60", after := #[{ on := 3, ground := Go.Ground.data }], guard := none }) (v := ?_) rfl (Or.inl ⟨by rfl, ?_⟩) ?_; rotate_left; (focus (intro w hSw; (try dsimp only at hSw); go_simp; (try (with_reducible rfl)); done)); try simp only [Act.put, List.setIfInBounds_toArray, List.set_cons_zero, List.set_cons_succ])
                  (refine wpL_calm (o := { dst := some 94, op := Go.Op.nilCheck (Go.Operand.tmp 91), type := 0, pos := "aes.go:60", after := #[{ on := 2, ground := Go.Ground.data }], guard := none }) (v := ?_) rfl (Or.inl ⟨by rfl, ?_⟩) ?_; rotate_left; (focus (intro w hSw; (try dsimp only at hSw); go_simp; (try (with_reducible rfl)); done)); try simp only [Act.put, List.setIfInBounds_toArray, List.set_cons_zero, List.set_cons_succ])
                  (refine wpL_calm (o := { dst := some 95, op := Go.Op.fieldAddr 74 (Go.Operand.tmp 94) 0, type := 0, pos := "aes.go:60", after := #[{ on := 5, ground := Go.Ground.data }], guard := none }) (v := ?_) rfl (Or.inl ⟨by rfl, ?_⟩) ?_; rotate_left; (focus (intro w hSw; (try dsimp only at hSw); go_simp; (try (with_reducible rfl)); done)); try simp only [Act.put, List.setIfInBounds_toArray, List.set_cons_zero, List.set_cons_succ])
                  (refine wpL_calm (o := { dst := some 96, op := Go.Op.indexAddr 71 (Go.Operand.tmp 95) (Go.Operand.tmp 93), type := 0, pos := "aes.go:60", after := #[{ on := 6, ground := Go.Ground.data }, { on := 4, ground := Go.Ground.data }], guard := none }) (v := ?_) rfl (Or.inl ⟨by rfl, ?_⟩) ?_; rotate_left; (focus (intro w hSw; (try dsimp only at hSw); go_simp; (try (with_reducible rfl)); done)); try simp only [Act.put, List.setIfInBounds_toArray, List.set_cons_zero, List.set_cons_succ])
                  (refine wpL_calm (o := { dst := some 97, op := Go.Op.load 30 (Go.Operand.tmp 96), type := 30, pos := "aes.go:60", after := #[{ on := 7, ground := Go.Ground.data }], guard := none }) (v := ?_) rfl (Or.inl ⟨by rfl, ?_⟩) ?_; rotate_left; (focus (intro w hSw; (try dsimp only at hSw); go_simp; (try (with_reducible rfl)); done)); try simp only [Act.put, List.setIfInBounds_toArray, List.set_cons_zero, List.set_cons_succ])
                  (refine wpL_calm (o := { dst := some 98, op := Go.Op.move (Go.Operand.tmp 10), type := 30, pos := "aes.go:60", after := #[], guard := none }) (v := ?_) rfl (Or.inl ⟨by rfl, ?_⟩) ?_; rotate_left; (focus (intro w hSw; (try dsimp only at hSw); go_simp; (try (with_reducible rfl)); done)); try simp only [Act.put, List.setIfInBounds_toArray, List.set_cons_zero, List.set_cons_succ])
                  (refine wpL_calm (o := { dst := some 99, op := Go.Op.binOp Go.BinOp.xor 30 (Go.Operand.tmp 97) (Go.Operand.tmp 98) 30, type := 30, pos := "aes.go:60", after := #[{ on := 8, ground := Go.Ground.data }, { on := 9, ground := Go.Ground.data }], guard := none }) (v := ?_) rfl (Or.inl ⟨by rfl, ?_⟩) ?_; rotate_left; (focus (intro w hSw; (try dsimp only at hSw); go_simp; (try (with_reducible rfl)); done)); try simp only [Act.put, List.setIfInBounds_toArray, List.set_cons_zero, List.set_cons_succ])
                  (refine wpL_calm (o := { dst := some 100, op := Go.Op.nilCheck (Go.Operand.tmp 89), type := 0, pos := "aes.go:60", after := #[{ on := 0, ground := Go.Ground.data }], guard := none }) (v := ?_) rfl (Or.inl ⟨by rfl, ?_⟩) ?_; rotate_left; (focus (intro w hSw; (try dsimp only at hSw); go_simp; (try (with_reducible rfl)); done)); try simp only [Act.put, List.setIfInBounds_toArray, List.set_cons_zero, List.set_cons_succ])
                  (refine wpL_calm (o := { dst := some 101, op := Go.Op.fieldAddr 74 (Go.Operand.tmp 100) 0, type := 0, pos := "aes.go:60", after := #[{ on := 11, ground := Go.Ground.data }], guard := none }) (v := ?_) rfl (Or.inl ⟨by rfl, ?_⟩) ?_; rotate_left; (focus (intro w hSw; (try dsimp only at hSw); go_simp; (try (with_reducible rfl)); done)); try simp only [Act.put, List.setIfInBounds_toArray, List.set_cons_zero, List.set_cons_succ])
                  (refine wpL_calm (o := { dst := some 102, op := Go.Op.indexAddr 71 (Go.Operand.tmp 101) (Go.Operand.tmp 90), type := 0, pos := "aes.go:60", after := #[{ on := 12, ground := Go.Ground.data }, { on := 1, ground := Go.Ground.data }, { on := 0, ground := Go.Ground.phase }, { on := 1, ground := Go.Ground.phase }, { on := 2, ground := Go.Ground.phase }, { on := 3, ground := Go.Ground.phase }, { on := 4, ground := Go.Ground.phase }, { on := 5, ground := Go.Ground.phase }, { on := 6, ground := Go.Ground.phase }, { on := 7, ground := Go.Ground.phase }, { on := 8, ground := Go.Ground.phase }, { on := 9, ground := Go.Ground.phase }, { on := 10, ground := Go.Ground.phase }], guard := none }) (v := ?_) rfl (Or.inl ⟨by rfl, ?_⟩) ?_; rotate_left; (focus (intro w hSw; (try dsimp only at hSw); go_simp; (try (with_reducible rfl)); done)); try simp only [Act.put, List.setIfInBounds_toArray, List.set_cons_zero, List.set_cons_succ])
                  refine wpL_loud0 (o := { dst := none, op := Go.Op.store 30 (Go.Operand.tmp 102) (Go.Operand.tmp 99), type := 0, pos := "aes.go:60", after := #[{ on := 13, ground := Go.Ground.data }, { on := 10, ground := Go.Ground.data }, { on := 0, ground := Go.Ground.phase }, { on := 1, ground := Go.Ground.phase }, { on := 2, ground := Go.Ground.phase }, { on := 3, ground := Go.Ground.phase }, { on := 4, ground := Go.Ground.phase }, { on := 5, ground := Go.Ground.phase }, { on := 6, ground := Go.Ground.phase }, { on := 7, ground := Go.Ground.phase }, { on := 8, ground := Go.Ground.phase }, { on := 9, ground := Go.Ground.phase }, { on := 10, ground := Go.Ground.phase }], guard := none }) rfl (by kernel_rfl) (fun K hK => ?_)
                  (have c0 := World.rowIs.cell HK6.out (i := i) (by omega); have f0 := World.rowIs.frozen HK6.out i; go_simp)
                  refine hK.out _ _ ?_
                  clear hK K
                  try simp only [Act.put, List.setIfInBounds_toArray, List.set_cons_zero, List.set_cons_succ]
                  refine wpL_nil ?_
                  refine NoPanic.normal ?_
                  go_wp2_with fail
                  go_roundw
                  case rel => exact ⟨i + 1, by go_num, by rw [← HPN.out], by omega, by omega, Lib.hid (by
                    rw [wI_step _ i h8]
                    refine World.rowIs.congr (World.rowIs.set HK6.out i _) fun j hj => ?_
                    rw [kv_word _ _ i _ (by omega)]
                    by_cases e : j = i
                    · rw [if_pos e, if_pos e]; exact congrArg (Value.int .u32) (by rw [w_xor, HV.out])
                    · rw [if_neg e, if_neg e]), Lib.hid (by first | exact HB6.out.setCell (p := ⟨q, i, none⟩) (Nat.le_refl _) _ | exact (HB6.out.setCell (p := ⟨q, i, none⟩) (Nat.le_refl _) _).drew)⟩
                  case measure => simp [intOf]; omega
                · as_aux_lemma =>
                  have hA0 : ((i : Int) % 8 == 0) = false := by rw [beq_eq_false_iff_ne]; omega
                  have hA4 : ((i : Int) % 8 == 4) = false := by rw [beq_eq_false_iff_ne]; omega
                  have HV : Hid (wI s.data.toList i (i - 8) ^^^ wI s.data.toList i (i - 1) = nextW (wI s.data.toList i) (pwI i) i) := Lib.hid (by unfold nextW tW; rw [if_neg hA, if_neg hB])
                  have HPN : Hid (pwI i = pwI (i + 1)) := Lib.hid (by rw [HPS.out, if_neg hA])
                  have HK6 := HK
                  have HB6 := HB
                  clear HK HB HBX
                  go_upto_region 26 with fail
                  refine wp_region_lin (S := (fun w' => w'.cell? ⟨q, i - 8, none⟩ = some (wv (wI s.data.toList i (i - 8))))) [(0, true), (1, true), (2, true), (3, true), (4, true), (5, true), (6, true), (7, true), (8, true), (9, true), (10, true), (11, true), (12, true), (13, true), (14, false)] (by kernel_rfl) (by kernel_rfl) rfl (by kernel_rfl) ?_ (fun hHeld => ?_)
                  · (try dsimp only); exact c8
                  (refine wpL_calm (o := { dst := some 89, op := Go.Op.move (Go.Operand.tmp 4), type := 26, pos := "aes.go:60", after := #[], guard := none }) (v := ?_) rfl (Or.inl ⟨by rfl, ?_⟩) ?_; rotate_left; (focus (intro w hSw; (try dsimp only at hSw); go_simp; (try (with_reducible rfl)); done)); try simp only [Act.put, List.setIfInBounds_toArray, List.set_cons_zero, List.set_cons_succ])
                  (refine wpL_calm (o := { dst := some 90, op := Go.Op.move (Go.Operand.tmp 9), type := 3, pos := "aes.go:60", after := #[], guard := none }) (v := ?_) rfl (Or.inl ⟨by rfl, ?_⟩) ?_; rotate_left; (focus (intro w hSw; (try dsimp only at hSw); go_simp; (try (with_reducible rfl)); done)); try simp only [Act.put, List.setIfInBounds_toArray, List.set_cons_zero, List.set_cons_succ])
                  (refine wpL_calm (o := { dst := some 91, op := Go.Op.move (Go.Operand.tmp 4), type := 26, pos := "aes.go:60", after := #[], guard := none }) (v := ?_) rfl (Or.inl ⟨by rfl, ?_⟩) ?_; rotate_left; (focus (intro w hSw; (try dsimp only at hSw); go_simp; (try (with_reducible rfl)); done)); try simp only [Act.put, List.setIfInBounds_toArray, List.set_cons_zero, List.set_cons_succ])
                  (refine wpL_calm (o := { dst := some 92, op := Go.Op.move (Go.Operand.tmp 9), type := 3, pos := "aes.go:60", after := #[], guard := none }) (v := ?_) rfl (Or.inl ⟨by rfl, ?_⟩) ?_; rotate_left; (focus (intro w hSw; (try dsimp only at hSw); go_simp; (try (with_reducible rfl)); done)); try simp only [Act.put, List.setIfInBounds_toArray, List.set_cons_zero, List.set_cons_succ])
                  (refine wpL_calm (o := { dst := some 93, op := Go.Op.binOp Go.BinOp.sub 3 (Go.Operand.tmp 92) (Go.Operand.const (Go.Value.int Go.IntKind.i64 8)) 3, type := 3, pos := "aes.go:60", after := #[{ on := 3, ground := Go.Ground.data }], guard := none }) (v := ?_) rfl (Or.inl ⟨by rfl, ?_⟩) ?_; rotate_left; (focus (intro w hSw; (try dsimp only at hSw); go_simp; (try (with_reducible rfl)); done)); try simp only [Act.put, List.setIfInBounds_toArray, List.set_cons_zero, List.set_cons_succ])
                  (refine wpL_calm (o := { dst := some 94, op := Go.Op.nilCheck (Go.Operand.tmp 91), type := 0, pos := "aes.go:60", after := #[{ on := 2, ground := Go.Ground.data }], guard := none }) (v := ?_) rfl (Or.inl ⟨by rfl, ?_⟩) ?_; rotate_left; (focus (intro w hSw; (try dsimp only at hSw); go_simp; (try (with_reducible rfl)); done)); try simp only [Act.put, List.setIfInBounds_toArray, List.set_cons_zero, List.set_cons_succ])
                  (refine wpL_calm (o := { dst := some 95, op := Go.Op.fieldAddr 74 (Go.Operand.tmp 94) 0, type := 0, pos := "aes.go:60", after := #[{ on := 5, ground := Go.Ground.data }], guard := none }) (v := ?_) rfl (Or.inl ⟨by rfl, ?_⟩) ?_; rotate_left; (focus (intro w hSw; (try dsimp only at hSw); go_simp; (try (with_reducible rfl)); done)); try simp only [Act.put, List.setIfInBounds_toArray, List.set_cons_zero, List.set_cons_succ])
                  (refine wpL_calm (o := { dst := some 96, op := Go.Op.indexAddr 71 (Go.Operand.tmp 95) (Go.Operand.tmp 93), type := 0, pos := "aes.go:60", after := #[{ on := 6, ground := Go.Ground.data }, { on := 4, ground := Go.Ground.data }], guard := none }) (v := ?_) rfl (Or.inl ⟨by rfl, ?_⟩) ?_; rotate_left; (focus (intro w hSw; (try dsimp only at hSw); go_simp; (try (with_reducible rfl)); done)); try simp only [Act.put, List.setIfInBounds_toArray, List.set_cons_zero, List.set_cons_succ])
                  (refine wpL_calm (o := { dst := some 97, op := Go.Op.load 30 (Go.Operand.tmp 96), type := 30, pos := "aes.go:60", after := #[{ on := 7, ground := Go.Ground.data }], guard := none }) (v := ?_) rfl (Or.inl ⟨by rfl, ?_⟩) ?_; rotate_left; (focus (intro w hSw; (try dsimp only at hSw); go_simp; (try (with_reducible rfl)); done)); try simp only [Act.put, List.setIfInBounds_toArray, List.set_cons_zero, List.set_cons_succ])
                  (refine wpL_calm (o := { dst := some 98, op := Go.Op.move (Go.Operand.tmp 10), type := 30, pos := "aes.go:60", after := #[], guard := none }) (v := ?_) rfl (Or.inl ⟨by rfl, ?_⟩) ?_; rotate_left; (focus (intro w hSw; (try dsimp only at hSw); go_simp; (try (with_reducible rfl)); done)); try simp only [Act.put, List.setIfInBounds_toArray, List.set_cons_zero, List.set_cons_succ])
                  (refine wpL_calm (o := { dst := some 99, op := Go.Op.binOp Go.BinOp.xor 30 (Go.Operand.tmp 97) (Go.Operand.tmp 98) 30, type := 30, pos := "aes.go:60", after := #[{ on := 8, ground := Go.Ground.data }, { on := 9, ground := Go.Ground.data }], guard := none }) (v := ?_) rfl (Or.inl ⟨by rfl, ?_⟩) ?_; rotate_left; (focus (intro w hSw; (try dsimp only at hSw); go_simp; (try (with_reducible rfl)); done)); try simp only [Act.put, List.setIfInBounds_toArray, List.set_cons_zero, List.set_cons_succ])
                  (refine wpL_calm (o := { dst := some 100, op := Go.Op.nilCheck (Go.Operand.tmp 89), type := 0, pos := "aes.go:60", after := #[{ on := 0, ground := Go.Ground.data }], guard := none }) (v := ?_) rfl (Or.inl ⟨by rfl, ?_⟩) ?_; rotate_left; (focus (intro w hSw; (try dsimp only at hSw); go_simp; (try (with_reducible rfl)); done)); try simp only [Act.put, List.setIfInBounds_toArray, List.set_cons_zero, List.set_cons_succ])
                  (refine wpL_calm (o := { dst := some 101, op := Go.Op.fieldAddr 74 (Go.Operand.tmp 100) 0, type := 0, pos := "aes.go:60", after := #[{ on := 11, ground := Go.Ground.data }], guard := none }) (v := ?_) rfl (Or.inl ⟨by rfl, ?_⟩) ?_; rotate_left; (focus (intro w hSw; (try dsimp only at hSw); go_simp; (try (with_reducible rfl)); done)); try simp only [Act.put, List.setIfInBounds_toArray, List.set_cons_zero, List.set_cons_succ])
                  (refine wpL_calm (o := { dst := some 102, op := Go.Op.indexAddr 71 (Go.Operand.tmp 101) (Go.Operand.tmp 90), type := 0, pos := "aes.go:60", after := #[{ on := 12, ground := Go.Ground.data }, { on := 1, ground := Go.Ground.data }, { on := 0, ground := Go.Ground.phase }, { on := 1, ground := Go.Ground.phase }, { on := 2, ground := Go.Ground.phase }, { on := 3, ground := Go.Ground.phase }, { on := 4, ground := Go.Ground.phase }, { on := 5, ground := Go.Ground.phase }, { on := 6, ground := Go.Ground.phase }, { on := 7, ground := Go.Ground.phase }, { on := 8, ground := Go.Ground.phase }, { on := 9, ground := Go.Ground.phase }, { on := 10, ground := Go.Ground.phase }], guard := none }) (v := ?_) rfl (Or.inl ⟨by rfl, ?_⟩) ?_; rotate_left; (focus (intro w hSw; (try dsimp only at hSw); go_simp; (try (with_reducible rfl)); done)); try simp only [Act.put, List.setIfInBounds_toArray, List.set_cons_zero, List.set_cons_succ])
                  refine wpL_loud0 (o := { dst := none, op := Go.Op.store 30 (Go.Operand.tmp 102) (Go.Operand.tmp 99), type := 0, pos := "aes.go:60", after := #[{ on := 13, ground := Go.Ground.data }, { on := 10, ground := Go.Ground.data }, { on := 0, ground := Go.Ground.phase }, { on := 1, ground := Go.Ground.phase }, { on := 2, ground := Go.Ground.phase }, { on := 3, ground := Go.Ground.phase }, { on := 4, ground := Go.Ground.phase }, { on := 5, ground := Go.Ground.phase }, { on := 6, ground := Go.Ground.phase }, { on := 7, ground := Go.Ground.phase }, { on := 8, ground := Go.Ground.phase }, { on := 9, ground := Go.Ground.phase }, { on := 10, ground := Go.Ground.phase }], guard := none }) rfl (by kernel_rfl) (fun K hK => ?_)
                  (have c0 := World.rowIs.cell HK6.out (i := i) (by omega); have f0 := World.rowIs.frozen HK6.out i; go_simp)
                  refine hK.out _ _ ?_
                  clear hK K
                  try simp only [Act.put, List.setIfInBounds_toArray, List.set_cons_zero, List.set_cons_succ]
                  refine wpL_nil ?_
                  refine NoPanic.normal ?_
                  go_wp2_with fail
                  go_roundw
                  case rel => exact ⟨i + 1, by go_num, by rw [← HPN.out], by omega, by omega, Lib.hid (by
                    rw [wI_step _ i h8]
                    refine World.rowIs.congr (World.rowIs.set HK6.out i _) fun j hj => ?_
                    rw [kv_word _ _ i _ (by omega)]
                    by_cases e : j = i
                    · rw [if_pos e, if_pos e]; exact congrArg (Value.int .u32) (by rw [w_xor, HV.out])
                    · rw [if_neg e, if_neg e]), Lib.hid (by first | exact HB6.out.setCell (p := ⟨q, i, none⟩) (Nat.le_refl _) _ | exact (HB6.out.setCell (p := ⟨q, i, none⟩) (Nat.le_refl _) _).drew)⟩
                  case measure => simp [intOf]; omega
            · as_aux_lemma =>
              obtain rfl : i = 60 := by omega
              rw [show ((60 : Nat) : Int) = 60 from rfl]
              have BW : Below q w wr := b2.trans HB.out
              go_wp2_with fail
              go_ret2
              exact ⟨by (rw [HQ.out]; try rfl), by rw [HQ.out]; exact HK.out, by rw [HQ.out]; exact BW⟩
end Go.Proofs.Ytbbanhjcchnhpaa

/- Package aes (cellaret): refused, forth, back. -/
namespace Go.Proofs.Ytbbanhjcchnhpaa
open Go.RowKit Go.Deep
set_option linter.unusedVariables false
set_option linter.unusedSimpArgs false
theorem refused_nil (s : ByteArray) (w : World) :
    Calls Try.prog 53 #[.pointer none, .string s] w fun e w' => e = .returned (.int .i64 1) ∧ w = w' := by
  go_enter Try.func53, Try.ntmps53
  go_wp2
  go_ret
  exact ⟨rfl, rfl⟩
theorem refused_len (g : Nat) (s : ByteArray) (w : World) (hs : s.size ≠ 16) :
    Calls Try.prog 53 #[.pointer (some ⟨g, 0, none⟩), .string s] w fun e w' => e = .returned (.int .i64 6) ∧ w = w' := by
  have h : ((s.size : Int) == 16) = false := by rw [beq_eq_false_iff_ne]; omega
  go_enter Try.func53, Try.ntmps53
  go_wp2
  go_ret
  exact ⟨rfl, rfl⟩
theorem refused_ok (g : Nat) (s : ByteArray) (w : World) (hs : s.size = 16) :
    Calls Try.prog 53 #[.pointer (some ⟨g, 0, none⟩), .string s] w fun e w' => e = .returned (.int .i64 0) ∧ w = w' := by
  have h : ((s.size : Int) == 16) = true := by rw [beq_iff_eq]; omega
  go_enter Try.func53, Try.ntmps53
  go_wp2
  go_ret
  exact ⟨rfl, rfl⟩
theorem forth_any (g : Nat) (b : UInt8) (W : Nat → UInt32) (w : World) (hK : KeyAt w g W) :
    Calls Try.prog 56 #[.pointer (some ⟨g, 0, none⟩), .int .u8 (b.toNat : Int)] w fun e w' => e = .returned (.int .u8 ((bx b).toNat : Int)) ∧ w = w' := by
  have hb := b.toNat_lt
  have hbi : (b.toNat : Int) < 256 := by omega
  have hc := hK.box b
  go_enter Try.func56, Try.ntmps56
  go_wp2
  go_ret
  exact ⟨rfl, rfl⟩
theorem back_any (g : Nat) (b : UInt8) (W : Nat → UInt32) (w : World) (hK : KeyAt w g W) :
    Calls Try.prog 64 #[.pointer (some ⟨g, 0, none⟩), .int .u8 (b.toNat : Int)] w fun e w' => e = .returned (.int .u8 ((ux b).toNat : Int)) ∧ w = w' := by
  have hb := b.toNat_lt
  have hbi : (b.toNat : Int) < 256 := by omega
  have hc := hK.un b
  go_enter Try.func64, Try.ntmps64
  go_wp2
  go_ret
  exact ⟨rfl, rfl⟩
end Go.Proofs.Ytbbanhjcchnhpaa
