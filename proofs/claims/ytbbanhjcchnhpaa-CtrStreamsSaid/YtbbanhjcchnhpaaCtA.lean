/- Package ctr (cellaret): mayBe, pieces, Stream. -/
import Derived.Test.YtbbanhjcchnhpaaMg
import Derived.Test.YtbbanhjcchnhpaaRefB
import Derived.Laws.EntriesVeiled
import Derived.Laws.MakeOwn
import Derived.Deep.AppendSrc
namespace Go.Proofs.Ytbbanhjcchnhpaa
open Go.RowKit Go.Deep
set_option linter.unusedVariables false
set_option linter.unusedSimpArgs false
/-- What a key makes of a text of 16 bytes. -/
def encT (W : Nat → UInt32) (t : ByteArray) : ByteArray := txS (encR W (bAt t.data.toList) 14)
theorem encT_size (W : Nat → UInt32) (t : ByteArray) : (encT W t).size = 16 := txS_size _
def z7 : ByteArray := ⟨#[0, 0, 0, 0, 0, 0, 0]⟩
/-- The text of piece j. -/
def pieceT (num : Int) (j : Nat) : ByteArray := (⟨(beL num 8).toArray⟩ ++ z7) ++ ⟨#[UInt8.ofNat j]⟩
theorem beL_len (n : Int) (W : Nat) : (beL n W).length = W := by unfold beL; rw [List.length_map, List.length_range]
theorem pieceT_size (num : Int) (j : Nat) : (pieceT num j).size = 16 := by
  unfold pieceT
  rw [ByteArray.size_append, ByteArray.size_append, bytes_size, beL_len]
  rfl
/-- A stream's first pieces. -/
def strL (W : Nat → UInt32) (num : Int) : Nat → List UInt8
  | 0 => []
  | m + 1 => strL W num m ++ (encT W (pieceT num m)).data.toList
theorem strL_len (W : Nat → UInt32) (num : Int) (m : Nat) : (strL W num m).length = 16 * m := by
  induction m with
  | zero => rfl
  | succ m ih =>
    show (strL W num m ++ _).length = _
    rw [List.length_append, ih, ← Lib.size_eq, encT_size]
    omega
theorem strL_more (W : Nat → UInt32) (num : Int) (m k n : Nat) (h : n ≤ 16 * m) : (strL W num (m + k)).take n = (strL W num m).take n := by
  induction k with
  | zero => rfl
  | succ k ih =>
    rw [← ih, ← Nat.add_assoc]
    show (strL W num (m + k) ++ _).take n = _
    rw [List.take_append_of_le_length (by rw [strL_len]; omega)]
/-- A stream's first n bytes. -/
def streamB (W : Nat → UInt32) (num : Int) (n : Nat) : ByteArray := ⟨((strL W num 256).take n).toArray⟩
theorem streamB_eq (W : Nat → UInt32) (num : Int) (m n : Nat) (h : n ≤ 16 * m) (hm : m ≤ 256) : (⟨((strL W num m).take n).toArray⟩ : ByteArray) = streamB W num n := by
  unfold streamB
  obtain ⟨k, hk⟩ : ∃ k, 256 = m + k := ⟨256 - m, by omega⟩
  rw [hk, strL_more W num m k n h]
theorem streamB_size (W : Nat → UInt32) (num : Int) (n : Nat) (h : n ≤ 4096) : (streamB W num n).size = n := by
  unfold streamB
  rw [bytes_size, List.length_take, strL_len]
  omega
/-- May a number be? -/
def okN (n : Int) : Bool := decide (0 ≤ n) && decide (n ≤ 1099511627776)
theorem mayBe_any (n : Int) (w : World) : Calls Try.prog 65 #[.int .i64 n] w fun e w' => e = .returned (.bool (okN n)) ∧ w = w' := by
  unfold okN
  by_cases h0 : 0 ≤ n
  · by_cases h1 : n ≤ 1099511627776
    · go_enter Try.func65, Try.ntmps65
      go_wp2
      go_ret
      exact ⟨by simp [h0, h1], rfl⟩
    · go_enter Try.func65, Try.ntmps65
      go_wp2
      go_ret
      exact ⟨by simp [h0, h1], rfl⟩
  · go_enter Try.func65, Try.ntmps65
    go_wp2
    go_ret
    exact ⟨by simp [h0]; omega, rfl⟩
theorem okN_true {n : Int} (h : okN n = true) : 0 ≤ n ∧ n ≤ 1099511627776 := by unfold okN at h; simpa using h
set_option maxRecDepth 100000 in
set_option maxHeartbeats 1000000 in
theorem pieces_any (kg : Nat) (num : Int) (w : World) (hn : okN num = true) :
    Calls Try.prog 66 #[.pointer (some ⟨kg, 0, none⟩), .int .i64 num] w fun e w' => ∃ p5 p6 p7, e = .returned (.func (.func 80) #[] #[.pointer (some ⟨p7, 0, none⟩), .pointer (some ⟨p5, 0, none⟩), .pointer (some ⟨p6, 0, none⟩)]) ∧ w.heap.size ≤ p5 ∧ w.heap.size ≤ p6 ∧ w.heap.size ≤ p7 ∧ w'.cell? ⟨p5, 0, none⟩ = some (.func (.func 23) #[.pointer (some ⟨kg, 0, none⟩)] #[]) ∧ w'.cell? ⟨p6, 0, none⟩ = some (.string ⟨(beL num 8).toArray⟩) ∧ w'.cell? ⟨p7, 0, none⟩ = some (.int .i64 0) ∧ Below w.heap.size w w' := by
  obtain ⟨h0, h1⟩ := okN_true hn
  have CP := Lib.hid (fun w => put_ok num 8 w (by omega) (by omega) h0 (Lib.hid (fun h => absurd h (by omega))))
  rw [show ((8 : Nat) : Int) = 8 from rfl] at CP
  have hz : ∀ w, (zeroValue 40).run Try.prog w = .ok Value.nilFunc w := fun w => by kernel_rfl
  generalize (⟨(beL num 8).toArray⟩ : ByteArray) = hd at *
  go_enter Try.func66, Try.ntmps66
  go_wp2_with fail
  refine (CP.out _).mono ?_
  rintro e w2 ⟨rfl, b2⟩
  have hs1 : (w.alloc (.cells #[.func (.func 23) #[.pointer (some ⟨kg, 0, none⟩)] #[]] 40)).heap.size = w.heap.size + 1 := by simp
  have hc2 : w2.cell? ⟨w.heap.size, 0, none⟩ = some (.func (.func 23) #[.pointer (some ⟨kg, 0, none⟩)] #[]) := (b2.cell (p := ⟨w.heap.size, 0, none⟩) (by show w.heap.size < _; rw [hs1]; omega)).trans (cell_of_row _ _ 0 _ _ _ (heap_alloc_new _ _))
  have B2 : Below w.heap.size w w2 := ((Below.refl _ _).alloc (Nat.le_refl _) _).trans (b2.mono (by rw [hs1]; omega))
  have hlt2 : w.heap.size < w2.heap.size := block_lt_of_cell hc2
  have HC2 := Lib.hid hc2
  clear b2 hs1 hc2
  go_wp2_with fail
  go_ret
  refine ⟨w.heap.size, w2.heap.size, w2.heap.size + 1, rfl, Nat.le_refl _, Nat.le_of_lt hlt2, by omega, ?_, by simp [go_sem], by simp [go_sem], (B2.alloc B2.size _).alloc (by simp; have := B2.size; omega) _⟩
  have e1 := (((Below.refl w2.heap.size w2).alloc (Nat.le_refl _) (.cells #[.string hd] 9)).alloc (by simp) (.cells #[.int .i64 0] 27)).cell (p := ⟨w.heap.size, 0, none⟩) hlt2
  exact e1.trans HC2.out
/-- What stands behind a stream's pieces. -/
structure PcAt (w : World) (kg : Nat) (num : Int) (p5 p6 p7 : Nat) : Prop where
  fn : w.cell? ⟨p5, 0, none⟩ = some (.func (.func 23) #[.pointer (some ⟨kg, 0, none⟩)] #[])
  hd : w.cell? ⟨p6, 0, none⟩ = some (.string ⟨(beL num 8).toArray⟩)
  er : w.cell? ⟨p7, 0, none⟩ = some (.int .i64 0)
theorem PcAt.below {w w' : World} {kg : Nat} {num : Int} {p5 p6 p7 : Nat} (h : PcAt w kg num p5 p6 p7) (hb : Below w.heap.size w w') : PcAt w' kg num p5 p6 p7 :=
  ⟨(hb.cell (p := ⟨p5, 0, none⟩) (block_lt_of_cell h.fn)).trans h.fn, (hb.cell (p := ⟨p6, 0, none⟩) (block_lt_of_cell h.hd)).trans h.hd, (hb.cell (p := ⟨p7, 0, none⟩) (block_lt_of_cell h.er)).trans h.er⟩
set_option maxRecDepth 100000 in
set_option maxHeartbeats 2000000 in
theorem piece_any (kg : Nat) (W : Nat → UInt32) (num : Int) (p5 p6 p7 j : Nat) (w : World) (hj : j < 256) (hK : Hid (KeyAt w kg W)) (hP : Hid (PcAt w kg num p5 p6 p7)) :
    Calls Try.prog 80 #[.int .i64 (j : Int), .pointer (some ⟨p7, 0, none⟩), .pointer (some ⟨p5, 0, none⟩), .pointer (some ⟨p6, 0, none⟩)] w fun e w' => e = .returned (.tuple #[.string (encT W (pieceT num j)), .int .i64 0]) ∧ Below w.heap.size w w' := by
  have CE := Lib.hid (fun w hK => enc_any kg W (pieceT num j) w (pieceT_size num j) hK)
  have HE : Hid (txS (encR W (bAt (pieceT num j).data.toList) 14) = encT W (pieceT num j)) := Lib.hid rfl
  rw [HE.out] at CE
  clear HE
  generalize encT W (pieceT num j) = r at *
  unfold pieceT at CE
  have c5 := hP.out.fn
  have c6 := hP.out.hd
  have c7 := hP.out.er
  have hsz : (⟨(beL num 8).toArray⟩ : ByteArray).size = 8 := by rw [bytes_size, beL_len]
  obtain ⟨hd, hhd⟩ : ∃ hd, Hid ((⟨(beL num 8).toArray⟩ : ByteArray) = hd) := ⟨_, Lib.hid rfl⟩
  rw [hhd.out] at c6 CE hsz
  clear hhd hP
  have hj1 : ((UInt8.ofNat j).toNat : Int) = (j : Int) := by rw [UInt8.toNat_ofNat']; omega
  have hcv := conv_one (P := Try.prog) (dst := 9) w (UInt8.ofNat j) Try.underlying77 Try.underlying5 Try.underlying9
  have a1 : (9223372036854775807 < hd.size + 7) = False := by rw [hsz]; simp
  have hs2 : (hd ++ (⟨#[0, 0, 0, 0, 0, 0, 0]⟩ : ByteArray)).size = 15 := by rw [ByteArray.size_append, hsz]; rfl
  obtain ⟨b, hb⟩ : ∃ b, Hid (UInt8.ofNat j = b) := ⟨_, Lib.hid rfl⟩
  rw [hj1] at hcv
  rw [hb.out] at hcv CE
  clear hb hj1
  unfold z7 at CE
  obtain ⟨h2, hh2⟩ : ∃ h2, Hid (hd ++ (⟨#[0, 0, 0, 0, 0, 0, 0]⟩ : ByteArray) = h2) := ⟨_, Lib.hid rfl⟩
  rw [hh2.out] at CE hs2
  have a2 : (9223372036854775807 < h2.size + 1) = False := by rw [hs2]; simp
  have had : ∀ V : World, (Op.stringOp .add hd (⟨#[0, 0, 0, 0, 0, 0, 0]⟩ : ByteArray)).run Try.prog V = .ok (.string h2) V := fun V => by rw [← hh2.out]; exact run_string_add_sum V hd _ (by rw [hsz]; decide)
  clear hh2
  go_enter Try.func80, Try.ntmps80
  go_wp2_with fail
  refine (CE.out _ ?_).mono ?_
  · exact Lib.hid (hK.out.below ((Below.refl _ _).alloc (Nat.le_refl _) _))
  rintro e w1 ⟨rfl, b1⟩
  go_wp2_with fail
  go_ret2
  exact ⟨rfl, ((Below.refl _ _).alloc (Nat.le_refl _) _).trans (b1.mono (by simp))⟩
end Go.Proofs.Ytbbanhjcchnhpaa
