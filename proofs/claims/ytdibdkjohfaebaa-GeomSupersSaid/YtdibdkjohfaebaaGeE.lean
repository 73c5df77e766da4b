/- Contracts (cellaret): the first block, laid; the reference's; the law GeomSupers. -/
import Derived.Test.YtdibdkjohfaebaaGeD
import Derived.Deep.RegionHeld3
import Derived.Deep.DrawnRows
namespace Go.Proofs.Ytdibdkjohfaebaa
open Go.RowKit Go.Deep Go.ChangeShapes Go.WideShapes
set_option linter.unusedVariables false
attribute [local go_sem ↓] Go.wp_at_zero Go.wp_at_succ

theorem rowIs2 (w : World) (B S : Int) : IntsAt (w.alloc (.cells #[.int .i64 B, .int .i64 S] 3)) (some ⟨w.heap.size, 0, none⟩) 2 [B, S] := fun _ =>
  ⟨w.heap.size, 0, rfl, by simp, fun i hi => by
    have : i = 0 ∨ i = 1 := by omega
    rcases this with rfl | rfl <;> simp⟩
theorem put2 {n : Int} (h0 : 0 ≤ n) (h1 : n ≤ 65535) : putE n 2 = 0 := by
  unfold putE
  rw [if_pos (by omega), if_neg]
  rintro (h | ⟨_, h⟩)
  · omega
  · apply h
    have : (2 : Int) ^ (8 * (2 : Int).toNat) = 65536 := by decide
    rw [this]; omega
theorem put8 {n : Int} (h0 : 0 ≤ n) : putE n 8 = 0 := by
  unfold putE
  rw [if_pos (by omega), if_neg]
  rintro (h | ⟨h, _⟩) <;> omega
theorem rowL2_length (B S : Int) : (rowL 2 [B, S]).length ≤ 16 := by
  unfold rowL
  split
  · exact rowB_length 2 [B, S]
  · exact Nat.zero_le _
/-- A first block's bytes. -/
def superL (B S M : Int) (c : ByteArray) : ByteArray := ⟨#[99, 108, 114, 116]⟩ ++ ⟨(rowL 2 [B, S]).toArray⟩ ++ ⟨(putL M 8).toArray⟩ ++ ⟨#[0, 0, 0, 0, 0, 0, 0, 0, 0, 0, 0, 0, 0, 0, 0, 0]⟩ ++ c
set_option maxRecDepth 100000 in
set_option maxHeartbeats 1000000 in
theorem super_ok (B S M : Int) (c : ByteArray) (w : World) (h : GeomOk B S M) (hc : c.size = 32) :
    Calls Try.prog 7 #[.agg #[.int .i64 B, .int .i64 S, .int .i64 M], .string c] w fun e w' => e = .returned (.tuple #[.string (superL B S M c), .int .i64 0]) ∧ Below w.heap.size w w' := by
  have HC := Lib.hid (fun w => check_ok B S M w h)
  have HP := Lib.hid (fun w => put_any M 8 w)
  have hc1 : ((c.size : Int) == 32) = true := by simp; omega
  have hc2 : ((c.size : Int) != 32) = false := by simp; omega
  have hmk := make16
  have hcv := conv16
  have l1 := rowL2_length B S
  have l2 := putL_length M 8
  have l3 : c.size ≤ 32 := by omega
  clear hc h
  go_enter Try.func7, Try.ntmps7
  go_wp2_with fail
  refine (HC.out _).mono ?_
  rintro e w1 ⟨rfl, b1⟩
  have T1 := (Tri3.new w 23 B S M).below b1
  have B0 : Below w.heap.size w (w.alloc (.cells #[.int .i64 B, .int .i64 S, .int .i64 M] 23)) := (Below.refl _ _).alloc (Nat.le_refl _) _
  have B1 := B0.trans (b1.mono B0.size)
  have c0 := T1.c0
  have c1 := T1.c1
  have c2 := T1.c2
  go_wp2_with fail
  refine (row_ok 2 _ 2 2 [B, S] _ (by omega) (by omega) (by omega) (Lib.hid (rowIs2 w1 B S)) (Lib.hid rfl)).mono ?_
  rintro e w2 ⟨rfl, b2⟩
  have b2' : Below w1.heap.size w1 w2 := ((Below.refl w1.heap.size w1).alloc (Nat.le_refl _) (.cells #[.int .i64 B, .int .i64 S] 3)).trans (b2.mono (by simp))
  have T2 := T1.below b2'
  have B2 := B1.trans (b2'.mono B1.size)
  clear c0 c1 c2 b2 b2' b1 B0
  have c2 := T2.c2
  go_wp2_with fail
  refine (HP.out _).mono ?_
  rintro e w3 ⟨rfl, b3⟩
  have B3 := B2.trans (b3.mono B2.size)
  clear b3
  go_wp2
  go_ret2
  exact ⟨rfl, B3.alloc B3.size _⟩
set_option maxHeartbeats 1000000 in
theorem super_no (B S M : Int) (c : ByteArray) (w : World) (h : ¬ (GeomOk B S M ∧ c.size = 32)) (hm : c.size ≤ 140737488351232) :
    Calls Try.prog 7 #[.agg #[.int .i64 B, .int .i64 S, .int .i64 M], .string c] w fun e w' => e = .returned (.tuple #[.string ⟨#[]⟩, .int .i64 2]) ∧ Below w.heap.size w w' := by
  have B0 : Below w.heap.size w (w.alloc (.cells #[.int .i64 B, .int .i64 S, .int .i64 M] 23)) := (Below.refl _ _).alloc (Nat.le_refl _) _
  by_cases hg : GeomOk B S M
  · have HC := Lib.hid (fun w => check_ok B S M w hg)
    have hc : c.size ≠ 32 := fun e => h ⟨hg, e⟩
    have hc1 : ((c.size : Int) == 32) = false := by simp; omega
    have hc2 : ((c.size : Int) != 32) = true := by simp; omega
    clear hc h hg
    go_enter Try.func7, Try.ntmps7
    go_wp2_with fail
    refine (HC.out _).mono ?_
    rintro e w1 ⟨rfl, b1⟩
    have B1 := B0.trans (b1.mono B0.size)
    go_wp2
    go_ret2
    exact ⟨rfl, B1⟩
  · have HC := Lib.hid (fun w => check_no B S M w hg)
    clear h hg
    go_enter Try.func7, Try.ntmps7
    go_wp2_with fail
    refine (HC.out _).mono ?_
    rintro e w1 ⟨rfl, b1⟩
    have B1 := B0.trans (b1.mono B0.size)
    go_wp2
    go_ret2
    exact ⟨rfl, B1⟩
theorem n_any (n W : Int) (w : World) (hN : n ≤ 9223372036854775807) :
    Calls Try.prog 28 #[.int .i64 n, .int .i64 W] w fun e w' => e = .returned (.string ⟨(putL n W).toArray⟩) ∧ Below w.heap.size w w' := by
  have HP := Lib.hid (fun w => r01put_any n W w hN)
  go_enter Try.func28, Try.ntmps28
  go_wp2_with fail
  refine (HP.out _).mono ?_
  rintro e w1 ⟨rfl, b1⟩
  go_wp2
  go_ret
  exact ⟨rfl, b1⟩
theorem keep3 {w1 w2 : World} {g : Nat} {a b c : Value} (hb : Below w1.heap.size w1 w2) (h : w1.cell? ⟨g, 0, none⟩ = some a ∧ w1.cell? ⟨g, 1, none⟩ = some b ∧ w1.cell? ⟨g, 2, none⟩ = some c ∧ g < w1.heap.size) :
    w2.cell? ⟨g, 0, none⟩ = some a ∧ w2.cell? ⟨g, 1, none⟩ = some b ∧ w2.cell? ⟨g, 2, none⟩ = some c ∧ g < w2.heap.size :=
  ⟨(hb.cell (p := ⟨g, 0, none⟩) h.2.2.2).trans h.1, (hb.cell (p := ⟨g, 1, none⟩) h.2.2.2).trans h.2.1, (hb.cell (p := ⟨g, 2, none⟩) h.2.2.2).trans h.2.2.1, Nat.lt_of_lt_of_le h.2.2.2 hb.size⟩
theorem below_step {B : Nat} {w w1 w2 : World} (h : Below w1.heap.size w1 w2) (k : Below B w w1) (hB : B ≤ w1.heap.size) : Below B w w2 := k.trans (h.mono hB)
theorem below_step' {B : Nat} {w w1 w2 : World} (h : Below w1.heap.size w1 w2) (k : Below B w w1 ∧ B ≤ w1.heap.size) : Below B w w2 ∧ B ≤ w2.heap.size := ⟨k.1.trans (h.mono k.2), Nat.le_trans k.2 h.size⟩
set_option maxRecDepth 100000 in
set_option maxHeartbeats 2000000 in
theorem r09super_any (B S M : Int) (c : ByteArray) (w : World) (h : GeomOk B S M) (hc : c.size = 32) :
    Calls Try.prog 13 #[.agg #[.int .i64 B, .int .i64 S, .int .i64 M], .string c] w fun e w' => e = .returned (.string (⟨#[99, 108, 114, 116]⟩ ++ ⟨(putL B 2).toArray⟩ ++ ⟨(putL S 2).toArray⟩ ++ ⟨(putL M 8).toArray⟩ ++ ⟨(List.replicate 16 (0 : UInt8)).toArray⟩ ++ c)) ∧ Below w.heap.size w w' := by
  obtain ⟨g1, g2, g3, g4, g5, g6, g7⟩ := h
  have H1 := Lib.hid (fun w => n_any B 2 w (by omega))
  have H2 := Lib.hid (fun w => n_any S 2 w (by omega))
  have H3 := Lib.hid (fun w => n_any M 8 w (by omega))
  have H4 := Lib.hid (fun w => zeros_any 16 w (by omega))
  have l1 : (⟨(putL B 2).toArray⟩ : ByteArray).size ≤ 8 := putL_length B 2
  have l2 : (⟨(putL S 2).toArray⟩ : ByteArray).size ≤ 8 := putL_length S 2
  have l4 : (⟨(putL M 8).toArray⟩ : ByteArray).size ≤ 8 := putL_length M 8
  have l5 : (⟨(List.replicate 16 (0 : UInt8)).toArray⟩ : ByteArray).size ≤ 16 := Nat.le_refl _
  have l3 : c.size ≤ 32 := by omega
  have l0 : (⟨#[99, 108, 114, 116]⟩ : ByteArray).size ≤ 4 := Nat.le_refl _
  generalize (⟨(putL B 2).toArray⟩ : ByteArray) = s1 at H1 l1 ⊢
  generalize (⟨(putL S 2).toArray⟩ : ByteArray) = s2 at H2 l2 ⊢
  generalize (⟨(putL M 8).toArray⟩ : ByteArray) = s3 at H3 l4 ⊢
  generalize (⟨(List.replicate 16 (0 : UInt8)).toArray⟩ : ByteArray) = s4 at H4 l5 ⊢
  obtain ⟨t0, ht0⟩ : ∃ t0 : ByteArray, t0 = ⟨#[99, 108, 114, 116]⟩ := ⟨_, rfl⟩
  rw [← ht0] at l0
  clear l0 ht0 t0
  have a1 : (9223372036854775807 < 4 + s1.size) = False := by simp; omega
  have a2 : (9223372036854775807 < 4 + s1.size + s2.size) = False := by simp; omega
  have a3 : (9223372036854775807 < 4 + s1.size + s2.size + s3.size) = False := by simp; omega
  have a4 : (9223372036854775807 < 4 + s1.size + s2.size + s3.size + s4.size) = False := by simp; omega
  have a5 : (9223372036854775807 < 4 + s1.size + s2.size + s3.size + s4.size + c.size) = False := by simp; omega
  clear g3 hc
  go_enter Try.func13, Try.ntmps13
  obtain ⟨w0, HE, T0, B0⟩ : ∃ w0, Hid (w.alloc (.cells #[.int .i64 B, .int .i64 S, .int .i64 M] 23) = w0) ∧ Tri3 w0 w.heap.size B S M ∧ Below w.heap.size w w0 := ⟨_, Lib.hid rfl, Tri3.new _ _ _ _ _, (Below.refl _ _).alloc (Nat.le_refl _) _⟩
  go_wp2
  rw [HE.out]
  clear HE
  have k0 := T0.c0
  have k1 := T0.c1
  have k2 := T0.c2
  have k3 := T0.lt
  clear T0
  go_region_held3 (fun w' => w'.cell? ⟨w.heap.size, 0, none⟩ = some (.int .i64 B) ∧ w'.cell? ⟨w.heap.size, 1, none⟩ = some (.int .i64 S) ∧ w'.cell? ⟨w.heap.size, 2, none⟩ = some (.int .i64 M) ∧ w.heap.size < w'.heap.size)
    (first | exact ⟨k0, k1, k2, k3⟩ | ((repeat (apply keep3 (by assumption))); exact ⟨k0, k1, k2, k3⟩))
    (first | (go_simp; go_at_call_of 28 (Value.int .i64 B); refine (H1.out _).mono ?_; rintro e w' ⟨rfl, hb⟩) | (go_simp; go_at_call_of 28 (Value.int .i64 S); refine (H2.out _).mono ?_; rintro e w' ⟨rfl, hb⟩) | (go_simp; go_at_call_of 28 (Value.int .i64 M); refine (H3.out _).mono ?_; rintro e w' ⟨rfl, hb⟩) | (go_simp; go_at_call 26; refine (H4.out _).mono ?_; rintro e w' ⟨rfl, hb⟩))
  go_wp2
  go_ret
  have key : Below w.heap.size w w' ∧ w.heap.size ≤ w'.heap.size := by
    repeat (refine below_step' (by assumption) ?_)
    exact ⟨B0.drew, B0.size⟩
  exact ⟨rfl, key.1⟩
end Go.Proofs.Ytdibdkjohfaebaa
