/- Package ctr (cellaret): Crypt, head, Seal, Lay. -/
import Derived.Test.YtbbanhjcchnhpaaCtB
import Derived.Test.YtbbanhjcchnhpaaBeC
namespace Go.Proofs.Ytbbanhjcchnhpaa
open Go.RowKit Go.Deep
set_option linter.unusedVariables false
set_option linter.unusedSimpArgs false
/-- A text xored with a stream. -/
def cryB (W : Nat → UInt32) (num : Int) (s : ByteArray) : ByteArray := ⟨(xorL s.data.toList (streamB W num s.size).data.toList).toArray⟩
theorem cryB_size (W : Nat → UInt32) (num : Int) (s : ByteArray) : (cryB W num s).size = s.size := by
  unfold cryB
  rw [bytes_size, xorL_length, ← Lib.size_eq]
theorem cr_nil (num : Int) (s : ByteArray) (w : World) : Calls Try.prog 30 #[.pointer none, .int .i64 num, .string s] w fun e w' => e = .returned (.tuple #[.string ⟨#[]⟩, .int .i64 1]) ∧ w = w' := by
  go_enter Try.func30, Try.ntmps30
  go_wp2_with fail
  refine (st_nil num _ _).mono ?_
  rintro e w' ⟨rfl, rfl⟩
  go_wp2_with fail
  go_ret2
  exact ⟨rfl, rfl⟩
theorem cr_arg (kg : Nat) (num : Int) (s : ByteArray) (w : World) (hn : okN num = false) : Calls Try.prog 30 #[.pointer (some ⟨kg, 0, none⟩), .int .i64 num, .string s] w fun e w' => e = .returned (.tuple #[.string ⟨#[]⟩, .int .i64 2]) ∧ w = w' := by
  go_enter Try.func30, Try.ntmps30
  go_wp2_with fail
  refine (st_arg kg num _ _ hn).mono ?_
  rintro e w' ⟨rfl, rfl⟩
  go_wp2_with fail
  go_ret2
  exact ⟨rfl, rfl⟩
theorem cr_ok (kg : Nat) (W : Nat → UInt32) (num : Int) (s : ByteArray) (w : World) (hn : okN num = true) (hs : s.size ≤ 4096) (hK : Hid (KeyAt w kg W)) : Calls Try.prog 30 #[.pointer (some ⟨kg, 0, none⟩), .int .i64 num, .string s] w fun e w' => e = .returned (.tuple #[.string (cryB W num s), .int .i64 0]) ∧ Below w.heap.size w w' := by
  have CS := Lib.hid (fun w hK => st_ok kg W num s.size w hn hs hK)
  have CX := Lib.hid (fun w => xor_ok s (streamB W num s.size) w (Lib.hid (streamB_size W num s.size hs).symm) (by omega))
  have HC : Hid ((⟨(xorL s.data.toList (streamB W num s.size).data.toList).toArray⟩ : ByteArray) = cryB W num s) := Lib.hid rfl
  rw [HC.out] at CX
  generalize cryB W num s = r at *
  generalize streamB W num s.size = st at *
  go_enter Try.func30, Try.ntmps30
  go_wp2_with fail
  refine (CS.out _ hK).mono ?_
  rintro e w1 ⟨rfl, b1⟩
  go_wp2_with fail
  refine (CX.out _).mono ?_
  rintro e w2 ⟨rfl, b2⟩
  go_wp2_with fail
  go_ret2
  exact ⟨rfl, below_trans b1 b2⟩
/-- What stands ahead of a body. -/
def headB (num : Int) (k : Nat) : ByteArray := (⟨(beL num 8).toArray⟩ ++ ⟨#[UInt8.ofNat k]⟩) ++ z7
theorem headB_size (num : Int) (k : Nat) : (headB num k).size = 16 := by
  unfold headB
  rw [ByteArray.size_append, ByteArray.size_append, bytes_size, beL_len]
  rfl
set_option maxRecDepth 100000 in
set_option maxHeartbeats 2000000 in
theorem head_raw (num : Int) (k : Nat) (w : World) (hn : okN num = true) (hk : k < 256) : Calls Try.prog 69 #[.int .i64 num, .int .i64 (k : Int)] w fun e w' => e = .returned (.string (headB num k)) ∧ Below w.heap.size w w' := by
  obtain ⟨h0, h1⟩ := okN_true hn
  have CP := Lib.hid (fun w => put_ok num 8 w (by omega) (by omega) h0 (Lib.hid (fun h => absurd h (by omega))))
  rw [show ((8 : Nat) : Int) = 8 from rfl] at CP
  have hsz : (⟨(beL num 8).toArray⟩ : ByteArray).size = 8 := by rw [bytes_size, beL_len]
  unfold headB z7
  obtain ⟨hd, hhd⟩ : ∃ hd, Hid ((⟨(beL num 8).toArray⟩ : ByteArray) = hd) := ⟨_, Lib.hid rfl⟩
  rw [hhd.out] at CP hsz ⊢
  clear hhd
  have hj1 : ((UInt8.ofNat k).toNat : Int) = (k : Int) := by rw [UInt8.toNat_ofNat']; omega
  have HCV := Lib.hid (fun w => conv_one (P := Try.prog) (dst := 9) w (UInt8.ofNat k) Try.underlying77 Try.underlying5 Try.underlying9)
  obtain ⟨b, hb⟩ : ∃ b, Hid (UInt8.ofNat k = b) := ⟨_, Lib.hid rfl⟩
  rw [hj1, hb.out] at HCV
  rw [hb.out]
  clear hb hj1
  have hs2 : (hd ++ (⟨#[b]⟩ : ByteArray)).size = 9 := by rw [ByteArray.size_append, hsz]; rfl
  obtain ⟨h2, hh2⟩ : ∃ h2, Hid (hd ++ (⟨#[b]⟩ : ByteArray) = h2) := ⟨_, Lib.hid rfl⟩
  rw [hh2.out] at hs2 ⊢
  have a1 : (9223372036854775807 < hd.size + 1) = False := by rw [hsz]; simp
  have had : ∀ V : World, (Op.stringOp .add hd (⟨#[b]⟩ : ByteArray)).run Try.prog V = .ok (.string h2) V := fun V => by rw [← hh2.out]; exact run_string_add_sum V hd _ (by rw [hsz]; show 8 + 1 ≤ _; omega)
  have had2 : ∀ V : World, (Op.stringOp .add h2 (⟨#[0, 0, 0, 0, 0, 0, 0]⟩ : ByteArray)).run Try.prog V = .ok (.string (h2 ++ (⟨#[0, 0, 0, 0, 0, 0, 0]⟩ : ByteArray))) V := fun V => run_string_add_sum V h2 _ (by rw [hs2]; decide)
  generalize h2 ++ (⟨#[0, 0, 0, 0, 0, 0, 0]⟩ : ByteArray) = h3 at had2 ⊢
  clear hh2
  go_enter Try.func69, Try.ntmps69
  go_wp2_with fail
  refine (CP.out _).mono ?_
  rintro e w1 ⟨rfl, b1⟩
  have hcv := HCV.out w1
  go_wp2_with fail
  go_ret
  exact ⟨rfl, b1.alloc b1.size _⟩
theorem head1 (num : Int) (w : World) (hn : okN num = true) : Calls Try.prog 69 #[.int .i64 num, .int .i64 1] w fun e w' => e = .returned (.string (headB num 1)) ∧ Below w.heap.size w w' := head_raw num 1 w hn (by omega)
theorem head2 (num : Int) (w : World) (hn : okN num = true) : Calls Try.prog 69 #[.int .i64 num, .int .i64 2] w fun e w' => e = .returned (.string (headB num 2)) ∧ Below w.heap.size w w' := head_raw num 2 w hn (by omega)
theorem se_nil (num : Int) (s : ByteArray) (w : World) : Calls Try.prog 35 #[.pointer none, .int .i64 num, .string s] w fun e w' => e = .returned (.tuple #[.string ⟨#[]⟩, .int .i64 1]) ∧ w = w' := by
  go_enter Try.func35, Try.ntmps35
  go_wp2_with fail
  go_ret2
  exact ⟨rfl, rfl⟩
theorem se_arg (kg : Nat) (num : Int) (s : ByteArray) (w : World) (hn : okN num = false) : Calls Try.prog 35 #[.pointer (some ⟨kg, 0, none⟩), .int .i64 num, .string s] w fun e w' => e = .returned (.tuple #[.string ⟨#[]⟩, .int .i64 2]) ∧ w = w' := by
  have CM := Lib.hid (fun w => mayBe_any num w)
  rw [hn] at CM
  go_enter Try.func35, Try.ntmps35
  go_wp2_with fail
  refine (CM.out _).mono ?_
  rintro e w' ⟨rfl, rfl⟩
  go_wp2_with fail
  go_ret2
  exact ⟨rfl, rfl⟩
theorem se_form (kg : Nat) (num : Int) (s : ByteArray) (w : World) (hn : okN num = true) (hs : s.size ≠ 48) : Calls Try.prog 35 #[.pointer (some ⟨kg, 0, none⟩), .int .i64 num, .string s] w fun e w' => e = .returned (.tuple #[.string ⟨#[]⟩, .int .i64 6]) ∧ w = w' := by
  have CM := Lib.hid (fun w => mayBe_any num w)
  rw [hn] at CM
  have ht : ((s.size : Int) == 48) = false := by rw [beq_eq_false_iff_ne]; omega
  go_enter Try.func35, Try.ntmps35
  go_wp2_with fail
  refine (CM.out _).mono ?_
  rintro e w' ⟨rfl, rfl⟩
  go_wp2_with fail
  go_ret2
  exact ⟨rfl, rfl⟩
theorem se_ok (kg : Nat) (W : Nat → UInt32) (num : Int) (s : ByteArray) (w : World) (hn : okN num = true) (hs : s.size = 48) (hK : Hid (KeyAt w kg W)) : Calls Try.prog 35 #[.pointer (some ⟨kg, 0, none⟩), .int .i64 num, .string s] w fun e w' => e = .returned (.tuple #[.string (headB num 1 ++ cryB W num s), .int .i64 0]) ∧ Below w.heap.size w w' := by
  have CM := Lib.hid (fun w => mayBe_any num w)
  rw [hn] at CM
  have ht : ((s.size : Int) == 48) = true := by rw [beq_iff_eq]; omega
  have CC := Lib.hid (fun w hK => cr_ok kg W num s w hn (by omega) hK)
  have CH := Lib.hid (fun w => head1 num w hn)
  have z1 := headB_size num 1
  have z2 := cryB_size W num s
  rw [hs] at z2
  generalize cryB W num s = r at *
  generalize headB num 1 = h at *
  have had : ∀ V : World, (Op.stringOp .add h r).run Try.prog V = .ok (.string (h ++ r)) V := fun V => run_string_add_sum V h r (by rw [z1, z2]; decide)
  generalize h ++ r = q at *
  go_enter Try.func35, Try.ntmps35
  go_wp2_with fail
  refine (CM.out _).mono ?_
  rintro e w' ⟨rfl, rfl⟩
  go_wp2_with fail
  refine (CC.out _ hK).mono ?_
  rintro e w1 ⟨rfl, b1⟩
  go_wp2_with fail
  refine (CH.out _).mono ?_
  rintro e w2 ⟨rfl, b2⟩
  go_wp2_with fail
  go_ret2
  exact ⟨rfl, below_trans b1 b2⟩
theorem la_arg (num : Int) (s : ByteArray) (w : World) (hn : okN num = false) : Calls Try.prog 36 #[.int .i64 num, .string s] w fun e w' => e = .returned (.tuple #[.string ⟨#[]⟩, .int .i64 2]) ∧ w = w' := by
  have CM := Lib.hid (fun w => mayBe_any num w)
  rw [hn] at CM
  go_enter Try.func36, Try.ntmps36
  go_wp2_with fail
  refine (CM.out _).mono ?_
  rintro e w' ⟨rfl, rfl⟩
  go_wp2_with fail
  go_ret2
  exact ⟨rfl, rfl⟩
theorem la_form (num : Int) (s : ByteArray) (w : World) (hn : okN num = true) (hs : s.size ≠ 48) : Calls Try.prog 36 #[.int .i64 num, .string s] w fun e w' => e = .returned (.tuple #[.string ⟨#[]⟩, .int .i64 6]) ∧ w = w' := by
  have CM := Lib.hid (fun w => mayBe_any num w)
  rw [hn] at CM
  have ht : ((s.size : Int) == 48) = false := by rw [beq_eq_false_iff_ne]; omega
  go_enter Try.func36, Try.ntmps36
  go_wp2_with fail
  refine (CM.out _).mono ?_
  rintro e w' ⟨rfl, rfl⟩
  go_wp2_with fail
  go_ret2
  exact ⟨rfl, rfl⟩
theorem la_ok (num : Int) (s : ByteArray) (w : World) (hn : okN num = true) (hs : s.size = 48) : Calls Try.prog 36 #[.int .i64 num, .string s] w fun e w' => e = .returned (.tuple #[.string (headB num 2 ++ s), .int .i64 0]) ∧ Below w.heap.size w w' := by
  have CM := Lib.hid (fun w => mayBe_any num w)
  rw [hn] at CM
  have ht : ((s.size : Int) == 48) = true := by rw [beq_iff_eq]; omega
  have CH := Lib.hid (fun w => head2 num w hn)
  have z1 := headB_size num 2
  generalize headB num 2 = h at *
  have had : ∀ V : World, (Op.stringOp .add h s).run Try.prog V = .ok (.string (h ++ s)) V := fun V => run_string_add_sum V h s (by rw [z1, hs]; decide)
  generalize h ++ s = q at *
  go_enter Try.func36, Try.ntmps36
  go_wp2_with fail
  refine (CM.out _).mono ?_
  rintro e w' ⟨rfl, rfl⟩
  go_wp2_with fail
  refine (CH.out _).mono ?_
  rintro e w2 ⟨rfl, b2⟩
  go_wp2_with fail
  go_ret2
  exact ⟨rfl, b2⟩
end Go.Proofs.Ytbbanhjcchnhpaa
