/- Laws of package ctr (cellaret): CtrNone. -/
import Derived.Test.YtbbanhjcchnhpaaCtE
namespace Go.Proofs.Ytbbanhjcchnhpaa
open Go.RowKit Go.Deep
set_option linter.unusedVariables false
set_option linter.unusedSimpArgs false
theorem none_add (V : World) : (Op.stringOp .add (⟨#[]⟩ : ByteArray) (⟨#[]⟩ : ByteArray)).run Try.prog V = .ok (.string ⟨#[]⟩) V := run_string_add_sum V _ _ (by decide)
set_option maxRecDepth 100000 in
set_option maxHeartbeats 2000000 in
theorem ctrNone_walk (num n : Int) (s : ByteArray) (w : World) (_h1 : (Lit.int .i64 num).wf = true) (_h2 : (Lit.int .i64 n).wf = true) (hs : s.size ≤ 140737488351232) :
    Calls Try.prog 13 #[.int .i64 num, .int .i64 n, .string s] w fun e w' => e = .returned (.bool true) ∧ Below w.heap.size w w' := by
  have ha0 := none_add
  have CT := Lib.hid (fun w => st_nil num n w)
  have CC := Lib.hid (fun w => cr_nil num s w)
  have CS := Lib.hid (fun w => se_nil num s w)
  have CH := Lib.hid (fun w => rhead1 7 w (by decide))
  have CD := Lib.hid (fun w => data_any s w)
  have h48 := cutB_size s 48
  generalize cutB s 48 = d at *
  have CU := Lib.hid (fun w => un_nil (headB 7 1 ++ d) w (blk_size 7 1 d h48) (blk_ok 7 1 d (by decide) (Or.inl rfl)) (blk_kB 7 1 d (by omega)))
  have z1 := headB_size 7 1
  generalize headB 7 1 = h at *
  have had : ∀ V : World, (Op.stringOp .add h d).run Try.prog V = .ok (.string (h ++ d)) V := fun V => run_string_add_sum V h d (by rw [z1, h48]; decide)
  generalize h ++ d = q at *
  go_enter Try.func13, Try.ntmps13
  go_wp2_with fail
  refine (CT.out _).mono ?_
  rintro e w' ⟨rfl, rfl⟩
  go_wp2_with fail
  refine (CC.out _).mono ?_
  rintro e w' ⟨rfl, rfl⟩
  go_wp2_with fail
  refine (CS.out _).mono ?_
  rintro e w' ⟨rfl, rfl⟩
  go_wp2_with fail
  refine (CH.out _).mono ?_
  rintro e w1 ⟨rfl, b1⟩
  go_wp2_with fail
  refine (CD.out _).mono ?_
  rintro e w2 ⟨rfl, b2⟩
  have B2 := Lib.hid (below_trans b1 b2)
  clear b1 b2
  go_wp2_with fail
  refine (CU.out _).mono ?_
  rintro e w' ⟨rfl, rfl⟩
  go_wp2_with fail
  refine (awake05 _).mono ?_
  rintro e w3 ⟨rfl, b3⟩
  have B3 := Lib.hid (below_trans B2.out b3)
  go_wp2_with fail
  go_ret
  exact ⟨by first | rfl | simp, B3.out⟩
end Go.Proofs.Ytbbanhjcchnhpaa
