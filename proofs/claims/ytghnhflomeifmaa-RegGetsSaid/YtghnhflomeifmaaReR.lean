/- The laws RegBack, RegGets: their bodies. -/
import Derived.Test.YtghnhflomeifmaaReO
import Derived.Test.YtghnhflomeifmaaReP
import Derived.Test.YtghnhflomeifmaaReL
import Derived.ChangeKeysEq
namespace Go.Proofs.Ytghnhflomeifmaa
open Go.ChangeShapes Go.WideShapes Go.RowKit Go.Deep
set_option linter.unusedVariables false
set_option linter.unusedSimpArgs false
section
variable {P : Program} {w : World}
theorem eqF_step {d : Nat} {xs : Array Value} {f : Field} {fs : List Field} {v : Value} (hp : (part f.type xs f.offset).run P w = .ok v w) (he : (Op.equalIn d f.type v v).run P w = .ok true w) (hr : (Op.eqFields d xs xs fs).run P w = .ok true w) : (Op.eqFields d xs xs (f :: fs)).run P w = .ok true w := by
  unfold Op.eqFields
  rw [Sem.run_ite]
  split
  · simp only [Sem.run_bind, hp, he, Result.andThen_ok, Bool.not_true, Bool.false_eq_true, if_false]
    exact hr
  · exact hr
theorem eqI_step {d c i : Nat} {e : TypeId} {xs : Array Value} {is : List Nat} {v : Value} (hp : (part e xs (i * c)).run P w = .ok v w) (he : (Op.equalIn d e v v).run P w = .ok true w) (hr : (Op.eqItems d e c xs xs is).run P w = .ok true w) : (Op.eqItems d e c xs xs (i :: is)).run P w = .ok true w := by
  unfold Op.eqItems
  simp only [Sem.run_bind, hp, he, Result.andThen_ok, Bool.not_true, Bool.false_eq_true, if_false]
  exact hr
end
def digA (f : Nat → UInt8) : Array Value := ((digL f).map fun b => .int .u8 (b.toNat : Int)).toArray
def anch (R : Rg) : Array Value := ((List.range 64).map (rcell R)).toArray
theorem dig_self (f : Nat → UInt8) (d : Nat) (w : World) : (Op.equalIn (d + 2) 23 (.agg (digA f)) (.agg (digA f))).run Try.prog w = .ok true w := by
  have := run_equalIn_bytes (P := Try.prog) w d 23 5 32 Try.underlying23 Try.underlying5 size_u8w (digL f) (digL f) (digL_len f) (digL_len f)
  rw [show (digL f == digL f) = true from by simp] at this
  exact this
theorem anch_0 (R : Rg) (w : World) : (part 23 (anch R) (0 * 32)).run Try.prog w = .ok (.agg (digA R.d0)) w := by kernel_rfl
theorem anch_1 (R : Rg) (w : World) : (part 23 (anch R) (1 * 32)).run Try.prog w = .ok (.agg (digA R.d1)) w := by kernel_rfl
theorem info_dig : ∃ i, Try.prog.info? 23 = some i ∧ Try.prog.cellsOf 23 = 32 := by
  cases h : Try.prog.info? 23 with
  | none => exact absurd h (by have : (Try.prog.info? 23).isSome = true := by kernel_rfl
                               intro e; rw [e] at this; cases this)
  | some i => exact ⟨i, rfl, by kernel_rfl⟩
theorem anch_self (R : Rg) (d : Nat) (w : World) : (Op.equalIn (d + 3) 24 (.agg (anch R)) (.agg (anch R))).run Try.prog w = .ok true w := by
  obtain ⟨i, hi, hc⟩ := info_dig
  rw [run_equalIn_array w (d + 2) (anch R) (anch R) Try.underlying24 hi, hc]
  exact eqI_step (anch_0 R w) (dig_self _ d w) (eqI_step (anch_1 R w) (dig_self _ d w) rfl)
theorem reg_p0 (R : Rg) (w : World) : (part 24 (rcells R) 0).run Try.prog w = .ok (.agg (anch R)) w := by kernel_rfl
theorem reg_p1 (R : Rg) (w : World) : (part 3 (rcells R) 64).run Try.prog w = .ok (.int .i64 R.ep) w := by kernel_rfl
theorem reg_p2 (R : Rg) (w : World) : (part 3 (rcells R) 65).run Try.prog w = .ok (.int .i64 R.iv) w := by kernel_rfl
theorem reg_p3 (R : Rg) (w : World) : (part 25 (rcells R) 66).run Try.prog w = .ok (.agg #[.int .i64 R.a0, .int .i64 R.a1]) w := by kernel_rfl
theorem reg_p4 (R : Rg) (w : World) : (part 25 (rcells R) 68).run Try.prog w = .ok (.agg #[.int .i64 R.u0, .int .i64 R.u1]) w := by kernel_rfl
theorem reg_p5 (R : Rg) (w : World) : (part 3 (rcells R) 70).run Try.prog w = .ok (.int .i64 R.di) w := by kernel_rfl
theorem reg_p6 (R : Rg) (w : World) : (part 3 (rcells R) 71).run Try.prog w = .ok (.int .i64 R.mo) w := by kernel_rfl
theorem reg_p7 (R : Rg) (w : World) : (part 4 (rcells R) 72).run Try.prog w = .ok (.bool R.at_) w := by kernel_rfl
theorem int_self (n : Int) (d : Nat) (w : World) : (Op.equalIn (d + 1) 3 (.int .i64 n) (.int .i64 n)).run Try.prog w = .ok true w := by
  rw [run_equalIn_int w d 3 .i64 .i64 n n Try.underlying3]; simp
theorem info_int : ∃ i, Try.prog.info? 3 = some i ∧ Try.prog.cellsOf 3 = 1 := by
  cases h : Try.prog.info? 3 with
  | none => exact absurd h (by have : (Try.prog.info? 3).isSome = true := by kernel_rfl
                               intro e; rw [e] at this; cases this)
  | some i => exact ⟨i, rfl, by kernel_rfl⟩
theorem two_p0 (a b : Int) (w : World) : (part 3 #[.int .i64 a, .int .i64 b] (0 * 1)).run Try.prog w = .ok (.int .i64 a) w := by kernel_rfl
theorem two_p1 (a b : Int) (w : World) : (part 3 #[.int .i64 a, .int .i64 b] (1 * 1)).run Try.prog w = .ok (.int .i64 b) w := by kernel_rfl
theorem two_self (a b : Int) (d : Nat) (w : World) : (Op.equalIn (d + 2) 25 (.agg #[.int .i64 a, .int .i64 b]) (.agg #[.int .i64 a, .int .i64 b])).run Try.prog w = .ok true w := by
  obtain ⟨i, hi, hc⟩ := info_int
  rw [run_equalIn_array w (d + 1) _ _ Try.underlying25 hi, hc]
  exact eqI_step (two_p0 a b w) (int_self _ d w) (eqI_step (two_p1 a b w) (int_self _ d w) rfl)
theorem bool_self (b : Bool) (d : Nat) (w : World) : (Op.equalIn (d + 1) 4 (.bool b) (.bool b)).run Try.prog w = .ok true w := by
  rw [run_equalIn_bool' w d 4 b b Try.underlying4]; simp
theorem reg_self (R : Rg) (w : World) : (Op.equalIn 10000 27 (.agg (rcells R)) (.agg (rcells R))).run Try.prog w = .ok true w := by
  obtain ⟨f0, f1, f2, f3, f4, f5, f6, f7, hs, ⟨t0, o0⟩, ⟨t1, o1⟩, ⟨t2, o2⟩, ⟨t3, o3⟩, ⟨t4, o4⟩, ⟨t5, o5⟩, ⟨t6, o6⟩, ⟨t7, o7⟩⟩ := reg_fields
  have hfo : Try.prog.fieldsOf 27 = #[f0, f1, f2, f3, f4, f5, f6, f7] := by unfold Program.fieldsOf; rw [hs]
  have hu : Try.prog.underlying 27 = some (.struct (Try.prog.fieldsOf 27)) := by rw [hfo]; exact hs
  rw [show (10000 : Nat) = 9999 + 1 from rfl, run_equalIn_agg w 9999 27 _ _ hu (by kernel_rfl), hfo]
  refine eqF_step (v := .agg (anch R)) (by rw [t0, o0]; exact reg_p0 R w) (by rw [t0]; exact anch_self R 9996 w) ?_
  refine eqF_step (v := .int .i64 R.ep) (by rw [t1, o1]; exact reg_p1 R w) (by rw [t1]; exact int_self _ 9998 w) ?_
  refine eqF_step (v := .int .i64 R.iv) (by rw [t2, o2]; exact reg_p2 R w) (by rw [t2]; exact int_self _ 9998 w) ?_
  refine eqF_step (v := .agg #[.int .i64 R.a0, .int .i64 R.a1]) (by rw [t3, o3]; exact reg_p3 R w) (by rw [t3]; exact two_self _ _ 9997 w) ?_
  refine eqF_step (v := .agg #[.int .i64 R.u0, .int .i64 R.u1]) (by rw [t4, o4]; exact reg_p4 R w) (by rw [t4]; exact two_self _ _ 9997 w) ?_
  refine eqF_step (v := .int .i64 R.di) (by rw [t5, o5]; exact reg_p5 R w) (by rw [t5]; exact int_self _ 9998 w) ?_
  refine eqF_step (v := .int .i64 R.mo) (by rw [t6, o6]; exact reg_p6 R w) (by rw [t6]; exact int_self _ 9998 w) ?_
  refine eqF_step (v := .bool R.at_) (by rw [t7, o7]; exact reg_p7 R w) (by rw [t7]; exact bool_self _ 9998 w) ?_
  rfl
theorem reg_eql (R : Rg) (w : World) : (binOp .eql 27 (.agg (rcells R)) (.agg (rcells R))).run Try.prog w = .ok (.bool true) w := by
  rw [run_eql_struct, reg_self]; rfl
theorem reg_neq (R : Rg) (w : World) : (binOp .neq 27 (.agg (rcells R)) (.agg (rcells R))).run Try.prog w = .ok (.bool false) w := by
  rw [run_neq_struct, reg_self]; rfl
theorem lay_nz (R : Rg) (h : Rt R) : ((layS R).toList == zz96.toList) = false := by
  cases hq : ((layS R).toList == zz96.toList) with
  | false => rfl
  | true =>
    exfalso
    have e : (layS R).data.toList = zz96.data.toList := by
      have := eq_of_beq hq
      rwa [Lib.toList_data, Lib.toList_data] at this
    have h1 := lay_mark R h
    unfold by_ at h1
    rw [e] at h1
    exact absurd h1 (by decide +kernel)
theorem get_lay (R : Rg) (w : World) (h : Rt R) : Calls Try.prog 11 #[.string (layS R)] w fun e w' => e = .returned (.tuple #[.agg (rcells R), .int .i64 0]) ∧ Below w.heap.size w w' := by
  obtain ⟨h1, h2, h3⟩ := lay_back R h
  have := regget_ok (layS R) w (lay_size R h) (Lib.hid (lay_nz R h)) h1 h2
  rwa [h3] at this
/-- What any bytes are, as Get tells it. -/
theorem get_cases (s : ByteArray) : ∃ (X : Rg) (c : Int), Hid (∀ w, Calls Try.prog 11 #[.string s] w fun e w' => e = .returned (.tuple #[.agg (rcells X), .int .i64 c]) ∧ Below w.heap.size w w') ∧
    Hid (∀ w, Calls Try.prog 12 #[.string s] w fun e w' => e = .returned (.tuple #[.agg (rcells X), .int .i64 c]) ∧ Below w.heap.size w w') ∧ ((c = 0 ∧ Rt X ∧ layS X = s) ∨ (c != 0) = true) := by
  by_cases h96 : s.size = 96
  · cases hz : (s.toList == zz96.toList) with
    | true =>
      have e : s = zz96 := by
        have := eq_of_beq hz
        rw [Lib.toList_data, Lib.toList_data] at this
        obtain ⟨⟨l⟩⟩ := s
        exact congrArg (fun l : List UInt8 => (⟨l.toArray⟩ : ByteArray)) this
      subst e
      exact ⟨R0, 19, Lib.hid regget_zero, Lib.hid r11get_zero, .inr rfl⟩
    | false =>
      by_cases hg : Good s
      · obtain ⟨h1, h2, h3⟩ := good_yes s h96 hg
        refine ⟨RD s, 0, Lib.hid (fun w => regget_ok s w h96 (Lib.hid hz) h2 h3), Lib.hid (fun w => ?_), .inl ⟨rfl, h2, h3⟩⟩
        have := r11get_walk s w h96 (Lib.hid hz) true (Lib.hid ⟨fun _ => hg, fun _ => rfl⟩)
        rw [if_pos rfl, if_pos rfl, h1.cells] at this
        exact this
      · refine ⟨R0, 6, Lib.hid (fun w => ?_), Lib.hid (fun w => ?_), .inr rfl⟩
        · by_cases hr : Rt (RD s)
          · have hl : layS (RD s) ≠ s := fun e => hg (good_of s h96 hr e)
            have := regget_walk s w h96 (Lib.hid hz) true (Lib.hid fun w => check_yes (RD s) w hr) false (Lib.hid (by
              cases hq : ((layS (RD s)).toList == s.toList) with
              | false => rfl
              | true =>
                exfalso
                apply hl
                have := eq_of_beq hq
                rw [Lib.toList_data, Lib.toList_data] at this
                generalize layS (RD s) = L at this
                obtain ⟨⟨l⟩⟩ := s
                obtain ⟨⟨m⟩⟩ := L
                exact congrArg (fun l : List UInt8 => (⟨l.toArray⟩ : ByteArray)) this))
            simpa using this
          · have := regget_walk s w h96 (Lib.hid hz) false (Lib.hid fun w => check_no (RD s) w hr) ((layS (RD s)).toList == s.toList) (Lib.hid rfl)
            simpa using this
        · have := r11get_walk s w h96 (Lib.hid hz) false (Lib.hid ⟨(fun h => by cases h), (fun h => absurd h hg)⟩)
          simpa using this
  · exact ⟨R0, 6, Lib.hid (fun w => regget_len s w h96), Lib.hid (fun w => r11get_len s w h96), .inr rfl⟩
end Go.Proofs.Ytghnhflomeifmaa
