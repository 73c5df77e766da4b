/- Package rig (cellaret): what a step comes to; Read, Write. -/
import Derived.Test.YtjmginkkjkbpoaaRiF
namespace Go.Proofs.Ytjmginkkjkbpoaa
open Go.RowKit Go.Deep
set_option linter.unusedVariables false
set_option linter.unusedSimpArgs false
/-- A step's error, 0: its call is done. -/
def RgS.out (S : RgS) : Int := if S.down = true then 11 else if S.next = S.arm then 11 else if S.next = S.faulty then 10 else 0
def RgS.aft (S : RgS) : RgS := if S.down = true then S else if S.next = S.arm then S.gone else S.on
def RgS.c0 (S : RgS) (c : Nat → Bk) : Nat → Bk := if S.down = true then c else S.hit0 c
def RgS.c1 (S : RgS) (c : Nat → Bk) : Nat → Bk := if S.down = true then c else S.hit1 c
theorem StepP.two {B : Nat} {p : RgP} {S : RgS} {c0 c1 : Nat → Bk} {D : World → Int → World → Prop} {w w' : World} {e : Ending} (hR : RgAt B w p S c0 c1) (h : StepP B p S c0 c1 D w e w') :
    ∃ k : Int, e = .returned (.int .i64 k) ∧ ((S.out ≠ 0 ∧ k = S.out ∧ RgAt B w' p S.aft (S.c0 c0) (S.c1 c1) ∧ Kq B p.l w w') ∨ (S.out = 0 ∧ ∃ w2, RgAt B w2 p S.aft (S.c0 c0) (S.c1 c1) ∧ Kq B p.l w w2 ∧ D w2 k w')) := by
  obtain ⟨k, rfl, h | h | h | h⟩ := h
  · obtain ⟨h1, rfl, rfl⟩ := h
    refine ⟨_, rfl, Or.inl ⟨by unfold RgS.out; rw [if_pos h1]; decide, by unfold RgS.out; rw [if_pos h1], ?_, Kq.refl _ _ _⟩⟩
    unfold RgS.aft RgS.c0 RgS.c1
    rw [if_pos h1, if_pos h1, if_pos h1]
    exact hR
  · obtain ⟨h1, h2, rfl, h3, h4⟩ := h
    have hn : ¬ S.down = true := by rw [h1]; decide
    refine ⟨_, rfl, Or.inl ⟨by unfold RgS.out; rw [if_neg hn, if_pos h2]; decide, by unfold RgS.out; rw [if_neg hn, if_pos h2], ?_, h4⟩⟩
    unfold RgS.aft RgS.c0 RgS.c1
    rw [if_neg hn, if_neg hn, if_neg hn, if_pos h2]
    exact h3
  · obtain ⟨h1, h2, h5, rfl, h3, h4⟩ := h
    have hn : ¬ S.down = true := by rw [h1]; decide
    refine ⟨_, rfl, Or.inl ⟨by unfold RgS.out; rw [if_neg hn, if_neg h2, if_pos h5]; decide, by unfold RgS.out; rw [if_neg hn, if_neg h2, if_pos h5], ?_, h4⟩⟩
    unfold RgS.aft RgS.c0 RgS.c1
    rw [if_neg hn, if_neg hn, if_neg hn, if_neg h2]
    exact h3
  · obtain ⟨h1, h2, h5, w2, h3, h4, h6⟩ := h
    have hn : ¬ S.down = true := by rw [h1]; decide
    refine ⟨_, rfl, Or.inr ⟨by unfold RgS.out; rw [if_neg hn, if_neg h2, if_neg h5], w2, ?_, h4, h6⟩⟩
    unfold RgS.aft RgS.c0 RgS.c1
    rw [if_neg hn, if_neg hn, if_neg hn, if_neg h2]
    exact h3
/-- Why there is no such device, no such block; a block that becomes no such text. -/
def rdE (d : Int) : Int := if d = 0 ∨ d = 1 then 0 else 2
def rbE (d i : Int) : Int := if d = 0 ∨ d = 1 then (if i < 0 ∨ 288 ≤ i then 3 else 0) else 2
def rtE (d i : Int) (s : ByteArray) : Int := if d = 0 ∨ d = 1 then txE 288 i s else 2
theorem isDevice_any (d : Int) (w : World) : Calls Try.prog 65 #[.int .i64 d] w fun e w' => e = .returned (.bool (decide (d = 0 ∨ d = 1))) ∧ w = w' := by
  by_cases h0 : d = 0
  · subst h0
    go_enter Try.func65, Try.ntmps65
    go_wp2_with fail
    go_ret
    exact ⟨rfl, rfl⟩
  · have e0 : (d == 0) = false := beq_eq_false_iff_ne.2 h0
    by_cases h1 : d = 1
    · subst h1
      go_enter Try.func65, Try.ntmps65
      go_wp2_with fail
      go_ret
      exact ⟨rfl, rfl⟩
    · have e1 : (d == 1) = false := beq_eq_false_iff_ne.2 h1
      rw [show decide (d = 0 ∨ d = 1) = false from by simp [h0, h1]]
      clear h0 h1
      go_enter Try.func65, Try.ntmps65
      go_wp2_with fail
      go_ret
      exact ⟨rfl, rfl⟩
theorem rigRefused_any (R : Nat) (d : Int) (w : World) : Calls Try.prog 45 #[.pointer (some ⟨R, 0, none⟩), .int .i64 d] w fun e w' => e = .returned (.int .i64 (rdE d)) ∧ w = w' := by
  have CI := Lib.hid (fun w => isDevice_any d w)
  unfold rdE
  by_cases h : d = 0 ∨ d = 1
  · rw [if_pos h]
    rw [decide_eq_true h] at CI
    clear h
    go_enter Try.func45, Try.ntmps45
    go_wp2_with fail
    refine (CI.out _).mono ?_
    rintro e w' ⟨rfl, rfl⟩
    go_wp2_with fail
    go_ret
    exact ⟨rfl, rfl⟩
  · rw [if_neg h]
    rw [decide_eq_false h] at CI
    clear h
    go_enter Try.func45, Try.ntmps45
    go_wp2_with fail
    refine (CI.out _).mono ?_
    rintro e w' ⟨rfl, rfl⟩
    go_wp2_with fail
    go_ret
    exact ⟨rfl, rfl⟩
theorem rigBlock_any (R : Nat) (d i : Int) (w : World) : Calls Try.prog 42 #[.pointer (some ⟨R, 0, none⟩), .int .i64 d, .int .i64 i] w fun e w' => e = .returned (.int .i64 (rbE d i)) ∧ w = w' := by
  have CI := Lib.hid (fun w => rigRefused_any R d w)
  unfold rbE
  unfold rdE at CI
  by_cases h : d = 0 ∨ d = 1
  · rw [if_pos h]
    rw [if_pos h] at CI
    clear h
    by_cases hi : i < 0
    · rw [if_pos (Or.inl hi)]
      go_enter Try.func42, Try.ntmps42
      go_wp2_with fail
      refine (CI.out _).mono ?_
      rintro e w' ⟨rfl, rfl⟩
      go_wp2_with fail
      go_ret
      exact ⟨rfl, rfl⟩
    · by_cases hi2 : 288 ≤ i
      · rw [if_pos (Or.inr hi2)]
        go_enter Try.func42, Try.ntmps42
        go_wp2_with fail
        refine (CI.out _).mono ?_
        rintro e w' ⟨rfl, rfl⟩
        go_wp2_with fail
        go_ret
        exact ⟨rfl, rfl⟩
      · rw [if_neg (fun h => h.elim hi hi2)]
        go_enter Try.func42, Try.ntmps42
        go_wp2_with fail
        refine (CI.out _).mono ?_
        rintro e w' ⟨rfl, rfl⟩
        go_wp2_with fail
        go_ret
        exact ⟨rfl, rfl⟩
  · rw [if_neg h]
    rw [if_neg h] at CI
    clear h
    go_enter Try.func42, Try.ntmps42
    go_wp2_with fail
    refine (CI.out _).mono ?_
    rintro e w' ⟨rfl, rfl⟩
    go_wp2_with fail
    go_ret
    exact ⟨rfl, rfl⟩
theorem rigText_any (R : Nat) (d i : Int) (s : ByteArray) (w : World) : Calls Try.prog 46 #[.pointer (some ⟨R, 0, none⟩), .int .i64 d, .int .i64 i, .string s] w fun e w' => e = .returned (.int .i64 (rtE d i s)) ∧ w = w' := by
  have CI := Lib.hid (fun w => rigBlock_any R d i w)
  by_cases h : d = 0 ∨ d = 1
  · by_cases hi : i < 0 ∨ 288 ≤ i
    · rw [show rtE d i s = 3 by unfold rtE; rw [if_pos h]; exact txE_out hi]
      rw [show rbE d i = 3 by unfold rbE; rw [if_pos h, if_pos hi]] at CI
      clear h hi
      go_enter Try.func46, Try.ntmps46
      go_wp2_with fail
      refine (CI.out _).mono ?_
      rintro e w' ⟨rfl, rfl⟩
      go_wp2_with fail
      go_ret
      exact ⟨rfl, rfl⟩
    · rw [show rbE d i = 0 by unfold rbE; rw [if_pos h, if_neg hi]] at CI
      by_cases hs : s.size = 64
      · rw [show rtE d i s = 0 by unfold rtE txE; rw [if_pos h, if_neg (show ¬ (i < 0 ∨ ((288 : Nat) : Int) ≤ i) from hi), if_pos hs]]
        have ht2 : ((s.size : Int) != 64) = false := by simp; omega
        clear h hi hs
        go_enter Try.func46, Try.ntmps46
        go_wp2_with fail
        refine (CI.out _).mono ?_
        rintro e w' ⟨rfl, rfl⟩
        go_wp2_with fail
        go_ret
        exact ⟨rfl, rfl⟩
      · rw [show rtE d i s = 6 by unfold rtE txE; rw [if_pos h, if_neg (show ¬ (i < 0 ∨ ((288 : Nat) : Int) ≤ i) from hi), if_neg hs]]
        have ht2 : ((s.size : Int) != 64) = true := by simp; omega
        clear h hi hs
        go_enter Try.func46, Try.ntmps46
        go_wp2_with fail
        refine (CI.out _).mono ?_
        rintro e w' ⟨rfl, rfl⟩
        go_wp2_with fail
        go_ret
        exact ⟨rfl, rfl⟩
  · rw [show rtE d i s = 2 by unfold rtE; rw [if_neg h]]
    rw [show rbE d i = 2 by unfold rbE; rw [if_neg h]] at CI
    clear h
    go_enter Try.func46, Try.ntmps46
    go_wp2_with fail
    refine (CI.out _).mono ?_
    rintro e w' ⟨rfl, rfl⟩
    go_wp2_with fail
    go_ret
    exact ⟨rfl, rfl⟩
set_option maxRecDepth 100000 in
theorem read1_any (g r i x5 x9 x10 : Nat) (bs : Nat → Bk) (v : Value) (w : World) (hD : DvAt w g r 288 bs) (hi : i < 288) (h10 : w.cell? ⟨x10, 0, none⟩ = some (.func (.func 43) #[.pointer (some ⟨g, 0, none⟩)] #[])) (h5 : w.cell? ⟨x5, 0, none⟩ = some (.int .i64 (i : Int))) (h9 : w.cell? ⟨x9, 0, none⟩ = some v) (f9 : w.frozen? ⟨x9, 0, none⟩ = false) :
    Calls Try.prog 44 #[.pointer (some ⟨x10, 0, none⟩), .pointer (some ⟨x5, 0, none⟩), .pointer (some ⟨x9, 0, none⟩)] w fun e w' => e = .returned (.int .i64 0) ∧ w.setCell ⟨x9, 0, none⟩ (.string (bs i).now) = w' := by
  have CR := Lib.hid (read_okD g r 288 i bs w hD hi)
  clear hD
  generalize (bs i).now = s at *
  go_enter Try.func44, Try.ntmps44
  go_wp2_with fail
  refine (CR.out).mono ?_
  rintro e w' ⟨rfl, rfl⟩
  go_wp2_with fail
  go_ret
  exact ⟨rfl, rfl⟩
theorem read1_enter (args : Array Value) (w : World) : (callFunc 44 args).run Try.prog w = .ok (.enter 44 args) w := by go_simp
end Go.Proofs.Ytjmginkkjkbpoaa
