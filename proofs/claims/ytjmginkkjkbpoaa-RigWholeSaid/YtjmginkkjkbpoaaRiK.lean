/- Package rig (cellaret): what is to come, Crash, Down, Calls, Dev; a nil rig. -/
import Derived.Test.YtjmginkkjkbpoaaRiJ
namespace Go.Proofs.Ytjmginkkjkbpoaa
open Go.RowKit Go.Deep
set_option linter.unusedVariables false
set_option linter.unusedSimpArgs false
theorem RgP.mem (p : RgP) : p.R ∈ p.l := by unfold RgP.l; simp
def rsE (n : Int) : Int := if n < 1 ∨ 1099511627776 < n then 2 else 0
theorem rigStep_any (R : Nat) (n : Int) (w : World) : Calls Try.prog 51 #[.pointer (some ⟨R, 0, none⟩), .int .i64 n] w fun e w' => e = .returned (.int .i64 (rsE n)) ∧ w = w' := by
  unfold rsE
  by_cases h : n < 1
  · rw [if_pos (Or.inl h)]
    go_enter Try.func51, Try.ntmps51
    go_wp2_with fail
    go_ret
    exact ⟨rfl, rfl⟩
  · by_cases h2 : 1099511627776 < n
    · rw [if_pos (Or.inr h2)]
      go_enter Try.func51, Try.ntmps51
      go_wp2_with fail
      go_ret
      exact ⟨rfl, rfl⟩
    · rw [if_neg (fun q => q.elim h h2)]
      go_enter Try.func51, Try.ntmps51
      go_wp2_with fail
      go_ret
      exact ⟨rfl, rfl⟩
def RgS.arms (S : RgS) (n : Int) : RgS := if rsE n = 0 then { S with arm := IntKind.i64.wrap (S.calls + n) } else S
def RgS.faults (S : RgS) (n : Int) : RgS := if rsE n = 0 then { S with faulty := IntKind.i64.wrap (S.calls + n) } else S
theorem rigArm_any (B : Nat) (p : RgP) (S : RgS) (c0 c1 : Nat → Bk) (n : Int) (w : World) (hR : RgAt B w p S c0 c1) :
    Calls Try.prog 21 #[.pointer (some ⟨p.R, 0, none⟩), .int .i64 n] w fun e w' => e = .returned (.int .i64 (rsE n)) ∧ RgAt B w' p (S.arms n) c0 c1 ∧ Kq B p.l w w' := by
  have CI := Lib.hid (fun w => rigStep_any p.R n w)
  unfold RgS.arms
  by_cases h : rsE n = 0
  · rw [h] at CI ⊢
    rw [if_pos rfl]
    obtain ⟨c, hc⟩ : ∃ c, Hid (IntKind.i64.wrap (S.calls + n) = c) := ⟨_, Lib.hid rfl⟩
    rw [hc.out]
    have hc' := hc.out
    obtain ⟨-, -, -, -, q4, -, -, -, -, q9, -⟩ := hR.cells
    have f9 := hR.free 9
    have HR := Lib.hid hR
    clear hR h
    go_enter Try.func21, Try.ntmps21
    go_wp2_with fail
    refine (CI.out _).mono ?_
    rintro e w' ⟨rfl, rfl⟩
    go_wp2_with fail
    go_ret
    exact ⟨rfl, HR.out.set 9 _ rfl, HR.out.kset (Kq.refl _ _ _) 9 _⟩
  · rw [if_neg h]
    have h1 : (rsE n != 0) = true := by simpa using h
    have HR := Lib.hid hR
    clear hR h
    generalize rsE n = z at *
    go_enter Try.func21, Try.ntmps21
    go_wp2_with fail
    refine (CI.out _).mono ?_
    rintro e w' ⟨rfl, rfl⟩
    go_wp2_with fail
    go_ret
    exact ⟨rfl, HR.out, Kq.refl _ _ _⟩
theorem rigFault_any (B : Nat) (p : RgP) (S : RgS) (c0 c1 : Nat → Bk) (n : Int) (w : World) (hR : RgAt B w p S c0 c1) :
    Calls Try.prog 22 #[.pointer (some ⟨p.R, 0, none⟩), .int .i64 n] w fun e w' => e = .returned (.int .i64 (rsE n)) ∧ RgAt B w' p (S.faults n) c0 c1 ∧ Kq B p.l w w' := by
  have CI := Lib.hid (fun w => rigStep_any p.R n w)
  unfold RgS.faults
  by_cases h : rsE n = 0
  · rw [h] at CI ⊢
    rw [if_pos rfl]
    obtain ⟨c, hc⟩ : ∃ c, Hid (IntKind.i64.wrap (S.calls + n) = c) := ⟨_, Lib.hid rfl⟩
    rw [hc.out]
    have hc' := hc.out
    obtain ⟨-, -, -, -, q4, -, -, -, -, -, q10⟩ := hR.cells
    have f10 := hR.free 10
    have HR := Lib.hid hR
    clear hR h
    go_enter Try.func22, Try.ntmps22
    go_wp2_with fail
    refine (CI.out _).mono ?_
    rintro e w' ⟨rfl, rfl⟩
    go_wp2_with fail
    go_ret
    exact ⟨rfl, HR.out.set 10 _ rfl, HR.out.kset (Kq.refl _ _ _) 10 _⟩
  · rw [if_neg h]
    have h1 : (rsE n != 0) = true := by simpa using h
    have HR := Lib.hid hR
    clear hR h
    generalize rsE n = z at *
    go_enter Try.func22, Try.ntmps22
    go_wp2_with fail
    refine (CI.out _).mono ?_
    rintro e w' ⟨rfl, rfl⟩
    go_wp2_with fail
    go_ret
    exact ⟨rfl, HR.out, Kq.refl _ _ _⟩
def RgS.laters (S : RgS) (n d i : Int) (s : ByteArray) : RgS := if rsE n = 0 ∧ rtE d i s = 0 then { S with st := IntKind.i64.wrap (S.calls + n), d := d, i := i, s := s } else S
def ltE (n d i : Int) (s : ByteArray) : Int := if rsE n = 0 then rtE d i s else rsE n
set_option maxRecDepth 100000 in
set_option maxHeartbeats 1000000 in
theorem rigLater_any (B : Nat) (p : RgP) (S : RgS) (c0 c1 : Nat → Bk) (n d i : Int) (s : ByteArray) (w : World) (hR : RgAt B w p S c0 c1) :
    Calls Try.prog 20 #[.pointer (some ⟨p.R, 0, none⟩), .int .i64 n, .int .i64 d, .int .i64 i, .string s] w fun e w' => e = .returned (.int .i64 (ltE n d i s)) ∧ RgAt B w' p (S.laters n d i s) c0 c1 ∧ Kq B p.l w w' := by
  have CI := Lib.hid (fun w => rigStep_any p.R n w)
  have CT := Lib.hid (fun w => rigText_any p.R d i s w)
  unfold RgS.laters ltE
  by_cases h : rsE n = 0
  · rw [if_pos h]
    rw [h] at CI ⊢
    by_cases ht : rtE d i s = 0
    · rw [if_pos ⟨rfl, ht⟩, ht]
      rw [ht] at CT
      obtain ⟨c, hc⟩ : ∃ c, Hid (IntKind.i64.wrap (S.calls + n) = c) := ⟨_, Lib.hid rfl⟩
      rw [hc.out]
      have hc' := hc.out
      obtain ⟨-, -, -, -, q4, q5, q6, q7, q8, -⟩ := hR.cells
      have f5 := hR.free 5
      have f6 := hR.free 6
      have f7 := hR.free 7
      have f8 := hR.free 8
      have HR := Lib.hid hR
      have HTH : Hid (w.there p.R 5 4) := Lib.hid (fun j hj => ⟨by rcases (show j = 0 ∨ j = 1 ∨ j = 2 ∨ j = 3 by omega) with rfl | rfl | rfl | rfl <;> simp [q5, q6, q7, q8], HR.out.free _⟩)
      clear hR h ht
      go_enter Try.func20, Try.ntmps20
      go_wp2_with fail
      refine (CI.out _).mono ?_
      rintro e w' ⟨rfl, rfl⟩
      go_wp2_with fail
      refine (CT.out _).mono ?_
      rintro e w' ⟨rfl, rfl⟩
      go_wp2_with (refine wpList_store_mid rfl 53 _ _ rfl p.R 5 #[.int .i64 c, .int .i64 d, .int .i64 i, .string s] rfl rfl HTH.out (by kernel_rfl) (by rfl) ?_)
      go_ret
      exact ⟨rfl, (((HR.out.set (T := { S with st := c }) 5 _ rfl).set (T := { S with st := c, d := d }) 6 _ rfl).set (T := { S with st := c, d := d, i := i }) 7 _ rfl).set 8 _ rfl, ((((Kq.refl _ _ _).setCell 5 _ HR.out.ok.bR p.mem).setCell 6 _ HR.out.ok.bR p.mem).setCell 7 _ HR.out.ok.bR p.mem).setCell 8 _ HR.out.ok.bR p.mem⟩
    · rw [if_neg (fun q => ht q.2)]
      have h1 : (rtE d i s != 0) = true := by simpa using ht
      have HR := Lib.hid hR
      clear hR h ht
      generalize rtE d i s = z at *
      go_enter Try.func20, Try.ntmps20
      go_wp2_with fail
      refine (CI.out _).mono ?_
      rintro e w' ⟨rfl, rfl⟩
      go_wp2_with fail
      refine (CT.out _).mono ?_
      rintro e w' ⟨rfl, rfl⟩
      go_wp2_with fail
      go_ret
      exact ⟨rfl, HR.out, Kq.refl _ _ _⟩
  · rw [if_neg h, if_neg (fun q => h q.1)]
    have h1 : (rsE n != 0) = true := by simpa using h
    have HR := Lib.hid hR
    clear hR h
    generalize rsE n = z at *
    go_enter Try.func20, Try.ntmps20
    go_wp2_with fail
    refine (CI.out _).mono ?_
    rintro e w' ⟨rfl, rfl⟩
    go_wp2_with fail
    go_ret
    exact ⟨rfl, HR.out, Kq.refl _ _ _⟩
theorem rigDown_any (B : Nat) (p : RgP) (S : RgS) (c0 c1 : Nat → Bk) (w : World) (hR : RgAt B w p S c0 c1) :
    Calls Try.prog 23 #[.pointer (some ⟨p.R, 0, none⟩)] w fun e w' => e = .returned (.bool S.down) ∧ w = w' := by
  obtain ⟨-, -, -, q3, -⟩ := hR.cells
  clear hR
  go_enter Try.func23, Try.ntmps23
  go_wp2_with fail
  go_ret
  exact ⟨rfl, rfl⟩
theorem rigCalls_any (B : Nat) (p : RgP) (S : RgS) (c0 c1 : Nat → Bk) (w : World) (hR : RgAt B w p S c0 c1) :
    Calls Try.prog 24 #[.pointer (some ⟨p.R, 0, none⟩)] w fun e w' => e = .returned (.int .i64 S.calls) ∧ w = w' := by
  obtain ⟨-, -, -, -, q4, -⟩ := hR.cells
  clear hR
  go_enter Try.func24, Try.ntmps24
  go_wp2_with fail
  go_ret
  exact ⟨rfl, rfl⟩
def dvV (p : RgP) (d : Int) : Value := if d = 0 then .pointer (some ⟨p.g0, 0, none⟩) else if d = 1 then .pointer (some ⟨p.g1, 0, none⟩) else .pointer none
theorem rigDev_any (B : Nat) (p : RgP) (S : RgS) (c0 c1 : Nat → Bk) (d : Int) (w : World) (hR : RgAt B w p S c0 c1) :
    Calls Try.prog 16 #[.pointer (some ⟨p.R, 0, none⟩), .int .i64 d] w fun e w' => e = .returned (dvV p d) ∧ w = w' := by
  have CI := Lib.hid (fun w => rigRefused_any p.R d w)
  unfold dvV
  unfold rdE at CI
  obtain ⟨q0, q1, -⟩ := hR.cells
  clear hR
  by_cases h0 : d = 0
  · subst h0
    rw [if_pos (Or.inl rfl)] at CI
    rw [if_pos rfl]
    go_enter Try.func16, Try.ntmps16
    go_wp2_with fail
    refine (CI.out _).mono ?_
    rintro e w' ⟨rfl, rfl⟩
    go_wp2_with fail
    go_ret
    exact ⟨rfl, rfl⟩
  · by_cases h1 : d = 1
    · subst h1
      rw [if_pos (Or.inr rfl)] at CI
      rw [if_neg (by decide), if_pos rfl]
      go_enter Try.func16, Try.ntmps16
      go_wp2_with fail
      refine (CI.out _).mono ?_
      rintro e w' ⟨rfl, rfl⟩
      go_wp2_with fail
      go_ret
      exact ⟨rfl, rfl⟩
    · rw [if_neg (fun q => q.elim h0 h1)] at CI
      rw [if_neg h0, if_neg h1]
      go_enter Try.func16, Try.ntmps16
      go_wp2_with fail
      refine (CI.out _).mono ?_
      rintro e w' ⟨rfl, rfl⟩
      go_wp2_with fail
      go_ret
      exact ⟨rfl, rfl⟩
end Go.Proofs.Ytjmginkkjkbpoaa
