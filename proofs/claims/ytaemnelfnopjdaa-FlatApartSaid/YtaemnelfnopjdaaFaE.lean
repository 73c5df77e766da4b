/- Package flat: refused, whole, cut, Worlds, States, a nil model. -/
import Derived.Test.YtaemnelfnopjdaaFaC
namespace Go.Proofs.Ytaemnelfnopjdaa
open Go.RowKit Go.Deep Go.Maps
set_option linter.unusedVariables false
set_option linter.unusedSimpArgs false
/-- Why there are not so many blocks. -/
def refF (m : Nat) (a n : Int) : Int := if n < 1 then 2 else if a < 0 ∨ (m : Int) - n < a then 3 else 0
section
variable {w : World} {B g bm : Nat} {M : Fl} {vt vf vc : Value} {cm : List Ch} {D : DataW Unit}
set_option maxRecDepth 100000 in
set_option maxHeartbeats 4000000 in
theorem refusedF (a n : Int) (h : FlAt w B g M vt vf vc cm bm D) (hm : M.n ≤ 64) (hn : n ≤ 9223372036854775807) : Calls Try.prog 31 #[.pointer (some ⟨g, 0, none⟩), .int .i64 a, .int .i64 n] w fun e w' => e = .returned (.int .i64 (refF M.n a n)) ∧ w = w' := by
  have c0 : w.cell? ⟨g, 0, none⟩ = some (.int .i64 (M.n : Int)) := cell_of_row w g 0 _ _ _ h.hg
  generalize M.n = m at *
  clear h
  obtain ⟨r, hr⟩ : ∃ r, Hid (refF m a n = r) := ⟨_, Lib.hid rfl⟩
  rw [hr.out]
  have hr2 := hr.out
  unfold refF at hr2
  clear hr
  go_enter Try.func31, Try.ntmps31
  by_cases h1 : n < 1
  · rw [if_pos h1] at hr2
    subst hr2
    have h1' : decide (n < 1) = true := decide_eq_true h1
    go_wp2_with fail
    go_ret
    exact ⟨rfl, rfl⟩
  · rw [if_neg h1] at hr2
    have h1' : decide (n < 1) = false := decide_eq_false h1
    by_cases h2 : a < 0
    · rw [if_pos (Or.inl h2)] at hr2
      subst hr2
      have h2' : decide (a < 0) = true := decide_eq_true h2
      go_wp2_with fail
      go_ret
      exact ⟨rfl, rfl⟩
    · have h2' : decide (a < 0) = false := decide_eq_false h2
      by_cases h3 : (m : Int) - n < a
      · rw [if_pos (Or.inr h3)] at hr2
        subst hr2
        have h3' : decide ((m : Int) - n < a) = true := decide_eq_true h3
        go_wp2_with fail
        go_ret
        exact ⟨rfl, rfl⟩
      · rw [if_neg (by omega)] at hr2
        subst hr2
        have h3' : decide ((m : Int) - n < a) = false := decide_eq_false h3
        go_wp2_with fail
        go_ret
        exact ⟨rfl, rfl⟩
end
theorem refused_nil (a n : Int) (w : World) : Calls Try.prog 31 #[.pointer none, .int .i64 a, .int .i64 n] w fun e w' => e = .returned (.int .i64 1) ∧ w = w' := by
  go_enter Try.func31, Try.ntmps31
  go_wp2_with fail
  go_ret
  exact ⟨rfl, rfl⟩
def wholeN (n : Nat) : Nat := if n % 48 = 0 then n / 48 else 0
set_option maxRecDepth 100000 in
set_option maxHeartbeats 4000000 in
theorem whole_any (s : ByteArray) (w : World) (hs : s.size ≤ 1000000) : Calls Try.prog 32 #[.string s] w fun e w' => e = .returned (.int .i64 (wholeN s.size : Int)) ∧ w = w' := by
  obtain ⟨n, hn⟩ : ∃ n, s.size = n := ⟨_, rfl⟩
  obtain ⟨r, hr⟩ : ∃ r, wholeN n = r := ⟨_, rfl⟩
  rw [hn, hr]
  unfold wholeN at hr
  have htm : Int.tmod (n : Int) 48 = ((n % 48 : Nat) : Int) := by rw [Int.tmod_eq_emod_of_nonneg (by omega)]; omega
  have htd : Int.tdiv (n : Int) 48 = ((n / 48 : Nat) : Int) := by rw [Int.tdiv_eq_ediv_of_nonneg (by omega)]; omega
  go_enter Try.func32, Try.ntmps32
  by_cases h : n % 48 = 0
  · rw [if_pos h] at hr
    rw [h] at htm
    rw [hr] at htd
    have h0 : (n : Int) % 48 = 0 := by omega
    have hd : (n : Int) / 48 = (r : Int) := by omega
    have hb : (r : Int) ≤ 1000000 := by omega
    clear hr h
    go_wp2_with fail
    go_ret
    exact ⟨by first | rfl | simp, rfl⟩
  · rw [if_neg h] at hr
    subst hr
    have h0 : ((n : Int) % 48 == 0) = false := by simp; omega
    have h1 : ((n : Int) % 48 != 0) = true := by simp; omega
    go_wp2_with fail
    go_ret
    exact ⟨by first | rfl | simp, rfl⟩
end Go.Proofs.Ytaemnelfnopjdaa
