/- Package smq: a policy. -/
import Derived.Test.YtfkepplpeakgmaaLvY
import Derived.Test.YtfkepplpeakgmaaPhJ
namespace Go.Proofs.Ytfkepplpeakgmaa
open Go.RowKit Go.Deep
set_option linter.unusedVariables false
set_option linter.unusedSimpArgs false
def poC (h e : Nat) (C : Nat → Int) (U : Nat → Bool) (k : Nat) (j : Nat) : Value := if j = 0 then .pointer (some ⟨h, 0, none⟩) else if j = 1 then .pointer (some ⟨e, 0, none⟩) else if j < 66 then .int .i64 (C (j - 2)) else if j < 74 then .bool (U (j - 66)) else .int .i64 (k : Int)
theorem poC_C (h e : Nat) (C : Nat → Int) (U : Nat → Bool) (k j : Nat) (hj : j < 64) : poC h e C U k (2 + j) = .int .i64 (C j) := by
  unfold poC
  rw [if_neg (by omega), if_neg (by omega), if_pos (by omega), show 2 + j - 2 = j by omega]
theorem poC_U (h e : Nat) (C : Nat → Int) (U : Nat → Bool) (k j : Nat) (hj : j < 8) : poC h e C U k (66 + j) = .bool (U j) := by
  unfold poC
  rw [if_neg (by omega), if_neg (by omega), if_neg (by omega), if_pos (by omega), show 66 + j - 66 = j by omega]
def sU (U : Nat → Bool) (i : Nat) (b : Bool) : Nat → Bool := fun j => if j = i then b else U j
theorem poC_setC (h e : Nat) (C : Nat → Int) (U : Nat → Bool) (k i : Nat) (x : Int) (hi : i < 64) (j : Nat) : (if j = 2 + i then .int .i64 x else poC h e C U k j) = poC h e (su C i x) U k j := by
  unfold poC su
  by_cases q : j = 2 + i
  · subst q
    rw [if_pos rfl, if_neg (by omega), if_neg (by omega), if_pos (by omega), if_pos (by omega)]
  · rw [if_neg q]
    by_cases q0 : j = 0
    · rw [if_pos q0, if_pos q0]
    · rw [if_neg q0, if_neg q0]
      by_cases q1 : j = 1
      · rw [if_pos q1, if_pos q1]
      · rw [if_neg q1, if_neg q1, if_neg (show ¬ j - 2 = i by omega)]
theorem poC_setU (h e : Nat) (C : Nat → Int) (U : Nat → Bool) (k i : Nat) (b : Bool) (hi : i < 8) (j : Nat) : (if j = 66 + i then .bool b else poC h e C U k j) = poC h e C (sU U i b) k j := by
  unfold poC sU
  by_cases q : j = 66 + i
  · subst q
    rw [if_pos rfl, if_neg (by omega), if_neg (by omega), if_neg (by omega), if_pos (by omega), if_pos (by omega)]
  · rw [if_neg q]
    by_cases q0 : j < 66
    · rw [if_pos q0, if_pos q0]
    · rw [if_neg q0, if_neg q0, if_neg (show ¬ j - 66 = i by omega)]
theorem poC_setK (h e : Nat) (C : Nat → Int) (U : Nat → Bool) (k m : Nat) (j : Nat) (hj : j < 75) : (if j = 74 then .int .i64 (m : Int) else poC h e C U k j) = poC h e C U m j := by
  unfold poC
  by_cases q : j = 74
  · subst q; rfl
  · rw [if_neg q, if_pos (show j < 74 by omega), if_pos (show j < 74 by omega)]
theorem QR.lt {w : World} {g n : Nat} {R : Nat → List Nat} (h : QR w g n R) : g < w.heap.size := by
  obtain ⟨F, hQ, _⟩ := h
  exact World.rowIs.lt hQ
theorem QR.block {w w' : World} {g n : Nat} {R : Nat → List Nat} (h : QR w g n R) (e : w'.heap[g]? = w.heap[g]?) : QR w' g n R := by
  obtain ⟨F, hQ, hO⟩ := h
  exact ⟨F, World.rowIs.of_block hQ e, hO⟩
/-- A policy in block p, its queues in h and e. -/
structure PoAt (w : World) (B p h e : Nat) (R S : Nat → List Nat) (C : Nat → Int) (U : Nat → Bool) (k : Nat) : Prop where
  row : w.rowIs p 52 75 (poC h e C U k)
  hot : QR w h 16 R
  held : QR w e 8 S
  ph : p ≠ h
  pe : p ≠ e
  he : h ≠ e
  bp : B ≤ p
  bh : B ≤ h
  be : B ≤ e
  cn : ∀ j, j < 64 → 0 ≤ C j ∧ C j ≤ 1048576
section
variable {w w' : World} {B p h e k : Nat} {R S : Nat → List Nat} {C : Nat → Int} {U : Nat → Bool}
theorem PoAt.lt (q : PoAt w B p h e R S C U k) : p < w.heap.size := World.rowIs.lt q.row
theorem PoAt.below (q : PoAt w B p h e R S C U k) (b : Below w.heap.size w w') : PoAt w' B p h e R S C U k :=
  { q with row := World.rowIs.of_block q.row (b.block p q.lt), hot := q.hot.below b, held := q.held.below b }
theorem PoAt.hotq (q : PoAt w B p h e R S C U k) {R' : Nat → List Nat} (r : QR w' h 16 R') (kq : Kq B [h] w w') : PoAt w' B p h e R' S C U k :=
  { q with row := World.rowIs.of_block q.row (kq.other p q.lt (by simpa using q.ph)), hot := r, held := q.held.block (kq.other e q.held.lt (by simpa using q.he.symm)) }
theorem PoAt.heldq (q : PoAt w B p h e R S C U k) {S' : Nat → List Nat} (r : QR w' e 8 S') (kq : Kq B [e] w w') : PoAt w' B p h e R S' C U k :=
  { q with row := World.rowIs.of_block q.row (kq.other p q.lt (by simpa using q.pe)), hot := q.hot.block (kq.other h q.hot.lt (by simpa using q.he)), held := r }
theorem PoAt.kq {L : List Nat} (q : PoAt w B p h e R S C U k) {A : Nat} (kq : Kq A L w w') (h1 : p ∉ L) (h2 : h ∉ L) (h3 : e ∉ L) : PoAt w' B p h e R S C U k :=
  { q with row := World.rowIs.of_block q.row (kq.other p q.lt h1), hot := q.hot.block (kq.other h q.hot.lt h2), held := q.held.block (kq.other e q.held.lt h3) }
theorem PoAt.c0 (q : PoAt w B p h e R S C U k) : w.cell? ⟨p, 0, none⟩ = some (.pointer (some ⟨h, 0, none⟩)) := q.row.cell (i := 0) (by omega)
theorem PoAt.c1 (q : PoAt w B p h e R S C U k) : w.cell? ⟨p, 1, none⟩ = some (.pointer (some ⟨e, 0, none⟩)) := q.row.cell (i := 1) (by omega)
theorem PoAt.cC (q : PoAt w B p h e R S C U k) {j : Nat} (hj : j < 64) : w.cell? ⟨p, 2 + j, none⟩ = some (.int .i64 (C j)) := by rw [q.row.cell (i := 2 + j) (by omega), poC_C _ _ _ _ _ _ hj]
theorem PoAt.cU (q : PoAt w B p h e R S C U k) {j : Nat} (hj : j < 8) : w.cell? ⟨p, 66 + j, none⟩ = some (.bool (U j)) := by rw [q.row.cell (i := 66 + j) (by omega), poC_U _ _ _ _ _ _ hj]
theorem PoAt.ck (q : PoAt w B p h e R S C U k) : w.cell? ⟨p, 74, none⟩ = some (.int .i64 (k : Int)) := q.row.cell (i := 74) (by omega)
theorem PoAt.free (q : PoAt w B p h e R S C U k) (j : Nat) : w.frozen? ⟨p, j, none⟩ = false := World.rowIs.frozen q.row j
theorem PoAt.setC (q : PoAt w B p h e R S C U k) {i : Nat} (hi : i < 64) (x : Int) (h0 : 0 ≤ x) (h1 : x ≤ 1048576) : PoAt (w.setCell ⟨p, 2 + i, none⟩ (.int .i64 x)) B p h e R S (su C i x) U k :=
  { q with
    row := (World.rowIs.set q.row (2 + i) (.int .i64 x)).congr (fun j _ => poC_setC h e C U k i x hi j)
    hot := q.hot.block (Below.heap_setCell w ⟨p, 2 + i, none⟩ _ h q.ph.symm)
    held := q.held.block (Below.heap_setCell w ⟨p, 2 + i, none⟩ _ e q.pe.symm)
    cn := fun j hj => by
      unfold su
      split
      · exact ⟨h0, h1⟩
      · exact q.cn j hj }
theorem PoAt.setU (q : PoAt w B p h e R S C U k) {i : Nat} (hi : i < 8) (b : Bool) : PoAt (w.setCell ⟨p, 66 + i, none⟩ (.bool b)) B p h e R S C (sU U i b) k :=
  { q with
    row := (World.rowIs.set q.row (66 + i) (.bool b)).congr (fun j _ => poC_setU h e C U k i b hi j)
    hot := q.hot.block (Below.heap_setCell w ⟨p, 66 + i, none⟩ _ h q.ph.symm)
    held := q.held.block (Below.heap_setCell w ⟨p, 66 + i, none⟩ _ e q.pe.symm) }
theorem PoAt.setK (q : PoAt w B p h e R S C U k) (m : Nat) : PoAt (w.setCell ⟨p, 74, none⟩ (.int .i64 (m : Int))) B p h e R S C U m :=
  { q with
    row := (World.rowIs.set q.row 74 (.int .i64 (m : Int))).congr (fun j hj => poC_setK h e C U k m j hj)
    hot := q.hot.block (Below.heap_setCell w ⟨p, 74, none⟩ _ h q.ph.symm)
    held := q.held.block (Below.heap_setCell w ⟨p, 74, none⟩ _ e q.pe.symm) }
end
/-- What Level tells. -/
def lvV (R : Nat → List Nat) (n : Nat) (i : Int) : Value := if misA R n i = 0 then .tuple #[.int .i64 (lvl R i.toNat), .bool true] else .tuple #[.int .i64 0, .bool false]
section
variable {w : World} {B p h e k : Nat} {R S : Nat → List Nat} {C : Nat → Int} {U : Nat → Bool}
set_option maxRecDepth 100000 in
set_option maxHeartbeats 2000000 in
theorem heat_any (i : Int) (q : PoAt w B p h e R S C U k) : Calls Try.prog 18 #[.pointer (some ⟨p, 0, none⟩), .int .i64 i] w fun x w' => x = .returned (lvV R 16 i) ∧ w = w' := by
  have CL := level_any h 16 R i w q.hot
  have c0 := q.c0
  unfold lvV
  by_cases hm : misA R 16 i = 0
  · rw [if_pos hm] at CL ⊢
    have CL := Lib.hid CL
    clear hm
    go_enter Try.func18, Try.ntmps18
    go_wp2_with fail
    refine CL.out.mono ?_
    rintro x w' ⟨rfl, rfl⟩
    go_wp2_with fail
    go_ret2
    exact ⟨rfl, rfl⟩
  · rw [if_neg hm] at CL ⊢
    have CL := Lib.hid CL
    clear hm
    go_enter Try.func18, Try.ntmps18
    go_wp2_with fail
    refine CL.out.mono ?_
    rintro x w' ⟨rfl, rfl⟩
    go_wp2_with fail
    go_ret2
    exact ⟨rfl, rfl⟩
set_option maxRecDepth 100000 in
set_option maxHeartbeats 2000000 in
theorem warmth_any (i : Int) (q : PoAt w B p h e R S C U k) : Calls Try.prog 26 #[.pointer (some ⟨p, 0, none⟩), .int .i64 i] w fun x w' => x = .returned (lvV S 8 i) ∧ w = w' := by
  have CL := level_any e 8 S i w q.held
  have c1 := q.c1
  unfold lvV
  by_cases hm : misA S 8 i = 0
  · rw [if_pos hm] at CL ⊢
    have CL := Lib.hid CL
    clear hm
    go_enter Try.func26, Try.ntmps26
    go_wp2_with fail
    refine CL.out.mono ?_
    rintro x w' ⟨rfl, rfl⟩
    go_wp2_with fail
    go_ret2
    exact ⟨rfl, rfl⟩
  · rw [if_neg hm] at CL ⊢
    have CL := Lib.hid CL
    clear hm
    go_enter Try.func26, Try.ntmps26
    go_wp2_with fail
    refine CL.out.mono ?_
    rintro x w' ⟨rfl, rfl⟩
    go_wp2_with fail
    go_ret2
    exact ⟨rfl, rfl⟩
set_option maxRecDepth 100000 in
set_option maxHeartbeats 2000000 in
theorem clock_any (q : PoAt w B p h e R S C U k) : Calls Try.prog 21 #[.pointer (some ⟨p, 0, none⟩)] w fun x w' => x = .returned (.int .i64 (k : Int)) ∧ w = w' := by
  have ck := q.ck
  go_enter Try.func21, Try.ntmps21
  go_wp2_with fail
  go_ret
  exact ⟨rfl, rfl⟩
theorem Kq.wider {B : Nat} {L M : List Nat} {w w' : World} (h : Kq B L w w') (hs : ∀ x, x ∈ L → x ∈ M) : Kq B M w w' := ⟨h.below, fun k hk hn => h.other k hk (fun hm => hn (hs k hm))⟩
set_option maxRecDepth 100000 in
set_option maxHeartbeats 2000000 in
theorem enter_any (i : Int) (q : PoAt w B p h e R S C U k) : Calls Try.prog 36 #[.pointer (some ⟨p, 0, none⟩), .int .i64 i] w fun x w' => x = .returned (.int .i64 (addA S 8 i 1)) ∧ PoAt w' B p h e R (if addA S 8 i 1 = 0 then put S i.toNat 1 else S) C U k ∧ Kq B [p, h, e] w w' := by
  have CL := Lib.hid (add_any B e 8 S i 1 w q.held q.be)
  have c1 := q.c1
  have HQ := Lib.hid q
  obtain ⟨S', hS⟩ : ∃ S', Hid ((if addA S 8 i 1 = 0 then put S i.toNat (1 : Int).toNat else S) = S') := ⟨_, Lib.hid rfl⟩
  rw [hS.out] at CL
  rw [show (if addA S 8 i 1 = 0 then put S i.toNat 1 else S) = S' from hS.out]
  clear q
  go_enter Try.func36, Try.ntmps36
  go_wp2_with fail
  refine CL.out.mono ?_
  rintro x w' ⟨rfl, r, kq⟩
  have HR := Lib.hid r
  have HK := Lib.hid kq
  clear r kq CL
  go_wp2_with fail
  go_ret
  exact ⟨rfl, HQ.out.heldq HR.out HK.out, HK.out.wider (by simp)⟩
end
end Go.Proofs.Ytfkepplpeakgmaa

/- Package smq: Leave, Use, Hit. -/
namespace Go.Proofs.Ytfkepplpeakgmaa
open Go.RowKit Go.Deep
set_option linter.unusedVariables false
set_option linter.unusedSimpArgs false
theorem misA_zero {R : Nat → List Nat} {n : Nat} {i : Int} (h : misA R n i = 0) : ∃ j : Nat, i = (j : Int) ∧ j < n ∧ lvl R j ≠ -1 := by
  unfold misA at h
  by_cases h1 : i < 0 ∨ (n : Int) ≤ i
  · rw [if_pos h1] at h; exact absurd h (by decide)
  · rw [if_neg h1] at h
    by_cases h2 : lvl R i.toNat = -1
    · rw [if_pos h2] at h; exact absurd h (by decide)
    · exact ⟨i.toNat, by omega, by omega, h2⟩
theorem misA_cases (R : Nat → List Nat) (n : Nat) (i : Int) : misA R n i = 0 ∨ misA R n i = 3 ∨ misA R n i = 7 := by
  unfold misA
  split
  · exact Or.inr (Or.inl rfl)
  · split
    · exact Or.inr (Or.inr rfl)
    · exact Or.inl rfl
section
variable {w : World} {B p h e k : Nat} {R S : Nat → List Nat} {C : Nat → Int} {U : Nat → Bool}
def leaS (S : Nat → List Nat) (i : Int) : Nat → List Nat := if misA S 8 i = 0 then rem S i.toNat else S
def useS (S : Nat → List Nat) (i : Int) : Nat → List Nat := if misA S 8 i = 0 then movA S i.toNat 0 else S
def setB (S : Nat → List Nat) (U : Nat → Bool) (i : Int) (b : Bool) : Nat → Bool := if misA S 8 i = 0 then sU U i.toNat b else U
set_option maxRecDepth 100000 in
set_option maxHeartbeats 4000000 in
theorem leave_any (i : Int) (q : PoAt w B p h e R S C U k) : Calls Try.prog 38 #[.pointer (some ⟨p, 0, none⟩), .int .i64 i] w fun x w' => x = .returned (.int .i64 (misA S 8 i)) ∧ PoAt w' B p h e R (leaS S i) C (setB S U i false) k ∧ Kq B [p, h, e] w w' := by
  have CL := remove_any B e 8 S i w q.held q.be
  have c1 := q.c1
  have HQ := Lib.hid q
  have hbp := q.bp
  clear q
  unfold leaS setB
  rcases misA_cases S 8 i with hm | hm
  · obtain ⟨j, rfl, hj, _⟩ := misA_zero hm
    rw [hm] at CL ⊢
    rw [if_pos rfl] at CL ⊢
    rw [if_pos rfl]
    have CL := Lib.hid CL
    have hj8 : (j : Int) < 8 := by omega
    clear hm
    go_enter Try.func38, Try.ntmps38
    go_wp2_with fail
    refine CL.out.mono ?_
    rintro x w' ⟨rfl, r, kq⟩
    have HP := Lib.hid (HQ.out.heldq r kq)
    have HK := Lib.hid (kq.wider (M := [p, h, e]) (by simp))
    have cu := HP.out.cU hj
    have fu := HP.out.free (66 + j)
    clear r kq CL
    go_wp2_with fail
    go_ret
    refine ⟨rfl, ?_, HK.out.setCell (66 + j) _ hbp (by simp)⟩
    rw [Int.toNat_natCast]
    exact HP.out.setU hj false
  · have hne : misA S 8 i ≠ 0 := by omega
    rw [if_neg hne] at CL ⊢
    rw [if_neg hne]
    obtain ⟨m, hm2⟩ : ∃ m, misA S 8 i = m := ⟨_, rfl⟩
    rw [hm2] at CL hne ⊢
    have CL := Lib.hid CL
    have hmf : (m == 0) = false := by simpa using hne
    clear hm hm2
    go_enter Try.func38, Try.ntmps38
    go_wp2_with fail
    refine CL.out.mono ?_
    rintro x w' ⟨rfl, r, kq⟩
    have HP := Lib.hid (HQ.out.heldq r kq)
    have HK := Lib.hid (kq.wider (M := [p, h, e]) (by simp))
    clear r kq CL
    go_wp2_with fail
    go_ret
    exact ⟨rfl, HP.out, HK.out⟩
set_option maxRecDepth 100000 in
set_option maxHeartbeats 4000000 in
theorem use_any (i : Int) (q : PoAt w B p h e R S C U k) : Calls Try.prog 39 #[.pointer (some ⟨p, 0, none⟩), .int .i64 i] w fun x w' => x = .returned (.int .i64 (misA S 8 i)) ∧ PoAt w' B p h e R (useS S i) C (setB S U i true) k ∧ Kq B [p, h, e] w w' := by
  have CL := touch_any B e 8 S i w q.held q.be
  have c1 := q.c1
  have HQ := Lib.hid q
  have hbp := q.bp
  clear q
  unfold useS setB
  rcases misA_cases S 8 i with hm | hm
  · obtain ⟨j, rfl, hj, _⟩ := misA_zero hm
    rw [hm] at CL ⊢
    rw [if_pos rfl] at CL ⊢
    rw [if_pos rfl]
    have CL := Lib.hid CL
    have hj8 : (j : Int) < 8 := by omega
    clear hm
    go_enter Try.func39, Try.ntmps39
    go_wp2_with fail
    refine CL.out.mono ?_
    rintro x w' ⟨rfl, r, kq⟩
    have HP := Lib.hid (HQ.out.heldq r kq)
    have HK := Lib.hid (kq.wider (M := [p, h, e]) (by simp))
    have cu := HP.out.cU hj
    have fu := HP.out.free (66 + j)
    clear r kq CL
    go_wp2_with fail
    go_ret
    refine ⟨rfl, ?_, HK.out.setCell (66 + j) _ hbp (by simp)⟩
    rw [Int.toNat_natCast]
    exact HP.out.setU hj true
  · have hne : misA S 8 i ≠ 0 := by omega
    rw [if_neg hne] at CL ⊢
    rw [if_neg hne]
    obtain ⟨m, hm2⟩ : ∃ m, misA S 8 i = m := ⟨_, rfl⟩
    rw [hm2] at CL hne ⊢
    have CL := Lib.hid CL
    have hmf : (m == 0) = false := by simpa using hne
    clear hm hm2
    go_enter Try.func39, Try.ntmps39
    go_wp2_with fail
    refine CL.out.mono ?_
    rintro x w' ⟨rfl, r, kq⟩
    have HP := Lib.hid (HQ.out.heldq r kq)
    have HK := Lib.hid (kq.wider (M := [p, h, e]) (by simp))
    clear r kq CL
    go_wp2_with fail
    go_ret
    exact ⟨rfl, HP.out, HK.out⟩
end
end Go.Proofs.Ytfkepplpeakgmaa

/- Package smq: Hit. -/
namespace Go.Proofs.Ytfkepplpeakgmaa
open Go.RowKit Go.Deep
set_option linter.unusedVariables false
set_option linter.unusedSimpArgs false
def hitC (C : Nat → Int) (k j : Nat) : Nat → Int := su C (4 * j + k % 4) (if C (4 * j + k % 4) < 1048576 then C (4 * j + k % 4) + 1 else 1048576)
def hitR (R : Nat → List Nat) (j : Nat) : Nat → List Nat := if lvl R j = -1 then put R j 0 else movA R j 0
section
variable {w : World} {B p ho e k : Nat} {R S : Nat → List Nat} {C : Nat → Int} {U : Nat → Bool}
set_option maxRecDepth 100000 in
set_option maxHeartbeats 4000000 in
theorem hit_no (i : Int) (q : PoAt w B p ho e R S C U k) (hi : i < 0 ∨ 16 ≤ i) : Calls Try.prog 20 #[.pointer (some ⟨p, 0, none⟩), .int .i64 i] w fun x w' => x = .returned (.int .i64 3) ∧ w = w' := by
  clear q
  rcases (show i < 0 ∨ (¬ i < 0 ∧ 16 ≤ i) by omega) with h1 | ⟨h1, h2⟩
  all_goals
    clear hi
    go_enter Try.func20, Try.ntmps20
    go_wp2_with fail
    go_ret
    exact ⟨rfl, rfl⟩
set_option maxRecDepth 100000 in
set_option maxHeartbeats 8000000 in
theorem hit_any (j : Nat) (q : PoAt w B p ho e R S C U k) (hj : j < 16) : Calls Try.prog 20 #[.pointer (some ⟨p, 0, none⟩), .int .i64 (j : Int)] w fun x w' => x = .returned (.int .i64 0) ∧ PoAt w' B p ho e (hitR R j) S (hitC C k j) U k ∧ Kq B [p, ho, e] w w' := by
  have hji : (j : Int) < 16 := by omega
  have hj0 : ¬ (16 : Int) ≤ (j : Int) := by omega
  obtain ⟨r, hr⟩ : ∃ r, k % 4 = r := ⟨_, rfl⟩
  have hr4 : r < 4 := by omega
  have hri : (r : Int) < 4 := by omega
  have a1 : (k : Int).tmod 4 = (r : Int) := by rw [Int.tmod_eq_emod_of_nonneg (by omega)]; omega
  have a1' : (k : Int) % 4 = (r : Int) := by omega
  have z1 : IntKind.i64.wrap (r : Int) = r := IntWalk.i64_in _ (by omega)
  have ck := q.ck
  have hbp := q.bp
  have HQ1 : Hid (PoAt w.drew B p ho e R S C U k) := Lib.hid (q.below (Below.refl _ _).drew)
  have HK1 : Hid (Kq B [p, ho, e] w w.drew) := Lib.hid (Kq.refl _ _ _).drew
  obtain ⟨C', hC'⟩ : ∃ C', Hid (hitC C k j = C') := ⟨_, Lib.hid rfl⟩
  obtain ⟨R', hR'⟩ : ∃ R', Hid (hitR R j = R') := ⟨_, Lib.hid rfl⟩
  rw [hC'.out, hR'.out]
  have hd := q.cn (4 * j + r) (by omega)
  have HD : Hid (C' = su C (4 * j + r) (if C (4 * j + r) < 1048576 then C (4 * j + r) + 1 else 1048576)) := Lib.hid (by rw [← hC'.out]; unfold hitC; rw [hr])
  clear q hC' hr
  go_enter Try.func20, Try.ntmps20
  go_upto_region 5 with fail
  refine wp_region_lin (S := (fun w' => w'.cell? ⟨p, 74, none⟩ = some (.int .i64 (k : Int)))) [(0, true), (1, true), (2, true), (3, true), (4, true), (5, true), (6, true), (7, true), (8, true), (9, true), (10, true), (11, true)] (by kernel_rfl) (by kernel_rfl) rfl (by kernel_rfl) ?_ (fun hHeld => ?_)
  · (try dsimp only); exact ck
  clear ck
  generalize World.drew w = w1 at hHeld HQ1 HK1 ⊢
  refine wpL_calm (o := { dst := some 15, op := Go.Op.move (Go.Operand.tmp 0), type := 23, pos := "smq.go:47", after := #[], guard := none }) (v := ?_) rfl (Or.inl ⟨by rfl, ?_⟩) ?_; rotate_left; (focus (intro w hSw; (try dsimp only at hSw); go_simp; (try (with_reducible rfl)); done)); try simp only [Act.put, List.setIfInBounds_toArray, List.set_cons_zero, List.set_cons_succ]
  refine wpL_calm (o := { dst := some 16, op := Go.Op.move (Go.Operand.tmp 1), type := 3, pos := "smq.go:47", after := #[], guard := none }) (v := ?_) rfl (Or.inl ⟨by rfl, ?_⟩) ?_; rotate_left; (focus (intro w hSw; (try dsimp only at hSw); go_simp; (try (with_reducible rfl)); done)); try simp only [Act.put, List.setIfInBounds_toArray, List.set_cons_zero, List.set_cons_succ]
  refine wpL_calm (o := { dst := some 17, op := Go.Op.move (Go.Operand.tmp 0), type := 23, pos := "smq.go:47", after := #[], guard := none }) (v := ?_) rfl (Or.inl ⟨by rfl, ?_⟩) ?_; rotate_left; (focus (intro w hSw; (try dsimp only at hSw); go_simp; (try (with_reducible rfl)); done)); try simp only [Act.put, List.setIfInBounds_toArray, List.set_cons_zero, List.set_cons_succ]
  refine wpL_calm (o := { dst := some 18, op := Go.Op.nilCheck (Go.Operand.tmp 17), type := 0, pos := "smq.go:47", after := #[{ on := 2, ground := Go.Ground.data }], guard := none }) (v := ?_) rfl (Or.inl ⟨by rfl, ?_⟩) ?_; rotate_left; (focus (intro w hSw; (try dsimp only at hSw); go_simp; (try (with_reducible rfl)); done)); try simp only [Act.put, List.setIfInBounds_toArray, List.set_cons_zero, List.set_cons_succ]
  refine wpL_calm (o := { dst := some 19, op := Go.Op.fieldAddr 52 (Go.Operand.tmp 18) 4, type := 0, pos := "smq.go:47", after := #[{ on := 3, ground := Go.Ground.data }], guard := none }) (v := ?_) rfl (Or.inl ⟨by rfl, ?_⟩) ?_; rotate_left; (focus (intro w hSw; (try dsimp only at hSw); go_simp; (try (with_reducible rfl)); done)); try simp only [Act.put, List.setIfInBounds_toArray, List.set_cons_zero, List.set_cons_succ]
  refine wpL_calm (o := { dst := some 20, op := Go.Op.load 3 (Go.Operand.tmp 19), type := 3, pos := "smq.go:47", after := #[{ on := 4, ground := Go.Ground.data }], guard := none }) (v := ?_) rfl (Or.inl ⟨by rfl, ?_⟩) ?_; rotate_left; (focus (intro w hSw; (try dsimp only at hSw); go_simp; (try (with_reducible rfl)); done)); try simp only [Act.put, List.setIfInBounds_toArray, List.set_cons_zero, List.set_cons_succ]
  refine wpL_calm (o := { dst := some 21, op := Go.Op.binOp Go.BinOp.rem 3 (Go.Operand.tmp 20) (Go.Operand.const (Go.Value.int Go.IntKind.i64 4)) 3, type := 3, pos := "smq.go:47", after := #[{ on := 5, ground := Go.Ground.data }], guard := none }) (v := ?_) rfl (Or.inl ⟨by rfl, ?_⟩) ?_; rotate_left; (focus (intro w hSw; (try dsimp only at hSw); go_simp; (try (with_reducible rfl)); done)); try simp only [Act.put, List.setIfInBounds_toArray, List.set_cons_zero, List.set_cons_succ]
  refine wpL_calm (o := { dst := some 22, op := Go.Op.nilCheck (Go.Operand.tmp 15), type := 0, pos := "smq.go:47", after := #[{ on := 0, ground := Go.Ground.data }], guard := none }) (v := ?_) rfl (Or.inl ⟨by rfl, ?_⟩) ?_; rotate_left; (focus (intro w hSw; (try dsimp only at hSw); go_simp; (try (with_reducible rfl)); done)); try simp only [Act.put, List.setIfInBounds_toArray, List.set_cons_zero, List.set_cons_succ]
  refine wpL_calm (o := { dst := some 23, op := Go.Op.fieldAddr 52 (Go.Operand.tmp 22) 2, type := 0, pos := "smq.go:47", after := #[{ on := 7, ground := Go.Ground.data }], guard := none }) (v := ?_) rfl (Or.inl ⟨by rfl, ?_⟩) ?_; rotate_left; (focus (intro w hSw; (try dsimp only at hSw); go_simp; (try (with_reducible rfl)); done)); try simp only [Act.put, List.setIfInBounds_toArray, List.set_cons_zero, List.set_cons_succ]
  refine wpL_calm (o := { dst := some 24, op := Go.Op.indexAddr 50 (Go.Operand.tmp 23) (Go.Operand.tmp 16), type := 0, pos := "smq.go:47", after := #[{ on := 8, ground := Go.Ground.data }, { on := 1, ground := Go.Ground.data }], guard := none }) (v := ?_) rfl (Or.inl ⟨by rfl, ?_⟩) ?_; rotate_left; (focus (intro w hSw; (try dsimp only at hSw); go_simp; (try (with_reducible rfl)); done)); try simp only [Act.put, List.setIfInBounds_toArray, List.set_cons_zero, List.set_cons_succ]
  refine wpL_calm (o := { dst := some 25, op := Go.Op.indexAddr 49 (Go.Operand.tmp 24) (Go.Operand.tmp 21), type := 0, pos := "smq.go:47", after := #[{ on := 9, ground := Go.Ground.data }, { on := 6, ground := Go.Ground.data }], guard := none }) (v := ?_) rfl (Or.inl ⟨by rfl, ?_⟩) ?_; rotate_left; (focus (intro w hSw; (try dsimp only at hSw); go_simp; (try (with_reducible rfl)); done)); try simp only [Act.put, List.setIfInBounds_toArray, List.set_cons_zero, List.set_cons_succ]
  refine wpL_calm (o := { dst := some 5, op := Go.Op.assign (Go.Operand.tmp 25), type := 72, pos := "smq.go:47", after := #[{ on := 10, ground := Go.Ground.data }, { on := 0, ground := Go.Ground.phase }, { on := 1, ground := Go.Ground.phase }, { on := 2, ground := Go.Ground.phase }, { on := 3, ground := Go.Ground.phase }, { on := 4, ground := Go.Ground.phase }, { on := 5, ground := Go.Ground.phase }, { on := 6, ground := Go.Ground.phase }, { on := 7, ground := Go.Ground.phase }, { on := 8, ground := Go.Ground.phase }, { on := 9, ground := Go.Ground.phase }, { on := 10, ground := Go.Ground.phase }], guard := none }) (v := ?_) rfl (Or.inl ⟨by rfl, ?_⟩) ?_; rotate_left; (focus (intro w hSw; (try dsimp only at hSw); go_simp; (try (with_reducible rfl)); done)); try simp only [Act.put, List.setIfInBounds_toArray, List.set_cons_zero, List.set_cons_succ]
  refine wpL_nil ?_
  refine NoPanic.normal ?_
  have cc : w1.cell? ⟨p, 2 + j * 4 + r, none⟩ = some (.int .i64 (C (4 * j + r))) := by
    have := HQ1.out.cC (j := 4 * j + r) (by omega)
    rwa [show 2 + (4 * j + r) = 2 + j * 4 + r by omega] at this
  have fc := HQ1.out.free (2 + j * 4 + r)
  obtain ⟨D, hDD⟩ : ∃ D, C (4 * j + r) = D := ⟨_, rfl⟩
  rw [hDD] at cc hd HD
  have e1 : IntKind.i64.wrap (D + 1) = D + 1 := IntWalk.i64_in _ (by omega)
  obtain ⟨V, hV⟩ : ∃ V, (if D < 1048576 then D + 1 else 1048576) = V := ⟨_, rfl⟩
  rw [hV] at HD
  have hv0 : 0 ≤ V := by rw [← hV]; split <;> omega
  have hv1 : V ≤ 1048576 := by rw [← hV]; split <;> omega
  have HQ2 : Hid (PoAt (w1.setCell ⟨p, 2 + j * 4 + r, none⟩ (.int .i64 V)) B p ho e R S C' U k) := Lib.hid (by
    have := HQ1.out.setC (i := 4 * j + r) (by omega) V hv0 hv1
    rw [show 2 + (4 * j + r) = 2 + j * 4 + r by omega] at this
    rw [HD.out]
    exact this)
  have HK2 := Lib.hid (HK1.out.setCell (2 + j * 4 + r) (.int .i64 V) hbp (by simp))
  have hcs : (¬ 1048576 < D + 1 ∧ V = D + 1) ∨ (1048576 < D + 1 ∧ V = 1048576) := by
    by_cases x : D < 1048576
    · left; rw [if_pos x] at hV; omega
    · right; rw [if_neg x] at hV; omega
  clear hDD HD hHeld hV hv0 hv1 hd HK1 HQ1
  obtain ⟨w2, hw2⟩ : ∃ w2, Hid (w1.setCell ⟨p, 2 + j * 4 + r, none⟩ (.int .i64 V) = w2) := ⟨_, Lib.hid rfl⟩
  rw [hw2.out] at HQ2 HK2
  have c0 := HQ2.out.c0
  have CT := touch_any B ho 16 R (j : Int) w2 HQ2.out.hot HQ2.out.bh
  rw [Int.toNat_natCast] at CT
  have hmis : misA R 16 (j : Int) = if lvl R j = -1 then 7 else 0 := by unfold misA; rw [if_neg (by omega), Int.toNat_natCast]
  by_cases hl : lvl R j = -1
  · rw [if_pos hl] at hmis
    rw [hmis, if_neg (by decide)] at CT
    have CT := Lib.hid CT
    have HRR : Hid (R' = put R j 0) := Lib.hid (by rw [← hR'.out]; unfold hitR; rw [if_pos hl])
    have hadd : addA R 16 (j : Int) 0 = 0 := by unfold addA; rw [if_neg (by omega), if_neg (by omega), Int.toNat_natCast, if_neg (by simpa using hl)]
    have HADD := Lib.hid hadd
    clear hmis hl hadd hR'
    rcases hcs with ⟨x1, x2⟩ | ⟨x1, x2⟩
    all_goals
      subst x2
      go_upto_region 7 with fail
      rw [hw2.out]
      clear hw2
      go_wp2_with fail
      refine CT.out.mono ?_
      rintro x w3 ⟨rfl, r3, k3⟩
      have HQ3 := Lib.hid (HQ2.out.hotq r3 k3)
      have HK3 := Lib.hid (HK2.out.trans (k3.wider (M := [p, ho, e]) (by simp)))
      have d0 := HQ3.out.c0
      have CA := add_any B ho 16 R (j : Int) 0 w3 HQ3.out.hot HQ3.out.bh
      rw [HADD.out, if_pos rfl, Int.toNat_natCast] at CA
      have CA := Lib.hid CA
      clear r3 k3 CT HQ2 HK2 c0
      go_wp2_with fail
      refine CA.out.mono ?_
      rintro x w4 ⟨rfl, r4, k4⟩
      have HQ4 := Lib.hid (HQ3.out.hotq r4 k4)
      have HK4 := Lib.hid (HK3.out.trans (k4.wider (M := [p, ho, e]) (by simp)))
      clear r4 k4 CA HQ3 HK3 d0
      go_wp2_with fail
      go_ret
      exact ⟨rfl, by rw [HRR.out]; exact HQ4.out, HK4.out⟩
  · rw [if_neg hl] at hmis
    rw [hmis, if_pos rfl] at CT
    have CT := Lib.hid CT
    have HRR : Hid (R' = movA R j 0) := Lib.hid (by rw [← hR'.out]; unfold hitR; rw [if_neg hl])
    clear hmis hl hR'
    rcases hcs with ⟨x1, x2⟩ | ⟨x1, x2⟩
    all_goals
      subst x2
      go_upto_region 7 with fail
      rw [hw2.out]
      clear hw2
      go_wp2_with fail
      refine CT.out.mono ?_
      rintro x w3 ⟨rfl, r3, k3⟩
      have HQ3 := Lib.hid (HQ2.out.hotq r3 k3)
      have HK3 := Lib.hid (HK2.out.trans (k3.wider (M := [p, ho, e]) (by simp)))
      clear r3 k3 CT HQ2 HK2 c0
      go_wp2_with fail
      go_ret
      exact ⟨rfl, by rw [HRR.out]; exact HQ3.out, HK3.out⟩
end
end Go.Proofs.Ytfkepplpeakgmaa

/- Package smq: regular, rise. -/
namespace Go.Proofs.Ytfkepplpeakgmaa
open Go.RowKit Go.Deep
set_option linter.unusedVariables false
set_option linter.unusedSimpArgs false
attribute [local go_sem] run_store_complex
theorem order_zi {n : Int} (h : n.natAbs < 9007199254740992) : (FloatKind.f64.format.order (fi n) 0 == some Ordering.eq) = decide (n = 0) := by
  have e : FloatKind.f64.format.order (fi n) 0 = some (compare n 0) := by
    rw [show FloatKind.f64.format = Ieee.double from rfl]
    have := order_fi (m := n) (n := 0) h (by decide)
    rwa [fi_zero] at this
  rw [e]
  by_cases q : n = 0
  · rw [decide_eq_true q, (compare_int_eq n 0).2 q]; rfl
  · rw [decide_eq_false q]
    cases hc : compare n 0 with
    | eq => exact absurd ((compare_int_eq n 0).1 hc) q
    | lt => rfl
    | gt => rfl
/-- Do four counts come and go by some beat? -/
def beatB (l : Nat → Int) : Bool := decide (l 0 - l 2 ≠ 0) || decide (l 3 - l 1 ≠ 0) || decide (l 0 - l 1 + l 2 - l 3 ≠ 0)
set_option maxRecDepth 100000 in
set_option maxHeartbeats 4000000 in
theorem regular_any (l : Nat → Int) (w : World) (hl : ∀ t, t < 4 → 0 ≤ l t ∧ l t ≤ 1048576) : Calls Try.prog 62 #[.agg #[.int .i64 (l 0), .int .i64 (l 1), .int .i64 (l 2), .int .i64 (l 3)]] w fun e w' => e = .returned (.bool (beatB l)) ∧ Below w.heap.size w w' := by
  have CS := Lib.hid (fun w' => spectrum_ok l w' hl)
  obtain ⟨_, s1, s2, s3, _, t1, t2, t3⟩ := S0 l
  have b0 := hl 0 (by omega)
  have b1 := hl 1 (by omega)
  have b2 := hl 2 (by omega)
  have b3 := hl 3 (by omega)
  have o1 : (FloatKind.f64.format.order (fi (SAl l 1)) 0 == some Ordering.eq) = decide (l 0 - l 2 = 0) := by rw [s1]; exact order_zi (by omega)
  have p1 : (FloatKind.f64.format.order (fi (SBl l 1)) 0 == some Ordering.eq) = decide (l 3 - l 1 = 0) := by rw [t1]; exact order_zi (by omega)
  have o2 : (FloatKind.f64.format.order (fi (SAl l 2)) 0 == some Ordering.eq) = decide (l 0 - l 1 + l 2 - l 3 = 0) := by rw [s2]; exact order_zi (by omega)
  have p2 : (FloatKind.f64.format.order (fi (SBl l 2)) 0 == some Ordering.eq) = true := by rw [t2, order_zi (by decide)]; rfl
  have o3 : (FloatKind.f64.format.order (fi (SAl l 3)) 0 == some Ordering.eq) = decide (l 0 - l 2 = 0) := by rw [s3]; exact order_zi (by omega)
  have p3 : (FloatKind.f64.format.order (fi (SBl l 3)) 0 == some Ordering.eq) = decide (l 3 - l 1 = 0) := by
    rw [t3, order_zi (by omega)]
    by_cases q : l 3 - l 1 = 0
    · rw [decide_eq_true q, decide_eq_true (by omega)]
    · rw [decide_eq_false q, decide_eq_false (by omega)]
  obtain ⟨g, hg⟩ : ∃ g, Hid (beatB l = g) := ⟨_, Lib.hid rfl⟩
  have HB : Hid (g = (!decide (l 0 - l 2 = 0) || !decide (l 3 - l 1 = 0) || !decide (l 0 - l 1 + l 2 - l 3 = 0))) := Lib.hid (by rw [← hg.out]; unfold beatB; simp)
  rw [hg.out]
  obtain ⟨x, hx⟩ : ∃ x, decide (l 0 - l 2 = 0) = x := ⟨_, rfl⟩
  obtain ⟨y, hy⟩ : ∃ y, decide (l 3 - l 1 = 0) = y := ⟨_, rfl⟩
  obtain ⟨z, hz⟩ : ∃ z, decide (l 0 - l 1 + l 2 - l 3 = 0) = z := ⟨_, rfl⟩
  rw [hx] at o1 o3 HB
  rw [hy] at p1 p3 HB
  rw [hz] at o2 HB
  clear hx hy hz s1 s2 s3 t1 t2 t3 hg hl b0 b1 b2 b3
  generalize fi (SAl l 0) = A0 at *
  generalize fi (SAl l 1) = A1 at *
  generalize fi (SAl l 2) = A2 at *
  generalize fi (SAl l 3) = A3 at *
  generalize fi (SBl l 0) = B0 at *
  generalize fi (SBl l 1) = B1 at *
  generalize fi (SBl l 2) = B2 at *
  generalize fi (SBl l 3) = B3 at *
  obtain ⟨w1, hw1⟩ : ∃ w1, Hid (w.alloc (.cells #[.int .i64 (l 0), .int .i64 (l 1), .int .i64 (l 2), .int .i64 (l 3)] 49) = w1) := ⟨_, Lib.hid rfl⟩
  have HB1 : Hid (Below w.heap.size w w1) := Lib.hid (by rw [← hw1.out]; exact (Below.refl _ _).alloc (Nat.le_refl _) _)
  have CS1 := Lib.hid (CS.out w1)
  have hcs : x = false ∨ (x = true ∧ y = false) ∨ (x = true ∧ y = true ∧ z = false) ∨ (x = true ∧ y = true ∧ z = true) := by cases x <;> cases y <;> cases z <;> simp
  rcases hcs with rfl | ⟨rfl, rfl⟩ | ⟨rfl, rfl, rfl⟩ | ⟨rfl, rfl, rfl⟩
  all_goals
    have HG := Lib.hid HB.out
    simp only [Bool.not_false, Bool.not_true, Bool.true_or, Bool.false_or, Bool.or_true, Bool.or_false] at HG
    go_enter Try.func62, Try.ntmps62
    go_wp2_with fail
    rw [hw1.out]
    refine CS1.out.mono ?_
    rintro e w2 ⟨rfl, b2⟩
    have HB2 := Lib.hid (HB1.out.trans (b2.mono HB1.out.size))
    have HB3 := Lib.hid (HB2.out.alloc HB2.out.size (.cells #[.complex .f64 A0 B0, .complex .f64 A1 B1, .complex .f64 A2 B2, .complex .f64 A3 B3] 89))
    clear b2 CS1 CS HB HB1
    go_wp2_with fail
    go_ret
    exact ⟨by rw [HG.out]; first | done | rfl, HB3.out⟩
/-- How many levels a group rises. -/
def sumQ (l : Nat → Int) : Int := l 0 + l 1 + l 2 + l 3
def riseI (l : Nat → Int) : Int := if sumQ l = 0 then -1 else if 4 ≤ sumQ l ∧ beatB l = true then 2 else if 3 ≤ sumQ l then 1 else 0
def parI (l : Nat → Int) : Nat → Int
  | 0 => 0
  | i + 1 => parI l i + l i
set_option maxRecDepth 100000 in
set_option maxHeartbeats 8000000 in
theorem rise_any (l : Nat → Int) (w : World) (hl : ∀ t, t < 4 → 0 ≤ l t ∧ l t ≤ 1048576) : Calls Try.prog 59 #[.agg #[.int .i64 (l 0), .int .i64 (l 1), .int .i64 (l 2), .int .i64 (l 3)]] w fun e w' => e = .returned (.int .i64 (riseI l)) ∧ Below w.heap.size w w' := by
  have CG := Lib.hid (fun w' => regular_any l w' hl)
  have hx0 : ∀ w, (Instr.index 49 (.agg #[.int .i64 (l 0), .int .i64 (l 1), .int .i64 (l 2), .int .i64 (l 3)]) (.int .i64 0)).run Try.prog w = .ok (.int .i64 (l 0)) w := index4i l 0 (by omega)
  have hx1 : ∀ w, (Instr.index 49 (.agg #[.int .i64 (l 0), .int .i64 (l 1), .int .i64 (l 2), .int .i64 (l 3)]) (.int .i64 1)).run Try.prog w = .ok (.int .i64 (l 1)) w := index4i l 1 (by omega)
  have hx2 : ∀ w, (Instr.index 49 (.agg #[.int .i64 (l 0), .int .i64 (l 1), .int .i64 (l 2), .int .i64 (l 3)]) (.int .i64 2)).run Try.prog w = .ok (.int .i64 (l 2)) w := index4i l 2 (by omega)
  have hx3 : ∀ w, (Instr.index 49 (.agg #[.int .i64 (l 0), .int .i64 (l 1), .int .i64 (l 2), .int .i64 (l 3)]) (.int .i64 3)).run Try.prog w = .ok (.int .i64 (l 3)) w := index4i l 3 (by omega)
  have HL := Lib.hid hl
  obtain ⟨g, hg⟩ : ∃ g, Hid (riseI l = g) := ⟨_, Lib.hid rfl⟩
  rw [hg.out]
  obtain ⟨w1, hw1⟩ : ∃ w1, Hid (w.alloc (.cells #[.int .i64 (l 0), .int .i64 (l 1), .int .i64 (l 2), .int .i64 (l 3)] 49) = w1) := ⟨_, Lib.hid rfl⟩
  obtain ⟨c, hc⟩ : ∃ c, Hid (w.heap.size = c) := ⟨_, Lib.hid rfl⟩
  have HB1 : Hid (Below w.heap.size w w1) := Lib.hid (by rw [← hw1.out]; exact (Below.refl _ _).alloc (Nat.le_refl _) _)
  have hrow : w1.heap[c]? = some (.cells #[.int .i64 (l 0), .int .i64 (l 1), .int .i64 (l 2), .int .i64 (l 3)] 49 (0, 0)) := by rw [← hw1.out, ← hc.out]; exact heap_alloc_new _ _
  have kk : ∀ (j : Nat) (v : Value), (#[.int .i64 (l 0), .int .i64 (l 1), .int .i64 (l 2), .int .i64 (l 3)] : Array Value)[j]? = some v → w1.cell? ⟨c, j, none⟩ = some v := fun j v hv => by simp only [World.cell?, hrow]; exact hv
  have k0 := kk 0 _ rfl
  have k1 := kk 1 _ rfl
  have k2 := kk 2 _ rfl
  have k3 := kk 3 _ rfl
  clear kk hrow hl
  go_enter Try.func59, Try.ntmps59
  go_upto_region 1 with fail
  rw [hw1.out, hc.out]
  clear hw1 hc
  go_wp2_with fail
  go_loopw [3, 5, 7] (fun s3 _ s7 wi => ∃ i : Nat, s7 = .int .i64 (i : Int) ∧ s3 = .int .i64 (parI l i) ∧ i ≤ 4 ∧ w1 = wi) (fun _ _ s7 _ => 4 - (intOf s7).toNat)
  case atStart => exact ⟨0, rfl, rfl, by omega, rfl⟩
  case round =>
    obtain ⟨i, rfl, rfl, hi, rfl⟩ := hrel
    have b0 := HL.out 0 (by omega)
    have b1 := HL.out 1 (by omega)
    have b2 := HL.out 2 (by omega)
    have b3 := HL.out 3 (by omega)
    have q1 : parI l 1 = l 0 := by unfold parI parI; omega
    have q2 : parI l 2 = l 0 + l 1 := by show parI l 1 + l 1 = _; rw [q1]
    have q3 : parI l 3 = l 0 + l 1 + l 2 := by show parI l 2 + l 2 = _; rw [q2]
    have q4 : parI l 4 = sumQ l := by show parI l 3 + l 3 = _; rw [q3]; rfl
    have hsum : sumQ l = l 0 + l 1 + l 2 + l 3 := rfl
    have CG1 := Lib.hid (CG.out w1)
    by_cases hi4 : i < 4
    · rcases (show i = 0 ∨ i = 1 ∨ i = 2 ∨ i = 3 by omega) with rfl | rfl | rfl | rfl
      · rw [show ((0 : Nat) : Int) = 0 from rfl, show parI l 0 = 0 from rfl]
        have e1 : IntKind.i64.wrap (l 0) = l 0 := IntWalk.i64_in _ (by omega)
        clear hsum q2 q3 q4
        go_wp2_with fail
        go_roundw
        case rel => exact ⟨1, rfl, by rw [q1], by omega, by first | rfl | trivial⟩
        case measure => simp [intOf]
      · rw [show ((1 : Nat) : Int) = 1 from rfl, q1]
        have e1 : IntKind.i64.wrap (l 0 + l 1) = l 0 + l 1 := IntWalk.i64_in _ (by omega)
        clear hsum q1 q3 q4
        go_wp2_with fail
        go_roundw
        case rel => exact ⟨2, rfl, by rw [q2], by omega, by first | rfl | trivial⟩
        case measure => simp [intOf]
      · rw [show ((2 : Nat) : Int) = 2 from rfl, q2]
        have e1 : IntKind.i64.wrap (l 0 + l 1 + l 2) = l 0 + l 1 + l 2 := IntWalk.i64_in _ (by omega)
        clear hsum q1 q2 q4
        go_wp2_with fail
        go_roundw
        case rel => exact ⟨3, rfl, by rw [q3], by omega, by first | rfl | trivial⟩
        case measure => simp [intOf]
      · rw [show ((3 : Nat) : Int) = 3 from rfl, q3]
        have e1 : IntKind.i64.wrap (l 0 + l 1 + l 2 + l 3) = l 0 + l 1 + l 2 + l 3 := IntWalk.i64_in _ (by omega)
        rw [hsum] at q4
        clear hsum q1 q2 q3
        go_wp2_with fail
        go_roundw
        case rel => exact ⟨4, rfl, by rw [q4], by omega, by first | rfl | trivial⟩
        case measure => simp [intOf]
    · obtain rfl : i = 4 := by omega
      rw [show ((4 : Nat) : Int) = 4 from rfl, q4]
      obtain ⟨N, hN⟩ : ∃ N, sumQ l = N := ⟨_, rfl⟩
      obtain ⟨bb, hbb⟩ : ∃ bb, beatB l = bb := ⟨_, rfl⟩
      have HR : Hid (g = if N = 0 then -1 else if 4 ≤ N ∧ bb = true then 2 else if 3 ≤ N then 1 else 0) := Lib.hid (by rw [← hg.out]; unfold riseI; rw [hN, hbb])
      rw [hbb] at CG1
      rw [hN]
      rw [hN] at hsum
      have hN0 : 0 ≤ N := by omega
      clear q1 q2 q3 q4 hbb hN hsum b0 b1 b2 b3 CG hg
      have hcs : N = 0 ∨ (4 ≤ N ∧ bb = true) ∨ (4 ≤ N ∧ bb = false) ∨ N = 3 ∨ (1 ≤ N ∧ N ≤ 2) := by cases bb <;> simp <;> omega
      rcases hcs with rfl | ⟨u, rfl⟩ | ⟨u, rfl⟩ | rfl | ⟨u1, u2⟩
      · go_wp2_with fail
        go_ret
        exact ⟨by rw [HR.out]; rfl, HB1.out⟩
      · have n0 : ¬ N = 0 := by omega
        have HR2 : Hid (g = 2) := Lib.hid (by rw [HR.out, if_neg n0, if_pos ⟨u, rfl⟩])
        go_wp2_with fail
        refine CG1.out.mono ?_
        rintro e w2 ⟨rfl, b2⟩
        have HB2 := Lib.hid (HB1.out.trans (b2.mono HB1.out.size))
        clear b2 CG1
        go_wp2_with fail
        go_ret
        exact ⟨by rw [HR2.out]; first | done | rfl, HB2.out⟩
      · have n0 : ¬ N = 0 := by omega
        have n3 : 3 ≤ N := by omega
        have HR2 : Hid (g = 1) := Lib.hid (by rw [HR.out, if_neg n0, if_neg (by simp), if_pos n3])
        go_wp2_with fail
        refine CG1.out.mono ?_
        rintro e w2 ⟨rfl, b2⟩
        have HB2 := Lib.hid (HB1.out.trans (b2.mono HB1.out.size))
        clear b2 CG1
        go_wp2_with fail
        go_ret
        exact ⟨by rw [HR2.out]; first | done | rfl, HB2.out⟩
      · have HR2 : Hid (g = 1) := Lib.hid (by rw [HR.out]; simp)
        go_wp2_with fail
        go_ret
        exact ⟨by rw [HR2.out]; first | done | rfl, HB1.out⟩
      · have n0 : ¬ N = 0 := by omega
        have n4 : ¬ 4 ≤ N := by omega
        have n3 : ¬ 3 ≤ N := by omega
        have HR2 : Hid (g = 0) := Lib.hid (by rw [HR.out, if_neg n0, if_neg (fun h => n4 h.1), if_neg n3])
        go_wp2_with fail
        go_ret
        exact ⟨by rw [HR2.out]; first | done | rfl, HB1.out⟩
end Go.Proofs.Ytfkepplpeakgmaa

/- Package smq: settle. -/
namespace Go.Proofs.Ytfkepplpeakgmaa
open Go.RowKit Go.Deep
set_option linter.unusedVariables false
set_option linter.unusedSimpArgs false
theorem lvl_put (R : Nat → List Nat) (i l : Nat) (hl : l < 4) : lvl (put R i l) i = (l : Int) := lvl_of hl (by unfold put setR; simp) (fun m hm hi => by
  unfold put setR at hi
  by_cases e : m = l
  · exact e
  · rw [if_neg e] at hi
    unfold rem at hi
    simp at hi)
theorem cutL_lt (x : Int) : (cutL x).toNat < 4 := by
  unfold cutL
  split
  · decide
  · split
    · decide
    · omega
theorem lvl_mov (R : Nat → List Nat) (i : Nat) (b : Int) : lvl (movA R i b) i ≠ -1 := by
  unfold movA
  rw [lvl_put _ _ _ (cutL_lt _)]
  omega
theorem misA_ok {R : Nat → List Nat} {i : Nat} {n : Nat} (hi : i < n) (h : lvl R i ≠ -1) : misA R n (i : Int) = 0 := by
  unfold misA
  rw [if_neg (by omega), Int.toNat_natCast, if_neg h]
def itM (R : Nat → List Nat) (j : Nat) : Nat → Nat → List Nat
  | 0 => R
  | i + 1 => movA (itM R j i) j 1
theorem itM_lvl {R : Nat → List Nat} {j : Nat} (h : lvl R j ≠ -1) : ∀ i, lvl (itM R j i) j ≠ -1
  | 0 => h
  | i + 1 => lvl_mov _ _ _
/-- The four counts of a group. -/
def cnt (C : Nat → Int) (j : Nat) : Nat → Int := fun t => C (4 * j + t)
def setlR (R : Nat → List Nat) (C : Nat → Int) (j : Nat) : Nat → List Nat :=
  if riseI (cnt C j) < 0 then (if lvl R j = 0 then rem R j else movA R j (-1)) else itM R j (riseI (cnt C j)).toNat
theorem rise_cases (l : Nat → Int) : riseI l = -1 ∨ riseI l = 0 ∨ riseI l = 1 ∨ riseI l = 2 := by
  unfold riseI
  split
  · exact Or.inl rfl
  · split
    · exact Or.inr (Or.inr (Or.inr rfl))
    · split
      · exact Or.inr (Or.inr (Or.inl rfl))
      · exact Or.inr (Or.inl rfl)
section
variable {w : World} {B p ho e k : Nat} {R S : Nat → List Nat} {C : Nat → Int} {U : Nat → Bool}
set_option maxRecDepth 100000 in
set_option maxHeartbeats 8000000 in
theorem settle_any (j : Nat) (q : PoAt w B p ho e R S C U k) (hj : j < 16) (hl : lvl R j ≠ -1) : Calls Try.prog 49 #[.pointer (some ⟨p, 0, none⟩), .int .i64 (j : Int), .int .i64 (lvl R j)] w fun x w' => x = .returned (.tuple #[]) ∧ PoAt w' B p ho e (setlR R C j) S C U k ∧ Kq B [p, ho, e] w w' := by
  have hji : (j : Int) < 16 := by omega
  have cc : ∀ t, t < 4 → w.cell? ⟨p, 2 + j * 4 + t, none⟩ = some (.int .i64 (cnt C j t)) := fun t ht => by
    have := q.cC (j := 4 * j + t) (by omega)
    rwa [show 2 + (4 * j + t) = 2 + j * 4 + t by omega] at this
  have c0 : w.cell? ⟨p, 2 + j * 4, none⟩ = some (.int .i64 (cnt C j 0)) := cc 0 (by omega)
  have c1 := cc 1 (by omega)
  have c2 := cc 2 (by omega)
  have c3 := cc 3 (by omega)
  have CR := Lib.hid (rise_any (cnt C j) w (fun t ht => q.cn _ (by omega)))
  have HQ := Lib.hid q
  have HBw : B ≤ w.heap.size := Nat.le_trans q.bp (Nat.le_of_lt q.lt)
  obtain ⟨R', hR'⟩ : ∃ R', Hid (setlR R C j = R') := ⟨_, Lib.hid rfl⟩
  rw [hR'.out]
  obtain ⟨b, hb⟩ : ∃ b, riseI (cnt C j) = b := ⟨_, rfl⟩
  have hrc := rise_cases (cnt C j)
  have HRR : Hid (R' = if b < 0 then (if lvl R j = 0 then rem R j else movA R j (-1)) else itM R j b.toNat) := Lib.hid (by rw [← hR'.out, ← hb]; rfl)
  rw [hb] at CR hrc
  have hm0 := misA_ok hj hl
  have HM0 := Lib.hid hm0
  have HLV := Lib.hid hl
  obtain ⟨l, hlv⟩ : ∃ l, lvl R j = l := ⟨_, rfl⟩
  rw [hlv] at HRR ⊢
  clear hb hR' cc q hm0 hl hlv
  go_enter Try.func49, Try.ntmps49
  go_wp2_with fail
  refine CR.out.mono ?_
  rintro x w1 ⟨rfl, b1⟩
  have HQ1 := Lib.hid (HQ.out.below b1)
  have HK1 : Hid (Kq B [p, ho, e] w w1) := Lib.hid (Kq.of_below b1 HBw)
  have d0 := HQ1.out.c0
  clear b1 CR HQ c0 c1 c2 c3
  rcases (show b = -1 ∨ 0 ≤ b by omega) with rfl | hb0
  · by_cases hl0 : l = 0
    · subst hl0
      have CM := remove_any B ho 16 R (j : Int) w1 HQ1.out.hot HQ1.out.bh
      rw [HM0.out, if_pos rfl, Int.toNat_natCast] at CM
      have CM := Lib.hid CM
      go_wp2_with fail
      refine CM.out.mono ?_
      rintro x w2 ⟨rfl, r2, k2⟩
      have HQ2 := Lib.hid (HQ1.out.hotq r2 k2)
      have HK2 := Lib.hid (HK1.out.trans (k2.wider (M := [p, ho, e]) (by simp)))
      clear r2 k2 CM
      go_wp2_with fail
      (try simp only [Exit.inBlock, Exit.then]); refine bodyPost_ret (results_none rfl _ _ _) rfl ⟨rfl, ?_, HK2.out⟩
      rw [HRR.out]
      exact HQ2.out
    · have CM := move_any B ho 16 R (j : Int) (-1) w1 HQ1.out.hot HQ1.out.bh
      rw [HM0.out, if_pos rfl, Int.toNat_natCast] at CM
      have CM := Lib.hid CM
      have HR2 : Hid (R' = movA R j (-1)) := Lib.hid (by rw [HRR.out, if_pos (by decide), if_neg hl0])
      go_wp2_with fail
      refine CM.out.mono ?_
      rintro x w2 ⟨rfl, r2, k2⟩
      have HQ2 := Lib.hid (HQ1.out.hotq r2 k2)
      have HK2 := Lib.hid (HK1.out.trans (k2.wider (M := [p, ho, e]) (by simp)))
      clear r2 k2 CM HRR
      go_wp2_with fail
      go_loopw [36] (fun s36 wi => s36 = .int .i64 0 ∧ w2 = wi) (fun _ _ => 0)
      case atStart => exact ⟨rfl, rfl⟩
      case round =>
        obtain ⟨rfl, rfl⟩ := hrel
        go_wp2_with fail
        go_end0
        exact ⟨rfl, by rw [HR2.out]; exact HQ2.out, HK2.out⟩
  · obtain ⟨m, rfl⟩ : ∃ m : Nat, b = (m : Int) := ⟨b.toNat, by omega⟩
    have hneg : ¬ (m : Int) < 0 := by omega
    have HR2 : Hid (R' = itM R j m) := Lib.hid (by rw [HRR.out, if_neg hneg, Int.toNat_natCast])
    have hm2 : m ≤ 2 := by omega
    clear HRR hrc hb0
    go_wp2_with fail
    go_loopw [36] (fun s36 wi => ∃ i : Nat, s36 = .int .i64 (i : Int) ∧ i ≤ m ∧ Hid (PoAt wi B p ho e (itM R j i) S C U k) ∧ Hid (Kq B [p, ho, e] w wi)) (fun s36 _ => m - (intOf s36).toNat)
    case atStart => exact ⟨0, rfl, by omega, HQ1, HK1⟩
    case round =>
      obtain ⟨i, rfl, hi, HQ, HK⟩ := hrel
      clear HQ1 HK1 d0
      by_cases hlt : i < m
      · have hli : (i : Int) < (m : Int) := by omega
        have d0 := HQ.out.c0
        have CM := move_any B ho 16 (itM R j i) (j : Int) 1 wr HQ.out.hot HQ.out.bh
        rw [misA_ok hj (itM_lvl HLV.out i), if_pos rfl, Int.toNat_natCast] at CM
        have CM := Lib.hid CM
        go_wp2_with fail
        refine CM.out.mono ?_
        rintro x w2 ⟨rfl, r2, k2⟩
        have HQ2 : Hid (PoAt w2 B p ho e (itM R j (i + 1)) S C U k) := Lib.hid (HQ.out.hotq r2 k2)
        have HK2 := Lib.hid (HK.out.trans (k2.wider (M := [p, ho, e]) (by simp)))
        clear r2 k2 CM HQ HK d0
        go_wp2_with fail
        go_roundw
        case rel => exact ⟨i + 1, by go_num, by omega, HQ2, HK2⟩
        case measure => simp [intOf]; omega
      · obtain rfl : i = m := by omega
        have hli : ¬ (i : Int) < (i : Int) := by omega
        go_wp2_with fail
        go_end0
        exact ⟨rfl, by rw [HR2.out]; exact HQ.out, HK.out⟩
end
end Go.Proofs.Ytfkepplpeakgmaa

/- Package smq: the end of a period. -/
namespace Go.Proofs.Ytfkepplpeakgmaa
open Go.RowKit Go.Deep
set_option linter.unusedVariables false
set_option linter.unusedSimpArgs false
theorem rowIs_sets {b n : Nat} {t : TypeId} : ∀ (vs : List Value) (o : Nat) (w : World) (f : Nat → Value), w.rowIs b t n f → (w.setCells b o vs).rowIs b t n (fun j => if o ≤ j ∧ j < o + vs.length then vs.getD (j - o) (f j) else f j)
  | [], o, w, f, h => h.congr fun j _ => by rw [if_neg (by simp)]
  | v :: vs, o, w, f, h => by
    have ih := rowIs_sets vs (o + 1) _ _ (World.rowIs.set h o v)
    refine World.rowIs.congr ih fun j hj => ?_
    by_cases e : j = o
    · subst e
      rw [if_neg (by omega), if_pos rfl, if_pos (by simp), Nat.sub_self]
      rfl
    · rw [if_neg e]
      by_cases e2 : o + 1 ≤ j ∧ j < o + 1 + vs.length
      · rw [if_pos e2, if_pos (by simp; omega), show j - o = (j - (o + 1)) + 1 by omega]
        rfl
      · rw [if_neg e2, if_neg (by simp; omega)]
theorem below_sets {B g : Nat} (hg : B ≤ g) {a : World} : ∀ (vs : List Value) (o : Nat) (w : World), Below B a w → Below B a (w.setCells g o vs)
  | [], _, _, h => h
  | v :: vs, o, w, h => below_sets hg vs (o + 1) _ (h.setCell (p := ⟨g, o, none⟩) hg v)
theorem block_sets {g k : Nat} (hk : k ≠ g) : ∀ (vs : List Value) (o : Nat) (w : World), (w.setCells g o vs).heap[k]? = w.heap[k]?
  | [], _, _ => rfl
  | v :: vs, o, w => (block_sets hk vs (o + 1) _).trans (Below.heap_setCell w ⟨g, o, none⟩ v k hk)
theorem size_sets (g : Nat) : ∀ (vs : List Value) (o : Nat) (w : World), (w.setCells g o vs).heap.size = w.heap.size
  | [], _, _ => rfl
  | v :: vs, o, w => (size_sets g vs (o + 1) _).trans (by simp)
theorem z64_list : (#[.int .i64 0, .int .i64 0, .int .i64 0, .int .i64 0, .int .i64 0, .int .i64 0, .int .i64 0, .int .i64 0, .int .i64 0, .int .i64 0, .int .i64 0, .int .i64 0, .int .i64 0, .int .i64 0, .int .i64 0, .int .i64 0, .int .i64 0, .int .i64 0, .int .i64 0, .int .i64 0, .int .i64 0, .int .i64 0, .int .i64 0, .int .i64 0, .int .i64 0, .int .i64 0, .int .i64 0, .int .i64 0, .int .i64 0, .int .i64 0, .int .i64 0, .int .i64 0, .int .i64 0, .int .i64 0, .int .i64 0, .int .i64 0, .int .i64 0, .int .i64 0, .int .i64 0, .int .i64 0, .int .i64 0, .int .i64 0, .int .i64 0, .int .i64 0, .int .i64 0, .int .i64 0, .int .i64 0, .int .i64 0, .int .i64 0, .int .i64 0, .int .i64 0, .int .i64 0, .int .i64 0, .int .i64 0, .int .i64 0, .int .i64 0, .int .i64 0, .int .i64 0, .int .i64 0, .int .i64 0, .int .i64 0, .int .i64 0, .int .i64 0, .int .i64 0] : Array Value).toList = List.replicate 64 (.int .i64 0) := by kernel_rfl
theorem f8_list : (#[.bool false, .bool false, .bool false, .bool false, .bool false, .bool false, .bool false, .bool false] : Array Value).toList = List.replicate 8 (.bool false) := by kernel_rfl
theorem zero_cn : ∀ w, (zeroValue 50).run Try.prog w = .ok (.agg #[.int .i64 0, .int .i64 0, .int .i64 0, .int .i64 0, .int .i64 0, .int .i64 0, .int .i64 0, .int .i64 0, .int .i64 0, .int .i64 0, .int .i64 0, .int .i64 0, .int .i64 0, .int .i64 0, .int .i64 0, .int .i64 0, .int .i64 0, .int .i64 0, .int .i64 0, .int .i64 0, .int .i64 0, .int .i64 0, .int .i64 0, .int .i64 0, .int .i64 0, .int .i64 0, .int .i64 0, .int .i64 0, .int .i64 0, .int .i64 0, .int .i64 0, .int .i64 0, .int .i64 0, .int .i64 0, .int .i64 0, .int .i64 0, .int .i64 0, .int .i64 0, .int .i64 0, .int .i64 0, .int .i64 0, .int .i64 0, .int .i64 0, .int .i64 0, .int .i64 0, .int .i64 0, .int .i64 0, .int .i64 0, .int .i64 0, .int .i64 0, .int .i64 0, .int .i64 0, .int .i64 0, .int .i64 0, .int .i64 0, .int .i64 0, .int .i64 0, .int .i64 0, .int .i64 0, .int .i64 0, .int .i64 0, .int .i64 0, .int .i64 0, .int .i64 0]) w := fun w => by kernel_rfl
theorem zero_us : ∀ w, (zeroValue 34).run Try.prog w = .ok (.agg #[.bool false, .bool false, .bool false, .bool false, .bool false, .bool false, .bool false, .bool false]) w := fun w => by kernel_rfl
theorem index8b (U : Nat → Bool) (i : Nat) (hi : i < 8) (w : World) : (Instr.index 34 (.agg #[.bool (U 0), .bool (U 1), .bool (U 2), .bool (U 3), .bool (U 4), .bool (U 5), .bool (U 6), .bool (U 7)]) (.int .i64 (i : Int))).run Try.prog w = .ok (.bool (U i)) w := by
  rcases (show i = 0 ∨ i = 1 ∨ i = 2 ∨ i = 3 ∨ i = 4 ∨ i = 5 ∨ i = 6 ∨ i = 7 by omega) with rfl | rfl | rfl | rfl | rfl | rfl | rfl | rfl
  all_goals
    generalize U 0 = a0
    generalize U 1 = a1
    generalize U 2 = a2
    generalize U 3 = a3
    generalize U 4 = a4
    generalize U 5 = a5
    generalize U 6 = a6
    generalize U 7 = a7
    kernel_rfl
def zC : Nat → Int := fun _ => 0
def zU : Nat → Bool := fun _ => false
section
variable {w : World} {B p ho e k : Nat} {R S : Nat → List Nat} {C : Nat → Int} {U : Nat → Bool}
theorem PoAt.thC (q : PoAt w B p ho e R S C U k) : w.there p 2 64 := fun j hj => ⟨by rw [q.cC hj]; rfl, q.free _⟩
theorem PoAt.thU (q : PoAt w B p ho e R S C U k) : w.there p 66 8 := fun j hj => ⟨by rw [q.cU hj]; rfl, q.free _⟩
theorem PoAt.zeroC (q : PoAt w B p ho e R S C U k) : PoAt (w.setCells p 2 (#[.int .i64 0, .int .i64 0, .int .i64 0, .int .i64 0, .int .i64 0, .int .i64 0, .int .i64 0, .int .i64 0, .int .i64 0, .int .i64 0, .int .i64 0, .int .i64 0, .int .i64 0, .int .i64 0, .int .i64 0, .int .i64 0, .int .i64 0, .int .i64 0, .int .i64 0, .int .i64 0, .int .i64 0, .int .i64 0, .int .i64 0, .int .i64 0, .int .i64 0, .int .i64 0, .int .i64 0, .int .i64 0, .int .i64 0, .int .i64 0, .int .i64 0, .int .i64 0, .int .i64 0, .int .i64 0, .int .i64 0, .int .i64 0, .int .i64 0, .int .i64 0, .int .i64 0, .int .i64 0, .int .i64 0, .int .i64 0, .int .i64 0, .int .i64 0, .int .i64 0, .int .i64 0, .int .i64 0, .int .i64 0, .int .i64 0, .int .i64 0, .int .i64 0, .int .i64 0, .int .i64 0, .int .i64 0, .int .i64 0, .int .i64 0, .int .i64 0, .int .i64 0, .int .i64 0, .int .i64 0, .int .i64 0, .int .i64 0, .int .i64 0, .int .i64 0] : Array Value).toList) B p ho e R S zC U k :=
  { q with
    row := (rowIs_sets _ 2 w _ q.row).congr (fun j hj => by
      rw [z64_list, List.length_replicate]
      by_cases h1 : 2 ≤ j ∧ j < 2 + 64
      · rw [if_pos h1, List.getD_eq_getElem?_getD, List.getElem?_replicate, if_pos (by omega), Option.getD_some]
        unfold poC zC
        rw [if_neg (by omega), if_neg (by omega), if_pos (by omega)]
      · rw [if_neg h1]
        unfold poC
        by_cases a0 : j = 0
        · rw [if_pos a0, if_pos a0]
        · rw [if_neg a0, if_neg a0]
          by_cases a1 : j = 1
          · rw [if_pos a1, if_pos a1]
          · rw [if_neg a1, if_neg a1, if_neg (show ¬ j < 66 by omega), if_neg (show ¬ j < 66 by omega)])
    hot := q.hot.block (block_sets q.ph.symm _ _ _)
    held := q.held.block (block_sets q.pe.symm _ _ _)
    cn := fun j _ => by unfold zC; omega }
theorem PoAt.zeroU (q : PoAt w B p ho e R S C U k) : PoAt (w.setCells p 66 (#[.bool false, .bool false, .bool false, .bool false, .bool false, .bool false, .bool false, .bool false] : Array Value).toList) B p ho e R S C zU k :=
  { q with
    row := (rowIs_sets _ 66 w _ q.row).congr (fun j hj => by
      rw [f8_list, List.length_replicate]
      by_cases h1 : 66 ≤ j ∧ j < 66 + 8
      · rw [if_pos h1, List.getD_eq_getElem?_getD, List.getElem?_replicate, if_pos (by omega), Option.getD_some]
        unfold poC zU
        rw [if_neg (by omega), if_neg (by omega), if_neg (by omega), if_pos (by omega)]
      · rw [if_neg h1]
        unfold poC
        by_cases a0 : j < 66
        · rw [if_pos a0, if_pos a0]
        · rw [if_neg a0, if_neg a0, if_neg (show ¬ j < 74 by omega), if_neg (show ¬ j < 74 by omega)])
    hot := q.hot.block (block_sets q.ph.symm _ _ _)
    held := q.held.block (block_sets q.pe.symm _ _ _) }
theorem Kq.sets {B b : Nat} {L : List Nat} {w w' : World} (h : Kq B L w w') (k : Nat) (vs : List Value) (hB : B ≤ b) (hb : b ∈ L) : Kq B L w (w'.setCells b k vs) :=
  ⟨below_sets hB vs k _ h.below, fun i hi hn => (block_sets (fun x => hn (by rw [x]; exact hb)) vs k w').trans (h.other i hi hn)⟩
end
def endH (R : Nat → List Nat) (C : Nat → Int) : Nat → Nat → List Nat
  | 0 => R
  | g + 1 => if lvl (endH R C g) g = -1 then endH R C g else setlR (endH R C g) C g
def endW (S : Nat → List Nat) (U : Nat → Bool) : Nat → Nat → List Nat
  | 0 => S
  | s + 1 => if misA (endW S U s) 8 (s : Int) = 0 then movA (endW S U s) s (if U s = true then 1 else -1) else endW S U s
section
variable {w : World} {B p ho e k : Nat} {R S : Nat → List Nat} {C : Nat → Int} {U : Nat → Bool}
set_option maxRecDepth 100000 in
set_option maxHeartbeats 16000000 in
theorem end_any (q : PoAt w B p ho e R S C U k) : Calls Try.prog 30 #[.pointer (some ⟨p, 0, none⟩)] w fun x w' => x = .returned (.tuple #[]) ∧ PoAt w' B p ho e (balR (endH R C 16) 4 3) (balR (endW S U 8) 2 3) zC zU k ∧ Kq B [p, ho, e] w w' := by
  have HQ0 : Hid (PoAt w B p ho e (endH R C 0) S C U k) := Lib.hid q
  have HK0 : Hid (Kq B [p, ho, e] w w) := Lib.hid (Kq.refl _ _ _)
  have hbp := q.bp
  have hz1 := zero_cn
  have hz2 := zero_us
  obtain ⟨RF, hRF⟩ : ∃ RF, Hid (balR (endH R C 16) 4 3 = RF) := ⟨_, Lib.hid rfl⟩
  obtain ⟨SF, hSF⟩ : ∃ SF, Hid (balR (endW S U 8) 2 3 = SF) := ⟨_, Lib.hid rfl⟩
  rw [hRF.out, hSF.out]
  clear q
  go_enter Try.func30, Try.ntmps30
  go_wp2_with fail
  go_loopw [8, 2, 3, 4] (fun s8 _ _ _ wi => ∃ g : Nat, s8 = .int .i64 (g : Int) ∧ g ≤ 16 ∧ Hid (PoAt wi B p ho e (endH R C g) S C U k) ∧ Hid (Kq B [p, ho, e] w wi)) (fun s8 _ _ _ _ => 16 - (intOf s8).toNat)
  case atStart => exact ⟨0, rfl, by omega, HQ0, HK0⟩
  case round =>
    obtain ⟨g, rfl, hg, HQ, HK⟩ := hrel
    clear HQ0 HK0
    by_cases hlt : g < 16
    · have hli : (g : Int) < 16 := by omega
      have c0 := HQ.out.c0
      have CL := level_any ho 16 (endH R C g) (g : Int) wr HQ.out.hot
      have hmis : misA (endH R C g) 16 (g : Int) = if lvl (endH R C g) g = -1 then 7 else 0 := by unfold misA; rw [if_neg (by omega), Int.toNat_natCast]
      by_cases hl : lvl (endH R C g) g = -1
      · rw [hmis, if_pos hl, if_neg (by decide)] at CL
        have CL := Lib.hid CL
        have HQ2 : Hid (PoAt wr B p ho e (endH R C (g + 1)) S C U k) := Lib.hid (by unfold endH; rw [if_pos hl]; exact HQ.out)
        clear hmis hl
        go_wp2_with fail
        refine CL.out.mono ?_
        rintro x w2 ⟨rfl, rfl⟩
        clear CL
        go_wp2_with fail
        go_roundw
        case rel => exact ⟨g + 1, by go_num, by omega, HQ2, HK⟩
        case measure => simp [intOf]; omega
      · rw [hmis, if_neg hl, if_pos rfl, Int.toNat_natCast] at CL
        have CS := settle_any g HQ.out hlt hl
        have hR2 : endH R C (g + 1) = setlR (endH R C g) C g := by rw [show endH R C (g + 1) = if lvl (endH R C g) g = -1 then endH R C g else setlR (endH R C g) C g from rfl, if_neg hl]
        obtain ⟨R2, hRR⟩ : ∃ R2, setlR (endH R C g) C g = R2 := ⟨_, rfl⟩
        obtain ⟨l, hlv⟩ : ∃ l, lvl (endH R C g) g = l := ⟨_, rfl⟩
        rw [hlv] at CL CS
        rw [hRR] at CS hR2
        have HR2 := Lib.hid hR2
        have CL := Lib.hid CL
        have CS := Lib.hid CS
        clear hmis hl hlv hRR hR2
        go_wp2_with fail
        refine CL.out.mono ?_
        rintro x w2 ⟨rfl, rfl⟩
        clear CL
        go_wp2_with fail
        refine CS.out.mono ?_
        rintro x w3 ⟨rfl, q3, k3⟩
        have HQ3 : Hid (PoAt w3 B p ho e (endH R C (g + 1)) S C U k) := Lib.hid (by rw [HR2.out]; exact q3)
        have HK3 := Lib.hid (HK.out.trans k3)
        clear q3 k3 CS HQ HK c0
        go_wp2_with fail
        go_roundw
        case rel => exact ⟨g + 1, by go_num, by omega, HQ3, HK3⟩
        case measure => simp [intOf]; omega
    · obtain rfl : g = 16 := by omega
      rw [show ((16 : Nat) : Int) = 16 from rfl]
      have hth := HQ.out.thC
      have HQ2 := Lib.hid HQ.out.zeroC
      have HK2 := Lib.hid (HK.out.sets 2 (#[.int .i64 0, .int .i64 0, .int .i64 0, .int .i64 0, .int .i64 0, .int .i64 0, .int .i64 0, .int .i64 0, .int .i64 0, .int .i64 0, .int .i64 0, .int .i64 0, .int .i64 0, .int .i64 0, .int .i64 0, .int .i64 0, .int .i64 0, .int .i64 0, .int .i64 0, .int .i64 0, .int .i64 0, .int .i64 0, .int .i64 0, .int .i64 0, .int .i64 0, .int .i64 0, .int .i64 0, .int .i64 0, .int .i64 0, .int .i64 0, .int .i64 0, .int .i64 0, .int .i64 0, .int .i64 0, .int .i64 0, .int .i64 0, .int .i64 0, .int .i64 0, .int .i64 0, .int .i64 0, .int .i64 0, .int .i64 0, .int .i64 0, .int .i64 0, .int .i64 0, .int .i64 0, .int .i64 0, .int .i64 0, .int .i64 0, .int .i64 0, .int .i64 0, .int .i64 0, .int .i64 0, .int .i64 0, .int .i64 0, .int .i64 0, .int .i64 0, .int .i64 0, .int .i64 0, .int .i64 0, .int .i64 0, .int .i64 0, .int .i64 0, .int .i64 0] : Array Value).toList hbp (by simp))
      obtain ⟨w2, hw2⟩ : ∃ w2, Hid (wr.setCells p 2 (#[.int .i64 0, .int .i64 0, .int .i64 0, .int .i64 0, .int .i64 0, .int .i64 0, .int .i64 0, .int .i64 0, .int .i64 0, .int .i64 0, .int .i64 0, .int .i64 0, .int .i64 0, .int .i64 0, .int .i64 0, .int .i64 0, .int .i64 0, .int .i64 0, .int .i64 0, .int .i64 0, .int .i64 0, .int .i64 0, .int .i64 0, .int .i64 0, .int .i64 0, .int .i64 0, .int .i64 0, .int .i64 0, .int .i64 0, .int .i64 0, .int .i64 0, .int .i64 0, .int .i64 0, .int .i64 0, .int .i64 0, .int .i64 0, .int .i64 0, .int .i64 0, .int .i64 0, .int .i64 0, .int .i64 0, .int .i64 0, .int .i64 0, .int .i64 0, .int .i64 0, .int .i64 0, .int .i64 0, .int .i64 0, .int .i64 0, .int .i64 0, .int .i64 0, .int .i64 0, .int .i64 0, .int .i64 0, .int .i64 0, .int .i64 0, .int .i64 0, .int .i64 0, .int .i64 0, .int .i64 0, .int .i64 0, .int .i64 0, .int .i64 0, .int .i64 0] : Array Value).toList = w2) := ⟨_, Lib.hid rfl⟩
      rw [hw2.out] at HQ2 HK2
      have c0 := HQ2.out.c0
      have CB := Lib.hid (balance_any B ho 16 (endH R C 16) 4 w2 HQ2.out.hot HQ2.out.bh (by omega))
      clear HQ HK
      go_upto_region 8 with (refine wpList_store_mid rfl 50 _ _ rfl p 2 #[.int .i64 0, .int .i64 0, .int .i64 0, .int .i64 0, .int .i64 0, .int .i64 0, .int .i64 0, .int .i64 0, .int .i64 0, .int .i64 0, .int .i64 0, .int .i64 0, .int .i64 0, .int .i64 0, .int .i64 0, .int .i64 0, .int .i64 0, .int .i64 0, .int .i64 0, .int .i64 0, .int .i64 0, .int .i64 0, .int .i64 0, .int .i64 0, .int .i64 0, .int .i64 0, .int .i64 0, .int .i64 0, .int .i64 0, .int .i64 0, .int .i64 0, .int .i64 0, .int .i64 0, .int .i64 0, .int .i64 0, .int .i64 0, .int .i64 0, .int .i64 0, .int .i64 0, .int .i64 0, .int .i64 0, .int .i64 0, .int .i64 0, .int .i64 0, .int .i64 0, .int .i64 0, .int .i64 0, .int .i64 0, .int .i64 0, .int .i64 0, .int .i64 0, .int .i64 0, .int .i64 0, .int .i64 0, .int .i64 0, .int .i64 0, .int .i64 0, .int .i64 0, .int .i64 0, .int .i64 0, .int .i64 0, .int .i64 0, .int .i64 0, .int .i64 0] rfl rfl hth (by kernel_rfl) (by kernel_rfl) ?_)
      rw [hw2.out]
      clear hw2 hth
      go_wp2_with fail
      refine CB.out.mono ?_
      rintro x w3 ⟨rfl, r3, k3⟩
      have HQ3 := Lib.hid (HQ2.out.hotq r3 k3)
      have HK3 := Lib.hid (HK2.out.trans (k3.wider (M := [p, ho, e]) (by simp)))
      rw [hRF.out] at HQ3
      have u0 := HQ3.out.cU (j := 0) (by omega)
      have u1 := HQ3.out.cU (j := 1) (by omega)
      have u2 := HQ3.out.cU (j := 2) (by omega)
      have u3 := HQ3.out.cU (j := 3) (by omega)
      have u4 := HQ3.out.cU (j := 4) (by omega)
      have u5 := HQ3.out.cU (j := 5) (by omega)
      have u6 := HQ3.out.cU (j := 6) (by omega)
      have u7 := HQ3.out.cU (j := 7) (by omega)
      clear r3 k3 CB HQ2 HK2 c0
      go_wp2_with fail
      clear u0 u1 u2 u3 u4 u5 u6 u7
      go_loopw [39, 5, 6, 7] (fun s39 _ _ _ wi => ∃ i : Nat, s39 = .int .i64 (i : Int) ∧ i ≤ 8 ∧ Hid (PoAt wi B p ho e RF (endW S U i) zC U k) ∧ Hid (Kq B [p, ho, e] w wi)) (fun s39 _ _ _ _ => 8 - (intOf s39).toNat)
      case atStart => exact ⟨0, rfl, by omega, HQ3, HK3⟩
      case round =>
        obtain ⟨i, rfl, hi, HQ, HK⟩ := hrel
        clear HQ3 HK3
        by_cases hlt : i < 8
        · have hli : (i : Int) < 8 := by omega
          have hix := index8b U i hlt
          have c1 := HQ.out.c1
          have CM := move_any B e 8 (endW S U i) (i : Int) (if U i = true then 1 else -1) wr HQ.out.held HQ.out.be
          rw [Int.toNat_natCast, show (if misA (endW S U i) 8 (i : Int) = 0 then movA (endW S U i) i (if U i = true then 1 else -1) else endW S U i) = endW S U (i + 1) from rfl] at CM
          obtain ⟨S2, hS2⟩ : ∃ S2, Hid (endW S U (i + 1) = S2) := ⟨_, Lib.hid rfl⟩
          rw [hS2.out] at CM
          obtain ⟨m, hm⟩ : ∃ m, misA (endW S U i) 8 (i : Int) = m := ⟨_, rfl⟩
          obtain ⟨u, hu⟩ : ∃ u, U i = u := ⟨_, rfl⟩
          rw [hm, hu] at CM
          rw [hu] at hix
          clear hm hu
          cases u
          all_goals
            first
              | rw [if_pos rfl] at CM
              | rw [if_neg (by simp)] at CM
            have CM := Lib.hid CM
            go_wp2_with fail
            refine CM.out.mono ?_
            rintro x w3 ⟨rfl, r3, k3⟩
            have HQ3 : Hid (PoAt w3 B p ho e RF (endW S U (i + 1)) zC U k) := Lib.hid (by rw [hS2.out]; exact HQ.out.heldq r3 k3)
            have HK3 := Lib.hid (HK.out.trans (k3.wider (M := [p, ho, e]) (by simp)))
            clear r3 k3 CM HQ HK c1 hS2
            go_wp2_with fail
            go_roundw
            case rel => exact ⟨i + 1, by go_num, by omega, HQ3, HK3⟩
            case measure => simp [intOf]; omega
        · obtain rfl : i = 8 := by omega
          rw [show ((8 : Nat) : Int) = 8 from rfl]
          have hth := HQ.out.thU
          have HQ2 := Lib.hid HQ.out.zeroU
          have HK2 := Lib.hid (HK.out.sets 66 (#[.bool false, .bool false, .bool false, .bool false, .bool false, .bool false, .bool false, .bool false] : Array Value).toList hbp (by simp))
          obtain ⟨w2, hw2⟩ : ∃ w2, Hid (wr.setCells p 66 (#[.bool false, .bool false, .bool false, .bool false, .bool false, .bool false, .bool false, .bool false] : Array Value).toList = w2) := ⟨_, Lib.hid rfl⟩
          rw [hw2.out] at HQ2 HK2
          have c1 := HQ2.out.c1
          have CB := Lib.hid (balance_any B e 8 (endW S U 8) 2 w2 HQ2.out.held HQ2.out.be (by omega))
          clear HQ HK
          go_upto_region 18 with (refine wpList_store_mid rfl 34 _ _ rfl p 66 #[.bool false, .bool false, .bool false, .bool false, .bool false, .bool false, .bool false, .bool false] rfl rfl hth (by kernel_rfl) (by kernel_rfl) ?_)
          rw [hw2.out]
          clear hw2 hth
          go_wp2_with fail
          refine CB.out.mono ?_
          rintro x w3 ⟨rfl, r3, k3⟩
          have HQ3 := Lib.hid (HQ2.out.heldq r3 k3)
          have HK3 := Lib.hid (HK2.out.trans (k3.wider (M := [p, ho, e]) (by simp)))
          rw [hSF.out] at HQ3
          clear r3 k3 CB HQ2 HK2 c1
          go_wp2_with fail
          go_end0
          exact ⟨rfl, HQ3.out, HK3.out⟩
end
end Go.Proofs.Ytfkepplpeakgmaa

/- Package smq: Tick, New. -/
namespace Go.Proofs.Ytfkepplpeakgmaa
open Go.RowKit Go.Deep
set_option linter.unusedVariables false
set_option linter.unusedSimpArgs false
def tkR (R : Nat → List Nat) (C : Nat → Int) (k : Nat) : Nat → List Nat := if (k + 1) % 8 = 0 then balR (endH R C 16) 4 3 else R
def tkS (S : Nat → List Nat) (U : Nat → Bool) (k : Nat) : Nat → List Nat := if (k + 1) % 8 = 0 then balR (endW S U 8) 2 3 else S
def tkC (C : Nat → Int) (k : Nat) : Nat → Int := if (k + 1) % 8 = 0 then zC else C
def tkU (U : Nat → Bool) (k : Nat) : Nat → Bool := if (k + 1) % 8 = 0 then zU else U
section
variable {w : World} {B p ho e k : Nat} {R S : Nat → List Nat} {C : Nat → Int} {U : Nat → Bool}
set_option maxRecDepth 100000 in
set_option maxHeartbeats 8000000 in
theorem tick_any (q : PoAt w B p ho e R S C U k) (hk : k < 1000000) : Calls Try.prog 17 #[.pointer (some ⟨p, 0, none⟩)] w fun x w' => x = .returned (.int .i64 ((k + 1 : Nat) : Int)) ∧ PoAt w' B p ho e (tkR R C k) (tkS S U k) (tkC C k) (tkU U k) (k + 1) ∧ Kq B [p, ho, e] w w' := by
  have ck := q.ck
  have fk := q.free 74
  have e1 : IntKind.i64.wrap ((k : Int) + 1) = (k : Int) + 1 := IntWalk.i64_in _ (by omega)
  obtain ⟨r, hr⟩ : ∃ r, (k + 1) % 8 = r := ⟨_, rfl⟩
  have a1 : ((k : Int) + 1).tmod 8 = (r : Int) := by rw [Int.tmod_eq_emod_of_nonneg (by omega)]; omega
  have a1' : ((k : Int) + 1) % 8 = (r : Int) := by omega
  have z1 : IntKind.i64.wrap (r : Int) = r := IntWalk.i64_in _ (by omega)
  have HQ1 : Hid (PoAt (w.setCell ⟨p, 74, none⟩ (.int .i64 ((k : Int) + 1))) B p ho e R S C U (k + 1)) := Lib.hid (q.setK (k + 1))
  have HK1 : Hid (Kq B [p, ho, e] w (w.setCell ⟨p, 74, none⟩ (.int .i64 ((k : Int) + 1)))) := Lib.hid ((Kq.refl _ _ _).setCell 74 _ q.bp (by simp))
  obtain ⟨w1, hw1⟩ : ∃ w1, Hid (w.setCell ⟨p, 74, none⟩ (.int .i64 ((k : Int) + 1)) = w1) := ⟨_, Lib.hid rfl⟩
  rw [hw1.out] at HQ1 HK1
  have dk : w1.cell? ⟨p, 74, none⟩ = some (.int .i64 ((k : Int) + 1)) := HQ1.out.ck
  have CE := Lib.hid (end_any HQ1.out)
  clear q
  unfold tkR tkS tkC tkU
  rw [hr]
  by_cases hr0 : r = 0
  · subst hr0
    rw [if_pos rfl, if_pos rfl, if_pos rfl, if_pos rfl]
    go_enter Try.func17, Try.ntmps17
    go_upto_region 4 with fail
    rw [hw1.out]
    clear hw1 ck fk
    go_wp2_with fail
    refine CE.out.mono ?_
    rintro x w2 ⟨rfl, q2, k2⟩
    have HQ2 := Lib.hid q2
    have HK2 := Lib.hid (HK1.out.trans k2)
    have dk2 : w2.cell? ⟨p, 74, none⟩ = some (.int .i64 ((k : Int) + 1)) := q2.ck
    clear q2 k2 CE HQ1 HK1 dk
    go_wp2_with fail
    go_ret
    exact ⟨rfl, HQ2.out, HK2.out⟩
  · rw [if_neg hr0, if_neg hr0, if_neg hr0, if_neg hr0]
    have hr1 : ¬ (r : Int) = 0 := by omega
    go_enter Try.func17, Try.ntmps17
    go_upto_region 4 with fail
    rw [hw1.out]
    clear hw1 ck fk CE
    go_wp2_with fail
    go_ret
    exact ⟨rfl, HQ1.out, HK1.out⟩
end
def p0C (j : Nat) : Value := if j < 2 then .pointer none else poC 0 0 zC zU 0 j
theorem p0_list : (#[.pointer none, .pointer none, .int .i64 0, .int .i64 0, .int .i64 0, .int .i64 0, .int .i64 0, .int .i64 0, .int .i64 0, .int .i64 0, .int .i64 0, .int .i64 0, .int .i64 0, .int .i64 0, .int .i64 0, .int .i64 0, .int .i64 0, .int .i64 0, .int .i64 0, .int .i64 0, .int .i64 0, .int .i64 0, .int .i64 0, .int .i64 0, .int .i64 0, .int .i64 0, .int .i64 0, .int .i64 0, .int .i64 0, .int .i64 0, .int .i64 0, .int .i64 0, .int .i64 0, .int .i64 0, .int .i64 0, .int .i64 0, .int .i64 0, .int .i64 0, .int .i64 0, .int .i64 0, .int .i64 0, .int .i64 0, .int .i64 0, .int .i64 0, .int .i64 0, .int .i64 0, .int .i64 0, .int .i64 0, .int .i64 0, .int .i64 0, .int .i64 0, .int .i64 0, .int .i64 0, .int .i64 0, .int .i64 0, .int .i64 0, .int .i64 0, .int .i64 0, .int .i64 0, .int .i64 0, .int .i64 0, .int .i64 0, .int .i64 0, .int .i64 0, .int .i64 0, .int .i64 0, .bool false, .bool false, .bool false, .bool false, .bool false, .bool false, .bool false, .bool false, .int .i64 0] : Array Value).toList = (List.range 75).map p0C := by kernel_rfl
theorem zero_po : ∀ w, (zeroValue 52).run Try.prog w = .ok (.agg #[.pointer none, .pointer none, .int .i64 0, .int .i64 0, .int .i64 0, .int .i64 0, .int .i64 0, .int .i64 0, .int .i64 0, .int .i64 0, .int .i64 0, .int .i64 0, .int .i64 0, .int .i64 0, .int .i64 0, .int .i64 0, .int .i64 0, .int .i64 0, .int .i64 0, .int .i64 0, .int .i64 0, .int .i64 0, .int .i64 0, .int .i64 0, .int .i64 0, .int .i64 0, .int .i64 0, .int .i64 0, .int .i64 0, .int .i64 0, .int .i64 0, .int .i64 0, .int .i64 0, .int .i64 0, .int .i64 0, .int .i64 0, .int .i64 0, .int .i64 0, .int .i64 0, .int .i64 0, .int .i64 0, .int .i64 0, .int .i64 0, .int .i64 0, .int .i64 0, .int .i64 0, .int .i64 0, .int .i64 0, .int .i64 0, .int .i64 0, .int .i64 0, .int .i64 0, .int .i64 0, .int .i64 0, .int .i64 0, .int .i64 0, .int .i64 0, .int .i64 0, .int .i64 0, .int .i64 0, .int .i64 0, .int .i64 0, .int .i64 0, .int .i64 0, .int .i64 0, .int .i64 0, .bool false, .bool false, .bool false, .bool false, .bool false, .bool false, .bool false, .bool false, .int .i64 0]) w := fun w => by kernel_rfl
theorem p0_at (w : World) : ∃ w1 p, Hid (w.alloc (.cells #[.pointer none, .pointer none, .int .i64 0, .int .i64 0, .int .i64 0, .int .i64 0, .int .i64 0, .int .i64 0, .int .i64 0, .int .i64 0, .int .i64 0, .int .i64 0, .int .i64 0, .int .i64 0, .int .i64 0, .int .i64 0, .int .i64 0, .int .i64 0, .int .i64 0, .int .i64 0, .int .i64 0, .int .i64 0, .int .i64 0, .int .i64 0, .int .i64 0, .int .i64 0, .int .i64 0, .int .i64 0, .int .i64 0, .int .i64 0, .int .i64 0, .int .i64 0, .int .i64 0, .int .i64 0, .int .i64 0, .int .i64 0, .int .i64 0, .int .i64 0, .int .i64 0, .int .i64 0, .int .i64 0, .int .i64 0, .int .i64 0, .int .i64 0, .int .i64 0, .int .i64 0, .int .i64 0, .int .i64 0, .int .i64 0, .int .i64 0, .int .i64 0, .int .i64 0, .int .i64 0, .int .i64 0, .int .i64 0, .int .i64 0, .int .i64 0, .int .i64 0, .int .i64 0, .int .i64 0, .int .i64 0, .int .i64 0, .int .i64 0, .int .i64 0, .int .i64 0, .int .i64 0, .bool false, .bool false, .bool false, .bool false, .bool false, .bool false, .bool false, .bool false, .int .i64 0] 52) = w1) ∧ Hid (w.heap.size = p) ∧ Hid (w1.rowIs p 52 75 p0C) ∧ Hid (Below w.heap.size w w1) :=
  ⟨_, _, Lib.hid rfl, Lib.hid rfl, Lib.hid (by
    have hs : (#[.pointer none, .pointer none, .int .i64 0, .int .i64 0, .int .i64 0, .int .i64 0, .int .i64 0, .int .i64 0, .int .i64 0, .int .i64 0, .int .i64 0, .int .i64 0, .int .i64 0, .int .i64 0, .int .i64 0, .int .i64 0, .int .i64 0, .int .i64 0, .int .i64 0, .int .i64 0, .int .i64 0, .int .i64 0, .int .i64 0, .int .i64 0, .int .i64 0, .int .i64 0, .int .i64 0, .int .i64 0, .int .i64 0, .int .i64 0, .int .i64 0, .int .i64 0, .int .i64 0, .int .i64 0, .int .i64 0, .int .i64 0, .int .i64 0, .int .i64 0, .int .i64 0, .int .i64 0, .int .i64 0, .int .i64 0, .int .i64 0, .int .i64 0, .int .i64 0, .int .i64 0, .int .i64 0, .int .i64 0, .int .i64 0, .int .i64 0, .int .i64 0, .int .i64 0, .int .i64 0, .int .i64 0, .int .i64 0, .int .i64 0, .int .i64 0, .int .i64 0, .int .i64 0, .int .i64 0, .int .i64 0, .int .i64 0, .int .i64 0, .int .i64 0, .int .i64 0, .int .i64 0, .bool false, .bool false, .bool false, .bool false, .bool false, .bool false, .bool false, .bool false, .int .i64 0] : Array Value).size = 75 := rfl
    have := World.rowIs_alloc w #[.pointer none, .pointer none, .int .i64 0, .int .i64 0, .int .i64 0, .int .i64 0, .int .i64 0, .int .i64 0, .int .i64 0, .int .i64 0, .int .i64 0, .int .i64 0, .int .i64 0, .int .i64 0, .int .i64 0, .int .i64 0, .int .i64 0, .int .i64 0, .int .i64 0, .int .i64 0, .int .i64 0, .int .i64 0, .int .i64 0, .int .i64 0, .int .i64 0, .int .i64 0, .int .i64 0, .int .i64 0, .int .i64 0, .int .i64 0, .int .i64 0, .int .i64 0, .int .i64 0, .int .i64 0, .int .i64 0, .int .i64 0, .int .i64 0, .int .i64 0, .int .i64 0, .int .i64 0, .int .i64 0, .int .i64 0, .int .i64 0, .int .i64 0, .int .i64 0, .int .i64 0, .int .i64 0, .int .i64 0, .int .i64 0, .int .i64 0, .int .i64 0, .int .i64 0, .int .i64 0, .int .i64 0, .int .i64 0, .int .i64 0, .int .i64 0, .int .i64 0, .int .i64 0, .int .i64 0, .int .i64 0, .int .i64 0, .int .i64 0, .int .i64 0, .int .i64 0, .int .i64 0, .bool false, .bool false, .bool false, .bool false, .bool false, .bool false, .bool false, .bool false, .int .i64 0] 52 p0C (fun i hi => by
      rw [hs] at hi
      rw [← Array.getElem?_toList, p0_list, List.getElem?_map, List.getElem?_range hi]
      rfl)
    rw [hs] at this
    exact this), Lib.hid ((Below.refl _ _).alloc (Nat.le_refl _) _)⟩
set_option maxRecDepth 100000 in
set_option maxHeartbeats 8000000 in
theorem newP_any (w : World) : Calls Try.prog 6 #[] w fun x w' => ∃ p h e, x = .returned (.pointer (some ⟨p, 0, none⟩)) ∧ PoAt w' w.heap.size p h e (fun _ => []) (fun _ => []) zC zU 0 ∧ Below w.heap.size w w' := by
  obtain ⟨w1, p, hw, hp, HX, HB⟩ := p0_at w
  have hz := zero_po
  have hwp : w.heap.size ≤ p := Nat.le_of_eq hp.out
  have C1 := Lib.hid (newQ_ok 16 w1 (by omega) (by omega))
  have C2 := Lib.hid (fun w' => newQ_ok 8 w' (by omega) (by omega))
  go_enter Try.func6, Try.ntmps6
  go_upto_region 2 with fail
  rw [hw.out, hp.out]
  clear hw hp hz
  go_wp2_with fail
  refine C1.out.mono ?_
  rintro x w2 ⟨h, rfl, r2, hh, b2⟩
  have HR2 := Lib.hid r2
  have HX2 := Lib.hid (World.rowIs.of_block HX.out (b2.block p (World.rowIs.lt HX.out)))
  have HB2 := Lib.hid (HB.out.trans (b2.mono HB.out.size))
  have hpl := World.rowIs.lt HX.out
  have hph : p ≠ h := by omega
  have x0 : w2.cell? ⟨p, 0, none⟩ = some (.pointer none) := HX2.out.cell (i := 0) (by omega)
  have f0 := World.rowIs.frozen HX2.out 0
  have HX3 := Lib.hid (World.rowIs.set HX2.out 0 (.pointer (some ⟨h, 0, none⟩)))
  have HB3 := Lib.hid (HB2.out.setCell (p := ⟨p, 0, none⟩) hwp (.pointer (some ⟨h, 0, none⟩)))
  have HR3 : Hid (QR (w2.setCell ⟨p, 0, none⟩ (.pointer (some ⟨h, 0, none⟩))) h 16 (fun _ => [])) := Lib.hid (HR2.out.block (Below.heap_setCell w2 ⟨p, 0, none⟩ _ h hph.symm))
  have hhl : h < (w2.setCell ⟨p, 0, none⟩ (.pointer (some ⟨h, 0, none⟩))).heap.size := HR3.out.lt
  obtain ⟨w3, hw3⟩ : ∃ w3, Hid (w2.setCell ⟨p, 0, none⟩ (.pointer (some ⟨h, 0, none⟩)) = w3) := ⟨_, Lib.hid rfl⟩
  rw [hw3.out] at HX3 HB3 HR3 hhl
  have D2 := Lib.hid (C2.out w3)
  have hsz := HB3.out.size
  have hwh : w.heap.size ≤ h := Nat.le_trans HB.out.size hh
  clear r2 b2 C1 C2 HX HB HR2 HX2 HB2
  go_upto_region 3 with fail
  rw [hw3.out]
  clear hw3 x0 f0
  go_wp2_with fail
  refine D2.out.mono ?_
  rintro x w4 ⟨e, rfl, r4, he, b4⟩
  have hpl3 := World.rowIs.lt HX3.out
  have HX4 := World.rowIs.of_block HX3.out (b4.block p hpl3)
  have hpe : p ≠ e := by omega
  have hhe : h ≠ e := by omega
  have x1 : w4.cell? ⟨p, 1, none⟩ = some (.pointer none) := HX4.cell (i := 1) (by omega)
  have f1 := World.rowIs.frozen HX4 1
  have HB4 := Lib.hid (HB3.out.trans (b4.mono hsz))
  have HP5 : Hid (PoAt (w4.setCell ⟨p, 1, none⟩ (.pointer (some ⟨e, 0, none⟩))) w.heap.size p h e (fun _ => []) (fun _ => []) zC zU 0) := Lib.hid
    { row := (World.rowIs.set HX4 1 (.pointer (some ⟨e, 0, none⟩))).congr (fun j hj => by
        unfold p0C poC
        by_cases a1 : j = 1
        · subst a1; rfl
        · rw [if_neg a1]
          by_cases a0 : j = 0
          · subst a0; rfl
          · rw [if_neg a0, if_neg (show ¬ j < 2 by omega), if_neg a0, if_neg a1, if_neg a0, if_neg a1])
      hot := (HR3.out.below b4).block (Below.heap_setCell w4 ⟨p, 1, none⟩ _ h hph.symm)
      held := r4.block (Below.heap_setCell w4 ⟨p, 1, none⟩ _ e hpe.symm)
      ph := hph
      pe := hpe
      he := hhe
      bp := hwp
      bh := hwh
      be := Nat.le_trans hsz he
      cn := fun j _ => by unfold zC; omega }
  have HB5 := Lib.hid (HB4.out.setCell (p := ⟨p, 1, none⟩) hwp (.pointer (some ⟨e, 0, none⟩)))
  clear r4 b4 D2 HX4 HX3 HR3 HB3 HB4
  go_wp2_with fail
  go_ret
  exact ⟨p, h, e, rfl, HP5.out, HB5.out⟩
end Go.Proofs.Ytfkepplpeakgmaa
