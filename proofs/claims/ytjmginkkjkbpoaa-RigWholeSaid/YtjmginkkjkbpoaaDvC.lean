/- Package dev (cellaret): New, settle, walker. -/
import Derived.Test.YtjmginkkjkbpoaaDvB
namespace Go.Proofs.Ytjmginkkjkbpoaa
open Go.RowKit Go.Deep
set_option linter.unusedVariables false
set_option linter.unusedSimpArgs false
/-- So many bytes 0. -/
def zsB (m : Nat) : ByteArray := ⟨((List.range m).map fun _ => (0 : UInt8)).toArray⟩
theorem zsB_size (m : Nat) : (zsB m).size = m := by unfold zsB; rw [bytes_size, List.length_map, List.length_range]
set_option maxRecDepth 100000 in
set_option maxHeartbeats 1000000 in
theorem new_okO (n : Nat) (w : World) (h1 : 1 ≤ n) (h512 : n ≤ 512) : Calls Try.prog 26 #[.int .i64 (n : Int)] w fun e w' => ∃ g rb, e = .returned (.tuple #[.pointer (some ⟨g, 0, none⟩), .int .i64 0]) ∧ DvAt w' g rb n (ofB (zsB (64 * n)) n) ∧ Below w.heap.size w w' ∧ w.heap.size ≤ rb ∧ rb < g := by
  have CM := Lib.hid (fun w => mayHave_any (n : Int) w)
  rw [show (decide (1 ≤ (n : Int)) && decide ((n : Int) ≤ 512)) = true by simp; omega] at CM
  have CO := Lib.hid (fun w => of_anyO (zsB (64 * n)) n w (zsB_size _) h1 h512)
  obtain ⟨m, hm⟩ : ∃ m, Hid (64 * n = m) := ⟨_, Lib.hid rfl⟩
  rw [hm.out] at CO ⊢
  have y1 : IntKind.i64.wrap ((n : Int) * 64) = (m : Int) := by rw [IntWalk.i64_in _ (by omega)]; have := hm.out; omega
  have hmk := run_make_row' (P := Try.prog) 50 5 (.int .u8 0) 1 Try.underlying50 (by kernel_rfl) rfl .i64 .i64 m (by have := hm.out; omega) (by have := hm.out; omega) (w := w)
  have hcv := conv_row (P := Try.prog) (cap := m) (W := m) (dst := 9) (f := fun _ => 0) Try.underlying50 Try.underlying5 Try.underlying9 (World.rowIs_made w (.int .u8 0) m 5) (Nat.le_refl _)
  have hz : (⟨((List.range m).map fun _ => (0 : UInt8)).toArray⟩ : ByteArray) = zsB m := rfl
  rw [hz] at hcv
  clear hz
  generalize zsB m = z at *
  go_enter Try.func26, Try.ntmps26
  go_wp2_with fail
  refine (CM.out _).mono ?_
  rintro e w' ⟨rfl, rfl⟩
  go_wp2_with fail
  refine (CO.out _).mono ?_
  rintro e w2 ⟨g, rb, rfl, hD, b2, hrb, hrg⟩
  have HD := Lib.hid hD
  have HRB : Hid (w.heap.size ≤ rb ∧ rb < g) := Lib.hid (by simp at hrb; omega)
  clear hD hrb hrg
  go_wp2_with fail
  go_ret2
  exact ⟨g, rb, rfl, HD.out, ((Below.refl _ _).alloc (Nat.le_refl _) _).trans (b2.mono (by simp)), HRB.out⟩
theorem new_okD (n : Nat) (w : World) (h1 : 1 ≤ n) (h512 : n ≤ 512) : Calls Try.prog 26 #[.int .i64 (n : Int)] w fun e w' => ∃ g rb, e = .returned (.tuple #[.pointer (some ⟨g, 0, none⟩), .int .i64 0]) ∧ DvAt w' g rb n (ofB (zsB (64 * n)) n) ∧ Below w.heap.size w w' ∧ w.heap.size ≤ rb :=
  (new_okO n w h1 h512).mono (fun e w' ⟨g, rb, h1, h2, h3, h4, _⟩ => ⟨g, rb, h1, h2, h3, h4⟩)
set_option maxRecDepth 100000 in
theorem settle_any (g rb n i : Nat) (bs : Nat → Bk) (s : ByteArray) (w : World) (hD : DvAt w g rb n bs) (hi : i < n) : Calls Try.prog 62 #[.pointer (some ⟨rb, i * 3, none⟩), .string s] w fun e w' => e = .returned (.tuple #[]) ∧ DvAt w' g rb n (upB bs i ⟨s, s, false⟩) ∧ Kp rb w w' := by
  have c0 := hD.now i hi
  have c1 := hD.safe i hi
  have c2 := hD.wr i hi
  have f0 := World.rowIs.frozen hD.row (i * 3)
  have f1 := World.rowIs.frozen hD.row (i * 3 + 1)
  have f2 := World.rowIs.frozen hD.row (i * 3 + 2)
  have HD := Lib.hid hD
  clear hD
  go_enter Try.func62, Try.ntmps62
  go_wp2_with fail
  go_end0
  exact ⟨rfl, HD.out.put i hi s s false, (((Kp.refl rb w).setCell (i * 3) _).setCell (i * 3 + 1) _).setCell (i * 3 + 2) _⟩
theorem walker_any (g : Nat) (w : World) : Calls Try.prog 60 #[.pointer (some ⟨g, 0, none⟩)] w fun e w' => e = .returned (.func (.func 69) #[] #[.pointer (some ⟨w.heap.size, 0, none⟩)]) ∧ w'.cell? ⟨w.heap.size, 0, none⟩ = some (.pointer (some ⟨g, 0, none⟩)) ∧ Below w.heap.size w w' := by
  go_enter Try.func60, Try.ntmps60
  go_wp2_with fail
  go_ret
  exact ⟨rfl, by simp [go_sem], (Below.refl _ _).alloc (Nat.le_refl _) _⟩
set_option maxRecDepth 100000 in
set_option maxHeartbeats 2000000 in
theorem walk0 (g rb n p fn : Nat) (B : Nat → Nat → Bk) (J : Nat → World → Prop) (w : World) (hn : n ≤ 512)
    (hD : Hid (DvAt w g rb n (B 0))) (hP : Hid (w.cell? ⟨p, 0, none⟩ = some (.pointer (some ⟨g, 0, none⟩)))) (hJ : Hid (J 0 w))
    (heg : ∀ (args : Array Value) (w : World), (callFunc fn args).run Try.prog w = .ok (.enter fn args) w)
    (hstep : Hid (∀ i, i < n → (B i i).wr = true → ∀ w, DvAt w g rb n (B i) → w.cell? ⟨p, 0, none⟩ = some (.pointer (some ⟨g, 0, none⟩)) → J i w → Calls Try.prog fn #[.int .i64 (i : Int), .pointer (some ⟨rb, i * 3, none⟩)] w fun e w' => e = .returned (.tuple #[]) ∧ DvAt w' g rb n (B (i + 1)) ∧ w'.cell? ⟨p, 0, none⟩ = some (.pointer (some ⟨g, 0, none⟩)) ∧ J (i + 1) w'))
    (hskip : Hid (∀ i, i < n → (B i i).wr = false → B (i + 1) = B i ∧ ∀ w, J i w → J (i + 1) w)) :
    Calls Try.prog 69 #[.func (.func fn) #[] #[], .pointer (some ⟨p, 0, none⟩)] w fun e w' => e = .returned (.tuple #[]) ∧ DvAt w' g rb n (B n) ∧ J n w' := by
  have hc0 := hD.out.hd
  have hp0 := hP.out
  go_enter Try.func69, Try.ntmps69
  go_wp2_with fail
  go_loopw [10] (fun x wi => ∃ k : Nat, x = .int .i64 (k : Int) ∧ k ≤ n ∧ Hid (DvAt wi g rb n (B k)) ∧ Hid (wi.cell? ⟨p, 0, none⟩ = some (.pointer (some ⟨g, 0, none⟩))) ∧ Hid (J k wi)) (fun x _ => n - (intOf x).toNat)
  case atStart => exact ⟨0, rfl, by omega, hD, hP, hJ⟩
  clear hc0 hp0 hD hP hJ
  case round =>
    obtain ⟨k, rfl, hk, HD, HP, HJ⟩ := hrel
    by_cases hlt : k < n
    · have hli : (k : Int) < n := by omega
      have hc := HD.out.hd
      have hp := HP.out
      have c2 := HD.out.wr k hlt
      cases hw : (B k k).wr with
      | true =>
        rw [hw] at c2
        have CS := Lib.hid (hstep.out k hlt hw _ HD.out HP.out HJ.out)
        clear hw
        go_wp2_with fail
        refine (CS.out).mono ?_
        rintro e w1 ⟨rfl, d1, q1, j1⟩
        have HD1 := Lib.hid d1
        have HP1 := Lib.hid q1
        have HJ1 := Lib.hid j1
        clear d1 q1 j1 hc hp c2 CS
        go_wp2_with fail
        go_roundw
        case rel => exact ⟨k + 1, by go_num, by omega, HD1, HP1, HJ1⟩
        case measure => simp [intOf]; omega
      | false =>
        rw [hw] at c2
        obtain ⟨s1, s2⟩ := hskip.out k hlt hw
        have HD1 : Hid (DvAt wr g rb n (B (k + 1))) := Lib.hid (by rw [s1]; exact HD.out)
        have HJ1 := Lib.hid (s2 _ HJ.out)
        clear hw s1 s2
        go_wp2_with fail
        go_roundw
        case rel => exact ⟨k + 1, by go_num, by omega, HD1, HP, HJ1⟩
        case measure => simp [intOf]; omega
    · obtain rfl : k = n := by omega
      go_wp2_with fail
      go_end0
      exact ⟨rfl, HD.out, HJ.out⟩
set_option maxRecDepth 100000 in
set_option maxHeartbeats 2000000 in
theorem walk1 (g rb n p fn : Nat) (c : Value) (B : Nat → Nat → Bk) (J : Nat → World → Prop) (w : World) (hn : n ≤ 512)
    (hD : Hid (DvAt w g rb n (B 0))) (hP : Hid (w.cell? ⟨p, 0, none⟩ = some (.pointer (some ⟨g, 0, none⟩)))) (hJ : Hid (J 0 w))
    (heg : ∀ (args : Array Value) (w : World), (callFunc fn args).run Try.prog w = .ok (.enter fn args) w)
    (hstep : Hid (∀ i, i < n → (B i i).wr = true → ∀ w, DvAt w g rb n (B i) → w.cell? ⟨p, 0, none⟩ = some (.pointer (some ⟨g, 0, none⟩)) → J i w → Calls Try.prog fn #[.int .i64 (i : Int), .pointer (some ⟨rb, i * 3, none⟩), c] w fun e w' => e = .returned (.tuple #[]) ∧ DvAt w' g rb n (B (i + 1)) ∧ w'.cell? ⟨p, 0, none⟩ = some (.pointer (some ⟨g, 0, none⟩)) ∧ J (i + 1) w'))
    (hskip : Hid (∀ i, i < n → (B i i).wr = false → B (i + 1) = B i ∧ ∀ w, J i w → J (i + 1) w)) :
    Calls Try.prog 69 #[.func (.func fn) #[] #[c], .pointer (some ⟨p, 0, none⟩)] w fun e w' => e = .returned (.tuple #[]) ∧ DvAt w' g rb n (B n) ∧ J n w' := by
  have hc0 := hD.out.hd
  have hp0 := hP.out
  go_enter Try.func69, Try.ntmps69
  go_wp2_with fail
  go_loopw [10] (fun x wi => ∃ k : Nat, x = .int .i64 (k : Int) ∧ k ≤ n ∧ Hid (DvAt wi g rb n (B k)) ∧ Hid (wi.cell? ⟨p, 0, none⟩ = some (.pointer (some ⟨g, 0, none⟩))) ∧ Hid (J k wi)) (fun x _ => n - (intOf x).toNat)
  case atStart => exact ⟨0, rfl, by omega, hD, hP, hJ⟩
  clear hc0 hp0 hD hP hJ
  case round =>
    obtain ⟨k, rfl, hk, HD, HP, HJ⟩ := hrel
    by_cases hlt : k < n
    · have hli : (k : Int) < n := by omega
      have hc := HD.out.hd
      have hp := HP.out
      have c2 := HD.out.wr k hlt
      cases hw : (B k k).wr with
      | true =>
        rw [hw] at c2
        have CS := Lib.hid (hstep.out k hlt hw _ HD.out HP.out HJ.out)
        clear hw
        go_wp2_with fail
        refine (CS.out).mono ?_
        rintro e w1 ⟨rfl, d1, q1, j1⟩
        have HD1 := Lib.hid d1
        have HP1 := Lib.hid q1
        have HJ1 := Lib.hid j1
        clear d1 q1 j1 hc hp c2 CS
        go_wp2_with fail
        go_roundw
        case rel => exact ⟨k + 1, by go_num, by omega, HD1, HP1, HJ1⟩
        case measure => simp [intOf]; omega
      | false =>
        rw [hw] at c2
        obtain ⟨s1, s2⟩ := hskip.out k hlt hw
        have HD1 : Hid (DvAt wr g rb n (B (k + 1))) := Lib.hid (by rw [s1]; exact HD.out)
        have HJ1 := Lib.hid (s2 _ HJ.out)
        clear hw s1 s2
        go_wp2_with fail
        go_roundw
        case rel => exact ⟨k + 1, by go_num, by omega, HD1, HP, HJ1⟩
        case measure => simp [intOf]; omega
    · obtain rfl : k = n := by omega
      go_wp2_with fail
      go_end0
      exact ⟨rfl, HD.out, HJ.out⟩
end Go.Proofs.Ytjmginkkjkbpoaa
