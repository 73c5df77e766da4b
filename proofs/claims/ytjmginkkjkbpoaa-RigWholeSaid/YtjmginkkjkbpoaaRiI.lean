/- Package rig (cellaret): Write, Flush. -/
import Derived.Test.YtjmginkkjkbpoaaRiH
namespace Go.Proofs.Ytjmginkkjkbpoaa
open Go.RowKit Go.Deep
set_option linter.unusedVariables false
set_option linter.unusedSimpArgs false
/-- What a call that is done does to device q, if it is that of device d. -/
def RgS.put (S : RgS) (q d : Int) (f : (Nat → Bk) → Nat → Bk) (c : Nat → Bk) : Nat → Bk := if S.out = 0 ∧ d = q then f c else c
theorem RgS.put_no {S : RgS} (h : S.out ≠ 0) (q d : Int) (f : (Nat → Bk) → Nat → Bk) (c : Nat → Bk) : S.put q d f c = c := by unfold RgS.put; rw [if_neg (fun e => h e.1)]
theorem RgS.put_other {S : RgS} {q d : Int} (h : d ≠ q) (f : (Nat → Bk) → Nat → Bk) (c : Nat → Bk) : S.put q d f c = c := by unfold RgS.put; rw [if_neg (fun e => h e.2)]
theorem RgS.put_yes {S : RgS} (h : S.out = 0) (q : Int) (f : (Nat → Bk) → Nat → Bk) (c : Nat → Bk) : S.put q q f c = f c := by unfold RgS.put; rw [if_pos ⟨h, rfl⟩]
theorem rigWrite_no (p : RgP) (d i : Int) (s : ByteArray) (w : World) (h : rtE d i s ≠ 0) : Calls Try.prog 17 #[.pointer (some ⟨p.R, 0, none⟩), .int .i64 d, .int .i64 i, .string s] w fun e w' => e = .returned (.int .i64 (rtE d i s)) ∧ Below w.heap.size w w' := by
  have CI := Lib.hid (fun w => rigText_any p.R d i s w)
  have h1 : (rtE d i s != 0) = true := by simpa using h
  clear h
  generalize rtE d i s = z at *
  go_enter Try.func17, Try.ntmps17
  go_wp2_with fail
  refine (CI.out _).mono ?_
  rintro e w' ⟨rfl, rfl⟩
  go_wp2_with fail
  go_ret
  exact ⟨rfl, ((Below.refl _ _).alloc (Nat.le_refl _) _).alloc (by simp) _⟩
set_option maxRecDepth 100000 in
theorem write1_any (g r x6 x7 x10 : Nat) (i : Int) (s : ByteArray) (bs : Nat → Bk) (w : World) (hD : DvAt w g r 288 bs) (h10 : w.cell? ⟨x10, 0, none⟩ = some (.func (.func 47) #[.pointer (some ⟨g, 0, none⟩)] #[])) (h6 : w.cell? ⟨x6, 0, none⟩ = some (.int .i64 i)) (h7 : w.cell? ⟨x7, 0, none⟩ = some (.string s)) :
    Calls Try.prog 48 #[.pointer (some ⟨x10, 0, none⟩), .pointer (some ⟨x6, 0, none⟩), .pointer (some ⟨x7, 0, none⟩)] w fun e w' => e = .returned (.int .i64 (txE 288 i s)) ∧ DvAt w' g r 288 (wrtB 288 bs i s) ∧ Kp r w w' := by
  have CR := Lib.hid (write_any g r 288 bs i s w hD)
  clear hD
  go_enter Try.func48, Try.ntmps48
  go_wp2_with fail
  refine (CR.out).mono ?_
  rintro e w' ⟨rfl, hd, hk⟩
  have HD := Lib.hid hd
  have HK := Lib.hid hk
  clear hd hk
  go_wp2_with fail
  go_ret
  exact ⟨rfl, HD.out, HK.out⟩
theorem write1_enter (args : Array Value) (w : World) : (callFunc 48 args).run Try.prog w = .ok (.enter 48 args) w := by go_simp
theorem devFlush_enter (args : Array Value) (w : World) : (callFunc 49 args).run Try.prog w = .ok (.enter 49 args) w := by go_simp
theorem rigFlush_no (p : RgP) (d : Int) (w : World) (h : ¬ (d = 0 ∨ d = 1)) : Calls Try.prog 18 #[.pointer (some ⟨p.R, 0, none⟩), .int .i64 d] w fun e w' => e = .returned (.int .i64 2) ∧ w = w' := by
  have CI := Lib.hid (fun w => rigRefused_any p.R d w)
  rw [show rdE d = 2 by unfold rdE; rw [if_neg h]] at CI
  clear h
  go_enter Try.func18, Try.ntmps18
  go_wp2_with fail
  refine (CI.out _).mono ?_
  rintro e w' ⟨rfl, rfl⟩
  go_wp2_with fail
  go_ret
  exact ⟨rfl, rfl⟩
set_option maxRecDepth 100000 in
set_option maxHeartbeats 2000000 in
theorem rigWrite_ok (B : Nat) (p : RgP) (S : RgS) (c0 c1 : Nat → Bk) (d i : Int) (s : ByteArray) (w : World) (hR : RgAt B w p S c0 c1) (hS : S.d = 0 ∨ S.d = 1) (hB : B ≤ w.heap.size) (ht : rtE d i s = 0) :
    Calls Try.prog 17 #[.pointer (some ⟨p.R, 0, none⟩), .int .i64 d, .int .i64 i, .string s] w fun e w' => e = .returned (.int .i64 S.out) ∧ RgAt B w' p S.aft (S.put 0 d (fun c => wrtB 288 c i s) (S.c0 c0)) (S.put 1 d (fun c => wrtB 288 c i s) (S.c1 c1)) ∧ Kq B p.l w w' := by
  have CI := Lib.hid (fun w => rigText_any p.R d i s w)
  rw [ht] at CI
  have hdt : (d = 0 ∨ d = 1) ∧ txE 288 i s = 0 := by
    unfold rtE at ht
    split at ht
    · rename_i h; exact ⟨h, ht⟩
    · cases ht
  obtain ⟨hd, ht0⟩ := hdt
  have HT := Lib.hid ht0
  clear ht ht0
  have hs1 : (w.alloc (.cells #[.int .i64 i] 3)).heap.size = w.heap.size + 1 := by simp
  have hn := heap_alloc_new (w.alloc (.cells #[.int .i64 i] 3)) (.cells #[.string s] 9)
  have ho := heap_alloc_old (w.alloc (.cells #[.int .i64 i] 3)) (.cells #[.string s] 9) (show w.heap.size < _ by rw [hs1]; omega)
  rw [heap_alloc_new] at ho
  rw [hs1] at hn
  obtain ⟨w1, HW, HB1, h6, h7, hz⟩ : ∃ w1, Hid ((w.alloc (.cells #[.int .i64 i] 3)).alloc (.cells #[.string s] 9) = w1) ∧ Hid (Below w.heap.size w w1) ∧ w1.cell? ⟨w.heap.size, 0, none⟩ = some (.int .i64 i) ∧ w1.cell? ⟨w.heap.size + 1, 0, none⟩ = some (.string s) ∧ w.heap.size + 1 < w1.heap.size := ⟨_, Lib.hid rfl, Lib.hid (((Below.refl _ _).alloc (Nat.le_refl _) _).alloc (by simp) _), cell_of_row _ _ 0 _ _ _ ho, cell_of_row _ _ 0 _ _ _ hn, by simp⟩
  clear hs1 hn ho
  have HR1 := Lib.hid (hR.below HB1.out)
  have HR := Lib.hid hR
  obtain ⟨q0, q1, -⟩ := HR1.out.cells
  have hg1 : p.g1 < w.heap.size := HR.out.bound
  have hpl : p.R < w.heap.size := hR.lt
  clear hR
  rcases hd with rfl | rfl
  · have o0 : S.put 1 0 (fun c => wrtB 288 c i s) (S.c1 c1) = S.c1 c1 := RgS.put_other (by decide) _ _
    have HOT := Lib.hid o0
    clear o0
    go_enter Try.func17, Try.ntmps17
    go_upto_region 1 with fail
    rw [HW.out]
    go_wp2_with fail
    refine (CI.out _).mono ?_
    rintro e w' ⟨rfl, rfl⟩
    go_upto_region 5 with fail
    have h10 : (w1.alloc (.cells #[.func (.func 47) #[.pointer (some ⟨p.g0, 0, none⟩)] #[]] 73)).cell? ⟨w1.heap.size, 0, none⟩ = some (.func (.func 47) #[.pointer (some ⟨p.g0, 0, none⟩)] #[]) := cell_of_row _ _ 0 _ _ _ (heap_alloc_new _ _)
    obtain ⟨w2, HW2, HB2⟩ : ∃ w2, Hid (w1.alloc (.cells #[.func (.func 47) #[.pointer (some ⟨p.g0, 0, none⟩)] #[]] 73) = w2) ∧ Hid (Below w1.heap.size w1 w2) := ⟨_, Lib.hid rfl, Lib.hid ((Below.refl _ _).alloc (Nat.le_refl _) _)⟩
    rw [HW2.out] at h10 ⊢
    have HRx := Lib.hid (HR1.out.below HB2.out)
    have H10 := Lib.hid h10
    have H6 := Lib.hid ((HB2.out.cell (p := ⟨w.heap.size, 0, none⟩) (by show w.heap.size < w1.heap.size; omega)).trans h6)
    have H7 := Lib.hid ((HB2.out.cell (p := ⟨w.heap.size + 1, 0, none⟩) hz).trans h7)
    have HN : Hid (w1.heap.size ∉ p.l ∧ w.heap.size + 1 ∉ p.l ∧ w.heap.size ∉ p.l) := Lib.hid ⟨HR.out.ok.not (by omega), HR.out.ok.not (by omega), HR.out.ok.not hg1⟩
    have HKx : Hid (Kq B p.l w w2) := Lib.hid ((Kq.of_below HB1.out hB).trans (Kq.of_below HB2.out (by omega)))
    have CD : Hid (Calls Try.prog 29 #[.pointer (some ⟨p.R, 0, none⟩), .func (.func 48) #[] #[.pointer (some ⟨w1.heap.size, 0, none⟩), .pointer (some ⟨w.heap.size, 0, none⟩), .pointer (some ⟨w.heap.size + 1, 0, none⟩)]] w2 (StepP B p S c0 c1 (fun w3 k w' => k = 0 ∧ DvAt w' p.g0 p.r0 288 (wrtB 288 (S.hit0 c0) i s) ∧ Kp p.r0 w3 w') w2)) := Lib.hid
      (step_any B p S c0 c1 _ _ #[] _ w2 HRx.out hS write1_enter (Lib.hid (fun w3 h3 k3 => (write1_any p.g0 p.r0 w.heap.size (w.heap.size + 1) w1.heap.size i s (S.hit0 c0) w3 h3.d0 (k3.cell HN.out.1 H10.out) (k3.cell HN.out.2.2 H6.out) (k3.cell HN.out.2.1 H7.out)).mono (fun e w' h => ⟨0, by rw [h.1, HT.out], rfl, h.2⟩))))
    clear q0 q1 h6 h7 h10 HW2
    go_wp2_with fail
    refine (CD.out).mono ?_
    rintro e w3 hst
    obtain ⟨k, rfl, h | h⟩ := hst.two HRx.out
    · obtain ⟨ho, rfl, hr, hk⟩ := h
      have HR3 : Hid (RgAt B w3 p S.aft (S.put 0 0 (fun c => wrtB 288 c i s) (S.c0 c0)) (S.put 1 0 (fun c => wrtB 288 c i s) (S.c1 c1))) := Lib.hid (by rw [RgS.put_no ho, RgS.put_no ho]; exact hr)
      have HK3 := Lib.hid (HKx.out.trans hk)
      clear hr hk ho hst
      go_wp2_with fail
      go_ret
      exact ⟨rfl, HR3.out, HK3.out⟩
    · obtain ⟨ho, w4, hr, hk, rfl, hd, hk2⟩ := h
      have HR3 : Hid (RgAt B w3 p S.aft (S.put 0 0 (fun c => wrtB 288 c i s) (S.c0 c0)) (S.put 1 0 (fun c => wrtB 288 c i s) (S.c1 c1))) := Lib.hid (by
        rw [HOT.out, RgS.put_yes ho, (RgS.go0 ho c0).1]
        exact hr.dev0 hd hk2)
      have HK3 := Lib.hid ((HKx.out.trans hk).trans (hr.kq0 hk2))
      have HO := Lib.hid ho
      clear hr hk ho hst hd hk2
      go_wp2_with fail
      go_ret
      exact ⟨by first | (rw [HO.out]; rfl) | rfl, HR3.out, HK3.out⟩
  · have o0 : S.put 0 1 (fun c => wrtB 288 c i s) (S.c0 c0) = S.c0 c0 := RgS.put_other (by decide) _ _
    have HOT := Lib.hid o0
    clear o0
    go_enter Try.func17, Try.ntmps17
    go_upto_region 1 with fail
    rw [HW.out]
    go_wp2_with fail
    refine (CI.out _).mono ?_
    rintro e w' ⟨rfl, rfl⟩
    go_upto_region 5 with fail
    have h10 : (w1.alloc (.cells #[.func (.func 47) #[.pointer (some ⟨p.g1, 0, none⟩)] #[]] 73)).cell? ⟨w1.heap.size, 0, none⟩ = some (.func (.func 47) #[.pointer (some ⟨p.g1, 0, none⟩)] #[]) := cell_of_row _ _ 0 _ _ _ (heap_alloc_new _ _)
    obtain ⟨w2, HW2, HB2⟩ : ∃ w2, Hid (w1.alloc (.cells #[.func (.func 47) #[.pointer (some ⟨p.g1, 0, none⟩)] #[]] 73) = w2) ∧ Hid (Below w1.heap.size w1 w2) := ⟨_, Lib.hid rfl, Lib.hid ((Below.refl _ _).alloc (Nat.le_refl _) _)⟩
    rw [HW2.out] at h10 ⊢
    have HRx := Lib.hid (HR1.out.below HB2.out)
    have H10 := Lib.hid h10
    have H6 := Lib.hid ((HB2.out.cell (p := ⟨w.heap.size, 0, none⟩) (by show w.heap.size < w1.heap.size; omega)).trans h6)
    have H7 := Lib.hid ((HB2.out.cell (p := ⟨w.heap.size + 1, 0, none⟩) hz).trans h7)
    have HN : Hid (w1.heap.size ∉ p.l ∧ w.heap.size + 1 ∉ p.l ∧ w.heap.size ∉ p.l) := Lib.hid ⟨HR.out.ok.not (by omega), HR.out.ok.not (by omega), HR.out.ok.not hg1⟩
    have HKx : Hid (Kq B p.l w w2) := Lib.hid ((Kq.of_below HB1.out hB).trans (Kq.of_below HB2.out (by omega)))
    have CD : Hid (Calls Try.prog 29 #[.pointer (some ⟨p.R, 0, none⟩), .func (.func 48) #[] #[.pointer (some ⟨w1.heap.size, 0, none⟩), .pointer (some ⟨w.heap.size, 0, none⟩), .pointer (some ⟨w.heap.size + 1, 0, none⟩)]] w2 (StepP B p S c0 c1 (fun w3 k w' => k = 0 ∧ DvAt w' p.g1 p.r1 288 (wrtB 288 (S.hit1 c1) i s) ∧ Kp p.r1 w3 w') w2)) := Lib.hid
      (step_any B p S c0 c1 _ _ #[] _ w2 HRx.out hS write1_enter (Lib.hid (fun w3 h3 k3 => (write1_any p.g1 p.r1 w.heap.size (w.heap.size + 1) w1.heap.size i s (S.hit1 c1) w3 h3.d1 (k3.cell HN.out.1 H10.out) (k3.cell HN.out.2.2 H6.out) (k3.cell HN.out.2.1 H7.out)).mono (fun e w' h => ⟨0, by rw [h.1, HT.out], rfl, h.2⟩))))
    clear q0 q1 h6 h7 h10 HW2
    go_wp2_with fail
    refine (CD.out).mono ?_
    rintro e w3 hst
    obtain ⟨k, rfl, h | h⟩ := hst.two HRx.out
    · obtain ⟨ho, rfl, hr, hk⟩ := h
      have HR3 : Hid (RgAt B w3 p S.aft (S.put 0 1 (fun c => wrtB 288 c i s) (S.c0 c0)) (S.put 1 1 (fun c => wrtB 288 c i s) (S.c1 c1))) := Lib.hid (by rw [RgS.put_no ho, RgS.put_no ho]; exact hr)
      have HK3 := Lib.hid (HKx.out.trans hk)
      clear hr hk ho hst
      go_wp2_with fail
      go_ret
      exact ⟨rfl, HR3.out, HK3.out⟩
    · obtain ⟨ho, w4, hr, hk, rfl, hd, hk2⟩ := h
      have HR3 : Hid (RgAt B w3 p S.aft (S.put 0 1 (fun c => wrtB 288 c i s) (S.c0 c0)) (S.put 1 1 (fun c => wrtB 288 c i s) (S.c1 c1))) := Lib.hid (by
        rw [HOT.out, RgS.put_yes ho, (RgS.go0 ho c1).2]
        exact hr.dev1 hd hk2)
      have HK3 := Lib.hid ((HKx.out.trans hk).trans (hr.kq1 hk2))
      have HO := Lib.hid ho
      clear hr hk ho hst hd hk2
      go_wp2_with fail
      go_ret
      exact ⟨by first | (rw [HO.out]; rfl) | rfl, HR3.out, HK3.out⟩
set_option maxRecDepth 100000 in
set_option maxHeartbeats 2000000 in
theorem rigFlush_ok (B : Nat) (p : RgP) (S : RgS) (c0 c1 : Nat → Bk) (d : Int) (w : World) (hR : RgAt B w p S c0 c1) (hS : S.d = 0 ∨ S.d = 1) (hd : d = 0 ∨ d = 1) :
    Calls Try.prog 18 #[.pointer (some ⟨p.R, 0, none⟩), .int .i64 d] w fun e w' => e = .returned (.int .i64 S.out) ∧ RgAt B w' p S.aft (S.put 0 d (fun c => stB c (fun i => (c i).now) 288) (S.c0 c0)) (S.put 1 d (fun c => stB c (fun i => (c i).now) 288) (S.c1 c1)) ∧ Kq B p.l w w' := by
  have CI := Lib.hid (fun w => rigRefused_any p.R d w)
  rw [show rdE d = 0 by unfold rdE; rw [if_pos hd]] at CI
  have HR := Lib.hid hR
  obtain ⟨q0, q1, -⟩ := HR.out.cells
  clear hR
  rcases hd with rfl | rfl
  · have o0 : S.put 1 0 (fun c => stB c (fun i => (c i).now) 288) (S.c1 c1) = S.c1 c1 := RgS.put_other (by decide) _ _
    have HOT := Lib.hid o0
    clear o0
    have CD : Hid (Calls Try.prog 29 #[.pointer (some ⟨p.R, 0, none⟩), .func (.func 49) #[.pointer (some ⟨p.g0, 0, none⟩)] #[]] w (StepP B p S c0 c1 (fun w3 k w' => k = 0 ∧ DvAt w' p.g0 p.r0 288 (stB (S.hit0 c0) (fun i => (S.hit0 c0 i).now) 288) ∧ Kp p.r0 w3 w') w)) := Lib.hid
      (step_any B p S c0 c1 _ _ #[.pointer (some ⟨p.g0, 0, none⟩)] #[] w HR.out hS devFlush_enter (Lib.hid (fun w3 h3 k3 => (flush_okD p.g0 p.r0 288 (S.hit0 c0) w3 h3.d0 (by omega)).mono (fun e w' h => ⟨0, h.1, rfl, h.2⟩))))
    go_enter Try.func18, Try.ntmps18
    go_wp2_with fail
    refine (CI.out _).mono ?_
    rintro e w' ⟨rfl, rfl⟩
    go_wp2_with fail
    refine (CD.out).mono ?_
    rintro e w3 hst
    obtain ⟨k, rfl, h | h⟩ := hst.two HR.out
    · obtain ⟨ho, rfl, hr, hk⟩ := h
      have HR3 : Hid (RgAt B w3 p S.aft (S.put 0 0 (fun c => stB c (fun i => (c i).now) 288) (S.c0 c0)) (S.put 1 0 (fun c => stB c (fun i => (c i).now) 288) (S.c1 c1))) := Lib.hid (by rw [RgS.put_no ho, RgS.put_no ho]; exact hr)
      have HK3 := Lib.hid hk
      clear hr hk ho hst
      go_wp2_with fail
      go_ret
      exact ⟨rfl, HR3.out, HK3.out⟩
    · obtain ⟨ho, w4, hr, hk, rfl, hd, hk2⟩ := h
      have HR3 : Hid (RgAt B w3 p S.aft (S.put 0 0 (fun c => stB c (fun i => (c i).now) 288) (S.c0 c0)) (S.put 1 0 (fun c => stB c (fun i => (c i).now) 288) (S.c1 c1))) := Lib.hid (by
        rw [HOT.out, RgS.put_yes ho, (RgS.go0 ho c0).1]
        exact hr.dev0 hd hk2)
      have HK3 := Lib.hid (hk.trans (hr.kq0 hk2))
      have HO := Lib.hid ho
      clear hr hk ho hst hd hk2
      go_wp2_with fail
      go_ret
      exact ⟨by first | (rw [HO.out]; rfl) | rfl, HR3.out, HK3.out⟩
  · have o0 : S.put 0 1 (fun c => stB c (fun i => (c i).now) 288) (S.c0 c0) = S.c0 c0 := RgS.put_other (by decide) _ _
    have HOT := Lib.hid o0
    clear o0
    have CD : Hid (Calls Try.prog 29 #[.pointer (some ⟨p.R, 0, none⟩), .func (.func 49) #[.pointer (some ⟨p.g1, 0, none⟩)] #[]] w (StepP B p S c0 c1 (fun w3 k w' => k = 0 ∧ DvAt w' p.g1 p.r1 288 (stB (S.hit1 c1) (fun i => (S.hit1 c1 i).now) 288) ∧ Kp p.r1 w3 w') w)) := Lib.hid
      (step_any B p S c0 c1 _ _ #[.pointer (some ⟨p.g1, 0, none⟩)] #[] w HR.out hS devFlush_enter (Lib.hid (fun w3 h3 k3 => (flush_okD p.g1 p.r1 288 (S.hit1 c1) w3 h3.d1 (by omega)).mono (fun e w' h => ⟨0, h.1, rfl, h.2⟩))))
    go_enter Try.func18, Try.ntmps18
    go_wp2_with fail
    refine (CI.out _).mono ?_
    rintro e w' ⟨rfl, rfl⟩
    go_wp2_with fail
    refine (CD.out).mono ?_
    rintro e w3 hst
    obtain ⟨k, rfl, h | h⟩ := hst.two HR.out
    · obtain ⟨ho, rfl, hr, hk⟩ := h
      have HR3 : Hid (RgAt B w3 p S.aft (S.put 0 1 (fun c => stB c (fun i => (c i).now) 288) (S.c0 c0)) (S.put 1 1 (fun c => stB c (fun i => (c i).now) 288) (S.c1 c1))) := Lib.hid (by rw [RgS.put_no ho, RgS.put_no ho]; exact hr)
      have HK3 := Lib.hid hk
      clear hr hk ho hst
      go_wp2_with fail
      go_ret
      exact ⟨rfl, HR3.out, HK3.out⟩
    · obtain ⟨ho, w4, hr, hk, rfl, hd, hk2⟩ := h
      have HR3 : Hid (RgAt B w3 p S.aft (S.put 0 1 (fun c => stB c (fun i => (c i).now) 288) (S.c0 c0)) (S.put 1 1 (fun c => stB c (fun i => (c i).now) 288) (S.c1 c1))) := Lib.hid (by
        rw [HOT.out, RgS.put_yes ho, (RgS.go0 ho c1).2]
        exact hr.dev1 hd hk2)
      have HK3 := Lib.hid (hk.trans (hr.kq1 hk2))
      have HO := Lib.hid ho
      clear hr hk ho hst hd hk2
      go_wp2_with fail
      go_ret
      exact ⟨by first | (rw [HO.out]; rfl) | rfl, HR3.out, HK3.out⟩
end Go.Proofs.Ytjmginkkjkbpoaa
