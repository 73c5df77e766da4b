/- Package rig (cellaret): Reg, SetReg, Tamper, what is to come, Down, Calls, Dev. -/
import Derived.Test.YtjmginkkjkbpoaaRiI
namespace Go.Proofs.Ytjmginkkjkbpoaa
open Go.RowKit Go.Deep
set_option linter.unusedVariables false
set_option linter.unusedSimpArgs false
set_option maxRecDepth 100000 in
theorem reg1_any (B : Nat) (p : RgP) (S : RgS) (c0 c1 : Nat → Bk) (x1 x4 : Nat) (v : Value) (w : World) (hR : RgAt B w p S c0 c1) (h1 : w.cell? ⟨x1, 0, none⟩ = some (.pointer (some ⟨p.R, 0, none⟩))) (h4 : w.cell? ⟨x4, 0, none⟩ = some v) (f4 : w.frozen? ⟨x4, 0, none⟩ = false) :
    Calls Try.prog 40 #[.pointer (some ⟨x1, 0, none⟩), .pointer (some ⟨x4, 0, none⟩)] w fun e w' => e = .returned (.int .i64 0) ∧ w.setCell ⟨x4, 0, none⟩ (.string S.reg) = w' := by
  obtain ⟨-, -, q2, -⟩ := hR.cells
  clear hR
  generalize S.reg = s at *
  go_enter Try.func40, Try.ntmps40
  go_wp2_with fail
  go_ret
  exact ⟨rfl, rfl⟩
theorem reg1_enter (args : Array Value) (w : World) : (callFunc 40 args).run Try.prog w = .ok (.enter 40 args) w := by go_simp
def RgS.setR (S : RgS) (s : ByteArray) : RgS := { S with reg := s }
set_option maxRecDepth 100000 in
theorem setReg1_any (B : Nat) (p : RgP) (S : RgS) (c0 c1 : Nat → Bk) (x2 x3 : Nat) (s : ByteArray) (w : World) (hR : RgAt B w p S c0 c1) (h2 : w.cell? ⟨x2, 0, none⟩ = some (.pointer (some ⟨p.R, 0, none⟩))) (h3 : w.cell? ⟨x3, 0, none⟩ = some (.string s)) :
    Calls Try.prog 30 #[.pointer (some ⟨x3, 0, none⟩), .pointer (some ⟨x2, 0, none⟩)] w fun e w' => e = .returned (.int .i64 0) ∧ RgAt B w' p (S.setR s) c0 c1 ∧ Kq B p.l w w' := by
  obtain ⟨-, -, q2, -⟩ := hR.cells
  have f2 := hR.free 2
  have HR := Lib.hid hR
  clear hR
  go_enter Try.func30, Try.ntmps30
  go_wp2_with fail
  go_ret
  exact ⟨rfl, HR.out.set 2 (.string s) rfl, HR.out.kset (Kq.refl _ _ _) 2 _⟩
theorem setReg1_enter (args : Array Value) (w : World) : (callFunc 30 args).run Try.prog w = .ok (.enter 30 args) w := by go_simp
set_option maxRecDepth 100000 in
set_option maxHeartbeats 2000000 in
theorem rigReg_any (B : Nat) (p : RgP) (S : RgS) (c0 c1 : Nat → Bk) (w : World) (hR : RgAt B w p S c0 c1) (hS : S.d = 0 ∨ S.d = 1) (hB : B ≤ w.heap.size) :
    Calls Try.prog 13 #[.pointer (some ⟨p.R, 0, none⟩)] w fun e w' => e = .returned (.tuple #[.string (if S.out = 0 then S.reg else ⟨#[]⟩), .int .i64 S.out]) ∧ RgAt B w' p S.aft (S.c0 c0) (S.c1 c1) ∧ Kq B p.l w w' := by
  have hs1 : (w.alloc (.cells #[.pointer (some ⟨p.R, 0, none⟩)] 23)).heap.size = w.heap.size + 1 := by simp
  have hn := heap_alloc_new (w.alloc (.cells #[.pointer (some ⟨p.R, 0, none⟩)] 23)) (.cells #[.string ⟨#[]⟩] 9)
  have ho := heap_alloc_old (w.alloc (.cells #[.pointer (some ⟨p.R, 0, none⟩)] 23)) (.cells #[.string ⟨#[]⟩] 9) (show w.heap.size < _ by rw [hs1]; omega)
  rw [heap_alloc_new] at ho
  rw [hs1] at hn
  obtain ⟨w1, HW, HB1, h1, h4, f4, hz⟩ : ∃ w1, Hid ((w.alloc (.cells #[.pointer (some ⟨p.R, 0, none⟩)] 23)).alloc (.cells #[.string ⟨#[]⟩] 9) = w1) ∧ Hid (Below w.heap.size w w1) ∧ w1.cell? ⟨w.heap.size, 0, none⟩ = some (.pointer (some ⟨p.R, 0, none⟩)) ∧ w1.cell? ⟨w.heap.size + 1, 0, none⟩ = some (.string ⟨#[]⟩) ∧ w1.frozen? ⟨w.heap.size + 1, 0, none⟩ = false ∧ w.heap.size + 1 < w1.heap.size := ⟨_, Lib.hid rfl, Lib.hid (((Below.refl _ _).alloc (Nat.le_refl _) _).alloc (by simp) _), cell_of_row _ _ 0 _ _ _ ho, cell_of_row _ _ 0 _ _ _ hn, frozen_of_row _ _ 0 _ _ hn, by simp⟩
  clear hs1 hn ho
  have HR1 := Lib.hid (hR.below HB1.out)
  have HR := Lib.hid hR
  have hg1 : p.g1 < w.heap.size := HR.out.bound
  clear hR
  have HN : Hid (w.heap.size ∉ p.l ∧ w.heap.size + 1 ∉ p.l) := Lib.hid ⟨HR.out.ok.not hg1, HR.out.ok.not (by omega)⟩
  have HKx : Hid (Kq B p.l w w1) := Lib.hid (Kq.of_below HB1.out hB)
  have H1 := Lib.hid h1
  have H4 := Lib.hid h4
  have F4 := Lib.hid f4
  have CD : Hid (Calls Try.prog 29 #[.pointer (some ⟨p.R, 0, none⟩), .func (.func 40) #[] #[.pointer (some ⟨w.heap.size, 0, none⟩), .pointer (some ⟨w.heap.size + 1, 0, none⟩)]] w1 (StepP B p S c0 c1 (fun w2 k w' => k = 0 ∧ w2.setCell ⟨w.heap.size + 1, 0, none⟩ (.string S.reg) = w') w1)) := Lib.hid
    (step_any B p S c0 c1 _ _ #[] _ w1 HR1.out hS reg1_enter (Lib.hid (fun w2 h2 k2 => (reg1_any B p S.on _ _ w.heap.size (w.heap.size + 1) _ w2 h2 (k2.cell HN.out.1 H1.out) (k2.cell HN.out.2 H4.out) ((k2.frozen HN.out.2 (block_lt_of_cell H4.out)).trans F4.out)).mono (fun e w' h => ⟨0, h.1, rfl, h.2⟩))))
  go_enter Try.func13, Try.ntmps13
  go_upto_region 4 with fail
  rw [HW.out]
  clear HW f4
  go_wp2_with fail
  refine (CD.out).mono ?_
  rintro e w3 hst
  obtain ⟨k, rfl, h | h⟩ := hst.two HR1.out
  · obtain ⟨ho, rfl, hr, hk⟩ := h
    have c9 := hk.cell HN.out.2 H4.out
    have HO := Lib.hid ho
    have HR3 := Lib.hid hr
    have HK3 := Lib.hid (HKx.out.trans hk)
    clear hr hk ho hst h1 h4
    go_wp2_with fail
    go_ret2
    exact ⟨by first | rfl | (rw [if_neg HO.out]; rfl), HR3.out, HK3.out⟩
  · obtain ⟨ho, w2, hr, hk, rfl, rfl⟩ := h
    have c9 := World.cell?_setCell_same w2 ⟨w.heap.size + 1, 0, none⟩ (.string S.reg) (hk.cell HN.out.2 H4.out)
    have HR3 := Lib.hid (hr.far (x := w.heap.size + 1) (k := 0) (v := .string S.reg) (by omega))
    have HK3 := Lib.hid ((HKx.out.trans hk).newCell (g := w.heap.size + 1) 0 (.string S.reg) (by omega) (by omega))
    have HO := Lib.hid ho
    clear hr hk ho hst h1 h4
    generalize hw4 : w2.setCell ⟨w.heap.size + 1, 0, none⟩ (.string S.reg) = w4 at *
    clear hw4
    go_wp2_with fail
    go_ret2
    exact ⟨by first | rfl | (rw [HO.out]; rfl) | (rw [if_pos HO.out, HO.out]; rfl), HR3.out, HK3.out⟩
set_option maxRecDepth 100000 in
set_option maxHeartbeats 2000000 in
theorem rigSet_no (p : RgP) (s : ByteArray) (w : World) (h : s.size ≠ 96) : Calls Try.prog 11 #[.pointer (some ⟨p.R, 0, none⟩), .string s] w fun e w' => e = .returned (.int .i64 6) ∧ Below w.heap.size w w' := by
  have h1 : ((s.size : Int) != 96) = true := by simp; omega
  clear h
  go_enter Try.func11, Try.ntmps11
  go_wp2_with fail
  go_ret
  exact ⟨rfl, ((Below.refl _ _).alloc (Nat.le_refl _) _).alloc (by simp) _⟩
def RgS.sets (S : RgS) (s : ByteArray) : RgS := if S.out = 0 then S.aft.setR s else S.aft
set_option maxRecDepth 100000 in
set_option maxHeartbeats 2000000 in
theorem rigSet_ok (B : Nat) (p : RgP) (S : RgS) (c0 c1 : Nat → Bk) (s : ByteArray) (w : World) (hR : RgAt B w p S c0 c1) (hS : S.d = 0 ∨ S.d = 1) (hB : B ≤ w.heap.size) (hs : s.size = 96) :
    Calls Try.prog 11 #[.pointer (some ⟨p.R, 0, none⟩), .string s] w fun e w' => e = .returned (.int .i64 S.out) ∧ RgAt B w' p (S.sets s) (S.c0 c0) (S.c1 c1) ∧ Kq B p.l w w' := by
  have h96 : ((s.size : Int) != 96) = false := by simp; omega
  clear hs
  have hs1 : (w.alloc (.cells #[.pointer (some ⟨p.R, 0, none⟩)] 23)).heap.size = w.heap.size + 1 := by simp
  have hn := heap_alloc_new (w.alloc (.cells #[.pointer (some ⟨p.R, 0, none⟩)] 23)) (.cells #[.string s] 9)
  have ho := heap_alloc_old (w.alloc (.cells #[.pointer (some ⟨p.R, 0, none⟩)] 23)) (.cells #[.string s] 9) (show w.heap.size < _ by rw [hs1]; omega)
  rw [heap_alloc_new] at ho
  rw [hs1] at hn
  obtain ⟨w1, HW, HB1, h1, h4, hz⟩ : ∃ w1, Hid ((w.alloc (.cells #[.pointer (some ⟨p.R, 0, none⟩)] 23)).alloc (.cells #[.string s] 9) = w1) ∧ Hid (Below w.heap.size w w1) ∧ w1.cell? ⟨w.heap.size, 0, none⟩ = some (.pointer (some ⟨p.R, 0, none⟩)) ∧ w1.cell? ⟨w.heap.size + 1, 0, none⟩ = some (.string s) ∧ w.heap.size + 1 < w1.heap.size := ⟨_, Lib.hid rfl, Lib.hid (((Below.refl _ _).alloc (Nat.le_refl _) _).alloc (by simp) _), cell_of_row _ _ 0 _ _ _ ho, cell_of_row _ _ 0 _ _ _ hn, by simp⟩
  clear hs1 hn ho
  have HR1 := Lib.hid (hR.below HB1.out)
  have HR := Lib.hid hR
  have hg1 : p.g1 < w.heap.size := HR.out.bound
  clear hR
  have HN : Hid (w.heap.size ∉ p.l ∧ w.heap.size + 1 ∉ p.l) := Lib.hid ⟨HR.out.ok.not hg1, HR.out.ok.not (by omega)⟩
  have HKx : Hid (Kq B p.l w w1) := Lib.hid (Kq.of_below HB1.out hB)
  have H1 := Lib.hid h1
  have H4 := Lib.hid h4
  have CD : Hid (Calls Try.prog 29 #[.pointer (some ⟨p.R, 0, none⟩), .func (.func 30) #[] #[.pointer (some ⟨w.heap.size + 1, 0, none⟩), .pointer (some ⟨w.heap.size, 0, none⟩)]] w1 (StepP B p S c0 c1 (fun w2 k w' => k = 0 ∧ RgAt B w' p (S.on.setR s) (S.hit0 c0) (S.hit1 c1) ∧ Kq B p.l w2 w') w1)) := Lib.hid
    (step_any B p S c0 c1 _ _ #[] _ w1 HR1.out hS setReg1_enter (Lib.hid (fun w2 h2 k2 => (setReg1_any B p S.on _ _ w.heap.size (w.heap.size + 1) s w2 h2 (k2.cell HN.out.1 H1.out) (k2.cell HN.out.2 H4.out)).mono (fun e w' h => ⟨0, h.1, rfl, h.2⟩))))
  go_enter Try.func11, Try.ntmps11
  go_upto_region 1 with fail
  rw [HW.out]
  clear HW
  go_wp2_with fail
  refine (CD.out).mono ?_
  rintro e w3 hst
  obtain ⟨k, rfl, h | h⟩ := hst.two HR1.out
  · obtain ⟨ho, rfl, hr, hk⟩ := h
    have HR3 : Hid (RgAt B w3 p (S.sets s) (S.c0 c0) (S.c1 c1)) := Lib.hid (by unfold RgS.sets; rw [if_neg ho]; exact hr)
    have HK3 := Lib.hid (HKx.out.trans hk)
    clear hr hk ho hst h1 h4
    go_wp2_with fail
    go_ret
    exact ⟨rfl, HR3.out, HK3.out⟩
  · obtain ⟨ho, w2, hr, hk, rfl, hd, hk2⟩ := h
    have HR3 : Hid (RgAt B w3 p (S.sets s) (S.c0 c0) (S.c1 c1)) := Lib.hid (by
      unfold RgS.sets
      rw [if_pos ho, (RgS.go0 ho c0).1, (RgS.go0 ho c1).2]
      have ha : S.aft = S.on := by
        unfold RgS.out at ho
        unfold RgS.aft
        split at ho
        · cases ho
        · rename_i hn
          rw [if_neg hn]
          split at ho
          · cases ho
          · rename_i hn2
            rw [if_neg hn2]
      rw [ha]
      exact hd)
    have HK3 := Lib.hid ((HKx.out.trans hk).trans hk2)
    have HO := Lib.hid ho
    clear hr hk ho hst h1 h4 hd hk2
    go_wp2_with fail
    go_ret
    exact ⟨by first | (rw [HO.out]; rfl) | rfl, HR3.out, HK3.out⟩
theorem rigTamper_no (p : RgP) (d i : Int) (s : ByteArray) (w : World) (h : rtE d i s ≠ 0) : Calls Try.prog 19 #[.pointer (some ⟨p.R, 0, none⟩), .int .i64 d, .int .i64 i, .string s] w fun e w' => e = .returned (.int .i64 (rtE d i s)) ∧ w = w' := by
  have CI := Lib.hid (fun w => rigText_any p.R d i s w)
  have h1 : (rtE d i s != 0) = true := by simpa using h
  clear h
  generalize rtE d i s = z at *
  go_enter Try.func19, Try.ntmps19
  go_wp2_with fail
  refine (CI.out _).mono ?_
  rintro e w' ⟨rfl, rfl⟩
  go_wp2_with fail
  go_ret
  exact ⟨rfl, rfl⟩
theorem rigTamper_ok (B : Nat) (p : RgP) (S : RgS) (c0 c1 : Nat → Bk) (d i : Int) (s : ByteArray) (w : World) (hR : RgAt B w p S c0 c1) (ht : rtE d i s = 0) :
    Calls Try.prog 19 #[.pointer (some ⟨p.R, 0, none⟩), .int .i64 d, .int .i64 i, .string s] w fun e w' => e = .returned (.int .i64 0) ∧ RgAt B w' p S (if d = 0 then tmpB 288 c0 i s else c0) (if d = 1 then tmpB 288 c1 i s else c1) ∧ Kq B p.l w w' := by
  have CI := Lib.hid (fun w => rigText_any p.R d i s w)
  rw [ht] at CI
  have hdt : (d = 0 ∨ d = 1) ∧ txE 288 i s = 0 := by
    unfold rtE at ht
    split at ht
    · rename_i h; exact ⟨h, ht⟩
    · cases ht
  obtain ⟨hd, ht0⟩ := hdt
  obtain ⟨q0, q1, -⟩ := hR.cells
  have HR := Lib.hid hR
  clear hR ht
  rcases hd with rfl | rfl
  · have CT := Lib.hid (tamper_any p.g0 p.r0 288 c0 i s w HR.out.d0)
    rw [ht0] at CT
    clear ht0
    go_enter Try.func19, Try.ntmps19
    go_wp2_with fail
    refine (CI.out _).mono ?_
    rintro e w' ⟨rfl, rfl⟩
    go_wp2_with fail
    refine (CT.out).mono ?_
    rintro e w' ⟨rfl, hd, hk⟩
    have HR3 := Lib.hid (HR.out.dev0 hd hk)
    have HK3 := Lib.hid (HR.out.kq0 hk)
    clear hd hk
    go_wp2_with fail
    go_ret
    exact ⟨rfl, HR3.out, HK3.out⟩
  · have CT := Lib.hid (tamper_any p.g1 p.r1 288 c1 i s w HR.out.d1)
    rw [ht0] at CT
    clear ht0
    go_enter Try.func19, Try.ntmps19
    go_wp2_with fail
    refine (CI.out _).mono ?_
    rintro e w' ⟨rfl, rfl⟩
    go_wp2_with fail
    refine (CT.out).mono ?_
    rintro e w' ⟨rfl, hd, hk⟩
    have HR3 := Lib.hid (HR.out.dev1 hd hk)
    have HK3 := Lib.hid (HR.out.kq1 hk)
    clear hd hk
    go_wp2_with fail
    go_ret
    exact ⟨rfl, HR3.out, HK3.out⟩
end Go.Proofs.Ytjmginkkjkbpoaa
