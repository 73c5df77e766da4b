/- Any call of a live rig: the register stays, or is what was set. -/
import Derived.Test.YtjmginkkjkbpoaaRiN
namespace Go.Proofs.Ytjmginkkjkbpoaa
open Go.RowKit Go.Deep
set_option linter.unusedVariables false
set_option linter.unusedSimpArgs false
/-- A rig whose register is last, behind at most cs steps. -/
def RgOK (B : Nat) (w : World) (p : RgP) (last : ByteArray) (cs : Nat) : Prop := ∃ (S : RgS) (c0 c1 : Nat → Bk), RgAt B w p S c0 c1 ∧ S.reg = last ∧ (S.d = 0 ∨ S.d = 1) ∧ (0 ≤ S.calls ∧ S.calls ≤ (cs : Int)) ∧ TxB 288 c0 ∧ TxB 288 c1
theorem RgOK.below {B cs : Nat} {w w' : World} {p : RgP} {last : ByteArray} (h : RgOK B w p last cs) (hb : Below w.heap.size w w') : RgOK B w' p last cs := by
  obtain ⟨S, c0, c1, h1, h2⟩ := h
  exact ⟨S, c0, c1, h1.below hb, h2⟩
theorem RgOK.more {B cs ds : Nat} {w : World} {p : RgP} {last : ByteArray} (h : RgOK B w p last cs) (hc : cs ≤ ds) : RgOK B w p last ds := by
  obtain ⟨S, c0, c1, h1, h2, h3, h4, h5⟩ := h
  exact ⟨S, c0, c1, h1, h2, h3, ⟨h4.1, by omega⟩, h5⟩
theorem aft_reg (S : RgS) : S.aft.reg = S.reg := by unfold RgS.aft RgS.gone RgS.on; (split; · rfl); split <;> rfl
theorem aft_d (S : RgS) : S.aft.d = S.d := by unfold RgS.aft RgS.gone RgS.on; (split; · rfl); split <;> rfl
theorem aft_calls {S : RgS} {cs : Nat} (h : 0 ≤ S.calls ∧ S.calls ≤ (cs : Int)) (hc : cs ≤ 1000) : 0 ≤ S.aft.calls ∧ S.aft.calls ≤ ((cs + 1 : Nat) : Int) := by
  have hn : S.next = S.calls + 1 := IntWalk.i64_in _ (by omega)
  unfold RgS.aft RgS.gone RgS.on
  split
  · omega
  · split
    · dsimp only; omega
    · dsimp only; omega
theorem TxB.c0 {S : RgS} {c : Nat → Bk} (h : TxB 288 c) : TxB 288 (S.c0 c) := by
  unfold RgS.c0 RgS.hit0
  split
  · exact h
  · split
    · exact h.tmp _ _
    · exact h
theorem TxB.c1 {S : RgS} {c : Nat → Bk} (h : TxB 288 c) : TxB 288 (S.c1 c) := by
  unfold RgS.c1 RgS.hit1
  split
  · exact h
  · split
    · exact h.tmp _ _
    · exact h
theorem TxB.puts {S : RgS} {q d : Int} {f : (Nat → Bk) → Nat → Bk} {c : Nat → Bk} (h : TxB 288 c) (hf : TxB 288 (f c)) : TxB 288 (S.put q d f c) := by
  unfold RgS.put
  split
  · exact hf
  · exact h
section
variable {B cs : Nat} {p : RgP} {last : ByteArray} {w : World}
theorem gRead (d i : Int) (h : RgOK B w p last cs) (hB : B ≤ w.heap.size) (hc : cs ≤ 1000) : Calls Try.prog 15 #[.pointer (some ⟨p.R, 0, none⟩), .int .i64 d, .int .i64 i] w fun e w' => ∃ (s : ByteArray) (z : Int), e = .returned (.tuple #[.string s, .int .i64 z]) ∧ RgOK B w' p last (cs + 1) ∧ Kq B p.l w w' := by
  by_cases hb : rbE d i = 0
  · obtain ⟨S, c0, c1, h1, h2, h3, h4, h5, h6⟩ := h
    have hd : d = 0 ∨ d = 1 := by unfold rbE at hb; split at hb; · assumption
                                  · cases hb
    have hi : 0 ≤ i ∧ i < 288 := by unfold rbE at hb; rw [if_pos hd] at hb; split at hb <;> omega
    obtain ⟨k, rfl⟩ : ∃ k : Nat, i = (k : Int) := ⟨i.toNat, by omega⟩
    refine (rigRead_ok B p S c0 c1 d k w h1 h3 hB hd (by omega)).mono ?_
    rintro e w' ⟨rfl, r, q⟩
    exact ⟨_, _, rfl, ⟨S.aft, _, _, r, by rw [aft_reg]; exact h2, by rw [aft_d]; exact h3, aft_calls h4 hc, h5.c0, h6.c1⟩, q⟩
  · refine (rigRead_no p d i w hb).mono ?_
    rintro e w' ⟨rfl, q⟩
    exact ⟨_, _, rfl, (h.below q).more (by omega), Kq.of_below q hB⟩
theorem gWrite (d i : Int) (s : ByteArray) (h : RgOK B w p last cs) (hB : B ≤ w.heap.size) (hc : cs ≤ 1000) : Calls Try.prog 17 #[.pointer (some ⟨p.R, 0, none⟩), .int .i64 d, .int .i64 i, .string s] w fun e w' => ∃ (z : Int), e = .returned (.int .i64 z) ∧ RgOK B w' p last (cs + 1) ∧ Kq B p.l w w' := by
  by_cases hb : rtE d i s = 0
  · obtain ⟨S, c0, c1, h1, h2, h3, h4, h5, h6⟩ := h
    refine (rigWrite_ok B p S c0 c1 d i s w h1 h3 hB hb).mono ?_
    rintro e w' ⟨rfl, r, q⟩
    exact ⟨_, rfl, ⟨S.aft, _, _, r, by rw [aft_reg]; exact h2, by rw [aft_d]; exact h3, aft_calls h4 hc, h5.c0.puts (h5.c0.wrt _ _), h6.c1.puts (h6.c1.wrt _ _)⟩, q⟩
  · refine (rigWrite_no p d i s w hb).mono ?_
    rintro e w' ⟨rfl, q⟩
    exact ⟨_, rfl, (h.below q).more (by omega), Kq.of_below q hB⟩
theorem gFlush (d : Int) (h : RgOK B w p last cs) (hB : B ≤ w.heap.size) (hc : cs ≤ 1000) : Calls Try.prog 18 #[.pointer (some ⟨p.R, 0, none⟩), .int .i64 d] w fun e w' => ∃ (z : Int), e = .returned (.int .i64 z) ∧ RgOK B w' p last (cs + 1) ∧ Kq B p.l w w' := by
  by_cases hb : d = 0 ∨ d = 1
  · obtain ⟨S, c0, c1, h1, h2, h3, h4, h5, h6⟩ := h
    refine (rigFlush_ok B p S c0 c1 d w h1 h3 hb).mono ?_
    rintro e w' ⟨rfl, r, q⟩
    exact ⟨_, rfl, ⟨S.aft, _, _, r, by rw [aft_reg]; exact h2, by rw [aft_d]; exact h3, aft_calls h4 hc, h5.c0.puts (h5.c0.flush _), h6.c1.puts (h6.c1.flush _)⟩, q⟩
  · refine (rigFlush_no p d w hb).mono ?_
    rintro e w' ⟨rfl, rfl⟩
    exact ⟨_, rfl, h.more (by omega), Kq.refl _ _ _⟩
theorem gReg (h : RgOK B w p last cs) (hB : B ≤ w.heap.size) (hc : cs ≤ 1000) : Calls Try.prog 13 #[.pointer (some ⟨p.R, 0, none⟩)] w fun e w' => ∃ (s : ByteArray) (z : Int), e = .returned (.tuple #[.string s, .int .i64 z]) ∧ (z = 0 → s = last) ∧ RgOK B w' p last (cs + 1) ∧ Kq B p.l w w' := by
  obtain ⟨S, c0, c1, h1, h2, h3, h4, h5, h6⟩ := h
  refine (rigReg_any B p S c0 c1 w h1 h3 hB).mono ?_
  rintro e w' ⟨rfl, r, q⟩
  exact ⟨_, _, rfl, fun hz => by rw [if_pos hz]; exact h2, ⟨S.aft, _, _, r, by rw [aft_reg]; exact h2, by rw [aft_d]; exact h3, aft_calls h4 hc, h5.c0, h6.c1⟩, q⟩
theorem gSet (s : ByteArray) (h : RgOK B w p last cs) (hB : B ≤ w.heap.size) (hc : cs ≤ 1000) : Calls Try.prog 11 #[.pointer (some ⟨p.R, 0, none⟩), .string s] w fun e w' => ∃ (z : Int), e = .returned (.int .i64 z) ∧ RgOK B w' p (if z = 0 then s else last) (cs + 1) ∧ Kq B p.l w w' := by
  by_cases hs : s.size = 96
  · obtain ⟨S, c0, c1, h1, h2, h3, h4, h5, h6⟩ := h
    refine (rigSet_ok B p S c0 c1 s w h1 h3 hB hs).mono ?_
    rintro e w' ⟨rfl, r, q⟩
    have ha := aft_calls h4 hc
    refine ⟨_, rfl, ⟨S.sets s, _, _, r, ?_, ?_, ?_, h5.c0, h6.c1⟩, q⟩
    · unfold RgS.sets
      split
      · rfl
      · rw [aft_reg]; exact h2
    · unfold RgS.sets
      split
      · show S.aft.d = 0 ∨ S.aft.d = 1
        rw [aft_d]; exact h3
      · rw [aft_d]; exact h3
    · unfold RgS.sets
      split
      · exact ha
      · exact ha
  · refine (rigSet_no p s w hs).mono ?_
    rintro e w' ⟨rfl, q⟩
    exact ⟨_, rfl, by rw [if_neg (by decide)]; exact (h.below q).more (by omega), Kq.of_below q hB⟩
theorem gTamper (d i : Int) (s : ByteArray) (h : RgOK B w p last cs) : Calls Try.prog 19 #[.pointer (some ⟨p.R, 0, none⟩), .int .i64 d, .int .i64 i, .string s] w fun e w' => ∃ (z : Int), e = .returned (.int .i64 z) ∧ RgOK B w' p last (cs + 1) ∧ Kq B p.l w w' := by
  by_cases hb : rtE d i s = 0
  · obtain ⟨S, c0, c1, h1, h2, h3, h4, h5, h6⟩ := h
    refine (rigTamper_ok B p S c0 c1 d i s w h1 hb).mono ?_
    rintro e w' ⟨rfl, r, q⟩
    refine ⟨_, rfl, ⟨S, _, _, r, h2, h3, ⟨h4.1, by omega⟩, ?_, ?_⟩, q⟩
    · split
      · exact h5.tmp _ _
      · exact h5
    · split
      · exact h6.tmp _ _
      · exact h6
  · refine (rigTamper_no p d i s w hb).mono ?_
    rintro e w' ⟨rfl, rfl⟩
    exact ⟨_, rfl, h.more (by omega), Kq.refl _ _ _⟩
theorem gArm (n : Int) (h : RgOK B w p last cs) : Calls Try.prog 21 #[.pointer (some ⟨p.R, 0, none⟩), .int .i64 n] w fun e w' => ∃ (z : Int), e = .returned (.int .i64 z) ∧ RgOK B w' p last (cs + 1) ∧ Kq B p.l w w' := by
  obtain ⟨S, c0, c1, h1, h2, h3, h4, h5, h6⟩ := h
  refine (rigArm_any B p S c0 c1 n w h1).mono ?_
  rintro e w' ⟨rfl, r, q⟩
  exact ⟨_, rfl, ⟨S.arms n, _, _, r, by unfold RgS.arms; split <;> exact h2, by unfold RgS.arms; split <;> exact h3, by unfold RgS.arms; split <;> (try dsimp only) <;> omega, h5, h6⟩, q⟩
theorem gFault (n : Int) (h : RgOK B w p last cs) : Calls Try.prog 22 #[.pointer (some ⟨p.R, 0, none⟩), .int .i64 n] w fun e w' => ∃ (z : Int), e = .returned (.int .i64 z) ∧ RgOK B w' p last (cs + 1) ∧ Kq B p.l w w' := by
  obtain ⟨S, c0, c1, h1, h2, h3, h4, h5, h6⟩ := h
  refine (rigFault_any B p S c0 c1 n w h1).mono ?_
  rintro e w' ⟨rfl, r, q⟩
  exact ⟨_, rfl, ⟨S.faults n, _, _, r, by unfold RgS.faults; split <;> exact h2, by unfold RgS.faults; split <;> exact h3, by unfold RgS.faults; split <;> (try dsimp only) <;> omega, h5, h6⟩, q⟩
theorem rtE_d {d i : Int} {s : ByteArray} (h : rtE d i s = 0) : d = 0 ∨ d = 1 := by
  unfold rtE at h
  split at h
  · assumption
  · cases h
theorem gLater (n d i : Int) (s : ByteArray) (h : RgOK B w p last cs) : Calls Try.prog 20 #[.pointer (some ⟨p.R, 0, none⟩), .int .i64 n, .int .i64 d, .int .i64 i, .string s] w fun e w' => ∃ (z : Int), e = .returned (.int .i64 z) ∧ RgOK B w' p last (cs + 1) ∧ Kq B p.l w w' := by
  obtain ⟨S, c0, c1, h1, h2, h3, h4, h5, h6⟩ := h
  refine (rigLater_any B p S c0 c1 n d i s w h1).mono ?_
  rintro e w' ⟨rfl, r, q⟩
  refine ⟨_, rfl, ⟨S.laters n d i s, _, _, r, ?_, ?_, ?_, h5, h6⟩, q⟩
  · unfold RgS.laters; split <;> exact h2
  · unfold RgS.laters
    split
    · rename_i hh; exact rtE_d hh.2
    · exact h3
  · unfold RgS.laters; split <;> (try dsimp only) <;> omega
theorem gCrash (X Y : LsV) (h : RgOK B w p last cs) (hB : B ≤ w.heap.size) (hX : LsAt w X) (hY : LsAt w Y) (oX : LsOff X p.r0) (oY0 : LsOff Y p.r0) (oY : LsOff Y p.r1) : Calls Try.prog 14 #[.pointer (some ⟨p.R, 0, none⟩), .agg X.cells, .agg Y.cells] w fun e w' => e = .returned (.int .i64 0) ∧ RgOK B w' p last (cs + 1) ∧ Kq B p.l w w' := by
  obtain ⟨S, c0, c1, h1, h2, h3, h4, h5, h6⟩ := h
  refine (rigCrash_any B p S c0 c1 X Y w h1 hB h5 h6 hX hY oX oY0 oY).mono ?_
  rintro e w' ⟨rfl, r, q⟩
  exact ⟨rfl, ⟨S.crash, _, _, r, h2, Or.inl rfl, ⟨h4.1, by show S.calls ≤ _; omega⟩, h5.crash _ _, h6.crash _ _⟩, q⟩
/-- Behind a crash the register is told. -/
theorem gLast (S : RgS) (c0 c1 : Nat → Bk) (h : RgAt B w p S.crash c0 c1) (hr : S.reg = last) (h4 : 0 ≤ S.calls ∧ S.calls ≤ (cs : Int)) (hc : cs ≤ 1000) (hB : B ≤ w.heap.size) : Calls Try.prog 13 #[.pointer (some ⟨p.R, 0, none⟩)] w fun e w' => e = .returned (.tuple #[.string last, .int .i64 0]) ∧ Kq B p.l w w' := by
  have hn : S.crash.next = S.calls + 1 := IntWalk.i64_in _ (by show -9223372036854775808 ≤ S.calls + 1 ∧ S.calls + 1 ≤ 9223372036854775807; omega)
  have ho : S.crash.out = 0 := out_go rfl (by rw [hn]; show S.calls + 1 ≠ 0; omega) (by rw [hn]; show S.calls + 1 ≠ 0; omega)
  refine (rigReg_any B p S.crash c0 c1 w h (Or.inl rfl) hB).mono ?_
  rintro e w' ⟨rfl, r, q⟩
  exact ⟨by rw [ho, if_pos rfl]; show _ = Ending.returned (Value.tuple #[.string last, .int .i64 0]); rw [← hr]; rfl, q⟩
end
end Go.Proofs.Ytjmginkkjkbpoaa
