/- The reference's queue: Balance. -/
import Derived.Test.YtfkepplpeakgmaaLvX
namespace Go.Proofs.Ytfkepplpeakgmaa
open Go.RowKit Go.Deep
set_option linter.unusedVariables false
set_option linter.unusedSimpArgs false
theorem rem_mem {R : Nat → List Nat} {i k x : Nat} : x ∈ rem R i k ↔ x ∈ R k ∧ x ≠ i := by
  unfold rem
  rw [List.mem_filter]
  simp
theorem RowsOk.rem {n : Nat} {R : Nat → List Nat} (h : RowsOk n R) (i : Nat) : RowsOk n (Go.Proofs.Ytfkepplpeakgmaa.rem R i) :=
  ⟨fun l hl => (h.nd l hl).filter _, fun l hl x hx => h.lt l hl x (rem_mem.1 hx).1, fun l m x hl hm h1 h2 => h.one l m x hl hm (rem_mem.1 h1).1 (rem_mem.1 h2).1⟩
theorem put_mem {R : Nat → List Nat} {i l k x : Nat} : x ∈ put R i l k ↔ (x ∈ R k ∧ x ≠ i) ∨ (k = l ∧ x = i) := by
  unfold put setR
  by_cases e : k = l
  · subst e
    rw [if_pos rfl, List.mem_append, rem_mem]
    simp
  · rw [if_neg e, rem_mem]
    simp [e]
theorem RowsOk.put {n : Nat} {R : Nat → List Nat} (h : RowsOk n R) {i : Nat} (l : Nat) (hi : i < n) : RowsOk n (Go.Proofs.Ytfkepplpeakgmaa.put R i l) := by
  refine ⟨fun k hk => ?_, fun k hk x hx => ?_, fun k m x hk hm h1 h2 => ?_⟩
  · unfold Go.Proofs.Ytfkepplpeakgmaa.put setR
    have h0 := (h.rem i).nd
    by_cases e : k = l
    · rw [if_pos e]
      rw [List.nodup_append]
      refine ⟨h0 l (e ▸ hk), by simp, ?_⟩
      intro a ha b hb
      have : b = i := by simpa using hb
      subst this
      exact (rem_mem.1 ha).2
    · rw [if_neg e]; exact h0 k hk
  · rcases put_mem.1 hx with ⟨h1, _⟩ | ⟨_, rfl⟩
    · exact h.lt k hk x h1
    · exact hi
  · rcases put_mem.1 h1 with ⟨a1, a2⟩ | ⟨a1, a2⟩ <;> rcases put_mem.1 h2 with ⟨b1, b2⟩ | ⟨b1, b2⟩
    · exact h.one k m x hk hm a1 b1
    · exact absurd b2 a2
    · exact absurd a2 b2
    · exact a1.trans b1.symm
theorem RowsOk.movA {n : Nat} {R : Nat → List Nat} (h : RowsOk n R) {i : Nat} (b : Int) (hi : i < n) : RowsOk n (Go.Proofs.Ytfkepplpeakgmaa.movA R i b) := h.put _ hi
theorem RowsOk.len {n : Nat} {R : Nat → List Nat} (h : RowsOk n R) (hn : n ≤ 16) : ∀ l, l < 4 → (R l).length ≤ 16 := fun l hl => Nat.le_trans (nodup_le (h.nd l hl) n (h.lt l hl)) hn
theorem RowsOk.nil (n : Nat) : RowsOk n (fun _ => []) := ⟨fun _ _ => List.nodup_nil, fun _ _ _ h => absurd h (by simp), fun _ _ _ _ _ h => absurd h (by simp)⟩
theorem RowsOk.its {n : Nat} {R : Nat → List Nat} (h : RowsOk n R) {l : Nat} (hl : l < 4) (h1 : 1 ≤ l) : ∀ k, k ≤ (R l).length → RowsOk n (Go.Proofs.Ytfkepplpeakgmaa.its R l k) ∧ Go.Proofs.Ytfkepplpeakgmaa.its R l k l = (R l).drop k := by
  intro k
  induction k with
  | zero => exact fun _ => ⟨h, rfl⟩
  | succ k ih =>
    intro hk
    obtain ⟨i1, i2⟩ := ih (by omega)
    have e := i2.trans (list_drop_cons (by omega))
    obtain ⟨s1, _⟩ := stp_row i1 hl h1 e
    have hd : hdN (Go.Proofs.Ytfkepplpeakgmaa.its R l k l) = (R l)[k] := by rw [e]; rfl
    refine ⟨?_, s1⟩
    show RowsOk n (Go.Proofs.Ytfkepplpeakgmaa.movA (Go.Proofs.Ytfkepplpeakgmaa.its R l k) (hdN (Go.Proofs.Ytfkepplpeakgmaa.its R l k l)) (-1))
    rw [hd]
    exact i1.movA _ (i1.lt l hl _ (by rw [e]; exact List.mem_cons_self))
theorem overB_le (L : List Nat) (most : Int) : overB L most ≤ L.length := by unfold overB; omega
theorem RowsOk.balR {n : Nat} {R : Nat → List Nat} (h : RowsOk n R) (most : Int) : ∀ j, j ≤ 3 → RowsOk n (Go.Proofs.Ytfkepplpeakgmaa.balR R most j) := by
  intro j
  induction j with
  | zero => exact fun _ => h
  | succ j ih =>
    intro hj
    exact ((ih (by omega)).its (l := 3 - j) (by omega) (by omega) _ (overB_le _ _)).1
theorem mea_bal (m0 k K y : Nat) (q : Int) (h : m0 + k = y) (hq : q = ((y + 1 : Nat) : Int)) (hk : k < K) : K - ((intOf (.int .i64 q)).toNat - m0) < K - ((intOf (.int .i64 (y : Int))).toNat - m0) := by
  subst hq
  show K - ((((y + 1 : Nat) : Int)).toNat - m0) < K - (((y : Int)).toNat - m0)
  rw [Int.toNat_natCast, Int.toNat_natCast]
  omega
set_option maxRecDepth 100000 in
set_option maxHeartbeats 8000000 in
theorem rbalance_any (B h n : Nat) (most : Int) (X : Nat → List Nat) (w : World) (hX : XqAt w B h X) (hBw : B ≤ w.heap.size) (hn : n ≤ 16) (hok : RowsOk n X) (hmost : most ≤ 9223372036854775807) : Calls Try.prog 41 #[.pointer (some ⟨h, 0, none⟩), .int .i64 most] w fun e w' => e = .returned (.int .i64 (balN X most 3 : Int)) ∧ XqAt w' B h (balR X most 3) ∧ Kq B [h] w w' := by
  have HX := Lib.hid hX
  have HOK := Lib.hid hok
  obtain ⟨z3, hz3⟩ : ∃ z, Hid (balN X most 3 = z) := ⟨_, Lib.hid rfl⟩
  obtain ⟨M, hM⟩ : ∃ M : Nat, max most 0 = (M : Int) := ⟨(max most 0).toNat, by omega⟩
  have HOV : Hid (∀ L : List Nat, overB L most = L.length - M) := Lib.hid (fun L => by unfold overB; rw [hM]; omega)
  rw [hz3.out]
  clear hX hok
  go_enter Try.func41, Try.ntmps41
  go_upto_if 8 with fail
  go_cut [1] from 7 to 8 (fun s1 wx => s1 = .int .i64 (M : Int) ∧ w = wx)
  case first =>
    go_wp2_with fail
    all_goals
      go_meet
      refine ⟨?_, rfl⟩
      congr 1
      omega
  case rest =>
  obtain ⟨rfl, rfl⟩ := hcut
  clear hM
  go_wp2_with fail
  go_loopw [5, 6] (fun s5 s6 wi => ∃ j : Nat, s5 = .int .i64 (balN X most j : Int) ∧ s6 = .int .i64 ((3 - j : Nat) : Int) ∧ j ≤ 3 ∧ Hid (balN X most j ≤ 16 * j) ∧ Hid (XqAt wi B h (balR X most j)) ∧ Hid (Kq B [h] w wi)) (fun _ s6 _ => (intOf s6).toNat)
  case atStart => exact ⟨0, rfl, rfl, by omega, Lib.hid (Nat.le_refl _), HX, Lib.hid (Kq.refl _ _ _)⟩
  case round =>
    obtain ⟨j, rfl, rfl, hj, HN, HR, HK⟩ := hrel
    clear HX
    by_cases hlt : j < 3
    · obtain ⟨l, hl⟩ : ∃ l, 3 - j = l := ⟨_, rfl⟩
      have hl1 : 1 ≤ l := by omega
      have hl4 : l < 4 := by omega
      have hli : 0 < l := by omega
      have hl' : (l : Int) < 4 := by omega
      have HS : Hid (balR X most (j + 1) = its (balR X most j) l (overB (balR X most j l) most) ∧ balN X most (j + 1) = balN X most j + overB (balR X most j l) most) := Lib.hid (by rw [← hl]; exact ⟨rfl, rfl⟩)
      have HOK1 := Lib.hid (HOK.out.balR most j (by omega))
      rw [hl]
      generalize balR X most j = X1 at *
      obtain ⟨m0, hm0⟩ : ∃ m, balN X most j = m := ⟨_, rfl⟩
      rw [hm0] at HN HS ⊢
      clear hm0
      have hlen := HOK1.out.len hn l hl4
      rw [HOV.out] at HS
      obtain ⟨len, hlen'⟩ : ∃ len, Hid ((X1 l).length = len) := ⟨_, Lib.hid rfl⟩
      rw [hlen'.out] at HS hlen
      go_wp2_with fail
      go_loopw [5] (fun s5 wi => ∃ k : Nat, s5 = .int .i64 ((m0 + k : Nat) : Int) ∧ k ≤ len - M ∧ Hid (XqAt wi B h (its X1 l k)) ∧ Hid (Kq B [h] w wi)) (fun s5 _ => (len - M) - ((intOf s5).toNat - m0))
      case atStart => exact ⟨0, rfl, by omega, HR, HK⟩
      case round =>
        obtain ⟨k, rfl, hk, HX2, HK2⟩ := hrel
        clear HR HK
        have hkl : k ≤ (X1 l).length := by rw [hlen'.out]; omega
        obtain ⟨hok2, hrow⟩ := HOK1.out.its hl4 hl1 k hkl
        have HOK2 := Lib.hid hok2
        obtain ⟨hBh, s, hs, ho⟩ := HX2.out
        obtain ⟨ao, c, e, hat⟩ := own_zi (ho l hl4)
        have hln : (its X1 l k l).length = len - k := by rw [hrow, List.length_drop, hlen'.out]
        rw [hln] at e hat
        have c0 : wr.cell? ⟨h, l, none⟩ = some (.slice ao (len - k) c) := by rw [← e]; exact World.rowIs.cell hs hl4
        have HAT := Lib.hid hat
        clear hok2 hs ho e hat
        by_cases hlt2 : k < len - M
        · have hcmp : (M : Int) < ((len - k : Nat) : Int) := by omega
          obtain ⟨b, off, rfl, hb, hall⟩ := HAT.out (by omega)
          have hkl2 : k < (X1 l).length := by rw [hlen'.out]; omega
          have hrow2 := hrow.trans (list_drop_cons hkl2)
          have c1 := hall 0 (by omega)
          rw [Nat.add_zero] at c1
          have ez : (ziL (its X1 l k l)).getD 0 0 = ((X1 l)[k] : Int) := by rw [hrow2]; rfl
          rw [ez] at c1
          obtain ⟨l2, hl2⟩ : ∃ l2, l - 1 = l2 := ⟨_, rfl⟩
          have hxn : (X1 l)[k] < n := HOK1.out.lt l hl4 _ (List.getElem_mem _)
          have hlv := (stp_row HOK2.out hl4 hl1 hrow2).2
          have hnx : put (its X1 l k) (X1 l)[k] l2 = its X1 l (k + 1) := by
            show _ = movA (its X1 l k) (hdN (its X1 l k l)) (-1)
            rw [hrow2]
            show _ = movA (its X1 l k) (((X1 l)[k] : Int)).toNat (-1)
            rw [Int.toNat_natCast]
            unfold movA
            rw [hlv, show cutB (-1) = -1 from rfl, show cutL ((l : Int) + -1) = (l2 : Int) by unfold cutL; rw [if_neg (by omega), if_neg (by omega)]; omega, Int.toNat_natCast]
          have CP := Lib.hid (rput_any B h (X1 l)[k] l2 (its X1 l k) wr HX2.out (Nat.le_trans hBw HK2.out.below.size) (HOK2.out.len hn) (by omega))
          rw [hnx] at CP
          have hwl : wrap64 ((l : Int) - 1) = (l2 : Int) := by unfold wrap64; omega
          have HN0 := HN.out
          have hwm : wrap64 (((m0 + k : Nat) : Int) + 1) = ((m0 + (k + 1) : Nat) : Int) := by unfold wrap64; omega
          have HWM := Lib.hid hwm
          obtain ⟨y, hy⟩ : ∃ y, m0 + k = y := ⟨_, rfl⟩
          have HYH := Lib.hid hy
          rw [hy] at hwm HWM ⊢
          have hy2 : m0 + (k + 1) = y + 1 := (Nat.add_assoc m0 k 1).symm.trans (by rw [hy])
          rw [hy2] at hwm HWM
          have HY2 := Lib.hid hy2
          have hlt3 : 0 < len - k := by omega
          generalize (X1 l)[k] = x at *
          generalize len - k = lk at *
          clear hrow hrow2 hlv hnx hall ez hy hy2 HAT hb
          go_wp2_with fail
          rw [show (l : Int) - 1 = (l2 : Int) by omega]
          refine CP.out.mono ?_
          rintro e w' ⟨rfl, q1, k1⟩
          have HZ := Lib.hid (⟨q1, HK2.out.trans k1⟩ : _ ∧ _)
          clear q1 k1 c1 c0 CP HX2 HK2
          go_wp2_with fail
          go_roundw
          case rel => exact ⟨k + 1, by rw [HY2.out, HWM.out], by omega, Lib.hid HZ.out.1, Lib.hid HZ.out.2⟩
          case measure => exact mea_bal m0 k _ y _ HYH.out HWM.out hlt2
        · obtain rfl : k = len - M := by omega
          have hcmp : ¬ (M : Int) < ((len - (len - M) : Nat) : Int) := by omega
          have HN0 := HN.out
          have hwl : wrap64 ((l : Int) - 1) = ((3 - (j + 1) : Nat) : Int) := by unfold wrap64; omega
          have HWL := Lib.hid hwl
          have HN2 : Hid (balN X most (j + 1) ≤ 16 * (j + 1)) := Lib.hid (by rw [HS.out.2]; omega)
          have HR3 : Hid (XqAt wr B h (balR X most (j + 1))) := Lib.hid (by rw [HS.out.1]; exact HX2.out)
          have HE := Lib.hid HS.out.2
          clear HS HX2 HN0 hrow HAT HOK2
          generalize m0 + (len - M) = y at *
          generalize len - (len - M) = lk at *
          go_wp2_with fail
          go_roundw
          case rel => exact ⟨j + 1, by rw [HE.out], by first | (congr 1; omega) | (rw [← HWL.out]), by omega, HN2, HR3, HK2⟩
          case measure => simp [intOf]; omega
    · obtain rfl : j = 3 := by omega
      rw [show ((3 - 3 : Nat) : Int) = 0 from rfl, hz3.out]
      go_wp2_with fail
      go_ret
      exact ⟨rfl, HR.out, HK.out⟩
end Go.Proofs.Ytfkepplpeakgmaa
