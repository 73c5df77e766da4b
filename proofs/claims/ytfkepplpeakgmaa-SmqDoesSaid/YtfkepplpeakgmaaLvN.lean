/- Package level: Balance. -/
import Derived.Test.YtfkepplpeakgmaaLvM
namespace Go.Proofs.Ytfkepplpeakgmaa
open Go.RowKit Go.Deep
set_option linter.unusedVariables false
set_option linter.unusedSimpArgs false
def hdN (L : List Nat) : Nat := (hdO L 0).toNat
/-- A level's first thing, one level down; k times. -/
def stp (R : Nat → List Nat) (l : Nat) : Nat → List Nat := movA R (hdN (R l)) (-1)
def its (R : Nat → List Nat) (l : Nat) : Nat → Nat → List Nat
  | 0 => R
  | k + 1 => stp (its R l k) l
/-- By how many a level has too many. -/
def overB (L : List Nat) (most : Int) : Nat := ((L.length : Int) - max most 0).toNat
/-- Behind j levels, from the highest one on: the rows, and how many were moved. -/
def balR (R : Nat → List Nat) (most : Int) : Nat → Nat → List Nat
  | 0 => R
  | j + 1 => its (balR R most j) (3 - j) (overB (balR R most j (3 - j)) most)
def balN (R : Nat → List Nat) (most : Int) : Nat → Nat
  | 0 => 0
  | j + 1 => balN R most j + overB (balR R most j (3 - j)) most
/-- Rows that may be. -/
structure RowsOk (n : Nat) (R : Nat → List Nat) : Prop where
  nd : ∀ l, l < 4 → (R l).Nodup
  lt : ∀ l, l < 4 → ∀ x ∈ R l, x < n
  one : ∀ l m x, l < 4 → m < 4 → x ∈ R l → x ∈ R m → l = m
theorem QR.ok {w : World} {g n : Nat} {R : Nat → List Nat} (h : QR w g n R) : RowsOk n R := by
  obtain ⟨F, hQ, hO⟩ := h
  exact ⟨fun l hl => (hO.row l hl).nd, hO.lt, fun l m x hl hm h1 h2 => hO.one hl hm h1 h2⟩
theorem stp_row {n : Nat} {R : Nat → List Nat} (h : RowsOk n R) {l : Nat} (hl : l < 4) (h1 : 1 ≤ l) {x : Nat} {xs : List Nat} (e : R l = x :: xs) : stp R l l = xs ∧ lvl R x = (l : Int) := by
  have hx : x ∈ R l := by rw [e]; simp
  have hv : lvl R x = (l : Int) := lvl_of hl hx fun m hm hm' => h.one m l x hm hl hm' hx
  refine ⟨?_, hv⟩
  unfold stp hdN
  rw [e]
  show movA R ((x : Int)).toNat (-1) l = xs
  rw [Int.toNat_natCast]
  unfold movA
  rw [hv, show cutB (-1) = -1 from rfl, show cutL ((l : Int) + -1) = ((l - 1 : Nat) : Int) by unfold cutL; rw [if_neg (by omega), if_neg (by omega)]; omega, Int.toNat_natCast]
  unfold put setR
  rw [if_neg (by omega)]
  unfold rem
  have hnd := h.nd l hl
  rw [e] at hnd ⊢
  rw [List.filter_cons_of_neg (by simp), List.filter_eq_self]
  intro y hy
  have : y ≠ x := fun e => (List.nodup_cons.1 hnd).1 (e ▸ hy)
  simpa using this
theorem list_drop_cons {L : List Nat} {k : Nat} (h : k < L.length) : L.drop k = L[k] :: L.drop (k + 1) := List.drop_eq_getElem_cons h
theorem balN_le {R : Nat → List Nat} {most : Int} (j : Nat) (h : ∀ i, i < j → (balR R most i (3 - i)).length ≤ 16) : balN R most j ≤ 16 * j := by
  induction j with
  | zero => exact Nat.le_refl _
  | succ j ih =>
    have h1 := ih fun i hi => h i (by omega)
    have h2 := h j (by omega)
    have h3 : overB (balR R most j (3 - j)) most ≤ (balR R most j (3 - j)).length := by unfold overB; omega
    show balN R most j + overB (balR R most j (3 - j)) most ≤ _
    omega
set_option maxRecDepth 100000 in
set_option maxHeartbeats 8000000 in
theorem balance_any (B g n : Nat) (R : Nat → List Nat) (most : Int) (w : World) (h : QR w g n R) (hB : B ≤ g) (hmost : most ≤ 9223372036854775807) : Calls Try.prog 50 #[.pointer (some ⟨g, 0, none⟩), .int .i64 most] w fun e w' => e = .returned (.int .i64 (balN R most 3 : Int)) ∧ QR w' g n (balR R most 3) ∧ Kq B [g] w w' := by
  have HQ := Lib.hid h
  clear h
  obtain ⟨z3, hz3⟩ : ∃ z, Hid (balN R most 3 = z) := ⟨_, Lib.hid rfl⟩
  rw [hz3.out]
  go_enter Try.func50, Try.ntmps50
  go_wp2_with fail
  go_loopw [5, 6, 18, 19] (fun s5 s6 s18 s19 wi => ∃ j : Nat, s5 = .int .i64 (balN R most j : Int) ∧ s6 = .int .i64 ((3 - j : Nat) : Int) ∧ j ≤ 3 ∧ Hid (balN R most j ≤ 16 * j) ∧ Hid (QR wi g n (balR R most j)) ∧ Hid (Kq B [g] w wi)) (fun _ s6 _ _ _ => (intOf s6).toNat)
  case atStart => exact ⟨0, rfl, rfl, by omega, Lib.hid (Nat.le_refl _), HQ, Lib.hid (Kq.refl _ _ _)⟩
  case round =>
    obtain ⟨j, rfl, rfl, hj, HN, HR, HK⟩ := hrel
    clear HQ
    by_cases hlt : j < 3
    · obtain ⟨l, hl⟩ : ∃ l, 3 - j = l := ⟨_, rfl⟩
      have hl1 : 1 ≤ l := by omega
      have hl4 : l < 4 := by omega
      have hli : 0 < l := by omega
      have hl' : (l : Int) < 4 := by omega
      have HS : Hid (balR R most (j + 1) = its (balR R most j) l (overB (balR R most j l) most) ∧ balN R most (j + 1) = balN R most j + overB (balR R most j l) most) := Lib.hid (by rw [← hl]; exact ⟨rfl, rfl⟩)
      rw [hl]
      generalize balR R most j = R1 at *
      obtain ⟨m0, hm0⟩ : ∃ m, balN R most j = m := ⟨_, rfl⟩
      rw [hm0] at HN HS ⊢
      clear hm0
      have hlen := HR.out.len hl4
      have e1 : rowL R1 (l : Int) = R1 l := by unfold rowL; rw [if_pos (by omega), Int.toNat_natCast]
      have CS := Lib.hid (length_any g n R1 (l : Int) wr HR.out)
      rw [e1] at CS
      clear e1
      obtain ⟨L, hL⟩ : ∃ L, Hid (R1 l = L) := ⟨_, Lib.hid rfl⟩
      rw [hL.out] at CS hlen HS
      obtain ⟨K, hK⟩ : ∃ K, overB L most = K := ⟨_, rfl⟩
      have hKL : K ≤ L.length := by rw [← hK]; unfold overB; omega
      rw [hK] at HS
      obtain ⟨len, hlen'⟩ : ∃ len, L.length = len := ⟨_, rfl⟩
      rw [hlen'] at CS hlen hKL
      have hKv : K = ((len : Int) - max most 0).toNat := by rw [← hK]; unfold overB; rw [hlen']
      obtain ⟨c18, hc18⟩ : ∃ c : Int, (len : Int) - max most 0 = c := ⟨_, rfl⟩
      rw [hc18] at hKv
      have HL := Lib.hid hlen'
      clear hK hlen'
      have hw18 : wrap64 c18 = c18 := by unfold wrap64; omega
      go_upto_region 7 with fail
      go_cut [18, 19] from 13 to 19 (fun s18 s19 wx => s18 = .int .i64 (wrap64 c18) ∧ s19 = .int .i64 0 ∧ Hid (Below wr.heap.size wr wx))
      case first =>
        subst hc18
        go_wp2_with fail
        refine CS.out.mono ?_
        rintro e w1 ⟨rfl, b1⟩
        have HB1 := Lib.hid b1
        clear b1 CS
        go_wp2_with fail
        all_goals
          go_meet
          exact ⟨by congr 1; congr 1; omega, rfl, HB1⟩
      case rest =>
      obtain ⟨rfl, rfl, HB1⟩ := hcut
      rw [hw18]
      have HR1 := Lib.hid (HR.out.below HB1.out)
      have HK1 := Lib.hid (HK.out.trans (Kq.of_below HB1.out (Nat.le_trans hB (Nat.le_of_lt (by obtain ⟨F, hQ, _⟩ := HR.out; exact hQ.lt)))))
      clear HR HK CS hw18 hc18 HB1
      go_wp2_with fail
      go_loopw [5, 19] (fun s5 s19 wi => ∃ k : Nat, s5 = .int .i64 ((m0 + k : Nat) : Int) ∧ s19 = .int .i64 (k : Int) ∧ k ≤ K ∧ Hid (its R1 l k l = L.drop k) ∧ Hid (QR wi g n (its R1 l k)) ∧ Hid (Kq B [g] w wi)) (fun _ s19 _ => K - (intOf s19).toNat)
      case atStart => exact ⟨0, rfl, rfl, by omega, Lib.hid hL.out, HR1, HK1⟩
      case round =>
        obtain ⟨k, rfl, rfl, hk, HI, HR2, HK2⟩ := hrel
        clear HR1 HK1
        by_cases hlt2 : k < K
        · have hkc : (k : Int) < c18 := by omega
          have hkl : k < L.length := by rw [HL.out]; omega
          have hrow : its R1 l k l = L[k] :: L.drop (k + 1) := HI.out.trans (list_drop_cons hkl)
          obtain ⟨hst, hlv⟩ := stp_row HR2.out.ok hl4 hl1 hrow
          have HI2 : Hid (its R1 l (k + 1) l = L.drop (k + 1)) := Lib.hid hst
          have hxn : L[k] < n := HR2.out.ok.lt l hl4 _ (by rw [hrow]; exact List.mem_cons_self)
          have hmis : misA (its R1 l k) n (L[k] : Int) = 0 := by unfold misA; rw [if_neg (by omega), Int.toNat_natCast, hlv, if_neg (by omega)]
          have CM := Lib.hid (move_any B g n (its R1 l k) (L[k] : Int) (-1) wr HR2.out hB)
          rw [hmis, if_pos rfl, Int.toNat_natCast] at CM
          have hnx : movA (its R1 l k) L[k] (-1) = its R1 l (k + 1) := by
            show _ = movA (its R1 l k) (hdN (its R1 l k l)) (-1)
            rw [hrow]; rfl
          rw [hnx] at CM
          have c1 : wr.cell? ⟨g, 49 + l, none⟩ = some (.int .i64 (L[k] : Int)) := by
            obtain ⟨F, hQ, hO⟩ := HR2.out
            have := hQ.cell (49 + l) (by omega)
            rw [(hO.row l hl4).fi, hrow] at this
            exact this
          have HN0 := HN.out
          have hwm : wrap64 (((m0 + k : Nat) : Int) + 1) = ((m0 + (k + 1) : Nat) : Int) := by unfold wrap64; omega
          have HWM := Lib.hid hwm
          obtain ⟨y, hy⟩ : ∃ y, m0 + k = y := ⟨_, rfl⟩
          rw [hy] at hwm HWM ⊢
          have hy2 : m0 + (k + 1) = y + 1 := (Nat.add_assoc m0 k 1).symm.trans (by rw [hy])
          rw [hy2] at hwm HWM
          have HY2 := Lib.hid hy2
          generalize L[k] = x at *
          clear hrow hst hlv hmis hnx HI hy hy2 hkl
          go_wp2_with fail
          refine CM.out.mono ?_
          rintro e w' ⟨rfl, q1, k1⟩
          have HZ := Lib.hid (⟨q1, HK2.out.trans k1⟩ : _ ∧ _)
          clear q1 k1 c1 CM HR2 HK2
          go_wp2_with fail
          go_roundw
          case rel => exact ⟨k + 1, by rw [HY2.out]; first | rfl | (congr 1), by go_num, by omega, HI2, Lib.hid HZ.out.1, Lib.hid HZ.out.2⟩
          case measure => simp [intOf]; omega
        · obtain rfl : k = K := by omega
          have hkc : ¬ (k : Int) < c18 := by omega
          have HN0 := HN.out
          have hwl : wrap64 ((l : Int) - 1) = ((3 - (j + 1) : Nat) : Int) := by unfold wrap64; omega
          have HWL := Lib.hid hwl
          have HN2 : Hid (balN R most (j + 1) ≤ 16 * (j + 1)) := Lib.hid (by rw [HS.out.2]; omega)
          have HR3 : Hid (QR wr g n (balR R most (j + 1))) := Lib.hid (by rw [HS.out.1]; exact HR2.out)
          have HE := Lib.hid HS.out.2
          clear HS HR2 HI HN0
          generalize m0 + k = y at *
          go_wp2_with fail
          go_roundw
          case rel => exact ⟨j + 1, by rw [HE.out], by first | (congr 1; omega) | (rw [← HWL.out]), by omega, HN2, HR3, HK2⟩
          case measure => simp [intOf]; omega
    · obtain rfl : j = 3 := by omega
      rw [show ((3 - 3 : Nat) : Int) = 0 from rfl, hz3.out]
      go_wp2_with fail
      go_ret
      exact ⟨rfl, HR.out, HK.out⟩
end Go.Proofs.Ytfkepplpeakgmaa
