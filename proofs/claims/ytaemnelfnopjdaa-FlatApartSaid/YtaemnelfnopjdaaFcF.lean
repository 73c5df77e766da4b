/- The reference of flat: Read. -/
import Derived.Test.YtaemnelfnopjdaaFcE
namespace Go.Proofs.Ytaemnelfnopjdaa
open Go.RowKit Go.Deep Go.Maps
set_option linter.unusedVariables false
set_option linter.unusedSimpArgs false
theorem RfW.lastC {w : World} {B g n gc cap : Nat} {cs : List RC} (h : RfW w B g n cs gc cap) {i : Nat} (hi : i < cs.length) (hL : cs[i].L.length ≤ 1000000) : ∃ ll bb cc, w.cell? ⟨gc, i, none⟩ = some (.slice (some ⟨bb, 0, none⟩) (ll + 1) cc) ∧ Calls Try.prog 44 #[.agg #[.slice (some ⟨bb, 0, none⟩) (ll + 1) cc]] w fun e w' => e = .returned (.string ⟨(lastT cs[i]).toArray⟩) ∧ Below w.heap.size w w' := by
  have hc := h.cell i hi
  obtain ⟨ht, hcp, hn0, _⟩ := h.row _ (List.getElem_mem hi)
  generalize cs[i] = c at *
  unfold rcV at hc
  obtain ⟨L', x, hLx⟩ : ∃ L' x, c.L = L' ++ [x] := ⟨c.L.dropLast, c.L.getLast hn0, (List.dropLast_concat_getLast hn0).symm⟩
  have hlast : lastT c = x := by unfold lastT; rw [hLx]; simp
  have hlen : (L' ++ [x]).length = L'.length + 1 := by simp
  rw [hLx] at ht hcp hL hc
  rw [hlen] at hcp hL hc
  rw [hlast]
  exact ⟨_, _, _, hc, rlast_any c.cap ht (by omega) hcp⟩
def rreadV (qa qb : Nat) (cs : List RC) : Value := if ∀ i (hi : i < cs.length), segB qa qb cs[i] = segB qa qb (cs.headD ⟨0, 0, []⟩) then .tuple #[.string (segB qa qb (cs.headD ⟨0, 0, []⟩)), .bool true] else .tuple #[.string ⟨#[]⟩, .bool false]
set_option maxRecDepth 100000 in
set_option maxHeartbeats 8000000 in
theorem rread_any {w : World} {B g n gc cap : Nat} {cs : List RC} (A k : Nat) (h : RfW w B g n cs gc cap) (hne : cs ≠ []) (hl : cs.length ≤ 1000000) (hL : ∀ c ∈ cs, c.L.length ≤ 1000000) (hsz : ∀ c ∈ cs, 48 * A + 48 * k ≤ (lastT c).length) (hA : A ≤ 64) (hk : k ≤ 64) : Calls Try.prog 30 #[.pointer (some ⟨g, 0, none⟩), .int .i64 (A : Int), .int .i64 (k : Int)] w fun e w' => e = .returned (rreadV (48 * A) (48 * A + 48 * k) cs) ∧ Below w.heap.size w w' := by
  have H := Lib.hid h
  have HL := Lib.hid hL
  have hcap := h.cap
  obtain ⟨qa, hqa⟩ : ∃ qa, 48 * A = qa := ⟨_, rfl⟩
  obtain ⟨qk, hqk⟩ : ∃ qk, 48 * k = qk := ⟨_, rfl⟩
  rw [hqa, hqk] at hsz ⊢
  obtain ⟨qb, hqb⟩ : ∃ qb, qa + qk = qb := ⟨_, rfl⟩
  have ea : (48 : Int) * (A : Int) = (qa : Int) := by omega
  have ek : (48 : Int) * (k : Int) = (qk : Int) := by omega
  have eb : (qa : Int) + (qk : Int) = (qb : Int) := by omega
  rw [hqb] at hsz ⊢
  have HSZ := Lib.hid hsz
  obtain ⟨m, hm⟩ : ∃ m, Hid (cs.length = m) := ⟨_, Lib.hid rfl⟩
  have hm0 : 0 < m := by rw [← hm.out]; exact List.length_pos_iff.2 hne
  have c1 := cell_of_row w g 1 _ _ _ h.hg
  rw [hm.out] at hl hcap c1
  have hglt := h.lt
  have hqle : qa ≤ qb := by omega
  have hqb1 : qb ≤ 1010000 := by omega
  have h0l : 0 < cs.length := by rw [hm.out]; exact hm0
  have HC0 : Hid (cs[0] = cs.headD ⟨0, 0, []⟩) := Lib.hid (by cases cs with | nil => exact absurd rfl hne | cons a r => rfl)
  obtain ⟨ll, bb, cc, hc, CLa⟩ := h.lastC h0l (HL.out _ (List.getElem_mem h0l))
  have hz0 := HSZ.out _ (List.getElem_mem h0l)
  obtain ⟨S, hS⟩ : ∃ S : ByteArray, Hid ((⟨(lastT cs[0]).toArray⟩ : ByteArray) = S) := ⟨_, Lib.hid rfl⟩
  have hSz : S.size = (lastT cs[0]).length := by rw [← hS.out, bytes_size]
  rw [hS.out] at CLa
  have CL0 := Lib.hid CLa
  have l1 : (qa : Int) ≤ (qb : Int) := by omega
  have l2 : (qb : Int) ≤ (S.size : Int) := by omega
  have l0 : (0 : Int) ≤ (qa : Int) := by omega
  have l3 : (0 : Int) ≤ (qb : Int) := by omega
  obtain ⟨S0, hS0⟩ : ∃ S0, S.extract qa qb = S0 := ⟨_, rfl⟩
  have HH : Hid (segB qa qb (cs.headD ⟨0, 0, []⟩) = S0) := Lib.hid (by rw [← HC0.out, ← hS0, ← hS.out]; rfl)
  obtain ⟨r, hr⟩ : ∃ r, Hid (rreadV qa qb cs = r) := ⟨_, Lib.hid rfl⟩
  rw [hr.out]
  have hmi : (0 : Int) < (m : Int) := by omega
  clear h hL hsz hqa hqb hqk hSz hz0 CLa
  go_enter Try.func30, Try.ntmps30
  go_wp2_with fail
  refine CL0.out.mono ?_
  rintro e w1 ⟨rfl, b1⟩
  have HW1 := Lib.hid b1
  have hS0' := hS0
  clear CL0 b1 hc
  go_upto_region 2 with fail
  (try rw [hS0'])
  clear l2 hS0 hS0'
  go_wp2_with fail
  go_loopw [9] (fun s9 wi => ∃ i : Nat, s9 = .int .i64 (i : Int) ∧ i ≤ m ∧ Hid (∀ j (hj : j < cs.length), j < i → segB qa qb cs[j] = S0) ∧ Hid (Below w.heap.size w wi)) (fun s9 _ => m - (intOf s9).toNat)
  case atStart => exact ⟨0, rfl, by omega, Lib.hid (fun j _ h => absurd h (Nat.not_lt_zero _)), HW1⟩
  case round =>
    obtain ⟨i, rfl, hi, HALL, HW⟩ := hrel
    have c1 := (HW.out.cell (p := ⟨g, 1, none⟩) hglt).trans c1
    by_cases him : i < m
    · as_aux_lemma =>
      have hil : i < cs.length := by rw [hm.out]; exact him
      have hmem := List.getElem_mem hil
      obtain ⟨ll, bb, cc, hc, CLa⟩ := (H.out.below HW.out).lastC hil (HL.out _ hmem)
      have hz0 := HSZ.out _ hmem
      obtain ⟨S, hS⟩ : ∃ S : ByteArray, Hid ((⟨(lastT cs[i]).toArray⟩ : ByteArray) = S) := ⟨_, Lib.hid rfl⟩
      have hSz : S.size = (lastT cs[i]).length := by rw [← hS.out, bytes_size]
      rw [hS.out] at CLa
      have CLi := Lib.hid CLa
      have l2 : (qb : Int) ≤ (S.size : Int) := by omega
      have hji : (i : Int) < (m : Int) := by omega
      obtain ⟨Y, hY⟩ : ∃ Y, S.extract qa qb = Y := ⟨_, rfl⟩
      have HY : Hid (segB qa qb cs[i] = Y) := Lib.hid (by rw [← hY, ← hS.out]; rfl)
      clear hSz hz0 CLa
      go_wp2_with fail
      refine CLi.out.mono ?_
      rintro e w1 ⟨rfl, b1⟩
      have HW1 := Lib.hid (HW.out.trans (b1.mono HW.out.size))
      clear CLi b1
      by_cases hYs : Y = S0
      · have HALL2 : Hid (∀ j (hj : j < cs.length), j < i + 1 → segB qa qb cs[j] = S0) := Lib.hid (fun j hj hji => by
          by_cases e : j = i
          · subst e; rw [HY.out]; exact hYs
          · exact HALL.out j hj (by omega))
        subst hYs
        go_wp2_with fail
        go_roundw
        case rel => exact ⟨i + 1, by go_num, by omega, HALL2, HW1⟩
        case measure => simp [intOf]; omega
      · have hne1 : (Y.toList == S0.toList) = false := by simp; exact fun e => hYs (ba_toR _ _ e)
        have hne2 : (Y.toList != S0.toList) = true := by rw [bne, hne1]; rfl
        have hrv : r = .tuple #[.string ⟨#[]⟩, .bool false] := by
          rw [← hr.out]
          unfold rreadV
          rw [if_neg (fun h => hYs (by rw [← HY.out, h i hil, HH.out]))]
        have HRV := Lib.hid hrv
        clear hrv
        go_wp2_with fail
        go_ret2
        exact ⟨by rw [HRV.out]; rfl, HW1.out⟩
    · as_aux_lemma =>
      obtain rfl : i = m := by omega
      have hlt : ¬ (i : Int) < (i : Int) := by omega
      have hrv : r = .tuple #[.string S0, .bool true] := by
        rw [← hr.out]
        unfold rreadV
        rw [if_pos (fun j hj => by rw [HALL.out j hj (by rw [← hm.out]; exact hj), HH.out]), HH.out]
      have HRV := Lib.hid hrv
      clear hrv
      go_wp2_with fail
      go_ret2
      exact ⟨by rw [HRV.out]; rfl, HW.out⟩
end Go.Proofs.Ytaemnelfnopjdaa
