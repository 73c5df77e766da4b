/- Package record (cellaret): Parse, what ends early. -/
import Derived.Test.YthhaadcpenlnkaaRcK
namespace Go.Proofs.Ythhaadcpenlnkaa
open Go.RowKit Go.Deep
set_option linter.unusedVariables false
set_option linter.unusedSimpArgs false
attribute [local irreducible] rcA
def resR (L : List ByteArray) : Rc := if eP L = 0 then recP L else rz0
def resN (L : List ByteArray) : Int := if eP L = 0 then (lenN (cntP (tB L 0)) : Int) else 0
/-- The block behind a slice of Puts is one of Puts. -/
def PtT (w : World) (a : Option Addr) : Prop := ∀ g o, a = some ⟨g, o, none⟩ → ∃ cs fr, w.heap[g]? = some (.cells cs 48 fr)
theorem PtT.none (w : World) : PtT w none := fun g o e => by cases e
theorem PtT.below {w w' : World} {a : Option Addr} (h : PtT w a) (hb : Below w.heap.size w w') : PtT w' a := fun g o e => by
  obtain ⟨cs, fr, h1⟩ := h g o e
  exact ⟨cs, fr, (hb.block g (Array.getElem?_eq_some_iff.1 h1).1).trans h1⟩
theorem PtT.setRow {w : World} {a : Option Addr} {k : Nat} (h : PtT w a) (cs : Array Value) (hne : ∀ g o, a = some ⟨g, o, Option.none⟩ → g ≠ k) : PtT (w.setRow k cs) a := fun g o e => by
  obtain ⟨c2, fr, h1⟩ := h g o e
  exact ⟨c2, fr, (setRow_other w k g cs (hne g o e)).trans h1⟩
theorem own_ptT {w : World} {base n : Nat} {a : Option Addr} {m c : Nat} {xs : List Value} (h : w.ownsRow base 48 2 (.slice a m c) n xs) : PtT w a := fun g o e => by
  rcases h.2 with ⟨h1, _⟩ | ⟨g', cap, cur, h1, _, hg', _⟩
  · injection h1 with h1 _ _
    rw [h1] at e
    cases e
  · injection h1 with h1 _ _
    rw [h1] at e
    injection e with e
    injection e with e1 _ _
    subst e1
    exact ⟨_, _, hg'⟩
/-- What Parse gives. -/
def ParseP (L : List ByteArray) (w : World) (e : Ending) (w' : World) : Prop :=
  ∃ a c, e = .returned (.tuple #[.agg (rcA (resR L) (.slice a (resR L).ps.length c)), .int .i64 (resN L), .int .i64 (eP L)]) ∧ PtAt w' a (resR L).ps ∧ PtT w' a ∧ Below w.heap.size w w'
theorem parse_bad {L : List ByteArray} {w w' : World} {z : Int} (he : eP L = z) (h0 : z ≠ 0) (hb : Below w.heap.size w w') : ParseP L w (.returned (.tuple #[.agg (rcA rz0 nilS), .int .i64 0, .int .i64 z])) w' := by
  have h : ¬ eP L = 0 := by rw [he]; exact h0
  have e1 : resR L = rz0 := by unfold resR; rw [if_neg h]
  have e2 : resN L = 0 := by unfold resN; rw [if_neg h]
  refine ⟨none, 0, ?_, ?_, PtT.none _, hb⟩
  · rw [e1, e2, he]; rfl
  · rw [e1]; exact fun h => absurd h (by simp [rz0])
set_option maxRecDepth 100000 in
set_option maxHeartbeats 2000000 in
theorem parse_nil (ao : Option Addr) (cap : Nat) (w : World) : Calls Try.prog 16 #[.slice ao 0 cap] w fun e w' => ParseP [] w e w' := by
  have hz := zero_rc
  obtain ⟨w1, HW1, HR1, HB1⟩ := made_rc w
  have hsz := rc_loaded nilS HR1.2
  have hone := rcA_one rz0 nilS rfl
  go_enter Try.func16, Try.ntmps16
  go_upto_region 1 with fail
  rw [HW1.out]
  clear HW1 hz
  go_wp2_with (refine wpList_store_row rfl _ _ _ rfl w.heap.size (rcA rz0 nilS) rfl (congrArg Value.agg lit_rc) 26 _ HR1.1 hsz rfl hone ?_)
  refine bodyPost_ret_by (results_ctt rfl _ _ w.heap.size 26 (rcA rz0 nilS) (0, 0) _ rfl (setRow_heap _ _ _ (rcA rz0 nilS) 26 (0, 0) HR1.1) Try.underlying26 rfl hsz) rfl (parse_bad eP_nil (by decide) ?_)
  exact below_setRow HB1.out (Nat.le_refl _) _
set_option maxRecDepth 100000 in
set_option maxHeartbeats 2000000 in
theorem parse_small (L : List ByteArray) (ao : Option Addr) (n cap : Nat) (w : World) (hn : L.length = n) (hc : n ≤ cap) (hcm : cap ≤ maxLen) (h0 : 0 < n) (hT : TxtAt w ao L) (h64 : (tB L 0).size ≠ 64) : Calls Try.prog 16 #[.slice ao n cap] w fun e w' => ParseP L w e w' := by
  have hz := zero_rc
  obtain ⟨w1, HW1, HR1, HB1⟩ := made_rc w
  have hsz := rc_loaded nilS HR1.2
  have hone := rcA_one rz0 nilS rfl
  have HE : Hid (eP L = 6) := Lib.hid (eP_head (fun h => by rw [h] at hn; simp at hn; omega) (fun h => h64 h.1))
  have PH := Lib.hid (fun w => head_no (tB L 0) w h64)
  obtain ⟨g, o, rfl, hg, htx⟩ := hT (by omega)
  have t0 := (HB1.out.cell (p := ⟨g, o + 0, none⟩) hg).trans (htx 0 (by omega))
  rw [tB_get, Nat.add_zero] at t0
  have e0 : ((n : Int) == 0) = false := by rw [beq_eq_false_iff_ne]; omega
  have e0' : (0 : Int) < (n : Int) := by omega
  clear htx h64
  generalize tB L 0 = s at *
  go_enter Try.func16, Try.ntmps16
  go_upto_region 1 with fail
  rw [HW1.out]
  clear HW1
  go_wp2_with fail
  refine (PH.out _).mono ?_
  rintro e w2 ⟨rfl, b2⟩
  have HR2 := Lib.hid (HR1.below b2)
  have HB2 := Lib.hid (HB1.out.trans (b2.mono HB1.out.size))
  clear b2 t0 HR1 PH
  obtain ⟨w3, HW3, HR3, HB3⟩ := made_rc w2
  go_upto_region 4 with (rw [HW3.out]; refine wpList_store_row rfl _ _ _ rfl w2.heap.size (rcA rz0 nilS) rfl rfl 26 _ HR3.1 hsz rfl hone ?_)
  have HB4 := Lib.hid (below_setRow HB3.out (Nat.le_refl _) (rcA rz0 nilS))
  have HR4 := Lib.hid (HR2.out.below HB4.out)
  have HBB4 := Lib.hid (HB2.out.trans (HB4.out.mono HB2.out.size))
  clear HR3 HB3 HW3 HB4 HR2 HB2
  generalize w3.setRow w2.heap.size (rcA rz0 nilS) = w4 at *
  go_wp2_with (refine wpList_store_row rfl _ _ _ rfl w.heap.size (rcA rz0 nilS) rfl rfl 26 _ HR4.out.1 hsz rfl hone ?_)
  refine bodyPost_ret_by (results_ctt rfl _ _ w.heap.size 26 (rcA rz0 nilS) (0, 0) _ rfl (setRow_heap _ _ _ (rcA rz0 nilS) 26 (0, 0) HR4.out.1) Try.underlying26 rfl hsz) rfl (parse_bad HE.out (by decide) ?_)
  exact below_setRow HBB4.out (Nat.le_refl _) _
theorem parse_good {L : List ByteArray} {w w' : World} {a : Option Addr} {N c : Nat} (he : eP L = 0) (hN : lenN (cntP (tB L 0)) = N) (hP : PtAt w' a (recP L).ps) (hPT : PtT w' a) (hb : Below w.heap.size w w') : ParseP L w (.returned (.tuple #[.agg (rcA (recP L) (.slice a (recP L).ps.length c)), .int .i64 (N : Int), .int .i64 0])) w' := by
  have e1 : resR L = recP L := by unfold resR; rw [if_pos he]
  have e2 : resN L = (N : Int) := by unfold resN; rw [if_pos he, hN]
  refine ⟨a, c, ?_, ?_, hPT, hb⟩
  · rw [e1, e2, he]
  · rw [e1]; exact hP
theorem grown_fresh {a b c : World} {g : Nat} {o : Option Nat} (h : a.grownBy b (some g)) (k : b.grownBy c o) (hf : ∀ x, o = some x → a.heap.size ≤ x) : a.grownBy c (some g) :=
  ⟨k.os.trans h.os, k.tape.trans h.tape, k.output.trans h.output, Nat.le_trans h.size k.size, fun i hi hne => (k.block i (Nat.lt_of_lt_of_le hi h.size) (fun e => by have := hf i e.symm; omega)).trans (h.block i hi hne)⟩
theorem RdrAt.grown {w w' : World} {g h : Nat} {ao : Option Addr} {n cap pl : Nat} {o : Option Nat} (H : RdrAt w g h ao n cap pl) (hb : w.grownBy w' o) (h1 : some g ≠ o) (h2 : some h ≠ o) : RdrAt w' g h ao n cap pl :=
  ⟨(World.cell?_of_block (a := ⟨g, 0, none⟩) (hb.block g H.gl h1)).trans H.blocks, (World.cell?_of_block (a := ⟨h, 0, none⟩) (hb.block h H.hl h2)).trans H.first, Nat.lt_of_lt_of_le H.gl hb.size, Nat.lt_of_lt_of_le H.hl hb.size⟩
theorem atP_take {L : List ByteArray} {N i : Nat} (h : 1 + i / 32 < N) : atP (L.take N) i = atP L i := by unfold atP; rw [tB_take h]
theorem PtAt.setRow {w : World} {a : Option Addr} {ps : List Pt} {k : Nat} (h : PtAt w a ps) (cs : Array Value) (hne : ∀ g o, a = some ⟨g, o, none⟩ → g ≠ k) : PtAt (w.setRow k cs) a ps := fun h0 => by
  obtain ⟨g, o, h1, h2, h3⟩ := h h0
  have hb : (w.setRow k cs).heap[g]? = w.heap[g]? := setRow_other w k g cs (hne g o h1)
  refine ⟨g, o, h1, by simpa [World.setRow] using h2, fun i hi => ⟨(World.cell?_of_block (a := ⟨g, o + i * 2, none⟩) hb).trans (h3 i hi).1, (World.cell?_of_block (a := ⟨g, o + i * 2 + 1, none⟩) hb).trans (h3 i hi).2⟩⟩
theorem info_putR : (Try.prog.info? 48).map (fun i => (i.zero, i.size, i.bytes)) = some (some (.agg #[.int .i64 0, .string ⟨#[]⟩]), 2, 24) := by kernel_rfl
theorem two_cells' (w : World) (t : TypeId) (a b : Value) : ∀ j u, [a, b][j]? = some u → (w.alloc (.cells #[a, b] t)).cell? ((⟨w.heap.size, 0, none⟩ : Addr).add j) = some u := by
  intro j u hu
  rw [Addr.add_lit, Nat.zero_add, cell_of_row _ _ j _ _ _ (heap_alloc_new _ _)]
  simpa using hu
set_option maxRecDepth 100000 in
set_option maxHeartbeats 4000000 in
theorem parse_64 (L : List ByteArray) (ao : Option Addr) (n cap : Nat) (w : World) (hn : L.length = n) (hc : n ≤ cap) (hcm : cap ≤ maxLen) (h0 : 0 < n) (hT : TxtAt w ao L) (h64 : (tB L 0).size = 64) : Calls Try.prog 16 #[.slice ao n cap] w fun e w' => ParseP L w e w' := by
  have hz := zero_rc
  obtain ⟨w1, HW1, HR1, HB1⟩ := made_rc w
  have hsz := rc_loaded nilS HR1.2
  have hone := rcA_one rz0 nilS rfl
  have hne : L ≠ [] := fun h => by rw [h] at hn; simp at hn; omega
  have PH := Lib.hid (fun w => head_64 (tB L 0) w h64)
  have HT := Lib.hid hT
  have HN := Lib.hid hn
  obtain ⟨g, o, rfl, hg, htx⟩ := hT (by omega)
  have t0 := (HB1.out.cell (p := ⟨g, o + 0, none⟩) hg).trans (htx 0 (by omega))
  rw [tB_get, Nat.add_zero] at t0
  have e0 : ((n : Int) == 0) = false := by rw [beq_eq_false_iff_ne]; omega
  have e0' : (0 : Int) < (n : Int) := by omega
  have HRL := Lib.hid (rootP_len h64)
  have HH : Hid (¬ headOk (tB L 0) → eP L = 6) := Lib.hid (fun h => eP_head hne h)
  have HS : Hid (headOk (tB L 0) → L.length < lenN (cntP (tB L 0)) → eP L = 5) := Lib.hid (fun a b => eP_short hne a b)
  have H6 : Hid (headOk (tB L 0) → ¬ L.length < lenN (cntP (tB L 0)) → ¬ all64 (L.take (lenN (cntP (tB L 0)))) → eP L = 6) := Lib.hid (fun a b c => by
    by_cases h : ∀ j, j < lenN (cntP (tB L 0)) → (tB L j).size = 64
    · exact absurd (fun j hj => by
        rw [List.length_take] at hj
        rw [tB_take (by omega)]
        exact h j (by omega)) c
    · obtain ⟨j, hj⟩ := Classical.not_forall.1 h
      obtain ⟨hj1, hj2⟩ := Classical.not_imp.1 hj
      exact eP_not64 hne a b j hj1 hj2)
  have HF : Hid (headOk (tB L 0) → ¬ L.length < lenN (cntP (tB L 0)) → ¬ (chkE (recP L) = 0 ∧ layL (recP L) = L.take (lenN (cntP (tB L 0)))) → eP L = 6) := Lib.hid (fun a b c => eP_form hne a b c)
  have HO : Hid (headOk (tB L 0) → ¬ L.length < lenN (cntP (tB L 0)) → chkE (recP L) = 0 → layL (recP L) = L.take (lenN (cntP (tB L 0))) → eP L = 0) := Lib.hid (fun a b c d => eP_ok hne a b c d)
  have HK : Hid (headOk (tB L 0) → cntP (tB L 0) ≤ 64) := Lib.hid (fun h => h.2.2.2)
  have HCZ : Hid (cntZ (tB L 0) = ((cntP (tB L 0) : Nat) : Int)) := Lib.hid (cntZ_nat _).symm
  rw [HCZ.out] at PH
  have HRS : Hid ((recP L).seq = (headR (tB L 0)).seq ∧ (recP L).root = (headR (tB L 0)).root ∧ (recP L).ps = psP L (cntP (tB L 0)) (cntP (tB L 0)) ∧ (headR (tB L 0)).root.length = 32) := Lib.hid ⟨rfl, rfl, rfl, HRL.out⟩
  clear htx HCZ HRL hne hn
  obtain ⟨k, hk⟩ : ∃ k, Hid (cntP (tB L 0) = k) := ⟨_, Lib.hid rfl⟩
  rw [hk.out] at PH HS H6 HF HO HK HRS
  obtain ⟨s, hs⟩ : ∃ s, Hid (tB L 0 = s) := ⟨_, Lib.hid rfl⟩
  rw [hs.out] at PH HS H6 HF HO HK HRS HH t0
  obtain ⟨RH, hRH⟩ : ∃ RH, Hid (headR s = RH) := ⟨_, Lib.hid rfl⟩
  rw [hRH.out] at PH HRS
  have hszh := rc_loaded nilS HRS.out.2.2.2
  have honeh := rcA_one RH nilS rfl
  obtain ⟨ok, hok⟩ : ∃ ok, Hid (decide (headOk s) = ok) := ⟨_, Lib.hid rfl⟩
  rw [hok.out] at PH
  go_enter Try.func16, Try.ntmps16
  go_upto_region 1 with fail
  rw [HW1.out]
  clear HW1
  go_wp2_with fail
  refine (PH.out _).mono ?_
  rintro e w2 ⟨rfl, b2⟩
  have HR2 := Lib.hid (HR1.below b2)
  have HB2 := Lib.hid (HB1.out.trans (b2.mono HB1.out.size))
  have hlw : w.heap.size < w2.heap.size := Nat.lt_of_lt_of_le HR1.lt b2.size
  clear b2 t0 HR1 HB1 PH
  obtain ⟨w3, HW3, HR3, HB3⟩ := made_rc w2
  go_upto_region 4 with (rw [HW3.out]; refine wpList_store_row rfl _ _ _ rfl w2.heap.size (rcA RH nilS) rfl rfl 26 _ HR3.1 hszh (by rw [rcA_size _ _ HR3.2, rcA_size _ _ HRS.out.2.2.2]) honeh ?_)
  have hX4 : RcAt (w3.setRow w2.heap.size (rcA RH nilS)) w2.heap.size RH nilS := ⟨setRow_heap _ _ _ (rcA RH nilS) 26 (0, 0) HR3.1, HRS.out.2.2.2⟩
  have HX4 := Lib.hid hX4
  have HB4 := Lib.hid (below_setRow HB3.out (Nat.le_refl _) (rcA RH nilS))
  have HR4 := Lib.hid (HR2.out.below HB4.out)
  have HBB4 := Lib.hid (HB2.out.trans (HB4.out.mono HB2.out.size))
  clear HR3 HB3 HW3 HB4 HR2 HB2 hX4
  generalize w3.setRow w2.heap.size (rcA RH nilS) = w4 at *
  generalize w2.heap.size = gx at *
  cases ok with
  | false =>
    have HE := Lib.hid (HH.out (of_decide_eq_false hok.out))
    go_wp2_with (refine wpList_store_row rfl _ _ _ rfl w.heap.size (rcA rz0 nilS) rfl rfl 26 _ HR4.out.1 hsz rfl hone ?_)
    refine bodyPost_ret_by (results_ctt rfl _ _ w.heap.size 26 (rcA rz0 nilS) (0, 0) _ rfl (setRow_heap _ _ _ (rcA rz0 nilS) 26 (0, 0) HR4.out.1) Try.underlying26 rfl hsz) rfl (parse_bad HE.out (by decide) ?_)
    exact below_setRow HBB4.out (Nat.le_refl _) _
  | true =>
    have hok := of_decide_eq_true hok.out
    have hk64 := HK.out hok
    have HS := Lib.hid (HS.out hok)
    have H6 := Lib.hid (H6.out hok)
    have HF := Lib.hid (HF.out hok)
    have HO := Lib.hid (HO.out hok)
    have PL := Lib.hid (fun w => length_any (k : Int) w)
    have HLK : Hid (lengthV (k : Int) = (lenN k : Int)) := Lib.hid (by unfold lengthV; rw [if_neg (by omega), Int.toNat_natCast])
    rw [HLK.out] at PL
    have hN200 : lenN k ≤ 200 := by unfold lenN; omega
    have hNk : 1 + plN k + k = lenN k := rfl
    obtain ⟨N, hN⟩ : ∃ N, Hid (lenN k = N) := ⟨_, Lib.hid rfl⟩
    rw [hN.out] at PL HS H6 HF HO hN200 hNk
    rw [HN.out] at HS H6 HF HO
    by_cases hshort : n < N
    · have HE := Lib.hid (HS.out hshort)
      have hsi : (n : Int) < (N : Int) := by omega
      go_wp2_with fail
      refine (PL.out _).mono ?_
      rintro e w5 ⟨rfl, rfl⟩
      go_wp2_with (refine wpList_store_row rfl _ _ _ rfl w.heap.size (rcA rz0 nilS) rfl rfl 26 _ HR4.out.1 hsz rfl hone ?_)
      refine bodyPost_ret_by (results_ctt rfl _ _ w.heap.size 26 (rcA rz0 nilS) (0, 0) _ rfl (setRow_heap _ _ _ (rcA rz0 nilS) 26 (0, 0) HR4.out.1) Try.underlying26 rfl hsz) rfl (parse_bad HE.out (by decide) ?_)
      exact below_setRow HBB4.out (Nat.le_refl _) _
    · have hsi : ¬ (n : Int) < (N : Int) := by omega
      have hNc : (N : Int) ≤ (cap : Int) := by omega
      have H6 := Lib.hid (H6.out hshort)
      have HF := Lib.hid (HF.out hshort)
      have HO := Lib.hid (HO.out hshort)
      have PW := Lib.hid (fun (w' : World) (hb : Below w.heap.size w w') => whole_any (L.take N) (some ⟨g, o, none⟩) N N w' (by rw [List.length_take, HN.out]; omega) (by omega) ((HT.out.below hb).take N))
      obtain ⟨al, hal⟩ : ∃ al, Hid (decide (all64 (L.take N)) = al) := ⟨_, Lib.hid rfl⟩
      rw [hal.out] at PW
      cases al with
      | false =>
        have HE := Lib.hid (H6.out (of_decide_eq_false hal.out))
        go_wp2_with fail
        refine (PL.out _).mono ?_
        rintro e w5 ⟨rfl, rfl⟩
        go_wp2_with fail
        refine (PW.out _ HBB4.out).mono ?_
        rintro e w5 ⟨rfl, rfl⟩
        go_wp2_with (refine wpList_store_row rfl _ _ _ rfl w.heap.size (rcA rz0 nilS) rfl rfl 26 _ HR4.out.1 hsz rfl hone ?_)
        refine bodyPost_ret_by (results_ctt rfl _ _ w.heap.size 26 (rcA rz0 nilS) (0, 0) _ rfl (setRow_heap _ _ _ (rcA rz0 nilS) 26 (0, 0) HR4.out.1) Try.underlying26 rfl hsz) rfl (parse_bad HE.out (by decide) ?_)
        exact below_setRow HBB4.out (Nat.le_refl _) _
      | true =>
        have H64 := Lib.hid (of_decide_eq_true hal.out)
        clear HS H6 HH hal hok HK
        go_wp2_with fail
        refine (PL.out _).mono ?_
        rintro e w5 ⟨rfl, rfl⟩
        go_wp2_with fail
        refine (PW.out _ HBB4.out).mono ?_
        rintro e w5 ⟨rfl, rfl⟩
        clear PW PL
        go_wp2_with fail
        refine (reader_any (some ⟨g, o, none⟩) N N k w4 hk64).mono ?_
        rintro e w5 ⟨rfl, hrd, b5⟩
        have HRD := Lib.hid hrd
        have HX5 := Lib.hid (HX4.out.below b5)
        have HR5 := Lib.hid (HR4.out.below b5)
        have HB5 := Lib.hid (HBB4.out.trans (b5.mono HBB4.out.size))
        have hlx : gx < w4.heap.size := HX4.out.lt
        have hl4 : w4.heap.size + 1 < w5.heap.size := hrd.hl
        clear hrd b5 HX4 HR4 HBB4
        generalize w4.heap.size = gq at *
        have HT2 := Lib.hid (HT.out.below HB5.out)
        have HG5 : Hid (w5.grownBy w5 (some gx)) := Lib.hid (World.grownBy.refl _ _)
        have HO5 : Hid (w5.ownsRow w5.heap.size 48 2 nilS 0 (ptV (psP L k 0))) := Lib.hid (World.ownsRow_nil _ _ _ _)
        have hgw : g < w5.heap.size := Nat.lt_of_lt_of_le hg HB5.out.size
        go_wp2_with fail
        go_loopw [10, 49] (fun _ x wi => ∃ (j : Nat) (v : Value), x = .int .i64 (j : Int) ∧ j ≤ k ∧ Hid (RcAt wi gx RH v) ∧ Hid (wi.ownsRow w5.heap.size 48 2 v j (ptV (psP L k j))) ∧ Hid (w5.grownBy wi (some gx))) (fun _ x _ => k - (intOf x).toNat)
        case atStart => exact ⟨0, _, rfl, by omega, HX5, HO5, HG5⟩
        clear HX5 HO5 HG5
        case round =>
          obtain ⟨j, v, rfl, hj, HX, HO2, HG⟩ := hrel
          have hsw : w5.heap.size ≤ wr.heap.size := HG.out.size
          have HBi := Lib.hid (HB5.out.grown HG.out HB5.out.size (fun k e => by cases e; omega))
          by_cases hjk : j < k
          · as_aux_lemma =>
            have hji : (j : Int) < (k : Int) := by omega
            have hjp : j / 32 < plN k := by unfold plN; omega
            have hsz6 : 1 + j / 32 < (L.take N).length := by rw [List.length_take, HN.out]; omega
            have PRD := Lib.hid (fun (w' : World) (hb : Below wr.heap.size wr w') => reads_any (L.take N) gq (gq + 1) (some ⟨g, o, none⟩) N N k j w' (by rw [List.length_take, HN.out]; omega) (by omega) ((HT.out.below (HBi.out.trans (hb.mono HBi.out.size))).take N) ((HRD.out.grown HG.out (by simp; omega) (by simp; omega)).below hb) hk64 hjk (by rw [hN.out]; exact Nat.le_refl _) (H64.out _ hsz6))
            rw [atP_take (by omega), tB_take (by omega)] at PRD
            obtain ⟨ip, hip, hp1, hp2, hp3⟩ := rc_info info_putR
            have HSN : Hid (ptV (psP L k j) ++ [.int .i64 (atP L j), .string (tB L (1 + plN k + j))] = ptV (psP L k (j + 1))) := Lib.hid (by rw [psP_succ, ptV_snoc])
            obtain ⟨va, vc, rfl⟩ : ∃ a c, v = .slice a j c := by obtain ⟨a, c, h, _⟩ := own_pt HO2.out; exact ⟨a, c, h⟩
            have c33 := HX.out.ps
            have f33 := HX.out.frozen 33
            have hlx2 := HX.out.lt
            generalize atP L j = av at *
            generalize tB L (1 + plN k + j) = tp at *
            clear hsz6 hjp
            go_upto_region 15 with fail
            refine wp_region_lin (S := (fun w' => w'.cell? ⟨gx, 33, none⟩ = some (.slice va j vc))) [(0, true), (1, true), (2, true), (3, true), (4, false), (5, false), (6, false), (7, true), (8, false)] (by kernel_rfl) (by kernel_rfl) rfl (by kernel_rfl) ?_ (fun hHeld => ?_)
            · (try dsimp only); exact c33
            have HB6 : Hid (Below wr.heap.size wr wr.drew) := Lib.hid (Below.refl _ _).drew
            generalize World.drew wr = w6 at hHeld HB6 ⊢
            (refine wpL_calm (o := { dst := some 52, op := Go.Op.fieldAddr 26 (Go.Operand.tmp 5) 2, type := 0, pos := "record.go:132", after := #[], guard := none }) (v := ?_) rfl (Or.inl ⟨by rfl, ?_⟩) ?_; rotate_left; (focus (intro w hSw; (try dsimp only at hSw); go_simp; (try (with_reducible rfl)); done)); try simp only [Act.put, List.setIfInBounds_toArray, List.set_cons_zero, List.set_cons_succ])
            (refine wpL_calm (o := { dst := some 53, op := Go.Op.load 24 (Go.Operand.tmp 52), type := 24, pos := "record.go:132", after := #[{ on := 0, ground := Go.Ground.data }], guard := none }) (v := ?_) rfl (Or.inl ⟨by rfl, ?_⟩) ?_; rotate_left; (focus (intro w hSw; (try dsimp only at hSw); go_simp; (try (with_reducible rfl)); done)); try simp only [Act.put, List.setIfInBounds_toArray, List.set_cons_zero, List.set_cons_succ])
            (refine wpL_calm (o := { dst := some 54, op := Go.Op.move (Go.Operand.tmp 9), type := 59, pos := "record.go:132", after := #[], guard := none }) (v := ?_) rfl (Or.inl ⟨by rfl, ?_⟩) ?_; rotate_left; (focus (intro w hSw; (try dsimp only at hSw); go_simp; (try (with_reducible rfl)); done)); try simp only [Act.put, List.setIfInBounds_toArray, List.set_cons_zero, List.set_cons_succ])
            (refine wpL_calm (o := { dst := some 55, op := Go.Op.move (Go.Operand.tmp 10), type := 3, pos := "record.go:132", after := #[], guard := none }) (v := ?_) rfl (Or.inl ⟨by rfl, ?_⟩) ?_; rotate_left; (focus (intro w hSw; (try dsimp only at hSw); go_simp; (try (with_reducible rfl)); done)); try simp only [Act.put, List.setIfInBounds_toArray, List.set_cons_zero, List.set_cons_succ])
            refine wpL_loud1 (o := { dst := some 56, op := Go.Op.call { callee := Go.Callee.value (Go.Operand.tmp 54), args := #[Go.Operand.tmp 55], argTypes := #[3] }, type := 48, pos := "record.go:132", after := #[{ on := 2, ground := Go.Ground.data }, { on := 3, ground := Go.Ground.data }], guard := none }) rfl (fun K hK => ?_)
            (go_simp; go_at_call 40; refine (PRD.out _ HB6.out).mono ?_; rintro e w7 ⟨rfl, b7⟩)
            try go_wp2_with fail
            refine hK.out _ _ ?_ (fun hHeld => ?_)
            · (try dsimp only); exact (b7.cell (p := ⟨gx, 33, none⟩) (Nat.lt_of_lt_of_le hlx2 HB6.out.size)).trans hHeld
            clear hK K
            try simp only [Act.put, List.setIfInBounds_toArray, List.set_cons_zero, List.set_cons_succ]
            have HB7 := Lib.hid (HB6.out.trans (b7.mono HB6.out.size)); clear b7
            refine wpL_loud1 (o := { dst := some 57, op := Go.Op.buildSlice 24 1 #[(0, Go.Operand.tmp 56)], type := 24, pos := "record.go:132", after := #[{ on := 4, ground := Go.Ground.data }], guard := none }) rfl (fun K hK => ?_)
            go_simp
            refine hK.out _ _ ?_ (fun hHeld => ?_)
            · (try dsimp only); exact (Lib.hid (HB7.out.alloc HB7.out.size _)).out.cell (p := ⟨gx, 33, none⟩) hlx2 |>.trans c33
            clear hK K
            try simp only [Act.put, List.setIfInBounds_toArray, List.set_cons_zero, List.set_cons_succ]
            refine wpL_loud1 (o := { dst := some 58, op := Go.Op.call { callee := Go.Callee.builtin Go.Builtin.append, args := #[Go.Operand.tmp 53, Go.Operand.tmp 57], argTypes := #[24, 24] }, type := 24, pos := "record.go:132", after := #[{ on := 1, ground := Go.Ground.data }, { on := 5, ground := Go.Ground.data }, { on := 4, ground := Go.Ground.chain }], guard := none }) rfl (fun K hK => ?_)
            (rw [if_pos (by rfl)]; refine wp_append_own _ _ _ 24 rfl w5.heap.size 48 ip (.agg #[.int .i64 0, .string ⟨#[]⟩]) 2 24 Try.underlying24 hip hp1 hp2 hp3 rfl (by decide) (.slice va j vc) j (ptV (psP L k j)) rfl (own_keep HO2.out (HB7.out.alloc HB7.out.size _) (Nat.le_refl _)) ⟨w7.heap.size, 0, none⟩ 1 1 [.int .i64 av, .string tp] rfl rfl (two_cells' w7 _ _ _) (by simp [Value.oneCell']) (by unfold maxLen; omega) (by omega) (by have := HB7.out.size; simp; omega) ?_; intro v9 w9 O9 G9 _)
            try go_wp2_with fail
            refine hK.out _ _ ?_ (fun hHeld => ?_)
            · (try dsimp only); exact (World.cell?_of_block (a := ⟨gx, 33, none⟩) (G9.block gx (by have := HB7.out.size; simp; omega) (fun e => by have := (HO2.out.lt gx e.symm).1; omega))).trans (((HB7.out.alloc HB7.out.size _).cell (p := ⟨gx, 33, none⟩) hlx2).trans c33)
            clear hK K
            try simp only [Act.put, List.setIfInBounds_toArray, List.set_cons_zero, List.set_cons_succ]
            rw [HSN.out] at O9
            have hX9 := (HX.out.below (HB7.out.alloc HB7.out.size _)).grown' G9 (fun e => by have := (HO2.out.lt gx e.symm).1; omega)
            have f9 := hX9.frozen 33
            obtain ⟨a9, c9, rfl⟩ : ∃ a c, v9 = .slice a (j + 1) c := by obtain ⟨a, c, h, _⟩ := own_pt O9; exact ⟨a, c, h⟩
            (refine wpL_calm (o := { dst := some 59, op := Go.Op.fieldAddr 26 (Go.Operand.tmp 5) 2, type := 0, pos := "record.go:132", after := #[{ on := 0, ground := Go.Ground.phase }, { on := 1, ground := Go.Ground.phase }, { on := 2, ground := Go.Ground.phase }, { on := 3, ground := Go.Ground.phase }, { on := 4, ground := Go.Ground.phase }, { on := 5, ground := Go.Ground.phase }, { on := 6, ground := Go.Ground.phase }], guard := none }) (v := ?_) rfl (Or.inl ⟨by rfl, ?_⟩) ?_; rotate_left; (focus (intro w hSw; (try dsimp only at hSw); go_simp; (try (with_reducible rfl)); done)); try simp only [Act.put, List.setIfInBounds_toArray, List.set_cons_zero, List.set_cons_succ])
            refine wpL_loud0 (o := { dst := none, op := Go.Op.store 24 (Go.Operand.tmp 59) (Go.Operand.tmp 58), type := 0, pos := "record.go:132", after := #[{ on := 7, ground := Go.Ground.data }, { on := 6, ground := Go.Ground.data }, { on := 6, ground := Go.Ground.chain }, { on := 0, ground := Go.Ground.phase }, { on := 1, ground := Go.Ground.phase }, { on := 2, ground := Go.Ground.phase }, { on := 3, ground := Go.Ground.phase }, { on := 4, ground := Go.Ground.phase }, { on := 5, ground := Go.Ground.phase }, { on := 6, ground := Go.Ground.phase }], guard := none }) rfl (by kernel_rfl) (fun K hK => ?_)
            go_simp
            refine hK.out _ _ ?_
            clear hK K
            try simp only [Act.put, List.setIfInBounds_toArray, List.set_cons_zero, List.set_cons_succ]
            refine wpL_nil ?_
            refine NoPanic.normal ?_
            have HX10 := Lib.hid (hX9.setPs (.slice a9 (j + 1) c9))
            have HO10 := Lib.hid (ownsRow_other (g := gx) O9 (by omega) 33 (u := .slice a9 (j + 1) c9))
            have HG10 := Lib.hid (only_setCell (grown_fresh (only_trans HG.out (only_below (HB7.out.alloc HB7.out.size _) (some gx))) G9 (fun x e => (HO2.out.lt x e).1)) (p := ⟨gx, 33, none⟩) (Or.inl rfl) (.slice a9 (j + 1) c9))
            clear hX9 f9 O9 G9 hHeld HB7 HB6 c33 f33 PRD HX HO2 HG
            generalize w9.setCell ⟨gx, 33, none⟩ (.slice a9 (j + 1) c9) = w10 at *
            go_wp2_with fail
            go_roundw
            case rel => exact ⟨j + 1, _, by go_num, by omega, HX10, HO10, HG10⟩
            case measure => simp [intOf]; omega
          · as_aux_lemma =>
            have ejk : j = k := by omega
            have hji : ¬ (j : Int) < (k : Int) := by omega
            rw [ejk] at HO2
            obtain ⟨va, vc, rfl, hvc, hvm, hps, hPt⟩ := own_pt HO2.out
            have HR6 := Lib.hid (HR5.out.grown HG.out (by omega))
            have hlen : (recP L).ps.length = k := by rw [HRS.out.2.2.1, psP_len]
            have HXR : Hid (RcAt wr gx (recP L) (.slice va k vc)) := Lib.hid (HX.out.same HRS.out.1.symm HRS.out.2.1.symm)
            have HPR : Hid (PtAt wr va (recP L).ps) := Lib.hid (by rw [HRS.out.2.2.1]; exact hPt)
            have hrt : (recP L).root.length = 32 := by rw [HRS.out.2.1]; exact HRS.out.2.2.2
            have HT6 := Lib.hid ((HT.out.below HBi.out).take N)
            have HVA : Hid (∀ g o, va = some ⟨g, o, none⟩ → g ≠ w.heap.size) := Lib.hid (fun g o e => by have := (HO2.out.lt g (by rw [e]; rfl)).1; omega)
            have HTT := Lib.hid (own_ptT HO2.out)
            clear hPt HX HO2 HG HRD
            have HGOOD : Hid (∀ w', eP L = 0 → PtAt w' va (recP L).ps → PtT w' va → Below w.heap.size w w' → ParseP L w (.returned (.tuple #[.agg (rcA (recP L) (.slice va k vc)), .int .i64 (N : Int), .int .i64 0])) w') := Lib.hid (fun w' h1 h2 h2' h3 => by
              have := parse_good (N := N) (c := vc) h1 (by rw [hs.out, ← hN.out, ← hk.out, hs.out]) h2 h2' h3
              rw [hlen] at this
              exact this)
            clear HRS
            generalize recP L = R at *
            have hszr := rc_loaded (.slice va k vc) hrt
            have honer := rcA_one R (.slice va k vc) rfl
            by_cases hchk : chkE R = 0
            · have HLA := Lib.hid (lay_ok R va k vc wr hrt hlen HPR.out hchk)
              go_wp2_with (refine wpList_load_row rfl _ _ rfl gx rfl 26 (rcA R (.slice va k vc)) (0, 0) _ HXR.out.1 Try.underlying26 rfl hszr ?_)
              refine (HLA.out).mono ?_
              rintro e w8 ⟨vl, rfl, ol, b8⟩
              obtain ⟨al, cl, rfl, _, _, hll, hTl⟩ := own_txt ol
              rw [hN.out] at hll ⊢
              have PE := Lib.hid (eqs_any (layL R) (L.take N) al (some ⟨g, o, none⟩) N cl N N w8 hll (by rw [List.length_take, HN.out]; omega) (by omega) (by omega) hTl (HT6.out.below b8))
              have HR8 := Lib.hid (HR6.out.below b8)
              have HX8 := Lib.hid (HXR.out.below b8)
              have HP8 := Lib.hid (HPR.out.below b8)
              have HTT8 := Lib.hid (HTT.out.below b8)
              have HB8 := Lib.hid (HBi.out.trans (b8.mono HBi.out.size))
              clear HLA ol hTl b8 HR6 HXR HPR HBi HT6
              obtain ⟨q, hq⟩ : ∃ q, Hid (decide (layL R = L.take N) = q) := ⟨_, Lib.hid rfl⟩
              rw [hq.out] at PE
              cases q with
              | false =>
                have HE := Lib.hid (HF.out (fun h => of_decide_eq_false hq.out h.2))
                go_wp2_with fail
                refine (PE.out).mono ?_
                rintro e w9 ⟨rfl, b9⟩
                have HR9 := Lib.hid (HR8.out.below b9)
                have HB9 := Lib.hid (HB8.out.trans (b9.mono HB8.out.size))
                go_wp2_with (refine wpList_store_row rfl _ _ _ rfl w.heap.size (rcA rz0 nilS) rfl rfl 26 _ HR9.out.1 hsz rfl hone ?_)
                refine bodyPost_ret_by (results_ctt rfl _ _ w.heap.size 26 (rcA rz0 nilS) (0, 0) _ rfl (setRow_heap _ _ _ (rcA rz0 nilS) 26 (0, 0) HR9.out.1) Try.underlying26 rfl hsz) rfl (parse_bad HE.out (by decide) ?_)
                exact below_setRow HB9.out (Nat.le_refl _) _
              | true =>
                have HE := Lib.hid (HO.out hchk (of_decide_eq_true hq.out))
                go_wp2_with fail
                refine (PE.out).mono ?_
                rintro e w9 ⟨rfl, b9⟩
                have HR9 := Lib.hid (HR8.out.below b9)
                have HX9 := Lib.hid (HX8.out.below b9)
                have HP9 := Lib.hid (HP8.out.below b9)
                have HTT9 := Lib.hid (HTT8.out.below b9)
                have HB9 := Lib.hid (HB8.out.trans (b9.mono HB8.out.size))
                have hold : (rcA rz0 nilS).size = (rcA R (.slice va k vc)).size := by rw [rcA_size _ _ HR9.out.2, rcA_size _ _ hrt]
                go_wp2_with (first | (refine wpList_load_row rfl _ _ rfl gx rfl 26 (rcA R (.slice va k vc)) (0, 0) _ HX9.out.1 Try.underlying26 rfl hszr ?_) | (refine wpList_store_row rfl _ _ _ rfl w.heap.size (rcA R (.slice va k vc)) rfl rfl 26 _ HR9.out.1 hszr hold honer ?_))
                refine bodyPost_ret_by (results_ctt rfl _ _ w.heap.size 26 (rcA R (.slice va k vc)) (0, 0) _ rfl (setRow_heap _ _ _ (rcA R (.slice va k vc)) 26 (0, 0) HR9.out.1) Try.underlying26 rfl hszr) rfl ?_
                refine HGOOD.out _ HE.out ?_ ?_ ?_
                · exact HP9.out.setRow _ HVA.out
                · exact HTT9.out.setRow _ HVA.out
                · exact below_setRow HB9.out (Nat.le_refl _) _
            · have HLA := Lib.hid (lay_no R va k vc wr hrt hlen (by omega) HPR.out hchk)
              have HE := Lib.hid (HF.out (fun h => hchk h.1))
              have hzz : (chkE R != 0) = true := by simpa using hchk
              clear hchk
              generalize chkE R = zz at *
              go_wp2_with (refine wpList_load_row rfl _ _ rfl gx rfl 26 (rcA R (.slice va k vc)) (0, 0) _ HXR.out.1 Try.underlying26 rfl hszr ?_)
              refine (HLA.out).mono ?_
              rintro e w8 ⟨rfl, b8⟩
              have HR9 := Lib.hid (HR6.out.below b8)
              have HB9 := Lib.hid (HBi.out.trans (b8.mono HBi.out.size))
              go_wp2_with (refine wpList_store_row rfl _ _ _ rfl w.heap.size (rcA rz0 nilS) rfl rfl 26 _ HR9.out.1 hsz rfl hone ?_)
              refine bodyPost_ret_by (results_ctt rfl _ _ w.heap.size 26 (rcA rz0 nilS) (0, 0) _ rfl (setRow_heap _ _ _ (rcA rz0 nilS) 26 (0, 0) HR9.out.1) Try.underlying26 rfl hsz) rfl (parse_bad HE.out (by decide) ?_)
              exact below_setRow HB9.out (Nat.le_refl _) _
end Go.Proofs.Ythhaadcpenlnkaa
