/- Two pairs of models that go their own ways (flat), and the law FlatApart. -/
import Derived.Test.YtaemnelfnopjdaaFcL
import Derived.Test.YtaemnelfnopjdaaFbC
namespace Go.Proofs.Ytaemnelfnopjdaa
open Go.ChangeShapes Go.WideShapes Go.Deep Go.RowKit Go.Maps
set_option linter.unusedVariables false
set_option linter.unusedSimpArgs false
theorem FlW.weak {w : World} {B B' g : Nat} {OL CL : List Nat} {M : Fl} (h : FlW w B g OL CL M) (hB : B' ≤ B) : FlW w B' g OL CL M := by
  obtain ⟨vt, vf, vc, cm, bm, D, h, e1, e2⟩ := h
  exact ⟨vt, vf, vc, cm, bm, D, { h with
    bg := Nat.le_trans hB h.bg
    ht := own_weakF h.ht hB
    bb := Nat.le_trans hB h.bb
    hf := own_weakF h.hf hB
    hc := own_weakF h.hc hB }, e1, e2⟩
def ApartF (x : Nat) (OL : List Nat) (gc : Nat) (cs : List RC) (N : List Nat) : Prop := (∀ k ∈ OL, k ∉ N) ∧ x ∉ N ∧ gc ∉ N ∧ ∀ c ∈ cs, c.b ∉ N
structure TwoF (w : World) (B f x : Nat) (OL CL : List Nat) (M : Fl) (cs : List RC) (gc cap : Nat) (f2 x2 : Nat) (OL2 CL2 : List Nat) (M2 : Fl) (cs2 : List RC) (gc2 cap2 : Nat) : Prop where
  p : PairF w B f x OL CL M cs gc cap
  q : PairF w B f2 x2 OL2 CL2 M2 cs2 gc2 cap2
  a : ApartF x OL gc cs (x2 :: OL2)
  b : ApartF x2 OL2 gc2 cs2 (x :: OL)
section
variable {w w' : World} {B f x gc cap f2 x2 gc2 cap2 : Nat} {OL CL OL2 CL2 : List Nat} {M M2 : Fl} {cs cs2 : List RC}
theorem TwoF.swap (h : TwoF w B f x OL CL M cs gc cap f2 x2 OL2 CL2 M2 cs2 gc2 cap2) : TwoF w B f2 x2 OL2 CL2 M2 cs2 gc2 cap2 f x OL CL M cs gc cap := ⟨h.q, h.p, h.b, h.a⟩
theorem TwoF.below (h : TwoF w B f x OL CL M cs gc cap f2 x2 OL2 CL2 M2 cs2 gc2 cap2) (k : Below w.heap.size w w') : TwoF w' B f x OL CL M cs gc cap f2 x2 OL2 CL2 M2 cs2 gc2 cap2 := ⟨h.p.below k, h.q.below k, h.a, h.b⟩
theorem TwoF.step (h : TwoF w B f x OL CL M cs gc cap f2 x2 OL2 CL2 M2 cs2 gc2 cap2) (s : PairS w w' B f x OL CL M cs gc) : ∃ OL' CL' M' cs' gc' cap', TwoF w' B f x OL' CL' M' cs' gc' cap' f2 x2 OL2 CL2 M2 cs2 gc2 cap2 ∧ GrowF M M' ∧ Below B w w' := by
  obtain ⟨OL', CL', M', cs', gc', cap', P, k, n, m, g, c, gr⟩ := s
  obtain ⟨a1, a2, a3, a4⟩ := h.a
  obtain ⟨b1, b2, b3, b4⟩ := h.b
  have lo : ∀ {k}, k ∈ OL2 → k < w.heap.size := fun hk => (h.q.fl.own_lt hk).1
  have lx := h.q.ltx
  have lg := h.q.rf.lc
  have hq : PairF w' B f2 x2 OL2 CL2 M2 cs2 gc2 cap2 := by
    refine ⟨h.q.fl.kq k b1 (fun j hj hm => ?_), h.q.rf.kq k b2 b3 b4, h.q.ok, h.q.rel, h.q.nx, h.q.nc, h.q.nb⟩
    have ht := (h.q.fl.ch_ty hj).2
    rcases List.mem_cons.1 hm with e | e
    · rw [e, tyAt_cells h.p.rf.hg] at ht
      revert ht; decide
    · exact h.p.fl.noint ht e
  have nin : ∀ {j}, j < w.heap.size → j ∉ x :: OL → j ∉ x :: OL' := fun hj hn hm => by
    rcases List.mem_cons.1 hm with e | e
    · exact hn (by rw [e]; simp)
    · rcases n _ e with e2 | e2
      · exact hn (List.mem_cons_of_mem _ e2)
      · omega
  have far : ∀ {j}, w.heap.size ≤ j → j ∉ x2 :: OL2 := fun hj hm => by
    rcases List.mem_cons.1 hm with e | e
    · omega
    · have := lo e; omega
  refine ⟨OL', CL', M', cs', gc', cap', ⟨P, hq, ⟨fun j hj => ?_, a2, ?_, fun d hd => ?_⟩, ⟨fun j hj => nin (lo hj) (b1 j hj), nin lx b2, nin lg b3, fun d hd => nin (h.q.blt hd) (b4 d hd)⟩⟩, gr, k.below⟩
  · rcases n j hj with e | e
    · exact a1 j e
    · exact far e
  · rcases g with e | e
    · rw [e]; exact a3
    · exact far e
  · rcases c d hd with ⟨d', hd', e⟩ | e
    · rw [e]; exact a4 d' hd'
    · exact far e
/-- A copy, and a reference's copy of its own. -/
theorem two_new {w1 w2 : World} {c y : Nat} {OLc : List Nat} (P : PairF w B f x OL CL M cs gc cap) (hc : FlW w1 w.heap.size c OLc CL M) (k1 : Below w.heap.size w w1) (k2 : Below w1.heap.size w1 w2) (hy : w2.heap[y]? = some (.cells #[.int .i64 (M.n : Int), .slice (some ⟨gc, 0, none⟩) cs.length cap] 36 (0, 0))) (hyn : w1.heap.size ≤ y) : TwoF w2 B f x OL CL M cs gc cap c y OLc CL M cs gc cap := by
  have P2 := (P.below k1).below k2
  have hc2 := (hc.below k2).weak P.bw
  have s1 := k1.size
  have lo : ∀ {k}, k ∈ OL → k < w.heap.size := fun hk => (P.fl.own_lt hk).1
  have lc : ∀ {k}, k ∈ OLc → w.heap.size ≤ k ∧ k < w1.heap.size := fun hk => ⟨(hc.own_lt hk).2, (hc.own_lt hk).1⟩
  have far : ∀ {k}, k < w.heap.size → k ∉ y :: OLc := fun hk hm => by
    rcases List.mem_cons.1 hm with e | e
    · omega
    · have := (lc e).1; omega
  have far2 : ∀ {k}, w.heap.size ≤ k → k ∉ x :: OL := fun hk hm => by
    have := P.ltx
    rcases List.mem_cons.1 hm with e | e
    · omega
    · have := lo e; omega
  have lx := P.ltx
  have lg := P.rf.lc
  refine ⟨P2, ⟨hc2, ⟨hy, P2.rf.lc, P2.rf.cap, P2.rf.cell, P2.rf.row, by have := P.bw; omega, P.rf.bc⟩, P.ok, P.rel, fun hm => ?_, fun hm => ?_, fun d hd hm => ?_⟩, ⟨fun k hk => far (lo hk), far lx, far lg, fun d hd => far (P.blt hd)⟩, ⟨fun k hk => far2 (lc hk).1, far2 (by omega), fun hm => ?_, fun d hd hm => ?_⟩⟩
  · have := (lc hm).2; omega
  · have := (lc hm).1; omega
  · have := (lc hm).1; have := P.blt hd; omega
  · rcases List.mem_cons.1 hm with e | e
    · have h1 := P.rf.cell 0 (List.length_pos_iff.2 (P.rel.ne P.ok))
      have h2 := cell_of_row w x 0 _ _ _ P.rf.hg
      rw [← e] at h2
      rw [h2] at h1
      cases h1
    · exact P.nc e
  · rcases List.mem_cons.1 hm with e | e
    · exact P.rf.nog hd e
    · exact P.nb d hd e
end
theorem pow_up {X i j : Nat} (h : X ≤ 3 ^ i) (hij : i ≤ j) : X ≤ 3 ^ j := Nat.le_trans h (Nat.pow_le_pow_right (by omega) hij)
theorem ac_val (a : AcF) : acV a = .agg #[.int .i64 a.k, .int .i64 a.a, .int .i64 a.n, .int .u8 (a.c.toNat : Int), .bool a.o] := rfl
set_option maxRecDepth 100000 in
set_option maxHeartbeats 16000000 in
theorem flatApart_any (ao : Option Addr) (cap : Nat) (L : List AcF) (ao2 : Option Addr) (cap2 : Nat) (L2 : List AcF) (a : AcF) (w : World) (hL : AfAt w ao L) (hLn : L.length ≤ maxLen) (hA : ∀ x ∈ L, AcOk x) (hL2 : AfAt w ao2 L2) (hLn2 : L2.length ≤ maxLen) (hA2 : ∀ x ∈ L2, AcOk x) : Calls Try.prog 6 #[.slice ao L.length cap, .slice ao2 L2.length cap2, acV a] w fun e w' => e = .returned (.bool true) ∧ Below w.heap.size w w' := by
  obtain ⟨w1, HW1, r1, b1, s1⟩ := act_boxF w a
  have HAC : Hid (AcC w1 w.heap.size 0 a) := Lib.hid ⟨cell_of_row w1 _ 0 _ _ _ r1, cell_of_row w1 _ 1 _ _ _ r1, cell_of_row w1 _ 2 _ _ _ r1, cell_of_row w1 _ 3 _ _ _ r1, cell_of_row w1 _ 4 _ _ _ r1⟩
  have HB1 := Lib.hid b1
  have hgxl : w.heap.size < w1.heap.size := by omega
  obtain ⟨gx, hgx⟩ : ∃ gx, Hid (w.heap.size = gx) := ⟨_, Lib.hid rfl⟩
  rw [hgx.out] at HAC hgxl
  have CD := Lib.hid (fun w => data_any a w)
  obtain ⟨s, hs⟩ : ∃ s, daB a = s := ⟨_, rfl⟩
  have hsb := datB_size a
  rw [hs] at CD hsb
  obtain ⟨ak, aa, an, ac, av⟩ := a
  simp only [ac_val] at CD HW1 ⊢
  have HAC : Hid (∀ w', Below w1.heap.size w1 w' → (w'.cell? ⟨gx, 0, none⟩ = some (.int .i64 ak) ∧ w'.cell? ⟨gx, 1, none⟩ = some (.int .i64 aa) ∧ w'.cell? ⟨gx, 2, none⟩ = some (.int .i64 an) ∧ w'.cell? ⟨gx, 3, none⟩ = some (.int .u8 (ac.toNat : Int)) ∧ w'.cell? ⟨gx, 4, none⟩ = some (.bool av))) := Lib.hid (fun w' b => by
    have := HAC.out.below hgxl b
    exact this)
  have CN := Lib.hid (new_ok 3 w1 (by omega) (by omega))
  rw [show (((3 : Nat) : Int)) = 3 from rfl] at CN
  have CX := Lib.hid (fun w => rnew_any 3 w (by omega))
  rw [show (((3 : Nat) : Int)) = 3 from rfl] at CX
  have HL := Lib.hid (hL.below b1)
  have HA := Lib.hid hA
  have HL2 := Lib.hid (hL2.below b1)
  have HA2 := Lib.hid hA2
  obtain ⟨nl, hnl⟩ : ∃ nl, Hid (L.length = nl) := ⟨_, Lib.hid rfl⟩
  obtain ⟨nm, hnm⟩ : ∃ nm, Hid (L2.length = nm) := ⟨_, Lib.hid rfl⟩
  rw [hnl.out] at hLn ⊢
  rw [hnm.out] at hLn2 ⊢
  have hnlb : nl ≤ 9223372036854775807 := by unfold maxLen at hLn; omega
  have hnmb : nm ≤ 9223372036854775807 := by unfold maxLen at hLn2; omega
  clear hL hA hLn hL2 hA2 hLn2 b1 r1 s1 hs
  go_enter Try.func6, Try.ntmps6
  go_upto_region 1 with fail
  rw [HW1.out, hgx.out]
  clear HW1
  go_wp2_with fail
  refine CN.out.mono ?_
  rintro e w2 ⟨g, OL0, rfl, f2, b2⟩
  have HB2 := Lib.hid b2
  have H2 := Lib.hid f2
  clear CN b2 f2
  go_wp2_with fail
  refine (CX.out w2).mono ?_
  rintro e w3 ⟨x, gc0, bb0, rfl, f3, b3⟩
  have H3 := Lib.hid (pair_new (N := 3) (by omega) (by omega) H2.out f3 b3)
  have HB3 := Lib.hid (HB2.out.trans (b3.mono HB2.out.size))
  clear CX f3 b3 H2 HB2
  go_wp2_with fail
  refine (awake26 w3).mono ?_
  rintro e w4 ⟨rfl, b4⟩
  have H4 := Lib.hid (H3.out.below b4)
  have HB4 := Lib.hid (HB3.out.trans (b4.mono HB3.out.size))
  have HG0 : Hid ((newM 3).F.length ^ 3 * 3 ^ (newM 3).C.length ≤ 3 ^ 0) := Lib.hid (by show 1 ^ 3 * 3 ^ 0 ≤ 3 ^ 0; decide)
  have HN0 : Hid ((newM 3).n = 3) := Lib.hid rfl
  clear b4 H3 HB3
  go_upto_block 0 with fail
  go_cut [10] from 32 to 48 (fun s10 wx => (∃ v, s10 = v) ∧ ∃ (OL CL : List Nat) (M : Fl) (cs : List RC) (gc cp : Nat), Hid (PairF wx w1.heap.size g x OL CL M cs gc cp) ∧ Hid (M.T.length ≤ 3000) ∧ Hid (M.C.length ≤ 20) ∧ Hid (M.F.length ^ 3 * 3 ^ M.C.length ≤ 3 ^ 20) ∧ Hid (M.n = 3) ∧ Hid (Below w1.heap.size w1 wx))
  case first =>
   as_aux_lemma =>
    go_wp2_with fail
    go_loopw [10] (fun s8 wi => ∃ (i : Nat) (OL CL : List Nat) (M : Fl) (cs : List RC) (gc cp : Nat), s8 = .int .i64 (i : Int) ∧ i ≤ 20 ∧ i ≤ nl ∧ Hid (PairF wi w1.heap.size g x OL CL M cs gc cp) ∧ M.T.length ≤ 1 + 100 * i ∧ M.C.length ≤ i ∧ Hid (M.F.length ^ 3 * 3 ^ M.C.length ≤ 3 ^ i) ∧ Hid (M.n = 3) ∧ Hid (Below w1.heap.size w1 wi)) (fun s8 _ => 20 - (intOf s8).toNat)
    case atStart => exact ⟨0, OL0, [], newM 3, _, gc0, 1, rfl, by omega, by omega, H4, by show 1 ≤ 1; omega, by show 0 ≤ 0; omega, HG0, HN0, HB4⟩
    case round =>
      obtain ⟨i, OL, CL, M, cs, gc, cp, rfl, hi, hin, HP, hT, hC, HG, HN, HB⟩ := hrel
      clear H4 HG0 HB4 HN0
      by_cases hgo : (i : Int) < (nl : Int) ∧ (i : Int) < 20
      · as_aux_lemma =>
        obtain ⟨g1, g2⟩ := hgo
        have hiL : i < L.length := by rw [hnl.out]; omega
        obtain ⟨ga, oa, rfl, hga, hcc⟩ := HL.out (by omega)
        have hac := HA.out _ (List.getElem_mem hiL)
        have hcc := hcc i hiL
        obtain ⟨a, hx⟩ : ∃ a, Hid (L[i] = a) := ⟨_, Lib.hid rfl⟩
        rw [hx.out] at hac hcc
        have HD := Lib.hid (do_any a hac HP.out (by omega) (by omega) (fc_bound HG.out (by omega)))
        obtain ⟨bk, ba, bn, bc, bo⟩ := a
        rw [ac_val] at HD
        obtain ⟨c0, c1, c2, c3, c4⟩ := hcc.below hga HB.out
        simp only at c0 c1 c2 c3 c4 HD
        clear hac hx hcc
        go_wp2_with fail
        refine HD.out.mono ?_
        rintro e w5 ⟨rfl, OL5, CL5, M5, cs5, gc5, cp5, P5, k5, _, _, _, _, gr5⟩
        have H5 := Lib.hid P5
        have hT5 : M5.T.length ≤ 1 + 100 * (i + 1) := by have := gr5.2.1; omega
        have hC5 : M5.C.length ≤ i + 1 := by have := gr5.2.2.1; omega
        have HG5 := Lib.hid (grow_next gr5 HG.out)
        have HN5 : Hid (M5.n = 3) := Lib.hid (gr5.1.trans HN.out)
        have HB5 := Lib.hid (HB.out.trans k5.below)
        clear P5 k5 gr5 HD c0 c1 c2 c3 c4
        go_wp2_with fail
        go_roundw
        case rel => exact ⟨i + 1, OL5, CL5, M5, cs5, gc5, cp5, by go_num, by omega, by omega, H5, hT5, hC5, HG5, HN5, HB5⟩
        case measure => simp [intOf]; omega
      · as_aux_lemma =>
        have HT : Hid (M.T.length ≤ 3000) := Lib.hid (by omega)
        have HC : Hid (M.C.length ≤ 20) := Lib.hid (by omega)
        have HG2 := Lib.hid (pow_up HG.out hi)
        clear hT hC
        by_cases g1 : (i : Int) < (nl : Int)
        · have g2 : ¬ (i : Int) < 20 := fun h => hgo ⟨g1, h⟩
          go_wp2_with fail
          go_meet
          exact ⟨⟨_, rfl⟩, OL, CL, M, cs, gc, cp, HP, HT, HC, HG2, HN, HB⟩
        · go_wp2_with fail
          go_meet
          exact ⟨⟨_, rfl⟩, OL, CL, M, cs, gc, cp, HP, HT, HC, HG2, HN, HB⟩
  case rest =>
    obtain ⟨⟨v10, rfl⟩, OL, CL, M, cs, gc, cp, HP, HT, HC, HG, HN, HB⟩ := hcut
    clear H4 HG0 HB4 HN0 HL HA
    have hFC := fc_bound HG.out (by omega)
    have hF : M.F.length ≤ 200000 := Nat.le_trans (Nat.le_mul_of_pos_right _ (by omega)) hFC
    have CC := Lib.hid (copy_any HP.out.fl HP.out.ok (by have := HT.out; omega) (by omega) (by have := HC.out; omega))
    have hgl := HP.out.ltx
    have c1 := cell_of_row wc x 1 _ _ _ HP.out.rf.hg
    clear hFC hF
    go_wp2_with fail
    refine CC.out.mono ?_
    rintro e w5 ⟨c, OLc, rfl, f5, b5⟩
    have hn3 : ((M.n : Nat) : Int) = 3 := by rw [HN.out]; rfl
    obtain ⟨w6, hw6⟩ : ∃ w6, w5.alloc (.cells #[.int .i64 3, .slice (some ⟨gc, 0, none⟩) cs.length cp] 36) = w6 := ⟨_, rfl⟩
    have b6 : Below w5.heap.size w5 w6 := by rw [← hw6]; exact (Below.refl _ _).alloc (Nat.le_refl _) _
    have r6 : w6.heap[w5.heap.size]? = some (.cells #[.int .i64 3, .slice (some ⟨gc, 0, none⟩) cs.length cp] 36 (0, 0)) := by rw [← hw6]; exact heap_alloc_new _ _
    have H6 := Lib.hid (two_new HP.out f5 b5 b6 (by rw [hn3]; exact r6) (Nat.le_refl _))
    have HB6 := Lib.hid ((HB.out.trans (b5.mono HB.out.size)).trans (b6.mono (Nat.le_trans HB.out.size b5.size)))
    have c1 := (b5.cell (p := ⟨x, 1, none⟩) hgl).trans c1
    obtain ⟨y, hy⟩ : ∃ y, Hid (w5.heap.size = y) := ⟨_, Lib.hid rfl⟩
    rw [hy.out] at H6
    have HW6 := Lib.hid hw6
    generalize cs.length = csl at *
    clear CC f5 b5 b6 r6 hw6 hn3 hgl
    go_upto_region 11 with fail
    rw [HW6.out, hy.out]
    clear HW6 c1
    go_upto_block 2 with fail
    go_cut [13] from 57 to 94 (fun s13 wx => (∃ v, s13 = v) ∧ ∃ (OL CL : List Nat) (M : Fl) (cs : List RC) (gc cp : Nat) (OL2 CL2 : List Nat) (M2 : Fl) (cs2 : List RC) (gc2 cp2 : Nat), Hid (TwoF wx w1.heap.size g x OL CL M cs gc cp c y OL2 CL2 M2 cs2 gc2 cp2) ∧ Hid (M.C.length ≤ 60 ∧ M.F.length * (1 + M.C.length) ≤ 200000) ∧ Hid (M2.C.length ≤ 60 ∧ M2.F.length * (1 + M2.C.length) ≤ 200000) ∧ Hid (Below w1.heap.size w1 wx))
    case first =>
     as_aux_lemma =>
      go_wp2_with fail
      go_loopw [13] (fun s8 wi => ∃ (i : Nat) (OL CL : List Nat) (M : Fl) (cs : List RC) (gc cp : Nat) (OL2 CL2 : List Nat) (M2 : Fl) (cs2 : List RC) (gc2 cp2 : Nat), s8 = .int .i64 (i : Int) ∧ i ≤ 20 ∧ i ≤ nm ∧ Hid (TwoF wi w1.heap.size g x OL CL M cs gc cp c y OL2 CL2 M2 cs2 gc2 cp2) ∧ Hid (M.T.length ≤ 3000 + 100 * i ∧ M.C.length ≤ 20 + i ∧ M.F.length ^ 3 * 3 ^ M.C.length ≤ 3 ^ (20 + i / 2)) ∧ Hid (M2.T.length ≤ 3000 + 100 * i ∧ M2.C.length ≤ 20 + i ∧ M2.F.length ^ 3 * 3 ^ M2.C.length ≤ 3 ^ (20 + (i + 1) / 2)) ∧ Hid (Below w1.heap.size w1 wi)) (fun s8 _ => 20 - (intOf s8).toNat)
      case atStart => exact ⟨0, OL, CL, M, cs, gc, cp, OLc, CL, M, cs, gc, cp, rfl, by omega, by omega, H6, Lib.hid ⟨by have := HT.out; omega, by have := HC.out; omega, pow_up HG.out (by omega)⟩, Lib.hid ⟨by have := HT.out; omega, by have := HC.out; omega, pow_up HG.out (by omega)⟩, HB6⟩
      case round =>
        obtain ⟨i, OL, CL, M, cs, gc, cp, OL2, CL2, M2, cs2, gc2, cp2, rfl, hi, hin, HP, HM1, HM2, HB⟩ := hrel
        clear H6 HB6 HG HT HC HN
        by_cases hgo : (i : Int) < (nm : Int) ∧ (i : Int) < 20
        · as_aux_lemma =>
          obtain ⟨g1, g2⟩ := hgo
          have hiL : i < L2.length := by rw [hnm.out]; omega
          obtain ⟨ga, oa, rfl, hga, hcc⟩ := HL2.out (by omega)
          have hac := HA2.out _ (List.getElem_mem hiL)
          have hcc := hcc i hiL
          obtain ⟨a, hx⟩ : ∃ a, Hid (L2[i] = a) := ⟨_, Lib.hid rfl⟩
          rw [hx.out] at hac hcc
          obtain ⟨p1, p2, p3⟩ := HM1.out
          obtain ⟨q1, q2, q3⟩ := HM2.out
          by_cases hev : i % 2 = 0
          · as_aux_lemma =>
            have hm : (i : Int) % 2 = 0 := by omega
            have htm : Int.tmod (i : Int) 2 = 0 := by rw [Int.tmod_eq_emod_of_nonneg (by omega)]; omega
            have HD := Lib.hid (do_any a hac HP.out.q (by omega) (by omega) (fc_bound q3 (by omega)))
            obtain ⟨bk, ba, bn, bc, bo⟩ := a
            rw [ac_val] at HD
            obtain ⟨c0, c1, c2, c3, c4⟩ := hcc.below hga HB.out
            simp only at c0 c1 c2 c3 c4 HD
            clear hac hx hcc
            have HQ := Lib.hid (And.intro p1 (And.intro p2 (And.intro p3 (And.intro q1 (And.intro q2 q3)))))
            clear p1 p2 p3 q1 q2 q3
            go_wp2_with fail
            refine HD.out.mono ?_
            rintro e w5 ⟨rfl, ps⟩
            obtain ⟨OL5, CL5, M5, cs5, gc5, cp5, T5, gr5, b5⟩ := TwoF.step HP.out.swap ps
            have H5 := Lib.hid T5.swap
            obtain ⟨p1, p2, p3, q1, q2, q3⟩ := HQ.out
            have HM5 : Hid (M5.T.length ≤ 3000 + 100 * (i + 1) ∧ M5.C.length ≤ 20 + (i + 1) ∧ M5.F.length ^ 3 * 3 ^ M5.C.length ≤ 3 ^ (20 + (i + 1 + 1) / 2)) := Lib.hid ⟨by have := gr5.2.1; omega, by have := gr5.2.2.1; omega, pow_up (grow_next gr5 q3) (by omega)⟩
            have HM6 : Hid (M.T.length ≤ 3000 + 100 * (i + 1) ∧ M.C.length ≤ 20 + (i + 1) ∧ M.F.length ^ 3 * 3 ^ M.C.length ≤ 3 ^ (20 + (i + 1) / 2)) := Lib.hid ⟨by omega, by omega, pow_up p3 (by omega)⟩
            have HB5 := Lib.hid (HB.out.trans b5)
            clear p1 p2 p3 q1 q2 q3 HQ HM1 HM2 ps T5 gr5 b5 HD c0 c1 c2 c3 c4
            go_wp2_with fail
            go_roundw
            case rel => exact ⟨i + 1, OL, CL, M, cs, gc, cp, OL5, CL5, M5, cs5, gc5, cp5, by go_num, by omega, by omega, H5, HM6, HM5, HB5⟩
            case measure => simp [intOf]; omega
          · as_aux_lemma =>
            have hm : (i : Int) % 2 = 1 := by omega
            have htm : Int.tmod (i : Int) 2 = 1 := by rw [Int.tmod_eq_emod_of_nonneg (by omega)]; omega
            have HD := Lib.hid (do_any a hac HP.out.p (by omega) (by omega) (fc_bound p3 (by omega)))
            obtain ⟨bk, ba, bn, bc, bo⟩ := a
            rw [ac_val] at HD
            obtain ⟨c0, c1, c2, c3, c4⟩ := hcc.below hga HB.out
            simp only at c0 c1 c2 c3 c4 HD
            clear hac hx hcc
            have HQ := Lib.hid (And.intro p1 (And.intro p2 (And.intro p3 (And.intro q1 (And.intro q2 q3)))))
            have HEV := Lib.hid hev
            clear p1 p2 p3 q1 q2 q3 hev
            go_wp2_with fail
            refine HD.out.mono ?_
            rintro e w5 ⟨rfl, ps⟩
            obtain ⟨OL5, CL5, M5, cs5, gc5, cp5, T5, gr5, b5⟩ := TwoF.step HP.out ps
            have H5 := Lib.hid T5
            obtain ⟨p1, p2, p3, q1, q2, q3⟩ := HQ.out
            have hev := HEV.out
            have HM5 : Hid (M5.T.length ≤ 3000 + 100 * (i + 1) ∧ M5.C.length ≤ 20 + (i + 1) ∧ M5.F.length ^ 3 * 3 ^ M5.C.length ≤ 3 ^ (20 + (i + 1) / 2)) := Lib.hid ⟨by have := gr5.2.1; omega, by have := gr5.2.2.1; omega, pow_up (grow_next gr5 p3) (by omega)⟩
            have HM6 : Hid (M2.T.length ≤ 3000 + 100 * (i + 1) ∧ M2.C.length ≤ 20 + (i + 1) ∧ M2.F.length ^ 3 * 3 ^ M2.C.length ≤ 3 ^ (20 + (i + 1 + 1) / 2)) := Lib.hid ⟨by omega, by omega, pow_up q3 (by omega)⟩
            have HB5 := Lib.hid (HB.out.trans b5)
            clear p1 p2 p3 q1 q2 q3 hev HQ HM1 HM2 ps T5 gr5 b5 HD c0 c1 c2 c3 c4
            go_wp2_with fail
            go_roundw
            case rel => exact ⟨i + 1, OL5, CL5, M5, cs5, gc5, cp5, OL2, CL2, M2, cs2, gc2, cp2, by go_num, by omega, by omega, H5, HM5, HM6, HB5⟩
            case measure => simp [intOf]; omega
        · as_aux_lemma =>
          have HM3 : Hid (M.C.length ≤ 60 ∧ M.F.length * (1 + M.C.length) ≤ 200000) := Lib.hid ⟨by have := HM1.out.2.1; omega, fc_bound HM1.out.2.2 (by omega)⟩
          have HM4 : Hid (M2.C.length ≤ 60 ∧ M2.F.length * (1 + M2.C.length) ≤ 200000) := Lib.hid ⟨by have := HM2.out.2.1; omega, fc_bound HM2.out.2.2 (by omega)⟩
          clear HM1 HM2
          by_cases g1 : (i : Int) < (nm : Int)
          · have g2 : ¬ (i : Int) < 20 := fun h => hgo ⟨g1, h⟩
            go_wp2_with fail
            go_meet
            exact ⟨⟨_, rfl⟩, OL, CL, M, cs, gc, cp, OL2, CL2, M2, cs2, gc2, cp2, HP, HM3, HM4, HB⟩
          · go_wp2_with fail
            go_meet
            exact ⟨⟨_, rfl⟩, OL, CL, M, cs, gc, cp, OL2, CL2, M2, cs2, gc2, cp2, HP, HM3, HM4, HB⟩
    case rest =>
     as_aux_lemma =>
      clear H6 HB6 HG HT HC HN HP HB
      obtain ⟨⟨v13, rfl⟩, OL, CL, M, cs, gc, cp, OL2, CL2, M2, cs2, gc2, cp2, HP, HM1, HM2, HB⟩ := hcut
      obtain ⟨m1, m2⟩ := HM1.out
      obtain ⟨m3, m4⟩ := HM2.out
      have HP7 := Lib.hid (HP.out.below (Below.refl _ _).drew)
      have HB7 := Lib.hid HB.out.drew
      obtain ⟨_, r1, _, _, _, CS1, CR1⟩ := pair_counts HP7.out.p m2 m1
      obtain ⟨_, r2, _, _, _, CS2, CR2⟩ := pair_counts HP7.out.q m4 m3
      obtain ⟨d0, d1, d2, d3, d4⟩ := HAC.out _ HB.out
      obtain ⟨e0, e1, e2, e3, e4⟩ := HAC.out _ HB7.out
      have HI0 := Lib.hid (Below.refl wc.drew.heap.size wc.drew)
      have hs6 : s.size ≤ 1000000 := by omega
      have hw0 : IntKind.i64.wrap 0 = 0 := by decide
      clear m1 m2 m3 m4 HM1 HM2
      go_wp2_with fail
      refine (read_nil aa an _).mono ?_
      rintro e w' ⟨rfl, rfl⟩
      go_wp2_with fail
      refine (safe_nil _).mono ?_
      rintro e w' ⟨rfl, rfl⟩
      go_wp2_with fail
      refine (crash_nil _).mono ?_
      rintro e w' ⟨rfl, rfl⟩
      go_upto_region 20 with fail
      refine wp_region_lin_all (S := (fun w' => w'.cell? ⟨gx, 0, none⟩ = some (.int .i64 ak) ∧ w'.cell? ⟨gx, 1, none⟩ = some (.int .i64 aa) ∧ w'.cell? ⟨gx, 2, none⟩ = some (.int .i64 an) ∧ w'.cell? ⟨gx, 3, none⟩ = some (.int .u8 (ac.toNat : Int)) ∧ w'.cell? ⟨gx, 4, none⟩ = some (.bool av))) [(0, true), (2, true), (1, false), (3, false), (4, true), (5, true), (6, true), (8, true), (7, false), (9, false), (10, true), (11, true), (12, true), (13, true), (14, true), (15, true), (16, true), (17, true), (18, true), (19, true), (20, true), (21, true), (22, true), (23, true), (24, true), (25, false), (26, false), (27, true), (28, true), (29, true), (30, true), (31, true), (32, true), (33, true), (34, true), (35, false), (36, true), (37, true), (38, true), (39, true), (40, true), (41, true), (42, true), (43, false), (44, false), (45, true), (46, true), (47, true), (48, true), (50, true), (49, false), (51, false), (52, true), (53, true), (54, true), (55, true), (56, true), (57, false), (58, true), (59, true), (60, true)] (by kernel_rfl) (by kernel_rfl) rfl (by kernel_rfl) ?_ (fun hHeld => ?_)
      · (try dsimp only); exact ⟨e0, e1, e2, e3, e4⟩
      generalize World.drew wc = w7 at *
      (refine wpL_calm (o := { dst := some 108, op := Go.Op.move (Go.Operand.tmp 7), type := 23, pos := "law.go:207", after := #[], guard := none }) (v := ?_) rfl (Or.inl ⟨by rfl, ?_⟩) ?_; rotate_left; (focus (intro w hSw; (try dsimp only at hSw); go_simp; (try (with_reducible rfl)); done)); try simp only [Act.put, List.setIfInBounds_toArray, List.set_cons_zero, List.set_cons_succ])
      (refine wpL_calm (o := { dst := some 110, op := Go.Op.move (Go.Operand.tmp 9), type := 28, pos := "law.go:207", after := #[], guard := none }) (v := ?_) rfl (Or.inl ⟨by rfl, ?_⟩) ?_; rotate_left; (focus (intro w hSw; (try dsimp only at hSw); go_simp; (try (with_reducible rfl)); done)); try simp only [Act.put, List.setIfInBounds_toArray, List.set_cons_zero, List.set_cons_succ])
      refine wpL_loud1 (o := { dst := some 109, op := Go.Op.call { callee := Go.Callee.value (Go.Operand.func 12), args := #[Go.Operand.tmp 108], argTypes := #[23] }, type := 3, pos := "law.go:207", after := #[{ on := 0, ground := Go.Ground.data }], guard := none }) rfl (fun K hK => ?_)
      (go_simp; go_at_call 12; refine (CS1.out _ HI0.out).mono ?_; rintro e u1 ⟨rfl, b⟩; have HI1 := Lib.hid (HI0.out.trans (b.mono HI0.out.size)); clear b)
      try go_wp2_with fail
      refine hK.out _ _ ?_ (fun hHeld => ?_)
      · (try dsimp only); exact HAC.out _ (HB7.out.trans (HI1.out.mono HB7.out.size))
      clear hK K
      try simp only [Act.put, List.setIfInBounds_toArray, List.set_cons_zero, List.set_cons_succ]
      refine wpL_loud1 (o := { dst := some 111, op := Go.Op.call { callee := Go.Callee.value (Go.Operand.func 13), args := #[Go.Operand.tmp 110], argTypes := #[28] }, type := 3, pos := "law.go:207", after := #[{ on := 2, ground := Go.Ground.data }, { on := 1, ground := Go.Ground.chain }], guard := none }) rfl (fun K hK => ?_)
      (go_simp; go_at_call 13; refine (CR1.out _ HI1.out).mono ?_; rintro e u2 ⟨rfl, rfl⟩)
      try go_wp2_with fail
      refine hK.out _ _ ?_ (fun hHeld => ?_)
      · (try dsimp only); exact HAC.out _ (HB7.out.trans (HI1.out.mono HB7.out.size))
      clear hK K
      try simp only [Act.put, List.setIfInBounds_toArray, List.set_cons_zero, List.set_cons_succ]
      (refine wpL_calm (o := { dst := some 112, op := Go.Op.binOp Go.BinOp.eql 3 (Go.Operand.tmp 109) (Go.Operand.tmp 111) 3, type := 4, pos := "law.go:207", after := #[{ on := 1, ground := Go.Ground.data }, { on := 3, ground := Go.Ground.data }], guard := none }) (v := ?_) rfl (Or.inl ⟨by rfl, ?_⟩) ?_; rotate_left; (focus (intro w hSw; (try dsimp only at hSw); go_simp; (try (with_reducible rfl)); done)); try simp only [Act.put, List.setIfInBounds_toArray, List.set_cons_zero, List.set_cons_succ])
      (refine wpL_calm (o := { dst := some 113, op := Go.Op.move (Go.Operand.tmp 112), type := 4, pos := "law.go:207", after := #[{ on := 4, ground := Go.Ground.data }, { on := 3, ground := Go.Ground.chain }], guard := none }) (v := ?_) rfl (Or.inl ⟨by rfl, ?_⟩) ?_; rotate_left; (focus (intro w hSw; (try dsimp only at hSw); go_simp; (try (with_reducible rfl)); done)); try simp only [Act.put, List.setIfInBounds_toArray, List.set_cons_zero, List.set_cons_succ])
      first | (refine wpL_calm (o := { dst := some 114, op := Go.Op.move (Go.Operand.tmp 11), type := 23, pos := "law.go:207", after := #[{ on := 5, ground := Go.Ground.guard }], guard := some (5, true) }) (v := ?_) rfl (Or.inl ⟨by rfl, ?_⟩) ?_; rotate_left; (focus (intro w hSw; (try dsimp only at hSw); go_simp; (try (with_reducible rfl)); done)); try simp only [Act.put, List.setIfInBounds_toArray, List.set_cons_zero, List.set_cons_succ]) | (refine wpL_calm (o := { dst := some 114, op := Go.Op.move (Go.Operand.tmp 11), type := 23, pos := "law.go:207", after := #[{ on := 5, ground := Go.Ground.guard }], guard := some (5, true) }) (v := undef) rfl (Or.inr ⟨by rfl, rfl⟩) ?_; try simp only [Act.put, List.setIfInBounds_toArray, List.set_cons_zero, List.set_cons_succ])
      first | (refine wpL_calm (o := { dst := some 116, op := Go.Op.move (Go.Operand.tmp 12), type := 28, pos := "law.go:207", after := #[{ on := 5, ground := Go.Ground.guard }], guard := some (5, true) }) (v := ?_) rfl (Or.inl ⟨by rfl, ?_⟩) ?_; rotate_left; (focus (intro w hSw; (try dsimp only at hSw); go_simp; (try (with_reducible rfl)); done)); try simp only [Act.put, List.setIfInBounds_toArray, List.set_cons_zero, List.set_cons_succ]) | (refine wpL_calm (o := { dst := some 116, op := Go.Op.move (Go.Operand.tmp 12), type := 28, pos := "law.go:207", after := #[{ on := 5, ground := Go.Ground.guard }], guard := some (5, true) }) (v := undef) rfl (Or.inr ⟨by rfl, rfl⟩) ?_; try simp only [Act.put, List.setIfInBounds_toArray, List.set_cons_zero, List.set_cons_succ])
      refine wpL_loud1 (o := { dst := some 115, op := Go.Op.call { callee := Go.Callee.value (Go.Operand.func 12), args := #[Go.Operand.tmp 114], argTypes := #[23] }, type := 3, pos := "law.go:207", after := #[{ on := 6, ground := Go.Ground.data }, { on := 5, ground := Go.Ground.chain }, { on := 5, ground := Go.Ground.guard }], guard := some (5, true) }) rfl (fun K hK => ?_)
      (go_simp; go_at_call 12; refine (CS2.out _ HI1.out).mono ?_; rintro e u3 ⟨rfl, b⟩; have HI3 := Lib.hid (HI1.out.trans (b.mono HI1.out.size)); clear b)
      try go_wp2_with fail
      refine hK.out _ _ ?_ (fun hHeld => ?_)
      · (try dsimp only); exact HAC.out _ (HB7.out.trans (HI3.out.mono HB7.out.size))
      clear hK K
      try simp only [Act.put, List.setIfInBounds_toArray, List.set_cons_zero, List.set_cons_succ]
      refine wpL_loud1 (o := { dst := some 117, op := Go.Op.call { callee := Go.Callee.value (Go.Operand.func 13), args := #[Go.Operand.tmp 116], argTypes := #[28] }, type := 3, pos := "law.go:207", after := #[{ on := 8, ground := Go.Ground.data }, { on := 7, ground := Go.Ground.chain }, { on := 5, ground := Go.Ground.guard }], guard := some (5, true) }) rfl (fun K hK => ?_)
      (go_simp; go_at_call 13; refine (CR2.out _ HI3.out).mono ?_; rintro e u4 ⟨rfl, rfl⟩)
      try go_wp2_with fail
      refine hK.out _ _ ?_ (fun hHeld => ?_)
      · (try dsimp only); exact HAC.out _ (HB7.out.trans (HI3.out.mono HB7.out.size))
      clear hK K
      try simp only [Act.put, List.setIfInBounds_toArray, List.set_cons_zero, List.set_cons_succ]
      first | (refine wpL_calm (o := { dst := some 118, op := Go.Op.binOp Go.BinOp.eql 3 (Go.Operand.tmp 115) (Go.Operand.tmp 117) 3, type := 4, pos := "law.go:207", after := #[{ on := 7, ground := Go.Ground.data }, { on := 9, ground := Go.Ground.data }, { on := 5, ground := Go.Ground.guard }], guard := some (5, true) }) (v := ?_) rfl (Or.inl ⟨by rfl, ?_⟩) ?_; rotate_left; (focus (intro w hSw; (try dsimp only at hSw); go_simp; (try (with_reducible rfl)); done)); try simp only [Act.put, List.setIfInBounds_toArray, List.set_cons_zero, List.set_cons_succ]) | (refine wpL_calm (o := { dst := some 118, op := Go.Op.binOp Go.BinOp.eql 3 (Go.Operand.tmp 115) (Go.Operand.tmp 117) 3, type := 4, pos := "law.go:207", after := #[{ on := 7, ground := Go.Ground.data }, { on := 9, ground := Go.Ground.data }, { on := 5, ground := Go.Ground.guard }], guard := some (5, true) }) (v := undef) rfl (Or.inr ⟨by rfl, rfl⟩) ?_; try simp only [Act.put, List.setIfInBounds_toArray, List.set_cons_zero, List.set_cons_succ])
      (refine wpL_calm (o := { dst := some 119, op := Go.Op.pick (Go.Operand.tmp 113) (Go.Operand.tmp 118) (Go.Operand.const (Go.Value.bool false)), type := 4, pos := "law.go:207", after := #[{ on := 5, ground := Go.Ground.data }, { on := 10, ground := Go.Ground.data }], guard := none }) (v := ?_) rfl (Or.inl ⟨by rfl, ?_⟩) ?_; rotate_left; (focus (intro w hSw; (try dsimp only at hSw); go_simp; (try (with_reducible rfl)); done)); try simp only [Act.put, List.setIfInBounds_toArray, List.set_cons_zero, List.set_cons_succ])
      (refine wpL_calm (o := { dst := some 120, op := Go.Op.move (Go.Operand.tmp 119), type := 4, pos := "law.go:207", after := #[{ on := 11, ground := Go.Ground.data }, { on := 9, ground := Go.Ground.chain }], guard := none }) (v := ?_) rfl (Or.inl ⟨by rfl, ?_⟩) ?_; rotate_left; (focus (intro w hSw; (try dsimp only at hSw); go_simp; (try (with_reducible rfl)); done)); try simp only [Act.put, List.setIfInBounds_toArray, List.set_cons_zero, List.set_cons_succ])
      first | (refine wpL_calm (o := { dst := some 121, op := Go.Op.move (Go.Operand.tmp 15), type := 9, pos := "law.go:207", after := #[{ on := 12, ground := Go.Ground.guard }], guard := some (12, true) }) (v := ?_) rfl (Or.inl ⟨by rfl, ?_⟩) ?_; rotate_left; (focus (intro w hSw; (try dsimp only at hSw); go_simp; (try (with_reducible rfl)); done)); try simp only [Act.put, List.setIfInBounds_toArray, List.set_cons_zero, List.set_cons_succ]) | (refine wpL_calm (o := { dst := some 121, op := Go.Op.move (Go.Operand.tmp 15), type := 9, pos := "law.go:207", after := #[{ on := 12, ground := Go.Ground.guard }], guard := some (12, true) }) (v := undef) rfl (Or.inr ⟨by rfl, rfl⟩) ?_; try simp only [Act.put, List.setIfInBounds_toArray, List.set_cons_zero, List.set_cons_succ])
      first | (refine wpL_calm (o := { dst := some 122, op := Go.Op.binOp Go.BinOp.eql 9 (Go.Operand.tmp 121) (Go.Operand.const (Go.Value.string { data := #[] })) 9, type := 4, pos := "law.go:207", after := #[{ on := 13, ground := Go.Ground.data }, { on := 12, ground := Go.Ground.guard }], guard := some (12, true) }) (v := ?_) rfl (Or.inl ⟨by rfl, ?_⟩) ?_; rotate_left; (focus (intro w hSw; (try dsimp only at hSw); go_simp; (try (with_reducible rfl)); done)); try simp only [Act.put, List.setIfInBounds_toArray, List.set_cons_zero, List.set_cons_succ]) | (refine wpL_calm (o := { dst := some 122, op := Go.Op.binOp Go.BinOp.eql 9 (Go.Operand.tmp 121) (Go.Operand.const (Go.Value.string { data := #[] })) 9, type := 4, pos := "law.go:207", after := #[{ on := 13, ground := Go.Ground.data }, { on := 12, ground := Go.Ground.guard }], guard := some (12, true) }) (v := undef) rfl (Or.inr ⟨by rfl, rfl⟩) ?_; try simp only [Act.put, List.setIfInBounds_toArray, List.set_cons_zero, List.set_cons_succ])
      (refine wpL_calm (o := { dst := some 123, op := Go.Op.pick (Go.Operand.tmp 120) (Go.Operand.tmp 122) (Go.Operand.const (Go.Value.bool false)), type := 4, pos := "law.go:207", after := #[{ on := 12, ground := Go.Ground.data }, { on := 14, ground := Go.Ground.data }], guard := none }) (v := ?_) rfl (Or.inl ⟨by rfl, ?_⟩) ?_; rotate_left; (focus (intro w hSw; (try dsimp only at hSw); go_simp; (try (with_reducible rfl)); done)); try simp only [Act.put, List.setIfInBounds_toArray, List.set_cons_zero, List.set_cons_succ])
      (refine wpL_calm (o := { dst := some 124, op := Go.Op.move (Go.Operand.tmp 123), type := 4, pos := "law.go:207", after := #[{ on := 15, ground := Go.Ground.data }, { on := 12, ground := Go.Ground.chain }], guard := none }) (v := ?_) rfl (Or.inl ⟨by rfl, ?_⟩) ?_; rotate_left; (focus (intro w hSw; (try dsimp only at hSw); go_simp; (try (with_reducible rfl)); done)); try simp only [Act.put, List.setIfInBounds_toArray, List.set_cons_zero, List.set_cons_succ])
      first | (refine wpL_calm (o := { dst := some 125, op := Go.Op.move (Go.Operand.tmp 16), type := 24, pos := "law.go:207", after := #[{ on := 16, ground := Go.Ground.guard }], guard := some (16, true) }) (v := ?_) rfl (Or.inl ⟨by rfl, ?_⟩) ?_; rotate_left; (focus (intro w hSw; (try dsimp only at hSw); go_simp; (try (with_reducible rfl)); done)); try simp only [Act.put, List.setIfInBounds_toArray, List.set_cons_zero, List.set_cons_succ]) | (refine wpL_calm (o := { dst := some 125, op := Go.Op.move (Go.Operand.tmp 16), type := 24, pos := "law.go:207", after := #[{ on := 16, ground := Go.Ground.guard }], guard := some (16, true) }) (v := undef) rfl (Or.inr ⟨by rfl, rfl⟩) ?_; try simp only [Act.put, List.setIfInBounds_toArray, List.set_cons_zero, List.set_cons_succ])
      first | (refine wpL_calm (o := { dst := some 126, op := Go.Op.binOp Go.BinOp.eql 24 (Go.Operand.tmp 125) (Go.Operand.const (Go.Value.int Go.IntKind.i64 1)) 24, type := 4, pos := "law.go:207", after := #[{ on := 17, ground := Go.Ground.data }, { on := 16, ground := Go.Ground.guard }], guard := some (16, true) }) (v := ?_) rfl (Or.inl ⟨by rfl, ?_⟩) ?_; rotate_left; (focus (intro w hSw; (try dsimp only at hSw); go_simp; (try (with_reducible rfl)); done)); try simp only [Act.put, List.setIfInBounds_toArray, List.set_cons_zero, List.set_cons_succ]) | (refine wpL_calm (o := { dst := some 126, op := Go.Op.binOp Go.BinOp.eql 24 (Go.Operand.tmp 125) (Go.Operand.const (Go.Value.int Go.IntKind.i64 1)) 24, type := 4, pos := "law.go:207", after := #[{ on := 17, ground := Go.Ground.data }, { on := 16, ground := Go.Ground.guard }], guard := some (16, true) }) (v := undef) rfl (Or.inr ⟨by rfl, rfl⟩) ?_; try simp only [Act.put, List.setIfInBounds_toArray, List.set_cons_zero, List.set_cons_succ])
      (refine wpL_calm (o := { dst := some 127, op := Go.Op.pick (Go.Operand.tmp 124) (Go.Operand.tmp 126) (Go.Operand.const (Go.Value.bool false)), type := 4, pos := "law.go:207", after := #[{ on := 16, ground := Go.Ground.data }, { on := 18, ground := Go.Ground.data }], guard := none }) (v := ?_) rfl (Or.inl ⟨by rfl, ?_⟩) ?_; rotate_left; (focus (intro w hSw; (try dsimp only at hSw); go_simp; (try (with_reducible rfl)); done)); try simp only [Act.put, List.setIfInBounds_toArray, List.set_cons_zero, List.set_cons_succ])
      (refine wpL_calm (o := { dst := some 128, op := Go.Op.move (Go.Operand.tmp 127), type := 4, pos := "law.go:207", after := #[{ on := 19, ground := Go.Ground.data }, { on := 16, ground := Go.Ground.chain }], guard := none }) (v := ?_) rfl (Or.inl ⟨by rfl, ?_⟩) ?_; rotate_left; (focus (intro w hSw; (try dsimp only at hSw); go_simp; (try (with_reducible rfl)); done)); try simp only [Act.put, List.setIfInBounds_toArray, List.set_cons_zero, List.set_cons_succ])
      first | (refine wpL_calm (o := { dst := some 129, op := Go.Op.move (Go.Operand.tmp 14), type := 23, pos := "law.go:207", after := #[{ on := 20, ground := Go.Ground.guard }], guard := some (20, true) }) (v := ?_) rfl (Or.inl ⟨by rfl, ?_⟩) ?_; rotate_left; (focus (intro w hSw; (try dsimp only at hSw); go_simp; (try (with_reducible rfl)); done)); try simp only [Act.put, List.setIfInBounds_toArray, List.set_cons_zero, List.set_cons_succ]) | (refine wpL_calm (o := { dst := some 129, op := Go.Op.move (Go.Operand.tmp 14), type := 23, pos := "law.go:207", after := #[{ on := 20, ground := Go.Ground.guard }], guard := some (20, true) }) (v := undef) rfl (Or.inr ⟨by rfl, rfl⟩) ?_; try simp only [Act.put, List.setIfInBounds_toArray, List.set_cons_zero, List.set_cons_succ])
      first | (refine wpL_calm (o := { dst := some 130, op := Go.Op.fieldAddr 32 (Go.Operand.tmp 5) 1, type := 0, pos := "law.go:207", after := #[{ on := 20, ground := Go.Ground.guard }], guard := some (20, true) }) (v := ?_) rfl (Or.inl ⟨by rfl, ?_⟩) ?_; rotate_left; (focus (intro w hSw; (try dsimp only at hSw); go_simp; (try (with_reducible rfl)); done)); try simp only [Act.put, List.setIfInBounds_toArray, List.set_cons_zero, List.set_cons_succ]) | (refine wpL_calm (o := { dst := some 130, op := Go.Op.fieldAddr 32 (Go.Operand.tmp 5) 1, type := 0, pos := "law.go:207", after := #[{ on := 20, ground := Go.Ground.guard }], guard := some (20, true) }) (v := undef) rfl (Or.inr ⟨by rfl, rfl⟩) ?_; try simp only [Act.put, List.setIfInBounds_toArray, List.set_cons_zero, List.set_cons_succ])
      first | (refine wpL_calm (o := { dst := some 131, op := Go.Op.load 3 (Go.Operand.tmp 130), type := 3, pos := "law.go:207", after := #[{ on := 22, ground := Go.Ground.data }, { on := 20, ground := Go.Ground.guard }], guard := some (20, true) }) (v := ?_) rfl (Or.inl ⟨by rfl, ?_⟩) ?_; rotate_left; (focus (intro w hSw; (try dsimp only at hSw); go_simp; (try (with_reducible rfl)); done)); try simp only [Act.put, List.setIfInBounds_toArray, List.set_cons_zero, List.set_cons_succ]) | (refine wpL_calm (o := { dst := some 131, op := Go.Op.load 3 (Go.Operand.tmp 130), type := 3, pos := "law.go:207", after := #[{ on := 22, ground := Go.Ground.data }, { on := 20, ground := Go.Ground.guard }], guard := some (20, true) }) (v := undef) rfl (Or.inr ⟨by rfl, rfl⟩) ?_; try simp only [Act.put, List.setIfInBounds_toArray, List.set_cons_zero, List.set_cons_succ])
      first | (refine wpL_calm (o := { dst := some 132, op := Go.Op.load 32 (Go.Operand.tmp 5), type := 32, pos := "law.go:207", after := #[{ on := 20, ground := Go.Ground.guard }], guard := some (20, true) }) (v := ?_) rfl (Or.inl ⟨by rfl, ?_⟩) ?_; rotate_left; (focus (intro w hSw; (try dsimp only at hSw); go_simp; (try (with_reducible rfl)); done)); try simp only [Act.put, List.setIfInBounds_toArray, List.set_cons_zero, List.set_cons_succ]) | (refine wpL_calm (o := { dst := some 132, op := Go.Op.load 32 (Go.Operand.tmp 5), type := 32, pos := "law.go:207", after := #[{ on := 20, ground := Go.Ground.guard }], guard := some (20, true) }) (v := undef) rfl (Or.inr ⟨by rfl, rfl⟩) ?_; try simp only [Act.put, List.setIfInBounds_toArray, List.set_cons_zero, List.set_cons_succ])
      refine wpL_loud1 (o := { dst := some 133, op := Go.Op.call { callee := Go.Callee.value (Go.Operand.func 15), args := #[Go.Operand.tmp 132], argTypes := #[32] }, type := 9, pos := "law.go:207", after := #[{ on := 24, ground := Go.Ground.data }, { on := 20, ground := Go.Ground.chain }, { on := 20, ground := Go.Ground.guard }], guard := some (20, true) }) rfl (fun K hK => ?_)
      (go_simp; go_at_call 15; refine (CD.out _).mono ?_; rintro e u5 ⟨rfl, b⟩; have HI5 := Lib.hid (HI3.out.trans (b.mono HI3.out.size)); clear b)
      try go_wp2_with fail
      refine hK.out _ _ ?_ (fun hHeld => ?_)
      · (try dsimp only); exact HAC.out _ (HB7.out.trans (HI5.out.mono HB7.out.size))
      clear hK K
      try simp only [Act.put, List.setIfInBounds_toArray, List.set_cons_zero, List.set_cons_succ]
      refine wpL_loud1 (o := { dst := some 134, op := Go.Op.call { callee := Go.Callee.value (Go.Operand.func 16), args := #[Go.Operand.tmp 129, Go.Operand.tmp 131, Go.Operand.tmp 133], argTypes := #[23, 3, 9] }, type := 24, pos := "law.go:207", after := #[{ on := 21, ground := Go.Ground.data }, { on := 23, ground := Go.Ground.data }, { on := 25, ground := Go.Ground.data }, { on := 25, ground := Go.Ground.chain }, { on := 20, ground := Go.Ground.guard }], guard := some (20, true) }) rfl (fun K hK => ?_)
      (go_simp; go_at_call 16; refine (write_nil aa s _ hs6).mono ?_; rintro e u6 ⟨rfl, rfl⟩)
      try go_wp2_with fail
      refine hK.out _ _ ?_ (fun hHeld => ?_)
      · (try dsimp only); exact HAC.out _ (HB7.out.trans (HI5.out.mono HB7.out.size))
      clear hK K
      try simp only [Act.put, List.setIfInBounds_toArray, List.set_cons_zero, List.set_cons_succ]
      first | (refine wpL_calm (o := { dst := some 135, op := Go.Op.binOp Go.BinOp.eql 24 (Go.Operand.tmp 134) (Go.Operand.const (Go.Value.int Go.IntKind.i64 1)) 24, type := 4, pos := "law.go:207", after := #[{ on := 26, ground := Go.Ground.data }, { on := 20, ground := Go.Ground.guard }], guard := some (20, true) }) (v := ?_) rfl (Or.inl ⟨by rfl, ?_⟩) ?_; rotate_left; (focus (intro w hSw; (try dsimp only at hSw); go_simp; (try (with_reducible rfl)); done)); try simp only [Act.put, List.setIfInBounds_toArray, List.set_cons_zero, List.set_cons_succ]) | (refine wpL_calm (o := { dst := some 135, op := Go.Op.binOp Go.BinOp.eql 24 (Go.Operand.tmp 134) (Go.Operand.const (Go.Value.int Go.IntKind.i64 1)) 24, type := 4, pos := "law.go:207", after := #[{ on := 26, ground := Go.Ground.data }, { on := 20, ground := Go.Ground.guard }], guard := some (20, true) }) (v := undef) rfl (Or.inr ⟨by rfl, rfl⟩) ?_; try simp only [Act.put, List.setIfInBounds_toArray, List.set_cons_zero, List.set_cons_succ])
      (refine wpL_calm (o := { dst := some 136, op := Go.Op.pick (Go.Operand.tmp 128) (Go.Operand.tmp 135) (Go.Operand.const (Go.Value.bool false)), type := 4, pos := "law.go:207", after := #[{ on := 20, ground := Go.Ground.data }, { on := 27, ground := Go.Ground.data }], guard := none }) (v := ?_) rfl (Or.inl ⟨by rfl, ?_⟩) ?_; rotate_left; (focus (intro w hSw; (try dsimp only at hSw); go_simp; (try (with_reducible rfl)); done)); try simp only [Act.put, List.setIfInBounds_toArray, List.set_cons_zero, List.set_cons_succ])
      (refine wpL_calm (o := { dst := some 137, op := Go.Op.move (Go.Operand.tmp 136), type := 4, pos := "law.go:207", after := #[{ on := 28, ground := Go.Ground.data }, { on := 26, ground := Go.Ground.chain }], guard := none }) (v := ?_) rfl (Or.inl ⟨by rfl, ?_⟩) ?_; rotate_left; (focus (intro w hSw; (try dsimp only at hSw); go_simp; (try (with_reducible rfl)); done)); try simp only [Act.put, List.setIfInBounds_toArray, List.set_cons_zero, List.set_cons_succ])
      first | (refine wpL_calm (o := { dst := some 138, op := Go.Op.move (Go.Operand.tmp 14), type := 23, pos := "law.go:207", after := #[{ on := 29, ground := Go.Ground.guard }], guard := some (29, true) }) (v := ?_) rfl (Or.inl ⟨by rfl, ?_⟩) ?_; rotate_left; (focus (intro w hSw; (try dsimp only at hSw); go_simp; (try (with_reducible rfl)); done)); try simp only [Act.put, List.setIfInBounds_toArray, List.set_cons_zero, List.set_cons_succ]) | (refine wpL_calm (o := { dst := some 138, op := Go.Op.move (Go.Operand.tmp 14), type := 23, pos := "law.go:207", after := #[{ on := 29, ground := Go.Ground.guard }], guard := some (29, true) }) (v := undef) rfl (Or.inr ⟨by rfl, rfl⟩) ?_; try simp only [Act.put, List.setIfInBounds_toArray, List.set_cons_zero, List.set_cons_succ])
      first | (refine wpL_calm (o := { dst := some 139, op := Go.Op.fieldAddr 32 (Go.Operand.tmp 5) 1, type := 0, pos := "law.go:207", after := #[{ on := 29, ground := Go.Ground.guard }], guard := some (29, true) }) (v := ?_) rfl (Or.inl ⟨by rfl, ?_⟩) ?_; rotate_left; (focus (intro w hSw; (try dsimp only at hSw); go_simp; (try (with_reducible rfl)); done)); try simp only [Act.put, List.setIfInBounds_toArray, List.set_cons_zero, List.set_cons_succ]) | (refine wpL_calm (o := { dst := some 139, op := Go.Op.fieldAddr 32 (Go.Operand.tmp 5) 1, type := 0, pos := "law.go:207", after := #[{ on := 29, ground := Go.Ground.guard }], guard := some (29, true) }) (v := undef) rfl (Or.inr ⟨by rfl, rfl⟩) ?_; try simp only [Act.put, List.setIfInBounds_toArray, List.set_cons_zero, List.set_cons_succ])
      first | (refine wpL_calm (o := { dst := some 140, op := Go.Op.load 3 (Go.Operand.tmp 139), type := 3, pos := "law.go:207", after := #[{ on := 31, ground := Go.Ground.data }, { on := 29, ground := Go.Ground.guard }], guard := some (29, true) }) (v := ?_) rfl (Or.inl ⟨by rfl, ?_⟩) ?_; rotate_left; (focus (intro w hSw; (try dsimp only at hSw); go_simp; (try (with_reducible rfl)); done)); try simp only [Act.put, List.setIfInBounds_toArray, List.set_cons_zero, List.set_cons_succ]) | (refine wpL_calm (o := { dst := some 140, op := Go.Op.load 3 (Go.Operand.tmp 139), type := 3, pos := "law.go:207", after := #[{ on := 31, ground := Go.Ground.data }, { on := 29, ground := Go.Ground.guard }], guard := some (29, true) }) (v := undef) rfl (Or.inr ⟨by rfl, rfl⟩) ?_; try simp only [Act.put, List.setIfInBounds_toArray, List.set_cons_zero, List.set_cons_succ])
      first | (refine wpL_calm (o := { dst := some 141, op := Go.Op.fieldAddr 32 (Go.Operand.tmp 5) 2, type := 0, pos := "law.go:207", after := #[{ on := 29, ground := Go.Ground.guard }], guard := some (29, true) }) (v := ?_) rfl (Or.inl ⟨by rfl, ?_⟩) ?_; rotate_left; (focus (intro w hSw; (try dsimp only at hSw); go_simp; (try (with_reducible rfl)); done)); try simp only [Act.put, List.setIfInBounds_toArray, List.set_cons_zero, List.set_cons_succ]) | (refine wpL_calm (o := { dst := some 141, op := Go.Op.fieldAddr 32 (Go.Operand.tmp 5) 2, type := 0, pos := "law.go:207", after := #[{ on := 29, ground := Go.Ground.guard }], guard := some (29, true) }) (v := undef) rfl (Or.inr ⟨by rfl, rfl⟩) ?_; try simp only [Act.put, List.setIfInBounds_toArray, List.set_cons_zero, List.set_cons_succ])
      first | (refine wpL_calm (o := { dst := some 142, op := Go.Op.load 3 (Go.Operand.tmp 141), type := 3, pos := "law.go:207", after := #[{ on := 33, ground := Go.Ground.data }, { on := 29, ground := Go.Ground.guard }], guard := some (29, true) }) (v := ?_) rfl (Or.inl ⟨by rfl, ?_⟩) ?_; rotate_left; (focus (intro w hSw; (try dsimp only at hSw); go_simp; (try (with_reducible rfl)); done)); try simp only [Act.put, List.setIfInBounds_toArray, List.set_cons_zero, List.set_cons_succ]) | (refine wpL_calm (o := { dst := some 142, op := Go.Op.load 3 (Go.Operand.tmp 141), type := 3, pos := "law.go:207", after := #[{ on := 33, ground := Go.Ground.data }, { on := 29, ground := Go.Ground.guard }], guard := some (29, true) }) (v := undef) rfl (Or.inr ⟨by rfl, rfl⟩) ?_; try simp only [Act.put, List.setIfInBounds_toArray, List.set_cons_zero, List.set_cons_succ])
      refine wpL_loud1 (o := { dst := some 143, op := Go.Op.call { callee := Go.Callee.value (Go.Operand.func 17), args := #[Go.Operand.tmp 138, Go.Operand.tmp 140, Go.Operand.tmp 142], argTypes := #[23, 3, 3] }, type := 24, pos := "law.go:207", after := #[{ on := 30, ground := Go.Ground.data }, { on := 32, ground := Go.Ground.data }, { on := 34, ground := Go.Ground.data }, { on := 29, ground := Go.Ground.chain }, { on := 29, ground := Go.Ground.guard }], guard := some (29, true) }) rfl (fun K hK => ?_)
      (go_simp; go_at_call 17; refine (discard_nil aa an _).mono ?_; rintro e u7 ⟨rfl, rfl⟩)
      try go_wp2_with fail
      refine hK.out _ _ ?_ (fun hHeld => ?_)
      · (try dsimp only); exact HAC.out _ (HB7.out.trans (HI5.out.mono HB7.out.size))
      clear hK K
      try simp only [Act.put, List.setIfInBounds_toArray, List.set_cons_zero, List.set_cons_succ]
      first | (refine wpL_calm (o := { dst := some 144, op := Go.Op.binOp Go.BinOp.eql 24 (Go.Operand.tmp 143) (Go.Operand.const (Go.Value.int Go.IntKind.i64 1)) 24, type := 4, pos := "law.go:207", after := #[{ on := 35, ground := Go.Ground.data }, { on := 29, ground := Go.Ground.guard }], guard := some (29, true) }) (v := ?_) rfl (Or.inl ⟨by rfl, ?_⟩) ?_; rotate_left; (focus (intro w hSw; (try dsimp only at hSw); go_simp; (try (with_reducible rfl)); done)); try simp only [Act.put, List.setIfInBounds_toArray, List.set_cons_zero, List.set_cons_succ]) | (refine wpL_calm (o := { dst := some 144, op := Go.Op.binOp Go.BinOp.eql 24 (Go.Operand.tmp 143) (Go.Operand.const (Go.Value.int Go.IntKind.i64 1)) 24, type := 4, pos := "law.go:207", after := #[{ on := 35, ground := Go.Ground.data }, { on := 29, ground := Go.Ground.guard }], guard := some (29, true) }) (v := undef) rfl (Or.inr ⟨by rfl, rfl⟩) ?_; try simp only [Act.put, List.setIfInBounds_toArray, List.set_cons_zero, List.set_cons_succ])
      (refine wpL_calm (o := { dst := some 145, op := Go.Op.pick (Go.Operand.tmp 137) (Go.Operand.tmp 144) (Go.Operand.const (Go.Value.bool false)), type := 4, pos := "law.go:207", after := #[{ on := 29, ground := Go.Ground.data }, { on := 36, ground := Go.Ground.data }], guard := none }) (v := ?_) rfl (Or.inl ⟨by rfl, ?_⟩) ?_; rotate_left; (focus (intro w hSw; (try dsimp only at hSw); go_simp; (try (with_reducible rfl)); done)); try simp only [Act.put, List.setIfInBounds_toArray, List.set_cons_zero, List.set_cons_succ])
      (refine wpL_calm (o := { dst := some 146, op := Go.Op.move (Go.Operand.tmp 145), type := 4, pos := "law.go:207", after := #[{ on := 37, ground := Go.Ground.data }, { on := 35, ground := Go.Ground.chain }], guard := none }) (v := ?_) rfl (Or.inl ⟨by rfl, ?_⟩) ?_; rotate_left; (focus (intro w hSw; (try dsimp only at hSw); go_simp; (try (with_reducible rfl)); done)); try simp only [Act.put, List.setIfInBounds_toArray, List.set_cons_zero, List.set_cons_succ])
      first | (refine wpL_calm (o := { dst := some 147, op := Go.Op.move (Go.Operand.tmp 14), type := 23, pos := "law.go:207", after := #[{ on := 38, ground := Go.Ground.guard }], guard := some (38, true) }) (v := ?_) rfl (Or.inl ⟨by rfl, ?_⟩) ?_; rotate_left; (focus (intro w hSw; (try dsimp only at hSw); go_simp; (try (with_reducible rfl)); done)); try simp only [Act.put, List.setIfInBounds_toArray, List.set_cons_zero, List.set_cons_succ]) | (refine wpL_calm (o := { dst := some 147, op := Go.Op.move (Go.Operand.tmp 14), type := 23, pos := "law.go:207", after := #[{ on := 38, ground := Go.Ground.guard }], guard := some (38, true) }) (v := undef) rfl (Or.inr ⟨by rfl, rfl⟩) ?_; try simp only [Act.put, List.setIfInBounds_toArray, List.set_cons_zero, List.set_cons_succ])
      first | (refine wpL_calm (o := { dst := some 148, op := Go.Op.fieldAddr 32 (Go.Operand.tmp 5) 1, type := 0, pos := "law.go:207", after := #[{ on := 38, ground := Go.Ground.guard }], guard := some (38, true) }) (v := ?_) rfl (Or.inl ⟨by rfl, ?_⟩) ?_; rotate_left; (focus (intro w hSw; (try dsimp only at hSw); go_simp; (try (with_reducible rfl)); done)); try simp only [Act.put, List.setIfInBounds_toArray, List.set_cons_zero, List.set_cons_succ]) | (refine wpL_calm (o := { dst := some 148, op := Go.Op.fieldAddr 32 (Go.Operand.tmp 5) 1, type := 0, pos := "law.go:207", after := #[{ on := 38, ground := Go.Ground.guard }], guard := some (38, true) }) (v := undef) rfl (Or.inr ⟨by rfl, rfl⟩) ?_; try simp only [Act.put, List.setIfInBounds_toArray, List.set_cons_zero, List.set_cons_succ])
      first | (refine wpL_calm (o := { dst := some 149, op := Go.Op.load 3 (Go.Operand.tmp 148), type := 3, pos := "law.go:207", after := #[{ on := 40, ground := Go.Ground.data }, { on := 38, ground := Go.Ground.guard }], guard := some (38, true) }) (v := ?_) rfl (Or.inl ⟨by rfl, ?_⟩) ?_; rotate_left; (focus (intro w hSw; (try dsimp only at hSw); go_simp; (try (with_reducible rfl)); done)); try simp only [Act.put, List.setIfInBounds_toArray, List.set_cons_zero, List.set_cons_succ]) | (refine wpL_calm (o := { dst := some 149, op := Go.Op.load 3 (Go.Operand.tmp 148), type := 3, pos := "law.go:207", after := #[{ on := 40, ground := Go.Ground.data }, { on := 38, ground := Go.Ground.guard }], guard := some (38, true) }) (v := undef) rfl (Or.inr ⟨by rfl, rfl⟩) ?_; try simp only [Act.put, List.setIfInBounds_toArray, List.set_cons_zero, List.set_cons_succ])
      first | (refine wpL_calm (o := { dst := some 150, op := Go.Op.load 32 (Go.Operand.tmp 5), type := 32, pos := "law.go:207", after := #[{ on := 38, ground := Go.Ground.guard }], guard := some (38, true) }) (v := ?_) rfl (Or.inl ⟨by rfl, ?_⟩) ?_; rotate_left; (focus (intro w hSw; (try dsimp only at hSw); go_simp; (try (with_reducible rfl)); done)); try simp only [Act.put, List.setIfInBounds_toArray, List.set_cons_zero, List.set_cons_succ]) | (refine wpL_calm (o := { dst := some 150, op := Go.Op.load 32 (Go.Operand.tmp 5), type := 32, pos := "law.go:207", after := #[{ on := 38, ground := Go.Ground.guard }], guard := some (38, true) }) (v := undef) rfl (Or.inr ⟨by rfl, rfl⟩) ?_; try simp only [Act.put, List.setIfInBounds_toArray, List.set_cons_zero, List.set_cons_succ])
      refine wpL_loud1 (o := { dst := some 151, op := Go.Op.call { callee := Go.Callee.value (Go.Operand.func 15), args := #[Go.Operand.tmp 150], argTypes := #[32] }, type := 9, pos := "law.go:207", after := #[{ on := 42, ground := Go.Ground.data }, { on := 38, ground := Go.Ground.chain }, { on := 38, ground := Go.Ground.guard }], guard := some (38, true) }) rfl (fun K hK => ?_)
      (go_simp; go_at_call 15; refine (CD.out _).mono ?_; rintro e u8 ⟨rfl, b⟩; have HI8 := Lib.hid (HI5.out.trans (b.mono HI5.out.size)); clear b)
      try go_wp2_with fail
      refine hK.out _ _ ?_ (fun hHeld => ?_)
      · (try dsimp only); exact HAC.out _ (HB7.out.trans (HI8.out.mono HB7.out.size))
      clear hK K
      try simp only [Act.put, List.setIfInBounds_toArray, List.set_cons_zero, List.set_cons_succ]
      refine wpL_loud1 (o := { dst := some 152, op := Go.Op.call { callee := Go.Callee.value (Go.Operand.func 18), args := #[Go.Operand.tmp 147, Go.Operand.tmp 149, Go.Operand.tmp 151], argTypes := #[23, 3, 9] }, type := 4, pos := "law.go:207", after := #[{ on := 39, ground := Go.Ground.data }, { on := 41, ground := Go.Ground.data }, { on := 43, ground := Go.Ground.data }, { on := 43, ground := Go.Ground.chain }, { on := 38, ground := Go.Ground.guard }], guard := some (38, true) }) rfl (fun K hK => ?_)
      (go_simp; go_at_call 18; refine (saw_nil aa s _ hs6).mono ?_; rintro e u9 ⟨rfl, b⟩; have HI9 := Lib.hid (HI8.out.trans (b.mono HI8.out.size)); clear b)
      try go_wp2_with fail
      refine hK.out _ _ ?_ (fun hHeld => ?_)
      · (try dsimp only); exact HAC.out _ (HB7.out.trans (HI9.out.mono HB7.out.size))
      clear hK K
      try simp only [Act.put, List.setIfInBounds_toArray, List.set_cons_zero, List.set_cons_succ]
      first | (refine wpL_calm (o := { dst := some 153, op := Go.Op.unOp Go.UnOp.not 4 (Go.Operand.tmp 152), type := 4, pos := "law.go:207", after := #[{ on := 44, ground := Go.Ground.data }, { on := 38, ground := Go.Ground.guard }], guard := some (38, true) }) (v := ?_) rfl (Or.inl ⟨by rfl, ?_⟩) ?_; rotate_left; (focus (intro w hSw; (try dsimp only at hSw); go_simp; (try (with_reducible rfl)); done)); try simp only [Act.put, List.setIfInBounds_toArray, List.set_cons_zero, List.set_cons_succ]) | (refine wpL_calm (o := { dst := some 153, op := Go.Op.unOp Go.UnOp.not 4 (Go.Operand.tmp 152), type := 4, pos := "law.go:207", after := #[{ on := 44, ground := Go.Ground.data }, { on := 38, ground := Go.Ground.guard }], guard := some (38, true) }) (v := undef) rfl (Or.inr ⟨by rfl, rfl⟩) ?_; try simp only [Act.put, List.setIfInBounds_toArray, List.set_cons_zero, List.set_cons_succ])
      (refine wpL_calm (o := { dst := some 154, op := Go.Op.pick (Go.Operand.tmp 146) (Go.Operand.tmp 153) (Go.Operand.const (Go.Value.bool false)), type := 4, pos := "law.go:207", after := #[{ on := 38, ground := Go.Ground.data }, { on := 45, ground := Go.Ground.data }], guard := none }) (v := ?_) rfl (Or.inl ⟨by rfl, ?_⟩) ?_; rotate_left; (focus (intro w hSw; (try dsimp only at hSw); go_simp; (try (with_reducible rfl)); done)); try simp only [Act.put, List.setIfInBounds_toArray, List.set_cons_zero, List.set_cons_succ])
      (refine wpL_calm (o := { dst := some 155, op := Go.Op.move (Go.Operand.tmp 154), type := 4, pos := "law.go:207", after := #[{ on := 46, ground := Go.Ground.data }, { on := 44, ground := Go.Ground.chain }], guard := none }) (v := ?_) rfl (Or.inl ⟨by rfl, ?_⟩) ?_; rotate_left; (focus (intro w hSw; (try dsimp only at hSw); go_simp; (try (with_reducible rfl)); done)); try simp only [Act.put, List.setIfInBounds_toArray, List.set_cons_zero, List.set_cons_succ])
      first | (refine wpL_calm (o := { dst := some 156, op := Go.Op.move (Go.Operand.tmp 14), type := 23, pos := "law.go:207", after := #[{ on := 47, ground := Go.Ground.guard }], guard := some (47, true) }) (v := ?_) rfl (Or.inl ⟨by rfl, ?_⟩) ?_; rotate_left; (focus (intro w hSw; (try dsimp only at hSw); go_simp; (try (with_reducible rfl)); done)); try simp only [Act.put, List.setIfInBounds_toArray, List.set_cons_zero, List.set_cons_succ]) | (refine wpL_calm (o := { dst := some 156, op := Go.Op.move (Go.Operand.tmp 14), type := 23, pos := "law.go:207", after := #[{ on := 47, ground := Go.Ground.guard }], guard := some (47, true) }) (v := undef) rfl (Or.inr ⟨by rfl, rfl⟩) ?_; try simp only [Act.put, List.setIfInBounds_toArray, List.set_cons_zero, List.set_cons_succ])
      first | (refine wpL_calm (o := { dst := some 158, op := Go.Op.move (Go.Operand.tmp 14), type := 23, pos := "law.go:207", after := #[{ on := 47, ground := Go.Ground.guard }], guard := some (47, true) }) (v := ?_) rfl (Or.inl ⟨by rfl, ?_⟩) ?_; rotate_left; (focus (intro w hSw; (try dsimp only at hSw); go_simp; (try (with_reducible rfl)); done)); try simp only [Act.put, List.setIfInBounds_toArray, List.set_cons_zero, List.set_cons_succ]) | (refine wpL_calm (o := { dst := some 158, op := Go.Op.move (Go.Operand.tmp 14), type := 23, pos := "law.go:207", after := #[{ on := 47, ground := Go.Ground.guard }], guard := some (47, true) }) (v := undef) rfl (Or.inr ⟨by rfl, rfl⟩) ?_; try simp only [Act.put, List.setIfInBounds_toArray, List.set_cons_zero, List.set_cons_succ])
      refine wpL_loud1 (o := { dst := some 157, op := Go.Op.call { callee := Go.Callee.value (Go.Operand.func 11), args := #[Go.Operand.tmp 156], argTypes := #[23] }, type := 3, pos := "law.go:207", after := #[{ on := 48, ground := Go.Ground.data }, { on := 47, ground := Go.Ground.chain }, { on := 47, ground := Go.Ground.guard }], guard := some (47, true) }) rfl (fun K hK => ?_)
      (go_simp; go_at_call 11; refine (worlds_nil _).mono ?_; rintro e u10 ⟨rfl, rfl⟩)
      try go_wp2_with fail
      refine hK.out _ _ ?_ (fun hHeld => ?_)
      · (try dsimp only); exact HAC.out _ (HB7.out.trans (HI9.out.mono HB7.out.size))
      clear hK K
      try simp only [Act.put, List.setIfInBounds_toArray, List.set_cons_zero, List.set_cons_succ]
      refine wpL_loud1 (o := { dst := some 159, op := Go.Op.call { callee := Go.Callee.value (Go.Operand.func 12), args := #[Go.Operand.tmp 158], argTypes := #[23] }, type := 3, pos := "law.go:207", after := #[{ on := 50, ground := Go.Ground.data }, { on := 49, ground := Go.Ground.chain }, { on := 47, ground := Go.Ground.guard }], guard := some (47, true) }) rfl (fun K hK => ?_)
      (go_simp; go_at_call 12; refine (states_nil _).mono ?_; rintro e u11 ⟨rfl, rfl⟩)
      try go_wp2_with fail
      refine hK.out _ _ ?_ (fun hHeld => ?_)
      · (try dsimp only); exact HAC.out _ (HB7.out.trans (HI9.out.mono HB7.out.size))
      clear hK K
      try simp only [Act.put, List.setIfInBounds_toArray, List.set_cons_zero, List.set_cons_succ]
      first | (refine wpL_calm (o := { dst := some 160, op := Go.Op.binOp Go.BinOp.add 3 (Go.Operand.tmp 157) (Go.Operand.tmp 159) 3, type := 3, pos := "law.go:207", after := #[{ on := 49, ground := Go.Ground.data }, { on := 51, ground := Go.Ground.data }, { on := 47, ground := Go.Ground.guard }], guard := some (47, true) }) (v := ?_) rfl (Or.inl ⟨by rfl, ?_⟩) ?_; rotate_left; (focus (intro w hSw; (try dsimp only at hSw); go_simp; (try (with_reducible rfl)); done)); try simp only [Act.put, List.setIfInBounds_toArray, List.set_cons_zero, List.set_cons_succ]) | (refine wpL_calm (o := { dst := some 160, op := Go.Op.binOp Go.BinOp.add 3 (Go.Operand.tmp 157) (Go.Operand.tmp 159) 3, type := 3, pos := "law.go:207", after := #[{ on := 49, ground := Go.Ground.data }, { on := 51, ground := Go.Ground.data }, { on := 47, ground := Go.Ground.guard }], guard := some (47, true) }) (v := undef) rfl (Or.inr ⟨by rfl, rfl⟩) ?_; try simp only [Act.put, List.setIfInBounds_toArray, List.set_cons_zero, List.set_cons_succ])
      first | (refine wpL_calm (o := { dst := some 161, op := Go.Op.binOp Go.BinOp.eql 3 (Go.Operand.tmp 160) (Go.Operand.const (Go.Value.int Go.IntKind.i64 0)) 3, type := 4, pos := "law.go:207", after := #[{ on := 52, ground := Go.Ground.data }, { on := 47, ground := Go.Ground.guard }], guard := some (47, true) }) (v := ?_) rfl (Or.inl ⟨by rfl, ?_⟩) ?_; rotate_left; (focus (intro w hSw; (try dsimp only at hSw); go_simp; (try (with_reducible rfl)); done)); try simp only [Act.put, List.setIfInBounds_toArray, List.set_cons_zero, List.set_cons_succ]) | (refine wpL_calm (o := { dst := some 161, op := Go.Op.binOp Go.BinOp.eql 3 (Go.Operand.tmp 160) (Go.Operand.const (Go.Value.int Go.IntKind.i64 0)) 3, type := 4, pos := "law.go:207", after := #[{ on := 52, ground := Go.Ground.data }, { on := 47, ground := Go.Ground.guard }], guard := some (47, true) }) (v := undef) rfl (Or.inr ⟨by rfl, rfl⟩) ?_; try simp only [Act.put, List.setIfInBounds_toArray, List.set_cons_zero, List.set_cons_succ])
      (refine wpL_calm (o := { dst := some 162, op := Go.Op.pick (Go.Operand.tmp 155) (Go.Operand.tmp 161) (Go.Operand.const (Go.Value.bool false)), type := 4, pos := "law.go:207", after := #[{ on := 47, ground := Go.Ground.data }, { on := 53, ground := Go.Ground.data }], guard := none }) (v := ?_) rfl (Or.inl ⟨by rfl, ?_⟩) ?_; rotate_left; (focus (intro w hSw; (try dsimp only at hSw); go_simp; (try (with_reducible rfl)); done)); try simp only [Act.put, List.setIfInBounds_toArray, List.set_cons_zero, List.set_cons_succ])
      (refine wpL_calm (o := { dst := some 163, op := Go.Op.move (Go.Operand.tmp 162), type := 4, pos := "law.go:207", after := #[{ on := 54, ground := Go.Ground.data }, { on := 51, ground := Go.Ground.chain }], guard := none }) (v := ?_) rfl (Or.inl ⟨by rfl, ?_⟩) ?_; rotate_left; (focus (intro w hSw; (try dsimp only at hSw); go_simp; (try (with_reducible rfl)); done)); try simp only [Act.put, List.setIfInBounds_toArray, List.set_cons_zero, List.set_cons_succ])
      first | (refine wpL_calm (o := { dst := some 164, op := Go.Op.move (Go.Operand.tmp 14), type := 23, pos := "law.go:207", after := #[{ on := 55, ground := Go.Ground.guard }], guard := some (55, true) }) (v := ?_) rfl (Or.inl ⟨by rfl, ?_⟩) ?_; rotate_left; (focus (intro w hSw; (try dsimp only at hSw); go_simp; (try (with_reducible rfl)); done)); try simp only [Act.put, List.setIfInBounds_toArray, List.set_cons_zero, List.set_cons_succ]) | (refine wpL_calm (o := { dst := some 164, op := Go.Op.move (Go.Operand.tmp 14), type := 23, pos := "law.go:207", after := #[{ on := 55, ground := Go.Ground.guard }], guard := some (55, true) }) (v := undef) rfl (Or.inr ⟨by rfl, rfl⟩) ?_; try simp only [Act.put, List.setIfInBounds_toArray, List.set_cons_zero, List.set_cons_succ])
      refine wpL_loud1 (o := { dst := some 165, op := Go.Op.call { callee := Go.Callee.value (Go.Operand.func 22), args := #[Go.Operand.tmp 164], argTypes := #[23] }, type := 23, pos := "law.go:207", after := #[{ on := 56, ground := Go.Ground.data }, { on := 55, ground := Go.Ground.chain }, { on := 55, ground := Go.Ground.guard }], guard := some (55, true) }) rfl (fun K hK => ?_)
      (go_simp; go_at_call 22; refine (copy_nil _).mono ?_; rintro e u12 ⟨rfl, rfl⟩)
      try go_wp2_with fail
      refine hK.out _ _ ?_ (fun hHeld => ?_)
      · (try dsimp only); exact HAC.out _ (HB7.out.trans (HI9.out.mono HB7.out.size))
      clear hK K
      try simp only [Act.put, List.setIfInBounds_toArray, List.set_cons_zero, List.set_cons_succ]
      first | (refine wpL_calm (o := { dst := some 166, op := Go.Op.binOp Go.BinOp.eql 23 (Go.Operand.tmp 165) (Go.Operand.const (Go.Value.pointer none)) 23, type := 4, pos := "law.go:207", after := #[{ on := 57, ground := Go.Ground.data }, { on := 55, ground := Go.Ground.guard }], guard := some (55, true) }) (v := ?_) rfl (Or.inl ⟨by rfl, ?_⟩) ?_; rotate_left; (focus (intro w hSw; (try dsimp only at hSw); go_simp; (try (with_reducible rfl)); done)); try simp only [Act.put, List.setIfInBounds_toArray, List.set_cons_zero, List.set_cons_succ]) | (refine wpL_calm (o := { dst := some 166, op := Go.Op.binOp Go.BinOp.eql 23 (Go.Operand.tmp 165) (Go.Operand.const (Go.Value.pointer none)) 23, type := 4, pos := "law.go:207", after := #[{ on := 57, ground := Go.Ground.data }, { on := 55, ground := Go.Ground.guard }], guard := some (55, true) }) (v := undef) rfl (Or.inr ⟨by rfl, rfl⟩) ?_; try simp only [Act.put, List.setIfInBounds_toArray, List.set_cons_zero, List.set_cons_succ])
      (refine wpL_calm (o := { dst := some 167, op := Go.Op.pick (Go.Operand.tmp 163) (Go.Operand.tmp 166) (Go.Operand.const (Go.Value.bool false)), type := 4, pos := "law.go:207", after := #[{ on := 55, ground := Go.Ground.data }, { on := 58, ground := Go.Ground.data }], guard := none }) (v := ?_) rfl (Or.inl ⟨by rfl, ?_⟩) ?_; rotate_left; (focus (intro w hSw; (try dsimp only at hSw); go_simp; (try (with_reducible rfl)); done)); try simp only [Act.put, List.setIfInBounds_toArray, List.set_cons_zero, List.set_cons_succ])
      (refine wpL_calm (o := { dst := some 6, op := Go.Op.assign (Go.Operand.tmp 167), type := 4, pos := "law.go:207", after := #[{ on := 59, ground := Go.Ground.data }, { on := 57, ground := Go.Ground.chain }, { on := 0, ground := Go.Ground.phase }, { on := 1, ground := Go.Ground.phase }, { on := 2, ground := Go.Ground.phase }, { on := 3, ground := Go.Ground.phase }, { on := 4, ground := Go.Ground.phase }, { on := 5, ground := Go.Ground.phase }, { on := 6, ground := Go.Ground.phase }, { on := 7, ground := Go.Ground.phase }, { on := 8, ground := Go.Ground.phase }, { on := 9, ground := Go.Ground.phase }, { on := 10, ground := Go.Ground.phase }, { on := 11, ground := Go.Ground.phase }, { on := 12, ground := Go.Ground.phase }, { on := 13, ground := Go.Ground.phase }, { on := 14, ground := Go.Ground.phase }, { on := 15, ground := Go.Ground.phase }, { on := 16, ground := Go.Ground.phase }, { on := 17, ground := Go.Ground.phase }, { on := 18, ground := Go.Ground.phase }, { on := 19, ground := Go.Ground.phase }, { on := 20, ground := Go.Ground.phase }, { on := 21, ground := Go.Ground.phase }, { on := 22, ground := Go.Ground.phase }, { on := 23, ground := Go.Ground.phase }, { on := 24, ground := Go.Ground.phase }, { on := 25, ground := Go.Ground.phase }, { on := 26, ground := Go.Ground.phase }, { on := 27, ground := Go.Ground.phase }, { on := 28, ground := Go.Ground.phase }, { on := 29, ground := Go.Ground.phase }, { on := 30, ground := Go.Ground.phase }, { on := 31, ground := Go.Ground.phase }, { on := 32, ground := Go.Ground.phase }, { on := 33, ground := Go.Ground.phase }, { on := 34, ground := Go.Ground.phase }, { on := 35, ground := Go.Ground.phase }, { on := 36, ground := Go.Ground.phase }, { on := 37, ground := Go.Ground.phase }, { on := 38, ground := Go.Ground.phase }, { on := 39, ground := Go.Ground.phase }, { on := 40, ground := Go.Ground.phase }, { on := 41, ground := Go.Ground.phase }, { on := 42, ground := Go.Ground.phase }, { on := 43, ground := Go.Ground.phase }, { on := 44, ground := Go.Ground.phase }, { on := 45, ground := Go.Ground.phase }, { on := 46, ground := Go.Ground.phase }, { on := 47, ground := Go.Ground.phase }, { on := 48, ground := Go.Ground.phase }, { on := 49, ground := Go.Ground.phase }, { on := 50, ground := Go.Ground.phase }, { on := 51, ground := Go.Ground.phase }, { on := 52, ground := Go.Ground.phase }, { on := 53, ground := Go.Ground.phase }, { on := 54, ground := Go.Ground.phase }, { on := 55, ground := Go.Ground.phase }, { on := 56, ground := Go.Ground.phase }, { on := 57, ground := Go.Ground.phase }, { on := 58, ground := Go.Ground.phase }, { on := 59, ground := Go.Ground.phase }], guard := none }) (v := ?_) rfl (Or.inl ⟨by rfl, ?_⟩) ?_; rotate_left; (focus (intro w hSw; (try dsimp only at hSw); go_simp; (try (with_reducible rfl)); done)); try simp only [Act.put, List.setIfInBounds_toArray, List.set_cons_zero, List.set_cons_succ])
      refine wpL_nil ?_
      refine NoPanic.normal ?_
      have HEND := Lib.hid (HB1.out.trans ((HB7.out.trans (HI9.out.mono HB7.out.size)).mono HB1.out.size))
      clear CS1 CR1 CS2 CR2
      go_wp2_with fail
      go_ret
      exact ⟨by simp, HEND.out⟩
section
variable {H : Type} {enc : TypeId × Value → H}
theorem open_act26 {w : World} {r : Reach} {b0 : Nat} {v : Value} {d : DataW H} {p : List MemPlace} (hok : Value.okWide Try.prog w r b0 32 v) (h : DataW.Trod enc Try.prog w 0 (fun _ => true) true 32 v d p) : ∃ a : AcF, v = acV a := by
  obtain ⟨f0, f1, f2, f3, f4, hs, _⟩ := act_fieldsF
  obtain ⟨cs, rfl, hsz⟩ := okWide_struct hs hok
  obtain ⟨l⟩ := cs
  obtain ⟨fuel, hf⟩ := h
  have e0 : (Value.agg ⟨l⟩).cells.toList = l := by simp [Value.cells]
  rw [e0] at hf
  obtain ⟨hl, a, h0, h1, h2, h3, h4, _⟩ := ac_cells hf
  refine ⟨a, ?_⟩
  rw [ac_val]
  congr 1
  have : l = [.int .i64 a.k, .int .i64 a.a, .int .i64 a.n, .int .u8 (a.c.toNat : Int), .bool a.o] := by
    apply List.ext_getElem?
    intro i
    rcases i with _ | _ | _ | _ | _ | i
    · exact h0
    · exact h1
    · exact h2
    · exact h3
    · exact h4
    · rw [List.getElem?_eq_none (by omega), List.getElem?_eq_none (by simp)]
  rw [this]
theorem flatApart_walk {r : Reach} {b0 : Nat} (v0 : Value) (d0 : DataW H) (p0 : List MemPlace) (v1 : Value) (d1 : DataW H) (p1 : List MemPlace) (v2 : Value) (d2 : DataW H) (p2 : List MemPlace) (w : World)
    (hv0 : ∃ a len cap, v0 = .slice a len cap) (h0 : DataW.Trod enc Try.prog w 0 (fun _ => true) true 22 v0 d0 p0) (hv1 : ∃ a len cap, v1 = .slice a len cap) (h1 : DataW.Trod enc Try.prog w 0 (fun _ => true) true 22 v1 d1 p1) (hok : Value.okWide Try.prog w r b0 32 v2) (h2 : DataW.Trod enc Try.prog w 0 (fun _ => true) true 32 v2 d2 p2) :
    Calls Try.prog 6 #[v0, v1, v2] w fun e w' => e = .returned (.bool true) ∧ Below w.heap.size w w' := by
  obtain ⟨ao, cap, L, rfl, a1, a2, a3, a4⟩ := open_af hv0 h0
  obtain ⟨ao2, cap2, L2, rfl, c1, c2, c3, c4⟩ := open_af hv1 h1
  obtain ⟨a, rfl⟩ := open_act26 hok h2
  exact flatApart_any ao cap L ao2 cap2 L2 a w a3 (by omega) a4 c3 (by omega) c4
end
end Go.Proofs.Ytaemnelfnopjdaa
