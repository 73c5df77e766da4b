/- Package flat: Read. -/
import Derived.Test.YtaemnelfnopjdaaFaM
import Derived.Test.YtaemnelfnopjdaaFaN
namespace Go.Proofs.Ytaemnelfnopjdaa
open Go.RowKit Go.Deep Go.Maps
set_option linter.unusedVariables false
set_option linter.unusedSimpArgs false
def z48 : List UInt8 := List.replicate 48 0
/-- What always holds of a model. -/
structure FlOk (M : Fl) : Prop where
  n1 : 1 ≤ M.n
  n64 : M.n ≤ 64
  t48 : ∀ t ∈ M.T, t.length = 48
  tz : M.T.head? = some z48
  nd : M.T.Nodup
  f64 : ∀ f ∈ M.F, f.length = 64
  fe : ∀ f ∈ M.F, ∀ x ∈ f, x < M.T.length
  fz : ∀ f ∈ M.F, f.drop M.n = List.replicate (64 - M.n) 0
  ne : M.F ≠ []
  ch : ChOk M.n M.C
  ce : ∀ c ∈ M.C, ∀ x ∈ c.2, x < M.T.length
theorem spl_mem {s b : List Nat} {a x : Nat} (h : x ∈ spl s a b) : x ∈ s ∨ x ∈ b := by
  unfold spl at h
  rcases List.mem_append.1 h with h | h
  · exact Or.inl (List.mem_of_mem_take h)
  · rcases List.mem_append.1 h with h | h
    · exact Or.inr h
    · exact Or.inl (List.mem_of_mem_drop h)
theorem foldC_mem {N : Nat} : ∀ {C : List (Nat × List Nat)} {s : List Nat}, (∀ x ∈ s, x < N) → (∀ c ∈ C, ∀ x ∈ c.2, x < N) → ∀ x ∈ foldC C s, x < N
  | [], s, hs, _, x, hx => hs x hx
  | c :: C, s, hs, hc, x, hx => foldC_mem (C := C) (s := spl s c.1 c.2) (fun y hy => by
      rcases spl_mem hy with h | h
      · exact hs y h
      · exact hc c (by simp) y h) (fun d hd => hc d (by simp [hd])) x hx
def readBl (M : Fl) (a n : Nat) : List Nat := ((foldC M.C (M.F.headD [])).drop a).take n
def readOk (M : Fl) (a n : Nat) : Bool := M.F.all fun f => likeB (foldC M.C f) a (readBl M a n)
def readT (M : Fl) (a n : Nat) : List UInt8 := (readBl M a n).flatMap fun x => M.T.getD x []
/-- What Read tells. -/
def readR (M : Fl) (a n : Int) : Value := if refF M.n a n ≠ 0 then .tuple #[.string ⟨#[]⟩, .int .i64 (refF M.n a n)] else if readOk M a.toNat n.toNat = true then .tuple #[.string ⟨(readT M a.toNat n.toNat).toArray⟩, .int .i64 0] else .tuple #[.string ⟨#[]⟩, .int .i64 15]
theorem like_enter (args : Array Value) (w : World) : (callFunc 38 args).run Try.prog w = .ok (.enter 38 args) w := by go_simp
theorem strCells_app (l : List UInt8) (t : List UInt8) : Lib.byteCells l ++ Lib.strCells ⟨t.toArray⟩ = Lib.byteCells (l ++ t) := by
  unfold Lib.byteCells Lib.strCells
  simp
section
variable {w : World} {B g : Nat} {M : Fl} {OL CL : List Nat}
attribute [local irreducible] stA
set_option maxRecDepth 100000 in
set_option maxHeartbeats 8000000 in
theorem read_any (a n : Int) (h : FlW w B g OL CL M) (hok : FlOk M) (hn : n ≤ 9223372036854775807) (hCn : M.C.length ≤ 1000000) (hFn : M.F.length ≤ 2000000000) (hTn : M.T.length ≤ 1000000) : Calls Try.prog 20 #[.pointer (some ⟨g, 0, none⟩), .int .i64 a, .int .i64 n] w fun e w' => e = .returned (readR M a n) ∧ Below w.heap.size w w' := by
  have CR := Lib.hid (h.refused a n hok.n64 hn)
  have HRR : Hid (readR M a n = if refF M.n a n ≠ 0 then .tuple #[.string ⟨#[]⟩, .int .i64 (refF M.n a n)] else if readOk M a.toNat n.toNat = true then .tuple #[.string ⟨(readT M a.toNat n.toNat).toArray⟩, .int .i64 0] else .tuple #[.string ⟨#[]⟩, .int .i64 15]) := Lib.hid rfl
  by_cases hr0 : refF M.n a n = 0
  · as_aux_lemma =>
    rw [if_neg (by simpa using hr0)] at HRR
    obtain ⟨p1, p2, p3⟩ := refF_ok hr0
    rw [hr0] at CR
    obtain ⟨A, rfl⟩ : ∃ A : Nat, a = (A : Int) := ⟨a.toNat, by omega⟩
    obtain ⟨N, rfl⟩ : ∃ N : Nat, n = (N : Int) := ⟨n.toNat, by omega⟩
    rw [show ((A : Int)).toNat = A by omega, show ((N : Int)).toNat = N by omega] at HRR
    have hn64 := hok.n64
    have hAN : A + N ≤ 64 := by omega
    have hN1 : 1 ≤ N := by omega
    obtain ⟨vt, vf, vc, cm, bm, D, hfl, rfl, rfl⟩ := h
    have H := Lib.hid hfl
    have HOK := Lib.hid hok
    have hne := hok.ne
    obtain ⟨F0, FR, hFe⟩ : ∃ F0 FR, M.F = F0 :: FR := by
      cases hq : M.F with
      | nil => exact absurd hq hne
      | cons x r => exact ⟨x, r, rfl⟩
    have hF0 : 0 < M.F.length := by rw [hFe]; simp
    have hF0e : M.F[0] = F0 := by simp [hFe]
    have HF0M : Hid (F0 ∈ M.F) := Lib.hid (by rw [hFe]; simp)
    have hf064 : F0.length = 64 := hok.f64 F0 (by rw [hFe]; simp)
    obtain ⟨S0, hS0⟩ : ∃ S0, Hid (foldC M.C F0 = S0) := ⟨_, Lib.hid rfl⟩
    have HBL : Hid (readBl M A N = (S0.drop A).take N) := Lib.hid (by unfold readBl; rw [hFe, ← hS0.out]; rfl)
    obtain ⟨gf, cf, evf, hgfl, hrf⟩ := hfl.first hF0 hok.f64
    have hrf0 : w.rangeAt gf 0 (nC F0) := by rw [hF0e] at hrf; simpa using hrf
    have hS64 : S0.length = 64 := by rw [← hS0.out]; exact foldC_len hn64 hok.ch hf064
    have CN := Lib.hid (now_any F0 hfl hf064 hn64 hok.ch hCn)
    rw [hS0.out] at CN
    have c3 := cell_of_row w g 3 _ _ _ hfl.hg
    have hnca := stA_eq F0
    have hncl : (Try.prog.info? 56).map (·.size) = some (nC F0).length := by rw [nC_len, hf064]; exact info_st
    obtain ⟨fn, hfn⟩ : ∃ fn, Hid (M.F.length = fn) := ⟨_, Lib.hid rfl⟩
    rw [hfn.out] at evf hFn hF0
    subst evf
    have hf0i : (0 : Int) < (fn : Int) := by omega
    have hfni : ¬ ((fn : Int) = 0) := by omega
    have hinf0 := stA_info hS64
    have hone0 := stA_one S0
    have hl0 := lit_size hS64
    clear hfl hok hne hFe hF0 hF0e hrf hr0
    go_enter Try.func20, Try.ntmps20
    go_wp2_with fail
    refine CR.out.mono ?_
    rintro e w' ⟨rfl, rfl⟩
    clear CR
    go_wp2_with (refine wpList_load_mid rfl 56 _ rfl gf 0 rfl (nC F0) _ hrf0 Try.underlying56 rfl hncl ?_; rw [hnca])
    refine CN.out.mono ?_
    rintro e w2 ⟨rfl, b2⟩
    obtain ⟨w3, HW3, r3, b3, s3⟩ := st_stored w2 S0
    have HB3 := Lib.hid (b2.trans (b3.mono b2.size))
    have H3 := Lib.hid (H.out.below HB3.out)
    obtain ⟨g9, hg9⟩ : ∃ g9, Hid (w2.heap.size = g9) := ⟨_, Lib.hid rfl⟩
    rw [hg9.out] at r3
    have hwg9 : w.heap.size ≤ g9 := by rw [← hg9.out]; exact b2.size
    have c33 := cell_of_row w3 g 3 _ _ _ H3.out.hg
    clear CN b2 b3 c3 hrf0
    go_upto_region 5 with (refine wpList_store_row rfl _ _ _ rfl w2.heap.size (stA S0) rfl rfl 56 _ (heap_alloc_new _ _) hinf0 hl0 hone0 ?_)
    rw [HW3.out, hg9.out]
    clear HW3
    have h64 : ¬ 64 = A := by omega
    have hQ : IntKind.i64.wrap ((A : Int) + (N : Int)) = (A : Int) + (N : Int) := by rw [IntKind.wrap_i64]; omega
    have q1 : (A : Int) + (N : Int) ≤ 64 := by omega
    have q0 : (0 : Int) ≤ (A : Int) + (N : Int) := by omega
    have q2 : (A : Int) ≤ (A : Int) + (N : Int) := by omega
    have hg9l : g9 < w3.heap.size := (Array.getElem?_eq_some_iff.1 r3).1
    obtain ⟨BL, hBL⟩ : ∃ BL, Hid ((S0.drop A).take N = BL) := ⟨_, Lib.hid rfl⟩
    have hBLn : BL.length = N := by rw [← hBL.out, List.length_take, List.length_drop, hS64]; omega
    have hNA3 : NatAt w3 (some ⟨g9, A, none⟩) BL := fun hp => ⟨g9, A, rfl, hg9l, fun i hi => by
      have hAi : A + i < S0.length := by omega
      have := st_cell r3 hAi
      rw [this]
      have e : BL[i]? = some S0[A + i] := by
        rw [← hBL.out, List.getElem?_take, if_pos (by omega), List.getElem?_drop, List.getElem?_eq_getElem hAi]
      rw [List.getElem?_eq_getElem hi] at e
      rw [Option.some.inj e]⟩
    have HNA := Lib.hid hNA3
    have HNC : Hid (∀ i (hi : i < BL.length), w3.cell? ⟨g9, A + i, none⟩ = some (.int .i64 (BL[i] : Int))) := Lib.hid (fun i hi => by
      obtain ⟨g', o', ee, _, hc⟩ := hNA3 (by omega)
      cases ee
      exact hc i hi)
    have hBLN : BL.length = N := hBLn
    have HRO : Hid (readOk M A N = M.F.all fun f => likeB (foldC M.C f) A BL) := Lib.hid (by unfold readOk; rw [HBL.out, hBL.out])
    have HRT : Hid (readT M A N = BL.flatMap fun x => M.T.getD x []) := Lib.hid (by unfold readT; rw [HBL.out, hBL.out])
    have HBLE : Hid (∀ i (hi : i < BL.length), BL[i] < M.T.length) := Lib.hid (fun i hi => by
      have h1 : BL[i] ∈ S0 := by
        have h0 := List.getElem_mem hi
        have h2 : BL[i] ∈ (S0.drop A).take N := by rw [hBL.out]; exact h0
        exact List.mem_of_mem_drop (List.mem_of_mem_take h2)
      rw [← hS0.out] at h1
      exact foldC_mem (HOK.out.fe F0 HF0M.out) HOK.out.ce _ h1)
    have HR3 := Lib.hid r3
    have HBL0 : Hid (Below w3.heap.size w3 w3) := Lib.hid (Below.refl _ _)
    have hent := like_enter
    clear HBL hNA3 r3 hBL hS0 hinf0 hone0 hl0 s3
    go_upto_region 7 with fail
    rw [show A + N - A = N by omega]
    go_loopw [42] (fun s42 wi => ∃ i : Nat, s42 = .int .i64 (i : Int) ∧ i ≤ fn ∧ Hid (∀ j (hj : j < M.F.length), j < i → likeB (foldC M.C M.F[j]) A BL = true) ∧ Hid (Below w3.heap.size w3 wi)) (fun s42 _ => fn - (intOf s42).toNat)
    case atStart => exact ⟨0, rfl, by omega, Lib.hid (fun j _ h => absurd h (by omega)), HBL0⟩
    case round =>
      obtain ⟨i, rfl, hi, HE, HB⟩ := hrel
      clear HBL0 c33
      by_cases hlt : i < fn
      · as_aux_lemma =>
        have hli : (i : Int) < (fn : Int) := by omega
        have h0i : (0 : Int) ≤ (i : Int) := by omega
        have hiF : i < M.F.length := by rw [hfn.out]; exact hlt
        have Hi := Lib.hid (H3.out.below HB.out)
        obtain ⟨gf', cf', e9, hgf, hrg⟩ := Hi.out.first hiF HOK.out.f64
        rw [hfn.out] at e9
        injection e9 with e1 _ e3
        injection e1 with e1
        injection e1 with e1
        subst e1 e3
        have hfl := HOK.out.f64 _ (List.getElem_mem hiF)
        obtain ⟨f, hf⟩ : ∃ f, Hid (M.F[i] = f) := ⟨_, Lib.hid rfl⟩
        have HNX : Hid (∀ R, likeB (foldC M.C f) A BL = R → (R = true → ∀ j (hj : j < M.F.length), j < i + 1 → likeB (foldC M.C M.F[j]) A BL = true) ∧ (R = false → (M.F.all fun f => likeB (foldC M.C f) A BL) = false)) := Lib.hid (fun R hR => ⟨fun e j hj h => by
            by_cases ej : j = i
            · subst ej; rw [hf.out, hR, e]
            · exact HE.out j hj (by omega), fun e => by
            rw [List.all_eq_false]
            exact ⟨M.F[i], List.getElem_mem hiF, by rw [hf.out, hR, e]; simp⟩⟩)
        rw [hf.out] at hfl hrg
        obtain ⟨w4, HW4, r4, b4, s4⟩ := st_stored wr f
        have hw3r := HB.out.size
        have BW4 := Lib.hid (HB.out.trans (b4.mono hw3r))
        have H4 := Lib.hid (H3.out.below BW4.out)
        have CN := Lib.hid (now_any f H4.out hfl hn64 HOK.out.ch hCn)
        have hnl := foldC_len hn64 HOK.out.ch hfl
        have hinf := stA_info hfl
        have hone := stA_one f
        have hlsz := lit_size hfl
        have hnca := stA_eq f
        have hncl : (Try.prog.info? 56).map (·.size) = some (nC f).length := by rw [nC_len, hfl]; exact info_st
        obtain ⟨gx, hgx⟩ : ∃ gx, Hid (wr.heap.size = gx) := ⟨_, Lib.hid rfl⟩
        have r4' := r4
        rw [hgx.out] at r4'
        have c3i := cell_of_row wr g 3 _ _ _ Hi.out.hg
        clear HE r4 s4
        go_upto_region 9 with (first | (refine wpList_load_mid rfl 56 _ rfl gf (i * 64) rfl (nC f) _ hrg Try.underlying56 rfl hncl ?_; rw [hnca]) | (refine wpList_store_row rfl _ _ _ rfl wr.heap.size (stA f) rfl rfl 56 _ (heap_alloc_new _ _) hinf hlsz hone ?_))
        rw [HW4.out, hgx.out]
        clear HW4 b4 hrg hlsz Hi c3i
        go_wp2_with (refine wpList_load_row rfl _ _ rfl gx rfl 56 (stA f) (0, 0) _ r4' Try.underlying56 rfl hinf ?_)
        refine CN.out.mono ?_
        rintro e w5 ⟨rfl, b5⟩
        have BW5 := Lib.hid (BW4.out.trans (b5.mono BW4.out.size))
        have CS := Lib.hid (like_any (foldC M.C f) BL A (some ⟨g9, A, none⟩) (64 - A) w5 hnl (HNA.out.below BW5.out) (by rw [hBLN]; exact hAN))
        rw [hBLN] at CS
        obtain ⟨R, hR⟩ : ∃ R, likeB (foldC M.C f) A BL = R := ⟨_, rfl⟩
        rw [hR] at CS
        obtain ⟨hy, hno⟩ := HNX.out R hR
        have HY := Lib.hid hy
        have HNO := Lib.hid hno
        have hw35 := BW5.out.size
        generalize stA (foldC M.C f) = SX at *
        clear CN b5 r4' hR hnl HNX hy hno
        go_wp2_with fail
        refine CS.out.mono ?_
        rintro e w6 ⟨rfl, b6⟩
        have BW6 := Lib.hid (BW5.out.trans (b6.mono hw35))
        clear CS b6
        cases R with
        | true =>
          as_aux_lemma =>
          have HE2 := Lib.hid (HY.out rfl)
          go_wp2_with fail
          go_roundw
          case rel => exact ⟨i + 1, by go_num, by omega, HE2, BW6⟩
          case measure => simp [intOf]; omega
        | false =>
          as_aux_lemma =>
          have hF : readOk M A N = false := by rw [HRO.out]; exact HNO.out rfl
          have HEND := Lib.hid (HB3.out.trans (BW6.out.mono HB3.out.size))
          rw [hF] at HRR
          go_wp2_with fail
          go_ret2
          exact ⟨by rw [HRR.out]; rfl, HEND.out⟩
      · as_aux_lemma =>
        have hli : ¬ (i : Int) < (fn : Int) := by omega
        obtain rfl : i = fn := by omega
        have hOK : readOk M A N = true := by
          rw [HRO.out, List.all_eq_true]
          intro f hf
          obtain ⟨j, hj, rfl⟩ := List.getElem_of_mem hf
          exact HE.out j hj (by have := hfn.out; omega)
        rw [hOK, if_pos rfl, HRT.out] at HRR
        have HBW := Lib.hid (HB3.out.trans (HB.out.mono HB3.out.size))
        have hwb := HBW.out.size
        obtain ⟨w4, hw4⟩ : ∃ w4, wr.alloc (.cells #[.pointer none, .slice none 0 0] 80) = w4 := ⟨_, rfl⟩
        have b4 : Below wr.heap.size wr w4 := by rw [← hw4]; exact (Below.refl _ _).alloc (Nat.le_refl _) _
        have r4 : w4.heap[wr.heap.size]? = some (.cells #[.pointer none, .slice none 0 0] 80 (0, 0)) := by rw [← hw4]; exact heap_alloc_new _ _
        obtain ⟨gb, hgb⟩ : ∃ gb, Hid (wr.heap.size = gb) := ⟨_, Lib.hid rfl⟩
        rw [hgb.out] at r4 b4
        have hgb3 : w3.heap.size ≤ gb := by rw [← hgb.out]; exact HB.out.size
        have hgbw : w.heap.size ≤ gb := by rw [← hgb.out]; exact hwb
        have HBD : Hid (Lib.IsBuilder 80 5 gb gb (Lib.byteCells ((BL.take 0).flatMap fun x => M.T.getD x [])) w4) := Lib.hid (Or.inl ⟨Nat.le_refl _, .slice none 0 0, r4, World.ownsRow_nil _ _ _ _, by simp [Value.ownBlock]⟩)
        have HB34 : Hid (Below w3.heap.size w3 w4) := Lib.hid (HB.out.trans (b4.mono hgb3))
        have HBW4 : Hid (Below w.heap.size w w4) := Lib.hid (HBW.out.trans (b4.mono hgbw))
        have hgb4 : gb < w4.heap.size := (Array.getElem?_eq_some_iff.1 r4).1
        have HW4 := Lib.hid hw4
        have HLEN : Hid (∀ i, ((BL.take i).flatMap fun x => M.T.getD x []).length ≤ 48 * i) := Lib.hid (fun i => by
          have : ∀ l : List Nat, (l.flatMap fun x => M.T.getD x []).length ≤ 48 * l.length := fun l => by
            induction l with
            | nil => simp
            | cons x r ih =>
              rw [List.flatMap_cons, List.length_append, List.length_cons]
              have : (M.T.getD x []).length ≤ 48 := by
                rw [List.getD_eq_getElem?_getD]
                cases hx : M.T[x]? with
                | none => simp
                | some t => exact Nat.le_of_eq (HOK.out.t48 t (List.mem_of_getElem? hx))
              omega
          have h1 := this (BL.take i)
          have h2 : (BL.take i).length ≤ i := by rw [List.length_take]; omega
          have h3 : 48 * (BL.take i).length ≤ 48 * i := Nat.mul_le_mul_left _ h2
          omega)
        have HSTEP : Hid (∀ i (hi : i < BL.length), (BL.take (i + 1)).flatMap (fun x => M.T.getD x []) = (BL.take i).flatMap (fun x => M.T.getD x []) ++ M.T.getD BL[i] []) := Lib.hid (fun i hi => by rw [← List.take_append_getElem hi, List.flatMap_append]; simp)
        have HEQ : Hid (BL.flatMap (fun x => M.T.getD x []) = (BL.take N).flatMap fun x => M.T.getD x []) := Lib.hid (by rw [List.take_of_length_le (by omega)])
        rw [HEQ.out] at HRR
        obtain ⟨TX, hTX⟩ : ∃ TX : Nat → List UInt8, Hid (∀ i, ((BL.take i).flatMap fun x => M.T.getD x []) = TX i) := ⟨_, Lib.hid (fun i => rfl)⟩
        simp only [hTX.out] at HBD HLEN HSTEP HRR
        obtain ⟨ta, tc, evt⟩ := own_slF H3.out.ht
        subst evt
        clear hw4 b4 r4 HE HB HBW hwb HEQ hTX HRO HRT hOK
        go_upto_region 14 with fail
        rw [HW4.out, hgb.out]
        clear HW4
        go_wp2_with fail
        go_loopw [58] (fun s58 wi => ∃ i : Nat, s58 = .int .i64 (i : Int) ∧ i ≤ N ∧ Hid (Lib.IsBuilder 80 5 gb gb (Lib.byteCells (TX i)) wi) ∧ Hid (Below w3.heap.size w3 wi) ∧ Hid (Below w.heap.size w wi) ∧ gb < wi.heap.size) (fun s58 _ => N - (intOf s58).toNat)
        case atStart => exact ⟨0, rfl, by omega, HBD, HB34, HBW4, hgb4⟩
        case round =>
          obtain ⟨j, rfl, hj, HBD, HBj, HBWj, hgbj⟩ := hrel
          by_cases hlj : j < N
          · as_aux_lemma =>
            have hlji : (j : Int) < (N : Int) := by omega
            have h0j : (0 : Int) ≤ (j : Int) := by omega
            have hjB : j < BL.length := by omega
            have Hj := Lib.hid (H3.out.below HBj.out)
            have hcb := (HBj.out.cell (p := ⟨g9, A + j, none⟩) hg9l).trans (HNC.out j hjB)
            have hxT := HBLE.out j hjB
            have hst := HSTEP.out j hjB
            obtain ⟨x, hx⟩ : ∃ x, Hid (BL[j] = x) := ⟨_, Lib.hid rfl⟩
            rw [hx.out] at hcb hxT hst
            obtain ⟨gt, ct, et, _, _, hgtl, hrt⟩ := own_rowG Hj.out.ht (by omega)
            obtain ⟨tn, htn⟩ : ∃ tn, Hid (M.T.length = tn) := ⟨_, Lib.hid rfl⟩
            have hct := hrt x (.string ⟨(M.T[x]).toArray⟩) (by rw [List.getElem?_map, List.getElem?_eq_getElem hxT]; rfl)
            rw [Nat.zero_add] at hct
            have hgd : M.T.getD x [] = M.T[x] := by rw [List.getD_eq_getElem?_getD, List.getElem?_eq_getElem hxT]; rfl
            rw [hgd] at hst
            have ht48 := HOK.out.t48 _ (List.getElem_mem hxT)
            obtain ⟨tx, htx⟩ : ∃ tx, Hid (M.T[x] = tx) := ⟨_, Lib.hid rfl⟩
            rw [htx.out] at hct hst ht48
            rw [htn.out] at et hxT hTn
            injection et with e1 _ e3
            subst e1 e3
            have hxi : (x : Int) < (tn : Int) := by omega
            have hx0 : (0 : Int) ≤ (x : Int) := by omega
            have hlx := HLEN.out j
            have CW := Lib.hid (bld_write gb gb (Lib.byteCells (TX j)) ⟨tx.toArray⟩ wr HBD.out (by rw [bytes_size, ht48]; unfold Lib.byteCells; rw [List.length_map]; omega) (Nat.le_of_lt hgbj))
            rw [strCells_app, ← hst] at CW
            have c1j := cell_of_row wr g 1 _ _ _ Hj.out.hg
            obtain ⟨sx, hsx⟩ : ∃ sx, (⟨tx.toArray⟩ : ByteArray) = sx := ⟨_, rfl⟩
            rw [hsx] at CW hct
            rw [htn.out] at c1j
            clear hst hrt hgd Hj HBD hsx
            go_wp2_with fail
            refine CW.out.mono ?_
            rintro e w6 ⟨rfl, hb6, b6⟩
            have HBD6 : Hid (Lib.IsBuilder 80 5 gb gb (Lib.byteCells (TX (j + 1))) w6) := Lib.hid (Or.inr hb6)
            have BJ6 := Lib.hid (HBj.out.trans (b6.mono hgb3))
            have BW6 := Lib.hid (HBWj.out.trans (b6.mono hgbw))
            have hgb6 := Nat.lt_of_lt_of_le hgbj b6.size
            clear hb6 b6 CW c1j hct hcb
            go_wp2_with fail
            go_roundw
            case rel => exact ⟨j + 1, by go_num, by omega, HBD6, BJ6, BW6, hgb6⟩
            case measure => simp [intOf]; omega
          · as_aux_lemma =>
            have hlji : ¬ (j : Int) < (N : Int) := by omega
            obtain rfl : j = N := by omega
            have CS := Lib.hid (Try.Builder_String_any gb gb (TX j) wr HBD.out (Nat.le_of_lt hgbj))
            go_wp2_with fail
            refine CS.out.mono ?_
            rintro e w6 ⟨rfl, b6⟩
            have HEND := Lib.hid (HBWj.out.trans (b6.mono hgbw))
            clear CS b6
            go_wp2_with fail
            go_ret2
            exact ⟨by rw [HRR.out]; rfl, HEND.out⟩
  · as_aux_lemma =>
    rw [if_pos hr0] at HRR
    have hr0' : (refF M.n a n == 0) = false := by simpa using hr0
    generalize refF M.n a n = r at *
    clear hr0 h hok
    go_enter Try.func20, Try.ntmps20
    go_wp2_with fail
    refine CR.out.mono ?_
    rintro e w' ⟨rfl, rfl⟩
    clear CR
    have hr1 : (r != 0) = true := by simp [bne, hr0']
    go_wp2_with fail
    go_ret2
    exact ⟨by rw [HRR.out]; rfl, Below.refl _ _⟩
end
end Go.Proofs.Ytaemnelfnopjdaa
