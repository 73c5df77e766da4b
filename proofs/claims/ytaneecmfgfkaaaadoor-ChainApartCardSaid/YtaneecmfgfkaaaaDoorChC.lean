/- Contracts (cellaret): chain.Along. -/
import Derived.Test.YtaneecmfgfkaaaaDoorChB
namespace Go.Proofs.YtaneecmfgfkaaaaDoor
open Go.RowKit Go.Deep Go.Maps
set_option linter.unusedVariables false
set_option linter.unusedSimpArgs false
/-- Texts in a block below B that is not the oracle's. -/
def TxtB (B : Nat) (w : World) (X : Option OrS) (a : Option Addr) (L : List ByteArray) : Prop := 0 < L.length → ∃ g o, a = some ⟨g, o, none⟩ ∧ g < B ∧ FreeX X g ∧ ∀ i (h : i < L.length), w.cell? ⟨g, o + i, none⟩ = some (.string L[i])
def RowsB (B : Nat) (w : World) (X : Option OrS) (lr : Option Addr) (R : List (List ByteArray)) : Prop := 0 < R.length → ∃ g o, lr = some ⟨g, o, none⟩ ∧ g < B ∧ FreeX X g ∧ ∀ i (h : i < R.length), ∃ la c, w.cell? ⟨g, o + i, none⟩ = some (.slice la (R[i]).length c) ∧ (R[i]).length ≤ c ∧ (R[i]).length ≤ 9223372036854775807 ∧ TxtB B w X la R[i]
theorem TxtB.kept {B : Nat} {w w' : World} {X X' : Option OrS} {a : Option Addr} {L : List ByteArray} (h : TxtB B w X a L) (hB : B ≤ w.heap.size) (hk : KeptX w w' X X') : TxtB B w' X' a L := fun h0 => by
  obtain ⟨g, o, h1, h2, h3, h4⟩ := h h0
  exact ⟨g, o, h1, h2, hk.free g (Nat.lt_of_lt_of_le h2 hB) h3, fun i hi => hk.cell (p := ⟨g, o + i, none⟩) (h4 i hi) h3⟩
theorem RowsB.kept {B : Nat} {w w' : World} {X X' : Option OrS} {lr : Option Addr} {R : List (List ByteArray)} (h : RowsB B w X lr R) (hB : B ≤ w.heap.size) (hk : KeptX w w' X X') : RowsB B w' X' lr R := fun h0 => by
  obtain ⟨g, o, h1, h2, h3, h4⟩ := h h0
  refine ⟨g, o, h1, h2, hk.free g (Nat.lt_of_lt_of_le h2 hB) h3, fun i hi => ?_⟩
  obtain ⟨la, c, q1, q2, q3, q4⟩ := h4 i hi
  exact ⟨la, c, hk.cell (p := ⟨g, o + i, none⟩) q1 h3, q2, q3, q4.kept hB hk⟩
theorem TxtB.n {B A : Nat} {w : World} {X : Option OrS} {a : Option Addr} {L : List ByteArray} (h : TxtB B w X a L) (hB : B ≤ w.heap.size) (hA : B ≤ A) : TxtN A w X a L := fun h0 => by
  obtain ⟨g, o, h1, h2, h3, h4⟩ := h h0
  exact ⟨g, o, h1, by omega, h3, by omega, h4⟩
/-- The anchor behind the first k rows; what was summed for it. -/
def alL (a : List UInt8) (R : List (List ByteArray)) : Nat → List UInt8
  | 0 => a
  | k + 1 => nextL (alL a R k) (R[k]?.getD [])
def alT (a : List UInt8) (R : List (List ByteArray)) : Nat → List (List UInt8)
  | 0 => []
  | k + 1 => alT a R k ++ [nextT (alL a R k) (R[k]?.getD [])]
theorem alL_len (a : List UInt8) (R : List (List ByteArray)) (h : a.length = 32) : ∀ k, (alL a R k).length = 32
  | 0 => h
  | k + 1 => nextL_len _ _
theorem alT_len (a : List UInt8) (R : List (List ByteArray)) : ∀ k, (alT a R k).length = k
  | 0 => rfl
  | k + 1 => by show (alT a R k ++ [_]).length = _; rw [List.length_append, alT_len a R k]; rfl
structure AlI (base : Nat) (w : World) (X : Option OrS) (o : Option Addr) (a : List UInt8) (R : List (List ByteArray)) (b : Nat) (wi : World) (k : Nat) (Xk : Option OrS) : Prop where
  f4 : wi.heap[b]? = some (.cells (digA (alL a R k)) 34 (0, 0))
  f6 : wi.heap[b + 1]? = some (.cells z32 34 (0, 0))
  fo : wi.cell? ⟨b + 2, 0, none⟩ = some (.pointer o)
  fa : wi.heap[b + 3]? = some (.cells (digA (alL a R k)) 34 (0, 0))
  hx : OrX base wi o Xk
  st : SumsX X Xk (alT a R k)
  bel : Below base w wi
  kp : KeptX w wi X Xk
  fr : ∀ j, j < 4 → FreeX Xk (b + j)
theorem AlI.step {base : Nat} {w : World} {X : Option OrS} {o : Option Addr} {a : List UInt8} {R : List (List ByteArray)} {b : Nat} {wi : World} {k : Nat} {Xk : Option OrS} (h : AlI base w X o a R b wi k Xk) (hb : b = w.heap.size) (hbb : base ≤ b) {w' : World} {X' : Option OrS} {x : List ByteArray} (hxk : R[k]?.getD [] = x)
    (hA : w'.heap[b + 3]? = some (.cells (digA (nextL (alL a R k) x)) 34 (0, 0))) (hX : OrX base w' o X') (hs : SumX Xk X' (nextT (alL a R k) x)) (hB : Below base wi w') (hK : KeptA (b + 3) wi w' Xk X') : AlI base w X o a R b (w'.setRow b (digA (alL a R (k + 1)))) (k + 1) X' := by
  have e1 : alL a R (k + 1) = nextL (alL a R k) x := by show nextL _ _ = _; rw [hxk]
  have e2 : alT a R (k + 1) = alT a R k ++ [nextT (alL a R k) x] := by show _ ++ [_] = _; rw [hxk]
  have l4 := (Array.getElem?_eq_some_iff.1 h.f4).1
  have l6 := (Array.getElem?_eq_some_iff.1 h.f6).1
  have lo := block_lt_of_cell h.fo
  have la := (Array.getElem?_eq_some_iff.1 h.fa).1
  have hfr : ∀ j, j < 4 → FreeX X' (b + j) := fun j hj => hK.free _ (by have : b + 3 < wi.heap.size := la; omega) (h.fr j hj)
  have h4' := hK.keep _ _ h.f4 (h.fr 0 (by omega)) (by omega)
  refine ⟨?_, ?_, ?_, ?_, hX.row b _ (hfr 0 (by omega)), by rw [e2]; exact h.st.snoc hs, below_setRow (h.bel.trans hB) hbb _, ?_, hfr⟩
  · exact setRow_heap w' b _ _ 34 (0, 0) h4'
  · exact (setRow_other w' b (b + 1) _ (by omega)).trans (hK.keep _ _ h.f6 (h.fr 1 (by omega)) (by omega))
  · have := hK.cell h.fo (h.fr 2 (by omega)) (by show b + 2 ≠ b + 3; omega)
    exact (cell_setRow_other _ _ _ _ (by show b + 2 ≠ b; omega)).trans this
  · rw [e1]
    exact (setRow_other w' b (b + 3) _ (by omega)).trans hA
  · have hkx : KeptX w w' X X' := by
      refine ⟨fun j ob hj hf => ?_, fun j hj hf => hK.free j (Nat.lt_of_lt_of_le hj h.kp.size) (h.kp.free j hj hf), Nat.le_trans h.kp.size hK.size⟩
      have hlt := (Array.getElem?_eq_some_iff.1 hj).1
      exact hK.keep j ob (h.kp.keep j ob hj hf) (h.kp.free j hlt hf) (by omega)
    exact hkx.row b _ (by omega)
attribute [local irreducible] digA sumL z32 alL alT
set_option maxRecDepth 100000 in
set_option maxHeartbeats 4000000 in
theorem along_any (base : Nat) (o : Option Addr) (X : Option OrS) (a : List UInt8) (R : List (List ByteArray)) (lr : Option Addr) (m c : Nat) (w : World) (hG : Gl w) (hbf : 0 < base) (hbk : 1 < base) (hX : OrX base w o X) (hF : FewX X 1000) (ha : a.length = 32)
    (hm : R.length = m) (hm2 : m ≤ 100000) (hok : ∀ i (h : i < R.length), okB R[i] = true) (hR : RowsB w.heap.size w X lr R) :
    Calls Tryd.prog 21 #[.pointer o, .agg (digA a), .slice lr m c] w fun e w' => ∃ X', e = .returned (.tuple #[.agg (digA (alL a R m)), .int .i64 0]) ∧ OrX base w' o X' ∧ SumsX X X' (alT a R m) ∧ Below base w w' ∧ KeptX w w' X X' := by
  have hz := zero_dig
  have hbw := hX.base
  have hsz : ∀ k, (digA (alL a R k)).size = 32 := fun k => by with_unfolding_all (rw [digA_size, alL_len a R ha])
  have hone : ∀ k, (digA (alL a R k)).all (·.oneCell') = true := fun k => by with_unfolding_all exact digA_one _
  have ha0 : alL a R 0 = a := by with_unfolding_all rfl
  have hT0 : alT a R 0 = [] := by with_unfolding_all rfl
  have HSZ := Lib.hid hsz
  have HONE := Lib.hid hone
  have HOK := Lib.hid hok
  have HM := Lib.hid hm
  have HFX := Lib.hid hF
  have HAL := Lib.hid (alL_len a R ha)
  have HTL := Lib.hid (alT_len a R)
  have HRW := Lib.hid hR
  have HX0 := Lib.hid hX
  have HA0 := Lib.hid ha0
  have HT0 := Lib.hid hT0
  rw [← ha0]
  clear hsz hone hok hm hF hR hX ha0 hT0 ha
  have HA0' : Hid (alL (alL a R 0) R = alL a R ∧ alT (alL a R 0) R = alT a R) := Lib.hid (by rw [HA0.out]; exact ⟨rfl, rfl⟩)
  rw [HA0'.out.1, HA0'.out.2]
  clear HA0'
  generalize hD0 : digA (alL a R 0) = D0 at *
  have HD0 := Lib.hid hD0
  clear hD0
  obtain ⟨w2, HW2, h4, h6, B2, hs2⟩ : ∃ w2, Hid ((w.alloc (.cells D0 34)).alloc (.cells z32 34) = w2) ∧ w2.heap[w.heap.size]? = some (.cells D0 34 (0, 0)) ∧ w2.heap[w.heap.size + 1]? = some (.cells z32 34 (0, 0)) ∧ Below w.heap.size w w2 ∧ w2.heap.size = w.heap.size + 2 := by
    have h1 := heap_alloc_new w (.cells D0 34)
    have b1 := (Below.refl w.heap.size w).alloc (Nat.le_refl _) (.cells D0 34)
    generalize hw1 : w.alloc (.cells D0 34) = w1 at *
    have s1 : w1.heap.size = w.heap.size + 1 := by rw [← hw1]; simp
    have b2 := (Below.refl w1.heap.size w1).alloc (Nat.le_refl _) (.cells z32 34)
    have h2 := heap_alloc_new w1 (.cells z32 34)
    refine ⟨_, Lib.hid rfl, (b2.block _ (by omega)).trans h1, by rw [← s1]; exact h2, b1.trans (b2.mono (by omega)), by simp [s1]⟩
  go_enter Tryd.func21, Tryd.ntmps21
  go_upto_region 1 with fail
  rw [HW2.out]
  clear HW2
  have HS2 := Lib.hid hs2
  clear hs2
  have K2 := Lib.hid (KeptX.below (X := X) B2)
  go_wp2_with fail
  go_loop [16] (fun x => ∃ k : Nat, x = .int .i64 (k : Int) ∧ k ≤ m) (fun x => m - (intOf x).toNat)
  case atStart => exact ⟨0, rfl, by omega⟩
  case round =>
    obtain ⟨k, rfl, hk⟩ := hrel
    by_cases hlt : k < m
    · as_aux_lemma =>
      have hkR : k < R.length := by rw [HM.out]; exact hlt
      have hR2 := HRW.out.kept (Nat.le_refl _) K2.out
      obtain ⟨g, oo, rfl, hg, hgf, hc⟩ := hR2 (by omega)
      obtain ⟨la, cc, q1, q2, q3, q4⟩ := hc k hkR
      have hli : (k : Int) < (m : Int) := by omega
      have hT : Hid (0 < (R[k]).length → ∃ g o, la = some ⟨g, o, none⟩ ∧ ∀ i (h : i < (R[k]).length), w2.cell? ⟨g, o + i, none⟩ = some (.string (R[k])[i])) := Lib.hid (fun h0 => by
        obtain ⟨g, o, e1, _, _, e2⟩ := q4 h0
        exact ⟨g, o, e1, e2⟩)
      have HER : Hid (erB R[k] = 0) := Lib.hid (by unfold erB; rw [if_pos (HOK.out k hkR)])
      have HC2 := Lib.hid (check_any R[k] la (R[k]).length cc w2 rfl q3 hT)
      rw [HER.out] at HC2
      clear hc q4 hT HER hR2
      generalize (R[k]'hkR).length = nn at *
      go_wp2_with fail
      refine HC2.out.mono ?_
      rintro e w' ⟨rfl, rfl⟩
      go_wp2_with fail
      go_round
      case rel => exact ⟨k + 1, by go_num, by omega⟩
      case measure => simp [intOf]; omega
    · as_aux_lemma =>
      obtain rfl : k = m := by omega
      have hd4 := HSZ.out 0
      rw [HD0.out] at hd4
      go_wp2_with (refine wpList_load_row rfl _ _ rfl w.heap.size rfl 34 D0 (0, 0) _ h4 Tryd.underlying34 rfl (by rw [hd4]; kernel_rfl) ?_)
      refine (gatherer_any o D0 w2).mono ?_
      rintro e w3 ⟨rfl, c3, a3, b3, hs3⟩
      rw [HS2.out] at c3 a3 hs3 ⊢
      have B3 := B2.trans (b3.mono B2.size)
      have f4 := (b3.block w.heap.size (by rw [HS2.out]; omega)).trans h4
      have f6 := (b3.block (w.heap.size + 1) (by rw [HS2.out]; omega)).trans h6
      have HFR : ∀ j, j < 4 → FreeX X (w.heap.size + j) := fun j _ => HX0.out.free _ (by omega)
      have HI0 : Hid (AlI base w X o a R w.heap.size w3 0 X) := Lib.hid ⟨by rw [HD0.out]; exact f4, f6, c3, by rw [HD0.out]; exact a3, HX0.out.below B3, by rw [HT0.out]; exact SumsX.refl X, B3.mono hbw, KeptX.below B3, HFR⟩
      have HK3 := Lib.hid (HRW.out.kept (Nat.le_refl _) (KeptX.below (X := X) B3))
      clear c3 a3 hs3 f4 f6 h4 h6 b3 B2 K2 HFR
      generalize hb : w.heap.size = b at *
      have HB := Lib.hid hb
      clear hb
      go_wp2_with fail
      go_loopw [32] (fun x wi => ∃ (i : Nat) (Xi : Option OrS), x = .int .i64 (i : Int) ∧ i ≤ k ∧ Hid (AlI base w X o a R b wi i Xi)) (fun x _ => k - (intOf x).toNat)
      case atStart => exact ⟨0, X, rfl, by omega, HI0⟩
      clear HI0
      case round =>
        obtain ⟨i, Xi, rfl, hi, HI⟩ := hrel
        by_cases hlt2 : i < k
        · as_aux_lemma =>
          have hiR : i < R.length := by rw [HM.out]; exact hlt2
          have hRi := HRW.out.kept (by rw [HB.out]; exact Nat.le_refl _) HI.out.kp
          obtain ⟨g, oo, rfl, hg, hgf, hc⟩ := hRi (by omega)
          obtain ⟨la, cc, q1, q2, q3, q4⟩ := hc i hiR
          have hli : (i : Int) < (k : Int) := by omega
          have hwb : b ≤ wr.heap.size := by rw [← HB.out]; exact HI.out.kp.size
          have HGA := Lib.hid (gath_any base o Xi (alL a R i) R[i] la (R[i]).length cc (b + 2) (b + 3) wr (Gl.at_ hG HI.out.bel hbf hbk) hbf hbk HI.out.hx ((HI.out.st.few HFX.out).mono (by rw [HTL.out]; omega)) (HAL.out i) rfl q2 (HOK.out i hiR) (q4.n hwb (by omega)) HI.out.fa (HI.out.fr 3 (by omega)) (by omega) HI.out.fo (HI.out.fr 2 (by omega)))
          have HXK : Hid (R[i]?.getD [] = R[i]) := Lib.hid (by rw [List.getElem?_eq_getElem hiR]; rfl)
          have HSTP := Lib.hid (fun w' X' => @AlI.step base w X o a R b wr i Xi HI.out HB.out.symm hbw w' X' R[i] HXK.out)
          have HE1 : Hid (alL a R (i + 1) = nextL (alL a R i) R[i]) := Lib.hid (by with_unfolding_all (show nextL _ (R[i]?.getD []) = _); rw [HXK.out])
          have hszn := HSZ.out (i + 1)
          have honen := HONE.out (i + 1)
          have hszi := HSZ.out i
          have f4 := HI.out.f4
          have fr0 := HI.out.fr 0 (by omega)
          rw [← HE1.out] at HGA HSTP
          have HHK := Lib.hid (fun w' X' (hK : KeptA (b + 3) wr w' Xi X') => hK.keep _ _ f4 fr0 (by omega))
          clear hc q4 HXK HE1 HI f4 fr0 hRi
          generalize digA (alL a R (i + 1)) = DN at *
          generalize digA (alL a R i) = DI at *
          generalize (R[i]'hiR).length = nn at *
          go_wp2_with fail
          refine HGA.out.mono ?_
          rintro e w' ⟨X', rfl, hA', hX', hS', hB', hK'⟩
          have f4' := HHK.out w' X' hK'
          have HN := Lib.hid (HSTP.out w' X' hA' hX' hS' hB' hK')
          clear hA' hX' hS' hB' hK' HSTP HGA HHK
          go_wp2_with (refine wpList_store_row rfl _ _ _ rfl b DN rfl rfl 34 _ f4' (by rw [hszn]; kernel_rfl) (by rw [hszn, hszi]) honen ?_)
          go_roundw
          case rel => exact ⟨i + 1, X', by go_num, by omega, HN⟩
          case measure => simp [intOf]; omega
        · as_aux_lemma =>
          obtain rfl : i = k := by omega
          have f4 := HI.out.f4
          have f6 := HI.out.f6
          have hszn := HSZ.out i
          have honen := HONE.out i
          have hx := HI.out.hx
          have fr1 := HI.out.fr 1 (by omega)
          obtain ⟨DN, HDN⟩ : ∃ DN, Hid (digA (alL a R i) = DN) := ⟨_, Lib.hid rfl⟩
          rw [HDN.out] at f4 hszn honen
          go_wp2_with (first | (refine wpList_load_row rfl _ _ rfl b rfl 34 DN (0, 0) _ f4 Tryd.underlying34 rfl (by rw [hszn]; kernel_rfl) ?_) | (refine wpList_store_row rfl _ _ _ rfl (b + 1) DN rfl rfl 34 _ f6 (by rw [hszn]; kernel_rfl) (by rw [hszn]; with_unfolding_all rfl) honen ?_))
          refine bodyPost_ret_by (results_ct rfl _ _ (b + 1) 34 DN (0, 0) _ rfl (setRow_heap _ _ _ DN 34 (0, 0) f6) Tryd.underlying34 rfl (by rw [hszn]; kernel_rfl)) rfl ⟨Xi, by rw [HDN.out]; rfl, hx.row _ _ fr1, HI.out.st, below_setRow HI.out.bel (by omega) _, HI.out.kp.row _ _ (by rw [HB.out]; omega)⟩
end Go.Proofs.YtaneecmfgfkaaaaDoor
