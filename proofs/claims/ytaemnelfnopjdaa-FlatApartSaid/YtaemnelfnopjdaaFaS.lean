/- Package flat: Crash. -/
import Derived.Test.YtaemnelfnopjdaaFaR
namespace Go.Proofs.Ytaemnelfnopjdaa
open Go.RowKit Go.Deep Go.Maps
set_option linter.unusedVariables false
set_option linter.unusedSimpArgs false
/-- A chain: its first state, and what is behind each change. -/
def chN (C : List (Nat × List Nat)) (f : List Nat) (j : Nat) : List (List Nat) := (List.range j).map fun k => foldC (C.take k) f
def chainF (C : List (Nat × List Nat)) (f : List Nat) : List (List Nat) := chN C f (C.length + 1)
theorem chN_succ (C : List (Nat × List Nat)) (f : List Nat) (j : Nat) : chN C f (j + 1) = chN C f j ++ [foldC (C.take j) f] := by unfold chN; rw [List.range_succ, List.map_append]; rfl
theorem chN_len (C : List (Nat × List Nat)) (f : List Nat) (j : Nat) : (chN C f j).length = j := by unfold chN; rw [List.length_map, List.length_range]
def crL (xs : List (List Nat)) : List (List Nat) := xs.foldl addL []
theorem crL_snoc (xs : List (List Nat)) (s : List Nat) : crL (xs ++ [s]) = addL (crL xs) s := by unfold crL; rw [List.foldl_append]; rfl
theorem addL_len (L : List (List Nat)) (s : List Nat) : (addL L s).length ≤ L.length + 1 := by
  unfold addL
  split
  · omega
  · rw [List.length_append]; simp
theorem foldl_addL_len : ∀ (xs L : List (List Nat)), (xs.foldl addL L).length ≤ L.length + xs.length
  | [], L => Nat.le_refl _
  | x :: xs, L => by
    have h1 := foldl_addL_len xs (addL L x)
    have h2 := addL_len L x
    rw [List.foldl_cons, List.length_cons]
    omega
theorem crL_len (xs : List (List Nat)) : (crL xs).length ≤ xs.length := by
  have := foldl_addL_len xs []
  unfold crL
  simpa using this
def crashL (M : Fl) : List (List Nat) := crL (M.F.flatMap (chainF M.C))
/-- What was added behind i chains, and j states of the next one. -/
def crIn (M : Fl) (i : Nat) : List (List Nat) := (M.F.take i).flatMap (chainF M.C)
theorem crIn_len (M : Fl) : ∀ i, (crIn M i).length ≤ i * (M.C.length + 1) := fun i => by
  unfold crIn
  have : ∀ l : List (List Nat), (l.flatMap (chainF M.C)).length = l.length * (M.C.length + 1) := fun l => by
    induction l with
    | nil => simp
    | cons x r ih => rw [List.flatMap_cons, List.length_append, ih, List.length_cons, Nat.succ_mul]; unfold chainF; rw [chN_len]; omega
  rw [this, List.length_take]
  exact Nat.mul_le_mul_right _ (Nat.min_le_left _ _)
theorem crIn_succ (M : Fl) {i : Nat} (h : i < M.F.length) : crIn M (i + 1) = crIn M i ++ chN M.C M.F[i] (M.C.length + 1) := by
  unfold crIn
  rw [← List.take_append_getElem h, List.flatMap_append]
  simp [chainF]
theorem setRow_kept {w w' : World} {g : Nat} {c : Array Value} : ∀ k, k ≠ g → (w.setRow g c).heap[k]? = w.heap[k]? := fun k hk => setRow_other w g k c hk
section
variable {w : World} {B g bm : Nat} {M : Fl} {vt vf vc : Value} {cm : List Ch} {D : DataW Unit} {OL CL : List Nat}
attribute [local irreducible] stA
set_option maxRecDepth 100000 in
set_option maxHeartbeats 8000000 in
theorem crash_any (h : FlW w B g OL CL M) (hok : FlOk M) (hCn : M.C.length ≤ 1000000) (hFn : M.F.length ≤ 2000000000) (hFC : M.F.length * (M.C.length + 1) ≤ 2000000000) (hT : M.T.length ≤ 1000000) : Calls Try.prog 21 #[.pointer (some ⟨g, 0, none⟩)] w fun e w' => e = .returned (.tuple #[]) ∧ FlS w w' B g OL CL { M with F := crashL M, C := [] } := by
  obtain ⟨vt, vf, vc, cm, bm, D, hfl, rfl, rfl⟩ := h
  have hmm := @run_makeMap Try.prog
  have H := Lib.hid hfl
  have HOK := Lib.hid hok
  have hn64 := hok.n64
  have HOKS : Hid (∀ f ∈ M.F, ∀ k, okS (foldC (M.C.take k) f)) := Lib.hid (fun f hf k => ⟨foldC_len hok.n64 (fun c hc => hok.ch c (List.mem_of_mem_take hc)) (hok.f64 f hf), fun x hx => by
    have := foldC_mem (N := M.T.length) (C := M.C.take k) (hok.fe f hf) (fun c hc => hok.ce c (List.mem_of_mem_take hc)) x hx
    omega⟩)
  obtain ⟨w1, hw1⟩ : ∃ w1, (w.alloc (.map #[] 0)) = w1 := ⟨_, rfl⟩
  obtain ⟨w2, hw2⟩ : ∃ w2, w1.alloc (.cells #[.map (some w.heap.size)] 86) = w2 := ⟨_, rfl⟩
  obtain ⟨w3, hw3⟩ : ∃ w3, w2.alloc (.cells #[.slice none 0 0] 57) = w3 := ⟨_, rfl⟩
  have b1 : Below w.heap.size w w1 := by rw [← hw1]; exact (Below.refl _ _).alloc (Nat.le_refl _) _
  have s1 : w1.heap.size = w.heap.size + 1 := by rw [← hw1]; simp
  have b2 : Below w1.heap.size w1 w2 := by rw [← hw2]; exact (Below.refl _ _).alloc (Nat.le_refl _) _
  have s2 : w2.heap.size = w.heap.size + 1 + 1 := by rw [← hw2, ← s1]; simp
  have b3 : Below w2.heap.size w2 w3 := by rw [← hw3]; exact (Below.refl _ _).alloc (Nat.le_refl _) _
  have s3 : w3.heap.size = w.heap.size + 1 + 1 + 1 := by rw [← hw3, ← s2]; simp
  have m1 : w1.ownsMap Try.prog 56 (plainElem Try.prog 3) w.heap.size 0 (DataW.map [] : DataW Unit) := by rw [← hw1]; exact World.ownsMap_made (H := Unit) w Try.prog 56 _
  have m3 := map_at_block (map_at_block m1 (b2.block w.heap.size (by omega))) (b3.block w.heap.size (by omega))
  have r2 : w2.heap[w.heap.size + 1]? = some (.cells #[.map (some w.heap.size)] 86 (0, 0)) := by rw [← hw2, ← s1]; exact heap_alloc_new _ _
  have r23 := (b3.block (w.heap.size + 1) (by omega)).trans r2
  have r33 : w3.heap[w.heap.size + 1 + 1]? = some (.cells #[.slice none 0 0] 57 (0, 0)) := by rw [← hw3, ← s2]; exact heap_alloc_new _ _
  have HB3 : Hid (Below w.heap.size w w3) := Lib.hid ((b1.trans (b2.mono b1.size)).trans (b3.mono (Nat.le_trans b1.size b2.size)))
  have HC0 : Hid (CrW w3 w.heap.size (w.heap.size + 1) (w.heap.size + 1 + 1) (CrL (w.heap.size + 1) (w.heap.size + 1 + 1) (.slice none 0 0) w.heap.size) (crL (crIn M 0))) := Lib.hid ⟨.slice none 0 0, w.heap.size, .map [], ⟨r23, r33, m3, World.ownsRow_nil _ _ _ _, SeenD.nil, fun s hs => (by cases hs), by omega, by omega, by omega⟩, rfl⟩
  obtain ⟨B0, hB0⟩ : ∃ B0, Hid (w.heap.size = B0) := ⟨_, Lib.hid rfl⟩
  have HS2 : Hid (w2.heap.size = B0 + 1 + 1) := Lib.hid (by rw [s2, hB0.out])
  have HW1 := Lib.hid hw1
  have HW2 := Lib.hid hw2
  have HW3 := Lib.hid hw3
  have H3 := Lib.hid (hfl.below HB3.out)
  have hBB0 : B ≤ B0 := by rw [← hB0.out]; exact hfl.bw
  have hB03 : B0 ≤ w3.heap.size := by rw [← hB0.out]; exact HB3.out.size
  rw [hB0.out] at HC0 HB3 HW2
  obtain ⟨fa, fc, evf⟩ := own_slF hfl.hf
  obtain ⟨ca, cc, evc⟩ := own_slF hfl.hc
  obtain ⟨n, hnn⟩ : ∃ n, Hid (M.F.length = n) := ⟨_, Lib.hid rfl⟩
  obtain ⟨m, hmn⟩ : ∃ m, Hid (M.C.length = m) := ⟨_, Lib.hid rfl⟩
  have HIL := Lib.hid (crIn_len M)
  have HIS := Lib.hid (fun i (hi : i < M.F.length) => crIn_succ M hi)
  rw [hnn.out, hmn.out] at hFC
  rw [hmn.out] at evc hCn HIL HIS
  rw [hnn.out] at evf hFn
  subst evf evc
  have HFIN : Hid (crashL M = crL (crIn M n)) := Lib.hid (by unfold crashL crIn; rw [List.take_of_length_le (by rw [hnn.out]; exact Nat.le_refl _)])
  generalize crIn M = CI at *
  have hent := add_enter
  have c33 := cell_of_row w3 g 3 _ _ _ H3.out.hg
  have HFC := Lib.hid hFC
  clear hfl hok b1 b2 b3 s1 s2 s3 m1 m3 r2 r23 r33 hw1 hw2 hw3 hFC
  go_enter Try.func21, Try.ntmps21
  go_upto_region 2 with fail
  rw [HW1.out, hB0.out, HW2.out]
  go_upto_region 3 with fail
  rw [HS2.out, HW3.out]
  clear HW1 HW2 HW3 HS2 hmm
  generalize CrL (B0 + 1) (B0 + 1 + 1) (.slice none 0 0) B0 = OC0 at *
  go_wp2_with fail
  go_loopw [18] (fun s18 wi => ∃ (i : Nat) (OC : List Nat), s18 = .int .i64 (i : Int) ∧ i ≤ n ∧ Hid (CrW wi B0 (B0 + 1) (B0 + 1 + 1) OC (crL (CI i))) ∧ Hid (Below B0 w wi) ∧ B0 ≤ wi.heap.size) (fun s18 _ => n - (intOf s18).toNat)
  case atStart => exact ⟨0, OC0, rfl, by omega, HC0, HB3, hB03⟩
  case round =>
    obtain ⟨i, OC, rfl, hi, HC, HB, hwi⟩ := hrel
    clear c33 HC0 HB3 hB03 H3 OC0
    by_cases hlt : i < n
    · as_aux_lemma =>
      have hli : (i : Int) < (n : Int) := by omega
      have h0i : (0 : Int) ≤ (i : Int) := by omega
      have hiF : i < M.F.length := by rw [hnn.out]; exact hlt
      have Hi := Lib.hid (H.out.below (by rw [hB0.out]; exact HB.out))
      obtain ⟨gf, cf, e9, hgf, hrg⟩ := Hi.out.first hiF HOK.out.f64
      rw [hnn.out] at e9
      injection e9 with e1 _ e3
      subst e1 e3
      have hfl := HOK.out.f64 _ (List.getElem_mem hiF)
      have hsc := HIS.out i hiF
      have hks := HOKS.out _ (List.getElem_mem hiF)
      obtain ⟨f, hf⟩ : ∃ f, Hid (M.F[i] = f) := ⟨_, Lib.hid rfl⟩
      rw [hf.out] at hfl hrg hsc hks
      have HSC := Lib.hid hsc
      have HKS := Lib.hid hks
      obtain ⟨w4, HW4, r4, b4, s4⟩ := st_stored wr f
      have HB4 := Lib.hid (HB.out.trans (b4.mono hwi))
      have H4 := Lib.hid (H.out.below (by rw [hB0.out]; exact HB4.out))
      have HC4 := Lib.hid (HC.out.same (fun k hk => b4.block k (HC.out.lt hk).1))
      obtain ⟨gx, hgx⟩ : ∃ gx, Hid (wr.heap.size = gx) := ⟨_, Lib.hid rfl⟩
      have r4' : w4.heap[gx]? = some (.cells (stA f) 56 (0, 0)) := by rw [← hgx.out]; exact r4
      have hgxC : gx ∉ OC := fun h => by have := (HC.out.lt h).1; rw [hgx.out] at this; omega
      have hgxB : B0 ≤ gx := by rw [← hgx.out]; exact hwi
      have hinf := stA_info hfl
      have hone := stA_one f
      have hlsz := lit_size hfl
      have hnca := stA_eq f
      have hncl : (Try.prog.info? 56).map (·.size) = some (nC f).length := by rw [nC_len, hfl]; exact info_st
      have hcil := HIL.out i
      have hmul : i * (m + 1) + (m + 1) ≤ n * (m + 1) := by
        have := Nat.mul_le_mul_right (m + 1) hlt
        rw [Nat.succ_mul] at this
        exact this
      have hcb : (CI i).length + (m + 1) ≤ 2000000000 := by have := HFC.out; omega
      have CA := Lib.hid (add_any f HC4.out (by have := HKS.out 0; rw [List.take_zero] at this; exact this) (Nat.le_trans hwi b4.size) (by have := crL_len (CI i); omega))
      have c3i := cell_of_row wr g 3 _ _ _ Hi.out.hg
      have hw4 : B0 ≤ w4.heap.size := Nat.le_trans hwi b4.size
      have hgx4 : gx < w4.heap.size := (Array.getElem?_eq_some_iff.1 r4').1
      clear r4 s4 hmul hcil
      go_upto_region 7 with (first | (refine wpList_load_mid rfl 56 _ rfl gf (i * 64) rfl (nC f) _ hrg Try.underlying56 rfl hncl ?_; rw [hnca]) | (refine wpList_store_row rfl _ _ _ rfl wr.heap.size (stA f) rfl rfl 56 _ (heap_alloc_new _ _) hinf hlsz hone ?_))
      rw [HW4.out, hgx.out]
      clear HW4 b4 hrg hlsz Hi c3i HC HB
      go_wp2_with (refine wpList_load_row rfl _ _ rfl gx rfl 56 (stA f) (0, 0) _ r4' Try.underlying56 rfl hinf ?_)
      refine CA.out.mono ?_
      rintro e w5 ⟨rfl, OC5, hC5, hK5, hN5⟩
      have HB5 : Hid (Below B0 w w5) := Lib.hid (HB4.out.trans hK5.below)
      have H5 := Lib.hid (H.out.below (by rw [hB0.out]; exact HB5.out))
      have r5 : w5.heap[gx]? = some (.cells (stA f) 56 (0, 0)) := (hK5.other gx hgx4 hgxC).trans r4'
      have hgxC5 : gx ∉ OC5 := fun h => by
        rcases hN5 gx h with h | h
        · exact hgxC h
        · omega
      have HC5 : Hid (CrW w5 B0 (B0 + 1) (B0 + 1 + 1) OC5 (crL (CI i ++ chN M.C f 1))) := Lib.hid (by
        have e : chN M.C f 1 = [f] := rfl
        rw [e, crL_snoc]; exact hC5)
      have hw5 : B0 ≤ w5.heap.size := Nat.le_trans hw4 hK5.below.size
      have hgx5 : gx < w5.heap.size := Nat.lt_of_lt_of_le hgx4 hK5.below.size
      have c45 := cell_of_row w5 g 4 _ _ _ H5.out.hg
      have HR5 : Hid (w5.heap[gx]? = some (.cells (stA (foldC (M.C.take 0) f)) 56 (0, 0))) := Lib.hid r5
      have HG5 := Lib.hid hgxC5
      clear CA hC5 hK5 hN5 r4' HC4 H4 HB4 r5 hgxC5
      go_wp2_with fail
      go_loopw [30] (fun s30 wi => ∃ (j : Nat) (OC : List Nat), s30 = .int .i64 (j : Int) ∧ j ≤ m ∧ Hid (CrW wi B0 (B0 + 1) (B0 + 1 + 1) OC (crL (CI i ++ chN M.C f (j + 1)))) ∧ Hid (gx ∉ OC) ∧ Hid (wi.heap[gx]? = some (.cells (stA (foldC (M.C.take j) f)) 56 (0, 0))) ∧ Hid (Below B0 w wi) ∧ B0 ≤ wi.heap.size ∧ gx < wi.heap.size) (fun s30 _ => m - (intOf s30).toNat)
      case atStart => exact ⟨0, OC5, rfl, by omega, HC5, HG5, HR5, HB5, hw5, hgx5⟩
      case round =>
        obtain ⟨j, OC, rfl, hj, HC, HG, HR, HB, hwj, hgxj⟩ := hrel
        clear c45 HC5 HG5 HR5 HB5 hw5 hgx5 H5 OC5
        by_cases hlj : j < m
        · as_aux_lemma =>
          have hlji : (j : Int) < (m : Int) := by omega
          have h0j : (0 : Int) ≤ (j : Int) := by omega
          have hjC : j < M.C.length := by rw [hmn.out]; exact hlj
          have Hj := Lib.hid (H.out.below (by rw [hB0.out]; exact HB.out))
          obtain ⟨gc, cc', a, o, b, c, evc, hgc, eC, k0, k1, hch⟩ := Hj.out.chg hjC
          rw [hmn.out] at evc
          injection evc with e1 _ e3
          subst e1 e3
          have hco := HOK.out.ch _ (List.getElem_mem hjC)
          rw [eC] at hco
          have HL1 := Lib.hid (HKS.out j).1
          have HNX : Hid (foldC (M.C.take (j + 1)) f = spl (foldC (M.C.take j) f) a b) := Lib.hid (by rw [foldC_take hjC, eC])
          have HOK1 := Lib.hid (HKS.out (j + 1))
          have HLN := Lib.hid (HKS.out (j + 1)).1
          have HCH : Hid (crL (CI i ++ chN M.C f (j + 1 + 1)) = addL (crL (CI i ++ chN M.C f (j + 1))) (foldC (M.C.take (j + 1)) f)) := Lib.hid (by rw [chN_succ, ← List.append_assoc, crL_snoc])
          have hlb : (crL (CI i ++ chN M.C f (j + 1))).length ≤ 3000000000 := by
            have h1 := crL_len (CI i ++ chN M.C f (j + 1))
            rw [List.length_append, chN_len] at h1
            omega
          have HLB := Lib.hid hlb
          obtain ⟨wx, HWX, rx, bx, sx⟩ := ch_box wr (a : Int) (.slice o b.length c)
          have HCX := Lib.hid (hch.below bx)
          have x0 := cell_of_row wx wr.heap.size 0 _ _ _ rx
          have x1 := cell_of_row wx wr.heap.size 1 _ _ _ rx
          have rX := (bx.block gx hgxj).trans HR.out
          have BX := Lib.hid (HB.out.trans (bx.mono hwj))
          have CX := Lib.hid (HC.out.same (fun k hk => bx.block k (HC.out.lt hk).1))
          have CB := Lib.hid (behind_any (foldC (M.C.take j) f) b a o c wx HL1.out HCX.out.1 hco.1 (by have := hco.2; have h2 : a + b.length ≤ M.n := this; omega))
          have hinfa := stA_info HL1.out
          rw [← HNX.out] at CB
          have hinf2 := stA_info HLN.out
          have hone2 := stA_one (foldC (M.C.take (j + 1)) f)
          have hsz2 : (stA (foldC (M.C.take j) f)).size = (stA (foldC (M.C.take (j + 1)) f)).size := by rw [stA_size HL1.out, stA_size HLN.out]
          have hsw : gx < wx.heap.size := by omega
          have hwx : B0 ≤ wx.heap.size := by omega
          obtain ⟨gy, hgy⟩ : ∃ gy, Hid (wr.heap.size = gy) := ⟨_, Lib.hid rfl⟩
          rw [hgy.out] at x0 x1
          obtain ⟨SB, hSB⟩ : ∃ SB, Hid (stA (foldC (M.C.take (j + 1)) f) = SB) := ⟨_, Lib.hid rfl⟩
          rw [hSB.out] at CB hinf2 hone2 hsz2
          generalize stA (foldC (M.C.take j) f) = SA at *
          generalize b.length = bl at *
          clear HR HC HB Hj rx bx sx hch HCX HL1 hco hlb
          go_upto_region 11 with fail
          rw [HWX.out, hgy.out]
          clear HWX
          go_wp2_with (refine wpList_load_row rfl _ _ rfl gx rfl 56 SA (0, 0) _ rX Try.underlying56 rfl hinfa ?_)
          refine CB.out.mono ?_
          rintro e w6 ⟨rfl, b6⟩
          have r6 := (b6.block gx hsw).trans rX
          have B6 := Lib.hid (BX.out.trans (b6.mono hwx))
          have C6 := Lib.hid (CX.out.same (fun k hk => b6.block k (CX.out.lt hk).1))
          have hgx6 : gx < w6.heap.size := Nat.lt_of_lt_of_le hsw b6.size
          have hw6 : B0 ≤ w6.heap.size := Nat.le_trans hwx b6.size
          obtain ⟨w7, hw7⟩ : ∃ w7, w6.setRow gx SB = w7 := ⟨_, rfl⟩
          have r7 : w7.heap[gx]? = some (.cells SB 56 (0, 0)) := by rw [← hw7]; exact setRow_heap w6 gx SA SB 56 (0, 0) r6
          have B7 : Hid (Below B0 w w7) := Lib.hid (by rw [← hw7]; exact below_setRow B6.out hgxB _)
          have s7 : w7.heap.size = w6.heap.size := by rw [← hw7, size_setRow]
          have C7 := Lib.hid (C6.out.same (w' := w7) (fun k hk => by rw [← hw7]; exact setRow_other w6 gx k _ (fun e => HG.out (by rw [← e]; exact hk))))
          have CA2 := Lib.hid (add_any (foldC (M.C.take (j + 1)) f) C7.out HOK1.out (by rw [s7]; exact hw6) HLB.out)
          rw [← HCH.out, hSB.out] at CA2
          have HW7 := Lib.hid hw7
          have hgx7 : gx < w7.heap.size := by rw [s7]; exact hgx6
          have hw7' : B0 ≤ w7.heap.size := by rw [s7]; exact hw6
          clear CB b6 BX CX rX B6 hw7 s7 C6
          go_upto_region 12 with (refine wpList_store_row rfl _ _ _ rfl gx SB rfl rfl 56 _ r6 hinf2 hsz2 hone2 ?_)
          rw [HW7.out]
          clear HW7 r6
          go_wp2_with (refine wpList_load_row rfl _ _ rfl gx rfl 56 SB (0, 0) _ r7 Try.underlying56 rfl hinf2 ?_)
          refine CA2.out.mono ?_
          rintro e w8 ⟨rfl, OC8, hC8, hK8, hN8⟩
          have HC8 := Lib.hid hC8
          have HG8 : Hid (gx ∉ OC8) := Lib.hid (fun h => by
            rcases hN8 gx h with h | h
            · exact HG.out h
            · omega)
          have HR8 : Hid (w8.heap[gx]? = some (.cells (stA (foldC (M.C.take (j + 1)) f)) 56 (0, 0))) := Lib.hid (by rw [hSB.out]; exact (hK8.other gx hgx7 HG.out).trans r7)
          have HB8 := Lib.hid (B7.out.trans hK8.below)
          have hw8 := Nat.le_trans hw7' hK8.below.size
          have hgx8 := Nat.lt_of_lt_of_le hgx7 hK8.below.size
          clear CA2 hC8 hK8 hN8 r7 B7 C7
          go_wp2_with fail
          go_roundw
          case rel => exact ⟨j + 1, OC8, by go_num, by omega, HC8, HG8, HR8, HB8, hw8, hgx8⟩
          case measure => simp [intOf]; omega
        · as_aux_lemma =>
          have hlji : ¬ (j : Int) < (m : Int) := by omega
          obtain rfl : j = m := by omega
          have HCN : Hid (CrW wr B0 (B0 + 1) (B0 + 1 + 1) OC (crL (CI (i + 1)))) := Lib.hid (by rw [HSC.out]; exact HC.out)
          go_wp2_with fail
          go_roundw
          case rel => exact ⟨i + 1, OC, by go_num, by omega, HCN, HB, hwj⟩
          case measure => simp [intOf]; omega
    · as_aux_lemma =>
      have hli : ¬ (i : Int) < (n : Int) := by omega
      obtain rfl : i = n := by omega
      have Hi := Lib.hid (H.out.below (by rw [hB0.out]; exact HB.out))
      obtain ⟨v, bm2, D2, hcr, hoc⟩ := HC.out
      have cq3 := cell_of_row wr (B0 + 1 + 1) 0 _ _ _ hcr.h3
      have hgr := Hi.out.hg
      have c3g := cell_of_row wr g 3 _ _ _ hgr
      have c4g := cell_of_row wr g 4 _ _ _ hgr
      have f3g := frozen_of_row wr g 3 _ _ hgr
      have f4g := frozen_of_row wr g 4 _ _ hgr
      rw [← HFIN.out] at hcr
      have hst1 := Hi.out.set_f (F := crashL M) hBB0 hcr.hr
      have hst2 := hst1.no_c
      have HEND : Hid (FlS w ((wr.setCell ⟨g, 3, none⟩ v).setCell ⟨g, 4, none⟩ (.slice none 0 0)) B g (OwnL g vt (.slice fa i fc) (.slice ca m cc) bm) (chL cm) { M with F := crashL M, C := [] }) := Lib.hid (by
        have k1 : Kq B (OwnL g vt (.slice fa i fc) (.slice ca m cc) bm) w wr := Kq.of_below (by rw [hB0.out]; exact HB.out) H.out.bw
        refine ⟨_, _, ⟨vt, v, _, [], bm, D, hst2, rfl, rfl⟩, (k1.setCell 3 _ Hi.out.bg (mem_own.2 (Or.inl rfl))).setCell 4 _ Hi.out.bg (mem_own.2 (Or.inl rfl)), fun j hj => ?_, fun j hj => by cases hj⟩
        rcases mem_own.1 hj with h1 | h1 | h1 | h1 | h1
        · exact Or.inl (mem_own.2 (Or.inl h1))
        · exact Or.inl (mem_own.2 (Or.inr (Or.inl h1)))
        · exact Or.inl (mem_own.2 (Or.inr (Or.inr (Or.inl h1))))
        · exact Or.inr (by rw [hB0.out]; exact (hcr.hr.lt j h1).1)
        · cases h1)
      obtain ⟨va, vcp, ev⟩ := own_slF hcr.hr
      subst ev
      clear hst1 hst2 hgr hcr HC HB Hi hoc
      go_wp2_with fail
      go_end0
      exact ⟨rfl, HEND.out⟩
end
end Go.Proofs.Ytaemnelfnopjdaa
