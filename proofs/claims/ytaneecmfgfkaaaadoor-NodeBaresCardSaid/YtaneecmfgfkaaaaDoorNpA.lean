/- node.Bare, walked (layer 17). -/
import Derived.Test.YtaneecmfgfkaaaaDoorNoY
namespace Go.Proofs.YtaneecmfgfkaaaaDoor
open Go.RowKit Go.Deep Go.Maps
set_option linter.unusedVariables false
set_option linter.unusedSimpArgs false
theorem bare_sum0 : sumL ((⟨#[0]⟩ : ByteArray) ++ bareB 0).data.toList = bareS 0 := rfl
theorem bareB_succ (h : Nat) : bareB (h + 1) = sB (bareS h ++ bareS h) := rfl
theorem bareB_zero : bareB 0 = z64B := rfl
attribute [local irreducible] digA sumL z32 sB bv rootD oneB bareS bareB z64B
set_option maxRecDepth 100000 in
set_option maxHeartbeats 2000000 in
theorem bare_no (o : Option Addr) (h : Int) (w : World) (hb : h < 0 ∨ 6 < h) : Calls Tryd.prog 28 #[.pointer o, .int .i64 h] w fun e w' => e = .returned (.tuple #[.string ⟨#[]⟩, .agg z32, .int .i64 3]) ∧ Below w.heap.size w w' := by
  have hz := zero_dig
  have hbz := build_z32
  obtain ⟨w1, HW1, hr1, B1⟩ := made_zN w
  by_cases h0 : h < 0
  · go_enter Tryd.func28, Tryd.ntmps28
    go_upto_region 1 with fail
    rw [HW1.out]
    clear HW1
    go_wp2_with (refine wpList_store_row rfl _ _ _ rfl w.heap.size z32 rfl rfl 34 _ hr1 (by rw [z32_size']; kernel_rfl) (by rw [z32_size']) (by with_unfolding_all exact z32_one) ?_)
    refine bodyPost_ret_by (results_tct rfl _ _ w.heap.size 34 z32 (0, 0) _ rfl (setRow_heap _ _ _ z32 34 (0, 0) hr1) Tryd.underlying34 rfl (by rw [z32_size']; kernel_rfl)) rfl ⟨rfl, ?_⟩
    exact below_setRow B1 (Nat.le_refl _) _
  · have h6 : 6 < h := by omega
    go_enter Tryd.func28, Tryd.ntmps28
    go_upto_region 1 with fail
    rw [HW1.out]
    clear HW1
    go_wp2_with (refine wpList_store_row rfl _ _ _ rfl w.heap.size z32 rfl rfl 34 _ hr1 (by rw [z32_size']; kernel_rfl) (by rw [z32_size']) (by with_unfolding_all exact z32_one) ?_)
    refine bodyPost_ret_by (results_tct rfl _ _ w.heap.size 34 z32 (0, 0) _ rfl (setRow_heap _ _ _ z32 34 (0, 0) hr1) Tryd.underlying34 rfl (by rw [z32_size']; kernel_rfl)) rfl ⟨rfl, ?_⟩
    exact below_setRow B1 (Nat.le_refl _) _
/-- What Bare has on its way. -/
structure BaI (base : Nat) (w : World) (o : Option Addr) (q0 q8 p q : Nat) (i : Nat) (wi : World) (Xi : Option OrS) : Prop where
  f0 : wi.heap[q0]? = some (.cells z32 34 (0, 0))
  f8 : wi.heap[q8]? = some (.cells (digA (bareS i)) 34 (0, 0))
  c1 : wi.cell? ⟨p, 0, none⟩ = some (.func (.func 13) #[.pointer o] #[])
  c2 : wi.cell? ⟨q, 0, none⟩ = some (.string oneB)
  hx : OrX base wi o Xi
  fw : FewX Xi (1000 + i)
  bel : Below base w wi
  r0 : FreeX Xi q0
  r8 : FreeX Xi q8
  rp : FreeX Xi p
  rq : FreeX Xi q
  ne : q0 ≠ q8 ∧ p ≠ q8 ∧ q ≠ q8 ∧ p ≠ q0 ∧ q ≠ q0 ∧ base ≤ q0 ∧ base ≤ q8
theorem BaI.below {base : Nat} {w : World} {o : Option Addr} {q0 q8 p q i : Nat} {wi w' : World} {Xi : Option OrS} (h : BaI base w o q0 q8 p q i wi Xi) (hb : Below wi.heap.size wi w') : BaI base w o q0 q8 p q i w' Xi :=
  ⟨blk_belowN hb h.f0, blk_belowN hb h.f8, (hb.cell (p := ⟨p, 0, none⟩) (block_lt_of_cell h.c1)).trans h.c1, (hb.cell (p := ⟨q, 0, none⟩) (block_lt_of_cell h.c2)).trans h.c2, h.hx.below hb, h.fw, h.bel.trans (hb.mono h.hx.base), h.r0, h.r8, h.rp, h.rq, h.ne⟩
theorem BaI.step {base : Nat} {w : World} {o : Option Addr} {q0 q8 p q i : Nat} {wi w' : World} {Xi X' : Option OrS} {t : List UInt8} (h : BaI base w o q0 q8 p q i wi Xi) (hX : OrX base w' o X') (hS : SumX Xi X' t) (hB : Below base wi w') (hK : KeptX wi w' Xi X') : w'.heap[q8]? = some (.cells (digA (bareS i)) 34 (0, 0)) ∧ BaI base w o q0 q8 p q (i + 1) (w'.setRow q8 (digA (bareS (i + 1)))) X' := by
  have k0 := hK.keep _ _ h.f0 h.r0
  have k8 := hK.keep _ _ h.f8 h.r8
  have kp := hK.cell h.c1 h.rp
  have kq := hK.cell h.c2 h.rq
  obtain ⟨n1, n2, n3, n4, n5, n6, n7⟩ := h.ne
  refine ⟨k8, ⟨(setRow_other _ _ _ _ n1).trans k0, setRow_heap _ _ _ _ _ _ k8, (cell_setRow_other _ _ _ _ n2).trans kp, (cell_setRow_other _ _ _ _ n3).trans kq, hX.row _ _ (hK.free _ (blk_ltN h.f8) h.r8), (hS.few h.fw).mono (by omega), below_setRow (h.bel.trans hB) n7 _, hK.free _ (blk_ltN h.f0) h.r0, hK.free _ (blk_ltN h.f8) h.r8, hK.free _ (block_lt_of_cell h.c1) h.rp, hK.free _ (block_lt_of_cell h.c2) h.rq, h.ne⟩⟩
set_option maxRecDepth 100000 in
set_option maxHeartbeats 8000000 in
theorem bare_x (base : Nat) (o : Option Addr) (X : Option OrS) (n : Nat) (w : World) (hG : Gl w) (hbf : 0 < base) (hbk : 1 < base) (hX : OrX base w o X) (hF : FewX X 100) (h6 : n ≤ 6) :
    Calls Tryd.prog 28 #[.pointer o, .int .i64 (n : Int)] w fun e w' => e = .returned (.tuple #[.string (bareB n), .agg (digA (bareS n)), .int .i64 0]) ∧ Below base w w' := by
  have hz := zero_dig
  have hmk := make64
  have hcv := conv64
  have hbw := hX.base
  have t1 : ¬ (n : Int) < 0 := by omega
  have t2 : ¬ (6 : Int) < (n : Int) := by omega
  obtain ⟨w1, HW1, hr1, B1⟩ := made_zN w
  have hf0 : FreeX X w.heap.size := hX.free _ (Nat.le_refl _)
  have HLF : Hid (∀ wc, Gl wc → OrX base wc o X → Calls Tryd.prog 44 #[.pointer o, .string z64B] wc fun e w' => ∃ X', e = .returned (.tuple #[.agg (digA (bareS 0)), .int .i64 0]) ∧ OrX base w' o X' ∧ SumX X X' ((⟨#[0]⟩ : ByteArray) ++ z64B).data.toList ∧ Below base wc w' ∧ KeptX wc w' X X') := Lib.hid (fun wc h1 h2 => by
    have := leaf_x base o X z64B wc h1 hbf hbk h2 (hF.mono (by omega)) z64B_size
    rw [show sumL ((⟨#[0]⟩ : ByteArray) ++ z64B).data.toList = bareS 0 from by with_unfolding_all rfl] at this
    exact this)
  have HSZ : Hid (∀ i, (digA (bareS i)).size = 32) := Lib.hid (fun i => by with_unfolding_all (rw [digA_size, bareS_len]))
  have HON : Hid (∀ i, (digA (bareS i)).all (·.oneCell') = true) := Lib.hid (fun i => by with_unfolding_all exact digA_one _)
  have HLD : Hid (∀ i w' g, w'.heap[g]? = some (.cells (digA (bareS i)) 34 (0, 0)) → LoadedA Tryd.prog 34 w' g (digA (bareS i))) := Lib.hid (fun i w' g h => loadedA_d (bareS_len i) h)
  have HJN : Hid (∀ i w', Calls Tryd.prog 41 #[.agg (digA (bareS i)), .agg (digA (bareS i))] w' fun e w'' => e = .returned (.string (bareB (i + 1))) ∧ Below w'.heap.size w' w'') := Lib.hid (fun i w' => by
    have := join_any (bareS i) (bareS i) (bareS_len i) (bareS_len i) w'
    rw [← bareB_succ] at this
    exact this)
  have HSR : Hid (∀ i wc Xc p q, Gl wc → OrX base wc o Xc → FewX Xc 1000000 → wc.cell? ⟨p, 0, none⟩ = some (.func (.func 13) #[.pointer o] #[]) → wc.cell? ⟨q, 0, none⟩ = some (.string oneB) → Calls Tryd.prog 53 #[.string (bareB (i + 1)), .pointer (some ⟨p, 0, none⟩), .pointer (some ⟨q, 0, none⟩)] wc fun e w' => ∃ X', e = .returned (.tuple #[.agg (digA (bareS (i + 1))), .int .i64 0]) ∧ OrX base w' o X' ∧ SumX Xc X' (oneB ++ bareB (i + 1)).data.toList ∧ Below base wc w' ∧ KeptX wc w' Xc X') := Lib.hid (fun i wc Xc p q h1 h2 h3 h4 h5 => by
    have := sumr_x base o Xc (bareB (i + 1)) oneB p q wc h1 hbf hbk h2 h3 (bareB_size _) (by with_unfolding_all decide) h4 h5
    rw [bareS_sum] at this
    exact this)
  have HZ0 := bareB_zero
  have HF := Lib.hid hF
  have HX1 := Lib.hid (hX.below B1)
  have HB1 := Lib.hid B1
  clear hX hF
  go_enter Tryd.func28, Tryd.ntmps28
  go_upto_region 1 with fail
  rw [HW1.out]
  clear HW1
  go_wp2_with fail
  have b2 := (Below.refl w1.heap.size w1).alloc (Nat.le_refl _) (.cells (madeCells #[.int .u8 0] 64) 5)
  obtain ⟨w2, HW2⟩ : ∃ w2, Hid (w1.alloc (.cells (madeCells #[.int .u8 0] 64) 5) = w2) := ⟨_, Lib.hid rfl⟩
  rw [HW2.out] at b2 ⊢
  clear HW2
  have hr2 := blk_belowN b2 hr1
  have hX2 := HX1.out.below b2
  have B2 := HB1.out.trans (b2.mono HB1.out.size)
  clear b2 hr1 HX1 HB1
  refine (HLF.out w2 (hG.below B2) hX2).mono ?_
  rintro e w3 ⟨X3, rfl, hX3, hS3, b3, K3⟩
  have hr3 := K3.keep _ _ hr2 hf0
  have hf3 := K3.free _ (blk_ltN hr2) hf0
  have B3 : Below base w w3 := (B2.mono hbw).trans b3
  have fw3 : FewX X3 1000 := (hS3.few HF.out).mono (by omega)
  clear hS3 b3 K3 hX2 B2 hr2 HF HLF
  obtain ⟨w4, HW4, hd4, b4⟩ := stored_dg w3 (digA (bareS 0))
  have z0 := HSZ.out 0
  have o0 := HON.out 0
  go_upto_region 5 with (refine wpList_store_row rfl _ _ _ rfl w3.heap.size (digA (bareS 0)) rfl rfl 34 _ (heap_alloc_new _ _) (by rw [z0]; kernel_rfl) (by rw [z0, z32_size']) o0 ?_)
  rw [HW4.out]
  clear HW4 z0 o0
  have hr4 := blk_belowN b4 hr3
  have hX4 := hX3.below b4
  have hf84 : FreeX X3 w3.heap.size := hX3.free _ (Nat.le_refl _)
  have hne : w.heap.size < w3.heap.size := blk_ltN hr3
  have B4 := B3.trans (b4.mono hX3.base)
  clear b4 hX3 B3 hr3
  generalize w3.heap.size = q8 at *
  go_wp2_with fail
  refine (summer_any o _ w4).mono ?_
  rintro e w5 ⟨rfl, c1, c2, b5, _⟩
  have hl4 := blk_ltN hd4
  have HI0 : Hid (BaI base w o w.heap.size q8 (w4.heap.size + 1) w4.heap.size 0 w5 X3) := Lib.hid ⟨blk_belowN b5 hr4, blk_belowN b5 hd4, c1, by with_unfolding_all exact c2, hX4.below b5, fw3, B4.trans (b5.mono hX4.base), hf3, hf84, hX4.free _ (by omega), hX4.free _ (by omega), by omega⟩
  clear c1 c2 b5 hd4 hr4 hX4 B4 hf3 hf84 fw3 hl4 hf0
  generalize w4.heap.size = q4 at *
  go_wp2_with fail
  go_loopw [29, 7, 9] (fun x s e wi => ∃ (i : Nat) (Xi : Option OrS), x = .int .i64 (i : Int) ∧ i ≤ n ∧ s = .string (bareB i) ∧ e = .int .i64 0 ∧ Hid (BaI base w o w.heap.size q8 (q4 + 1) q4 i wi Xi)) (fun x _ _ _ => n - (intOf x).toNat)
  case atStart => exact ⟨0, X3, rfl, by omega, by rw [HZ0], rfl, HI0⟩
  clear HI0
  case round =>
    obtain ⟨i, Xi, rfl, hi, rfl, rfl, HI⟩ := hrel
    by_cases hlt : i < n
    · as_aux_lemma =>
      have hli : (i : Int) < (n : Int) := by omega
      have l8 := HLD.out i wr q8 HI.out.f8
      have HJ := Lib.hid (HJN.out i)
      have HS := Lib.hid (HSR.out i)
      have zi := HSZ.out i
      have zn := HSZ.out (i + 1)
      have onn := HON.out (i + 1)
      have HST := Lib.hid (fun wi w' X' t (h : BaI base w o w.heap.size q8 (q4 + 1) q4 i wi Xi) => @BaI.step base w o w.heap.size q8 (q4 + 1) q4 i wi w' Xi X' t h)
      obtain ⟨DI, HDI⟩ : ∃ DI, Hid (digA (bareS i) = DI) := ⟨_, Lib.hid rfl⟩
      obtain ⟨DN, HDN⟩ : ∃ DN, Hid (digA (bareS (i + 1)) = DN) := ⟨_, Lib.hid rfl⟩
      rw [HDI.out] at l8 zi
      rw [HDI.out] at HJ
      rw [HDN.out] at zn onn
      rw [HDN.out] at HS
      rw [HDI.out, HDN.out] at HST
      obtain ⟨sb, HSB⟩ : ∃ sb, Hid (bareB (i + 1) = sb) := ⟨_, Lib.hid rfl⟩
      rw [HSB.out] at HJ
      rw [HSB.out] at HS
      clear HDI HDN HSZ HON HLD HJN HSR
      go_wp2_with ((with_reducible refine wpList_load_arr_i (g := q8) (cs := DI) 34 _ rfl ?_ ?_ ?_); exact ⟨rfl, rfl⟩; assumption)
      refine (HJ.out wr).mono ?_
      rintro e w6 ⟨rfl, b6⟩
      have HI6 := Lib.hid (HI.out.below b6)
      clear HI b6 l8
      go_wp2_with fail
      refine (HS.out w6 Xi (q4 + 1) q4 (Gl.at_ hG HI6.out.bel hbf hbk) HI6.out.hx (HI6.out.fw.mono (by omega)) HI6.out.c1 HI6.out.c2).mono ?_
      rintro e w7 ⟨X7, rfl, hX7, hS7, b7, K7⟩
      have hst := HST.out w6 w7 X7 _ HI6.out hX7 hS7 b7 K7
      have hd7 := hst.1
      have HI7 := Lib.hid hst.2
      clear hst hX7 hS7 b7 K7 HI6 HST HS HJ
      go_wp2_with (refine wpList_store_row rfl _ _ _ rfl q8 DN rfl rfl 34 _ hd7 (by rw [zn]; kernel_rfl) (by rw [zn, zi]) onn ?_)
      go_roundw
      case rel => exact ⟨i + 1, X7, by go_num, by omega, by rw [HSB.out], rfl, HI7⟩
      case measure => simp [intOf]; omega
    · as_aux_lemma =>
      obtain rfl : i = n := by omega
      have f0 := HI.out.f0
      have f8 := HI.out.f8
      have zi := HSZ.out i
      have oi := HON.out i
      have hfin : Hid (∀ D, Below base w (wr.drew.setRow w.heap.size D)) := Lib.hid (fun D => below_setRow HI.out.bel.drew hbw D)
      clear HI HLD HJN HSR HSZ HON
      have HBV : Hid ((digA (bareS i)).toList.toArray = digA (bareS i)) := Lib.hid (by simp)
      have HVL : Hid ((digA (bareS i)).toList.length = 32) := Lib.hid (by rw [Array.length_toList, zi])
      obtain ⟨DI, HDI⟩ : ∃ DI, Hid (digA (bareS i) = DI) := ⟨_, Lib.hid rfl⟩
      rw [HDI.out] at f8 zi oi HBV HVL
      have f0d : wr.drew.heap[w.heap.size]? = some (.cells z32 34 (0, 0)) := f0
      go_upto_region 11 with fail
      refine wp_region_lin (S := (fun w' => w'.heap[q8]? = some (.cells DI 34 (0, 0)))) [(0, true), (1, true), (2, true), (3, true), (4, false), (5, true)] (by kernel_rfl) (by kernel_rfl) rfl (by kernel_rfl) ?_ (fun hHeld => ?_)
      · (try dsimp only); exact f8
      (refine wpL_calm (o := { dst := some 41, op := Go.Op.move (Go.Operand.tmp 7), type := 9, pos := "node.go:149", after := #[], guard := none }) (v := ?_) rfl (Or.inl ⟨by rfl, ?_⟩) ?_; rotate_left; (focus (intro w hSw; (try dsimp only at hSw); go_simp; (try (with_reducible rfl)); done)); try simp only [Act.put, List.setIfInBounds_toArray, List.set_cons_zero, List.set_cons_succ])
      refine wpL_calm (o := { dst := some 42, op := Go.Op.load 34 (Go.Operand.tmp 8), type := 34, pos := "node.go:149", after := #[{ on := 3, ground := Go.Ground.gcOnly Go.Departure.lateStores }], guard := none }) rfl (yieldsIf_load_mid (by rfl) _ _ rfl q8 0 rfl DI.toList _ (fun _ h => range_dg h HBV.out) Tryd.underlying34 rfl (by rw [HVL.out]; kernel_rfl)) ?_; rw [HBV.out]
      try simp only [Act.put, List.setIfInBounds_toArray, List.set_cons_zero, List.set_cons_succ]
      (refine wpL_calm (o := { dst := some 43, op := Go.Op.move (Go.Operand.tmp 9), type := 30, pos := "node.go:149", after := #[{ on := 4, ground := Go.Ground.gcOnly Go.Departure.lateStores }], guard := none }) (v := ?_) rfl (Or.inl ⟨by rfl, ?_⟩) ?_; rotate_left; (focus (intro w hSw; (try dsimp only at hSw); go_simp; (try (with_reducible rfl)); done)); try simp only [Act.put, List.setIfInBounds_toArray, List.set_cons_zero, List.set_cons_succ])
      (refine wpL_calm (o := { dst := some 4, op := Go.Op.assign (Go.Operand.tmp 41), type := 9, pos := "node.go:149", after := #[{ on := 0, ground := Go.Ground.data }, { on := 0, ground := Go.Ground.phase }, { on := 1, ground := Go.Ground.textOnly Go.Departure.lateStores }, { on := 2, ground := Go.Ground.textOnly Go.Departure.lateStores }], guard := none }) (v := ?_) rfl (Or.inl ⟨by rfl, ?_⟩) ?_; rotate_left; (focus (intro w hSw; (try dsimp only at hSw); go_simp; (try (with_reducible rfl)); done)); try simp only [Act.put, List.setIfInBounds_toArray, List.set_cons_zero, List.set_cons_succ])
      refine wpL_loud1 (o := { dst := none, op := Go.Op.store 34 (Go.Operand.tmp 5) (Go.Operand.tmp 42), type := 0, pos := "node.go:149", after := #[{ on := 1, ground := Go.Ground.data }, { on := 3, ground := Go.Ground.chain }, { on := 0, ground := Go.Ground.phase }, { on := 1, ground := Go.Ground.phase }, { on := 2, ground := Go.Ground.textOnly Go.Departure.lateStores }, { on := 3, ground := Go.Ground.phase }], guard := none }) rfl (fun K hK => ?_)
      (rw [if_pos (by rfl)]; refine wp_store_row _ _ _ rfl w.heap.size DI rfl rfl 34 _ f0d (by rw [zi]; kernel_rfl) (by rw [zi, z32_size']) oi ?_)
      refine hK.out _ _ ?_ (fun hHeld => ?_)
      · (try dsimp only); exact (setRow_other _ _ _ _ (Nat.ne_of_gt hne)).trans (show wr.drew.heap[q8]? = _ from f8)
      clear hK K
      try simp only [Act.put, List.setIfInBounds_toArray, List.set_cons_zero, List.set_cons_succ]
      (refine wpL_calm (o := { dst := some 6, op := Go.Op.assign (Go.Operand.tmp 43), type := 30, pos := "node.go:149", after := #[{ on := 2, ground := Go.Ground.data }, { on := 4, ground := Go.Ground.chain }, { on := 0, ground := Go.Ground.phase }, { on := 1, ground := Go.Ground.phase }, { on := 2, ground := Go.Ground.phase }, { on := 3, ground := Go.Ground.phase }, { on := 4, ground := Go.Ground.phase }], guard := none }) (v := ?_) rfl (Or.inl ⟨by rfl, ?_⟩) ?_; rotate_left; (focus (intro w hSw; (try dsimp only at hSw); go_simp; (try (with_reducible rfl)); done)); try simp only [Act.put, List.setIfInBounds_toArray, List.set_cons_zero, List.set_cons_succ])
      refine wpL_nil ?_
      refine NoPanic.normal ?_
      go_wp2_with fail
      refine bodyPost_ret_by (results_tct rfl _ _ w.heap.size 34 DI (0, 0) _ rfl (setRow_heap _ _ _ DI 34 (0, 0) f0d) Tryd.underlying34 rfl (by rw [zi]; kernel_rfl)) rfl ⟨by rw [HDI.out]; rfl, ?_⟩
      exact hfin.out DI
end Go.Proofs.YtaneecmfgfkaaaaDoor
