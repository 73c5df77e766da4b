/- Package flat: the closures of Saw. -/
import Derived.Test.YtaemnelfnopjdaaFaI
namespace Go.Proofs.Ytaemnelfnopjdaa
open Go.RowKit Go.Deep Go.Maps
set_option linter.unusedVariables false
set_option linter.unusedSimpArgs false
theorem wpList_build1 {P : Program} {ops : Array Oper} {rest : List Oper} {o : Oper} {a : Act} {w : World} {Q : Exit → Act → World → Prop} (hgd : o.guard = none) (t e : TypeId) (x : Operand) (ho : o.op = .buildSlice t 1 #[(0, x)])
    (ie : TypeInfo) (z : Value) (size : Nat) (hu : P.underlying t = some (.slice e)) (hie : P.info? e = some ie) (hz : ie.zero = some z) (hsz : ie.size = size) (hpos : 0 < size) (hsm : size ≤ 1000) (v : Value) (hv : a.eval x = v) (hvs : v.cells.size = size)
    (h : wpList P ops Q rest (a.put o.dst (.slice (some ⟨w.heap.size, 0, none⟩) 1 1)) (w.alloc (.cells v.cells e))) : wpList P ops Q (o :: rest) a w :=
  wpList_plain hgd fun _ hK => wp_build1 t e x ho ie z size hu hie hz hsz hpos hsm v hv hvs (hK _ _ h)
theorem saw1_enter (args : Array Value) (w : World) : (callFunc 37 args).run Try.prog w = .ok (.enter 37 args) w := by go_simp
theorem st_stored (w : World) (s : List Nat) : ∃ w1, Hid ((w.alloc (.cells #[.int .i64 0, .int .i64 0, .int .i64 0, .int .i64 0, .int .i64 0, .int .i64 0, .int .i64 0, .int .i64 0, .int .i64 0, .int .i64 0, .int .i64 0, .int .i64 0, .int .i64 0, .int .i64 0, .int .i64 0, .int .i64 0, .int .i64 0, .int .i64 0, .int .i64 0, .int .i64 0, .int .i64 0, .int .i64 0, .int .i64 0, .int .i64 0, .int .i64 0, .int .i64 0, .int .i64 0, .int .i64 0, .int .i64 0, .int .i64 0, .int .i64 0, .int .i64 0, .int .i64 0, .int .i64 0, .int .i64 0, .int .i64 0, .int .i64 0, .int .i64 0, .int .i64 0, .int .i64 0, .int .i64 0, .int .i64 0, .int .i64 0, .int .i64 0, .int .i64 0, .int .i64 0, .int .i64 0, .int .i64 0, .int .i64 0, .int .i64 0, .int .i64 0, .int .i64 0, .int .i64 0, .int .i64 0, .int .i64 0, .int .i64 0, .int .i64 0, .int .i64 0, .int .i64 0, .int .i64 0, .int .i64 0, .int .i64 0, .int .i64 0, .int .i64 0] 56)).setRow w.heap.size (stA s) = w1) ∧ w1.heap[w.heap.size]? = some (.cells (stA s) 56 (0, 0)) ∧ Below w.heap.size w w1 ∧ w1.heap.size = w.heap.size + 1 :=
  ⟨_, Lib.hid rfl, setRow_heap _ _ _ _ 56 (0, 0) (heap_alloc_new _ _), below_setRow ((Below.refl _ _).alloc (Nat.le_refl _) _) (Nat.le_refl _) _, by rw [size_setRow]; simp⟩
theorem lit_size {s : List Nat} (h : s.length = 64) : (#[.int .i64 0, .int .i64 0, .int .i64 0, .int .i64 0, .int .i64 0, .int .i64 0, .int .i64 0, .int .i64 0, .int .i64 0, .int .i64 0, .int .i64 0, .int .i64 0, .int .i64 0, .int .i64 0, .int .i64 0, .int .i64 0, .int .i64 0, .int .i64 0, .int .i64 0, .int .i64 0, .int .i64 0, .int .i64 0, .int .i64 0, .int .i64 0, .int .i64 0, .int .i64 0, .int .i64 0, .int .i64 0, .int .i64 0, .int .i64 0, .int .i64 0, .int .i64 0, .int .i64 0, .int .i64 0, .int .i64 0, .int .i64 0, .int .i64 0, .int .i64 0, .int .i64 0, .int .i64 0, .int .i64 0, .int .i64 0, .int .i64 0, .int .i64 0, .int .i64 0, .int .i64 0, .int .i64 0, .int .i64 0, .int .i64 0, .int .i64 0, .int .i64 0, .int .i64 0, .int .i64 0, .int .i64 0, .int .i64 0, .int .i64 0, .int .i64 0, .int .i64 0, .int .i64 0, .int .i64 0, .int .i64 0, .int .i64 0, .int .i64 0, .int .i64 0] : Array Value).size = (stA s).size := by rw [stA_size h]; rfl
theorem info_stF : ∃ Z : Value, Z.cells.size = 64 ∧ (Try.prog.info? 56).map (fun i => (i.zero, i.size, i.bytes)) = some (some Z, 64, 512) := ⟨.agg #[.int .i64 0, .int .i64 0, .int .i64 0, .int .i64 0, .int .i64 0, .int .i64 0, .int .i64 0, .int .i64 0, .int .i64 0, .int .i64 0, .int .i64 0, .int .i64 0, .int .i64 0, .int .i64 0, .int .i64 0, .int .i64 0, .int .i64 0, .int .i64 0, .int .i64 0, .int .i64 0, .int .i64 0, .int .i64 0, .int .i64 0, .int .i64 0, .int .i64 0, .int .i64 0, .int .i64 0, .int .i64 0, .int .i64 0, .int .i64 0, .int .i64 0, .int .i64 0, .int .i64 0, .int .i64 0, .int .i64 0, .int .i64 0, .int .i64 0, .int .i64 0, .int .i64 0, .int .i64 0, .int .i64 0, .int .i64 0, .int .i64 0, .int .i64 0, .int .i64 0, .int .i64 0, .int .i64 0, .int .i64 0, .int .i64 0, .int .i64 0, .int .i64 0, .int .i64 0, .int .i64 0, .int .i64 0, .int .i64 0, .int .i64 0, .int .i64 0, .int .i64 0, .int .i64 0, .int .i64 0, .int .i64 0, .int .i64 0, .int .i64 0, .int .i64 0], rfl, by kernel_rfl⟩
theorem st_range {w : World} {g : Nat} {s : List Nat} (h : w.heap[g]? = some (.cells (stA s) 56 (0, 0))) : w.rangeAt g 0 (nC s) := fun j u hu => by
  rw [Nat.zero_add, cell_of_row w g j _ _ _ h]
  unfold stA
  rw [List.getElem?_toArray]
  exact hu
theorem src_st {w w1 : World} {s : List Nat} (hs : s.length = 64) (hw : w.alloc (.cells (stA s) 56) = w1) : Src Try.prog 64 57 (.slice (some ⟨w.heap.size, 0, none⟩) 1 1) 1 (nC s) w1 :=
  Src.ofSlice _ Try.underlying57 ⟨w.heap.size, 0, none⟩ 1 1 (nC s) (by rw [nC_len, hs]) (fun j u hu => by
    rw [Addr.add_lit]
    exact st_range (by rw [← hw]; exact heap_alloc_new _ _) j u hu) (nC_one s)
section
variable {w : World} {B g bm : Nat} {M : Fl} {vt vf vc : Value} {cm : List Ch} {D : DataW Unit}
attribute [local irreducible] stA
set_option maxRecDepth 100000 in
set_option maxHeartbeats 2000000 in
theorem saw1_any (s b : List Nat) (a q4 q7 : Nat) (ao : Option Addr) (c : Nat) (w : World) (hs : s.length = 64) (hb : NatAt w ao b) (hab : a + b.length ≤ 64) (h4 : w.cell? ⟨q4, 0, none⟩ = some (.int .i64 (a : Int))) (h7 : w.cell? ⟨q7, 0, none⟩ = some (.slice ao b.length c)) (l4 : q4 < w.heap.size) (l7 : q7 < w.heap.size) : Calls Try.prog 37 #[.agg (stA s), .pointer (some ⟨q4, 0, none⟩), .pointer (some ⟨q7, 0, none⟩)] w fun e w' => e = .returned (.bool (likeB s a b)) ∧ Below w.heap.size w w' := by
  obtain ⟨w1, HW1, r1, b1, s1⟩ := st_box w s
  have k4 := (b1.cell (p := ⟨q4, 0, none⟩) l4).trans h4
  have k7 := (b1.cell (p := ⟨q7, 0, none⟩) l7).trans h7
  have CL := Lib.hid (like_any s b a ao c w1 hs (hb.below b1) hab)
  have HB1 := Lib.hid b1
  obtain ⟨gs, hgs⟩ : ∃ gs, Hid (w.heap.size = gs) := ⟨_, Lib.hid rfl⟩
  have hinf := stA_info hs
  have hgs1 := hgs.out
  rw [hgs.out] at r1
  generalize b.length = n at *
  generalize likeB s a b = R at *
  generalize stA s = SA at *
  clear b1 s1 h4 h7 hb hab hgs1
  go_enter Try.func37, Try.ntmps37
  go_upto_region 1 with fail
  rw [HW1.out, hgs.out]
  clear HW1
  go_wp2_with (refine wpList_load_row rfl _ _ rfl gs rfl 56 SA (0, 0) _ r1 Try.underlying56 rfl hinf ?_)
  refine CL.out.mono ?_
  rintro e w2 ⟨rfl, b2⟩
  have HB2 := Lib.hid (HB1.out.trans (b2.mono HB1.out.size))
  clear CL r1
  go_wp2_with fail
  go_ret
  exact ⟨rfl, HB2.out⟩
/-- A first state in the row. -/
theorem FlAt.first (h : FlAt w B g M vt vf vc cm bm D) {i : Nat} (hi : i < M.F.length) (hF : ∀ f ∈ M.F, f.length = 64) : ∃ gf cf, vf = .slice (some ⟨gf, 0, none⟩) M.F.length cf ∧ gf < w.heap.size ∧ w.rangeAt gf (i * 64) (nC M.F[i]) := by
  obtain ⟨gf, cf, e, _, _, hgl, hr⟩ := own_rowG h.hf (by omega)
  refine ⟨gf, cf, e, hgl, fun j u hu => ?_⟩
  have hj : j < 64 := by
    have := (List.getElem?_eq_some_iff.1 hu).1
    rwa [nC_len, hF _ (List.getElem_mem hi)] at this
  have := hr (i * 64 + j) u (by rw [flat_at nC 64 M.F i j hi (fun s hs => by rw [nC_len, hF s hs]) hj]; exact hu)
  rwa [Nat.zero_add] at this
/-- The first states that are likely. -/
def sawL (M : Fl) (a : Nat) (b : List Nat) : List (List Nat) := M.F.filter fun f => likeB (foldC M.C f) a b
def sawN (M : Fl) (a : Nat) (b : List Nat) (i : Nat) : List (List Nat) := (M.F.take i).filter fun f => likeB (foldC M.C f) a b
theorem sawN_succ {M : Fl} {a : Nat} {b : List Nat} {i : Nat} (hi : i < M.F.length) : sawN M a b (i + 1) = sawN M a b i ++ (if likeB (foldC M.C M.F[i]) a b = true then [M.F[i]] else []) := by
  unfold sawN
  rw [← List.take_append_getElem hi, List.filter_append]
  congr 1
  by_cases h : likeB (foldC M.C M.F[i]) a b = true
  · rw [if_pos h]; simp [h]
  · rw [if_neg h]; simp [h]
theorem sawN_len (M : Fl) (a : Nat) (b : List Nat) (i : Nat) : (sawN M a b i).length ≤ i := by
  unfold sawN
  exact Nat.le_trans (List.length_filter_le _ _) (by rw [List.length_take]; omega)
theorem sawN_end (M : Fl) (a : Nat) (b : List Nat) : sawN M a b M.F.length = sawL M a b := by unfold sawN sawL; rw [List.take_length]
def SiftR (M : Fl) (a : Nat) (b : List Nat) (w : World) (e : Ending) (w' : World) : Prop := ∃ x c, e = .returned (.slice x (sawL M a b).length c) ∧ w'.ownsRow w.heap.size 56 64 (.slice x (sawL M a b).length c) (sawL M a b).length ((sawL M a b).flatMap nC) ∧ Below w.heap.size w w'
set_option maxRecDepth 100000 in
set_option maxHeartbeats 8000000 in
theorem sift1_any (b : List Nat) (a q1 q4 q7 : Nat) (ao : Option Addr) (c : Nat) (h : FlAt w B g M vt vf vc cm bm D) (hn : M.n ≤ 64) (hC : ChOk M.n M.C) (hCn : M.C.length ≤ 1000000) (hF : ∀ f ∈ M.F, f.length = 64) (hFn : M.F.length ≤ 2000000000) (hb : NatAt w ao b) (hab : a + b.length ≤ 64) (h1 : w.cell? ⟨q1, 0, none⟩ = some (.pointer (some ⟨g, 0, none⟩))) (h4 : w.cell? ⟨q4, 0, none⟩ = some (.int .i64 (a : Int))) (h7 : w.cell? ⟨q7, 0, none⟩ = some (.slice ao b.length c)) (l1 : q1 < w.heap.size) (l4 : q4 < w.heap.size) (l7 : q7 < w.heap.size) : Calls Try.prog 45 #[.func (.func 37) #[] #[.pointer (some ⟨q4, 0, none⟩), .pointer (some ⟨q7, 0, none⟩)], .pointer (some ⟨q1, 0, none⟩)] w (SiftR M a b w) := by
  obtain ⟨Z, hZ, hZi⟩ := info_stF
  obtain ⟨ist, hist, hsz0, hsz1, hsz2⟩ := info_partsF hZi
  have hent := saw1_enter
  have c3 := cell_of_row w g 3 _ _ _ h.hg
  have H := Lib.hid h
  have HC := Lib.hid hC
  have HF := Lib.hid hF
  have HB := Lib.hid hb
  have H0 : Hid (w.ownsRow w.heap.size 56 64 (.slice none 0 0) (sawN M a b 0).length ((sawN M a b 0).flatMap nC)) := Lib.hid (World.ownsRow_nil _ _ _ _)
  have HS := Lib.hid (fun i (hi : i < M.F.length) => sawN_succ (M := M) (a := a) (b := b) hi)
  have HL := Lib.hid (sawN_len M a b)
  have HE := Lib.hid (sawN_end M a b)
  have HSR : Hid (SiftR M a b w = fun e w' => ∃ x c, e = .returned (.slice x (sawL M a b).length c) ∧ w'.ownsRow w.heap.size 56 64 (.slice x (sawL M a b).length c) (sawL M a b).length ((sawL M a b).flatMap nC) ∧ Below w.heap.size w w') := Lib.hid rfl
  obtain ⟨fa, fc, evf⟩ := own_slF h.hf
  obtain ⟨n, hnn⟩ : ∃ n, Hid (M.F.length = n) := ⟨_, Lib.hid rfl⟩
  rw [hnn.out] at evf hFn HE
  subst evf
  clear h hC hF hb
  generalize sawN M a b = SN at *
  have HSL : Hid (SN n = sawL M a b) := Lib.hid HE.out
  go_enter Try.func45, Try.ntmps45
  go_wp2_with fail
  go_loopw [4, 12] (fun s4 s12 wi => ∃ i : Nat, s12 = .int .i64 (i : Int) ∧ i ≤ n ∧ (∃ x c, s4 = .slice x (SN i).length c) ∧ Hid (wi.ownsRow w.heap.size 56 64 s4 (SN i).length ((SN i).flatMap nC)) ∧ Hid (Below w.heap.size w wi) ∧ w.heap.size ≤ wi.heap.size) (fun _ s12 _ => n - (intOf s12).toNat)
  case atStart => exact ⟨0, rfl, by omega, ⟨_, _, by have := HL.out 0; rw [show (SN 0).length = 0 by omega]⟩, by have := HL.out 0; rw [show (SN 0).length = 0 by omega] at H0 ⊢; exact H0, Lib.hid (Below.refl _ _), Nat.le_refl _⟩
  case round =>
    obtain ⟨i, rfl, hi, ⟨x, cx, rfl⟩, HR, HBi, hwi⟩ := hrel
    clear H0 c3
    by_cases hlt : i < n
    · as_aux_lemma =>
      have hli : (i : Int) < (n : Int) := by omega
      have h0i : (0 : Int) ≤ (i : Int) := by omega
      have hiF : i < M.F.length := by rw [hnn.out]; exact hlt
      have Hi := Lib.hid (H.out.below HBi.out)
      obtain ⟨gf, cf, e9, hgf, hrg⟩ := Hi.out.first hiF HF.out
      rw [hnn.out] at e9
      injection e9 with e1 _ e3
      subst e1 e3
      have hfl := HF.out _ (List.getElem_mem hiF)
      have hss := HS.out i hiF
      obtain ⟨f, hf⟩ : ∃ f, Hid (M.F[i] = f) := ⟨_, Lib.hid rfl⟩
      rw [hf.out] at hfl hss hrg
      obtain ⟨w3, HW3, r3, b3, s3⟩ := st_stored wr f
      have BW3 := Lib.hid (HBi.out.trans (b3.mono hwi))
      have H3 := Lib.hid (H.out.below BW3.out)
      have CN := Lib.hid (now_any f H3.out hfl hn HC.out hCn)
      have hnl := foldC_len hn HC.out hfl
      have hinf := stA_info hfl
      have hone := stA_one f
      have hlsz := lit_size hfl
      have hnca : (nC f).toArray = stA f := stA_eq f
      have hncl : (Try.prog.info? 56).map (·.size) = some (nC f).length := by rw [nC_len, hfl]; exact info_st
      obtain ⟨gx, hgx⟩ : ∃ gx, Hid (wr.heap.size = gx) := ⟨_, Lib.hid rfl⟩
      have q1c := (HBi.out.cell (p := ⟨q1, 0, none⟩) l1).trans h1
      have q1c3 := (BW3.out.cell (p := ⟨q1, 0, none⟩) l1).trans h1
      have hg3 := BW3.out.size
      have q4c := Lib.hid (BW3.out.cell (p := ⟨q4, 0, none⟩) l4 |>.trans h4)
      have q7c := Lib.hid (BW3.out.cell (p := ⟨q7, 0, none⟩) l7 |>.trans h7)
      have r3' := r3
      rw [hgx.out] at r3'
      have hgxl : gx < w3.heap.size := by rw [← hgx.out]; exact (Array.getElem?_eq_some_iff.1 r3).1
      have HR3 := Lib.hid (own_at_block HR.out (fun j e => b3.block j (HR.out.lt j e).2))
      go_upto_region 5 with (first | (refine wpList_load_mid rfl 56 _ rfl gf (i * 64) rfl (nC f) _ hrg Try.underlying56 rfl hncl ?_; rw [hnca]) | (refine wpList_store_row rfl _ _ _ rfl wr.heap.size (stA f) rfl rfl 56 _ (heap_alloc_new _ _) hinf hlsz hone ?_))
      rw [HW3.out, hgx.out]
      clear HW3 r3 b3 hrg hlsz HR Hi
      go_wp2_with (refine wpList_load_row rfl _ _ rfl gx rfl 56 (stA f) (0, 0) _ r3' Try.underlying56 rfl hinf ?_)
      refine CN.out.mono ?_
      rintro e w4 ⟨rfl, b4⟩
      have BW4 := Lib.hid (BW3.out.trans (b4.mono hg3))
      have r4 := (b4.block gx hgxl).trans r3'
      have CS := Lib.hid (saw1_any (foldC M.C f) b a q4 q7 ao c w4 hnl (HB.out.below BW4.out) hab ((BW4.out.cell (p := ⟨q4, 0, none⟩) l4).trans h4) ((BW4.out.cell (p := ⟨q7, 0, none⟩) l7).trans h7) (Nat.lt_of_lt_of_le l4 BW4.out.size) (Nat.lt_of_lt_of_le l7 BW4.out.size))
      have HR4 := Lib.hid (own_at_block HR3.out (fun j e => b4.block j (HR3.out.lt j e).2))
      have hgx4 : gx < w4.heap.size := Nat.lt_of_lt_of_le hgxl b4.size
      have hwx4 : w.heap.size ≤ w4.heap.size := BW4.out.size
      obtain ⟨R, hR⟩ : ∃ R, likeB (foldC M.C f) a b = R := ⟨_, rfl⟩
      rw [hR] at CS hss
      have HSS := Lib.hid hss
      generalize stA (foldC M.C f) = SX at *
      clear CN b4 r3' HR3 hss hR hnl
      go_wp2_with fail
      refine CS.out.mono ?_
      rintro e w5 ⟨rfl, b5⟩
      have BW5 := Lib.hid (BW4.out.trans (b5.mono hwx4))
      have r5 := (b5.block gx hgx4).trans r4
      have HR5 := Lib.hid (own_at_block HR4.out (fun j e => b5.block j (HR4.out.lt j e).2))
      have hwx5 : w.heap.size ≤ w5.heap.size := BW5.out.size
      clear CS b5 r4 HR4
      have hln := HL.out i
      cases R with
      | false =>
        as_aux_lemma =>
        have hs1 : SN (i + 1) = SN i := by rw [HSS.out]; simp
        go_wp2_with fail
        go_roundw
        case rel => exact ⟨i + 1, by go_num, by omega, ⟨_, _, by rw [hs1]⟩, by rw [hs1]; exact HR5, BW5, hwx5⟩
        case measure => simp [intOf]; omega
      | true =>
        as_aux_lemma =>
        have hs1 : SN (i + 1) = SN i ++ [f] := by rw [HSS.out]; simp
        obtain ⟨m, hm⟩ : ∃ m, Hid ((SN i).length = m) := ⟨_, Lib.hid rfl⟩
        rw [hm.out] at hln
        have hrow := HR5.out
        rw [hm.out] at hrow
        obtain ⟨w6, hw6⟩ : ∃ w6, w5.alloc (.cells (stA f) 56) = w6 := ⟨_, rfl⟩
        have ba : Below w5.heap.size w5 w6 := by rw [← hw6]; exact (Below.refl _ _).alloc (Nat.le_refl _) _
        have hsrc := src_st hfl hw6
        have hrow6 := own_at_block hrow (fun j e => ba.block j (hrow.lt j e).2)
        have o1 : m + 1 ≤ maxLen := by unfold maxLen; omega
        have o2 : (m + 1) * 512 ≤ 140737488355328 := by omega
        have o3 : w.heap.size ≤ w6.heap.size := Nat.le_trans hwx5 ba.size
        have HW6 := Lib.hid hw6
        rw [hm.out]
        have hcl0 : (Value.agg (stA f)).cells = stA f := rfl
        have hcz : (Value.agg (stA f)).cells.size = 64 := stA_size hfl
        clear hw6
        go_wp2_with (first | (refine wpList_load_row rfl _ _ rfl gx rfl 56 (stA f) (0, 0) _ r5 Try.underlying56 rfl hinf ?_) | (refine wpList_build1 rfl 57 56 _ rfl ist Z 64 Try.underlying57 hist hsz0 hsz1 (by decide) (by decide) (.agg (stA f)) rfl hcz ?_) | (at_builtin; (first | rw [HW6.out] | rw [hcl0, HW6.out]); refine wpList_append_src2 _ rfl _ _ 57 57 rfl w.heap.size 56 ist Z 64 512 Try.underlying57 hist hsz0 hsz1 hsz2 hZ (by decide) (.slice x m cx) m ((SN i).flatMap nC) rfl hrow6 _ 1 (nC f) rfl hsrc o1 o2 o3 ?_))
        intro v' w7 hown7 hg7 hloc7
        have HB7 := Lib.hid ((BW5.out.trans (ba.mono hwx5)).grown hg7 o3 (fun j e => (hrow.lt j e).1))
        have hw7 : w.heap.size ≤ w7.heap.size := Nat.le_trans o3 hg7.size
        obtain ⟨a7, c7, rfl⟩ := own_slF hown7
        have HRN : Hid (w7.ownsRow w.heap.size 56 64 (.slice a7 (m + 1) c7) (SN (i + 1)).length ((SN (i + 1)).flatMap nC)) := Lib.hid (by
          rw [hs1, List.length_append, hm.out, List.flatMap_append]
          simpa using hown7)
        have hl1 : (SN (i + 1)).length = m + 1 := by rw [hs1, List.length_append, hm.out]; rfl
        clear hown7 hg7 hloc7 ba hrow hrow6 hsrc o1 o2 o3 HR5 BW5 r5
        go_wp2_with fail
        go_roundw
        case rel => exact ⟨i + 1, by go_num, by omega, ⟨_, _, by rw [hl1]⟩, HRN, HB7, hw7⟩
        case measure => simp [intOf]; omega
    · as_aux_lemma =>
      have hli : ¬ (i : Int) < (n : Int) := by omega
      obtain rfl : i = n := by omega
      rw [HSR.out]
      rw [HSL.out] at HR ⊢
      go_wp2_with fail
      go_ret
      exact ⟨_, _, rfl, HR.out, HBi.out⟩
end
end Go.Proofs.Ytaemnelfnopjdaa
