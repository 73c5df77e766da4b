/- The law's do (flat), walked. -/
import Derived.Test.YtaemnelfnopjdaaFcJ
namespace Go.Proofs.Ytaemnelfnopjdaa
open Go.ChangeShapes Go.WideShapes Go.Deep Go.RowKit Go.Maps
set_option linter.unusedVariables false
set_option linter.unusedSimpArgs false
theorem cube_eq (a : Nat) : a ^ 3 = a * a * a := by rw [Nat.pow_succ, Nat.pow_succ, Nat.pow_succ, Nat.pow_zero, Nat.one_mul]
theorem cube_step (j : Nat) : (j + 4) ^ 3 ≤ 3 * (j + 3) ^ 3 := by
  rw [cube_eq, cube_eq]
  have e4 : (j + 4) * (j + 4) = j * j + 8 * j + 16 := by rw [Nat.add_mul, Nat.mul_add, Nat.mul_add]; omega
  have e3 : (j + 3) * (j + 3) = j * j + 6 * j + 9 := by rw [Nat.add_mul, Nat.mul_add, Nat.mul_add]; omega
  have f4 : (j + 4) * (j + 4) * (j + 4) = j * j * j + 12 * (j * j) + 48 * j + 64 := by
    rw [e4, Nat.mul_add, Nat.add_mul, Nat.add_mul, Nat.mul_assoc 8]
    generalize j * j * j = p
    generalize j * j = q
    omega
  have f3 : (j + 3) * (j + 3) * (j + 3) = j * j * j + 9 * (j * j) + 27 * j + 27 := by
    rw [e3, Nat.mul_add, Nat.add_mul, Nat.add_mul, Nat.mul_assoc 6]
    generalize j * j * j = p
    generalize j * j = q
    omega
  rw [f4, f3]
  generalize j * j * j = p
  generalize j * j = q
  omega
theorem cube_le : ∀ n : Nat, (n + 1) ^ 3 ≤ 3 ^ (n + 1)
  | 0 => by decide
  | 1 => by decide
  | 2 => by decide
  | j + 3 => by
    have h := cube_le (j + 2)
    have h2 := cube_step j
    rw [Nat.pow_succ 3 (j + 3), Nat.mul_comm]
    have h : (j + 3) ^ 3 ≤ 3 ^ (j + 3) := h
    have h3 : (j + 3 + 1) ^ 3 = (j + 4) ^ 3 := rfl
    rw [h3]
    omega
theorem GrowF.wr (M : Fl) (a : Nat) (l : List UInt8) (k : Nat) (hk : k ≤ 70) : GrowF M (wrM M a l k) := by
  obtain ⟨h1, h2⟩ := wrM_len M a l k
  refine ⟨rfl, by omega, by omega, ?_⟩
  rw [h2]
  show M.F.length ^ 3 * 3 ^ (M.C.length + 1) ≤ _
  rw [Nat.pow_succ 3, ← Nat.mul_assoc]; omega
theorem GrowF.disc (M : Fl) (c : Nat × List Nat) : GrowF M { M with C := M.C ++ [c] } := by
  refine ⟨rfl, by show M.T.length ≤ _; omega, by show (M.C ++ [c]).length ≤ _; simp, ?_⟩
  show M.F.length ^ 3 * 3 ^ (M.C ++ [c]).length ≤ _
  rw [List.length_append, List.length_singleton, Nat.pow_succ 3, ← Nat.mul_assoc]; omega
theorem grow_fewer {M : Fl} {F : List (List Nat)} (h : F.length ≤ M.F.length) : GrowF M { M with F := F } := by
  refine ⟨rfl, by show M.T.length ≤ _; omega, by show M.C.length ≤ _; omega, ?_⟩
  show F.length ^ 3 * 3 ^ M.C.length ≤ _
  have h1 := Nat.mul_le_mul_right (3 ^ M.C.length) (Nat.pow_le_pow_left h 3)
  omega
theorem GrowF.saw (M : Fl) (a : Int) (s : ByteArray) : GrowF M (sawM M a s) := by
  unfold sawM
  split
  · exact grow_fewer (List.length_filter_le _ _)
  · exact GrowF.refl M
theorem GrowF.safe (M : Fl) : GrowF M { M with F := M.F.map (foldC M.C), C := [] } := by
  refine ⟨rfl, by show M.T.length ≤ _; omega, by simp, ?_⟩
  show (M.F.map (foldC M.C)).length ^ 3 * 3 ^ 0 ≤ _
  rw [List.length_map, Nat.pow_zero, Nat.mul_one]
  have h1 := Nat.mul_le_mul_left (M.F.length ^ 3) (Nat.one_le_pow M.C.length 3 (by omega))
  omega
theorem crashL_len (M : Fl) : (crashL M).length ≤ M.F.length * (M.C.length + 1) := by
  have h1 := crL_len (M.F.flatMap (chainF M.C))
  have h2 := crIn_len M M.F.length
  unfold crIn at h2
  rw [List.take_length] at h2
  unfold crashL
  omega
theorem GrowF.crash (M : Fl) : GrowF M { M with F := crashL M, C := [] } := by
  refine ⟨rfl, by show M.T.length ≤ _; omega, by simp, ?_⟩
  show (crashL M).length ^ 3 * 3 ^ 0 ≤ _
  rw [Nat.pow_zero, Nat.mul_one]
  have h1 := Nat.pow_le_pow_left (crashL_len M) 3
  rw [Nat.mul_pow] at h1
  have h2 := Nat.mul_le_mul_left (M.F.length ^ 3) (cube_le M.C.length)
  rw [Nat.pow_succ 3 M.C.length, ← Nat.mul_assoc] at h2
  omega
theorem act_ne {w : World} {x gx : Nat} {n gc cap B : Nat} {cs : List RC} (h : RfW w B x n cs gc cap) (hk : tyAt w gx = some 32) : gx ∉ [x] := fun hm => by
  rw [List.mem_singleton.1 hm, tyAt_cells h.hg] at hk
  revert hk; decide
theorem zb_list (q : Nat) : ((⟨(List.replicate q (0 : UInt8)).toArray⟩ : ByteArray)).data.toList = List.replicate q 0 := by simp
section
variable {w : World} {B f x gc cap : Nat} {OL CL : List Nat} {M : Fl} {cs : List RC}
set_option maxRecDepth 100000 in
set_option maxHeartbeats 16000000 in
theorem do_any (a : AcF) (ha : AcOk a) (h : PairF w B f x OL CL M cs gc cap) (hT : M.T.length ≤ 60000) (hC : M.C.length ≤ 60) (hFC : M.F.length * (1 + M.C.length) ≤ 200000) : Calls Try.prog 10 #[.pointer (some ⟨f, 0, none⟩), .pointer (some ⟨x, 0, none⟩), acV a] w fun e w' => e = .returned (.bool true) ∧ PairS w w' B f x OL CL M cs gc := by
  have hF2 : M.F.length ≤ 200000 := Nat.le_trans (Nat.le_mul_of_pos_right _ (by omega)) hFC
  have hFC2 : M.F.length * (M.C.length + 1) ≤ 200000 := by rw [Nat.add_comm]; exact hFC
  obtain ⟨w1, HW1, r1, b1, s1⟩ := act_boxF w a
  have CD := Lib.hid (data_any a w1)
  have hacv : acV a = .agg #[.int .i64 a.k, .int .i64 a.a, .int .i64 a.n, .int .u8 (a.c.toNat : Int), .bool a.o] := rfl
  rw [hacv] at CD ⊢
  have hsb := datB_size a
  obtain ⟨s, hs⟩ : ∃ s, daB a = s := ⟨_, rfl⟩
  rw [hs] at CD hsb
  obtain ⟨gx, hgx⟩ : ∃ gx, Hid (w.heap.size = gx) := ⟨_, Lib.hid rfl⟩
  rw [hgx.out] at r1
  have hgxl : gx < w1.heap.size := (Array.getElem?_eq_some_iff.1 r1).1
  obtain ⟨xk, xa, xn, xc, xo⟩ := a
  simp only at r1 HW1 CD ⊢
  have k0 : w1.cell? ⟨gx, 0, none⟩ = some (.int .i64 xk) := cell_of_row w1 gx 0 _ _ _ r1
  have k1 : w1.cell? ⟨gx, 1, none⟩ = some (.int .i64 xa) := cell_of_row w1 gx 1 _ _ _ r1
  have k2 : w1.cell? ⟨gx, 2, none⟩ = some (.int .i64 xn) := cell_of_row w1 gx 2 _ _ _ r1
  have k3 : w1.cell? ⟨gx, 3, none⟩ = some (.int .u8 (xc.toNat : Int)) := cell_of_row w1 gx 3 _ _ _ r1
  have k4 : w1.cell? ⟨gx, 4, none⟩ = some (.bool xo) := cell_of_row w1 gx 4 _ _ _ r1
  obtain ⟨ok1, ok2, ok3⟩ := ha
  simp only at ok1 ok2 ok3
  have hty1 : tyAt w1 gx = some 32 := tyAt_cells r1
  have hBw := h.bw
  have H1 := Lib.hid (h.below b1)
  have HB1 := Lib.hid b1
  clear hs hacv r1 b1 s1 h
  go_enter Try.func10, Try.ntmps10
  go_upto_region 1 with fail
  rw [HW1.out, hgx.out]
  clear HW1
  go_wp2_with fail
  refine CD.out.mono ?_
  rintro e w5 ⟨rfl, b5⟩
  have H5 := Lib.hid (H1.out.below b5)
  have HB5 := Lib.hid (HB1.out.trans (b5.mono HB1.out.size))
  have k0 := (b5.cell (p := ⟨gx, 0, none⟩) hgxl).trans k0
  have k1 := (b5.cell (p := ⟨gx, 1, none⟩) hgxl).trans k1
  have k2 := (b5.cell (p := ⟨gx, 2, none⟩) hgxl).trans k2
  have hgx5 := Nat.lt_of_lt_of_le hgxl b5.size
  have hty : tyAt w5 gx = some 32 := (tyAt_same (b5.block gx hgxl)).trans hty1
  have HGX : Hid (gx ∉ OL) := Lib.hid (fun hm => H5.out.fl.noact hty hm)
  have HGY : Hid (gx ∉ [x]) := Lib.hid (act_ne H5.out.rf hty)
  have hn64 := H5.out.ok.n64
  have CX := Lib.hid (rdata_any M.n xa s (cell_of_row w5 x 0 _ _ _ H5.out.rf.hg) hn64 (by omega))
  have HLC := Lib.hid (And.intro H5.out.rel.len (fun c (hc : c ∈ cs) => H5.out.rel.clen hc))
  have HLA := Lib.hid (fun c (hc : c ∈ cs) => (by obtain ⟨_, _, _, e⟩ := H5.out.rel.last H5.out.ok hc; exact e : (lastT c).length = 48 * M.n))
  have hcsl : cs.length ≤ 1000000 := by rw [HLC.out.1]; omega
  have HCL : Hid (∀ c ∈ cs, c.L.length ≤ 1000000) := Lib.hid (fun c hc => by rw [HLC.out.2 c hc]; omega)
  have HNE := Lib.hid (H5.out.rel.ne H5.out.ok)
  clear CD b5 H1 HB1 k3 k4 hty hty1
  have hb5 : B ≤ w5.heap.size := H5.out.bw
  go_wp2_with fail
  refine CX.out.mono ?_
  rintro e w' ⟨rfl, rfl⟩
  clear CX
  by_cases hk012 : xk = 0 ∨ xk = 1 ∨ xk = 2
  · as_aux_lemma =>
    have hwn : wholeN s.size ≤ 70 := by unfold wholeN; split <;> omega
    by_cases hr : refF M.n xa (wholeN s.size : Int) = 0
    · as_aux_lemma =>
      obtain ⟨p1, p2, p3⟩ := refF_ok hr
      have hsz := whole_ok (n := s.size) p1
      obtain ⟨A, rfl⟩ : ∃ A : Nat, xa = (A : Int) := ⟨xa.toNat, by omega⟩
      obtain ⟨kk, hkk⟩ : ∃ kk, wholeN s.size = kk := ⟨_, rfl⟩
      have CR := Lib.hid (rwrite_any A kk s H5.out.rf hb5 HNE.out hcsl HCL.out (fun c hc => by rw [HLA.out c hc]; omega) (by omega) (by omega))
      have CW := Lib.hid (fun w1 (h : FlW w1 B f OL CL M) => write_yes (A : Int) s h hn64 (by omega) hr (by omega) (by omega))
      rw [hkk, show ((A : Int)).toNat = A by omega] at CW
      have hls : s.data.toList.length = 48 * kk := (Array.length_toList).trans (show s.size = 48 * kk by omega)
      have HOK := Lib.hid (wrM_ok H5.out.ok (a := A) hls (by omega) (by omega))
      have HREL := Lib.hid (fun new hn => rel_wr (new := new) H5.out.ok H5.out.rel (a := A) hls (by omega) (by omega) hn)
      have HGR := Lib.hid (GrowF.wr M A s.data.toList kk (by omega))
      obtain ⟨MT, hMT⟩ : ∃ MT, wrM M A s.data.toList kk = MT := ⟨_, rfl⟩
      rw [hMT] at CW HOK HREL HGR
      rw [hr]
      clear hr hMT hkk hls hsz p1 p2 p3
      rcases hk012 with rfl | rfl | rfl
      all_goals
        go_wp2_with fail
        refine CR.out.mono ?_
        rintro e w6 ⟨rfl, new, gc6, cap6, f6, n6, kq6, l6, g6⟩
        have k1 := (kq6.other_cell hgx5 HGY.out).trans k1
        have HS := Lib.hid (fun w2 (fs : FlS w6 w2 B f OL CL MT) => PairF.step H5.out f6 kq6 (Or.inr g6) (fun c hc => Or.inr (l6 c hc)) fs HOK.out (HREL.out new n6) HGR.out)
        have HFW := Lib.hid (H5.out.flw kq6)
        clear CR f6 n6 kq6 l6 g6
        go_wp2_with fail
        refine (CW.out _ HFW.out).mono ?_
        rintro e w7 ⟨rfl, f7⟩
        have HP := Lib.hid ((HS.out w7 f7).after HB5.out hBw)
        clear f7 CW HS
        go_wp2_with fail
        go_ret
        exact ⟨rfl, HP.out⟩
    · as_aux_lemma =>
      have CW := Lib.hid (write_no xa s H5.out.fl hn64 (by omega) hr)
      obtain ⟨r, hrr⟩ : ∃ r, refF M.n xa (wholeN s.size : Int) = r := ⟨_, rfl⟩
      rw [hrr] at CW hr ⊢
      have hr1 : (r == 0) = false := by simpa using hr
      have HP := Lib.hid (H5.out.refl.after HB5.out hBw)
      clear hrr hr
      rcases hk012 with rfl | rfl | rfl
      all_goals
        go_wp2_with fail
        refine CW.out.mono ?_
        rintro e w' ⟨rfl, rfl⟩
        go_wp2_with fail
        go_ret
        exact ⟨by simp, HP.out⟩
  · as_aux_lemma =>
    have h0 : (xk == 0) = false := by simp; omega
    have h1 : (xk == 1) = false := by simp; omega
    have h2 : (xk == 2) = false := by simp; omega
    by_cases h3 : xk = 3
    · as_aux_lemma =>
      subst h3
      clear h0 h1 h2 hk012
      have CM := Lib.hid (rmay_any M.n xa xn (cell_of_row w5 x 0 _ _ _ H5.out.rf.hg) hn64 ok3.2)
      by_cases hr : refF M.n xa xn = 0
      · as_aux_lemma =>
        obtain ⟨p1, p2, p3⟩ := refF_ok hr
        obtain ⟨A, rfl⟩ : ∃ A : Nat, xa = (A : Int) := ⟨xa.toNat, by omega⟩
        obtain ⟨kk, rfl⟩ : ∃ kk : Nat, xn = (kk : Int) := ⟨xn.toNat, by omega⟩
        have CZ := Lib.hid (fun w => zeros_anyF (48 * kk) w (by omega))
        obtain ⟨q, hq⟩ : ∃ q, 48 * kk = q := ⟨_, rfl⟩
        have ek : (48 : Int) * (kk : Int) = (q : Int) := by omega
        have wk : IntKind.i64.wrap (q : Int) = (q : Int) := by rw [IntKind.wrap_i64]; omega
        have hzl := zb_list q
        obtain ⟨ZB, hZB⟩ : ∃ ZB : ByteArray, (⟨(List.replicate q (0 : UInt8)).toArray⟩ : ByteArray) = ZB := ⟨_, rfl⟩
        have hZs : ZB.size = q := by rw [← hZB, bytes_size, List.length_replicate]
        rw [hZB] at hzl
        rw [hq, hZB] at CZ
        have CR := Lib.hid (fun w6 (h : PairF w6 B f x OL CL M cs gc cap) => rwrite_any A kk ZB h.rf h.bw HNE.out hcsl HCL.out (fun c hc => by rw [HLA.out c hc]; omega) (by omega) (by omega))
        rw [hzl] at CR
        have CW := Lib.hid (fun w1 (h : FlW w1 B f OL CL M) => discard_yes (A : Int) (kk : Int) h hn64 hr (by omega))
        rw [show ((A : Int)).toNat = A by omega, show ((kk : Int)).toNat = kk by omega] at CW
        have HOK := Lib.hid (disc_ok H5.out.ok (a := A) (k := kk) (by omega) (by omega))
        have HREL := Lib.hid (fun new hn => rel_disc (new := new) H5.out.ok H5.out.rel (a := A) (k := kk) (by omega) (by omega) hn)
        rw [hq] at HREL
        have HGR := Lib.hid (GrowF.disc M (A, List.replicate kk 0))
        obtain ⟨MT, hMT⟩ : ∃ MT : Fl, ({ M with C := M.C ++ [(A, List.replicate kk 0)] } : Fl) = MT := ⟨_, rfl⟩
        rw [hMT] at CW HOK HREL HGR
        rw [hr] at CM
        clear hr hMT hZs hzl hZB hq p1 p2 p3
        have H7 := Lib.hid (H5.out.below (Below.refl w5.heap.size w5).drew)
        have HB7 := Lib.hid HB5.out.drew
        have i1 : w5.drew.cell? ⟨gx, 1, none⟩ = some (.int .i64 (A : Int)) := k1
        have i2 : w5.drew.cell? ⟨gx, 2, none⟩ = some (.int .i64 (kk : Int)) := k2
        have hgx6 : gx < w5.drew.heap.size := hgx5
        go_wp2_with fail
        refine CM.out.mono ?_
        rintro e w' ⟨rfl, rfl⟩
        clear CM
        go_upto_region 13 with fail
        refine wp_region_lin_all (S := (fun w' => w'.cell? ⟨gx, 1, none⟩ = some (.int .i64 (A : Int)) ∧ w'.cell? ⟨gx, 2, none⟩ = some (.int .i64 (kk : Int)))) [(0, true), (1, true), (2, true), (3, true), (4, true), (5, true), (6, false), (7, false)] (by kernel_rfl) (by kernel_rfl) rfl (by kernel_rfl) ?_ (fun hHeld => ?_)
        · (try dsimp only); exact ⟨k1, k2⟩
        generalize World.drew w5 = w7 at *
        (refine wpL_calm (o := { dst := some 52, op := Go.Op.move (Go.Operand.tmp 1), type := 28, pos := "law.go:59", after := #[], guard := none }) (v := ?_) rfl (Or.inl ⟨by rfl, ?_⟩) ?_; rotate_left; (focus (intro w hSw; (try dsimp only at hSw); go_simp; (try (with_reducible rfl)); done)); try simp only [Act.put, List.setIfInBounds_toArray, List.set_cons_zero, List.set_cons_succ])
        (refine wpL_calm (o := { dst := some 53, op := Go.Op.fieldAddr 32 (Go.Operand.tmp 5) 1, type := 0, pos := "law.go:59", after := #[], guard := none }) (v := ?_) rfl (Or.inl ⟨by rfl, ?_⟩) ?_; rotate_left; (focus (intro w hSw; (try dsimp only at hSw); go_simp; (try (with_reducible rfl)); done)); try simp only [Act.put, List.setIfInBounds_toArray, List.set_cons_zero, List.set_cons_succ])
        (refine wpL_calm (o := { dst := some 54, op := Go.Op.load 3 (Go.Operand.tmp 53), type := 3, pos := "law.go:59", after := #[{ on := 1, ground := Go.Ground.data }], guard := none }) (v := ?_) rfl (Or.inl ⟨by rfl, ?_⟩) ?_; rotate_left; (focus (intro w hSw; (try dsimp only at hSw); go_simp; (try (with_reducible rfl)); done)); try simp only [Act.put, List.setIfInBounds_toArray, List.set_cons_zero, List.set_cons_succ])
        (refine wpL_calm (o := { dst := some 55, op := Go.Op.fieldAddr 32 (Go.Operand.tmp 5) 2, type := 0, pos := "law.go:59", after := #[], guard := none }) (v := ?_) rfl (Or.inl ⟨by rfl, ?_⟩) ?_; rotate_left; (focus (intro w hSw; (try dsimp only at hSw); go_simp; (try (with_reducible rfl)); done)); try simp only [Act.put, List.setIfInBounds_toArray, List.set_cons_zero, List.set_cons_succ])
        (refine wpL_calm (o := { dst := some 56, op := Go.Op.load 3 (Go.Operand.tmp 55), type := 3, pos := "law.go:59", after := #[{ on := 3, ground := Go.Ground.data }], guard := none }) (v := ?_) rfl (Or.inl ⟨by rfl, ?_⟩) ?_; rotate_left; (focus (intro w hSw; (try dsimp only at hSw); go_simp; (try (with_reducible rfl)); done)); try simp only [Act.put, List.setIfInBounds_toArray, List.set_cons_zero, List.set_cons_succ])
        (refine wpL_calm (o := { dst := some 57, op := Go.Op.binOp Go.BinOp.mul 3 (Go.Operand.const (Go.Value.int Go.IntKind.i64 48)) (Go.Operand.tmp 56) 3, type := 3, pos := "law.go:59", after := #[{ on := 4, ground := Go.Ground.data }], guard := none }) (v := ?_) rfl (Or.inl ⟨by rfl, ?_⟩) ?_; rotate_left; (focus (intro w hSw; (try dsimp only at hSw); go_simp; (try (with_reducible rfl)); done)); try simp only [Act.put, List.setIfInBounds_toArray, List.set_cons_zero, List.set_cons_succ])
        refine wpL_loud1 (o := { dst := some 58, op := Go.Op.call { callee := Go.Callee.value (Go.Operand.func 14), args := #[Go.Operand.tmp 57], argTypes := #[3] }, type := 9, pos := "law.go:59", after := #[{ on := 5, ground := Go.Ground.data }], guard := none }) rfl (fun K hK => ?_)
        (go_simp; go_at_call 14; refine (CZ.out _).mono ?_; rintro e w9 ⟨rfl, b9⟩; have H9 := Lib.hid (H7.out.below b9); have HB9 := Lib.hid (HB7.out.trans (b9.mono HB7.out.size)); have hgx9 := Nat.lt_of_lt_of_le hgx6 b9.size; have j1 := (b9.cell (p := ⟨gx, 1, none⟩) hgx6).trans i1; have j2 := (b9.cell (p := ⟨gx, 2, none⟩) hgx6).trans i2)
        try go_wp2_with fail
        refine hK.out _ _ ?_ (fun hHeld => ?_)
        · (try dsimp only); exact ⟨j1, j2⟩
        clear hK K
        try simp only [Act.put, List.setIfInBounds_toArray, List.set_cons_zero, List.set_cons_succ]
        refine wpL_loud1 (o := { dst := some 59, op := Go.Op.call { callee := Go.Callee.value (Go.Operand.func 25), args := #[Go.Operand.tmp 52, Go.Operand.tmp 54, Go.Operand.tmp 58], argTypes := #[28, 3, 9] }, type := 0, pos := "law.go:59", after := #[{ on := 0, ground := Go.Ground.data }, { on := 2, ground := Go.Ground.data }, { on := 6, ground := Go.Ground.data }, { on := 6, ground := Go.Ground.chain }], guard := none }) rfl (fun K hK => ?_)
        (go_simp; go_at_call 25; refine (CR.out _ H9.out).mono ?_; rintro e w6 ⟨rfl, new, gc6, cap6, f6, n6, kq6, l6, g6⟩; have k1 := (kq6.other_cell hgx9 HGY.out).trans j1; have k2 := (kq6.other_cell hgx9 HGY.out).trans j2)
        try go_wp2_with fail
        refine hK.out _ _ ?_ (fun hHeld => ?_)
        · (try dsimp only); exact ⟨k1, k2⟩
        clear hK K
        try simp only [Act.put, List.setIfInBounds_toArray, List.set_cons_zero, List.set_cons_succ]
        refine wpL_nil ?_
        refine NoPanic.normal ?_
        have HS := Lib.hid (fun w2 (fs : FlS w6 w2 B f OL CL MT) => PairF.step H9.out f6 kq6 (Or.inr g6) (fun c hc => Or.inr (l6 c hc)) fs HOK.out (HREL.out new n6) HGR.out)
        have HFW := Lib.hid (H9.out.flw kq6)
        clear CR f6 n6 kq6 l6 g6
        go_wp2_with fail
        refine (CW.out _ HFW.out).mono ?_
        rintro e w8 ⟨rfl, f8⟩
        have HP := Lib.hid ((HS.out w8 f8).after HB9.out hBw)
        clear f8 CW HS
        go_wp2_with fail
        go_ret
        exact ⟨rfl, HP.out⟩
      · as_aux_lemma =>
        have CW := Lib.hid (discard_no xa xn H5.out.fl hn64 ok3.2 hr)
        obtain ⟨r, hrr⟩ : ∃ r, refF M.n xa xn = r := ⟨_, rfl⟩
        rw [hrr] at CW CM hr
        have hr1 : (r == 0) = false := by simpa using hr
        have HP := Lib.hid (H5.out.refl.after HB5.out hBw)
        clear hrr hr
        go_wp2_with fail
        refine CM.out.mono ?_
        rintro e w' ⟨rfl, rfl⟩
        go_wp2_with fail
        refine CW.out.mono ?_
        rintro e w' ⟨rfl, rfl⟩
        go_wp2_with fail
        go_ret
        exact ⟨by simp, HP.out⟩
    · as_aux_lemma =>
      have h3' : (xk == 3) = false := by simpa using h3
      by_cases h5 : xk = 5
      · as_aux_lemma =>
        subst h5
        clear h0 h1 h2 h3 h3' hk012
        have CW := Lib.hid (saw_any xa s H5.out.fl hn64 (by omega) H5.out.ok.ch (by omega) H5.out.ok.f64 (by omega))
        by_cases hr : refF M.n xa (wholeN s.size : Int) = 0
        · as_aux_lemma =>
          obtain ⟨p1, p2, p3⟩ := refF_ok hr
          have hsz := whole_ok (n := s.size) p1
          obtain ⟨hd, hrel⟩ := rel_saw H5.out.ok H5.out.rel hr
          have HOK := Lib.hid (sawM_ok H5.out.ok xa s)
          have HGR := Lib.hid (GrowF.saw M xa s)
          obtain ⟨A, rfl⟩ : ∃ A : Nat, xa = (A : Int) := ⟨xa.toNat, by omega⟩
          rw [show ((A : Int)).toNat = A by omega] at hd hrel
          have CR := Lib.hid (fun w6 (h : RfW w6 B x M.n cs gc cap) (hb : B ≤ w6.heap.size) => rsaw_any A s h hb hcsl HCL.out (fun c hc => by rw [HLA.out c hc]; omega) (by omega) (by omega) (fun c hc => (h.row c hc).1.1))
          rw [hd] at CR
          have HRS := Lib.hid (show ∀ c ∈ (if seenC (48 * A) (48 * A + s.size) s cs = [] then cs else seenC (48 * A) (48 * A + s.size) s cs), (∃ d ∈ cs, c.b = d.b) from fun c hc => by
            split at hc
            · exact ⟨c, hc, rfl⟩
            · exact ⟨c, (List.mem_filter.1 hc).1, rfl⟩)
          generalize (if seenC (48 * A) (48 * A + s.size) s cs = [] then cs else seenC (48 * A) (48 * A + s.size) s cs) = new at *
          obtain ⟨MT, hMT⟩ : ∃ MT, sawM M (A : Int) s = MT := ⟨_, rfl⟩
          rw [hMT] at CW HOK hrel HGR
          have HREL := Lib.hid hrel
          obtain ⟨sb, hsb2⟩ : ∃ sb, sawB M (A : Int) s = sb := ⟨_, rfl⟩
          rw [hsb2] at CW CR
          rw [hr]
          have HW7 := Lib.hid (H5.out.below (Below.refl w5.heap.size w5).drew)
          have HB7 := Lib.hid HB5.out.drew
          have i1 : w5.drew.cell? ⟨gx, 1, none⟩ = some (.int .i64 (A : Int)) := k1
          have hgx6 : gx < w5.drew.heap.size := hgx5
          have CW7 := Lib.hid (saw_any (A : Int) s HW7.out.fl hn64 (by omega) H5.out.ok.ch (by omega) H5.out.ok.f64 (by omega))
          rw [hMT, hsb2] at CW7
          clear hr hMT hd hrel hsb2 p1 p2 p3 hsz CW
          go_upto_region 18 with fail
          refine wp_region_lin_all (S := (fun w' => w'.cell? ⟨gx, 1, none⟩ = some (.int .i64 (A : Int)))) [(0, true), (1, true), (2, true), (3, true), (5, true), (6, true), (7, true), (8, true), (4, false), (9, false), (10, true), (11, true)] (by kernel_rfl) (by kernel_rfl) rfl (by kernel_rfl) ?_ (fun hHeld => ?_)
          · (try dsimp only); exact k1
          generalize World.drew w5 = w7 at *
          (refine wpL_calm (o := { dst := some 78, op := Go.Op.move (Go.Operand.tmp 0), type := 23, pos := "law.go:66", after := #[], guard := none }) (v := ?_) rfl (Or.inl ⟨by rfl, ?_⟩) ?_; rotate_left; (focus (intro w hSw; (try dsimp only at hSw); go_simp; (try (with_reducible rfl)); done)); try simp only [Act.put, List.setIfInBounds_toArray, List.set_cons_zero, List.set_cons_succ])
          (refine wpL_calm (o := { dst := some 79, op := Go.Op.fieldAddr 32 (Go.Operand.tmp 5) 1, type := 0, pos := "law.go:66", after := #[], guard := none }) (v := ?_) rfl (Or.inl ⟨by rfl, ?_⟩) ?_; rotate_left; (focus (intro w hSw; (try dsimp only at hSw); go_simp; (try (with_reducible rfl)); done)); try simp only [Act.put, List.setIfInBounds_toArray, List.set_cons_zero, List.set_cons_succ])
          (refine wpL_calm (o := { dst := some 80, op := Go.Op.load 3 (Go.Operand.tmp 79), type := 3, pos := "law.go:66", after := #[{ on := 1, ground := Go.Ground.data }], guard := none }) (v := ?_) rfl (Or.inl ⟨by rfl, ?_⟩) ?_; rotate_left; (focus (intro w hSw; (try dsimp only at hSw); go_simp; (try (with_reducible rfl)); done)); try simp only [Act.put, List.setIfInBounds_toArray, List.set_cons_zero, List.set_cons_succ])
          (refine wpL_calm (o := { dst := some 81, op := Go.Op.move (Go.Operand.tmp 7), type := 9, pos := "law.go:66", after := #[], guard := none }) (v := ?_) rfl (Or.inl ⟨by rfl, ?_⟩) ?_; rotate_left; (focus (intro w hSw; (try dsimp only at hSw); go_simp; (try (with_reducible rfl)); done)); try simp only [Act.put, List.setIfInBounds_toArray, List.set_cons_zero, List.set_cons_succ])
          (refine wpL_calm (o := { dst := some 83, op := Go.Op.move (Go.Operand.tmp 1), type := 28, pos := "law.go:66", after := #[], guard := none }) (v := ?_) rfl (Or.inl ⟨by rfl, ?_⟩) ?_; rotate_left; (focus (intro w hSw; (try dsimp only at hSw); go_simp; (try (with_reducible rfl)); done)); try simp only [Act.put, List.setIfInBounds_toArray, List.set_cons_zero, List.set_cons_succ])
          (refine wpL_calm (o := { dst := some 84, op := Go.Op.fieldAddr 32 (Go.Operand.tmp 5) 1, type := 0, pos := "law.go:66", after := #[], guard := none }) (v := ?_) rfl (Or.inl ⟨by rfl, ?_⟩) ?_; rotate_left; (focus (intro w hSw; (try dsimp only at hSw); go_simp; (try (with_reducible rfl)); done)); try simp only [Act.put, List.setIfInBounds_toArray, List.set_cons_zero, List.set_cons_succ])
          (refine wpL_calm (o := { dst := some 85, op := Go.Op.load 3 (Go.Operand.tmp 84), type := 3, pos := "law.go:66", after := #[{ on := 6, ground := Go.Ground.data }], guard := none }) (v := ?_) rfl (Or.inl ⟨by rfl, ?_⟩) ?_; rotate_left; (focus (intro w hSw; (try dsimp only at hSw); go_simp; (try (with_reducible rfl)); done)); try simp only [Act.put, List.setIfInBounds_toArray, List.set_cons_zero, List.set_cons_succ])
          (refine wpL_calm (o := { dst := some 86, op := Go.Op.move (Go.Operand.tmp 7), type := 9, pos := "law.go:66", after := #[], guard := none }) (v := ?_) rfl (Or.inl ⟨by rfl, ?_⟩) ?_; rotate_left; (focus (intro w hSw; (try dsimp only at hSw); go_simp; (try (with_reducible rfl)); done)); try simp only [Act.put, List.setIfInBounds_toArray, List.set_cons_zero, List.set_cons_succ])
          refine wpL_loud1 (o := { dst := some 82, op := Go.Op.call { callee := Go.Callee.value (Go.Operand.func 18), args := #[Go.Operand.tmp 78, Go.Operand.tmp 80, Go.Operand.tmp 81], argTypes := #[23, 3, 9] }, type := 4, pos := "law.go:66", after := #[{ on := 0, ground := Go.Ground.data }, { on := 2, ground := Go.Ground.data }, { on := 3, ground := Go.Ground.data }], guard := none }) rfl (fun K hK => ?_)
          (go_simp; go_at_call 18; refine CW7.out.mono ?_; rintro e w6 ⟨rfl, f6⟩; have HFS := Lib.hid f6; obtain ⟨OL6, CL6, f6, kq6, _, _⟩ := f6; have j1 := (kq6.other_cell hgx6 HGX.out).trans i1; have HR6 := Lib.hid (HW7.out.rfw kq6); have hb6 : B ≤ w6.heap.size := Nat.le_trans HW7.out.bw kq6.below.size; have hgx8 : gx < w6.heap.size := Nat.lt_of_lt_of_le hgx6 kq6.below.size)
          try go_wp2_with fail
          refine hK.out _ _ ?_ (fun hHeld => ?_)
          · (try dsimp only); exact j1
          clear hK K
          try simp only [Act.put, List.setIfInBounds_toArray, List.set_cons_zero, List.set_cons_succ]
          refine wpL_loud1 (o := { dst := some 87, op := Go.Op.call { callee := Go.Callee.value (Go.Operand.func 27), args := #[Go.Operand.tmp 83, Go.Operand.tmp 85, Go.Operand.tmp 86], argTypes := #[28, 3, 9] }, type := 4, pos := "law.go:66", after := #[{ on := 5, ground := Go.Ground.data }, { on := 7, ground := Go.Ground.data }, { on := 8, ground := Go.Ground.data }, { on := 4, ground := Go.Ground.chain }], guard := none }) rfl (fun K hK => ?_)
          (go_simp; go_at_call 27; refine (CR.out _ HR6.out hb6).mono ?_; rintro e w8 ⟨rfl, gc8, cap8, f8, kq8, g8⟩; have j2 := (kq8.other_cell hgx8 HGY.out).trans j1)
          try go_wp2_with fail
          refine hK.out _ _ ?_ (fun hHeld => ?_)
          · (try dsimp only); exact j2
          clear hK K
          try simp only [Act.put, List.setIfInBounds_toArray, List.set_cons_zero, List.set_cons_succ]
          (refine wpL_calm (o := { dst := some 88, op := Go.Op.binOp Go.BinOp.eql 4 (Go.Operand.tmp 82) (Go.Operand.tmp 87) 4, type := 4, pos := "law.go:66", after := #[{ on := 4, ground := Go.Ground.data }, { on := 9, ground := Go.Ground.data }], guard := none }) (v := ?_) rfl (Or.inl ⟨by rfl, ?_⟩) ?_; rotate_left; (focus (intro w hSw; (try dsimp only at hSw); go_simp; (try (with_reducible rfl)); done)); try simp only [Act.put, List.setIfInBounds_toArray, List.set_cons_zero, List.set_cons_succ])
          (refine wpL_calm (o := { dst := some 6, op := Go.Op.assign (Go.Operand.tmp 88), type := 4, pos := "law.go:66", after := #[{ on := 10, ground := Go.Ground.data }, { on := 9, ground := Go.Ground.chain }, { on := 0, ground := Go.Ground.phase }, { on := 1, ground := Go.Ground.phase }, { on := 2, ground := Go.Ground.phase }, { on := 3, ground := Go.Ground.phase }, { on := 4, ground := Go.Ground.phase }, { on := 5, ground := Go.Ground.phase }, { on := 6, ground := Go.Ground.phase }, { on := 7, ground := Go.Ground.phase }, { on := 8, ground := Go.Ground.phase }, { on := 9, ground := Go.Ground.phase }, { on := 10, ground := Go.Ground.phase }], guard := none }) (v := ?_) rfl (Or.inl ⟨by rfl, ?_⟩) ?_; rotate_left; (focus (intro w hSw; (try dsimp only at hSw); go_simp; (try (with_reducible rfl)); done)); try simp only [Act.put, List.setIfInBounds_toArray, List.set_cons_zero, List.set_cons_succ])
          refine wpL_nil ?_
          refine NoPanic.normal ?_
          have HP := Lib.hid ((PairF.step2 HW7.out HFS.out f8 kq8 g8 (fun c hc => Or.inl (HRS.out c hc)) HOK.out HREL.out HGR.out).after HB7.out hBw)
          clear f8 kq8 g8 kq6 f6 HFS CR CW7
          go_wp2_with fail
          go_ret
          exact ⟨by simp, HP.out⟩
        · as_aux_lemma =>
          have hsbf : sawB M xa s = false := by unfold sawB; simp [hr]
          have hsm : sawM M xa s = M := by unfold sawM; rw [hsbf]; rfl
          rw [hsbf, hsm] at CW
          obtain ⟨r, hrr⟩ : ∃ r, refF M.n xa (wholeN s.size : Int) = r := ⟨_, rfl⟩
          rw [hrr] at hr ⊢
          have hr1 : (r == 0) = false := by simpa using hr
          have hr2 : (r != 0) = true := by simpa using hr
          clear hrr hr hsbf hsm
          go_wp2_with fail
          refine CW.out.mono ?_
          rintro e w6 ⟨rfl, f6⟩
          have HP : Hid (PairS w w6 B f x OL CL M cs gc) := Lib.hid ((PairF.step H5.out H5.out.rf (Kq.refl _ _ _) (Or.inl rfl) (fun c hc => Or.inl ⟨c, hc, rfl⟩) f6 H5.out.ok H5.out.rel (GrowF.refl M)).after HB5.out hBw)
          clear CW f6
          go_wp2_with fail
          go_ret
          exact ⟨rfl, HP.out⟩
      · as_aux_lemma =>
        have h5' : (xk == 5) = false := by simpa using h5
        by_cases h6 : xk = 6
        · as_aux_lemma =>
          subst h6
          clear h0 h1 h2 h3 h3' h5 h5' hk012
          have CR := Lib.hid (rsafe_any H5.out.rf hb5 HNE.out hcsl HCL.out)
          have CW := Lib.hid (fun w1 (h : FlW w1 B f OL CL M) => safe_any h hn64 H5.out.ok.ch H5.out.ok.f64 (by omega) (by omega))
          have HOK := Lib.hid (safe_ok H5.out.ok)
          have HREL := Lib.hid (fun new hn => rel_safe (new := new) H5.out.rel hn)
          have HGR := Lib.hid (GrowF.safe M)
          generalize ({ M with F := M.F.map (foldC M.C), C := [] } : Fl) = MT at *
          go_wp2_with fail
          refine CR.out.mono ?_
          rintro e w6 ⟨rfl, new, gc6, cap6, f6, n6, kq6, l6, g6⟩
          have HS := Lib.hid (fun w2 (fs : FlS w6 w2 B f OL CL MT) => PairF.step H5.out f6 kq6 (Or.inr g6) (fun c hc => Or.inr (l6 c hc)) fs HOK.out (HREL.out new n6) HGR.out)
          have HFW := Lib.hid (H5.out.flw kq6)
          clear CR f6 n6 kq6 l6 g6
          go_wp2_with fail
          refine (CW.out _ HFW.out).mono ?_
          rintro e w7 ⟨rfl, f7⟩
          have HP := Lib.hid ((HS.out w7 f7).after HB5.out hBw)
          clear f7 CW HS
          go_wp2_with fail
          go_ret
          exact ⟨rfl, HP.out⟩
        · as_aux_lemma =>
          have h6' : (xk == 6) = false := by simpa using h6
          by_cases h7 : xk = 7
          · as_aux_lemma =>
            subst h7
            clear h0 h1 h2 h3 h3' h5 h5' h6 h6' hk012
            have CR := Lib.hid (rcrash_any H5.out.rf hb5 HNE.out hcsl (by rw [H5.out.rel.flat]; omega))
            have CW := Lib.hid (fun w1 (h : FlW w1 B f OL CL M) => crash_any h H5.out.ok (by omega) (by omega) (by omega) (by omega))
            have HOK := Lib.hid (crash_ok H5.out.ok)
            have HREL := Lib.hid (fun new hn => rel_crash (new := new) H5.out.ok H5.out.rel hn)
            have HGR := Lib.hid (GrowF.crash M)
            generalize ({ M with F := crashL M, C := [] } : Fl) = MT at *
            go_wp2_with fail
            refine CR.out.mono ?_
            rintro e w6 ⟨rfl, new, gc6, cap6, f6, n6, kq6, l6, g6⟩
            have HS := Lib.hid (fun w2 (fs : FlS w6 w2 B f OL CL MT) => PairF.step H5.out f6 kq6 (Or.inr g6) (fun c hc => Or.inr (l6 c hc)) fs HOK.out (HREL.out new n6) HGR.out)
            have HFW := Lib.hid (H5.out.flw kq6)
            clear CR f6 n6 kq6 l6 g6
            go_wp2_with fail
            refine (CW.out _ HFW.out).mono ?_
            rintro e w7 ⟨rfl, f7⟩
            have HP := Lib.hid ((HS.out w7 f7).after HB5.out hBw)
            clear f7 CW HS
            go_wp2_with fail
            go_ret
            exact ⟨rfl, HP.out⟩
          · as_aux_lemma =>
            have h7' : (xk == 7) = false := by simpa using h7
            clear h3 h5 h6 h7 hk012
            have CF := Lib.hid (read_any xa xn H5.out.fl H5.out.ok ok3.2 (by omega) (by omega) (by omega))
            have CM := Lib.hid (fun w6 (h : RfW w6 B x M.n cs gc cap) => rmay_any M.n xa xn (cell_of_row w6 x 0 _ _ _ h.hg) hn64 ok3.2)
            by_cases hr : refF M.n xa xn = 0
            · as_aux_lemma =>
              obtain ⟨p1, p2, p3⟩ := refF_ok hr
              obtain ⟨A, rfl⟩ : ∃ A : Nat, xa = (A : Int) := ⟨xa.toNat, by omega⟩
              obtain ⟨kk, rfl⟩ : ∃ kk : Nat, xn = (kk : Int) := ⟨xn.toNat, by omega⟩
              have CR := Lib.hid (fun w6 (h : RfW w6 B x M.n cs gc cap) => rread_any A kk h HNE.out hcsl HCL.out (fun c hc => by rw [HLA.out c hc]; omega) (by omega) (by omega))
              have hrd := rel_read H5.out.ok H5.out.rel hr
              rw [hr] at CM
              clear hr p1 p2 p3
              rcases hrd with ⟨b, e1, e2⟩ | ⟨e1, e2⟩
              · as_aux_lemma =>
                rw [e1] at CR
                rw [e2] at CF
                clear e1 e2
                go_wp2_with fail
                refine CF.out.mono ?_
                rintro e w6 ⟨rfl, b6⟩
                have H6 := Lib.hid (H5.out.below b6)
                have HB6 := Lib.hid (HB5.out.trans (b6.mono HB5.out.size))
                have k1 := (b6.cell (p := ⟨gx, 1, none⟩) hgx5).trans k1
                have k2 := (b6.cell (p := ⟨gx, 2, none⟩) hgx5).trans k2
                clear CF b6
                go_wp2_with fail
                refine (CM.out _ H6.out.rf).mono ?_
                rintro e w' ⟨rfl, rfl⟩
                go_wp2_with fail
                refine (CR.out _ H6.out.rf).mono ?_
                rintro e w7 ⟨rfl, b7⟩
                have HP := Lib.hid ((H6.out.refl.then b7).after HB6.out hBw)
                clear CR CM b7
                go_wp2_with fail
                go_ret
                exact ⟨by simp, HP.out⟩
              · as_aux_lemma =>
                rw [e1] at CR
                rw [e2] at CF
                clear e1 e2
                go_wp2_with fail
                refine CF.out.mono ?_
                rintro e w6 ⟨rfl, b6⟩
                have H6 := Lib.hid (H5.out.below b6)
                have HB6 := Lib.hid (HB5.out.trans (b6.mono HB5.out.size))
                have k1 := (b6.cell (p := ⟨gx, 1, none⟩) hgx5).trans k1
                have k2 := (b6.cell (p := ⟨gx, 2, none⟩) hgx5).trans k2
                clear CF b6
                go_wp2_with fail
                refine (CM.out _ H6.out.rf).mono ?_
                rintro e w' ⟨rfl, rfl⟩
                go_wp2_with fail
                refine (CR.out _ H6.out.rf).mono ?_
                rintro e w7 ⟨rfl, b7⟩
                have HP := Lib.hid ((H6.out.refl.then b7).after HB6.out hBw)
                clear CR CM b7
                go_wp2_with fail
                go_ret
                exact ⟨by simp, HP.out⟩
            · as_aux_lemma =>
              have hrd : readR M xa xn = .tuple #[.string ⟨#[]⟩, .int .i64 (refF M.n xa xn)] := by unfold readR; rw [if_pos hr]
              rw [hrd] at CF
              obtain ⟨r, hrr⟩ : ∃ r, refF M.n xa xn = r := ⟨_, rfl⟩
              rw [hrr] at CF CM hr
              have hr1 : (r == 0) = false := by simpa using hr
              have hr2 : (r != 0) = true := by simpa using hr
              clear hrr hr hrd
              go_wp2_with fail
              refine CF.out.mono ?_
              rintro e w6 ⟨rfl, b6⟩
              have H6 := Lib.hid (H5.out.below b6)
              have HB6 := Lib.hid (HB5.out.trans (b6.mono HB5.out.size))
              have k1 := (b6.cell (p := ⟨gx, 1, none⟩) hgx5).trans k1
              have k2 := (b6.cell (p := ⟨gx, 2, none⟩) hgx5).trans k2
              clear CF b6
              go_wp2_with fail
              refine (CM.out _ H6.out.rf).mono ?_
              rintro e w' ⟨rfl, rfl⟩
              have HP := Lib.hid (H6.out.refl.after HB6.out hBw)
              clear CM
              go_wp2_with fail
              go_ret
              exact ⟨by simp, HP.out⟩
end
end Go.Proofs.Ytaemnelfnopjdaa
