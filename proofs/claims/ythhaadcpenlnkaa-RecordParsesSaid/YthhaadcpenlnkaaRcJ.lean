/- Package record (cellaret): head. -/
import Derived.Test.YthhaadcpenlnkaaRcI
namespace Go.Proofs.Ythhaadcpenlnkaa
open Go.RowKit Go.Deep
set_option linter.unusedVariables false
set_option linter.unusedSimpArgs false
attribute [local irreducible] rcA
def headR (s : ByteArray) : Rc := ⟨seqP s, rootP s, []⟩
theorem ext_len' (s : ByteArray) (k n : Nat) (h : n ≤ s.size) (hk : k ≤ n) : (s.extract k n).data.toList.length = n - k := by
  rw [← Lib.size_eq, ByteArray.size_extract]; omega
theorem getE_short {l : List UInt8} (h1 : 1 ≤ l.length) (h8 : l.length < 8) : getE l = 0 := by
  unfold getE
  rw [if_neg (by omega), if_neg (by omega), if_neg (by omega)]
theorem getV_short {l : List UInt8} (h1 : 1 ≤ l.length) (h8 : l.length < 8) : getV l = beV l := by
  unfold getV
  rw [getE_short h1 h8]
  rfl
theorem num_sh (n k : Nat) (b : Nat) (w : World) (s : ByteArray) (h : Rd w b s k) (h64 : s.size = 64) (h1 : 1 ≤ n) (h8 : n < 8) (hk : k + n ≤ 64) :
    Calls Try.prog 39 #[.pointer (some ⟨b, 0, none⟩), .int .i64 (n : Int)] w fun e w' => e = .returned (.tuple #[.int .i64 (beV (s.extract k (k + n)).data.toList), .int .i64 0]) ∧ Rd w' b s ((k + n : Nat) : Int) ∧ w.grownBy w' (some b) := by
  have := num_ok (n : Int) b w s k h (by omega) (by omega) (by omega) (by omega)
  have hl := ext_len' s k (k + n) (by omega) (by omega)
  rw [Int.toNat_natCast, show ((k : Int) + (n : Int)).toNat = k + n from by omega, getE_short (by omega) (by omega), getV_short (by omega) (by omega), numAt_ok] at this
  rw [show ((k + n : Nat) : Int) = (k : Int) + (n : Int) by omega]
  exact this
theorem bytes_sh (n k : Nat) (b : Nat) (w : World) (s : ByteArray) (h : Rd w b s k) (h64 : s.size = 64) (hk : k + n ≤ 64) :
    Calls Try.prog 38 #[.pointer (some ⟨b, 0, none⟩), .int .i64 (n : Int)] w fun e w' => e = .returned (.tuple #[.string (s.extract k (k + n)), .int .i64 0]) ∧ Rd w' b s ((k + n : Nat) : Int) ∧ w.grownBy w' (some b) := by
  have := bytes_ok (n : Int) b w s k h (by omega) (by omega) (by omega)
  rw [Int.toNat_natCast, show ((k : Int) + (n : Int)).toNat = k + n from by omega] at this
  rw [show ((k + n : Nat) : Int) = (k : Int) + (n : Int) by omega]
  exact this
set_option maxRecDepth 100000 in
set_option maxHeartbeats 2000000 in
theorem head_no (s : ByteArray) (w : World) (h : s.size ≠ 64) : Calls Try.prog 27 #[.string s] w fun e w' => e = .returned (.tuple #[.agg (rcA rz0 nilS), .int .i64 0, .bool false]) ∧ Below w.heap.size w w' := by
  have hz := zero_rc
  have hn : ((s.size : Int) != 64) = true := by rw [bne_iff_ne]; omega
  obtain ⟨w1, HW1, HR1, HB1⟩ := made_rc w
  have hsz := rc_loaded nilS HR1.2
  have hone := rcA_one rz0 nilS rfl
  clear h
  go_enter Try.func27, Try.ntmps27
  go_upto_region 1 with fail
  rw [HW1.out]
  clear HW1 hz
  go_wp2_with (refine wpList_store_row rfl _ _ _ rfl w.heap.size (rcA rz0 nilS) rfl (congrArg Value.agg lit_rc) 26 _ HR1.1 hsz rfl hone ?_)
  refine bodyPost_ret_by (results_ctt rfl _ _ w.heap.size 26 (rcA rz0 nilS) (0, 0) _ rfl (setRow_heap _ _ _ (rcA rz0 nilS) 26 (0, 0) HR1.1) Try.underlying26 rfl hsz) rfl ⟨rfl, ?_⟩
  exact below_setRow HB1.out (Nat.le_refl _) _
theorem headR_eq (s : ByteArray) : (⟨seqP s, rootP s, []⟩ : Rc) = headR s := rfl
theorem cntZ_lt (s : ByteArray) (h : s.size = 64) : cntZ s ≤ 65535 := by
  unfold cntZ
  have := beV_lt (s.extract 6 8).data.toList
  rw [ext_len' s 6 8 (by omega) (by omega), show (256 : Int) ^ (8 - 6) = 65536 by decide] at this
  omega
theorem rc_cellsA {w : World} {g : Nat} {R : Rc} {v : Value} (h : RcAt w g R v) : w.rangeAt g 0 (rcA R v).toList := fun j u hu => by
  rw [Nat.zero_add, cell_of_row w g j _ _ _ h.1]
  simpa using hu
set_option maxRecDepth 100000 in
set_option maxHeartbeats 4000000 in
theorem head_64 (s : ByteArray) (w : World) (h64 : s.size = 64) : Calls Try.prog 27 #[.string s] w fun e w' => e = .returned (.tuple #[.agg (rcA (headR s) nilS), .int .i64 (cntZ s), .bool (decide (headOk s))]) ∧ Below w.heap.size w w' := by
  have hz := zero_rc
  have hn : ((s.size : Int) != 64) = false := by rw [bne_eq_false_iff_eq]; omega
  obtain ⟨w1, HW1, hR1, HB1⟩ := made_rc w
  have HRT : Hid ((rootP s).length = 32) := Lib.hid (rootP_len h64)
  have hcn := cntZ_lt s h64
  have HT : Hid (s.extract 0 2 = rcT → s.extract 40 64 = z24 → cntZ s ≤ 64 → decide (headOk s) = true) := Lib.hid (fun a b c => decide_eq_true ⟨h64, a, b, by have := cntZ_nat s; omega⟩)
  have HF : Hid (¬ (s.extract 0 2 = rcT ∧ s.extract 40 64 = z24 ∧ cntZ s ≤ 64) → decide (headOk s) = false) := Lib.hid (fun a => decide_eq_false (fun h => a ⟨h.2.1, h.2.2.1, by have := cntZ_nat s; have := h.2.2.2; omega⟩))
  have hszz := rc_loaded nilS hR1.2
  have honez := rcA_one rz0 nilS rfl
  have hmk := make24
  have hcv := conv24
  have hr32 : (s.extract 8 40).size = 32 := by rw [ByteArray.size_extract]; omega
  have P2 := Lib.hid (fun b w h => bytes_sh 2 0 b w s h h64 (by omega))
  have P4 := Lib.hid (fun b w h => num_sh 4 2 b w s h h64 (by omega) (by omega) (by omega))
  have PN := Lib.hid (fun b w h => num_sh 2 6 b w s h h64 (by omega) (by omega) (by omega))
  have PR := Lib.hid (fun b w h => bytes_sh 32 8 b w s h h64 (by omega))
  have PZ := Lib.hid (fun b w h => bytes_sh 24 40 b w s h h64 (by omega))
  rw [show ((2 : Nat) : Int) = 2 from rfl] at P2 PN
  rw [show ((4 : Nat) : Int) = 4 from rfl] at P4
  rw [show ((32 : Nat) : Int) = 32 from rfl] at PR
  rw [show ((24 : Nat) : Int) = 24 from rfl] at PZ
  have HSQ : Hid (beV (s.extract 2 (2 + 4)).data.toList = seqP s) := Lib.hid rfl
  have HCN : Hid (beV (s.extract 6 (6 + 2)).data.toList = cntZ s) := Lib.hid rfl
  rw [HSQ.out] at P4
  rw [HCN.out] at PN
  clear HSQ HCN
  have HRC : Hid ((s.extract 8 (8 + 32)).data.toList = rootP s ∧ (s.extract 8 (8 + 32)).size = 32) := Lib.hid ⟨rfl, hr32⟩
  clear hr32 h64
  have HHR : Hid (∀ R : Rc, R.seq = seqP s → R.root = rootP s → R.ps = [] → R = headR s) := Lib.hid (fun R a b c => by obtain ⟨x, y, z⟩ := R; unfold headR; simp only [Rc.mk.injEq]; exact ⟨a, b, c⟩)
  generalize seqP s = sq at *
  generalize rootP s = rt at *
  obtain ⟨cz, hcz⟩ : ∃ cz, Hid (cntZ s = cz) := ⟨_, Lib.hid rfl⟩
  rw [hcz.out] at PN HT HF hcn ⊢
  have e02 : (s.extract 0 (0 + 2)) = s.extract 0 2 := rfl
  have e40 : (s.extract 40 (40 + 24)) = s.extract 40 64 := rfl
  rw [e02] at P2
  rw [e40] at PZ
  clear e02 e40
  generalize s.extract 0 2 = tn at *
  generalize s.extract 40 64 = tz at *
  generalize s.extract 8 (8 + 32) = tr at *
  generalize decide (headOk s) = ok at *
  have HEX : Hid (∀ (R : Rc) (b : Bool) (x : Ending), R.seq = sq → R.root = rt → R.ps = [] → x = .returned (.tuple #[.agg (rcA R nilS), .int .i64 cz, .bool b]) → b = ok → x = .returned (.tuple #[.agg (rcA (headR s) nilS), .int .i64 cz, .bool ok])) := Lib.hid (fun R b x h1 h2 h3 hx hb => by rw [hx, hb, HHR.out R h1 h2 h3])
  clear HHR hcz
  go_enter Try.func27, Try.ntmps27
  go_upto_region 1 with fail
  rw [HW1.out]
  clear HW1
  have HR1 := Lib.hid hR1
  clear hR1
  go_wp2_with fail
  refine (read_any s w1).mono ?_
  rintro e w2 ⟨rfl, hw2⟩
  have HD2 := Lib.hid (Rd.new w1 s 76)
  have b2 : Below w1.heap.size w1 w2 := by rw [← hw2]; exact (Below.refl _ _).alloc (Nat.le_refl _) _
  rw [hw2] at HD2
  have HR2 := Lib.hid (HR1.out.below b2)
  have HB2 := Lib.hid (HB1.out.trans (b2.mono HB1.out.size))
  have hlb := HR1.out.lt
  clear hw2 HR1 HB1 b2
  generalize w1.heap.size = br at *
  go_wp2_with fail
  refine (P2.out br w2 HD2.out).mono ?_
  rintro e w3 ⟨rfl, hd3, g3⟩
  have HD3 := Lib.hid hd3
  have HR3 := Lib.hid (HR2.out.grown g3 (by omega))
  have HB3 := Lib.hid (HB2.out.grown g3 HB2.out.size (fun k e => by cases e; omega))
  clear hd3 g3 HR2 HD2 HB2 P2
  obtain ⟨w4, HW4, hR4, HB4⟩ := made_rc w3
  have hlt3 := HD3.out.lt
  go_upto_region 6 with (rw [HW4.out]; refine wpList_store_row rfl _ _ _ rfl w3.heap.size (rcA rz0 nilS) rfl rfl 26 _ hR4.1 hszz rfl honez ?_)
  have hR5 : RcAt (w4.setRow w3.heap.size (rcA rz0 nilS)) w3.heap.size rz0 nilS := ⟨setRow_heap _ _ _ (rcA rz0 nilS) 26 (0, 0) hR4.1, hR4.2⟩
  have HB5 := Lib.hid (below_setRow HB4.out (Nat.le_refl _) (rcA rz0 nilS))
  have HR5 := Lib.hid (HR3.out.below HB5.out)
  have HD5 := Lib.hid (HD3.out.below HB5.out)
  have HBB5 := Lib.hid (HB3.out.trans (HB5.out.mono HB3.out.size))
  clear hR4 HB4 HW4 hszz honez HB5 HR3 HD3 HB3
  generalize w4.setRow w3.heap.size (rcA rz0 nilS) = w5 at *
  generalize w3.heap.size = gr at *
  have HG5 := Lib.hid hR5
  clear hR5
  go_wp2_with fail
  refine (P4.out br w5 HD5.out).mono ?_
  rintro e w6 ⟨rfl, hd6, g6⟩
  have hG6 := HG5.out.grown g6 (by omega)
  have HR6 := Lib.hid (HR5.out.grown g6 (by omega))
  have HB6 := Lib.hid (HBB5.out.grown g6 HBB5.out.size (fun k e => by cases e; omega))
  have q0 := hG6.seq
  have f0 := hG6.frozen 0
  have HD7 := Lib.hid ((hd6.same (w' := w6.setCell ⟨gr, 0, none⟩ (.int .i64 sq)) (Below.heap_setCell w6 _ _ br (by show br ≠ gr; omega)) (by simp [World.setCell])))
  have HG7 := Lib.hid (hG6.setSeq sq)
  have HR7 := Lib.hid (HR6.out.other 0 (.int .i64 sq) (k := gr) (by omega))
  have HB7 := Lib.hid (HB6.out.setCell (p := ⟨gr, 0, none⟩) (by show w.heap.size ≤ gr; omega) (.int .i64 sq))
  clear hd6 g6 hG6 HR6 HB6 HG5 HR5 HBB5 HD5 P4
  go_wp2_with fail
  clear q0 f0
  generalize w6.setCell ⟨gr, 0, none⟩ (.int .i64 sq) = w7 at *
  refine (PN.out br w7 HD7.out).mono ?_
  rintro e w8 ⟨rfl, hd8, g8⟩
  have HD8 := Lib.hid hd8
  have HG8 := Lib.hid (HG7.out.grown g8 (by omega))
  have HR8 := Lib.hid (HR7.out.grown g8 (by omega))
  have HB8 := Lib.hid (HB7.out.grown g8 HB7.out.size (fun k e => by cases e; omega))
  clear hd8 g8 HD7 HG7 HR7 HB7 PN
  go_wp2_with fail
  refine (PR.out br w8 HD8.out).mono ?_
  rintro e w9 ⟨rfl, hd9, g9⟩
  have HD9 := Lib.hid hd9
  have hG9 := HG8.out.grown g9 (by omega)
  have HR9 := Lib.hid (HR8.out.grown g9 (by omega))
  have HB9 := Lib.hid (HB8.out.grown g9 HB8.out.size (fun k e => by cases e; omega))
  clear hd9 g9 HD8 HG8 HR8 HB8 PR
  have hi8 : (Try.prog.info? 5).map (·.size) = some 1 := by kernel_rfl
  have hfit : 1 + tr.size ≤ (rcA ⟨sq, rz0.root, rz0.ps⟩ nilS).size := by rw [rcA_size _ _ hG9.2, HRC.out.2]; omega
  have HCP := Lib.hid (rcA_copy ⟨sq, rz0.root, rz0.ps⟩ nilS tr hG9.2 HRC.out.2)
  have HG9 := Lib.hid hG9.1
  clear hG9
  go_wp2_with (with_reducible refine wpList_copy_mid rfl _ _ _ _ rfl 5 26 Try.underlying52 hi8 gr 1 32 32 (rcA ⟨sq, rz0.root, rz0.ps⟩ nilS) tr rfl rfl HG9.out (Nat.le_of_eq HRC.out.2) hfit _ HCP.out ?_)
  intro w10 h10 g10
  have HG10 : Hid (RcAt w10 gr ⟨sq, rt, []⟩ nilS) := Lib.hid (by rw [← HRC.out.1]; exact ⟨h10, by rw [HRC.out.1]; exact HRT.out⟩)
  have HD10 := Lib.hid (HD9.out.same (g10.block br HD9.out.lt (by simp; omega)) g10.size)
  have HR10 := Lib.hid (HR9.out.grown g10 (by omega))
  have HB10 := Lib.hid (HB9.out.grown g10 HB9.out.size (fun k e => by cases e; omega))
  clear h10 g10 HG9 HD9 HR9 HB9 HCP hfit hi8
  go_wp2_with fail
  refine (PZ.out br w10 HD10.out).mono ?_
  rintro e w11 ⟨rfl, hd11, g11⟩
  have HG11 := Lib.hid (HG10.out.grown g11 (by omega))
  have HR11 := Lib.hid (HR10.out.grown g11 (by omega))
  have HB11 := Lib.hid (HB10.out.grown g11 HB10.out.size (fun k e => by cases e; omega))
  clear hd11 g11 HD10 HG10 HR10 HB10 PZ
  go_upto_region 11 with fail
  have hsz := rc_loaded nilS HG11.out.2
  have hone := rcA_one ⟨sq, rt, []⟩ nilS rfl
  clear hz
  have l3 : z24.toList = [0, 0, 0, 0, 0, 0, 0, 0, 0, 0, 0, 0, 0, 0, 0, 0, 0, 0, 0, 0, 0, 0, 0, 0] := by rw [Lib.toList_data]; rfl
  have l2 : rcT.toList = [114, 99] := by rw [Lib.toList_data]; rfl
  obtain ⟨b1, e1⟩ : ∃ b1, (tn.toList == rcT.toList) = b1 := ⟨_, rfl⟩
  obtain ⟨b2, e2⟩ : ∃ b2, (tz.toList == z24.toList) = b2 := ⟨_, rfl⟩
  cases b1 with
  | false =>
    have e1' : (tn.toList == [114, 99]) = false := by rw [← l2]; exact e1
    refine wp_region_lin_all (S := (fun w' => RcAt w' gr ⟨sq, rt, []⟩ nilS)) [(0, true), (1, true), (2, true), (3, true), (4, true), (5, true), (6, false), (7, false), (8, true), (9, true), (10, true), (11, true), (12, true), (13, true), (14, false), (15, true), (16, true)] (by kernel_rfl) (by kernel_rfl) rfl (by kernel_rfl) ?_ (fun hHeld => ?_)
    · (try dsimp only); exact HG11.out.below (Below.refl _ _).drew
    have HB12 : Hid (Below w11.heap.size w11 w11.drew) := Lib.hid (Below.refl _ _).drew
    generalize World.drew w11 = w12 at hHeld HB12 ⊢
    refine wpL_calm (o := { dst := some 52, op := Go.Op.load 26 (Go.Operand.tmp 8), type := 26, pos := "record.go:92", after := #[], guard := none }) rfl (yieldsIf_load_mid (by rfl) _ _ rfl gr 0 rfl (rcA ⟨sq, rt, []⟩ nilS).toList _ (fun _ h => rc_cellsA h) Try.underlying26 rfl (by rw [Array.length_toList]; exact hsz)) ?_
    try simp only [Act.put, List.setIfInBounds_toArray, List.set_cons_zero, List.set_cons_succ]
    refine wpL_calm (o := { dst := some 53, op := Go.Op.move (Go.Operand.tmp 9), type := 3, pos := "record.go:92", after := #[{ on := 14, ground := Go.Ground.gcOnly Go.Departure.lateStores }], guard := none }) (v := ?_) rfl (Or.inl ⟨by rfl, ?_⟩) ?_; rotate_left; (focus (intro w hSw; (try dsimp only at hSw); go_simp; (try (with_reducible rfl)); done)); try simp only [Act.put, List.setIfInBounds_toArray, List.set_cons_zero, List.set_cons_succ]
    refine wpL_calm (o := { dst := some 54, op := Go.Op.move (Go.Operand.tmp 6), type := 9, pos := "record.go:92", after := #[], guard := none }) (v := ?_) rfl (Or.inl ⟨by rfl, ?_⟩) ?_; rotate_left; (focus (intro w hSw; (try dsimp only at hSw); go_simp; (try (with_reducible rfl)); done)); try simp only [Act.put, List.setIfInBounds_toArray, List.set_cons_zero, List.set_cons_succ]
    refine wpL_calm (o := { dst := some 55, op := Go.Op.binOp Go.BinOp.eql 9 (Go.Operand.tmp 54) (Go.Operand.const (Go.Value.string { data := #[114, 99] })) 9, type := 4, pos := "record.go:92", after := #[{ on := 2, ground := Go.Ground.data }], guard := none }) (v := ?_) rfl (Or.inl ⟨by rfl, ?_⟩) ?_; rotate_left; (focus (intro w hSw; (try dsimp only at hSw); go_simp; (try (with_reducible rfl)); done)); try simp only [Act.put, List.setIfInBounds_toArray, List.set_cons_zero, List.set_cons_succ]
    refine wpL_calm (o := { dst := some 56, op := Go.Op.move (Go.Operand.tmp 55), type := 4, pos := "record.go:92", after := #[{ on := 3, ground := Go.Ground.data }], guard := none }) (v := ?_) rfl (Or.inl ⟨by rfl, ?_⟩) ?_; rotate_left; (focus (intro w hSw; (try dsimp only at hSw); go_simp; (try (with_reducible rfl)); done)); try simp only [Act.put, List.setIfInBounds_toArray, List.set_cons_zero, List.set_cons_succ]
    refine wpL_calm (o := { dst := some 57, op := Go.Op.move (Go.Operand.tmp 13), type := 9, pos := "record.go:92", after := #[{ on := 4, ground := Go.Ground.guard }], guard := some (4, true) }) (v := undef) rfl (Or.inr ⟨by rfl, rfl⟩) ?_; try simp only [Act.put, List.setIfInBounds_toArray, List.set_cons_zero, List.set_cons_succ]
    refine wpL_loud1 (o := { dst := some 58, op := Go.Op.makeSlice 52 (Go.Operand.const (Go.Value.int Go.IntKind.i64 24)) (Go.Operand.const (Go.Value.int Go.IntKind.i64 24)), type := 52, pos := "record.go:92", after := #[{ on := 4, ground := Go.Ground.guard }], guard := some (4, true) }) rfl (fun K hK => ?_)
    go_simp
    refine hK.out _ _ ?_ (fun hHeld => ?_)
    · (try dsimp only); exact hHeld
    clear hK K
    try simp only [Act.put, List.setIfInBounds_toArray, List.set_cons_zero, List.set_cons_succ]
    refine wpL_loud1 (o := { dst := some 59, op := Go.Op.convert 52 9 (Go.Operand.tmp 58), type := 9, pos := "record.go:92", after := #[{ on := 6, ground := Go.Ground.data }, { on := 4, ground := Go.Ground.guard }], guard := some (4, true) }) rfl (fun K hK => ?_)
    go_simp
    refine hK.out _ _ ?_ (fun hHeld => ?_)
    · (try dsimp only); exact hHeld
    clear hK K
    try simp only [Act.put, List.setIfInBounds_toArray, List.set_cons_zero, List.set_cons_succ]
    refine wpL_calm (o := { dst := some 60, op := Go.Op.binOp Go.BinOp.eql 9 (Go.Operand.tmp 57) (Go.Operand.tmp 59) 9, type := 4, pos := "record.go:92", after := #[{ on := 5, ground := Go.Ground.data }, { on := 7, ground := Go.Ground.data }, { on := 4, ground := Go.Ground.guard }], guard := some (4, true) }) (v := undef) rfl (Or.inr ⟨by rfl, rfl⟩) ?_; try simp only [Act.put, List.setIfInBounds_toArray, List.set_cons_zero, List.set_cons_succ]
    refine wpL_calm (o := { dst := some 61, op := Go.Op.pick (Go.Operand.tmp 56) (Go.Operand.tmp 60) (Go.Operand.const (Go.Value.bool false)), type := 4, pos := "record.go:92", after := #[{ on := 4, ground := Go.Ground.data }, { on := 8, ground := Go.Ground.data }], guard := none }) (v := ?_) rfl (Or.inl ⟨by rfl, ?_⟩) ?_; rotate_left; (focus (intro w hSw; (try dsimp only at hSw); go_simp; (try (with_reducible rfl)); done)); try simp only [Act.put, List.setIfInBounds_toArray, List.set_cons_zero, List.set_cons_succ]
    refine wpL_calm (o := { dst := some 62, op := Go.Op.move (Go.Operand.tmp 61), type := 4, pos := "record.go:92", after := #[{ on := 9, ground := Go.Ground.data }, { on := 4, ground := Go.Ground.chain }], guard := none }) (v := ?_) rfl (Or.inl ⟨by rfl, ?_⟩) ?_; rotate_left; (focus (intro w hSw; (try dsimp only at hSw); go_simp; (try (with_reducible rfl)); done)); try simp only [Act.put, List.setIfInBounds_toArray, List.set_cons_zero, List.set_cons_succ]
    refine wpL_calm (o := { dst := some 63, op := Go.Op.move (Go.Operand.tmp 9), type := 3, pos := "record.go:92", after := #[{ on := 10, ground := Go.Ground.guard }, { on := 15, ground := Go.Ground.gcOnly Go.Departure.lateStores }], guard := some (10, true) }) (v := undef) rfl (Or.inr ⟨by rfl, rfl⟩) ?_; try simp only [Act.put, List.setIfInBounds_toArray, List.set_cons_zero, List.set_cons_succ]
    refine wpL_calm (o := { dst := some 64, op := Go.Op.binOp Go.BinOp.leq 3 (Go.Operand.tmp 63) (Go.Operand.const (Go.Value.int Go.IntKind.i64 64)) 3, type := 4, pos := "record.go:92", after := #[{ on := 11, ground := Go.Ground.data }, { on := 10, ground := Go.Ground.guard }, { on := 15, ground := Go.Ground.gcOnly Go.Departure.lateStores }], guard := some (10, true) }) (v := undef) rfl (Or.inr ⟨by rfl, rfl⟩) ?_; try simp only [Act.put, List.setIfInBounds_toArray, List.set_cons_zero, List.set_cons_succ]
    refine wpL_calm (o := { dst := some 65, op := Go.Op.pick (Go.Operand.tmp 62) (Go.Operand.tmp 64) (Go.Operand.const (Go.Value.bool false)), type := 4, pos := "record.go:92", after := #[{ on := 10, ground := Go.Ground.data }, { on := 12, ground := Go.Ground.data }, { on := 15, ground := Go.Ground.gcOnly Go.Departure.lateStores }], guard := none }) (v := ?_) rfl (Or.inl ⟨by rfl, ?_⟩) ?_; rotate_left; (focus (intro w hSw; (try dsimp only at hSw); go_simp; (try (with_reducible rfl)); done)); try simp only [Act.put, List.setIfInBounds_toArray, List.set_cons_zero, List.set_cons_succ]
    refine wpL_loud1 (o := { dst := none, op := Go.Op.store 26 (Go.Operand.tmp 2) (Go.Operand.tmp 52), type := 0, pos := "record.go:92", after := #[{ on := 0, ground := Go.Ground.data }, { on := 10, ground := Go.Ground.chain }, { on := 0, ground := Go.Ground.phase }, { on := 1, ground := Go.Ground.textOnly Go.Departure.lateStores }, { on := 2, ground := Go.Ground.textOnly Go.Departure.lateStores }, { on := 3, ground := Go.Ground.textOnly Go.Departure.lateStores }, { on := 4, ground := Go.Ground.textOnly Go.Departure.lateStores }, { on := 5, ground := Go.Ground.textOnly Go.Departure.lateStores }, { on := 6, ground := Go.Ground.textOnly Go.Departure.lateStoresUnsure }, { on := 7, ground := Go.Ground.textOnly Go.Departure.lateStores }, { on := 8, ground := Go.Ground.textOnly Go.Departure.lateStores }, { on := 9, ground := Go.Ground.textOnly Go.Departure.lateStores }, { on := 10, ground := Go.Ground.textOnly Go.Departure.lateStores }, { on := 11, ground := Go.Ground.textOnly Go.Departure.lateStores }, { on := 12, ground := Go.Ground.textOnly Go.Departure.lateStores }, { on := 13, ground := Go.Ground.textOnly Go.Departure.lateStores }], guard := none }) rfl (fun K hK => ?_)
    refine wp_store_row _ _ _ rfl w.heap.size (rcA ⟨sq, rt, []⟩ nilS) rfl rfl 26 _ (HR11.out.below HB12.out).1 hsz (by rw [rcA_size _ _ HG11.out.2, rcA_size _ _ HR11.out.2]) hone ?_
    refine hK.out _ _ ?_ (fun hHeld => ?_)
    · (try dsimp only); exact ⟨(setRow_other _ _ _ _ (by omega)).trans hHeld.1, hHeld.2⟩
    clear hK K
    try simp only [Act.put, List.setIfInBounds_toArray, List.set_cons_zero, List.set_cons_succ]
    refine wpL_calm (o := { dst := some 3, op := Go.Op.assign (Go.Operand.tmp 53), type := 3, pos := "record.go:92", after := #[{ on := 1, ground := Go.Ground.data }, { on := 14, ground := Go.Ground.chain }, { on := 0, ground := Go.Ground.phase }, { on := 1, ground := Go.Ground.phase }, { on := 2, ground := Go.Ground.textOnly Go.Departure.lateStores }, { on := 3, ground := Go.Ground.textOnly Go.Departure.lateStores }, { on := 4, ground := Go.Ground.textOnly Go.Departure.lateStores }, { on := 5, ground := Go.Ground.textOnly Go.Departure.lateStores }, { on := 6, ground := Go.Ground.textOnly Go.Departure.lateStoresUnsure }, { on := 7, ground := Go.Ground.textOnly Go.Departure.lateStores }, { on := 8, ground := Go.Ground.textOnly Go.Departure.lateStores }, { on := 9, ground := Go.Ground.textOnly Go.Departure.lateStores }, { on := 10, ground := Go.Ground.textOnly Go.Departure.lateStores }, { on := 11, ground := Go.Ground.textOnly Go.Departure.lateStores }, { on := 12, ground := Go.Ground.textOnly Go.Departure.lateStores }, { on := 13, ground := Go.Ground.textOnly Go.Departure.lateStores }, { on := 14, ground := Go.Ground.phase }], guard := none }) (v := ?_) rfl (Or.inl ⟨by rfl, ?_⟩) ?_; rotate_left; (focus (intro w hSw; (try dsimp only at hSw); go_simp; (try (with_reducible rfl)); done)); try simp only [Act.put, List.setIfInBounds_toArray, List.set_cons_zero, List.set_cons_succ]
    refine wpL_calm (o := { dst := some 4, op := Go.Op.assign (Go.Operand.tmp 65), type := 4, pos := "record.go:92", after := #[{ on := 13, ground := Go.Ground.data }, { on := 15, ground := Go.Ground.chain }, { on := 0, ground := Go.Ground.phase }, { on := 1, ground := Go.Ground.phase }, { on := 2, ground := Go.Ground.phase }, { on := 3, ground := Go.Ground.phase }, { on := 4, ground := Go.Ground.phase }, { on := 5, ground := Go.Ground.phase }, { on := 6, ground := Go.Ground.phase }, { on := 7, ground := Go.Ground.phase }, { on := 8, ground := Go.Ground.phase }, { on := 9, ground := Go.Ground.phase }, { on := 10, ground := Go.Ground.phase }, { on := 11, ground := Go.Ground.phase }, { on := 12, ground := Go.Ground.phase }, { on := 13, ground := Go.Ground.phase }, { on := 14, ground := Go.Ground.phase }, { on := 15, ground := Go.Ground.phase }], guard := none }) (v := ?_) rfl (Or.inl ⟨by rfl, ?_⟩) ?_; rotate_left; (focus (intro w hSw; (try dsimp only at hSw); go_simp; (try (with_reducible rfl)); done)); try simp only [Act.put, List.setIfInBounds_toArray, List.set_cons_zero, List.set_cons_succ]
    refine wpL_nil ?_
    refine NoPanic.normal ?_
    go_wp2_with fail
    refine bodyPost_ret_by (results_ctt rfl _ _ w.heap.size 26 (rcA ⟨sq, rt, []⟩ nilS) (0, 0) _ rfl (setRow_heap _ _ _ (rcA ⟨sq, rt, []⟩ nilS) 26 (0, 0) (HR11.out.below HB12.out).1) Try.underlying26 rfl hsz) rfl ⟨HEX.out ⟨sq, rt, []⟩ _ _ rfl rfl rfl rfl ?_, ?_⟩
    · exact (HF.out (fun h => ba_ne _ _ e1 h.1)).symm
    · exact below_setRow (HB11.out.trans (HB12.out.mono HB11.out.size)) (Nat.le_refl _) _
  | true =>
    have e1' : (tn.toList == [114, 99]) = true := by rw [← l2]; exact e1
    have e2' : (tz.toList == [0, 0, 0, 0, 0, 0, 0, 0, 0, 0, 0, 0, 0, 0, 0, 0, 0, 0, 0, 0, 0, 0, 0, 0]) = b2 := by rw [← l3]; exact e2
    cases b2 with
    | false =>
      refine wp_region_lin_all (S := (fun w' => RcAt w' gr ⟨sq, rt, []⟩ nilS)) [(0, true), (1, true), (2, true), (3, true), (4, true), (5, true), (6, false), (7, false), (8, true), (9, true), (10, true), (11, true), (12, true), (13, true), (14, false), (15, true), (16, true)] (by kernel_rfl) (by kernel_rfl) rfl (by kernel_rfl) ?_ (fun hHeld => ?_)
      · (try dsimp only); exact HG11.out.below (Below.refl _ _).drew
      have HB12 : Hid (Below w11.heap.size w11 w11.drew) := Lib.hid (Below.refl _ _).drew
      generalize World.drew w11 = w12 at hHeld HB12 ⊢
      refine wpL_calm (o := { dst := some 52, op := Go.Op.load 26 (Go.Operand.tmp 8), type := 26, pos := "record.go:92", after := #[], guard := none }) rfl (yieldsIf_load_mid (by rfl) _ _ rfl gr 0 rfl (rcA ⟨sq, rt, []⟩ nilS).toList _ (fun _ h => rc_cellsA h) Try.underlying26 rfl (by rw [Array.length_toList]; exact hsz)) ?_
      try simp only [Act.put, List.setIfInBounds_toArray, List.set_cons_zero, List.set_cons_succ]
      refine wpL_calm (o := { dst := some 53, op := Go.Op.move (Go.Operand.tmp 9), type := 3, pos := "record.go:92", after := #[{ on := 14, ground := Go.Ground.gcOnly Go.Departure.lateStores }], guard := none }) (v := ?_) rfl (Or.inl ⟨by rfl, ?_⟩) ?_; rotate_left; (focus (intro w hSw; (try dsimp only at hSw); go_simp; (try (with_reducible rfl)); done)); try simp only [Act.put, List.setIfInBounds_toArray, List.set_cons_zero, List.set_cons_succ]
      refine wpL_calm (o := { dst := some 54, op := Go.Op.move (Go.Operand.tmp 6), type := 9, pos := "record.go:92", after := #[], guard := none }) (v := ?_) rfl (Or.inl ⟨by rfl, ?_⟩) ?_; rotate_left; (focus (intro w hSw; (try dsimp only at hSw); go_simp; (try (with_reducible rfl)); done)); try simp only [Act.put, List.setIfInBounds_toArray, List.set_cons_zero, List.set_cons_succ]
      refine wpL_calm (o := { dst := some 55, op := Go.Op.binOp Go.BinOp.eql 9 (Go.Operand.tmp 54) (Go.Operand.const (Go.Value.string { data := #[114, 99] })) 9, type := 4, pos := "record.go:92", after := #[{ on := 2, ground := Go.Ground.data }], guard := none }) (v := ?_) rfl (Or.inl ⟨by rfl, ?_⟩) ?_; rotate_left; (focus (intro w hSw; (try dsimp only at hSw); go_simp; (try (with_reducible rfl)); done)); try simp only [Act.put, List.setIfInBounds_toArray, List.set_cons_zero, List.set_cons_succ]
      refine wpL_calm (o := { dst := some 56, op := Go.Op.move (Go.Operand.tmp 55), type := 4, pos := "record.go:92", after := #[{ on := 3, ground := Go.Ground.data }], guard := none }) (v := ?_) rfl (Or.inl ⟨by rfl, ?_⟩) ?_; rotate_left; (focus (intro w hSw; (try dsimp only at hSw); go_simp; (try (with_reducible rfl)); done)); try simp only [Act.put, List.setIfInBounds_toArray, List.set_cons_zero, List.set_cons_succ]
      refine wpL_calm (o := { dst := some 57, op := Go.Op.move (Go.Operand.tmp 13), type := 9, pos := "record.go:92", after := #[{ on := 4, ground := Go.Ground.guard }], guard := some (4, true) }) (v := ?_) rfl (Or.inl ⟨by rfl, ?_⟩) ?_; rotate_left; (focus (intro w hSw; (try dsimp only at hSw); go_simp; (try (with_reducible rfl)); done)); try simp only [Act.put, List.setIfInBounds_toArray, List.set_cons_zero, List.set_cons_succ]
      refine wpL_loud1 (o := { dst := some 58, op := Go.Op.makeSlice 52 (Go.Operand.const (Go.Value.int Go.IntKind.i64 24)) (Go.Operand.const (Go.Value.int Go.IntKind.i64 24)), type := 52, pos := "record.go:92", after := #[{ on := 4, ground := Go.Ground.guard }], guard := some (4, true) }) rfl (fun K hK => ?_)
      go_simp
      refine hK.out _ _ ?_ (fun hHeld => ?_)
      · (try dsimp only); exact HG11.out.below (HB12.out.alloc HB12.out.size _)
      clear hK K
      try simp only [Act.put, List.setIfInBounds_toArray, List.set_cons_zero, List.set_cons_succ]
      refine wpL_loud1 (o := { dst := some 59, op := Go.Op.convert 52 9 (Go.Operand.tmp 58), type := 9, pos := "record.go:92", after := #[{ on := 6, ground := Go.Ground.data }, { on := 4, ground := Go.Ground.guard }], guard := some (4, true) }) rfl (fun K hK => ?_)
      go_simp
      refine hK.out _ _ ?_ (fun hHeld => ?_)
      · (try dsimp only); exact hHeld
      clear hK K
      try simp only [Act.put, List.setIfInBounds_toArray, List.set_cons_zero, List.set_cons_succ]
      refine wpL_calm (o := { dst := some 60, op := Go.Op.binOp Go.BinOp.eql 9 (Go.Operand.tmp 57) (Go.Operand.tmp 59) 9, type := 4, pos := "record.go:92", after := #[{ on := 5, ground := Go.Ground.data }, { on := 7, ground := Go.Ground.data }, { on := 4, ground := Go.Ground.guard }], guard := some (4, true) }) (v := ?_) rfl (Or.inl ⟨by rfl, ?_⟩) ?_; rotate_left; (focus (intro w hSw; (try dsimp only at hSw); go_simp; (try (with_reducible rfl)); done)); try simp only [Act.put, List.setIfInBounds_toArray, List.set_cons_zero, List.set_cons_succ]
      refine wpL_calm (o := { dst := some 61, op := Go.Op.pick (Go.Operand.tmp 56) (Go.Operand.tmp 60) (Go.Operand.const (Go.Value.bool false)), type := 4, pos := "record.go:92", after := #[{ on := 4, ground := Go.Ground.data }, { on := 8, ground := Go.Ground.data }], guard := none }) (v := ?_) rfl (Or.inl ⟨by rfl, ?_⟩) ?_; rotate_left; (focus (intro w hSw; (try dsimp only at hSw); go_simp; (try (with_reducible rfl)); done)); try simp only [Act.put, List.setIfInBounds_toArray, List.set_cons_zero, List.set_cons_succ]
      refine wpL_calm (o := { dst := some 62, op := Go.Op.move (Go.Operand.tmp 61), type := 4, pos := "record.go:92", after := #[{ on := 9, ground := Go.Ground.data }, { on := 4, ground := Go.Ground.chain }], guard := none }) (v := ?_) rfl (Or.inl ⟨by rfl, ?_⟩) ?_; rotate_left; (focus (intro w hSw; (try dsimp only at hSw); go_simp; (try (with_reducible rfl)); done)); try simp only [Act.put, List.setIfInBounds_toArray, List.set_cons_zero, List.set_cons_succ]
      refine wpL_calm (o := { dst := some 63, op := Go.Op.move (Go.Operand.tmp 9), type := 3, pos := "record.go:92", after := #[{ on := 10, ground := Go.Ground.guard }, { on := 15, ground := Go.Ground.gcOnly Go.Departure.lateStores }], guard := some (10, true) }) (v := undef) rfl (Or.inr ⟨by rfl, rfl⟩) ?_; try simp only [Act.put, List.setIfInBounds_toArray, List.set_cons_zero, List.set_cons_succ]
      refine wpL_calm (o := { dst := some 64, op := Go.Op.binOp Go.BinOp.leq 3 (Go.Operand.tmp 63) (Go.Operand.const (Go.Value.int Go.IntKind.i64 64)) 3, type := 4, pos := "record.go:92", after := #[{ on := 11, ground := Go.Ground.data }, { on := 10, ground := Go.Ground.guard }, { on := 15, ground := Go.Ground.gcOnly Go.Departure.lateStores }], guard := some (10, true) }) (v := undef) rfl (Or.inr ⟨by rfl, rfl⟩) ?_; try simp only [Act.put, List.setIfInBounds_toArray, List.set_cons_zero, List.set_cons_succ]
      refine wpL_calm (o := { dst := some 65, op := Go.Op.pick (Go.Operand.tmp 62) (Go.Operand.tmp 64) (Go.Operand.const (Go.Value.bool false)), type := 4, pos := "record.go:92", after := #[{ on := 10, ground := Go.Ground.data }, { on := 12, ground := Go.Ground.data }, { on := 15, ground := Go.Ground.gcOnly Go.Departure.lateStores }], guard := none }) (v := ?_) rfl (Or.inl ⟨by rfl, ?_⟩) ?_; rotate_left; (focus (intro w hSw; (try dsimp only at hSw); go_simp; (try (with_reducible rfl)); done)); try simp only [Act.put, List.setIfInBounds_toArray, List.set_cons_zero, List.set_cons_succ]
      refine wpL_loud1 (o := { dst := none, op := Go.Op.store 26 (Go.Operand.tmp 2) (Go.Operand.tmp 52), type := 0, pos := "record.go:92", after := #[{ on := 0, ground := Go.Ground.data }, { on := 10, ground := Go.Ground.chain }, { on := 0, ground := Go.Ground.phase }, { on := 1, ground := Go.Ground.textOnly Go.Departure.lateStores }, { on := 2, ground := Go.Ground.textOnly Go.Departure.lateStores }, { on := 3, ground := Go.Ground.textOnly Go.Departure.lateStores }, { on := 4, ground := Go.Ground.textOnly Go.Departure.lateStores }, { on := 5, ground := Go.Ground.textOnly Go.Departure.lateStores }, { on := 6, ground := Go.Ground.textOnly Go.Departure.lateStoresUnsure }, { on := 7, ground := Go.Ground.textOnly Go.Departure.lateStores }, { on := 8, ground := Go.Ground.textOnly Go.Departure.lateStores }, { on := 9, ground := Go.Ground.textOnly Go.Departure.lateStores }, { on := 10, ground := Go.Ground.textOnly Go.Departure.lateStores }, { on := 11, ground := Go.Ground.textOnly Go.Departure.lateStores }, { on := 12, ground := Go.Ground.textOnly Go.Departure.lateStores }, { on := 13, ground := Go.Ground.textOnly Go.Departure.lateStores }], guard := none }) rfl (fun K hK => ?_)
      refine wp_store_row _ _ _ rfl w.heap.size (rcA ⟨sq, rt, []⟩ nilS) rfl rfl 26 _ (HR11.out.below (HB12.out.alloc HB12.out.size _)).1 hsz (by rw [rcA_size _ _ HG11.out.2, rcA_size _ _ HR11.out.2]) hone ?_
      refine hK.out _ _ ?_ (fun hHeld => ?_)
      · (try dsimp only); exact ⟨(setRow_other _ _ _ _ (by omega)).trans hHeld.1, hHeld.2⟩
      clear hK K
      try simp only [Act.put, List.setIfInBounds_toArray, List.set_cons_zero, List.set_cons_succ]
      refine wpL_calm (o := { dst := some 3, op := Go.Op.assign (Go.Operand.tmp 53), type := 3, pos := "record.go:92", after := #[{ on := 1, ground := Go.Ground.data }, { on := 14, ground := Go.Ground.chain }, { on := 0, ground := Go.Ground.phase }, { on := 1, ground := Go.Ground.phase }, { on := 2, ground := Go.Ground.textOnly Go.Departure.lateStores }, { on := 3, ground := Go.Ground.textOnly Go.Departure.lateStores }, { on := 4, ground := Go.Ground.textOnly Go.Departure.lateStores }, { on := 5, ground := Go.Ground.textOnly Go.Departure.lateStores }, { on := 6, ground := Go.Ground.textOnly Go.Departure.lateStoresUnsure }, { on := 7, ground := Go.Ground.textOnly Go.Departure.lateStores }, { on := 8, ground := Go.Ground.textOnly Go.Departure.lateStores }, { on := 9, ground := Go.Ground.textOnly Go.Departure.lateStores }, { on := 10, ground := Go.Ground.textOnly Go.Departure.lateStores }, { on := 11, ground := Go.Ground.textOnly Go.Departure.lateStores }, { on := 12, ground := Go.Ground.textOnly Go.Departure.lateStores }, { on := 13, ground := Go.Ground.textOnly Go.Departure.lateStores }, { on := 14, ground := Go.Ground.phase }], guard := none }) (v := ?_) rfl (Or.inl ⟨by rfl, ?_⟩) ?_; rotate_left; (focus (intro w hSw; (try dsimp only at hSw); go_simp; (try (with_reducible rfl)); done)); try simp only [Act.put, List.setIfInBounds_toArray, List.set_cons_zero, List.set_cons_succ]
      refine wpL_calm (o := { dst := some 4, op := Go.Op.assign (Go.Operand.tmp 65), type := 4, pos := "record.go:92", after := #[{ on := 13, ground := Go.Ground.data }, { on := 15, ground := Go.Ground.chain }, { on := 0, ground := Go.Ground.phase }, { on := 1, ground := Go.Ground.phase }, { on := 2, ground := Go.Ground.phase }, { on := 3, ground := Go.Ground.phase }, { on := 4, ground := Go.Ground.phase }, { on := 5, ground := Go.Ground.phase }, { on := 6, ground := Go.Ground.phase }, { on := 7, ground := Go.Ground.phase }, { on := 8, ground := Go.Ground.phase }, { on := 9, ground := Go.Ground.phase }, { on := 10, ground := Go.Ground.phase }, { on := 11, ground := Go.Ground.phase }, { on := 12, ground := Go.Ground.phase }, { on := 13, ground := Go.Ground.phase }, { on := 14, ground := Go.Ground.phase }, { on := 15, ground := Go.Ground.phase }], guard := none }) (v := ?_) rfl (Or.inl ⟨by rfl, ?_⟩) ?_; rotate_left; (focus (intro w hSw; (try dsimp only at hSw); go_simp; (try (with_reducible rfl)); done)); try simp only [Act.put, List.setIfInBounds_toArray, List.set_cons_zero, List.set_cons_succ]
      refine wpL_nil ?_
      refine NoPanic.normal ?_
      go_wp2_with fail
      refine bodyPost_ret_by (results_ctt rfl _ _ w.heap.size 26 (rcA ⟨sq, rt, []⟩ nilS) (0, 0) _ rfl (setRow_heap _ _ _ (rcA ⟨sq, rt, []⟩ nilS) 26 (0, 0) (HR11.out.below (HB12.out.alloc HB12.out.size _)).1) Try.underlying26 rfl hsz) rfl ⟨HEX.out ⟨sq, rt, []⟩ _ _ rfl rfl rfl rfl ?_, ?_⟩
      · exact (HF.out (fun h => ba_ne _ _ e2 h.2.1)).symm
      · exact below_setRow (HB11.out.trans ((HB12.out.alloc HB12.out.size _).mono HB11.out.size)) (Nat.le_refl _) _
    | true =>
      by_cases e3 : cz ≤ 64
      · skip
        refine wp_region_lin_all (S := (fun w' => RcAt w' gr ⟨sq, rt, []⟩ nilS)) [(0, true), (1, true), (2, true), (3, true), (4, true), (5, true), (6, false), (7, false), (8, true), (9, true), (10, true), (11, true), (12, true), (13, true), (14, false), (15, true), (16, true)] (by kernel_rfl) (by kernel_rfl) rfl (by kernel_rfl) ?_ (fun hHeld => ?_)
        · (try dsimp only); exact HG11.out.below (Below.refl _ _).drew
        have HB12 : Hid (Below w11.heap.size w11 w11.drew) := Lib.hid (Below.refl _ _).drew
        generalize World.drew w11 = w12 at hHeld HB12 ⊢
        refine wpL_calm (o := { dst := some 52, op := Go.Op.load 26 (Go.Operand.tmp 8), type := 26, pos := "record.go:92", after := #[], guard := none }) rfl (yieldsIf_load_mid (by rfl) _ _ rfl gr 0 rfl (rcA ⟨sq, rt, []⟩ nilS).toList _ (fun _ h => rc_cellsA h) Try.underlying26 rfl (by rw [Array.length_toList]; exact hsz)) ?_
        try simp only [Act.put, List.setIfInBounds_toArray, List.set_cons_zero, List.set_cons_succ]
        refine wpL_calm (o := { dst := some 53, op := Go.Op.move (Go.Operand.tmp 9), type := 3, pos := "record.go:92", after := #[{ on := 14, ground := Go.Ground.gcOnly Go.Departure.lateStores }], guard := none }) (v := ?_) rfl (Or.inl ⟨by rfl, ?_⟩) ?_; rotate_left; (focus (intro w hSw; (try dsimp only at hSw); go_simp; (try (with_reducible rfl)); done)); try simp only [Act.put, List.setIfInBounds_toArray, List.set_cons_zero, List.set_cons_succ]
        refine wpL_calm (o := { dst := some 54, op := Go.Op.move (Go.Operand.tmp 6), type := 9, pos := "record.go:92", after := #[], guard := none }) (v := ?_) rfl (Or.inl ⟨by rfl, ?_⟩) ?_; rotate_left; (focus (intro w hSw; (try dsimp only at hSw); go_simp; (try (with_reducible rfl)); done)); try simp only [Act.put, List.setIfInBounds_toArray, List.set_cons_zero, List.set_cons_succ]
        refine wpL_calm (o := { dst := some 55, op := Go.Op.binOp Go.BinOp.eql 9 (Go.Operand.tmp 54) (Go.Operand.const (Go.Value.string { data := #[114, 99] })) 9, type := 4, pos := "record.go:92", after := #[{ on := 2, ground := Go.Ground.data }], guard := none }) (v := ?_) rfl (Or.inl ⟨by rfl, ?_⟩) ?_; rotate_left; (focus (intro w hSw; (try dsimp only at hSw); go_simp; (try (with_reducible rfl)); done)); try simp only [Act.put, List.setIfInBounds_toArray, List.set_cons_zero, List.set_cons_succ]
        refine wpL_calm (o := { dst := some 56, op := Go.Op.move (Go.Operand.tmp 55), type := 4, pos := "record.go:92", after := #[{ on := 3, ground := Go.Ground.data }], guard := none }) (v := ?_) rfl (Or.inl ⟨by rfl, ?_⟩) ?_; rotate_left; (focus (intro w hSw; (try dsimp only at hSw); go_simp; (try (with_reducible rfl)); done)); try simp only [Act.put, List.setIfInBounds_toArray, List.set_cons_zero, List.set_cons_succ]
        refine wpL_calm (o := { dst := some 57, op := Go.Op.move (Go.Operand.tmp 13), type := 9, pos := "record.go:92", after := #[{ on := 4, ground := Go.Ground.guard }], guard := some (4, true) }) (v := ?_) rfl (Or.inl ⟨by rfl, ?_⟩) ?_; rotate_left; (focus (intro w hSw; (try dsimp only at hSw); go_simp; (try (with_reducible rfl)); done)); try simp only [Act.put, List.setIfInBounds_toArray, List.set_cons_zero, List.set_cons_succ]
        refine wpL_loud1 (o := { dst := some 58, op := Go.Op.makeSlice 52 (Go.Operand.const (Go.Value.int Go.IntKind.i64 24)) (Go.Operand.const (Go.Value.int Go.IntKind.i64 24)), type := 52, pos := "record.go:92", after := #[{ on := 4, ground := Go.Ground.guard }], guard := some (4, true) }) rfl (fun K hK => ?_)
        go_simp
        refine hK.out _ _ ?_ (fun hHeld => ?_)
        · (try dsimp only); exact HG11.out.below (HB12.out.alloc HB12.out.size _)
        clear hK K
        try simp only [Act.put, List.setIfInBounds_toArray, List.set_cons_zero, List.set_cons_succ]
        refine wpL_loud1 (o := { dst := some 59, op := Go.Op.convert 52 9 (Go.Operand.tmp 58), type := 9, pos := "record.go:92", after := #[{ on := 6, ground := Go.Ground.data }, { on := 4, ground := Go.Ground.guard }], guard := some (4, true) }) rfl (fun K hK => ?_)
        go_simp
        refine hK.out _ _ ?_ (fun hHeld => ?_)
        · (try dsimp only); exact hHeld
        clear hK K
        try simp only [Act.put, List.setIfInBounds_toArray, List.set_cons_zero, List.set_cons_succ]
        refine wpL_calm (o := { dst := some 60, op := Go.Op.binOp Go.BinOp.eql 9 (Go.Operand.tmp 57) (Go.Operand.tmp 59) 9, type := 4, pos := "record.go:92", after := #[{ on := 5, ground := Go.Ground.data }, { on := 7, ground := Go.Ground.data }, { on := 4, ground := Go.Ground.guard }], guard := some (4, true) }) (v := ?_) rfl (Or.inl ⟨by rfl, ?_⟩) ?_; rotate_left; (focus (intro w hSw; (try dsimp only at hSw); go_simp; (try (with_reducible rfl)); done)); try simp only [Act.put, List.setIfInBounds_toArray, List.set_cons_zero, List.set_cons_succ]
        refine wpL_calm (o := { dst := some 61, op := Go.Op.pick (Go.Operand.tmp 56) (Go.Operand.tmp 60) (Go.Operand.const (Go.Value.bool false)), type := 4, pos := "record.go:92", after := #[{ on := 4, ground := Go.Ground.data }, { on := 8, ground := Go.Ground.data }], guard := none }) (v := ?_) rfl (Or.inl ⟨by rfl, ?_⟩) ?_; rotate_left; (focus (intro w hSw; (try dsimp only at hSw); go_simp; (try (with_reducible rfl)); done)); try simp only [Act.put, List.setIfInBounds_toArray, List.set_cons_zero, List.set_cons_succ]
        refine wpL_calm (o := { dst := some 62, op := Go.Op.move (Go.Operand.tmp 61), type := 4, pos := "record.go:92", after := #[{ on := 9, ground := Go.Ground.data }, { on := 4, ground := Go.Ground.chain }], guard := none }) (v := ?_) rfl (Or.inl ⟨by rfl, ?_⟩) ?_; rotate_left; (focus (intro w hSw; (try dsimp only at hSw); go_simp; (try (with_reducible rfl)); done)); try simp only [Act.put, List.setIfInBounds_toArray, List.set_cons_zero, List.set_cons_succ]
        refine wpL_calm (o := { dst := some 63, op := Go.Op.move (Go.Operand.tmp 9), type := 3, pos := "record.go:92", after := #[{ on := 10, ground := Go.Ground.guard }, { on := 15, ground := Go.Ground.gcOnly Go.Departure.lateStores }], guard := some (10, true) }) (v := ?_) rfl (Or.inl ⟨by rfl, ?_⟩) ?_; rotate_left; (focus (intro w hSw; (try dsimp only at hSw); go_simp; (try (with_reducible rfl)); done)); try simp only [Act.put, List.setIfInBounds_toArray, List.set_cons_zero, List.set_cons_succ]
        refine wpL_calm (o := { dst := some 64, op := Go.Op.binOp Go.BinOp.leq 3 (Go.Operand.tmp 63) (Go.Operand.const (Go.Value.int Go.IntKind.i64 64)) 3, type := 4, pos := "record.go:92", after := #[{ on := 11, ground := Go.Ground.data }, { on := 10, ground := Go.Ground.guard }, { on := 15, ground := Go.Ground.gcOnly Go.Departure.lateStores }], guard := some (10, true) }) (v := ?_) rfl (Or.inl ⟨by rfl, ?_⟩) ?_; rotate_left; (focus (intro w hSw; (try dsimp only at hSw); go_simp; (try (with_reducible rfl)); done)); try simp only [Act.put, List.setIfInBounds_toArray, List.set_cons_zero, List.set_cons_succ]
        refine wpL_calm (o := { dst := some 65, op := Go.Op.pick (Go.Operand.tmp 62) (Go.Operand.tmp 64) (Go.Operand.const (Go.Value.bool false)), type := 4, pos := "record.go:92", after := #[{ on := 10, ground := Go.Ground.data }, { on := 12, ground := Go.Ground.data }, { on := 15, ground := Go.Ground.gcOnly Go.Departure.lateStores }], guard := none }) (v := ?_) rfl (Or.inl ⟨by rfl, ?_⟩) ?_; rotate_left; (focus (intro w hSw; (try dsimp only at hSw); go_simp; (try (with_reducible rfl)); done)); try simp only [Act.put, List.setIfInBounds_toArray, List.set_cons_zero, List.set_cons_succ]
        refine wpL_loud1 (o := { dst := none, op := Go.Op.store 26 (Go.Operand.tmp 2) (Go.Operand.tmp 52), type := 0, pos := "record.go:92", after := #[{ on := 0, ground := Go.Ground.data }, { on := 10, ground := Go.Ground.chain }, { on := 0, ground := Go.Ground.phase }, { on := 1, ground := Go.Ground.textOnly Go.Departure.lateStores }, { on := 2, ground := Go.Ground.textOnly Go.Departure.lateStores }, { on := 3, ground := Go.Ground.textOnly Go.Departure.lateStores }, { on := 4, ground := Go.Ground.textOnly Go.Departure.lateStores }, { on := 5, ground := Go.Ground.textOnly Go.Departure.lateStores }, { on := 6, ground := Go.Ground.textOnly Go.Departure.lateStoresUnsure }, { on := 7, ground := Go.Ground.textOnly Go.Departure.lateStores }, { on := 8, ground := Go.Ground.textOnly Go.Departure.lateStores }, { on := 9, ground := Go.Ground.textOnly Go.Departure.lateStores }, { on := 10, ground := Go.Ground.textOnly Go.Departure.lateStores }, { on := 11, ground := Go.Ground.textOnly Go.Departure.lateStores }, { on := 12, ground := Go.Ground.textOnly Go.Departure.lateStores }, { on := 13, ground := Go.Ground.textOnly Go.Departure.lateStores }], guard := none }) rfl (fun K hK => ?_)
        refine wp_store_row _ _ _ rfl w.heap.size (rcA ⟨sq, rt, []⟩ nilS) rfl rfl 26 _ (HR11.out.below (HB12.out.alloc HB12.out.size _)).1 hsz (by rw [rcA_size _ _ HG11.out.2, rcA_size _ _ HR11.out.2]) hone ?_
        refine hK.out _ _ ?_ (fun hHeld => ?_)
        · (try dsimp only); exact ⟨(setRow_other _ _ _ _ (by omega)).trans hHeld.1, hHeld.2⟩
        clear hK K
        try simp only [Act.put, List.setIfInBounds_toArray, List.set_cons_zero, List.set_cons_succ]
        refine wpL_calm (o := { dst := some 3, op := Go.Op.assign (Go.Operand.tmp 53), type := 3, pos := "record.go:92", after := #[{ on := 1, ground := Go.Ground.data }, { on := 14, ground := Go.Ground.chain }, { on := 0, ground := Go.Ground.phase }, { on := 1, ground := Go.Ground.phase }, { on := 2, ground := Go.Ground.textOnly Go.Departure.lateStores }, { on := 3, ground := Go.Ground.textOnly Go.Departure.lateStores }, { on := 4, ground := Go.Ground.textOnly Go.Departure.lateStores }, { on := 5, ground := Go.Ground.textOnly Go.Departure.lateStores }, { on := 6, ground := Go.Ground.textOnly Go.Departure.lateStoresUnsure }, { on := 7, ground := Go.Ground.textOnly Go.Departure.lateStores }, { on := 8, ground := Go.Ground.textOnly Go.Departure.lateStores }, { on := 9, ground := Go.Ground.textOnly Go.Departure.lateStores }, { on := 10, ground := Go.Ground.textOnly Go.Departure.lateStores }, { on := 11, ground := Go.Ground.textOnly Go.Departure.lateStores }, { on := 12, ground := Go.Ground.textOnly Go.Departure.lateStores }, { on := 13, ground := Go.Ground.textOnly Go.Departure.lateStores }, { on := 14, ground := Go.Ground.phase }], guard := none }) (v := ?_) rfl (Or.inl ⟨by rfl, ?_⟩) ?_; rotate_left; (focus (intro w hSw; (try dsimp only at hSw); go_simp; (try (with_reducible rfl)); done)); try simp only [Act.put, List.setIfInBounds_toArray, List.set_cons_zero, List.set_cons_succ]
        refine wpL_calm (o := { dst := some 4, op := Go.Op.assign (Go.Operand.tmp 65), type := 4, pos := "record.go:92", after := #[{ on := 13, ground := Go.Ground.data }, { on := 15, ground := Go.Ground.chain }, { on := 0, ground := Go.Ground.phase }, { on := 1, ground := Go.Ground.phase }, { on := 2, ground := Go.Ground.phase }, { on := 3, ground := Go.Ground.phase }, { on := 4, ground := Go.Ground.phase }, { on := 5, ground := Go.Ground.phase }, { on := 6, ground := Go.Ground.phase }, { on := 7, ground := Go.Ground.phase }, { on := 8, ground := Go.Ground.phase }, { on := 9, ground := Go.Ground.phase }, { on := 10, ground := Go.Ground.phase }, { on := 11, ground := Go.Ground.phase }, { on := 12, ground := Go.Ground.phase }, { on := 13, ground := Go.Ground.phase }, { on := 14, ground := Go.Ground.phase }, { on := 15, ground := Go.Ground.phase }], guard := none }) (v := ?_) rfl (Or.inl ⟨by rfl, ?_⟩) ?_; rotate_left; (focus (intro w hSw; (try dsimp only at hSw); go_simp; (try (with_reducible rfl)); done)); try simp only [Act.put, List.setIfInBounds_toArray, List.set_cons_zero, List.set_cons_succ]
        refine wpL_nil ?_
        refine NoPanic.normal ?_
        go_wp2_with fail
        refine bodyPost_ret_by (results_ctt rfl _ _ w.heap.size 26 (rcA ⟨sq, rt, []⟩ nilS) (0, 0) _ rfl (setRow_heap _ _ _ (rcA ⟨sq, rt, []⟩ nilS) 26 (0, 0) (HR11.out.below (HB12.out.alloc HB12.out.size _)).1) Try.underlying26 rfl hsz) rfl ⟨HEX.out ⟨sq, rt, []⟩ _ _ rfl rfl rfl rfl ?_, ?_⟩
        · exact (HT.out (ba_eq _ _ e1) (ba_eq _ _ e2) e3).symm
        · exact below_setRow (HB11.out.trans ((HB12.out.alloc HB12.out.size _).mono HB11.out.size)) (Nat.le_refl _) _
      · skip
        refine wp_region_lin_all (S := (fun w' => RcAt w' gr ⟨sq, rt, []⟩ nilS)) [(0, true), (1, true), (2, true), (3, true), (4, true), (5, true), (6, false), (7, false), (8, true), (9, true), (10, true), (11, true), (12, true), (13, true), (14, false), (15, true), (16, true)] (by kernel_rfl) (by kernel_rfl) rfl (by kernel_rfl) ?_ (fun hHeld => ?_)
        · (try dsimp only); exact HG11.out.below (Below.refl _ _).drew
        have HB12 : Hid (Below w11.heap.size w11 w11.drew) := Lib.hid (Below.refl _ _).drew
        generalize World.drew w11 = w12 at hHeld HB12 ⊢
        refine wpL_calm (o := { dst := some 52, op := Go.Op.load 26 (Go.Operand.tmp 8), type := 26, pos := "record.go:92", after := #[], guard := none }) rfl (yieldsIf_load_mid (by rfl) _ _ rfl gr 0 rfl (rcA ⟨sq, rt, []⟩ nilS).toList _ (fun _ h => rc_cellsA h) Try.underlying26 rfl (by rw [Array.length_toList]; exact hsz)) ?_
        try simp only [Act.put, List.setIfInBounds_toArray, List.set_cons_zero, List.set_cons_succ]
        refine wpL_calm (o := { dst := some 53, op := Go.Op.move (Go.Operand.tmp 9), type := 3, pos := "record.go:92", after := #[{ on := 14, ground := Go.Ground.gcOnly Go.Departure.lateStores }], guard := none }) (v := ?_) rfl (Or.inl ⟨by rfl, ?_⟩) ?_; rotate_left; (focus (intro w hSw; (try dsimp only at hSw); go_simp; (try (with_reducible rfl)); done)); try simp only [Act.put, List.setIfInBounds_toArray, List.set_cons_zero, List.set_cons_succ]
        refine wpL_calm (o := { dst := some 54, op := Go.Op.move (Go.Operand.tmp 6), type := 9, pos := "record.go:92", after := #[], guard := none }) (v := ?_) rfl (Or.inl ⟨by rfl, ?_⟩) ?_; rotate_left; (focus (intro w hSw; (try dsimp only at hSw); go_simp; (try (with_reducible rfl)); done)); try simp only [Act.put, List.setIfInBounds_toArray, List.set_cons_zero, List.set_cons_succ]
        refine wpL_calm (o := { dst := some 55, op := Go.Op.binOp Go.BinOp.eql 9 (Go.Operand.tmp 54) (Go.Operand.const (Go.Value.string { data := #[114, 99] })) 9, type := 4, pos := "record.go:92", after := #[{ on := 2, ground := Go.Ground.data }], guard := none }) (v := ?_) rfl (Or.inl ⟨by rfl, ?_⟩) ?_; rotate_left; (focus (intro w hSw; (try dsimp only at hSw); go_simp; (try (with_reducible rfl)); done)); try simp only [Act.put, List.setIfInBounds_toArray, List.set_cons_zero, List.set_cons_succ]
        refine wpL_calm (o := { dst := some 56, op := Go.Op.move (Go.Operand.tmp 55), type := 4, pos := "record.go:92", after := #[{ on := 3, ground := Go.Ground.data }], guard := none }) (v := ?_) rfl (Or.inl ⟨by rfl, ?_⟩) ?_; rotate_left; (focus (intro w hSw; (try dsimp only at hSw); go_simp; (try (with_reducible rfl)); done)); try simp only [Act.put, List.setIfInBounds_toArray, List.set_cons_zero, List.set_cons_succ]
        refine wpL_calm (o := { dst := some 57, op := Go.Op.move (Go.Operand.tmp 13), type := 9, pos := "record.go:92", after := #[{ on := 4, ground := Go.Ground.guard }], guard := some (4, true) }) (v := ?_) rfl (Or.inl ⟨by rfl, ?_⟩) ?_; rotate_left; (focus (intro w hSw; (try dsimp only at hSw); go_simp; (try (with_reducible rfl)); done)); try simp only [Act.put, List.setIfInBounds_toArray, List.set_cons_zero, List.set_cons_succ]
        refine wpL_loud1 (o := { dst := some 58, op := Go.Op.makeSlice 52 (Go.Operand.const (Go.Value.int Go.IntKind.i64 24)) (Go.Operand.const (Go.Value.int Go.IntKind.i64 24)), type := 52, pos := "record.go:92", after := #[{ on := 4, ground := Go.Ground.guard }], guard := some (4, true) }) rfl (fun K hK => ?_)
        go_simp
        refine hK.out _ _ ?_ (fun hHeld => ?_)
        · (try dsimp only); exact HG11.out.below (HB12.out.alloc HB12.out.size _)
        clear hK K
        try simp only [Act.put, List.setIfInBounds_toArray, List.set_cons_zero, List.set_cons_succ]
        refine wpL_loud1 (o := { dst := some 59, op := Go.Op.convert 52 9 (Go.Operand.tmp 58), type := 9, pos := "record.go:92", after := #[{ on := 6, ground := Go.Ground.data }, { on := 4, ground := Go.Ground.guard }], guard := some (4, true) }) rfl (fun K hK => ?_)
        go_simp
        refine hK.out _ _ ?_ (fun hHeld => ?_)
        · (try dsimp only); exact hHeld
        clear hK K
        try simp only [Act.put, List.setIfInBounds_toArray, List.set_cons_zero, List.set_cons_succ]
        refine wpL_calm (o := { dst := some 60, op := Go.Op.binOp Go.BinOp.eql 9 (Go.Operand.tmp 57) (Go.Operand.tmp 59) 9, type := 4, pos := "record.go:92", after := #[{ on := 5, ground := Go.Ground.data }, { on := 7, ground := Go.Ground.data }, { on := 4, ground := Go.Ground.guard }], guard := some (4, true) }) (v := ?_) rfl (Or.inl ⟨by rfl, ?_⟩) ?_; rotate_left; (focus (intro w hSw; (try dsimp only at hSw); go_simp; (try (with_reducible rfl)); done)); try simp only [Act.put, List.setIfInBounds_toArray, List.set_cons_zero, List.set_cons_succ]
        refine wpL_calm (o := { dst := some 61, op := Go.Op.pick (Go.Operand.tmp 56) (Go.Operand.tmp 60) (Go.Operand.const (Go.Value.bool false)), type := 4, pos := "record.go:92", after := #[{ on := 4, ground := Go.Ground.data }, { on := 8, ground := Go.Ground.data }], guard := none }) (v := ?_) rfl (Or.inl ⟨by rfl, ?_⟩) ?_; rotate_left; (focus (intro w hSw; (try dsimp only at hSw); go_simp; (try (with_reducible rfl)); done)); try simp only [Act.put, List.setIfInBounds_toArray, List.set_cons_zero, List.set_cons_succ]
        refine wpL_calm (o := { dst := some 62, op := Go.Op.move (Go.Operand.tmp 61), type := 4, pos := "record.go:92", after := #[{ on := 9, ground := Go.Ground.data }, { on := 4, ground := Go.Ground.chain }], guard := none }) (v := ?_) rfl (Or.inl ⟨by rfl, ?_⟩) ?_; rotate_left; (focus (intro w hSw; (try dsimp only at hSw); go_simp; (try (with_reducible rfl)); done)); try simp only [Act.put, List.setIfInBounds_toArray, List.set_cons_zero, List.set_cons_succ]
        refine wpL_calm (o := { dst := some 63, op := Go.Op.move (Go.Operand.tmp 9), type := 3, pos := "record.go:92", after := #[{ on := 10, ground := Go.Ground.guard }, { on := 15, ground := Go.Ground.gcOnly Go.Departure.lateStores }], guard := some (10, true) }) (v := ?_) rfl (Or.inl ⟨by rfl, ?_⟩) ?_; rotate_left; (focus (intro w hSw; (try dsimp only at hSw); go_simp; (try (with_reducible rfl)); done)); try simp only [Act.put, List.setIfInBounds_toArray, List.set_cons_zero, List.set_cons_succ]
        refine wpL_calm (o := { dst := some 64, op := Go.Op.binOp Go.BinOp.leq 3 (Go.Operand.tmp 63) (Go.Operand.const (Go.Value.int Go.IntKind.i64 64)) 3, type := 4, pos := "record.go:92", after := #[{ on := 11, ground := Go.Ground.data }, { on := 10, ground := Go.Ground.guard }, { on := 15, ground := Go.Ground.gcOnly Go.Departure.lateStores }], guard := some (10, true) }) (v := ?_) rfl (Or.inl ⟨by rfl, ?_⟩) ?_; rotate_left; (focus (intro w hSw; (try dsimp only at hSw); go_simp; (try (with_reducible rfl)); done)); try simp only [Act.put, List.setIfInBounds_toArray, List.set_cons_zero, List.set_cons_succ]
        refine wpL_calm (o := { dst := some 65, op := Go.Op.pick (Go.Operand.tmp 62) (Go.Operand.tmp 64) (Go.Operand.const (Go.Value.bool false)), type := 4, pos := "record.go:92", after := #[{ on := 10, ground := Go.Ground.data }, { on := 12, ground := Go.Ground.data }, { on := 15, ground := Go.Ground.gcOnly Go.Departure.lateStores }], guard := none }) (v := ?_) rfl (Or.inl ⟨by rfl, ?_⟩) ?_; rotate_left; (focus (intro w hSw; (try dsimp only at hSw); go_simp; (try (with_reducible rfl)); done)); try simp only [Act.put, List.setIfInBounds_toArray, List.set_cons_zero, List.set_cons_succ]
        refine wpL_loud1 (o := { dst := none, op := Go.Op.store 26 (Go.Operand.tmp 2) (Go.Operand.tmp 52), type := 0, pos := "record.go:92", after := #[{ on := 0, ground := Go.Ground.data }, { on := 10, ground := Go.Ground.chain }, { on := 0, ground := Go.Ground.phase }, { on := 1, ground := Go.Ground.textOnly Go.Departure.lateStores }, { on := 2, ground := Go.Ground.textOnly Go.Departure.lateStores }, { on := 3, ground := Go.Ground.textOnly Go.Departure.lateStores }, { on := 4, ground := Go.Ground.textOnly Go.Departure.lateStores }, { on := 5, ground := Go.Ground.textOnly Go.Departure.lateStores }, { on := 6, ground := Go.Ground.textOnly Go.Departure.lateStoresUnsure }, { on := 7, ground := Go.Ground.textOnly Go.Departure.lateStores }, { on := 8, ground := Go.Ground.textOnly Go.Departure.lateStores }, { on := 9, ground := Go.Ground.textOnly Go.Departure.lateStores }, { on := 10, ground := Go.Ground.textOnly Go.Departure.lateStores }, { on := 11, ground := Go.Ground.textOnly Go.Departure.lateStores }, { on := 12, ground := Go.Ground.textOnly Go.Departure.lateStores }, { on := 13, ground := Go.Ground.textOnly Go.Departure.lateStores }], guard := none }) rfl (fun K hK => ?_)
        refine wp_store_row _ _ _ rfl w.heap.size (rcA ⟨sq, rt, []⟩ nilS) rfl rfl 26 _ (HR11.out.below (HB12.out.alloc HB12.out.size _)).1 hsz (by rw [rcA_size _ _ HG11.out.2, rcA_size _ _ HR11.out.2]) hone ?_
        refine hK.out _ _ ?_ (fun hHeld => ?_)
        · (try dsimp only); exact ⟨(setRow_other _ _ _ _ (by omega)).trans hHeld.1, hHeld.2⟩
        clear hK K
        try simp only [Act.put, List.setIfInBounds_toArray, List.set_cons_zero, List.set_cons_succ]
        refine wpL_calm (o := { dst := some 3, op := Go.Op.assign (Go.Operand.tmp 53), type := 3, pos := "record.go:92", after := #[{ on := 1, ground := Go.Ground.data }, { on := 14, ground := Go.Ground.chain }, { on := 0, ground := Go.Ground.phase }, { on := 1, ground := Go.Ground.phase }, { on := 2, ground := Go.Ground.textOnly Go.Departure.lateStores }, { on := 3, ground := Go.Ground.textOnly Go.Departure.lateStores }, { on := 4, ground := Go.Ground.textOnly Go.Departure.lateStores }, { on := 5, ground := Go.Ground.textOnly Go.Departure.lateStores }, { on := 6, ground := Go.Ground.textOnly Go.Departure.lateStoresUnsure }, { on := 7, ground := Go.Ground.textOnly Go.Departure.lateStores }, { on := 8, ground := Go.Ground.textOnly Go.Departure.lateStores }, { on := 9, ground := Go.Ground.textOnly Go.Departure.lateStores }, { on := 10, ground := Go.Ground.textOnly Go.Departure.lateStores }, { on := 11, ground := Go.Ground.textOnly Go.Departure.lateStores }, { on := 12, ground := Go.Ground.textOnly Go.Departure.lateStores }, { on := 13, ground := Go.Ground.textOnly Go.Departure.lateStores }, { on := 14, ground := Go.Ground.phase }], guard := none }) (v := ?_) rfl (Or.inl ⟨by rfl, ?_⟩) ?_; rotate_left; (focus (intro w hSw; (try dsimp only at hSw); go_simp; (try (with_reducible rfl)); done)); try simp only [Act.put, List.setIfInBounds_toArray, List.set_cons_zero, List.set_cons_succ]
        refine wpL_calm (o := { dst := some 4, op := Go.Op.assign (Go.Operand.tmp 65), type := 4, pos := "record.go:92", after := #[{ on := 13, ground := Go.Ground.data }, { on := 15, ground := Go.Ground.chain }, { on := 0, ground := Go.Ground.phase }, { on := 1, ground := Go.Ground.phase }, { on := 2, ground := Go.Ground.phase }, { on := 3, ground := Go.Ground.phase }, { on := 4, ground := Go.Ground.phase }, { on := 5, ground := Go.Ground.phase }, { on := 6, ground := Go.Ground.phase }, { on := 7, ground := Go.Ground.phase }, { on := 8, ground := Go.Ground.phase }, { on := 9, ground := Go.Ground.phase }, { on := 10, ground := Go.Ground.phase }, { on := 11, ground := Go.Ground.phase }, { on := 12, ground := Go.Ground.phase }, { on := 13, ground := Go.Ground.phase }, { on := 14, ground := Go.Ground.phase }, { on := 15, ground := Go.Ground.phase }], guard := none }) (v := ?_) rfl (Or.inl ⟨by rfl, ?_⟩) ?_; rotate_left; (focus (intro w hSw; (try dsimp only at hSw); go_simp; (try (with_reducible rfl)); done)); try simp only [Act.put, List.setIfInBounds_toArray, List.set_cons_zero, List.set_cons_succ]
        refine wpL_nil ?_
        refine NoPanic.normal ?_
        go_wp2_with fail
        refine bodyPost_ret_by (results_ctt rfl _ _ w.heap.size 26 (rcA ⟨sq, rt, []⟩ nilS) (0, 0) _ rfl (setRow_heap _ _ _ (rcA ⟨sq, rt, []⟩ nilS) 26 (0, 0) (HR11.out.below (HB12.out.alloc HB12.out.size _)).1) Try.underlying26 rfl hsz) rfl ⟨HEX.out ⟨sq, rt, []⟩ _ _ rfl rfl rfl rfl ?_, ?_⟩
        · exact (HF.out (fun h => by have := h.2.2; omega)).symm
        · exact below_setRow (HB11.out.trans ((HB12.out.alloc HB12.out.size _).mono HB11.out.size)) (Nat.le_refl _) _
end Go.Proofs.Ythhaadcpenlnkaa
