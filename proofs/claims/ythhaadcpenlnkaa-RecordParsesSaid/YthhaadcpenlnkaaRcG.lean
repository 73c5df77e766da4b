/- The reference's Lay (record). -/
import Derived.Test.YthhaadcpenlnkaaRcF
namespace Go.Proofs.Ythhaadcpenlnkaa
open Go.RowKit Go.Deep
set_option linter.unusedVariables false
set_option linter.unusedSimpArgs false
attribute [local irreducible] rcA
theorem rowB_snoc' (W : Int) (l : List Int) (a : Int) : rowB W (l ++ [a]) = rowB W l ++ putL a W := by
  unfold rowB
  rw [List.flatMap_append]
  simp
theorem chunk_take (ps : List Pt) (c i : Nat) (h : i < (chunk ps c).length) : (chunk ps c).take (i + 1) = (chunk ps c).take i ++ [pAt ps (32 * c + i)] := by
  rw [List.take_succ_eq_append_getElem h]
  have : (chunk ps c)[i] = pAt ps (32 * c + i) := by
    rw [← chunk_get ps c i h, List.getD_eq_getElem?_getD, List.getElem?_eq_getElem h]
    rfl
  rw [this]
set_option maxRecDepth 100000 in
set_option maxHeartbeats 4000000 in
theorem rlay_ok (R : Rc) (ao : Option Addr) (n cap : Nat) (w : World) (hr : R.root.length = 32) (hn : R.ps.length = n) (hP : PtAt w ao R.ps) (hc : chkE R = 0) :
    Calls Try.prog 14 #[.agg (rcA R (.slice ao n cap))] w fun e w' => ∃ v, e = .returned v ∧ w'.ownsRow w.heap.size 9 1 v (lenN n) (strV (layL R)) ∧ Below w.heap.size w w' := by
  obtain ⟨is, his, hs1, hs2, hs3⟩ := rc_info info_strR
  obtain ⟨w1, HW, hR, HB⟩ := box_rc w R (.slice ao n cap) hr
  obtain ⟨hn64, hq0, hq1, hok⟩ := chkE_zero hc
  rw [hn] at hn64
  have HR1 := Lib.hid hR
  have hl1 := hR.lt
  have HP1 := Lib.hid (hP.below HB.out)
  have HN := Lib.hid hn
  have HOK := Lib.hid hok
  have HRT := Lib.hid hr
  have P4 := Lib.hid (fun w => rN_any R.seq 4 w (by omega))
  have P2 := Lib.hid (fun w => rN_any (n : Int) 2 w (by omega))
  have PZ := Lib.hid (fun w => zeros_any 24 w (by omega))
  rw [show ((24 : Nat) : Int) = 24 from rfl] at PZ
  have e4 : putE R.seq 4 = 0 := by
    unfold putE
    rw [if_pos (by omega), if_neg]
    rintro (h' | ⟨-, h'⟩)
    · omega
    · apply h'
      show R.seq / 2 ^ (8 * 4) = 0
      rw [show (2 : Int) ^ (8 * 4) = 4294967296 by decide]
      omega
  rw [show putL R.seq 4 = beL R.seq 4 from putL_ok (W := 4) e4] at P4
  rw [putL_two (by omega) (by omega)] at P2
  have HHD : Hid (∀ q, (⟨#[114, 99]⟩ : ByteArray) ++ ⟨(beL R.seq 4).toArray⟩ ++ ⟨(beL (n : Int) 2).toArray⟩ ++ ⟨R.root.toArray⟩ ++ ⟨(List.replicate 24 (0 : UInt8)).toArray⟩ = q → hdB R = q) := Lib.hid (fun q h => by unfold hdB; rw [HN.out]; exact h)
  have z0 : (⟨#[114, 99]⟩ : ByteArray).size = 2 := rfl
  have z1 : (⟨(beL R.seq 4).toArray⟩ : ByteArray).size = 4 := beL_size _ _
  have z2 : (⟨(beL (n : Int) 2).toArray⟩ : ByteArray).size = 2 := beL_size _ _
  have z3 : (⟨R.root.toArray⟩ : ByteArray).size = 32 := by rw [bytes_size, hr]
  have z4 : (⟨(List.replicate 24 (0 : UInt8)).toArray⟩ : ByteArray).size = 24 := by rw [bytes_size, List.length_replicate]
  have QR := Lib.hid (fun (w' : World) (hb : Below w1.heap.size w1 w') => conv_root hR.root hr hl1 hb)
  have c0 := hR.seq
  have c33 := hR.ps
  clear hR hP hc hn hr hok e4
  generalize (⟨(beL R.seq 4).toArray⟩ : ByteArray) = t1 at *
  generalize (⟨(beL (n : Int) 2).toArray⟩ : ByteArray) = t2 at *
  generalize (⟨R.root.toArray⟩ : ByteArray) = t3 at *
  generalize (⟨(List.replicate 24 (0 : UInt8)).toArray⟩ : ByteArray) = t4 at *
  generalize ht0 : (⟨#[114, 99]⟩ : ByteArray) = t0 at HHD z0
  have a1 : (9223372036854775807 < t0.size + t1.size) = False := by simp; omega
  have a2 : (9223372036854775807 < t0.size + t1.size + t2.size) = False := by simp; omega
  have a3 : (9223372036854775807 < t0.size + t1.size + t2.size + t3.size) = False := by simp; omega
  have a4 : (9223372036854775807 < t0.size + t1.size + t2.size + t3.size + t4.size) = False := by simp; omega
  clear z0 z1 z2 z3 z4
  go_enter Try.func14, Try.ntmps14
  go_upto_region 1 with fail
  rw [HW.out]
  clear HW
  refine wp_region_lin_all (S := (fun w' => (convert 52 9 (.slice (some ⟨w.heap.size, 1, none⟩) 32 32)).run Try.prog w' = .ok (.string t3) w' ∧ w'.cell? ⟨w.heap.size, 0, none⟩ = some (.int .i64 R.seq) ∧ w'.cell? ⟨w.heap.size, 33, none⟩ = some (.slice ao n cap))) [(0, true), (1, true), (4, true), (5, true), (6, true), (9, true), (10, true), (11, true), (2, false), (3, true), (7, false), (8, true), (12, true), (13, false), (14, true), (15, false), (16, true)] (by kernel_rfl) (by kernel_rfl) rfl (by kernel_rfl) ?_ (fun hHeld => ?_)
  · (try dsimp only); exact ⟨QR.out _ (Below.refl _ _).drew, c0, c33⟩
  have HB5 : Hid (Below w1.heap.size w1 w1.drew) := Lib.hid (Below.refl _ _).drew
  generalize World.drew w1 = w5 at hHeld HB5 ⊢
  refine wpL_calm (o := { dst := some 8, op := Go.Op.fieldAddr 26 (Go.Operand.tmp 1) 0, type := 0, pos := "ref.go:25", after := #[], guard := none }) (v := ?_) rfl (Or.inl ⟨by rfl, ?_⟩) ?_; rotate_left; (focus (intro w hSw; (try dsimp only at hSw); go_simp; (try (with_reducible rfl)); done)); try simp only [Act.put, List.setIfInBounds_toArray, List.set_cons_zero, List.set_cons_succ]
  refine wpL_calm (o := { dst := some 9, op := Go.Op.load 3 (Go.Operand.tmp 8), type := 3, pos := "ref.go:25", after := #[{ on := 0, ground := Go.Ground.data }], guard := none }) (v := ?_) rfl (Or.inl ⟨by rfl, ?_⟩) ?_; rotate_left; (focus (intro w hSw; (try dsimp only at hSw); go_simp; (try (with_reducible rfl)); done)); try simp only [Act.put, List.setIfInBounds_toArray, List.set_cons_zero, List.set_cons_succ]
  refine wpL_calm (o := { dst := some 12, op := Go.Op.fieldAddr 26 (Go.Operand.tmp 1) 2, type := 0, pos := "ref.go:25", after := #[], guard := none }) (v := ?_) rfl (Or.inl ⟨by rfl, ?_⟩) ?_; rotate_left; (focus (intro w hSw; (try dsimp only at hSw); go_simp; (try (with_reducible rfl)); done)); try simp only [Act.put, List.setIfInBounds_toArray, List.set_cons_zero, List.set_cons_succ]
  refine wpL_calm (o := { dst := some 13, op := Go.Op.load 24 (Go.Operand.tmp 12), type := 24, pos := "ref.go:25", after := #[{ on := 4, ground := Go.Ground.data }], guard := none }) (v := ?_) rfl (Or.inl ⟨by rfl, ?_⟩) ?_; rotate_left; (focus (intro w hSw; (try dsimp only at hSw); go_simp; (try (with_reducible rfl)); done)); try simp only [Act.put, List.setIfInBounds_toArray, List.set_cons_zero, List.set_cons_succ]
  refine wpL_calm (o := { dst := some 14, op := Go.Op.call { callee := Go.Callee.builtin Go.Builtin.len, args := #[Go.Operand.tmp 13], argTypes := #[24] }, type := 3, pos := "ref.go:25", after := #[{ on := 5, ground := Go.Ground.data }], guard := none }) (v := ?_) rfl (Or.inl ⟨by rfl, ?_⟩) ?_; rotate_left; (focus (intro w hSw; (try dsimp only at hSw); go_simp; (try (with_reducible rfl)); done)); try simp only [Act.put, List.setIfInBounds_toArray, List.set_cons_zero, List.set_cons_succ]
  refine wpL_calm (o := { dst := some 17, op := Go.Op.fieldAddr 26 (Go.Operand.tmp 1) 1, type := 0, pos := "ref.go:25", after := #[], guard := none }) (v := ?_) rfl (Or.inl ⟨by rfl, ?_⟩) ?_; rotate_left; (focus (intro w hSw; (try dsimp only at hSw); go_simp; (try (with_reducible rfl)); done)); try simp only [Act.put, List.setIfInBounds_toArray, List.set_cons_zero, List.set_cons_succ]
  refine wpL_calm (o := { dst := some 18, op := Go.Op.slice 23 (Go.Operand.tmp 17) none none none, type := 52, pos := "ref.go:25", after := #[{ on := 9, ground := Go.Ground.data }], guard := none }) (v := ?_) rfl (Or.inl ⟨by rfl, ?_⟩) ?_; rotate_left; (focus (intro w hSw; (try dsimp only at hSw); go_simp; (try (with_reducible rfl)); done)); try simp only [Act.put, List.setIfInBounds_toArray, List.set_cons_zero, List.set_cons_succ]
  refine wpL_calm (o := { dst := some 19, op := Go.Op.convert 52 9 (Go.Operand.tmp 18), type := 9, pos := "ref.go:25", after := #[{ on := 10, ground := Go.Ground.data }], guard := none }) (v := ?_) rfl (Or.inl ⟨by rfl, ?_⟩) ?_; rotate_left; (focus (intro w hSw; (try dsimp only at hSw); go_simp; (try (with_reducible rfl)); done)); try simp only [Act.put, List.setIfInBounds_toArray, List.set_cons_zero, List.set_cons_succ]
  refine wpL_loud1 (o := { dst := some 10, op := Go.Op.call { callee := Go.Callee.value (Go.Operand.func 25), args := #[Go.Operand.tmp 9, Go.Operand.const (Go.Value.int Go.IntKind.i64 4)], argTypes := #[3, 3] }, type := 9, pos := "ref.go:25", after := #[{ on := 1, ground := Go.Ground.data }], guard := none }) rfl (fun K hK => ?_)
  (go_simp; go_at_call 25; refine (P4.out _).mono ?_; rintro e w6 ⟨rfl, b6⟩)
  try go_wp2_with fail
  refine hK.out _ _ ?_ (fun hHeld => ?_)
  · (try dsimp only); exact ⟨QR.out _ (HB5.out.trans (b6.mono HB5.out.size)), (HR1.out.below (HB5.out.trans (b6.mono HB5.out.size))).seq, (HR1.out.below (HB5.out.trans (b6.mono HB5.out.size))).ps⟩
  clear hK K
  try simp only [Act.put, List.setIfInBounds_toArray, List.set_cons_zero, List.set_cons_succ]
  have HB6 := Lib.hid (HB5.out.trans (b6.mono HB5.out.size)); clear b6
  refine wpL_calm (o := { dst := some 11, op := Go.Op.binOp Go.BinOp.add 9 (Go.Operand.const (Go.Value.string { data := #[114, 99] })) (Go.Operand.tmp 10) 9, type := 9, pos := "ref.go:25", after := #[{ on := 2, ground := Go.Ground.data }], guard := none }) (v := ?_) rfl (Or.inl ⟨by rfl, ?_⟩) ?_; rotate_left; (focus (intro w hSw; (try dsimp only at hSw); go_simp; (try (with_reducible rfl)); done)); try simp only [Act.put, List.setIfInBounds_toArray, List.set_cons_zero, List.set_cons_succ]
  refine wpL_loud1 (o := { dst := some 15, op := Go.Op.call { callee := Go.Callee.value (Go.Operand.func 25), args := #[Go.Operand.tmp 14, Go.Operand.const (Go.Value.int Go.IntKind.i64 2)], argTypes := #[3, 3] }, type := 9, pos := "ref.go:25", after := #[{ on := 6, ground := Go.Ground.data }, { on := 2, ground := Go.Ground.chain }], guard := none }) rfl (fun K hK => ?_)
  (go_simp; go_at_call 25; refine (P2.out _).mono ?_; rintro e w7 ⟨rfl, b7⟩)
  try go_wp2_with fail
  refine hK.out _ _ ?_ (fun hHeld => ?_)
  · (try dsimp only); exact ⟨QR.out _ (HB6.out.trans (b7.mono HB6.out.size)), (HR1.out.below (HB6.out.trans (b7.mono HB6.out.size))).seq, (HR1.out.below (HB6.out.trans (b7.mono HB6.out.size))).ps⟩
  clear hK K
  try simp only [Act.put, List.setIfInBounds_toArray, List.set_cons_zero, List.set_cons_succ]
  have HB7 := Lib.hid (HB6.out.trans (b7.mono HB6.out.size)); clear b7
  refine wpL_calm (o := { dst := some 16, op := Go.Op.binOp Go.BinOp.add 9 (Go.Operand.tmp 11) (Go.Operand.tmp 15) 9, type := 9, pos := "ref.go:25", after := #[{ on := 3, ground := Go.Ground.data }, { on := 7, ground := Go.Ground.data }], guard := none }) (v := ?_) rfl (Or.inl ⟨by rfl, ?_⟩) ?_; rotate_left; (focus (intro w hSw; (try dsimp only at hSw); go_simp; (try (with_reducible rfl)); done)); try simp only [Act.put, List.setIfInBounds_toArray, List.set_cons_zero, List.set_cons_succ]
  refine wpL_calm (o := { dst := some 20, op := Go.Op.binOp Go.BinOp.add 9 (Go.Operand.tmp 16) (Go.Operand.tmp 19) 9, type := 9, pos := "ref.go:25", after := #[{ on := 8, ground := Go.Ground.data }, { on := 11, ground := Go.Ground.data }], guard := none }) (v := ?_) rfl (Or.inl ⟨by rfl, ?_⟩) ?_; rotate_left; (focus (intro w hSw; (try dsimp only at hSw); go_simp; (try (with_reducible rfl)); done)); try simp only [Act.put, List.setIfInBounds_toArray, List.set_cons_zero, List.set_cons_succ]
  refine wpL_loud1 (o := { dst := some 21, op := Go.Op.call { callee := Go.Callee.value (Go.Operand.func 26), args := #[Go.Operand.const (Go.Value.int Go.IntKind.i64 24)], argTypes := #[3] }, type := 9, pos := "ref.go:25", after := #[{ on := 7, ground := Go.Ground.chain }], guard := none }) rfl (fun K hK => ?_)
  (go_simp; go_at_call 26; refine (PZ.out _).mono ?_; rintro e w8 ⟨rfl, b8⟩)
  try go_wp2_with fail
  refine hK.out _ _ ?_ (fun hHeld => ?_)
  · (try dsimp only); exact ⟨QR.out _ (HB7.out.trans (b8.mono HB7.out.size)), (HR1.out.below (HB7.out.trans (b8.mono HB7.out.size))).seq, (HR1.out.below (HB7.out.trans (b8.mono HB7.out.size))).ps⟩
  clear hK K
  try simp only [Act.put, List.setIfInBounds_toArray, List.set_cons_zero, List.set_cons_succ]
  have HB8 := Lib.hid (HB7.out.trans (b8.mono HB7.out.size)); clear b8
  refine wpL_calm (o := { dst := some 22, op := Go.Op.binOp Go.BinOp.add 9 (Go.Operand.tmp 20) (Go.Operand.tmp 21) 9, type := 9, pos := "ref.go:25", after := #[{ on := 12, ground := Go.Ground.data }, { on := 13, ground := Go.Ground.data }], guard := none }) (v := ?_) rfl (Or.inl ⟨by rfl, ?_⟩) ?_; rotate_left; (focus (intro w hSw; (try dsimp only at hSw); go_simp; (try (with_reducible rfl)); done)); try simp only [Act.put, List.setIfInBounds_toArray, List.set_cons_zero, List.set_cons_succ]
  refine wpL_loud1 (o := { dst := some 23, op := Go.Op.buildSlice 29 1 #[(0, Go.Operand.tmp 22)], type := 29, pos := "ref.go:25", after := #[{ on := 14, ground := Go.Ground.data }], guard := none }) rfl (fun K hK => ?_)
  go_simp
  refine hK.out _ _ ?_ (fun hHeld => ?_)
  · (try dsimp only); exact ⟨QR.out _ (HB8.out.alloc HB8.out.size _), (HR1.out.below (HB8.out.alloc HB8.out.size _)).seq, (HR1.out.below (HB8.out.alloc HB8.out.size _)).ps⟩
  clear hK K
  try simp only [Act.put, List.setIfInBounds_toArray, List.set_cons_zero, List.set_cons_succ]
  refine wpL_calm (o := { dst := some 3, op := Go.Op.assign (Go.Operand.tmp 23), type := 29, pos := "ref.go:25", after := #[{ on := 15, ground := Go.Ground.data }, { on := 13, ground := Go.Ground.chain }, { on := 0, ground := Go.Ground.phase }, { on := 1, ground := Go.Ground.phase }, { on := 2, ground := Go.Ground.phase }, { on := 3, ground := Go.Ground.phase }, { on := 4, ground := Go.Ground.phase }, { on := 5, ground := Go.Ground.phase }, { on := 6, ground := Go.Ground.phase }, { on := 7, ground := Go.Ground.phase }, { on := 8, ground := Go.Ground.phase }, { on := 9, ground := Go.Ground.phase }, { on := 10, ground := Go.Ground.phase }, { on := 11, ground := Go.Ground.phase }, { on := 12, ground := Go.Ground.phase }, { on := 13, ground := Go.Ground.phase }, { on := 14, ground := Go.Ground.phase }, { on := 15, ground := Go.Ground.phase }], guard := none }) (v := ?_) rfl (Or.inl ⟨by rfl, ?_⟩) ?_; rotate_left; (focus (intro w hSw; (try dsimp only at hSw); go_simp; (try (with_reducible rfl)); done)); try simp only [Act.put, List.setIfInBounds_toArray, List.set_cons_zero, List.set_cons_succ]
  refine wpL_nil ?_
  refine NoPanic.normal ?_
  clear hHeld QR P2 P4 PZ a1 a2 a3 a4 c0 c33 HB5 HB6 HB7
  have HH2 : Hid (t0 ++ t1 ++ t2 ++ t3 ++ t4 = hdB R) := Lib.hid ((HHD.out _ rfl).symm)
  generalize t0 ++ t1 ++ t2 ++ t3 ++ t4 = hd at *
  obtain rfl := HH2.out
  have HO9 : Hid ((w8.alloc (.cells #[.string (hdB R)] 9)).ownsRow w1.heap.size 9 1 (.slice (some ⟨w8.heap.size, 0, none⟩) 1 1) 1 (strV (hdsL R 0))) := Lib.hid (own_new1 w8 w1.heap.size 9 (.string (hdB R)) HB8.out.size)
  have HB9 : Hid (Below w1.heap.size w1 (w8.alloc (.cells #[.string (hdB R)] 9))) := Lib.hid (HB8.out.alloc HB8.out.size _)
  clear HH2 HHD ht0 HB8
  generalize (w8.alloc (.cells #[.string (hdB R)] 9)) = w9 at *
  generalize w8.heap.size = g9 at *
  obtain ⟨ps, hps⟩ : ∃ ps, Hid (R.ps = ps) := ⟨_, Lib.hid rfl⟩
  rw [hps.out] at HP1 HN HOK
  go_wp2_with fail
  go_loopw [3, 4, 5, 6] (fun x3 x4 _ _ wi => ∃ (c lo : Nat) (v9 : Value), Hid (lo = 32 * c) ∧ x4 = .int .i64 (lo : Int) ∧ c ≤ plN n ∧ x3 = v9 ∧ Hid (wi.ownsRow w1.heap.size 9 1 v9 (c + 1) (strV (hdsL R c))) ∧ Hid (Below w1.heap.size w1 wi)) (fun _ x _ _ _ => 32 * plN n + 32 - (intOf x).toNat)
  case atStart => exact ⟨0, 0, _, Lib.hid rfl, rfl, by omega, rfl, HO9, HB9⟩
  clear HO9 HB9
  case round =>
    obtain ⟨c, lo, v9, hlo', rfl, hc, rfl, HO, HBi⟩ := hrel
    have c33 := (HR1.out.below HBi.out).ps
    by_cases hcn : c < plN n
    · have hlo : lo < n := by have := hlo'.out; unfold plN at hcn; omega
      have hc64 : c < 64 := by unfold plN at hcn; omega
      have hlt : (lo : Int) < (n : Int) := by omega
      have y1 : IntKind.i64.wrap ((lo : Int) + 32) = (lo : Int) + 32 := IntWalk.i64_in _ (by omega)
      obtain ⟨m, hm⟩ : ∃ m, Hid ((chunk ps c).length = m) := ⟨_, Lib.hid rfl⟩
      have HM : Hid (m = min 32 (n - lo)) := Lib.hid (by rw [← hm.out, chunk_len, HN.out, hlo'.out])
      have HSN : Hid (strV (hdsL R (c + 1)) = strV (hdsL R c) ++ [.string (atsB ps c)]) := Lib.hid (by rw [hdsL_succ, hps.out, strV_app]; rfl)
      have HAB : Hid (∀ q : List UInt8, rowB 2 ((chunk ps c).take m) = q → (⟨(zpadL q 64).toArray⟩ : ByteArray) = atsB ps c) := Lib.hid (fun q h => by rw [← h, List.take_of_length_le (by rw [hm.out]; exact Nat.le_refl _)]; rfl)
      go_wp2_with fail
      clear c33
      go_loopw [5, 6] (fun x5 x6 wi => ∃ (j : Nat) (sb : ByteArray), Hid (sb = ⟨(rowB 2 ((chunk ps c).take (j - lo))).toArray⟩) ∧ x6 = .int .i64 (j : Int) ∧ x5 = .string sb ∧ lo ≤ j ∧ j ≤ lo + m ∧ Hid (wi.ownsRow w1.heap.size 9 1 u3 (c + 1) (strV (hdsL R c))) ∧ Hid (Below w1.heap.size w1 wi)) (fun _ x _ => m + lo - (intOf x).toNat)
      case atStart => exact ⟨lo, ⟨#[]⟩, Lib.hid (by rw [Nat.sub_self, List.take_zero]; rfl), rfl, rfl, Nat.le_refl _, by omega, HO, HBi⟩
      clear HO HBi
      case round =>
        obtain ⟨j, sb, hsb, rfl, rfl, hj1, hj2, HO, HBi⟩ := hrel
        have c33 := (HR1.out.below HBi.out).ps
        by_cases him : j < lo + m
        · as_aux_lemma =>
          have h1 : (j : Int) < (n : Int) := by have := HM.out; omega
          have h2 : (j : Int) < (lo : Int) + 32 := by have := HM.out; omega
          obtain ⟨g, o, rfl, hg, hcc⟩ := HP1.out (by rw [HN.out]; omega)
          have d0 := (HBi.out.cell (p := ⟨g, o + j * 2, none⟩) hg).trans (hcc j (by rw [HN.out]; omega)).1
          clear hcc
          obtain ⟨a, ha⟩ : ∃ a, Hid (pAt ps j = a) := ⟨_, Lib.hid rfl⟩
          rw [ha.out] at d0
          have hra : 0 ≤ a ∧ a ≤ 65535 := by
            have q1 := okPs_low HOK.out j (by rw [HN.out]; omega)
            have q2 := (HOK.out j (by rw [HN.out]; omega)).2.1
            rw [ha.out] at q1 q2
            omega
          have PN := Lib.hid (fun w => rN_any a 2 w (by omega))
          have hsz : sb.size ≤ 1000 := by
            rw [hsb.out, bytes_size]
            have := rowB_length 2 ((chunk ps c).take (j - lo))
            have h3 := List.length_take_le (j - lo) (chunk ps c)
            have := HM.out
            omega
          have HS2 : Hid (sb ++ ⟨(putL a 2).toArray⟩ = ⟨(rowB 2 ((chunk ps c).take (j + 1 - lo))).toArray⟩) := Lib.hid (by
            have e1 : j + 1 - lo = (j - lo) + 1 := by omega
            have e2 : 32 * c + (j - lo) = j := by have := hlo'.out; omega
            rw [e1, chunk_take ps c (j - lo) (by rw [hm.out]; omega), rowB_snoc', e2, ha.out, hsb.out, bytes_add])
          have hts : (⟨(putL a 2).toArray⟩ : ByteArray).size ≤ 8 := by rw [bytes_size]; exact putL_length a 2
          generalize (⟨(putL a 2).toArray⟩ : ByteArray) = t at *
          have hcat : (9223372036854775807 < sb.size + t.size) = False := by simp; omega
          go_wp2_with fail
          refine (PN.out _).mono ?_
          rintro e w10 ⟨rfl, b10⟩
          have HO10 := Lib.hid (own_keep HO.out b10 (Nat.le_refl _))
          have HB10 := Lib.hid (HBi.out.trans (b10.mono HBi.out.size))
          clear b10 HO HBi c33 d0 PN
          go_wp2_with fail
          go_roundw
          case rel => exact ⟨j + 1, _, HS2, by go_num, rfl, by omega, by omega, HO10, HB10⟩
          case measure => simp [intOf]; omega
        · as_aux_lemma =>
          obtain rfl : j = lo + m := by omega
          obtain ⟨jj, hjj⟩ : ∃ jj, Hid (lo + m = jj) := ⟨_, Lib.hid rfl⟩
          rw [hjj.out]
          have hend : (n : Int) ≤ (jj : Int) ∨ ((jj : Int) < (n : Int) ∧ ¬ (jj : Int) < (lo : Int) + 32) := by have := HM.out; have := hjj.out; omega
          have hse : Hid (rowB 2 ((chunk ps c).take m) = sb.data.toList) := Lib.hid (by rw [hsb.out, show lo + m - lo = m by omega])
          have hsz : sb.size ≤ 1000 := by
            rw [hsb.out, bytes_size]
            have := rowB_length 2 ((chunk ps c).take (lo + m - lo))
            have h3 := List.length_take_le (lo + m - lo) (chunk ps c)
            have := HM.out
            omega
          have PF := Lib.hid (fun w => full_any sb 64 w (by omega) (by omega))
          rw [HAB.out _ hse.out, show ((64 : Nat) : Int) = 64 from rfl] at PF
          generalize atsB ps c = ab at *
          have HNX : Hid (lo + 32 = 32 * (c + 1)) := Lib.hid (by have := hlo'.out; omega)
          rcases hend with hend | ⟨hend, hend2⟩
          · go_wp2_with fail
            refine (PF.out _).mono ?_
            rintro e w10 ⟨rfl, b10⟩
            have HO10 := Lib.hid (own_keep HO.out b10 (Nat.le_refl _))
            have HB10 := Lib.hid (HBi.out.trans (b10.mono HBi.out.size))
            clear b10 HO HBi c33 PF
            go_wp2_with (at_builtin; refine wpList_append_own _ rfl _ _ 29 rfl w1.heap.size 9 is (.string ⟨#[]⟩) 1 16 Try.underlying29 his hs1 hs2 hs3 rfl (by decide) _ (c + 1) (strV (hdsL R c)) rfl (HO10.out.alloc _) ⟨w10.heap.size, 0, none⟩ 1 1 [.string ab] rfl rfl ?c1 ?c2 (by unfold maxLen; omega) (by omega) (by have := HB10.out.size; simp; omega) ?_)
            case c1 => exact cell1_at _ _ _
            case c2 => intro u hu; simp at hu; subst hu; rfl
            intro v' w11 hown hg11 _
            have HO11 : Hid (w11.ownsRow w1.heap.size 9 1 v' (c + 1 + 1) (strV (hdsL R (c + 1)))) := Lib.hid (by rw [HSN.out]; exact hown)
            have HB11 : Hid (Below w1.heap.size w1 w11) := Lib.hid ((HB10.out.alloc HB10.out.size _).grown hg11 (by have := HB10.out.size; simp; omega) (fun q hq => (HO10.out.lt q hq).1))
            obtain ⟨a', c', rfl⟩ := own_at0 hown
            clear hown hg11 HO10 HB10
            go_wp2_with fail
            go_roundw
            case rel => exact ⟨c + 1, lo + 32, _, HNX, by go_num, by omega, rfl, HO11, HB11⟩
            case measure => simp [intOf]; have := hlo'.out; omega
          · go_wp2_with fail
            refine (PF.out _).mono ?_
            rintro e w10 ⟨rfl, b10⟩
            have HO10 := Lib.hid (own_keep HO.out b10 (Nat.le_refl _))
            have HB10 := Lib.hid (HBi.out.trans (b10.mono HBi.out.size))
            clear b10 HO HBi c33 PF
            go_wp2_with (at_builtin; refine wpList_append_own _ rfl _ _ 29 rfl w1.heap.size 9 is (.string ⟨#[]⟩) 1 16 Try.underlying29 his hs1 hs2 hs3 rfl (by decide) _ (c + 1) (strV (hdsL R c)) rfl (HO10.out.alloc _) ⟨w10.heap.size, 0, none⟩ 1 1 [.string ab] rfl rfl ?c1 ?c2 (by unfold maxLen; omega) (by omega) (by have := HB10.out.size; simp; omega) ?_)
            case c1 => exact cell1_at _ _ _
            case c2 => intro u hu; simp at hu; subst hu; rfl
            intro v' w11 hown hg11 _
            have HO11 : Hid (w11.ownsRow w1.heap.size 9 1 v' (c + 1 + 1) (strV (hdsL R (c + 1)))) := Lib.hid (by rw [HSN.out]; exact hown)
            have HB11 : Hid (Below w1.heap.size w1 w11) := Lib.hid ((HB10.out.alloc HB10.out.size _).grown hg11 (by have := HB10.out.size; simp; omega) (fun q hq => (HO10.out.lt q hq).1))
            obtain ⟨a', c', rfl⟩ := own_at0 hown
            clear hown hg11 HO10 HB10
            go_wp2_with fail
            go_roundw
            case rel => exact ⟨c + 1, lo + 32, _, HNX, by go_num, by omega, rfl, HO11, HB11⟩
            case measure => simp [intOf]; have := hlo'.out; omega
    · as_aux_lemma =>
      obtain rfl : c = plN n := by omega
      obtain ⟨pk, hpk⟩ : ∃ pk, Hid (plN n = pk) := ⟨_, Lib.hid rfl⟩
      have HLN : Hid (lenN n = pk + 1 + n) := Lib.hid (by have := hpk.out; unfold plN at this; unfold lenN; omega)
      have HLL : Hid (∀ j, j = n → strV (hdsL R pk) ++ strV ((ps.map (·.2)).take j) = strV (layL R)) := Lib.hid (fun j hj => by
        subst hj
        unfold layL
        rw [hps.out, HN.out, hpk.out, strV_app, List.take_of_length_le (by rw [List.length_map, HN.out]; exact Nat.le_refl _)])
      have hge : ¬ (lo : Int) < (n : Int) := by have := hpk.out; have := hlo'.out; unfold plN at *; omega
      have hpk64 : pk ≤ 64 := by have := hpk.out; unfold plN at this; omega
      rw [hpk.out] at HO
      have HOZ : Hid (wr.ownsRow w1.heap.size 9 1 u3 (pk + 1 + 0) (strV (hdsL R pk) ++ strV ((ps.map (·.2)).take 0))) := Lib.hid (by rw [List.take_zero]; show wr.ownsRow _ _ _ _ (pk + 1) (_ ++ []); rw [List.append_nil]; exact HO.out)
      clear HO hc hcn hlo' hpk
      go_wp2_with fail
      clear hge c33
      go_loopw [3, 7] (fun x3 x7 wi => ∃ (j : Nat) (v9 : Value), x7 = .int .i64 (j : Int) ∧ j ≤ n ∧ x3 = v9 ∧ Hid (wi.ownsRow w1.heap.size 9 1 v9 (pk + 1 + j) (strV (hdsL R pk) ++ strV ((ps.map (·.2)).take j))) ∧ Hid (Below w1.heap.size w1 wi)) (fun _ x _ => n - (intOf x).toNat)
      case atStart => exact ⟨0, _, rfl, by omega, rfl, HOZ, HBi⟩
      clear HOZ HBi
      case round =>
        obtain ⟨j, v9, rfl, hj, rfl, HO, HBi⟩ := hrel
        have c33 := (HR1.out.below HBi.out).ps
        by_cases hjk : j < n
        · as_aux_lemma =>
          have hji : (j : Int) < (n : Int) := by omega
          obtain ⟨g, o, rfl, hg, hcc⟩ := HP1.out (by rw [HN.out]; omega)
          have d1 := (HBi.out.cell (p := ⟨g, o + j * 2 + 1, none⟩) hg).trans (hcc j (by rw [HN.out]; exact hjk)).2
          clear hcc
          obtain ⟨b, hb⟩ : ∃ b, Hid (pB ps j = b) := ⟨_, Lib.hid rfl⟩
          rw [hb.out] at d1
          have HSN : Hid (strV (hdsL R pk) ++ strV ((ps.map (·.2)).take (j + 1)) = strV (hdsL R pk) ++ (strV ((ps.map (·.2)).take j) ++ [.string b])) := Lib.hid (by
            rw [List.take_succ_eq_append_getElem (by rw [List.length_map, HN.out]; exact hjk), strV_app]
            have : (ps.map (·.2))[j]'(by rw [List.length_map, HN.out]; exact hjk) = b := by
              rw [← hb.out]
              unfold pB
              rw [List.getElem_map, List.getElem?_eq_getElem (by rw [HN.out]; exact hjk)]
              rfl
            rw [this]
            rfl)
          go_wp2_with (at_builtin; refine wpList_append_own _ rfl _ _ 29 rfl w1.heap.size 9 is (.string ⟨#[]⟩) 1 16 Try.underlying29 his hs1 hs2 hs3 rfl (by decide) _ (pk + 1 + j) (strV (hdsL R pk) ++ strV ((ps.map (·.2)).take j)) rfl (HO.out.alloc _) ⟨wr.heap.size, 0, none⟩ 1 1 [.string b] rfl rfl ?c1 ?c2 (by unfold maxLen; omega) (by omega) (by have := HBi.out.size; simp; omega) ?_)
          try case c1 => exact cell1_at _ _ _
          case c2 => first | rfl | exact cell1_at _ _ _ | (intro u hu; simp at hu; subst hu; rfl)
          intro v' w9 hown hg9 _
          have HO9 : Hid (w9.ownsRow w1.heap.size 9 1 v' (pk + 1 + (j + 1)) (strV (hdsL R pk) ++ strV ((ps.map (·.2)).take (j + 1)))) := Lib.hid (by rw [HSN.out]; first | exact hown | (rw [← List.append_assoc]; exact hown))
          have HB9 : Hid (Below w1.heap.size w1 w9) := Lib.hid ((HBi.out.alloc HBi.out.size _).grown hg9 (by have := HBi.out.size; simp; omega) (fun q hq => (HO.out.lt q hq).1))
          obtain ⟨a', c', rfl⟩ := own_at0 hown
          clear hown hg9 d1
          go_wp2_with fail
          go_roundw
          case rel => exact ⟨j + 1, _, by go_num, by omega, rfl, HO9, HB9⟩
          case measure => simp [intOf]; omega
        · as_aux_lemma =>
          obtain rfl : j = n := by omega
          have HOF : Hid (wr.ownsRow w1.heap.size 9 1 u3 (lenN j) (strV (layL R))) := Lib.hid (by rw [HLN.out, ← HLL.out j rfl]; exact HO.out)
          obtain ⟨a', c', rfl⟩ := own_at0 HO.out
          go_wp2_with fail
          go_ret
          exact ⟨_, rfl, own_base HOF.out (by have := HB.out.size; omega), HB.out.trans (HBi.out.mono HB.out.size)⟩
end Go.Proofs.Ythhaadcpenlnkaa
