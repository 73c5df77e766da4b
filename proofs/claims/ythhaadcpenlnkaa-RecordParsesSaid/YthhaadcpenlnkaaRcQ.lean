/- The reference's Parse (record): a first block that may be. -/
import Derived.Test.YthhaadcpenlnkaaRcP
namespace Go.Proofs.Ythhaadcpenlnkaa
open Go.RowKit Go.Deep
set_option linter.unusedVariables false
set_option linter.unusedSimpArgs false
attribute [local irreducible] rcA
theorem mul32 (h : Nat) (hh : h ≤ 1000) (h1 : 1 ≤ h) : IntKind.i64.wrap ((h : Int) - 1) = ((h - 1 : Nat) : Int) ∧ IntKind.i64.wrap (32 * ((h - 1 : Nat) : Int)) = ((32 * (h - 1) : Nat) : Int) := by
  constructor
  · rw [IntWalk.i64_in _ (by omega)]; omega
  · rw [IntWalk.i64_in _ (by omega)]; omega
set_option maxRecDepth 100000 in
set_option maxHeartbeats 8000000 in
theorem rparse_ok (L : List ByteArray) (ao : Option Addr) (n cap : Nat) (w : World) (hn : L.length = n) (hc : n ≤ cap) (hcm : cap ≤ maxLen) (h0 : 0 < n) (hT : TxtAt w ao L) (hok : headOk (tB L 0)) : Calls Try.prog 17 #[.slice ao n cap] w fun e w' => ParseP L w e w' := by
  have hz := zero_rc
  obtain ⟨w1, HW1, HR1, HB1⟩ := made_rc w
  have hsz := rc_loaded nilS HR1.2
  have hone := rcA_one rz0 nilS rfl
  have h64 := hok.1
  have hne : L ≠ [] := fun h => by rw [h] at hn; simp at hn; omega
  have HT := Lib.hid hT
  have HN := Lib.hid hn
  obtain ⟨g, o, rfl, hg, htx⟩ := hT (by omega)
  have t0 := (HB1.out.cell (p := ⟨g, o + 0, none⟩) hg).trans (htx 0 (by omega))
  rw [tB_get, Nat.add_zero] at t0
  have e0 : ((n : Int) == 0) = false := by rw [beq_eq_false_iff_ne]; omega
  have e0' : (0 : Int) < (n : Int) := by omega
  have PZ := Lib.hid (fun w => zeros_any 24 w (by omega))
  rw [show ((24 : Nat) : Int) = 24 from rfl, show (⟨(List.replicate 24 (0 : UInt8)).toArray⟩ : ByteArray) = z24 from rfl] at PZ
  have HS : Hid (L.length < lenN (cntP (tB L 0)) → eP L = 5) := Lib.hid (fun b => eP_short hne hok b)
  have H6 : Hid (¬ L.length < lenN (cntP (tB L 0)) → ∀ j, j < lenN (cntP (tB L 0)) → (tB L j).size ≠ 64 → eP L = 6) := Lib.hid (fun b j hj1 hj2 => eP_not64 hne hok b j hj1 hj2)
  have HF : Hid (¬ L.length < lenN (cntP (tB L 0)) → ¬ (chkE (recP L) = 0 ∧ layL (recP L) = L.take (lenN (cntP (tB L 0)))) → eP L = 6) := Lib.hid (fun b c => eP_form hne hok b c)
  have HO : Hid (¬ L.length < lenN (cntP (tB L 0)) → chkE (recP L) = 0 → layL (recP L) = L.take (lenN (cntP (tB L 0))) → eP L = 0) := Lib.hid (fun b c d => eP_ok hne hok b c d)
  have hk64 : cntP (tB L 0) ≤ 64 := hok.2.2.2
  have HRS : Hid ((recP L).seq = (headR (tB L 0)).seq ∧ (recP L).root = (headR (tB L 0)).root ∧ (recP L).ps = psP L (cntP (tB L 0)) (cntP (tB L 0)) ∧ (headR (tB L 0)).root.length = 32) := Lib.hid ⟨rfl, rfl, rfl, rootP_len h64⟩
  have HHD : Hid (headR (tB L 0) = ⟨seqP (tB L 0), rootI (tB L 0) 32, []⟩) := Lib.hid (by rw [rootI_all _ h64]; rfl)
  have l2 : rcT.toList = [114, 99] := by rw [Lib.toList_data]; rfl
  have e1 : ((tB L 0).extract 0 2).toList = [114, 99] := by rw [hok.2.1]; exact l2
  have e1' : (((tB L 0).extract 0 2).toList != [114, 99]) = false := by rw [e1]; rfl
  have e1'' : (((tB L 0).extract 0 2).toList == [114, 99]) = true := by rw [e1]; rfl
  have e2' : (((tB L 0).extract 40 64).toList != z24.toList) = false := by rw [hok.2.2.1]; simp
  have e2'' : (((tB L 0).extract 40 64).toList == z24.toList) = true := by rw [hok.2.2.1]; simp
  clear htx hne hn hok e1 l2
  obtain ⟨k, hk⟩ : ∃ k, Hid (cntP (tB L 0) = k) := ⟨_, Lib.hid rfl⟩
  rw [hk.out] at HS H6 HF HO hk64 HRS
  obtain ⟨s, hs⟩ : ∃ s, Hid (tB L 0 = s) := ⟨_, Lib.hid rfl⟩
  rw [hs.out] at HRS HHD t0 h64 e1' e1'' e2' e2''
  have hk2 : Hid (cntP s = k) := Lib.hid (by rw [← hs.out]; exact hk.out)
  have n64 : ((s.size : Int) != 64) = false := by simp; omega
  have i64 : (s.size : Int) = 64 := by omega
  have HI : Hid (∀ j : Nat, j < 64 → ∀ w, (Instr.index 9 (.string s) (.int .i64 (j : Int))).run Try.prog w = .ok (.int .u8 ((bt s j).toNat : Int)) w) := Lib.hid (fun j hj w => ix_s s j (by omega) w)
  have ix6 := HI.out 6 (by omega)
  have ix7 := HI.out 7 (by omega)
  rw [show ((6 : Nat) : Int) = 6 from rfl] at ix6
  rw [show ((7 : Nat) : Int) = 7 from rfl] at ix7
  have b6 := (bt s 6).toNat_lt
  have b7 := (bt s 7).toNat_lt
  have HCN : Hid ((k : Int) = ((bt s 6).toNat : Int) * 256 + ((bt s 7).toNat : Int)) := Lib.hid (by rw [← hk2.out, cntZ_nat]; exact beV_two s 6 (by omega))
  have PG := Lib.hid (fun w => r01get_any (s.extract 2 6) w)
  have hl4 : (s.extract 2 6).data.toList.length = 4 := ext_len' s 2 6 (by omega) (by omega)
  rw [getE_short (by omega) (by omega), getV_short (by omega) (by omega), show beV (s.extract 2 6).data.toList = seqP s from rfl] at PG
  clear hl4
  have HIR : Hid (∀ i : Nat, i < 32 → (∀ w, (Instr.index 9 (.string s) (.int .i64 (8 + (i : Int)))).run Try.prog w = .ok (.int .u8 ((bt s (8 + i)).toNat : Int)) w) ∧ (rootI s i).set i (bt s (8 + i)) = rootI s (i + 1)) := Lib.hid (fun i hi => ⟨fun w => by
    have := ix_s s (8 + i) (by omega) w
    rw [show ((8 + i : Nat) : Int) = 8 + (i : Int) from by omega] at this
    exact this, rootI_set s i hi⟩)
  generalize (bt s 6).toNat = n6 at *
  generalize (bt s 7).toNat = n7 at *
  have w6 : IntKind.i64.wrap (n6 : Int) = n6 := IntWalk.i64_in _ (by omega)
  have w7 : IntKind.i64.wrap (n7 : Int) = n7 := IntWalk.i64_in _ (by omega)
  have w8 : IntKind.i64.wrap ((n6 : Int) * 256) = (n6 : Int) * 256 := IntWalk.i64_in _ (by omega)
  have w9 : IntKind.i64.wrap ((n6 : Int) * 256 + (n7 : Int)) = (k : Int) := by rw [IntWalk.i64_in _ (by omega), HCN.out]
  have hkn : ¬ (64 : Int) < (k : Int) := by omega
  clear HCN b6 b7 HI
  generalize z24 = zz at *
  go_enter Try.func17, Try.ntmps17
  go_upto_region 1 with fail
  rw [HW1.out]
  clear HW1
  go_upto_region 4 with fail
  refine wp_region_lin (S := (fun _ => True)) [(0, true), (1, true), (2, true), (3, true), (4, true), (5, true), (6, true), (7, true), (8, true), (9, true), (10, true), (11, false), (12, true), (13, true)] (by kernel_rfl) (by kernel_rfl) rfl (by kernel_rfl) ?_ (fun hHeld => ?_)
  · (try dsimp only); try exact trivial
  have HB2 : Hid (Below w1.heap.size w1 w1.drew) := Lib.hid (Below.refl _ _).drew
  generalize World.drew w1 = w2 at hHeld HB2 ⊢
  refine wpL_calm (o := { dst := some 22, op := Go.Op.move (Go.Operand.tmp 5), type := 9, pos := "ref.go:45", after := #[], guard := none }) (v := ?_) rfl (Or.inl ⟨by rfl, ?_⟩) ?_; rotate_left; (focus (intro w hSw; (try dsimp only at hSw); go_simp; (try (with_reducible rfl)); done)); try simp only [Act.put, List.setIfInBounds_toArray, List.set_cons_zero, List.set_cons_succ]
  refine wpL_calm (o := { dst := some 23, op := Go.Op.call { callee := Go.Callee.builtin Go.Builtin.len, args := #[Go.Operand.tmp 22], argTypes := #[9] }, type := 3, pos := "ref.go:45", after := #[{ on := 0, ground := Go.Ground.data }], guard := none }) (v := ?_) rfl (Or.inl ⟨by rfl, ?_⟩) ?_; rotate_left; (focus (intro w hSw; (try dsimp only at hSw); go_simp; (try (with_reducible rfl)); done)); try simp only [Act.put, List.setIfInBounds_toArray, List.set_cons_zero, List.set_cons_succ]
  refine wpL_calm (o := { dst := some 24, op := Go.Op.binOp Go.BinOp.neq 3 (Go.Operand.tmp 23) (Go.Operand.const (Go.Value.int Go.IntKind.i64 64)) 3, type := 4, pos := "ref.go:45", after := #[{ on := 1, ground := Go.Ground.data }], guard := none }) (v := ?_) rfl (Or.inl ⟨by rfl, ?_⟩) ?_; rotate_left; (focus (intro w hSw; (try dsimp only at hSw); go_simp; (try (with_reducible rfl)); done)); try simp only [Act.put, List.setIfInBounds_toArray, List.set_cons_zero, List.set_cons_succ]
  refine wpL_calm (o := { dst := some 25, op := Go.Op.move (Go.Operand.tmp 24), type := 4, pos := "ref.go:45", after := #[{ on := 2, ground := Go.Ground.data }], guard := none }) (v := ?_) rfl (Or.inl ⟨by rfl, ?_⟩) ?_; rotate_left; (focus (intro w hSw; (try dsimp only at hSw); go_simp; (try (with_reducible rfl)); done)); try simp only [Act.put, List.setIfInBounds_toArray, List.set_cons_zero, List.set_cons_succ]
  refine wpL_calm (o := { dst := some 26, op := Go.Op.move (Go.Operand.tmp 5), type := 9, pos := "ref.go:45", after := #[{ on := 3, ground := Go.Ground.guard }], guard := some (3, false) }) (v := ?_) rfl (Or.inl ⟨by rfl, ?_⟩) ?_; rotate_left; (focus (intro w hSw; (try dsimp only at hSw); go_simp; (try (with_reducible rfl)); done)); try simp only [Act.put, List.setIfInBounds_toArray, List.set_cons_zero, List.set_cons_succ]
  refine wpL_calm (o := { dst := some 27, op := Go.Op.slice 9 (Go.Operand.tmp 26) none (some (Go.Operand.const (Go.Value.int Go.IntKind.i64 2))) none, type := 9, pos := "ref.go:45", after := #[{ on := 4, ground := Go.Ground.data }, { on := 3, ground := Go.Ground.guard }], guard := some (3, false) }) (v := ?_) rfl (Or.inl ⟨by rfl, ?_⟩) ?_; rotate_left; (focus (intro w hSw; (try dsimp only at hSw); go_simp; (try (with_reducible rfl)); done)); try simp only [Act.put, List.setIfInBounds_toArray, List.set_cons_zero, List.set_cons_succ]
  refine wpL_calm (o := { dst := some 28, op := Go.Op.binOp Go.BinOp.neq 9 (Go.Operand.tmp 27) (Go.Operand.const (Go.Value.string { data := #[114, 99] })) 9, type := 4, pos := "ref.go:45", after := #[{ on := 5, ground := Go.Ground.data }, { on := 3, ground := Go.Ground.guard }], guard := some (3, false) }) (v := ?_) rfl (Or.inl ⟨by rfl, ?_⟩) ?_; rotate_left; (focus (intro w hSw; (try dsimp only at hSw); go_simp; (try (with_reducible rfl)); done)); try simp only [Act.put, List.setIfInBounds_toArray, List.set_cons_zero, List.set_cons_succ]
  refine wpL_calm (o := { dst := some 29, op := Go.Op.pick (Go.Operand.tmp 25) (Go.Operand.const (Go.Value.bool true)) (Go.Operand.tmp 28), type := 4, pos := "ref.go:45", after := #[{ on := 3, ground := Go.Ground.data }, { on := 6, ground := Go.Ground.data }], guard := none }) (v := ?_) rfl (Or.inl ⟨by rfl, ?_⟩) ?_; rotate_left; (focus (intro w hSw; (try dsimp only at hSw); go_simp; (try (with_reducible rfl)); done)); try simp only [Act.put, List.setIfInBounds_toArray, List.set_cons_zero, List.set_cons_succ]
  refine wpL_calm (o := { dst := some 30, op := Go.Op.move (Go.Operand.tmp 29), type := 4, pos := "ref.go:45", after := #[{ on := 7, ground := Go.Ground.data }, { on := 3, ground := Go.Ground.chain }], guard := none }) (v := ?_) rfl (Or.inl ⟨by rfl, ?_⟩) ?_; rotate_left; (focus (intro w hSw; (try dsimp only at hSw); go_simp; (try (with_reducible rfl)); done)); try simp only [Act.put, List.setIfInBounds_toArray, List.set_cons_zero, List.set_cons_succ]
  refine wpL_calm (o := { dst := some 31, op := Go.Op.move (Go.Operand.tmp 5), type := 9, pos := "ref.go:45", after := #[{ on := 8, ground := Go.Ground.guard }], guard := some (8, false) }) (v := ?_) rfl (Or.inl ⟨by rfl, ?_⟩) ?_; rotate_left; (focus (intro w hSw; (try dsimp only at hSw); go_simp; (try (with_reducible rfl)); done)); try simp only [Act.put, List.setIfInBounds_toArray, List.set_cons_zero, List.set_cons_succ]
  refine wpL_calm (o := { dst := some 32, op := Go.Op.slice 9 (Go.Operand.tmp 31) (some (Go.Operand.const (Go.Value.int Go.IntKind.i64 40))) none none, type := 9, pos := "ref.go:45", after := #[{ on := 9, ground := Go.Ground.data }, { on := 8, ground := Go.Ground.guard }], guard := some (8, false) }) (v := ?_) rfl (Or.inl ⟨by rfl, ?_⟩) ?_; rotate_left; (focus (intro w hSw; (try dsimp only at hSw); go_simp; (try (with_reducible rfl)); done)); try simp only [Act.put, List.setIfInBounds_toArray, List.set_cons_zero, List.set_cons_succ]
  refine wpL_loud1 (o := { dst := some 33, op := Go.Op.call { callee := Go.Callee.value (Go.Operand.func 26), args := #[Go.Operand.const (Go.Value.int Go.IntKind.i64 24)], argTypes := #[3] }, type := 9, pos := "ref.go:45", after := #[{ on := 8, ground := Go.Ground.chain }, { on := 8, ground := Go.Ground.guard }], guard := some (8, false) }) rfl (fun K hK => ?_)
  (go_simp; go_at_call 26; refine (PZ.out _).mono ?_; rintro e w3 ⟨rfl, b3⟩)
  try go_wp2_with fail
  refine hK.out _ _ ?_ (fun hHeld => ?_)
  · (try dsimp only); try trivial
  clear hK K
  try simp only [Act.put, List.setIfInBounds_toArray, List.set_cons_zero, List.set_cons_succ]
  have HB3 := Lib.hid (HB2.out.trans (b3.mono HB2.out.size)); clear b3
  refine wpL_calm (o := { dst := some 34, op := Go.Op.binOp Go.BinOp.neq 9 (Go.Operand.tmp 32) (Go.Operand.tmp 33) 9, type := 4, pos := "ref.go:45", after := #[{ on := 10, ground := Go.Ground.data }, { on := 11, ground := Go.Ground.data }, { on := 8, ground := Go.Ground.guard }], guard := some (8, false) }) (v := ?_) rfl (Or.inl ⟨by rfl, ?_⟩) ?_; rotate_left; (focus (intro w hSw; (try dsimp only at hSw); go_simp; (try (with_reducible rfl)); done)); try simp only [Act.put, List.setIfInBounds_toArray, List.set_cons_zero, List.set_cons_succ]
  refine wpL_calm (o := { dst := some 35, op := Go.Op.pick (Go.Operand.tmp 30) (Go.Operand.const (Go.Value.bool true)) (Go.Operand.tmp 34), type := 4, pos := "ref.go:45", after := #[{ on := 8, ground := Go.Ground.data }, { on := 12, ground := Go.Ground.data }], guard := none }) (v := ?_) rfl (Or.inl ⟨by rfl, ?_⟩) ?_; rotate_left; (focus (intro w hSw; (try dsimp only at hSw); go_simp; (try (with_reducible rfl)); done)); try simp only [Act.put, List.setIfInBounds_toArray, List.set_cons_zero, List.set_cons_succ]
  refine wpL_nil ?_
  refine NoPanic.normal ?_
  go_upto_region 6 with fail
  refine wp_region_lin (S := (fun _ => True)) [(0, true), (1, true), (2, true), (3, true), (4, true), (5, true), (6, true), (7, true), (8, true)] (by kernel_rfl) (by kernel_rfl) rfl (by kernel_rfl) ?_ (fun hHeld => ?_)
  · (try dsimp only); try exact trivial
  refine wpL_calm (o := { dst := some 37, op := Go.Op.move (Go.Operand.tmp 5), type := 9, pos := "ref.go:48", after := #[], guard := none }) (v := ?_) rfl (Or.inl ⟨by rfl, ?_⟩) ?_; rotate_left; (focus (intro w hSw; (try dsimp only at hSw); go_simp; (try (with_reducible rfl)); done)); try simp only [Act.put, List.setIfInBounds_toArray, List.set_cons_zero, List.set_cons_succ]
  refine wpL_calm (o := { dst := some 38, op := Go.Op.index 9 (Go.Operand.tmp 37) (Go.Operand.const (Go.Value.int Go.IntKind.i64 6)), type := 5, pos := "ref.go:48", after := #[{ on := 0, ground := Go.Ground.data }], guard := none }) (v := ?_) rfl (Or.inl ⟨by rfl, ?_⟩) ?_; rotate_left; (focus (intro w hSw; (try dsimp only at hSw); go_simp; (try (with_reducible rfl)); done)); try simp only [Act.put, List.setIfInBounds_toArray, List.set_cons_zero, List.set_cons_succ]
  refine wpL_calm (o := { dst := some 39, op := Go.Op.convert 5 3 (Go.Operand.tmp 38), type := 3, pos := "ref.go:48", after := #[{ on := 1, ground := Go.Ground.data }], guard := none }) (v := ?_) rfl (Or.inl ⟨by rfl, ?_⟩) ?_; rotate_left; (focus (intro w hSw; (try dsimp only at hSw); go_simp; (try (with_reducible rfl)); done)); try simp only [Act.put, List.setIfInBounds_toArray, List.set_cons_zero, List.set_cons_succ]
  refine wpL_calm (o := { dst := some 40, op := Go.Op.binOp Go.BinOp.mul 3 (Go.Operand.tmp 39) (Go.Operand.const (Go.Value.int Go.IntKind.i64 256)) 3, type := 3, pos := "ref.go:48", after := #[{ on := 2, ground := Go.Ground.data }], guard := none }) (v := ?_) rfl (Or.inl ⟨by rfl, ?_⟩) ?_; rotate_left; (focus (intro w hSw; (try dsimp only at hSw); go_simp; (try (with_reducible rfl)); done)); try simp only [Act.put, List.setIfInBounds_toArray, List.set_cons_zero, List.set_cons_succ]
  refine wpL_calm (o := { dst := some 41, op := Go.Op.move (Go.Operand.tmp 5), type := 9, pos := "ref.go:48", after := #[], guard := none }) (v := ?_) rfl (Or.inl ⟨by rfl, ?_⟩) ?_; rotate_left; (focus (intro w hSw; (try dsimp only at hSw); go_simp; (try (with_reducible rfl)); done)); try simp only [Act.put, List.setIfInBounds_toArray, List.set_cons_zero, List.set_cons_succ]
  refine wpL_calm (o := { dst := some 42, op := Go.Op.index 9 (Go.Operand.tmp 41) (Go.Operand.const (Go.Value.int Go.IntKind.i64 7)), type := 5, pos := "ref.go:48", after := #[{ on := 4, ground := Go.Ground.data }], guard := none }) (v := ?_) rfl (Or.inl ⟨by rfl, ?_⟩) ?_; rotate_left; (focus (intro w hSw; (try dsimp only at hSw); go_simp; (try (with_reducible rfl)); done)); try simp only [Act.put, List.setIfInBounds_toArray, List.set_cons_zero, List.set_cons_succ]
  refine wpL_calm (o := { dst := some 43, op := Go.Op.convert 5 3 (Go.Operand.tmp 42), type := 3, pos := "ref.go:48", after := #[{ on := 5, ground := Go.Ground.data }], guard := none }) (v := ?_) rfl (Or.inl ⟨by rfl, ?_⟩) ?_; rotate_left; (focus (intro w hSw; (try dsimp only at hSw); go_simp; (try (with_reducible rfl)); done)); try simp only [Act.put, List.setIfInBounds_toArray, List.set_cons_zero, List.set_cons_succ]
  refine wpL_calm (o := { dst := some 44, op := Go.Op.binOp Go.BinOp.add 3 (Go.Operand.tmp 40) (Go.Operand.tmp 43) 3, type := 3, pos := "ref.go:48", after := #[{ on := 3, ground := Go.Ground.data }, { on := 6, ground := Go.Ground.data }], guard := none }) (v := ?_) rfl (Or.inl ⟨by rfl, ?_⟩) ?_; rotate_left; (focus (intro w hSw; (try dsimp only at hSw); go_simp; (try (with_reducible rfl)); done)); try simp only [Act.put, List.setIfInBounds_toArray, List.set_cons_zero, List.set_cons_succ]
  refine wpL_calm (o := { dst := some 6, op := Go.Op.assign (Go.Operand.tmp 44), type := 3, pos := "ref.go:48", after := #[{ on := 7, ground := Go.Ground.data }, { on := 0, ground := Go.Ground.phase }, { on := 1, ground := Go.Ground.phase }, { on := 2, ground := Go.Ground.phase }, { on := 3, ground := Go.Ground.phase }, { on := 4, ground := Go.Ground.phase }, { on := 5, ground := Go.Ground.phase }, { on := 6, ground := Go.Ground.phase }, { on := 7, ground := Go.Ground.phase }], guard := none }) (v := ?_) rfl (Or.inl ⟨by rfl, ?_⟩) ?_; rotate_left; (focus (intro w hSw; (try dsimp only at hSw); go_simp; (try (with_reducible rfl)); done)); try simp only [Act.put, List.setIfInBounds_toArray, List.set_cons_zero, List.set_cons_succ]
  refine wpL_nil ?_
  refine NoPanic.normal ?_
  clear hHeld e1' e1'' e2' e2'' ix6 ix7 w6 w7 w8 w9 t0 PZ
  have HB4 := Lib.hid (HB1.out.trans (HB3.out.drew.mono HB1.out.size))
  have HR4 := Lib.hid (HR1.below HB3.out.drew)
  clear HB3 HB2 HB1
  generalize w3.drew = w4 at *
  go_wp2_with fail
  go_loopw [7] (fun x wi => ∃ h : Nat, x = .int .i64 (h : Int) ∧ 1 ≤ h ∧ h ≤ 1 + plN k ∧ Hid (w4 = wi)) (fun x _ => 100 - (intOf x).toNat)
  case atStart => exact ⟨1, rfl, by omega, by omega, Lib.hid rfl⟩
  case round =>
    obtain ⟨h, rfl, hh1, hh2, HE⟩ := hrel
    obtain rfl := HE.out
    clear HE
    have hp2 := plN_le k hk64
    obtain ⟨y1, y2⟩ := mul32 h (by omega) hh1
    by_cases hlt : 32 * (h - 1) < k
    · as_aux_lemma =>
      have hli : ((32 * (h - 1) : Nat) : Int) < (k : Int) := by omega
      obtain ⟨q, hq⟩ : ∃ q, Hid (h - 1 = q) := ⟨_, Lib.hid rfl⟩
      rw [hq.out] at y1 y2 hli
      obtain ⟨p, hp⟩ : ∃ p, Hid (32 * q = p) := ⟨_, Lib.hid rfl⟩
      rw [hp.out] at y2 hli
      go_wp2_with fail
      go_roundw
      case rel => exact ⟨h + 1, by go_num, by omega, by have := hq.out; have := hp.out; unfold plN; omega, by first | exact Lib.hid rfl | exact Lib.hid trivial⟩
      case measure => simp [intOf]; omega
    · as_aux_lemma =>
      obtain rfl : h = 1 + plN k := by unfold plN at hh2 ⊢; omega
      have hli : ¬ ((32 * (1 + plN k - 1) : Nat) : Int) < (k : Int) := by omega
      obtain ⟨q, hq⟩ : ∃ q, Hid (1 + plN k - 1 = q) := ⟨_, Lib.hid rfl⟩
      rw [hq.out] at y1 y2 hli
      obtain ⟨p, hp⟩ : ∃ p, Hid (32 * q = p) := ⟨_, Lib.hid rfl⟩
      rw [hp.out] at y2 hli
      obtain ⟨hd, hhd⟩ : ∃ hd, Hid (1 + plN k = hd) := ⟨_, Lib.hid rfl⟩
      rw [hhd.out] at y1 hh2 ⊢
      obtain ⟨N, hN⟩ : ∃ N, Hid (lenN k = N) := ⟨_, Lib.hid rfl⟩
      have hNk : Hid (hd + k = N) := Lib.hid (by rw [← hN.out, ← hhd.out]; rfl)
      have hhd3 : hd ≤ 3 := by have := hhd.out; omega
      rw [hN.out] at HS H6 HF HO
      have y3 : IntKind.i64.wrap ((hd : Int) + (k : Int)) = (N : Int) := by rw [IntWalk.i64_in _ (by omega)]; have := hNk.out; omega
      rw [HN.out] at HS H6 HF HO
      clear hh1 hh2 hlt
      by_cases hshort : n < N
      · have HE := Lib.hid (HS.out hshort)
        have hsi : (n : Int) < (N : Int) := by omega
        go_wp2_with (refine wpList_store_row rfl _ _ _ rfl w.heap.size (rcA rz0 nilS) rfl (by first | rfl | exact congrArg Value.agg lit_rc) 26 _ HR4.out.1 hsz rfl hone ?_)
        refine bodyPost_ret_by (results_ctt rfl _ _ w.heap.size 26 (rcA rz0 nilS) (0, 0) _ rfl (setRow_heap _ _ _ (rcA rz0 nilS) 26 (0, 0) HR4.out.1) Try.underlying26 rfl hsz) rfl (parse_bad HE.out (by decide) ?_)
        exact below_setRow HB4.out (Nat.le_refl _) _
      · have hsi : ¬ (n : Int) < (N : Int) := by omega
        have H6 := Lib.hid (H6.out hshort)
        have HF := Lib.hid (HF.out hshort)
        have HO := Lib.hid (HO.out hshort)
        clear HS
        obtain ⟨w5, HW5, HR5, HB5⟩ := made_rc w4
        go_upto_region 15 with (rw [HW5.out]; refine wpList_store_row rfl _ _ _ rfl w4.heap.size (rcA rz0 nilS) rfl (by first | rfl | exact congrArg Value.agg lit_rc) 26 _ HR5.1 hsz rfl hone ?_)
        have hX6 : RcAt (w5.setRow w4.heap.size (rcA rz0 nilS)) w4.heap.size rz0 nilS := ⟨setRow_heap _ _ _ (rcA rz0 nilS) 26 (0, 0) HR5.1, HR5.2⟩
        have HB6 := Lib.hid (below_setRow HB5.out (Nat.le_refl _) (rcA rz0 nilS))
        have HR6 := Lib.hid (HR4.out.below HB6.out)
        have HBB6 := Lib.hid (HB4.out.trans (HB6.out.mono HB4.out.size))
        have HX6 := Lib.hid hX6
        have hgx : w.heap.size < w4.heap.size := HR4.out.lt
        clear HR5 HB5 HW5 HB6 hX6 HR4 HB4
        generalize w5.setRow w4.heap.size (rcA rz0 nilS) = w6 at *
        generalize w4.heap.size = gx at *
        go_wp2_with fail
        refine (PG.out _).mono ?_
        rintro e w7 ⟨rfl, rfl⟩
        clear PG
        have fx0 := HX6.out.frozen 0
        have cx0 := HX6.out.seq
        go_upto_region 17 with fail
        have HX7 := Lib.hid (HX6.out.setSeq (seqP s))
        have HR7 := Lib.hid (HR6.out.other 0 (.int .i64 (seqP s)) (k := gx) (by omega))
        have HB7 := Lib.hid (HBB6.out.setCell (p := ⟨gx, 0, none⟩) (Nat.le_of_lt hgx) (.int .i64 (seqP s)))
        clear fx0 cx0 HX6 HR6 HBB6
        generalize w6.setCell ⟨gx, 0, none⟩ (.int .i64 (seqP s)) = w8 at *
        have HX8 : Hid (RcAt w8 gx ⟨seqP s, rootI s 0, []⟩ nilS) := Lib.hid (by rw [rootI_zero]; exact HX7.out)
        clear HX7
        have HSQ : Hid (headR s = ⟨seqP s, rootI s 32, []⟩) := HHD
        clear HHD
        generalize seqP s = sq at *
        go_wp2_with fail
        go_loopw [11] (fun x wi => ∃ i : Nat, x = .int .i64 (i : Int) ∧ i ≤ 32 ∧ Hid (RcAt wi gx ⟨sq, rootI s i, []⟩ nilS) ∧ Hid (RcAt wi w.heap.size rz0 nilS) ∧ Hid (Below w.heap.size w wi)) (fun x _ => 32 - (intOf x).toNat)
        case atStart => exact ⟨0, rfl, by omega, HX8, HR7, HB7⟩
        clear HX8 HR7 HB7
        case round =>
          obtain ⟨i, rfl, hi, HX, HR, HB⟩ := hrel
          by_cases hlt : i < 32
          · as_aux_lemma =>
            have hli : (i : Int) < 32 := by omega
            obtain ⟨ix, hset⟩ := HIR.out i hlt
            obtain ⟨u, cu⟩ := HX.out.rootCell i hlt
            have fu := HX.out.frozen (1 + i)
            have HS := Lib.hid hset
            clear hset
            go_wp2_with fail
            go_roundw
            case rel =>
              refine ⟨i + 1, by go_num, by omega, Lib.hid ?_, Lib.hid (HR.out.other _ _ (by omega)), Lib.hid (HB.out.setCell (p := ⟨gx, 1 + i, none⟩) (Nat.le_of_lt hgx) _)⟩
              have := HX.out.setRoot i (bt s (8 + i)) hlt
              rw [HS.out] at this
              exact this
            case measure => simp [intOf]; omega
          · as_aux_lemma =>
            obtain rfl : i = 32 := by omega
            rw [show ((32 : Nat) : Int) = 32 from rfl]
            rw [← HSQ.out] at HX
            have HRS2 := Lib.hid HRS.out
            obtain ⟨RH, hRH⟩ : ∃ RH, Hid (headR s = RH) := ⟨_, Lib.hid rfl⟩
            rw [hRH.out] at HX HRS HSQ
            clear HIR HSQ HRS2
            obtain ⟨w5, hw5⟩ : ∃ w5, Hid (wr = w5) := ⟨_, Lib.hid rfl⟩
            have HG5 : Hid (wr.grownBy wr (some gx)) := Lib.hid (World.grownBy.refl _ _)
            have HO5 : Hid (wr.ownsRow wr.heap.size 48 2 nilS 0 (ptV (psP L k 0))) := Lib.hid (World.ownsRow_nil _ _ _ _)
            rw [hw5.out] at HX HR HB HG5 HO5
            have hgw : g < w5.heap.size := Nat.lt_of_lt_of_le hg HB.out.size
            have hgx5 : gx < w5.heap.size := HX.out.lt
            have hNn : N ≤ n := by omega
            have HTW := Lib.hid (HT.out.below HB.out)
            go_wp2_with fail
            rw [hw5.out]
            clear hw5
            go_loopw [12, 13, 14] (fun x _ _ wi => ∃ (j : Nat) (v : Value), x = .int .i64 (j : Int) ∧ j ≤ k ∧ Hid (RcAt wi gx RH v) ∧ Hid (wi.ownsRow w5.heap.size 48 2 v j (ptV (psP L k j))) ∧ Hid (w5.grownBy wi (some gx))) (fun x _ _ _ => k - (intOf x).toNat)
            case atStart => exact ⟨0, _, rfl, by omega, HX, HO5, HG5⟩
            clear HX HO5 HG5
            case round =>
              obtain ⟨j, v, rfl, hj, HX, HO2, HG⟩ := hrel
              have hsw : w5.heap.size ≤ wr.heap.size := HG.out.size
              have HBi := Lib.hid (HB.out.grown HG.out HB.out.size (fun k e => by cases e; omega))
              have HRi := Lib.hid (HR.out.grown HG.out (by omega))
              by_cases hjk : j < k
              · as_aux_lemma =>
                have hji : (j : Int) < (k : Int) := by omega
                have hjp : j / 32 < plN k := by unfold plN; omega
                have hNk2 := hNk.out
                have hhd2 := hhd.out
                obtain ⟨c, hc2⟩ : ∃ c, Hid (j / 32 = c) := ⟨_, Lib.hid rfl⟩
                obtain ⟨m, hm2⟩ : ∃ m, Hid (j % 32 = m) := ⟨_, Lib.hid rfl⟩
                have hcn : c < plN k := by have := hc2.out; omega
                have hm32 : m < 32 := by have := hm2.out; omega
                have x1 := (HBi.out.cell (p := ⟨g, o + (1 + c), none⟩) hg).trans (by
                  obtain ⟨g', o', e', _, hx'⟩ := HT.out (by rw [HN.out]; omega)
                  cases e'
                  exact hx' (1 + c) (by rw [HN.out]; omega))
                rw [tB_get] at x1
                have HAV : Hid (∀ q, q = 2 * m → beV ((tB L (1 + c)).extract q (q + 2)).data.toList = atP L j) := Lib.hid (fun q hq => by rw [hq, ← hm2.out, ← hc2.out]; rfl)
                have y1 : (j : Int).tmod 32 = (m : Int) := by rw [Int.tmod_eq_emod_of_nonneg (by omega)]; have := hm2.out; omega
                have y1' : (j : Int) % 32 = (m : Int) := by have := hm2.out; omega
                have y2 : (j : Int).tdiv 32 = (c : Int) := by rw [Int.tdiv_eq_ediv_of_nonneg (by omega)]; have := hc2.out; omega
                have y2' : (j : Int) / 32 = (c : Int) := by have := hc2.out; omega
                have y0 : IntKind.i64.wrap (m : Int) = (m : Int) := IntWalk.i64_in _ (by omega)
                have y4 : IntKind.i64.wrap (c : Int) = (c : Int) := IntWalk.i64_in _ (by omega)
                have y5 : IntKind.i64.wrap (1 + (c : Int)) = 1 + (c : Int) := IntWalk.i64_in _ (by omega)
                have hi1 : 1 + (c : Int) < (n : Int) := by omega
                have hi0 : (0 : Int) ≤ 1 + (c : Int) := by omega
                by_cases h64t : (tB L (1 + c)).size = 64
                · have n64t : (((tB L (1 + c)).size : Int) != 64) = false := by simp; omega
                  obtain ⟨kk, hkk⟩ : ∃ kk, Hid (2 * m = kk) := ⟨_, Lib.hid rfl⟩
                  obtain ⟨kq, hkq⟩ : ∃ kq, Hid (kk + 1 = kq) := ⟨_, Lib.hid rfl⟩
                  obtain ⟨r, hr⟩ : ∃ r, Hid (hd + j = r) := ⟨_, Lib.hid rfl⟩
                  have y6 : IntKind.i64.wrap (2 * (m : Int)) = (kk : Int) := by rw [IntWalk.i64_in _ (by omega)]; have := hkk.out; omega
                  have y7 : IntKind.i64.wrap ((kk : Int) + 1) = (kq : Int) := by have := hkk.out; have := hkq.out; rw [IntWalk.i64_in _ (by omega)]; omega
                  have y8 : IntKind.i64.wrap ((hd : Int) + (j : Int)) = (r : Int) := by have := hr.out; rw [IntWalk.i64_in _ (by omega)]; omega
                  have hrn : (r : Int) < (n : Int) := by have := hr.out; omega
                  have ixa := ix_s (tB L (1 + c)) kk (by have := hkk.out; omega)
                  have ixb := ix_s (tB L (1 + c)) kq (by have := hkk.out; have := hkq.out; omega)
                  have b1 := (bt (tB L (1 + c)) kk).toNat_lt
                  have b2 := (bt (tB L (1 + c)) kq).toNat_lt
                  have HV : Hid (((bt (tB L (1 + c)) kk).toNat : Int) * 256 + ((bt (tB L (1 + c)) kq).toNat : Int) = atP L j) := Lib.hid (by
                    rw [← HAV.out kk hkk.out.symm, beV_two _ _ (by have := hkk.out; omega), ← hkq.out])
                  have x2 := (HBi.out.cell (p := ⟨g, o + r, none⟩) hg).trans (by
                    obtain ⟨g', o', e', _, hx'⟩ := HT.out (by rw [HN.out]; omega)
                    cases e'
                    exact hx' r (by rw [HN.out]; omega))
                  rw [tB_get] at x2
                  have HSN : Hid (ptV (psP L k j) ++ [.int .i64 (atP L j), .string (tB L r)] = ptV (psP L k (j + 1))) := Lib.hid (by rw [psP_succ, ptV_snoc, ← hr.out, ← hhd.out])
                  clear HAV hkk
                  generalize (bt (tB L (1 + c)) kk).toNat = n1 at *
                  generalize (bt (tB L (1 + c)) kq).toNat = n2 at *
                  generalize atP L j = av at *
                  generalize tB L r = tp at *
                  generalize tB L (1 + c) = tb at *
                  have v1 : IntKind.i64.wrap (n1 : Int) = n1 := IntWalk.i64_in _ (by omega)
                  have v2 : IntKind.i64.wrap (n2 : Int) = n2 := IntWalk.i64_in _ (by omega)
                  have v3 : IntKind.i64.wrap ((n1 : Int) * 256) = (n1 : Int) * 256 := IntWalk.i64_in _ (by omega)
                  have v4 : IntKind.i64.wrap ((n1 : Int) * 256 + (n2 : Int)) = av := by rw [IntWalk.i64_in _ (by omega), HV.out]
                  obtain ⟨ip, hip, hp1, hp2, hp3⟩ := rc_info info_putR
                  obtain ⟨va, vc, rfl⟩ : ∃ a c, v = .slice a j c := by obtain ⟨a, c, h, _⟩ := own_pt HO2.out; exact ⟨a, c, h⟩
                  have c33 := HX.out.ps
                  have hlx2 := HX.out.lt
                  clear HV b1 b2
                  go_upto_region 28 with fail
                  refine wp_region_lin (S := (fun w' => w'.cell? ⟨gx, 33, none⟩ = some (.slice va j vc) ∧ w'.cell? ⟨g, o + r, none⟩ = some (.string tp))) [(0, true), (1, true), (2, true), (3, true), (4, true), (5, true), (6, true), (7, true), (8, true), (9, true), (10, true), (11, true), (12, true), (13, true), (14, true), (15, true), (16, true), (17, true), (18, true), (19, true), (20, false), (21, false), (22, true), (23, false)] (by kernel_rfl) (by kernel_rfl) rfl (by kernel_rfl) ?_ (fun hHeld => ?_)
                  · (try dsimp only); exact ⟨c33, x2⟩
                  have HB6 : Hid (Below wr.heap.size wr wr.drew) := Lib.hid (Below.refl _ _).drew
                  generalize World.drew wr = w6 at hHeld HB6 ⊢
                  refine wpL_calm (o := { dst := some 100, op := Go.Op.fieldAddr 26 (Go.Operand.tmp 8) 2, type := 0, pos := "ref.go:71", after := #[], guard := none }) (v := ?_) rfl (Or.inl ⟨by rfl, ?_⟩) ?_; rotate_left; (focus (intro w hSw; (try dsimp only at hSw); go_simp; (try (with_reducible rfl)); done)); try simp only [Act.put, List.setIfInBounds_toArray, List.set_cons_zero, List.set_cons_succ]
                  refine wpL_calm (o := { dst := some 101, op := Go.Op.load 24 (Go.Operand.tmp 100), type := 24, pos := "ref.go:71", after := #[{ on := 0, ground := Go.Ground.data }], guard := none }) (v := ?_) rfl (Or.inl ⟨by rfl, ?_⟩) ?_; rotate_left; (focus (intro w hSw; (try dsimp only at hSw); go_simp; (try (with_reducible rfl)); done)); try simp only [Act.put, List.setIfInBounds_toArray, List.set_cons_zero, List.set_cons_succ]
                  refine wpL_calm (o := { dst := some 102, op := Go.Op.move (Go.Operand.tmp 13), type := 9, pos := "ref.go:71", after := #[], guard := none }) (v := ?_) rfl (Or.inl ⟨by rfl, ?_⟩) ?_; rotate_left; (focus (intro w hSw; (try dsimp only at hSw); go_simp; (try (with_reducible rfl)); done)); try simp only [Act.put, List.setIfInBounds_toArray, List.set_cons_zero, List.set_cons_succ]
                  refine wpL_calm (o := { dst := some 103, op := Go.Op.move (Go.Operand.tmp 14), type := 3, pos := "ref.go:71", after := #[], guard := none }) (v := ?_) rfl (Or.inl ⟨by rfl, ?_⟩) ?_; rotate_left; (focus (intro w hSw; (try dsimp only at hSw); go_simp; (try (with_reducible rfl)); done)); try simp only [Act.put, List.setIfInBounds_toArray, List.set_cons_zero, List.set_cons_succ]
                  refine wpL_calm (o := { dst := some 104, op := Go.Op.index 9 (Go.Operand.tmp 102) (Go.Operand.tmp 103), type := 5, pos := "ref.go:71", after := #[{ on := 2, ground := Go.Ground.data }, { on := 3, ground := Go.Ground.data }], guard := none }) (v := ?_) rfl (Or.inl ⟨by rfl, ?_⟩) ?_; rotate_left; (focus (intro w hSw; (try dsimp only at hSw); go_simp; (try (with_reducible rfl)); done)); try simp only [Act.put, List.setIfInBounds_toArray, List.set_cons_zero, List.set_cons_succ]
                  refine wpL_calm (o := { dst := some 105, op := Go.Op.convert 5 3 (Go.Operand.tmp 104), type := 3, pos := "ref.go:71", after := #[{ on := 4, ground := Go.Ground.data }], guard := none }) (v := ?_) rfl (Or.inl ⟨by rfl, ?_⟩) ?_; rotate_left; (focus (intro w hSw; (try dsimp only at hSw); go_simp; (try (with_reducible rfl)); done)); try simp only [Act.put, List.setIfInBounds_toArray, List.set_cons_zero, List.set_cons_succ]
                  refine wpL_calm (o := { dst := some 106, op := Go.Op.binOp Go.BinOp.mul 3 (Go.Operand.tmp 105) (Go.Operand.const (Go.Value.int Go.IntKind.i64 256)) 3, type := 3, pos := "ref.go:71", after := #[{ on := 5, ground := Go.Ground.data }], guard := none }) (v := ?_) rfl (Or.inl ⟨by rfl, ?_⟩) ?_; rotate_left; (focus (intro w hSw; (try dsimp only at hSw); go_simp; (try (with_reducible rfl)); done)); try simp only [Act.put, List.setIfInBounds_toArray, List.set_cons_zero, List.set_cons_succ]
                  refine wpL_calm (o := { dst := some 107, op := Go.Op.move (Go.Operand.tmp 13), type := 9, pos := "ref.go:71", after := #[], guard := none }) (v := ?_) rfl (Or.inl ⟨by rfl, ?_⟩) ?_; rotate_left; (focus (intro w hSw; (try dsimp only at hSw); go_simp; (try (with_reducible rfl)); done)); try simp only [Act.put, List.setIfInBounds_toArray, List.set_cons_zero, List.set_cons_succ]
                  refine wpL_calm (o := { dst := some 108, op := Go.Op.move (Go.Operand.tmp 14), type := 3, pos := "ref.go:71", after := #[], guard := none }) (v := ?_) rfl (Or.inl ⟨by rfl, ?_⟩) ?_; rotate_left; (focus (intro w hSw; (try dsimp only at hSw); go_simp; (try (with_reducible rfl)); done)); try simp only [Act.put, List.setIfInBounds_toArray, List.set_cons_zero, List.set_cons_succ]
                  refine wpL_calm (o := { dst := some 109, op := Go.Op.binOp Go.BinOp.add 3 (Go.Operand.tmp 108) (Go.Operand.const (Go.Value.int Go.IntKind.i64 1)) 3, type := 3, pos := "ref.go:71", after := #[{ on := 8, ground := Go.Ground.data }], guard := none }) (v := ?_) rfl (Or.inl ⟨by rfl, ?_⟩) ?_; rotate_left; (focus (intro w hSw; (try dsimp only at hSw); go_simp; (try (with_reducible rfl)); done)); try simp only [Act.put, List.setIfInBounds_toArray, List.set_cons_zero, List.set_cons_succ]
                  refine wpL_calm (o := { dst := some 110, op := Go.Op.index 9 (Go.Operand.tmp 107) (Go.Operand.tmp 109), type := 5, pos := "ref.go:71", after := #[{ on := 7, ground := Go.Ground.data }, { on := 9, ground := Go.Ground.data }], guard := none }) (v := ?_) rfl (Or.inl ⟨by rfl, ?_⟩) ?_; rotate_left; (focus (intro w hSw; (try dsimp only at hSw); go_simp; (try (with_reducible rfl)); done)); try simp only [Act.put, List.setIfInBounds_toArray, List.set_cons_zero, List.set_cons_succ]
                  refine wpL_calm (o := { dst := some 111, op := Go.Op.convert 5 3 (Go.Operand.tmp 110), type := 3, pos := "ref.go:71", after := #[{ on := 10, ground := Go.Ground.data }], guard := none }) (v := ?_) rfl (Or.inl ⟨by rfl, ?_⟩) ?_; rotate_left; (focus (intro w hSw; (try dsimp only at hSw); go_simp; (try (with_reducible rfl)); done)); try simp only [Act.put, List.setIfInBounds_toArray, List.set_cons_zero, List.set_cons_succ]
                  refine wpL_calm (o := { dst := some 112, op := Go.Op.binOp Go.BinOp.add 3 (Go.Operand.tmp 106) (Go.Operand.tmp 111) 3, type := 3, pos := "ref.go:71", after := #[{ on := 6, ground := Go.Ground.data }, { on := 11, ground := Go.Ground.data }], guard := none }) (v := ?_) rfl (Or.inl ⟨by rfl, ?_⟩) ?_; rotate_left; (focus (intro w hSw; (try dsimp only at hSw); go_simp; (try (with_reducible rfl)); done)); try simp only [Act.put, List.setIfInBounds_toArray, List.set_cons_zero, List.set_cons_succ]
                  refine wpL_calm (o := { dst := some 113, op := Go.Op.move (Go.Operand.tmp 0), type := 29, pos := "ref.go:71", after := #[], guard := none }) (v := ?_) rfl (Or.inl ⟨by rfl, ?_⟩) ?_; rotate_left; (focus (intro w hSw; (try dsimp only at hSw); go_simp; (try (with_reducible rfl)); done)); try simp only [Act.put, List.setIfInBounds_toArray, List.set_cons_zero, List.set_cons_succ]
                  refine wpL_calm (o := { dst := some 114, op := Go.Op.move (Go.Operand.tmp 7), type := 3, pos := "ref.go:71", after := #[], guard := none }) (v := ?_) rfl (Or.inl ⟨by rfl, ?_⟩) ?_; rotate_left; (focus (intro w hSw; (try dsimp only at hSw); go_simp; (try (with_reducible rfl)); done)); try simp only [Act.put, List.setIfInBounds_toArray, List.set_cons_zero, List.set_cons_succ]
                  refine wpL_calm (o := { dst := some 115, op := Go.Op.move (Go.Operand.tmp 12), type := 3, pos := "ref.go:71", after := #[], guard := none }) (v := ?_) rfl (Or.inl ⟨by rfl, ?_⟩) ?_; rotate_left; (focus (intro w hSw; (try dsimp only at hSw); go_simp; (try (with_reducible rfl)); done)); try simp only [Act.put, List.setIfInBounds_toArray, List.set_cons_zero, List.set_cons_succ]
                  refine wpL_calm (o := { dst := some 116, op := Go.Op.binOp Go.BinOp.add 3 (Go.Operand.tmp 114) (Go.Operand.tmp 115) 3, type := 3, pos := "ref.go:71", after := #[{ on := 14, ground := Go.Ground.data }, { on := 15, ground := Go.Ground.data }], guard := none }) (v := ?_) rfl (Or.inl ⟨by rfl, ?_⟩) ?_; rotate_left; (focus (intro w hSw; (try dsimp only at hSw); go_simp; (try (with_reducible rfl)); done)); try simp only [Act.put, List.setIfInBounds_toArray, List.set_cons_zero, List.set_cons_succ]
                  refine wpL_calm (o := { dst := some 117, op := Go.Op.indexAddr 29 (Go.Operand.tmp 113) (Go.Operand.tmp 116), type := 0, pos := "ref.go:71", after := #[{ on := 13, ground := Go.Ground.data }, { on := 16, ground := Go.Ground.data }], guard := none }) (v := ?_) rfl (Or.inl ⟨by rfl, ?_⟩) ?_; rotate_left; (focus (intro w hSw; (try dsimp only at hSw); go_simp; (try (with_reducible rfl)); done)); try simp only [Act.put, List.setIfInBounds_toArray, List.set_cons_zero, List.set_cons_succ]
                  refine wpL_calm (o := { dst := some 118, op := Go.Op.load 9 (Go.Operand.tmp 117), type := 9, pos := "ref.go:71", after := #[{ on := 17, ground := Go.Ground.data }], guard := none }) (v := ?_) rfl (Or.inl ⟨by rfl, ?_⟩) ?_; rotate_left; (focus (intro w hSw; (try dsimp only at hSw); go_simp; (try (with_reducible rfl)); done)); try simp only [Act.put, List.setIfInBounds_toArray, List.set_cons_zero, List.set_cons_succ]
                  refine wpL_calm (o := { dst := some 119, op := Go.Op.build 48 #[(0, Go.Operand.tmp 112), (1, Go.Operand.tmp 118)], type := 48, pos := "ref.go:71", after := #[{ on := 12, ground := Go.Ground.data }, { on := 18, ground := Go.Ground.data }], guard := none }) (v := ?_) rfl (Or.inl ⟨by rfl, ?_⟩) ?_; rotate_left; (focus (intro w hSw; (try dsimp only at hSw); go_simp; (try (with_reducible rfl)); done)); try simp only [Act.put, List.setIfInBounds_toArray, List.set_cons_zero, List.set_cons_succ]
                  refine wpL_loud1 (o := { dst := some 120, op := Go.Op.buildSlice 24 1 #[(0, Go.Operand.tmp 119)], type := 24, pos := "ref.go:71", after := #[{ on := 19, ground := Go.Ground.data }], guard := none }) rfl (fun K hK => ?_)
                  go_simp
                  refine hK.out _ _ ?_ (fun hHeld => ?_)
                  · (try dsimp only); exact ⟨((HB6.out.alloc HB6.out.size _).cell (p := ⟨gx, 33, none⟩) hlx2).trans c33, ((HB6.out.alloc HB6.out.size _).cell (p := ⟨g, o + r, none⟩) (Nat.lt_of_lt_of_le hgw hsw)).trans x2⟩
                  clear hK K
                  try simp only [Act.put, List.setIfInBounds_toArray, List.set_cons_zero, List.set_cons_succ]
                  refine wpL_loud1 (o := { dst := some 121, op := Go.Op.call { callee := Go.Callee.builtin Go.Builtin.append, args := #[Go.Operand.tmp 101, Go.Operand.tmp 120], argTypes := #[24, 24] }, type := 24, pos := "ref.go:71", after := #[{ on := 1, ground := Go.Ground.data }, { on := 20, ground := Go.Ground.data }], guard := none }) rfl (fun K hK => ?_)
                  (rw [if_pos (by rfl)]; refine wp_append_own _ _ _ 24 rfl w5.heap.size 48 ip (.agg #[.int .i64 0, .string ⟨#[]⟩]) 2 24 Try.underlying24 hip hp1 hp2 hp3 rfl (by decide) (.slice va j vc) j (ptV (psP L k j)) rfl (own_keep HO2.out (HB6.out.alloc HB6.out.size _) (Nat.le_refl _)) ⟨w6.heap.size, 0, none⟩ 1 1 [.int .i64 av, .string tp] rfl rfl (two_cells' w6 _ _ _) (by simp [Value.oneCell']) (by unfold maxLen; omega) (by omega) (by have := HB6.out.size; simp; omega) ?_; intro v9 w9 O9 G9 _)
                  try go_wp2_with fail
                  refine hK.out _ _ ?_ (fun hHeld => ?_)
                  · (try dsimp only); exact ⟨(World.cell?_of_block (a := ⟨gx, 33, none⟩) (G9.block gx (by have := HB6.out.size; simp; omega) (fun e => by have := (HO2.out.lt gx e.symm).1; omega))).trans (((HB6.out.alloc HB6.out.size _).cell (p := ⟨gx, 33, none⟩) hlx2).trans c33), (World.cell?_of_block (a := ⟨g, o + r, none⟩) (G9.block g (by have := HB6.out.size; simp; omega) (fun e => by have := (HO2.out.lt g e.symm).1; omega))).trans (((HB6.out.alloc HB6.out.size _).cell (p := ⟨g, o + r, none⟩) (Nat.lt_of_lt_of_le hgw hsw)).trans x2)⟩
                  clear hK K
                  try simp only [Act.put, List.setIfInBounds_toArray, List.set_cons_zero, List.set_cons_succ]
                  rw [HSN.out] at O9
                  have hX9 := (HX.out.below (HB6.out.alloc HB6.out.size _)).grown' G9 (fun e => by have := (HO2.out.lt gx e.symm).1; omega)
                  have f9 := hX9.frozen 33
                  obtain ⟨a9, c9, rfl⟩ : ∃ a c, v9 = .slice a (j + 1) c := by obtain ⟨a, c, h, _⟩ := own_pt O9; exact ⟨a, c, h⟩
                  refine wpL_calm (o := { dst := some 122, op := Go.Op.fieldAddr 26 (Go.Operand.tmp 8) 2, type := 0, pos := "ref.go:71", after := #[{ on := 0, ground := Go.Ground.phase }, { on := 1, ground := Go.Ground.phase }, { on := 2, ground := Go.Ground.phase }, { on := 3, ground := Go.Ground.phase }, { on := 4, ground := Go.Ground.phase }, { on := 5, ground := Go.Ground.phase }, { on := 6, ground := Go.Ground.phase }, { on := 7, ground := Go.Ground.phase }, { on := 8, ground := Go.Ground.phase }, { on := 9, ground := Go.Ground.phase }, { on := 10, ground := Go.Ground.phase }, { on := 11, ground := Go.Ground.phase }, { on := 12, ground := Go.Ground.phase }, { on := 13, ground := Go.Ground.phase }, { on := 14, ground := Go.Ground.phase }, { on := 15, ground := Go.Ground.phase }, { on := 16, ground := Go.Ground.phase }, { on := 17, ground := Go.Ground.phase }, { on := 18, ground := Go.Ground.phase }, { on := 19, ground := Go.Ground.phase }, { on := 20, ground := Go.Ground.phase }, { on := 21, ground := Go.Ground.phase }], guard := none }) (v := ?_) rfl (Or.inl ⟨by rfl, ?_⟩) ?_; rotate_left; (focus (intro w hSw; (try dsimp only at hSw); go_simp; (try (with_reducible rfl)); done)); try simp only [Act.put, List.setIfInBounds_toArray, List.set_cons_zero, List.set_cons_succ]
                  refine wpL_loud0 (o := { dst := none, op := Go.Op.store 24 (Go.Operand.tmp 122) (Go.Operand.tmp 121), type := 0, pos := "ref.go:71", after := #[{ on := 22, ground := Go.Ground.data }, { on := 21, ground := Go.Ground.data }, { on := 21, ground := Go.Ground.chain }, { on := 0, ground := Go.Ground.phase }, { on := 1, ground := Go.Ground.phase }, { on := 2, ground := Go.Ground.phase }, { on := 3, ground := Go.Ground.phase }, { on := 4, ground := Go.Ground.phase }, { on := 5, ground := Go.Ground.phase }, { on := 6, ground := Go.Ground.phase }, { on := 7, ground := Go.Ground.phase }, { on := 8, ground := Go.Ground.phase }, { on := 9, ground := Go.Ground.phase }, { on := 10, ground := Go.Ground.phase }, { on := 11, ground := Go.Ground.phase }, { on := 12, ground := Go.Ground.phase }, { on := 13, ground := Go.Ground.phase }, { on := 14, ground := Go.Ground.phase }, { on := 15, ground := Go.Ground.phase }, { on := 16, ground := Go.Ground.phase }, { on := 17, ground := Go.Ground.phase }, { on := 18, ground := Go.Ground.phase }, { on := 19, ground := Go.Ground.phase }, { on := 20, ground := Go.Ground.phase }, { on := 21, ground := Go.Ground.phase }], guard := none }) rfl (by kernel_rfl) (fun K hK => ?_)
                  go_simp
                  refine hK.out _ _ ?_
                  clear hK K
                  try simp only [Act.put, List.setIfInBounds_toArray, List.set_cons_zero, List.set_cons_succ]
                  refine wpL_nil ?_
                  refine NoPanic.normal ?_
                  have HX10 := Lib.hid (hX9.setPs (.slice a9 (j + 1) c9))
                  have HO10 := Lib.hid (ownsRow_other (g := gx) O9 (by omega) 33 (u := .slice a9 (j + 1) c9))
                  have HG10 := Lib.hid (only_setCell (grown_fresh (only_trans HG.out (only_below (HB6.out.alloc HB6.out.size _) (some gx))) G9 (fun x e => (HO2.out.lt x e).1)) (p := ⟨gx, 33, none⟩) (Or.inl rfl) (.slice a9 (j + 1) c9))
                  clear hX9 f9 O9 G9 hHeld HB6 c33 HX HO2 HG x1 x2
                  generalize w9.setCell ⟨gx, 33, none⟩ (.slice a9 (j + 1) c9) = w10 at *
                  go_wp2_with fail
                  go_roundw
                  case rel => exact ⟨j + 1, _, by go_num, by omega, HX10, HO10, HG10⟩
                  case measure => simp [intOf]; omega
                · have n64t : (((tB L (1 + c)).size : Int) != 64) = true := by simp; omega
                  have HE := Lib.hid (H6.out (1 + c) (by omega) h64t)
                  generalize tB L (1 + c) = tb at *
                  clear h64t
                  go_wp2_with (refine wpList_store_row rfl _ _ _ rfl w.heap.size (rcA rz0 nilS) rfl (by first | rfl | exact congrArg Value.agg lit_rc) 26 _ HRi.out.1 hsz rfl hone ?_)
                  refine bodyPost_ret_by (results_ctt rfl _ _ w.heap.size 26 (rcA rz0 nilS) (0, 0) _ rfl (setRow_heap _ _ _ (rcA rz0 nilS) 26 (0, 0) HRi.out.1) Try.underlying26 rfl hsz) rfl (parse_bad HE.out (by decide) ?_)
                  exact below_setRow HBi.out (Nat.le_refl _) _
              · as_aux_lemma =>
                have ejk : j = k := by omega
                have hji : ¬ (j : Int) < (k : Int) := by omega
                have hjj : ((j : Nat) : Int) = (k : Int) := by omega
                rw [ejk] at HO2
                obtain ⟨va, vc, rfl, hvc, hvm, hps, hPt⟩ := own_pt HO2.out
                have hlen : (recP L).ps.length = k := by rw [HRS.out.2.2.1, psP_len]
                have HXR : Hid (RcAt wr gx (recP L) (.slice va k vc)) := Lib.hid (HX.out.same HRS.out.1.symm HRS.out.2.1.symm)
                have HPR : Hid (PtAt wr va (recP L).ps) := Lib.hid (by rw [HRS.out.2.2.1]; exact hPt)
                have hrt : (recP L).root.length = 32 := by rw [HRS.out.2.1]; exact HRS.out.2.2.2
                have HT6 := Lib.hid ((HT.out.below HBi.out).take N)
                have HVA : Hid (∀ g o, va = some ⟨g, o, none⟩ → g ≠ w.heap.size) := Lib.hid (fun g o e => by have := (HO2.out.lt g (by rw [e]; rfl)).1; have := HR.out.lt; omega)
                have HTT := Lib.hid (own_ptT HO2.out)
                clear hPt HX HO2 HG
                have HGOOD : Hid (∀ w', eP L = 0 → PtAt w' va (recP L).ps → PtT w' va → Below w.heap.size w w' → ParseP L w (.returned (.tuple #[.agg (rcA (recP L) (.slice va k vc)), .int .i64 (N : Int), .int .i64 0])) w') := Lib.hid (fun w' h1 h2 h2' h3 => by
                  have := parse_good (N := N) (c := vc) h1 (by rw [hs.out, ← hN.out, hk2.out]) h2 h2' h3
                  rw [hlen] at this
                  exact this)
                clear HRS
                have hLN : (L.take N).length = N := by rw [List.length_take, HN.out]; omega
                have HLK : Hid (lenN (recP L).ps.length = N) := Lib.hid (by rw [hlen]; exact hN.out)
                generalize recP L = R at *
                have hszr := rc_loaded (.slice va k vc) hrt
                have honer := rcA_one R (.slice va k vc) rfl
                obtain ⟨M, hM⟩ : ∃ M, Hid (L.take N = M) := ⟨_, Lib.hid rfl⟩
                rw [hM.out] at HF HO HT6 hLN
                have PR := Lib.hid (fun (w' : World) (hb : Below wr.heap.size wr w') => right_any R va k vc w' hrt hlen (by omega) (HPR.out.below hb))
                have hNc : (N : Int) ≤ (cap : Int) := by omega
                have hN67 : N ≤ 67 := by have := hNk.out; omega
                by_cases hchk : chkE R = 0
                · have hrp : rightP R := (right_chk (by omega)).2 hchk
                  rw [decide_eq_true hrp] at PR
                  have PL := Lib.hid (fun (w' : World) (hb : Below wr.heap.size wr w') => rlay_ok R va k vc w' hrt hlen (HPR.out.below hb) hchk)
                  have PE := Lib.hid (fun (a : Option Addr) (c : Nat) (w' : World) (h1 : TxtAt w' a (layL R)) (h2 : Below wr.heap.size wr w') => same_any (layL R) M a (some ⟨g, o, none⟩) N c N cap w' (by rw [layL_len]; exact HLK.out) hLN (by omega) (by omega) h1 (HT6.out.below h2))
                  rw [hN.out] at PL
                  obtain ⟨q, hq⟩ : ∃ q, Hid (decide (layL R = M) = q) := ⟨_, Lib.hid rfl⟩
                  rw [hq.out] at PE
                  clear hrp hlen hLN hhd3
                  cases q with
                  | true =>
                    have HE := Lib.hid (HO.out hchk (of_decide_eq_true hq.out))
                    go_upto_region 29 with fail
                    refine wp_region_lin (S := (fun w' => RcAt w' gx R (.slice va k vc))) [(0, true), (1, false), (2, true), (3, true), (4, true), (6, true), (7, true), (8, true), (9, true), (10, true), (5, false), (11, false), (12, true), (13, true)] (by kernel_rfl) (by kernel_rfl) rfl (by kernel_rfl) ?_ (fun hHeld => ?_)
                    · (try dsimp only); exact HXR.out.below (Below.refl _ _).drew
                    have HB7 : Hid (Below wr.heap.size wr wr.drew) := Lib.hid (Below.refl _ _).drew
                    generalize World.drew wr = w7 at hHeld HB7 ⊢
                    refine wpL_calm (o := { dst := some 123, op := Go.Op.load 26 (Go.Operand.tmp 8), type := 26, pos := "ref.go:73", after := #[], guard := none }) rfl (yieldsIf_load_mid (by rfl) _ _ rfl gx 0 rfl (rcA R (.slice va k vc)).toList _ (fun _ h => rc_cellsA h) Try.underlying26 rfl (by rw [Array.length_toList]; exact hszr)) ?_
                    try simp only [Act.put, List.setIfInBounds_toArray, List.set_cons_zero, List.set_cons_succ]
                    refine wpL_loud1 (o := { dst := some 124, op := Go.Op.call { callee := Go.Callee.value (Go.Operand.func 12), args := #[Go.Operand.tmp 123], argTypes := #[26] }, type := 4, pos := "ref.go:73", after := #[{ on := 0, ground := Go.Ground.data }], guard := none }) rfl (fun K hK => ?_)
                    (go_simp; go_at_call 12; refine (PR.out _ HB7.out).mono ?_; rintro e w8 ⟨rfl, b8⟩)
                    try go_wp2_with fail
                    refine hK.out _ _ ?_ (fun hHeld => ?_)
                    · (try dsimp only); exact HXR.out.below (HB7.out.trans (b8.mono HB7.out.size))
                    clear hK K
                    try simp only [Act.put, List.setIfInBounds_toArray, List.set_cons_zero, List.set_cons_succ]
                    have HB8 := Lib.hid (HB7.out.trans (b8.mono HB7.out.size)); clear b8
                    refine wpL_calm (o := { dst := some 125, op := Go.Op.unOp Go.UnOp.not 4 (Go.Operand.tmp 124), type := 4, pos := "ref.go:73", after := #[{ on := 1, ground := Go.Ground.data }], guard := none }) (v := ?_) rfl (Or.inl ⟨by rfl, ?_⟩) ?_; rotate_left; (focus (intro w hSw; (try dsimp only at hSw); go_simp; (try (with_reducible rfl)); done)); try simp only [Act.put, List.setIfInBounds_toArray, List.set_cons_zero, List.set_cons_succ]
                    refine wpL_calm (o := { dst := some 126, op := Go.Op.move (Go.Operand.tmp 125), type := 4, pos := "ref.go:73", after := #[{ on := 2, ground := Go.Ground.data }, { on := 1, ground := Go.Ground.chain }], guard := none }) (v := ?_) rfl (Or.inl ⟨by rfl, ?_⟩) ?_; rotate_left; (focus (intro w hSw; (try dsimp only at hSw); go_simp; (try (with_reducible rfl)); done)); try simp only [Act.put, List.setIfInBounds_toArray, List.set_cons_zero, List.set_cons_succ]
                    refine wpL_calm (o := { dst := some 127, op := Go.Op.load 26 (Go.Operand.tmp 8), type := 26, pos := "ref.go:73", after := #[{ on := 3, ground := Go.Ground.guard }], guard := some (3, false) }) rfl (yieldsIf_load_mid (by rfl) _ _ rfl gx 0 rfl (rcA R (.slice va k vc)).toList _ (fun _ h => rc_cellsA h) Try.underlying26 rfl (by rw [Array.length_toList]; exact hszr)) ?_
                    try simp only [Act.put, List.setIfInBounds_toArray, List.set_cons_zero, List.set_cons_succ]
                    refine wpL_calm (o := { dst := some 129, op := Go.Op.move (Go.Operand.tmp 0), type := 29, pos := "ref.go:73", after := #[{ on := 3, ground := Go.Ground.guard }], guard := some (3, false) }) (v := ?_) rfl (Or.inl ⟨by rfl, ?_⟩) ?_; rotate_left; (focus (intro w hSw; (try dsimp only at hSw); go_simp; (try (with_reducible rfl)); done)); try simp only [Act.put, List.setIfInBounds_toArray, List.set_cons_zero, List.set_cons_succ]
                    refine wpL_calm (o := { dst := some 130, op := Go.Op.move (Go.Operand.tmp 7), type := 3, pos := "ref.go:73", after := #[{ on := 3, ground := Go.Ground.guard }], guard := some (3, false) }) (v := ?_) rfl (Or.inl ⟨by rfl, ?_⟩) ?_; rotate_left; (focus (intro w hSw; (try dsimp only at hSw); go_simp; (try (with_reducible rfl)); done)); try simp only [Act.put, List.setIfInBounds_toArray, List.set_cons_zero, List.set_cons_succ]
                    refine wpL_calm (o := { dst := some 131, op := Go.Op.move (Go.Operand.tmp 6), type := 3, pos := "ref.go:73", after := #[{ on := 3, ground := Go.Ground.guard }], guard := some (3, false) }) (v := ?_) rfl (Or.inl ⟨by rfl, ?_⟩) ?_; rotate_left; (focus (intro w hSw; (try dsimp only at hSw); go_simp; (try (with_reducible rfl)); done)); try simp only [Act.put, List.setIfInBounds_toArray, List.set_cons_zero, List.set_cons_succ]
                    refine wpL_calm (o := { dst := some 132, op := Go.Op.binOp Go.BinOp.add 3 (Go.Operand.tmp 130) (Go.Operand.tmp 131) 3, type := 3, pos := "ref.go:73", after := #[{ on := 7, ground := Go.Ground.data }, { on := 8, ground := Go.Ground.data }, { on := 3, ground := Go.Ground.guard }], guard := some (3, false) }) (v := ?_) rfl (Or.inl ⟨by rfl, ?_⟩) ?_; rotate_left; (focus (intro w hSw; (try dsimp only at hSw); go_simp; (try (with_reducible rfl)); done)); try simp only [Act.put, List.setIfInBounds_toArray, List.set_cons_zero, List.set_cons_succ]
                    refine wpL_calm (o := { dst := some 133, op := Go.Op.slice 29 (Go.Operand.tmp 129) none (some (Go.Operand.tmp 132)) none, type := 29, pos := "ref.go:73", after := #[{ on := 6, ground := Go.Ground.data }, { on := 9, ground := Go.Ground.data }, { on := 3, ground := Go.Ground.guard }], guard := some (3, false) }) (v := ?_) rfl (Or.inl ⟨by rfl, ?_⟩) ?_; rotate_left; (focus (intro w hSw; (try dsimp only at hSw); go_simp; (try (with_reducible rfl)); done)); try simp only [Act.put, List.setIfInBounds_toArray, List.set_cons_zero, List.set_cons_succ]
                    refine wpL_loud1 (o := { dst := some 128, op := Go.Op.call { callee := Go.Callee.value (Go.Operand.func 14), args := #[Go.Operand.tmp 127], argTypes := #[26] }, type := 29, pos := "ref.go:73", after := #[{ on := 4, ground := Go.Ground.data }, { on := 3, ground := Go.Ground.chain }, { on := 3, ground := Go.Ground.guard }], guard := some (3, false) }) rfl (fun K hK => ?_)
                    (go_simp; go_at_call 14; refine (PL.out _ HB8.out).mono ?_; rintro e w9 ⟨vl, rfl, ol, b9⟩)
                    try go_wp2_with fail
                    refine hK.out _ _ ?_ (fun hHeld => ?_)
                    · (try dsimp only); exact HXR.out.below (HB8.out.trans (b9.mono HB8.out.size))
                    clear hK K
                    try simp only [Act.put, List.setIfInBounds_toArray, List.set_cons_zero, List.set_cons_succ]
                    have HB9 := Lib.hid (HB8.out.trans (b9.mono HB8.out.size)); clear b9
                    obtain ⟨al, cl, rfl, _, _, _, hTl⟩ := own_txt ol
                    clear ol
                    refine wpL_loud1 (o := { dst := some 134, op := Go.Op.call { callee := Go.Callee.value (Go.Operand.func 13), args := #[Go.Operand.tmp 128, Go.Operand.tmp 133], argTypes := #[29, 29] }, type := 4, pos := "ref.go:73", after := #[{ on := 5, ground := Go.Ground.data }, { on := 10, ground := Go.Ground.data }, { on := 5, ground := Go.Ground.chain }, { on := 3, ground := Go.Ground.guard }], guard := some (3, false) }) rfl (fun K hK => ?_)
                    (go_simp; go_at_call 13; refine (PE.out _ _ _ hTl HB9.out).mono ?_; rintro e w10 ⟨rfl, b10⟩)
                    try go_wp2_with fail
                    refine hK.out _ _ ?_ (fun hHeld => ?_)
                    · (try dsimp only); exact HXR.out.below (HB9.out.trans (b10.mono HB9.out.size))
                    clear hK K
                    try simp only [Act.put, List.setIfInBounds_toArray, List.set_cons_zero, List.set_cons_succ]
                    have HB10 := Lib.hid (HB9.out.trans (b10.mono HB9.out.size)); clear b10 hTl
                    refine wpL_calm (o := { dst := some 135, op := Go.Op.unOp Go.UnOp.not 4 (Go.Operand.tmp 134), type := 4, pos := "ref.go:73", after := #[{ on := 11, ground := Go.Ground.data }, { on := 3, ground := Go.Ground.guard }], guard := some (3, false) }) (v := ?_) rfl (Or.inl ⟨by rfl, ?_⟩) ?_; rotate_left; (focus (intro w hSw; (try dsimp only at hSw); go_simp; (try (with_reducible rfl)); done)); try simp only [Act.put, List.setIfInBounds_toArray, List.set_cons_zero, List.set_cons_succ]
                    refine wpL_calm (o := { dst := some 136, op := Go.Op.pick (Go.Operand.tmp 126) (Go.Operand.const (Go.Value.bool true)) (Go.Operand.tmp 135), type := 4, pos := "ref.go:73", after := #[{ on := 3, ground := Go.Ground.data }, { on := 12, ground := Go.Ground.data }], guard := none }) (v := ?_) rfl (Or.inl ⟨by rfl, ?_⟩) ?_; rotate_left; (focus (intro w hSw; (try dsimp only at hSw); go_simp; (try (with_reducible rfl)); done)); try simp only [Act.put, List.setIfInBounds_toArray, List.set_cons_zero, List.set_cons_succ]
                    refine wpL_nil ?_
                    refine NoPanic.normal ?_
                    clear hHeld
                    have HR10 := Lib.hid (HRi.out.below HB10.out)
                    have HX10 := Lib.hid (HXR.out.below HB10.out)
                    have HP10 := Lib.hid (HPR.out.below HB10.out)
                    have HBB := Lib.hid (HBi.out.trans (HB10.out.mono HBi.out.size))
                    have hold : (rcA rz0 nilS).size = (rcA R (.slice va k vc)).size := by rw [rcA_size _ _ HR10.out.2, rcA_size _ _ hrt]
                    go_wp2_with (first | (refine wpList_load_row rfl _ _ rfl gx rfl 26 (rcA R (.slice va k vc)) (0, 0) _ HX10.out.1 Try.underlying26 rfl hszr ?_) | (refine wpList_store_row rfl _ _ _ rfl w.heap.size (rcA R (.slice va k vc)) rfl rfl 26 _ HR10.out.1 hszr hold honer ?_))
                    refine bodyPost_ret_by (results_ctt rfl _ _ w.heap.size 26 (rcA R (.slice va k vc)) (0, 0) _ rfl (setRow_heap _ _ _ (rcA R (.slice va k vc)) 26 (0, 0) HR10.out.1) Try.underlying26 rfl hszr) rfl ?_
                    refine HGOOD.out _ HE.out ?_ ?_ ?_
                    · exact HP10.out.setRow _ HVA.out
                    · exact (HTT.out.below HB10.out).setRow _ HVA.out
                    · exact below_setRow HBB.out (Nat.le_refl _) _
                  | false =>
                    have HE := Lib.hid (HF.out (fun h => of_decide_eq_false hq.out h.2))
                    go_upto_region 29 with fail
                    refine wp_region_lin (S := (fun w' => RcAt w' gx R (.slice va k vc))) [(0, true), (1, false), (2, true), (3, true), (4, true), (6, true), (7, true), (8, true), (9, true), (10, true), (5, false), (11, false), (12, true), (13, true)] (by kernel_rfl) (by kernel_rfl) rfl (by kernel_rfl) ?_ (fun hHeld => ?_)
                    · (try dsimp only); exact HXR.out.below (Below.refl _ _).drew
                    have HB7 : Hid (Below wr.heap.size wr wr.drew) := Lib.hid (Below.refl _ _).drew
                    generalize World.drew wr = w7 at hHeld HB7 ⊢
                    refine wpL_calm (o := { dst := some 123, op := Go.Op.load 26 (Go.Operand.tmp 8), type := 26, pos := "ref.go:73", after := #[], guard := none }) rfl (yieldsIf_load_mid (by rfl) _ _ rfl gx 0 rfl (rcA R (.slice va k vc)).toList _ (fun _ h => rc_cellsA h) Try.underlying26 rfl (by rw [Array.length_toList]; exact hszr)) ?_
                    try simp only [Act.put, List.setIfInBounds_toArray, List.set_cons_zero, List.set_cons_succ]
                    refine wpL_loud1 (o := { dst := some 124, op := Go.Op.call { callee := Go.Callee.value (Go.Operand.func 12), args := #[Go.Operand.tmp 123], argTypes := #[26] }, type := 4, pos := "ref.go:73", after := #[{ on := 0, ground := Go.Ground.data }], guard := none }) rfl (fun K hK => ?_)
                    (go_simp; go_at_call 12; refine (PR.out _ HB7.out).mono ?_; rintro e w8 ⟨rfl, b8⟩)
                    try go_wp2_with fail
                    refine hK.out _ _ ?_ (fun hHeld => ?_)
                    · (try dsimp only); exact HXR.out.below (HB7.out.trans (b8.mono HB7.out.size))
                    clear hK K
                    try simp only [Act.put, List.setIfInBounds_toArray, List.set_cons_zero, List.set_cons_succ]
                    have HB8 := Lib.hid (HB7.out.trans (b8.mono HB7.out.size)); clear b8
                    refine wpL_calm (o := { dst := some 125, op := Go.Op.unOp Go.UnOp.not 4 (Go.Operand.tmp 124), type := 4, pos := "ref.go:73", after := #[{ on := 1, ground := Go.Ground.data }], guard := none }) (v := ?_) rfl (Or.inl ⟨by rfl, ?_⟩) ?_; rotate_left; (focus (intro w hSw; (try dsimp only at hSw); go_simp; (try (with_reducible rfl)); done)); try simp only [Act.put, List.setIfInBounds_toArray, List.set_cons_zero, List.set_cons_succ]
                    refine wpL_calm (o := { dst := some 126, op := Go.Op.move (Go.Operand.tmp 125), type := 4, pos := "ref.go:73", after := #[{ on := 2, ground := Go.Ground.data }, { on := 1, ground := Go.Ground.chain }], guard := none }) (v := ?_) rfl (Or.inl ⟨by rfl, ?_⟩) ?_; rotate_left; (focus (intro w hSw; (try dsimp only at hSw); go_simp; (try (with_reducible rfl)); done)); try simp only [Act.put, List.setIfInBounds_toArray, List.set_cons_zero, List.set_cons_succ]
                    refine wpL_calm (o := { dst := some 127, op := Go.Op.load 26 (Go.Operand.tmp 8), type := 26, pos := "ref.go:73", after := #[{ on := 3, ground := Go.Ground.guard }], guard := some (3, false) }) rfl (yieldsIf_load_mid (by rfl) _ _ rfl gx 0 rfl (rcA R (.slice va k vc)).toList _ (fun _ h => rc_cellsA h) Try.underlying26 rfl (by rw [Array.length_toList]; exact hszr)) ?_
                    try simp only [Act.put, List.setIfInBounds_toArray, List.set_cons_zero, List.set_cons_succ]
                    refine wpL_calm (o := { dst := some 129, op := Go.Op.move (Go.Operand.tmp 0), type := 29, pos := "ref.go:73", after := #[{ on := 3, ground := Go.Ground.guard }], guard := some (3, false) }) (v := ?_) rfl (Or.inl ⟨by rfl, ?_⟩) ?_; rotate_left; (focus (intro w hSw; (try dsimp only at hSw); go_simp; (try (with_reducible rfl)); done)); try simp only [Act.put, List.setIfInBounds_toArray, List.set_cons_zero, List.set_cons_succ]
                    refine wpL_calm (o := { dst := some 130, op := Go.Op.move (Go.Operand.tmp 7), type := 3, pos := "ref.go:73", after := #[{ on := 3, ground := Go.Ground.guard }], guard := some (3, false) }) (v := ?_) rfl (Or.inl ⟨by rfl, ?_⟩) ?_; rotate_left; (focus (intro w hSw; (try dsimp only at hSw); go_simp; (try (with_reducible rfl)); done)); try simp only [Act.put, List.setIfInBounds_toArray, List.set_cons_zero, List.set_cons_succ]
                    refine wpL_calm (o := { dst := some 131, op := Go.Op.move (Go.Operand.tmp 6), type := 3, pos := "ref.go:73", after := #[{ on := 3, ground := Go.Ground.guard }], guard := some (3, false) }) (v := ?_) rfl (Or.inl ⟨by rfl, ?_⟩) ?_; rotate_left; (focus (intro w hSw; (try dsimp only at hSw); go_simp; (try (with_reducible rfl)); done)); try simp only [Act.put, List.setIfInBounds_toArray, List.set_cons_zero, List.set_cons_succ]
                    refine wpL_calm (o := { dst := some 132, op := Go.Op.binOp Go.BinOp.add 3 (Go.Operand.tmp 130) (Go.Operand.tmp 131) 3, type := 3, pos := "ref.go:73", after := #[{ on := 7, ground := Go.Ground.data }, { on := 8, ground := Go.Ground.data }, { on := 3, ground := Go.Ground.guard }], guard := some (3, false) }) (v := ?_) rfl (Or.inl ⟨by rfl, ?_⟩) ?_; rotate_left; (focus (intro w hSw; (try dsimp only at hSw); go_simp; (try (with_reducible rfl)); done)); try simp only [Act.put, List.setIfInBounds_toArray, List.set_cons_zero, List.set_cons_succ]
                    refine wpL_calm (o := { dst := some 133, op := Go.Op.slice 29 (Go.Operand.tmp 129) none (some (Go.Operand.tmp 132)) none, type := 29, pos := "ref.go:73", after := #[{ on := 6, ground := Go.Ground.data }, { on := 9, ground := Go.Ground.data }, { on := 3, ground := Go.Ground.guard }], guard := some (3, false) }) (v := ?_) rfl (Or.inl ⟨by rfl, ?_⟩) ?_; rotate_left; (focus (intro w hSw; (try dsimp only at hSw); go_simp; (try (with_reducible rfl)); done)); try simp only [Act.put, List.setIfInBounds_toArray, List.set_cons_zero, List.set_cons_succ]
                    refine wpL_loud1 (o := { dst := some 128, op := Go.Op.call { callee := Go.Callee.value (Go.Operand.func 14), args := #[Go.Operand.tmp 127], argTypes := #[26] }, type := 29, pos := "ref.go:73", after := #[{ on := 4, ground := Go.Ground.data }, { on := 3, ground := Go.Ground.chain }, { on := 3, ground := Go.Ground.guard }], guard := some (3, false) }) rfl (fun K hK => ?_)
                    (go_simp; go_at_call 14; refine (PL.out _ HB8.out).mono ?_; rintro e w9 ⟨vl, rfl, ol, b9⟩)
                    try go_wp2_with fail
                    refine hK.out _ _ ?_ (fun hHeld => ?_)
                    · (try dsimp only); exact HXR.out.below (HB8.out.trans (b9.mono HB8.out.size))
                    clear hK K
                    try simp only [Act.put, List.setIfInBounds_toArray, List.set_cons_zero, List.set_cons_succ]
                    have HB9 := Lib.hid (HB8.out.trans (b9.mono HB8.out.size)); clear b9
                    obtain ⟨al, cl, rfl, _, _, _, hTl⟩ := own_txt ol
                    clear ol
                    refine wpL_loud1 (o := { dst := some 134, op := Go.Op.call { callee := Go.Callee.value (Go.Operand.func 13), args := #[Go.Operand.tmp 128, Go.Operand.tmp 133], argTypes := #[29, 29] }, type := 4, pos := "ref.go:73", after := #[{ on := 5, ground := Go.Ground.data }, { on := 10, ground := Go.Ground.data }, { on := 5, ground := Go.Ground.chain }, { on := 3, ground := Go.Ground.guard }], guard := some (3, false) }) rfl (fun K hK => ?_)
                    (go_simp; go_at_call 13; refine (PE.out _ _ _ hTl HB9.out).mono ?_; rintro e w10 ⟨rfl, b10⟩)
                    try go_wp2_with fail
                    refine hK.out _ _ ?_ (fun hHeld => ?_)
                    · (try dsimp only); exact HXR.out.below (HB9.out.trans (b10.mono HB9.out.size))
                    clear hK K
                    try simp only [Act.put, List.setIfInBounds_toArray, List.set_cons_zero, List.set_cons_succ]
                    have HB10 := Lib.hid (HB9.out.trans (b10.mono HB9.out.size)); clear b10 hTl
                    refine wpL_calm (o := { dst := some 135, op := Go.Op.unOp Go.UnOp.not 4 (Go.Operand.tmp 134), type := 4, pos := "ref.go:73", after := #[{ on := 11, ground := Go.Ground.data }, { on := 3, ground := Go.Ground.guard }], guard := some (3, false) }) (v := ?_) rfl (Or.inl ⟨by rfl, ?_⟩) ?_; rotate_left; (focus (intro w hSw; (try dsimp only at hSw); go_simp; (try (with_reducible rfl)); done)); try simp only [Act.put, List.setIfInBounds_toArray, List.set_cons_zero, List.set_cons_succ]
                    refine wpL_calm (o := { dst := some 136, op := Go.Op.pick (Go.Operand.tmp 126) (Go.Operand.const (Go.Value.bool true)) (Go.Operand.tmp 135), type := 4, pos := "ref.go:73", after := #[{ on := 3, ground := Go.Ground.data }, { on := 12, ground := Go.Ground.data }], guard := none }) (v := ?_) rfl (Or.inl ⟨by rfl, ?_⟩) ?_; rotate_left; (focus (intro w hSw; (try dsimp only at hSw); go_simp; (try (with_reducible rfl)); done)); try simp only [Act.put, List.setIfInBounds_toArray, List.set_cons_zero, List.set_cons_succ]
                    refine wpL_nil ?_
                    refine NoPanic.normal ?_
                    clear hHeld
                    have HR10 := Lib.hid (HRi.out.below HB10.out)
                    have HBB := Lib.hid (HBi.out.trans (HB10.out.mono HBi.out.size))
                    go_wp2_with (refine wpList_store_row rfl _ _ _ rfl w.heap.size (rcA rz0 nilS) rfl (by first | rfl | exact congrArg Value.agg lit_rc) 26 _ HR10.out.1 hsz rfl hone ?_)
                    refine bodyPost_ret_by (results_ctt rfl _ _ w.heap.size 26 (rcA rz0 nilS) (0, 0) _ rfl (setRow_heap _ _ _ (rcA rz0 nilS) 26 (0, 0) HR10.out.1) Try.underlying26 rfl hsz) rfl (parse_bad HE.out (by decide) ?_)
                    exact below_setRow HBB.out (Nat.le_refl _) _
                · have hrp : ¬ rightP R := fun h => hchk ((right_chk (by omega)).1 h)
                  rw [decide_eq_false hrp] at PR
                  have HE := Lib.hid (HF.out (fun h => hchk h.1))
                  clear hrp hlen hLN hchk hhd3
                  go_upto_region 29 with fail
                  refine wp_region_lin (S := (fun w' => RcAt w' gx R (.slice va k vc))) [(0, true), (1, false), (2, true), (3, true), (4, true), (6, true), (7, true), (8, true), (9, true), (10, true), (5, false), (11, false), (12, true), (13, true)] (by kernel_rfl) (by kernel_rfl) rfl (by kernel_rfl) ?_ (fun hHeld => ?_)
                  · (try dsimp only); exact HXR.out.below (Below.refl _ _).drew
                  have HB7 : Hid (Below wr.heap.size wr wr.drew) := Lib.hid (Below.refl _ _).drew
                  generalize World.drew wr = w7 at hHeld HB7 ⊢
                  refine wpL_calm (o := { dst := some 123, op := Go.Op.load 26 (Go.Operand.tmp 8), type := 26, pos := "ref.go:73", after := #[], guard := none }) rfl (yieldsIf_load_mid (by rfl) _ _ rfl gx 0 rfl (rcA R (.slice va k vc)).toList _ (fun _ h => rc_cellsA h) Try.underlying26 rfl (by rw [Array.length_toList]; exact hszr)) ?_
                  try simp only [Act.put, List.setIfInBounds_toArray, List.set_cons_zero, List.set_cons_succ]
                  refine wpL_loud1 (o := { dst := some 124, op := Go.Op.call { callee := Go.Callee.value (Go.Operand.func 12), args := #[Go.Operand.tmp 123], argTypes := #[26] }, type := 4, pos := "ref.go:73", after := #[{ on := 0, ground := Go.Ground.data }], guard := none }) rfl (fun K hK => ?_)
                  (go_simp; go_at_call 12; refine (PR.out _ HB7.out).mono ?_; rintro e w8 ⟨rfl, b8⟩)
                  try go_wp2_with fail
                  refine hK.out _ _ ?_ (fun hHeld => ?_)
                  · (try dsimp only); exact HXR.out.below (HB7.out.trans (b8.mono HB7.out.size))
                  clear hK K
                  try simp only [Act.put, List.setIfInBounds_toArray, List.set_cons_zero, List.set_cons_succ]
                  have HB8 := Lib.hid (HB7.out.trans (b8.mono HB7.out.size)); clear b8
                  refine wpL_calm (o := { dst := some 125, op := Go.Op.unOp Go.UnOp.not 4 (Go.Operand.tmp 124), type := 4, pos := "ref.go:73", after := #[{ on := 1, ground := Go.Ground.data }], guard := none }) (v := ?_) rfl (Or.inl ⟨by rfl, ?_⟩) ?_; rotate_left; (focus (intro w hSw; (try dsimp only at hSw); go_simp; (try (with_reducible rfl)); done)); try simp only [Act.put, List.setIfInBounds_toArray, List.set_cons_zero, List.set_cons_succ]
                  refine wpL_calm (o := { dst := some 126, op := Go.Op.move (Go.Operand.tmp 125), type := 4, pos := "ref.go:73", after := #[{ on := 2, ground := Go.Ground.data }, { on := 1, ground := Go.Ground.chain }], guard := none }) (v := ?_) rfl (Or.inl ⟨by rfl, ?_⟩) ?_; rotate_left; (focus (intro w hSw; (try dsimp only at hSw); go_simp; (try (with_reducible rfl)); done)); try simp only [Act.put, List.setIfInBounds_toArray, List.set_cons_zero, List.set_cons_succ]
                  refine wpL_calm (o := { dst := some 127, op := Go.Op.load 26 (Go.Operand.tmp 8), type := 26, pos := "ref.go:73", after := #[{ on := 3, ground := Go.Ground.guard }], guard := some (3, false) }) (v := undef) rfl (Or.inr ⟨by rfl, rfl⟩) ?_; try simp only [Act.put, List.setIfInBounds_toArray, List.set_cons_zero, List.set_cons_succ]
                  refine wpL_calm (o := { dst := some 129, op := Go.Op.move (Go.Operand.tmp 0), type := 29, pos := "ref.go:73", after := #[{ on := 3, ground := Go.Ground.guard }], guard := some (3, false) }) (v := undef) rfl (Or.inr ⟨by rfl, rfl⟩) ?_; try simp only [Act.put, List.setIfInBounds_toArray, List.set_cons_zero, List.set_cons_succ]
                  refine wpL_calm (o := { dst := some 130, op := Go.Op.move (Go.Operand.tmp 7), type := 3, pos := "ref.go:73", after := #[{ on := 3, ground := Go.Ground.guard }], guard := some (3, false) }) (v := undef) rfl (Or.inr ⟨by rfl, rfl⟩) ?_; try simp only [Act.put, List.setIfInBounds_toArray, List.set_cons_zero, List.set_cons_succ]
                  refine wpL_calm (o := { dst := some 131, op := Go.Op.move (Go.Operand.tmp 6), type := 3, pos := "ref.go:73", after := #[{ on := 3, ground := Go.Ground.guard }], guard := some (3, false) }) (v := undef) rfl (Or.inr ⟨by rfl, rfl⟩) ?_; try simp only [Act.put, List.setIfInBounds_toArray, List.set_cons_zero, List.set_cons_succ]
                  refine wpL_calm (o := { dst := some 132, op := Go.Op.binOp Go.BinOp.add 3 (Go.Operand.tmp 130) (Go.Operand.tmp 131) 3, type := 3, pos := "ref.go:73", after := #[{ on := 7, ground := Go.Ground.data }, { on := 8, ground := Go.Ground.data }, { on := 3, ground := Go.Ground.guard }], guard := some (3, false) }) (v := undef) rfl (Or.inr ⟨by rfl, rfl⟩) ?_; try simp only [Act.put, List.setIfInBounds_toArray, List.set_cons_zero, List.set_cons_succ]
                  refine wpL_calm (o := { dst := some 133, op := Go.Op.slice 29 (Go.Operand.tmp 129) none (some (Go.Operand.tmp 132)) none, type := 29, pos := "ref.go:73", after := #[{ on := 6, ground := Go.Ground.data }, { on := 9, ground := Go.Ground.data }, { on := 3, ground := Go.Ground.guard }], guard := some (3, false) }) (v := undef) rfl (Or.inr ⟨by rfl, rfl⟩) ?_; try simp only [Act.put, List.setIfInBounds_toArray, List.set_cons_zero, List.set_cons_succ]
                  refine wpL_loud1 (o := { dst := some 128, op := Go.Op.call { callee := Go.Callee.value (Go.Operand.func 14), args := #[Go.Operand.tmp 127], argTypes := #[26] }, type := 29, pos := "ref.go:73", after := #[{ on := 4, ground := Go.Ground.data }, { on := 3, ground := Go.Ground.chain }, { on := 3, ground := Go.Ground.guard }], guard := some (3, false) }) rfl (fun K hK => ?_)
                  go_simp
                  try go_wp2_with fail
                  refine hK.out _ _ ?_ (fun hHeld => ?_)
                  · (try dsimp only); exact hHeld
                  clear hK K
                  try simp only [Act.put, List.setIfInBounds_toArray, List.set_cons_zero, List.set_cons_succ]
                  refine wpL_loud1 (o := { dst := some 134, op := Go.Op.call { callee := Go.Callee.value (Go.Operand.func 13), args := #[Go.Operand.tmp 128, Go.Operand.tmp 133], argTypes := #[29, 29] }, type := 4, pos := "ref.go:73", after := #[{ on := 5, ground := Go.Ground.data }, { on := 10, ground := Go.Ground.data }, { on := 5, ground := Go.Ground.chain }, { on := 3, ground := Go.Ground.guard }], guard := some (3, false) }) rfl (fun K hK => ?_)
                  go_simp
                  try go_wp2_with fail
                  refine hK.out _ _ ?_ (fun hHeld => ?_)
                  · (try dsimp only); exact hHeld
                  clear hK K
                  try simp only [Act.put, List.setIfInBounds_toArray, List.set_cons_zero, List.set_cons_succ]
                  refine wpL_calm (o := { dst := some 135, op := Go.Op.unOp Go.UnOp.not 4 (Go.Operand.tmp 134), type := 4, pos := "ref.go:73", after := #[{ on := 11, ground := Go.Ground.data }, { on := 3, ground := Go.Ground.guard }], guard := some (3, false) }) (v := undef) rfl (Or.inr ⟨by rfl, rfl⟩) ?_; try simp only [Act.put, List.setIfInBounds_toArray, List.set_cons_zero, List.set_cons_succ]
                  refine wpL_calm (o := { dst := some 136, op := Go.Op.pick (Go.Operand.tmp 126) (Go.Operand.const (Go.Value.bool true)) (Go.Operand.tmp 135), type := 4, pos := "ref.go:73", after := #[{ on := 3, ground := Go.Ground.data }, { on := 12, ground := Go.Ground.data }], guard := none }) (v := ?_) rfl (Or.inl ⟨by rfl, ?_⟩) ?_; rotate_left; (focus (intro w hSw; (try dsimp only at hSw); go_simp; (try (with_reducible rfl)); done)); try simp only [Act.put, List.setIfInBounds_toArray, List.set_cons_zero, List.set_cons_succ]
                  refine wpL_nil ?_
                  refine NoPanic.normal ?_
                  clear hHeld
                  have HR10 := Lib.hid (HRi.out.below HB8.out)
                  have HBB := Lib.hid (HBi.out.trans (HB8.out.mono HBi.out.size))
                  go_wp2_with (refine wpList_store_row rfl _ _ _ rfl w.heap.size (rcA rz0 nilS) rfl (by first | rfl | exact congrArg Value.agg lit_rc) 26 _ HR10.out.1 hsz rfl hone ?_)
                  refine bodyPost_ret_by (results_ctt rfl _ _ w.heap.size 26 (rcA rz0 nilS) (0, 0) _ rfl (setRow_heap _ _ _ (rcA rz0 nilS) 26 (0, 0) HR10.out.1) Try.underlying26 rfl hsz) rfl (parse_bad HE.out (by decide) ?_)
                  exact below_setRow HBB.out (Nat.le_refl _) _
theorem rparse_any (L : List ByteArray) (ao : Option Addr) (n cap : Nat) (w : World) (hn : L.length = n) (hc : n ≤ cap) (hcm : cap ≤ maxLen) (hT : TxtAt w ao L) : Calls Try.prog 17 #[.slice ao n cap] w fun e w' => ParseP L w e w' := by
  by_cases h0 : 0 < n
  · by_cases hok : headOk (tB L 0)
    · exact rparse_ok L ao n cap w hn hc hcm h0 hT hok
    · exact rparse_head L ao n cap w hn hc hcm h0 hT hok
  · obtain rfl : n = 0 := by omega
    obtain rfl : L = [] := List.length_eq_zero_iff.1 hn
    exact rparse_nil ao cap w
theorem parse_any (L : List ByteArray) (ao : Option Addr) (n cap : Nat) (w : World) (hn : L.length = n) (hc : n ≤ cap) (hcm : cap ≤ maxLen) (hT : TxtAt w ao L) : Calls Try.prog 16 #[.slice ao n cap] w fun e w' => ParseP L w e w' := by
  by_cases h0 : 0 < n
  · by_cases h64 : (tB L 0).size = 64
    · exact parse_64 L ao n cap w hn hc hcm h0 hT h64
    · exact parse_small L ao n cap w hn hc hcm h0 hT h64
  · obtain rfl : n = 0 := by omega
    obtain rfl : L = [] := List.length_eq_zero_iff.1 hn
    exact parse_nil ao cap w
end Go.Proofs.Ythhaadcpenlnkaa
