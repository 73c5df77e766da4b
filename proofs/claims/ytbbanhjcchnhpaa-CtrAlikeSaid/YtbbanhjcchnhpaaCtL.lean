/- Laws of package ctr (cellaret): CtrAlike. -/
import Derived.Test.YtbbanhjcchnhpaaCtI
import Derived.Test.YtbbanhjcchnhpaaOpenR
import Derived.Lib.SmallJoins
namespace Go.Proofs.Ytbbanhjcchnhpaa
open Go.RowKit Go.Deep Go.ChangeShapes Go.WideShapes
set_option linter.unusedVariables false
set_option linter.unusedSimpArgs false
theorem xor_mid (a b k : UInt8) : (a ^^^ k) ^^^ (b ^^^ k) = a ^^^ b := by
  rw [UInt8.xor_comm b k, ← UInt8.xor_assoc, UInt8.xor_assoc a k k, UInt8.xor_self, UInt8.xor_zero]
theorem alike_list (W : Nat → UInt32) (num : Int) (s t : ByteArray) (hs : s.size = 48) (ht : t.size = 48) : xorL (headB num 1 ++ cryB W num s).data.toList (headB num 1 ++ cryB W num t).data.toList = List.replicate 16 0 ++ xorL s.data.toList t.data.toList := by
  have hA : (headB num 1).data.toList.length = 16 := by rw [← Lib.size_eq]; exact headB_size num 1
  have e : ∀ u : ByteArray, (headB num 1 ++ u).data.toList = (headB num 1).data.toList ++ u.data.toList := fun u => by simp
  have hst : (streamB W num 48).data.toList.length = 48 := by rw [← Lib.size_eq]; exact streamB_size W num 48 (by omega)
  have hs' : s.data.toList.length = 48 := by rw [← Lib.size_eq]; exact hs
  have ht' : t.data.toList.length = 48 := by rw [← Lib.size_eq]; exact ht
  have cs : (cryB W num s).data.toList = xorL s.data.toList (streamB W num 48).data.toList := by unfold cryB; rw [hs]
  have ct : (cryB W num t).data.toList = xorL t.data.toList (streamB W num 48).data.toList := by unfold cryB; rw [ht]
  rw [e, e, cs, ct]
  generalize (headB num 1).data.toList = A at *
  generalize (streamB W num 48).data.toList = K at *
  generalize s.data.toList = S at *
  generalize t.data.toList = T at *
  have l1 : (xorL S K).length = 48 := by rw [xorL_length]; exact hs'
  apply List.ext_getElem?
  intro i
  by_cases hi : i < 64
  · rw [xorL_get _ _ i (by rw [List.length_append, hA, l1]; exact hi)]
    unfold xorAt
    by_cases h16 : i < 16
    · rw [List.getElem?_append_left (by omega), List.getElem?_append_left (by omega), List.getElem?_append_left (by simpa using h16), List.getElem?_replicate, if_pos h16, UInt8.xor_self]
    · rw [List.getElem?_append_right (by omega), List.getElem?_append_right (by omega), List.getElem?_append_right (by simp; omega), hA, List.length_replicate, xorL_get _ _ _ (by omega), xorL_get _ _ _ (by omega), xorL_get _ _ _ (by omega)]
      unfold xorAt
      rw [Option.getD_some, Option.getD_some, xor_mid]
  · rw [List.getElem?_eq_none (by rw [xorL_length, List.length_append, hA, l1]; omega), List.getElem?_eq_none (by rw [List.length_append, List.length_replicate, xorL_length, hs']; omega)]
theorem alike_bytes (W : Nat → UInt32) (num : Int) (s t : ByteArray) (hs : s.size = 48) (ht : t.size = 48) : (⟨(xorL (headB num 1 ++ cryB W num s).data.toList (headB num 1 ++ cryB W num t).data.toList).toArray⟩ : ByteArray) = ⟨(List.replicate 16 0).toArray⟩ ++ ⟨(xorL s.data.toList t.data.toList).toArray⟩ := by
  rw [alike_list W num s t hs ht, bytes_add]
section
variable {H : Type} {enc : TypeId × Value → H}
set_option maxRecDepth 100000 in
theorem two_fields : ∃ f0 f1 f2 f3, Try.prog.underlying 62 = some (.struct #[f0, f1, f2, f3]) ∧ oneCellFields Try.prog #[f0, f1, f2, f3] = true ∧ f0.type = 9 ∧ f1.type = 3 ∧ f2.type = 9 ∧ f3.type = 9 :=
  ⟨_, _, _, _, Try.underlying62, by kernel_rfl, rfl, rfl, rfl, rfl⟩
set_option maxRecDepth 100000 in
theorem open_two {w : World} {r : Reach} {b0 : Nat} {v : Value} {d : DataW H} {p : List MemPlace} (hok : Value.okWide Try.prog w r b0 62 v) (h : DataW.Trod enc Try.prog w 0 (fun _ => true) true 62 v d p) :
    ∃ (a : ByteArray) (n : Int) (s t : ByteArray), v = .agg #[.string a, .int .i64 n, .string s, .string t] := by
  obtain ⟨f0, f1, f2, f3, hs, hone, t0, t1, t2, t3⟩ := two_fields
  obtain ⟨v0, v1, v2, v3, y0, y1, y2, y3, n, rfl, _, _, h0, h1, h2, h3⟩ := Joins.open_agg4 hs hone (by kernel_rfl) hok h
  rw [t0] at h0
  rw [t1] at h1
  rw [t2] at h2
  rw [t3] at h3
  obtain ⟨a, rfl⟩ := field_str Try.underlying9 h0
  obtain ⟨N, rfl, wN⟩ := field_int Try.underlying3 h1
  obtain ⟨s, rfl⟩ := field_str Try.underlying9 h2
  obtain ⟨t, rfl⟩ := field_str Try.underlying9 h3
  exact ⟨a, N, s, t, rfl⟩
end
set_option maxRecDepth 100000 in
set_option maxHeartbeats 3000000 in
theorem ctrAlike_body (key : ByteArray) (num : Int) (s0 t0 : ByteArray) (w : World) :
    Calls Try.prog 12 #[.agg #[.string key, .int .i64 num, .string s0, .string t0]] w fun e w' => e = .returned (.bool true) ∧ Below w.heap.size w w' := by
  have CK := Lib.hid (fun w => key5_any key w)
  have CD1 := Lib.hid (fun w => data_any s0 w)
  have CD2 := Lib.hid (fun w => data_any t0 w)
  have CR := Lib.hid (fun w => right_any num w)
  have hs := cutB_size s0 48
  have ht := cutB_size t0 48
  generalize cutB s0 48 = s at *
  generalize cutB t0 48 = t at *
  generalize wI (cutB key 32).data.toList 60 = W at *
  generalize cutB key 32 = ks at *
  obtain ⟨w1, HW1, HB1, c0, c1, c2, c3⟩ : ∃ w1, Hid (w.alloc (.cells #[.string key, .int .i64 num, .string s0, .string t0] 62) = w1) ∧ Hid (Below w.heap.size w w1) ∧ w1.cell? ⟨w.heap.size, 0, none⟩ = some (.string key) ∧ w1.cell? ⟨w.heap.size, 1, none⟩ = some (.int .i64 num) ∧ w1.cell? ⟨w.heap.size, 2, none⟩ = some (.string s0) ∧ w1.cell? ⟨w.heap.size, 3, none⟩ = some (.string t0) := by
    have h := heap_alloc_new w (.cells #[.string key, .int .i64 num, .string s0, .string t0] 62)
    exact ⟨_, Lib.hid rfl, Lib.hid ((Below.refl _ _).alloc (Nat.le_refl _) _), cell_of_row _ _ 0 _ _ _ h, cell_of_row _ _ 1 _ _ _ h, cell_of_row _ _ 2 _ _ _ h, cell_of_row _ _ 3 _ _ _ h⟩
  go_enter Try.func12, Try.ntmps12
  go_upto_region 1 with fail
  rw [HW1.out]
  clear HW1
  refine wp_region_lin (S := (fun w' => w'.cell? ⟨w.heap.size, 0, none⟩ = some (.string key) ∧ w'.cell? ⟨w.heap.size, 1, none⟩ = some (.int .i64 num) ∧ w'.cell? ⟨w.heap.size, 2, none⟩ = some (.string s0) ∧ w'.cell? ⟨w.heap.size, 3, none⟩ = some (.string t0))) [(0, true), (1, true), (2, true), (3, true), (4, true), (5, true), (6, true), (7, true), (8, true), (9, true), (10, true), (11, true)] (by kernel_rfl) (by kernel_rfl) rfl (by kernel_rfl) ?_ (fun hHeld => ?_)
  · (try dsimp only); exact ⟨c0, c1, c2, c3⟩
  (refine wpL_calm (o := { dst := some 13, op := Go.Op.fieldAddr 62 (Go.Operand.tmp 1) 0, type := 0, pos := "law.go:137", after := #[], guard := none }) (v := ?_) rfl (Or.inl ⟨by rfl, ?_⟩) ?_; rotate_left; (focus (intro w hSw; (try dsimp only at hSw); go_simp; (try (with_reducible rfl)); done)); try simp only [Act.put, List.setIfInBounds_toArray, List.set_cons_zero, List.set_cons_succ])
  (refine wpL_calm (o := { dst := some 14, op := Go.Op.load 9 (Go.Operand.tmp 13), type := 9, pos := "law.go:137", after := #[{ on := 0, ground := Go.Ground.data }], guard := none }) (v := ?_) rfl (Or.inl ⟨by rfl, ?_⟩) ?_; rotate_left; (focus (intro w hSw; (try dsimp only at hSw); go_simp; (try (with_reducible rfl)); done)); try simp only [Act.put, List.setIfInBounds_toArray, List.set_cons_zero, List.set_cons_succ])
  (refine wpL_calm (o := { dst := some 15, op := Go.Op.fieldAddr 62 (Go.Operand.tmp 1) 1, type := 0, pos := "law.go:137", after := #[{ on := 8, ground := Go.Ground.gcOnly Go.Departure.lateStores }], guard := none }) (v := ?_) rfl (Or.inl ⟨by rfl, ?_⟩) ?_; rotate_left; (focus (intro w hSw; (try dsimp only at hSw); go_simp; (try (with_reducible rfl)); done)); try simp only [Act.put, List.setIfInBounds_toArray, List.set_cons_zero, List.set_cons_succ])
  (refine wpL_calm (o := { dst := some 16, op := Go.Op.load 3 (Go.Operand.tmp 15), type := 3, pos := "law.go:137", after := #[{ on := 2, ground := Go.Ground.data }, { on := 8, ground := Go.Ground.gcOnly Go.Departure.lateStores }], guard := none }) (v := ?_) rfl (Or.inl ⟨by rfl, ?_⟩) ?_; rotate_left; (focus (intro w hSw; (try dsimp only at hSw); go_simp; (try (with_reducible rfl)); done)); try simp only [Act.put, List.setIfInBounds_toArray, List.set_cons_zero, List.set_cons_succ])
  (refine wpL_calm (o := { dst := some 17, op := Go.Op.fieldAddr 62 (Go.Operand.tmp 1) 2, type := 0, pos := "law.go:137", after := #[{ on := 9, ground := Go.Ground.gcOnly Go.Departure.lateStores }], guard := none }) (v := ?_) rfl (Or.inl ⟨by rfl, ?_⟩) ?_; rotate_left; (focus (intro w hSw; (try dsimp only at hSw); go_simp; (try (with_reducible rfl)); done)); try simp only [Act.put, List.setIfInBounds_toArray, List.set_cons_zero, List.set_cons_succ])
  (refine wpL_calm (o := { dst := some 18, op := Go.Op.load 9 (Go.Operand.tmp 17), type := 9, pos := "law.go:137", after := #[{ on := 4, ground := Go.Ground.data }, { on := 9, ground := Go.Ground.gcOnly Go.Departure.lateStores }], guard := none }) (v := ?_) rfl (Or.inl ⟨by rfl, ?_⟩) ?_; rotate_left; (focus (intro w hSw; (try dsimp only at hSw); go_simp; (try (with_reducible rfl)); done)); try simp only [Act.put, List.setIfInBounds_toArray, List.set_cons_zero, List.set_cons_succ])
  (refine wpL_calm (o := { dst := some 19, op := Go.Op.fieldAddr 62 (Go.Operand.tmp 1) 3, type := 0, pos := "law.go:137", after := #[{ on := 10, ground := Go.Ground.gcOnly Go.Departure.lateStores }], guard := none }) (v := ?_) rfl (Or.inl ⟨by rfl, ?_⟩) ?_; rotate_left; (focus (intro w hSw; (try dsimp only at hSw); go_simp; (try (with_reducible rfl)); done)); try simp only [Act.put, List.setIfInBounds_toArray, List.set_cons_zero, List.set_cons_succ])
  (refine wpL_calm (o := { dst := some 20, op := Go.Op.load 9 (Go.Operand.tmp 19), type := 9, pos := "law.go:137", after := #[{ on := 6, ground := Go.Ground.data }, { on := 10, ground := Go.Ground.gcOnly Go.Departure.lateStores }], guard := none }) (v := ?_) rfl (Or.inl ⟨by rfl, ?_⟩) ?_; rotate_left; (focus (intro w hSw; (try dsimp only at hSw); go_simp; (try (with_reducible rfl)); done)); try simp only [Act.put, List.setIfInBounds_toArray, List.set_cons_zero, List.set_cons_succ])
  (refine wpL_calm (o := { dst := some 3, op := Go.Op.assign (Go.Operand.tmp 14), type := 9, pos := "law.go:137", after := #[{ on := 1, ground := Go.Ground.data }, { on := 0, ground := Go.Ground.phase }, { on := 1, ground := Go.Ground.phase }, { on := 2, ground := Go.Ground.textOnly Go.Departure.lateStores }, { on := 3, ground := Go.Ground.textOnly Go.Departure.lateStores }, { on := 4, ground := Go.Ground.textOnly Go.Departure.lateStores }, { on := 5, ground := Go.Ground.textOnly Go.Departure.lateStores }, { on := 6, ground := Go.Ground.textOnly Go.Departure.lateStores }, { on := 7, ground := Go.Ground.textOnly Go.Departure.lateStores }], guard := none }) (v := ?_) rfl (Or.inl ⟨by rfl, ?_⟩) ?_; rotate_left; (focus (intro w hSw; (try dsimp only at hSw); go_simp; (try (with_reducible rfl)); done)); try simp only [Act.put, List.setIfInBounds_toArray, List.set_cons_zero, List.set_cons_succ])
  (refine wpL_calm (o := { dst := some 4, op := Go.Op.assign (Go.Operand.tmp 16), type := 3, pos := "law.go:137", after := #[{ on := 3, ground := Go.Ground.data }, { on := 8, ground := Go.Ground.chain }, { on := 0, ground := Go.Ground.phase }, { on := 1, ground := Go.Ground.phase }, { on := 2, ground := Go.Ground.phase }, { on := 3, ground := Go.Ground.phase }, { on := 4, ground := Go.Ground.textOnly Go.Departure.lateStores }, { on := 5, ground := Go.Ground.textOnly Go.Departure.lateStores }, { on := 6, ground := Go.Ground.textOnly Go.Departure.lateStores }, { on := 7, ground := Go.Ground.textOnly Go.Departure.lateStores }, { on := 8, ground := Go.Ground.phase }], guard := none }) (v := ?_) rfl (Or.inl ⟨by rfl, ?_⟩) ?_; rotate_left; (focus (intro w hSw; (try dsimp only at hSw); go_simp; (try (with_reducible rfl)); done)); try simp only [Act.put, List.setIfInBounds_toArray, List.set_cons_zero, List.set_cons_succ])
  (refine wpL_calm (o := { dst := some 5, op := Go.Op.assign (Go.Operand.tmp 18), type := 9, pos := "law.go:137", after := #[{ on := 5, ground := Go.Ground.data }, { on := 9, ground := Go.Ground.chain }, { on := 0, ground := Go.Ground.phase }, { on := 1, ground := Go.Ground.phase }, { on := 2, ground := Go.Ground.phase }, { on := 3, ground := Go.Ground.phase }, { on := 4, ground := Go.Ground.phase }, { on := 5, ground := Go.Ground.phase }, { on := 6, ground := Go.Ground.textOnly Go.Departure.lateStores }, { on := 7, ground := Go.Ground.textOnly Go.Departure.lateStores }, { on := 8, ground := Go.Ground.phase }, { on := 9, ground := Go.Ground.phase }], guard := none }) (v := ?_) rfl (Or.inl ⟨by rfl, ?_⟩) ?_; rotate_left; (focus (intro w hSw; (try dsimp only at hSw); go_simp; (try (with_reducible rfl)); done)); try simp only [Act.put, List.setIfInBounds_toArray, List.set_cons_zero, List.set_cons_succ])
  (refine wpL_calm (o := { dst := some 6, op := Go.Op.assign (Go.Operand.tmp 20), type := 9, pos := "law.go:137", after := #[{ on := 7, ground := Go.Ground.data }, { on := 10, ground := Go.Ground.chain }, { on := 0, ground := Go.Ground.phase }, { on := 1, ground := Go.Ground.phase }, { on := 2, ground := Go.Ground.phase }, { on := 3, ground := Go.Ground.phase }, { on := 4, ground := Go.Ground.phase }, { on := 5, ground := Go.Ground.phase }, { on := 6, ground := Go.Ground.phase }, { on := 7, ground := Go.Ground.phase }, { on := 8, ground := Go.Ground.phase }, { on := 9, ground := Go.Ground.phase }, { on := 10, ground := Go.Ground.phase }], guard := none }) (v := ?_) rfl (Or.inl ⟨by rfl, ?_⟩) ?_; rotate_left; (focus (intro w hSw; (try dsimp only at hSw); go_simp; (try (with_reducible rfl)); done)); try simp only [Act.put, List.setIfInBounds_toArray, List.set_cons_zero, List.set_cons_succ])
  refine wpL_nil ?_
  refine NoPanic.normal ?_
  have HB := Lib.hid HB1.out.drew
  clear hHeld c0 c1 c2 c3 HB1
  generalize World.drew w1 = wd at *
  cases hn : okN num with
  | true =>
    rw [hn] at CR
    have CS := Lib.hid (fun kg w hK => se_ok kg W num s w hn hs hK)
    have CT := Lib.hid (fun kg w hK => se_ok kg W num t w hn ht hK)
    have z1 := sealed_size W num s hs
    have z2 := sealed_size W num t ht
    have CX := Lib.hid (fun w => r01xor_any (headB num 1 ++ cryB W num s) (headB num 1 ++ cryB W num t) w (by omega) (by omega))
    rw [alike_bytes W num s t hs ht] at CX
    have CY := Lib.hid (fun w => r01xor_any s t w (by omega) (by omega))
    have CZ := Lib.hid (fun w => zeros_any 16 w (by omega))
    rw [show ((16 : Nat) : Int) = 16 from rfl] at CZ
    have zz : (⟨(List.replicate 16 (0 : UInt8)).toArray⟩ : ByteArray).size = 16 := by rw [bytes_size, List.length_replicate]
    have zx : (⟨(xorL s.data.toList t.data.toList).toArray⟩ : ByteArray).size = 48 := by rw [bytes_size, xorL_length, ← Lib.size_eq]; exact hs
    generalize headB num 1 ++ cryB W num s = x at *
    generalize headB num 1 ++ cryB W num t = y at *
    generalize (⟨(List.replicate 16 (0 : UInt8)).toArray⟩ : ByteArray) = z at *
    generalize (⟨(xorL s.data.toList t.data.toList).toArray⟩ : ByteArray) = xo at *
    have had : ∀ V : World, (Op.stringOp .add z xo).run Try.prog V = .ok (.string (z ++ xo)) V := fun V => run_string_add_sum V z xo (by rw [zz, zx]; decide)
    generalize z ++ xo = r at *
    clear hs ht z1 z2 zz zx
    go_wp2_with fail
    refine (CK.out _).mono ?_
    rintro e w1 ⟨kg, rfl, hK, b1⟩
    have HK1 := Lib.hid hK
    have B1 := Lib.hid (HB.out.trans (b1.mono HB.out.size))
    clear hK b1 HB
    go_wp2_with fail
    refine (CD1.out _).mono ?_
    rintro e w2 ⟨rfl, b2⟩
    have HK2 := Lib.hid (HK1.out.below b2)
    have B2 := Lib.hid (below_trans B1.out b2)
    clear B1 b2 HK1
    go_wp2_with fail
    refine (CD2.out _).mono ?_
    rintro e w3 ⟨rfl, b3⟩
    have HK3 := Lib.hid (HK2.out.below b3)
    have B3 := Lib.hid (below_trans B2.out b3)
    clear B2 b3 HK2
    go_wp2_with fail
    refine (CS.out kg _ HK3).mono ?_
    rintro e w4 ⟨rfl, b4⟩
    have HK4 := Lib.hid (HK3.out.below b4)
    have B4 := Lib.hid (below_trans B3.out b4)
    clear B3 b4 HK3
    go_wp2_with fail
    refine (CT.out kg _ HK4).mono ?_
    rintro e w5 ⟨rfl, b5⟩
    have B5 := Lib.hid (below_trans B4.out b5)
    clear B4 b5 HK4
    go_wp2_with fail
    refine (CR.out _).mono ?_
    rintro e w' ⟨rfl, rfl⟩
    go_wp2_with fail
    refine (awake05 _).mono ?_
    rintro e w6 ⟨rfl, b6⟩
    have B6 := Lib.hid (below_trans B5.out b6)
    clear B5 b6
    go_wp2_with fail
    refine (CX.out _).mono ?_
    rintro e w7 ⟨rfl, b7⟩
    have B7 := Lib.hid (below_trans B6.out b7)
    clear B6 b7
    go_wp2_with fail
    refine (CZ.out _).mono ?_
    rintro e w8 ⟨rfl, b8⟩
    have B8 := Lib.hid (below_trans B7.out b8)
    clear B7 b8
    go_wp2_with fail
    refine (CY.out _).mono ?_
    rintro e w9 ⟨rfl, b9⟩
    have B9 := Lib.hid (below_trans B8.out b9)
    clear B8 b9
    go_wp2_with fail
    go_ret
    exact ⟨by first | rfl | simp, B9.out⟩
  | false =>
    rw [hn] at CR
    have CS := Lib.hid (fun kg w => se_arg kg num s w hn)
    have CT := Lib.hid (fun kg w => se_arg kg num t w hn)
    clear hs ht
    go_wp2_with fail
    refine (CK.out _).mono ?_
    rintro e w1 ⟨kg, rfl, hK, b1⟩
    have B1 := Lib.hid (HB.out.trans (b1.mono HB.out.size))
    clear hK b1 HB
    go_wp2_with fail
    refine (CD1.out _).mono ?_
    rintro e w2 ⟨rfl, b2⟩
    have B2 := Lib.hid (below_trans B1.out b2)
    clear B1 b2
    go_wp2_with fail
    refine (CD2.out _).mono ?_
    rintro e w3 ⟨rfl, b3⟩
    have B3 := Lib.hid (below_trans B2.out b3)
    clear B2 b3
    go_wp2_with fail
    refine (CS.out kg _).mono ?_
    rintro e w' ⟨rfl, rfl⟩
    go_wp2_with fail
    refine (CT.out kg _).mono ?_
    rintro e w' ⟨rfl, rfl⟩
    go_wp2_with fail
    refine (CR.out _).mono ?_
    rintro e w' ⟨rfl, rfl⟩
    go_wp2_with fail
    refine (awake05 _).mono ?_
    rintro e w6 ⟨rfl, b6⟩
    have B6 := Lib.hid (below_trans B3.out b6)
    go_wp2_with fail
    go_ret
    exact ⟨by first | rfl | simp, B6.out⟩
set_option maxRecDepth 100000 in
theorem ctrAlike_walk {H : Type} {enc : TypeId × Value → H} {r : Reach} {b0 : Nat} (v : Value) (d : DataW H) (p : List MemPlace) (w : World)
    (hok : Value.okWide Try.prog w r b0 62 v) (h : DataW.Trod enc Try.prog w 0 (fun _ => true) true 62 v d p) :
    Calls Try.prog 12 #[v] w fun e w' => e = .returned (.bool true) ∧ Below w.heap.size w w' := by
  obtain ⟨a, n, s, t, rfl⟩ := open_two hok h
  exact ctrAlike_body a n s t w
end Go.Proofs.Ytbbanhjcchnhpaa
