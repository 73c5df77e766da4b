/- Contracts (cellaret): node.Split, node.With (made by gennos.py). -/
import Derived.Test.YtaopmiocompibaaDoorNoE
import Derived.Test.YtaopmiocompibaaDoorDgs
namespace Go.Proofs.YtaopmiocompibaaDoor
open Go.RowKit Go.Deep Go.Maps
set_option linter.unusedVariables false
set_option linter.unusedSimpArgs false
theorem refused_form (s : ByteArray) (side : Int) (w : World) (hs : s.size ≠ 64) : Calls Tryd.prog 35 #[.string s, .int .i64 side] w fun e w' => e = .returned (.int .i64 6) ∧ w = w' := by
  have ht : ((s.size : Int) != 64) = true := by simp; omega
  go_enter Tryd.func35, Tryd.ntmps35
  go_wp2_with (go_in)
  go_ret
  exact ⟨rfl, rfl⟩
theorem refused_range (s : ByteArray) (side : Int) (w : World) (hs : s.size = 64) (h0 : side ≠ 0) (h1 : side ≠ 1) : Calls Tryd.prog 35 #[.string s, .int .i64 side] w fun e w' => e = .returned (.int .i64 3) ∧ w = w' := by
  have ht : ((s.size : Int) != 64) = false := by simp; omega
  have e0 : (side == 0) = false := by simpa using h0
  have e1 : (side == 1) = false := by simpa using h1
  go_enter Tryd.func35, Tryd.ntmps35
  go_wp2_with (go_in)
  go_ret
  exact ⟨rfl, rfl⟩
theorem refused_0 (s : ByteArray) (w : World) (hs : s.size = 64) : Calls Tryd.prog 35 #[.string s, .int .i64 0] w fun e w' => e = .returned (.int .i64 0) ∧ w = w' := by
  have ht : ((s.size : Int) != 64) = false := by simp; omega
  go_enter Tryd.func35, Tryd.ntmps35
  go_wp2_with (go_in)
  go_ret
  exact ⟨rfl, rfl⟩
theorem refused_1 (s : ByteArray) (w : World) (hs : s.size = 64) : Calls Tryd.prog 35 #[.string s, .int .i64 1] w fun e w' => e = .returned (.int .i64 0) ∧ w = w' := by
  have ht : ((s.size : Int) != 64) = false := by simp; omega
  go_enter Tryd.func35, Tryd.ntmps35
  go_wp2_with (go_in)
  go_ret
  exact ⟨rfl, rfl⟩
set_option maxRecDepth 100000 in
set_option maxHeartbeats 1000000 in
theorem split_no (s : ByteArray) (side er : Int) (w : World) (her : (er != 0) = true) (HR : Hid (∀ w, Calls Tryd.prog 35 #[.string s, .int .i64 side] w fun e w' => e = .returned (.int .i64 er) ∧ w = w')) : Calls Tryd.prog 17 #[.string s, .int .i64 side] w fun e w' => e = .returned (.tuple #[.agg z32, .int .i64 er]) ∧ Below w.heap.size w w' := by
  have hz := zero_dig
  have hb := build_z32
  obtain ⟨w1, HW1, hr1, B1⟩ : ∃ w1, Hid (w.alloc (.cells z32 33) = w1) ∧ w1.heap[w.heap.size]? = some (.cells z32 33 (0, 0)) ∧ Below w.heap.size w w1 := ⟨_, Lib.hid rfl, heap_alloc_new _ _, (Below.refl _ _).alloc (Nat.le_refl _) _⟩
  go_enter Tryd.func17, Tryd.ntmps17
  go_upto_region 1 with fail
  rw [HW1.out]
  clear HW1
  go_wp2_with fail
  refine (HR.out _).mono ?_
  rintro e w' ⟨rfl, rfl⟩
  go_wp2_with (refine wpList_store_row rfl _ _ _ rfl w.heap.size z32 rfl rfl 33 _ hr1 (by kernel_rfl) rfl z32_one ?_)
  refine bodyPost_ret_by (results_ct rfl _ _ w.heap.size 33 z32 (0, 0) _ rfl (setRow_heap _ _ _ z32 33 (0, 0) hr1) Tryd.underlying33 rfl (by kernel_rfl)) rfl ⟨rfl, ?_⟩
  exact below_setRow B1 (Nat.le_refl _) _
set_option maxRecDepth 100000 in
set_option maxHeartbeats 1000000 in
theorem with_no (s : ByteArray) (side er : Int) (d : List UInt8) (w : World) (her : (er != 0) = true) (HR : Hid (∀ w, Calls Tryd.prog 35 #[.string s, .int .i64 side] w fun e w' => e = .returned (.int .i64 er) ∧ w = w')) : Calls Tryd.prog 18 #[.string s, .int .i64 side, .agg (digA d)] w fun e w' => e = .returned (.tuple #[.string ⟨#[]⟩, .int .i64 er]) ∧ Below w.heap.size w w' := by
  generalize digA d = DG
  go_enter Tryd.func18, Tryd.ntmps18
  go_wp2_with fail
  refine (HR.out _).mono ?_
  rintro e w' ⟨rfl, rfl⟩
  go_wp2_with fail
  go_ret2
  exact ⟨rfl, (Below.refl _ _).alloc (Nat.le_refl _) _⟩
set_option maxRecDepth 100000 in
set_option maxHeartbeats 1000000 in
theorem split_0 (s p q : ByteArray) (w : World) (H : Halves s p q) : Calls Tryd.prog 17 #[.string s, .int .i64 0] w fun e w' => e = .returned (.tuple #[.agg (digA p.data.toList), .int .i64 0]) ∧ Below w.heap.size w w' := by
  have hz := zero_dig
  have HR := Lib.hid (fun w => refused_0 s w H.hs)
  have hap := at_dig
  obtain ⟨w1, HW1, hr1, B1⟩ : ∃ w1, Hid (w.alloc (.cells z32 33) = w1) ∧ w1.heap[w.heap.size]? = some (.cells z32 33 (0, 0)) ∧ Below w.heap.size w w1 := ⟨_, Lib.hid rfl, heap_alloc_new _ _, (Below.refl _ _).alloc (Nat.le_refl _) _⟩
  obtain ⟨cap, w2, HC, hc1, hc2, hrow, b2, hs2⟩ := conv_sb p w1 (by rw [H.hp]; omega)
  rw [H.hp] at HC hc1
  have hl32 : p.data.toList.length = 32 := by rw [← Lib.size_eq]; exact H.hp
  have HDL : Hid ((bv p.data.toList).length = 32) := Lib.hid (by unfold bv; rw [List.length_map]; exact hl32)
  have HDG : Hid ((bv p.data.toList).toArray = digA p.data.toList) := Lib.hid rfl
  have hsz := digA_size p.data.toList
  have hone := digA_one p.data.toList
  rw [hl32] at hsz
  have hr2 := (b2.block _ (Array.getElem?_eq_some_iff.1 hr1).1).trans hr1
  have B2 := B1.trans (b2.mono B1.size)
  have hh := H.hs
  have hx := H.e0
  have hcv := HC.out
  clear hs2 b2 hr1 B1 hl32
  generalize digA p.data.toList = DG at *
  generalize bv p.data.toList = BV at *
  have HROW := Lib.hid hrow
  clear hrow
  go_enter Tryd.func17, Tryd.ntmps17
  go_upto_region 1 with fail
  rw [HW1.out]
  clear HW1
  go_wp2_with fail
  refine (HR.out _).mono ?_
  rintro e w' ⟨rfl, rfl⟩
  go_wp2_with (first | (refine wpList_load_mid rfl 33 _ rfl w1.heap.size 0 rfl BV _ HROW.out Tryd.underlying33 rfl (by rw [HDL.out]; kernel_rfl) ?_; rw [HDG.out]) | (refine wpList_store_row rfl _ _ _ rfl w.heap.size DG rfl rfl 33 _ hr2 (by rw [hsz]; kernel_rfl) (by rw [hsz]; rfl) hone ?_))
  refine bodyPost_ret_by (results_ct rfl _ _ w.heap.size 33 DG (0, 0) _ rfl (setRow_heap _ _ _ DG 33 (0, 0) hr2) Tryd.underlying33 rfl (by rw [hsz]; kernel_rfl)) rfl ⟨rfl, ?_⟩
  exact below_setRow B2 (Nat.le_refl _) _
set_option maxRecDepth 100000 in
set_option maxHeartbeats 1000000 in
theorem split_1 (s p q : ByteArray) (w : World) (H : Halves s p q) : Calls Tryd.prog 17 #[.string s, .int .i64 1] w fun e w' => e = .returned (.tuple #[.agg (digA q.data.toList), .int .i64 0]) ∧ Below w.heap.size w w' := by
  have hz := zero_dig
  have HR := Lib.hid (fun w => refused_1 s w H.hs)
  have hap := at_dig
  obtain ⟨w1, HW1, hr1, B1⟩ : ∃ w1, Hid (w.alloc (.cells z32 33) = w1) ∧ w1.heap[w.heap.size]? = some (.cells z32 33 (0, 0)) ∧ Below w.heap.size w w1 := ⟨_, Lib.hid rfl, heap_alloc_new _ _, (Below.refl _ _).alloc (Nat.le_refl _) _⟩
  obtain ⟨cap, w2, HC, hc1, hc2, hrow, b2, hs2⟩ := conv_sb q w1 (by rw [H.hq]; omega)
  rw [H.hq] at HC hc1
  have hl32 : q.data.toList.length = 32 := by rw [← Lib.size_eq]; exact H.hq
  have HDL : Hid ((bv q.data.toList).length = 32) := Lib.hid (by unfold bv; rw [List.length_map]; exact hl32)
  have HDG : Hid ((bv q.data.toList).toArray = digA q.data.toList) := Lib.hid rfl
  have hsz := digA_size q.data.toList
  have hone := digA_one q.data.toList
  rw [hl32] at hsz
  have hr2 := (b2.block _ (Array.getElem?_eq_some_iff.1 hr1).1).trans hr1
  have B2 := B1.trans (b2.mono B1.size)
  have hh := H.hs
  have hx := H.e1
  have hcv := HC.out
  clear hs2 b2 hr1 B1 hl32
  generalize digA q.data.toList = DG at *
  generalize bv q.data.toList = BV at *
  have HROW := Lib.hid hrow
  clear hrow
  go_enter Tryd.func17, Tryd.ntmps17
  go_upto_region 1 with fail
  rw [HW1.out]
  clear HW1
  go_wp2_with fail
  refine (HR.out _).mono ?_
  rintro e w' ⟨rfl, rfl⟩
  go_wp2_with (first | (refine wpList_load_mid rfl 33 _ rfl w1.heap.size 0 rfl BV _ HROW.out Tryd.underlying33 rfl (by rw [HDL.out]; kernel_rfl) ?_; rw [HDG.out]) | (refine wpList_store_row rfl _ _ _ rfl w.heap.size DG rfl rfl 33 _ hr2 (by rw [hsz]; kernel_rfl) (by rw [hsz]; rfl) hone ?_))
  refine bodyPost_ret_by (results_ct rfl _ _ w.heap.size 33 DG (0, 0) _ rfl (setRow_heap _ _ _ DG 33 (0, 0) hr2) Tryd.underlying33 rfl (by rw [hsz]; kernel_rfl)) rfl ⟨rfl, ?_⟩
  exact below_setRow B2 (Nat.le_refl _) _
set_option maxRecDepth 100000 in
set_option maxHeartbeats 1000000 in
theorem with_0 (s p q : ByteArray) (d : List UInt8) (w : World) (H : Halves s p q) (hd : d.length = 32) : Calls Tryd.prog 18 #[.string s, .int .i64 0, .agg (digA d)] w fun e w' => e = .returned (.tuple #[.string (sB d ++ q), .int .i64 0]) ∧ Below w.heap.size w w' := by
  have HR := Lib.hid (fun w => refused_0 s w H.hs)
  have hds : (sB d).size = 32 := by rw [sB_size]; exact hd
  have ha1 : ∀ V : World, (Op.stringOp .add ⟨#[]⟩ (sB d)).run Tryd.prog V = .ok (.string (sB d)) V := fun V => by rw [run_string_add_sum V _ _ (by rw [hds]; show 0 + 32 ≤ _; omega)]; first | done | (congr 2; done) | (congr 2; unfold sB; exact bytes_add [] d)
  have ha2 : ∀ V : World, (Op.stringOp .add (sB d) q).run Tryd.prog V = .ok (.string (sB d ++ q)) V := fun V => by rw [run_string_add_sum V _ _ (by rw [hds, H.hq]; omega)]
  obtain ⟨w1, HW1, hr1, B1⟩ : ∃ w1, Hid (w.alloc (.cells (digA d) 33) = w1) ∧ w1.heap[w.heap.size]? = some (.cells (digA d) 33 (0, 0)) ∧ Below w.heap.size w w1 := ⟨_, Lib.hid rfl, heap_alloc_new _ _, (Below.refl _ _).alloc (Nat.le_refl _) _⟩
  have HCV : Hid (∀ w2 : World, w2.heap[w.heap.size]? = some (.cells (digA d) 33 (0, 0)) → (convert 43 9 (.slice (some ⟨w.heap.size, 0, none⟩) 32 32)).run Tryd.prog w2 = .ok (.string (sB d)) w2) := Lib.hid (fun w2 h => conv_dig h hd)
  have hh := H.hs
  have hx0 := H.e0
  have hx1 := H.e1
  have hx2 := H.z0
  have hx3 := H.z1
  have HF1 : Hid ((9223372036854775807 < (sB d).size) = False) := Lib.hid (by rw [hds]; simp)
  have HF2 : Hid ((9223372036854775807 < (p ++ sB d).size) = False) := Lib.hid (by rw [ByteArray.size_append, hds, H.hp]; simp)
  have HF3 : Hid ((9223372036854775807 < p.size + (sB d).size) = False) := Lib.hid (by rw [hds, H.hp]; simp)
  clear hd hds H
  generalize sB d = dB at *
  generalize digA d = DG at *
  have HA1 := Lib.hid ha1
  have HA2 := Lib.hid ha2
  clear ha1 ha2
  go_enter Tryd.func18, Tryd.ntmps18
  go_upto_region 1 with fail
  rw [HW1.out]
  clear HW1
  go_wp2_with fail
  refine (HR.out _).mono ?_
  rintro e w' ⟨rfl, rfl⟩
  go_wp2_with fail
  have ha1 := HA1.out
  have ha2 := HA2.out
  have hf1 := HF1.out
  have hf2 := HF2.out
  have hf3 := HF3.out
  have wr0 : IntKind.i64.wrap 0 = 0 := by decide
  have wr1 : IntKind.i64.wrap 1 = 1 := by decide
  have wr2 : IntKind.i64.wrap 2 = 2 := by decide
  have wr3 : IntKind.i64.wrap 32 = 32 := by decide
  have wr4 : IntKind.i64.wrap 64 = 64 := by decide
  refine wp_region_lin (S := (fun w' => w'.heap[w.heap.size]? = some (.cells DG 33 (0, 0)))) [(0, true), (1, true), (2, true), (3, true), (4, true), (5, true), (6, true), (7, true), (8, true), (9, true), (10, true), (11, true), (12, true), (13, true), (14, true)] (by kernel_rfl) (by kernel_rfl) rfl (by kernel_rfl) ?_ (fun hHeld => ?_)
  · (try dsimp only); exact hr1
  (refine wpL_calm (o := { dst := some 15, op := Go.Op.move (Go.Operand.tmp 0), type := 9, pos := "node.go:111", after := #[], guard := none }) (v := ?_) rfl (Or.inl ⟨by rfl, ?_⟩) ?_; rotate_left; (focus (intro w hSw; (try dsimp only at hSw); go_simp; (try (with_reducible rfl)); done)); try simp only [Act.put, List.setIfInBounds_toArray, List.set_cons_zero, List.set_cons_succ])
  (refine wpL_calm (o := { dst := some 16, op := Go.Op.move (Go.Operand.tmp 1), type := 3, pos := "node.go:111", after := #[], guard := none }) (v := ?_) rfl (Or.inl ⟨by rfl, ?_⟩) ?_; rotate_left; (focus (intro w hSw; (try dsimp only at hSw); go_simp; (try (with_reducible rfl)); done)); try simp only [Act.put, List.setIfInBounds_toArray, List.set_cons_zero, List.set_cons_succ])
  (refine wpL_calm (o := { dst := some 17, op := Go.Op.binOp Go.BinOp.mul 3 (Go.Operand.tmp 16) (Go.Operand.const (Go.Value.int Go.IntKind.i64 32)) 3, type := 3, pos := "node.go:111", after := #[{ on := 1, ground := Go.Ground.data }], guard := none }) (v := ?_) rfl (Or.inl ⟨by rfl, ?_⟩) ?_; rotate_left; (focus (intro w hSw; (try dsimp only at hSw); go_simp; (try (with_reducible rfl)); done)); try simp only [Act.put, List.setIfInBounds_toArray, List.set_cons_zero, List.set_cons_succ])
  (refine wpL_calm (o := { dst := some 18, op := Go.Op.slice 9 (Go.Operand.tmp 15) none (some (Go.Operand.tmp 17)) none, type := 9, pos := "node.go:111", after := #[{ on := 0, ground := Go.Ground.data }, { on := 2, ground := Go.Ground.data }], guard := none }) (v := ?_) rfl (Or.inl ⟨by rfl, ?_⟩) ?_; rotate_left; (focus (intro w hSw; (try dsimp only at hSw); go_simp; (try (with_reducible rfl)); done)); try simp only [Act.put, List.setIfInBounds_toArray, List.set_cons_zero, List.set_cons_succ])
  (refine wpL_calm (o := { dst := some 19, op := Go.Op.slice 33 (Go.Operand.tmp 5) none none none, type := 43, pos := "node.go:111", after := #[], guard := none }) (v := ?_) rfl (Or.inl ⟨by rfl, ?_⟩) ?_; rotate_left; (focus (intro w hSw; (try dsimp only at hSw); go_simp; (try (with_reducible rfl)); done)); try simp only [Act.put, List.setIfInBounds_toArray, List.set_cons_zero, List.set_cons_succ])
  refine wpL_calm (o := { dst := some 20, op := Go.Op.convert 43 9 (Go.Operand.tmp 19), type := 9, pos := "node.go:111", after := #[{ on := 4, ground := Go.Ground.data }], guard := none }) (v := .string dB) rfl (Or.inl ⟨by rfl, ?_⟩) ?_; (focus (intro w hSw; have hl := HCV.out _ hSw; go_simp))
  try simp only [Act.put, List.setIfInBounds_toArray, List.set_cons_zero, List.set_cons_succ]
  (refine wpL_calm (o := { dst := some 21, op := Go.Op.binOp Go.BinOp.add 9 (Go.Operand.tmp 18) (Go.Operand.tmp 20) 9, type := 9, pos := "node.go:111", after := #[{ on := 3, ground := Go.Ground.data }, { on := 5, ground := Go.Ground.data }], guard := none }) (v := ?_) rfl (Or.inl ⟨by rfl, ?_⟩) ?_; rotate_left; (focus (intro w hSw; (try dsimp only at hSw); go_simp; (try (with_reducible rfl)); done)); try simp only [Act.put, List.setIfInBounds_toArray, List.set_cons_zero, List.set_cons_succ])
  (refine wpL_calm (o := { dst := some 22, op := Go.Op.move (Go.Operand.tmp 0), type := 9, pos := "node.go:111", after := #[], guard := none }) (v := ?_) rfl (Or.inl ⟨by rfl, ?_⟩) ?_; rotate_left; (focus (intro w hSw; (try dsimp only at hSw); go_simp; (try (with_reducible rfl)); done)); try simp only [Act.put, List.setIfInBounds_toArray, List.set_cons_zero, List.set_cons_succ])
  (refine wpL_calm (o := { dst := some 23, op := Go.Op.move (Go.Operand.tmp 1), type := 3, pos := "node.go:111", after := #[], guard := none }) (v := ?_) rfl (Or.inl ⟨by rfl, ?_⟩) ?_; rotate_left; (focus (intro w hSw; (try dsimp only at hSw); go_simp; (try (with_reducible rfl)); done)); try simp only [Act.put, List.setIfInBounds_toArray, List.set_cons_zero, List.set_cons_succ])
  (refine wpL_calm (o := { dst := some 24, op := Go.Op.binOp Go.BinOp.add 3 (Go.Operand.tmp 23) (Go.Operand.const (Go.Value.int Go.IntKind.i64 1)) 3, type := 3, pos := "node.go:111", after := #[{ on := 8, ground := Go.Ground.data }], guard := none }) (v := ?_) rfl (Or.inl ⟨by rfl, ?_⟩) ?_; rotate_left; (focus (intro w hSw; (try dsimp only at hSw); go_simp; (try (with_reducible rfl)); done)); try simp only [Act.put, List.setIfInBounds_toArray, List.set_cons_zero, List.set_cons_succ])
  (refine wpL_calm (o := { dst := some 25, op := Go.Op.binOp Go.BinOp.mul 3 (Go.Operand.tmp 24) (Go.Operand.const (Go.Value.int Go.IntKind.i64 32)) 3, type := 3, pos := "node.go:111", after := #[{ on := 9, ground := Go.Ground.data }], guard := none }) (v := ?_) rfl (Or.inl ⟨by rfl, ?_⟩) ?_; rotate_left; (focus (intro w hSw; (try dsimp only at hSw); go_simp; (try (with_reducible rfl)); done)); try simp only [Act.put, List.setIfInBounds_toArray, List.set_cons_zero, List.set_cons_succ])
  (refine wpL_calm (o := { dst := some 26, op := Go.Op.slice 9 (Go.Operand.tmp 22) (some (Go.Operand.tmp 25)) none none, type := 9, pos := "node.go:111", after := #[{ on := 7, ground := Go.Ground.data }, { on := 10, ground := Go.Ground.data }], guard := none }) (v := ?_) rfl (Or.inl ⟨by rfl, ?_⟩) ?_; rotate_left; (focus (intro w hSw; (try dsimp only at hSw); go_simp; (try (with_reducible rfl)); done)); try simp only [Act.put, List.setIfInBounds_toArray, List.set_cons_zero, List.set_cons_succ])
  (refine wpL_calm (o := { dst := some 27, op := Go.Op.binOp Go.BinOp.add 9 (Go.Operand.tmp 21) (Go.Operand.tmp 26) 9, type := 9, pos := "node.go:111", after := #[{ on := 6, ground := Go.Ground.data }, { on := 11, ground := Go.Ground.data }], guard := none }) (v := ?_) rfl (Or.inl ⟨by rfl, ?_⟩) ?_; rotate_left; (focus (intro w hSw; (try dsimp only at hSw); go_simp; (try (with_reducible rfl)); done)); try simp only [Act.put, List.setIfInBounds_toArray, List.set_cons_zero, List.set_cons_succ])
  (refine wpL_calm (o := { dst := some 6, op := Go.Op.assign (Go.Operand.tmp 27), type := 9, pos := "node.go:111", after := #[{ on := 12, ground := Go.Ground.data }, { on := 0, ground := Go.Ground.phase }, { on := 1, ground := Go.Ground.phase }, { on := 2, ground := Go.Ground.phase }, { on := 3, ground := Go.Ground.phase }, { on := 4, ground := Go.Ground.phase }, { on := 5, ground := Go.Ground.phase }, { on := 6, ground := Go.Ground.phase }, { on := 7, ground := Go.Ground.phase }, { on := 8, ground := Go.Ground.phase }, { on := 9, ground := Go.Ground.phase }, { on := 10, ground := Go.Ground.phase }, { on := 11, ground := Go.Ground.phase }, { on := 12, ground := Go.Ground.phase }], guard := none }) (v := ?_) rfl (Or.inl ⟨by rfl, ?_⟩) ?_; rotate_left; (focus (intro w hSw; (try dsimp only at hSw); go_simp; (try (with_reducible rfl)); done)); try simp only [Act.put, List.setIfInBounds_toArray, List.set_cons_zero, List.set_cons_succ])
  (refine wpL_calm (o := { dst := some 7, op := Go.Op.assign (Go.Operand.const (Go.Value.int Go.IntKind.i64 0)), type := 23, pos := "node.go:111", after := #[{ on := 13, ground := Go.Ground.chain }, { on := 0, ground := Go.Ground.phase }, { on := 1, ground := Go.Ground.phase }, { on := 2, ground := Go.Ground.phase }, { on := 3, ground := Go.Ground.phase }, { on := 4, ground := Go.Ground.phase }, { on := 5, ground := Go.Ground.phase }, { on := 6, ground := Go.Ground.phase }, { on := 7, ground := Go.Ground.phase }, { on := 8, ground := Go.Ground.phase }, { on := 9, ground := Go.Ground.phase }, { on := 10, ground := Go.Ground.phase }, { on := 11, ground := Go.Ground.phase }, { on := 12, ground := Go.Ground.phase }, { on := 13, ground := Go.Ground.phase }], guard := none }) (v := ?_) rfl (Or.inl ⟨by rfl, ?_⟩) ?_; rotate_left; (focus (intro w hSw; (try dsimp only at hSw); go_simp; (try (with_reducible rfl)); done)); try simp only [Act.put, List.setIfInBounds_toArray, List.set_cons_zero, List.set_cons_succ])
  refine wpL_nil ?_
  refine NoPanic.normal ?_
  go_wp2_with fail
  go_ret2
  exact ⟨rfl, B1.drew⟩
set_option maxRecDepth 100000 in
set_option maxHeartbeats 1000000 in
theorem with_1 (s p q : ByteArray) (d : List UInt8) (w : World) (H : Halves s p q) (hd : d.length = 32) : Calls Tryd.prog 18 #[.string s, .int .i64 1, .agg (digA d)] w fun e w' => e = .returned (.tuple #[.string (p ++ sB d), .int .i64 0]) ∧ Below w.heap.size w w' := by
  have HR := Lib.hid (fun w => refused_1 s w H.hs)
  have hds : (sB d).size = 32 := by rw [sB_size]; exact hd
  have ha1 : ∀ V : World, (Op.stringOp .add p (sB d)).run Tryd.prog V = .ok (.string (p ++ sB d)) V := fun V => by rw [run_string_add_sum V _ _ (by rw [hds, H.hp]; omega)]
  have ha2 : ∀ V : World, (Op.stringOp .add (p ++ sB d) ⟨#[]⟩).run Tryd.prog V = .ok (.string (p ++ sB d)) V := fun V => by rw [run_string_add_sum V _ _ (by rw [ByteArray.size_append, hds, H.hp]; show 32 + 32 + 0 ≤ _; omega)]; first | done | (congr 2; done) | (congr 2; exact ByteArray.append_empty)
  obtain ⟨w1, HW1, hr1, B1⟩ : ∃ w1, Hid (w.alloc (.cells (digA d) 33) = w1) ∧ w1.heap[w.heap.size]? = some (.cells (digA d) 33 (0, 0)) ∧ Below w.heap.size w w1 := ⟨_, Lib.hid rfl, heap_alloc_new _ _, (Below.refl _ _).alloc (Nat.le_refl _) _⟩
  have HCV : Hid (∀ w2 : World, w2.heap[w.heap.size]? = some (.cells (digA d) 33 (0, 0)) → (convert 43 9 (.slice (some ⟨w.heap.size, 0, none⟩) 32 32)).run Tryd.prog w2 = .ok (.string (sB d)) w2) := Lib.hid (fun w2 h => conv_dig h hd)
  have hh := H.hs
  have hx0 := H.e0
  have hx1 := H.e1
  have hx2 := H.z0
  have hx3 := H.z1
  have HF1 : Hid ((9223372036854775807 < (sB d).size) = False) := Lib.hid (by rw [hds]; simp)
  have HF2 : Hid ((9223372036854775807 < (p ++ sB d).size) = False) := Lib.hid (by rw [ByteArray.size_append, hds, H.hp]; simp)
  have HF3 : Hid ((9223372036854775807 < p.size + (sB d).size) = False) := Lib.hid (by rw [hds, H.hp]; simp)
  clear hd hds H
  generalize sB d = dB at *
  generalize digA d = DG at *
  have HA1 := Lib.hid ha1
  have HA2 := Lib.hid ha2
  clear ha1 ha2
  go_enter Tryd.func18, Tryd.ntmps18
  go_upto_region 1 with fail
  rw [HW1.out]
  clear HW1
  go_wp2_with fail
  refine (HR.out _).mono ?_
  rintro e w' ⟨rfl, rfl⟩
  go_wp2_with fail
  have ha1 := HA1.out
  have ha2 := HA2.out
  have hf1 := HF1.out
  have hf2 := HF2.out
  have hf3 := HF3.out
  have wr0 : IntKind.i64.wrap 0 = 0 := by decide
  have wr1 : IntKind.i64.wrap 1 = 1 := by decide
  have wr2 : IntKind.i64.wrap 2 = 2 := by decide
  have wr3 : IntKind.i64.wrap 32 = 32 := by decide
  have wr4 : IntKind.i64.wrap 64 = 64 := by decide
  refine wp_region_lin (S := (fun w' => w'.heap[w.heap.size]? = some (.cells DG 33 (0, 0)))) [(0, true), (1, true), (2, true), (3, true), (4, true), (5, true), (6, true), (7, true), (8, true), (9, true), (10, true), (11, true), (12, true), (13, true), (14, true)] (by kernel_rfl) (by kernel_rfl) rfl (by kernel_rfl) ?_ (fun hHeld => ?_)
  · (try dsimp only); exact hr1
  (refine wpL_calm (o := { dst := some 15, op := Go.Op.move (Go.Operand.tmp 0), type := 9, pos := "node.go:111", after := #[], guard := none }) (v := ?_) rfl (Or.inl ⟨by rfl, ?_⟩) ?_; rotate_left; (focus (intro w hSw; (try dsimp only at hSw); go_simp; (try (with_reducible rfl)); done)); try simp only [Act.put, List.setIfInBounds_toArray, List.set_cons_zero, List.set_cons_succ])
  (refine wpL_calm (o := { dst := some 16, op := Go.Op.move (Go.Operand.tmp 1), type := 3, pos := "node.go:111", after := #[], guard := none }) (v := ?_) rfl (Or.inl ⟨by rfl, ?_⟩) ?_; rotate_left; (focus (intro w hSw; (try dsimp only at hSw); go_simp; (try (with_reducible rfl)); done)); try simp only [Act.put, List.setIfInBounds_toArray, List.set_cons_zero, List.set_cons_succ])
  (refine wpL_calm (o := { dst := some 17, op := Go.Op.binOp Go.BinOp.mul 3 (Go.Operand.tmp 16) (Go.Operand.const (Go.Value.int Go.IntKind.i64 32)) 3, type := 3, pos := "node.go:111", after := #[{ on := 1, ground := Go.Ground.data }], guard := none }) (v := ?_) rfl (Or.inl ⟨by rfl, ?_⟩) ?_; rotate_left; (focus (intro w hSw; (try dsimp only at hSw); go_simp; (try (with_reducible rfl)); done)); try simp only [Act.put, List.setIfInBounds_toArray, List.set_cons_zero, List.set_cons_succ])
  (refine wpL_calm (o := { dst := some 18, op := Go.Op.slice 9 (Go.Operand.tmp 15) none (some (Go.Operand.tmp 17)) none, type := 9, pos := "node.go:111", after := #[{ on := 0, ground := Go.Ground.data }, { on := 2, ground := Go.Ground.data }], guard := none }) (v := ?_) rfl (Or.inl ⟨by rfl, ?_⟩) ?_; rotate_left; (focus (intro w hSw; (try dsimp only at hSw); go_simp; (try (with_reducible rfl)); done)); try simp only [Act.put, List.setIfInBounds_toArray, List.set_cons_zero, List.set_cons_succ])
  (refine wpL_calm (o := { dst := some 19, op := Go.Op.slice 33 (Go.Operand.tmp 5) none none none, type := 43, pos := "node.go:111", after := #[], guard := none }) (v := ?_) rfl (Or.inl ⟨by rfl, ?_⟩) ?_; rotate_left; (focus (intro w hSw; (try dsimp only at hSw); go_simp; (try (with_reducible rfl)); done)); try simp only [Act.put, List.setIfInBounds_toArray, List.set_cons_zero, List.set_cons_succ])
  refine wpL_calm (o := { dst := some 20, op := Go.Op.convert 43 9 (Go.Operand.tmp 19), type := 9, pos := "node.go:111", after := #[{ on := 4, ground := Go.Ground.data }], guard := none }) (v := .string dB) rfl (Or.inl ⟨by rfl, ?_⟩) ?_; (focus (intro w hSw; have hl := HCV.out _ hSw; go_simp))
  try simp only [Act.put, List.setIfInBounds_toArray, List.set_cons_zero, List.set_cons_succ]
  (refine wpL_calm (o := { dst := some 21, op := Go.Op.binOp Go.BinOp.add 9 (Go.Operand.tmp 18) (Go.Operand.tmp 20) 9, type := 9, pos := "node.go:111", after := #[{ on := 3, ground := Go.Ground.data }, { on := 5, ground := Go.Ground.data }], guard := none }) (v := ?_) rfl (Or.inl ⟨by rfl, ?_⟩) ?_; rotate_left; (focus (intro w hSw; (try dsimp only at hSw); go_simp; (try (with_reducible rfl)); done)); try simp only [Act.put, List.setIfInBounds_toArray, List.set_cons_zero, List.set_cons_succ])
  (refine wpL_calm (o := { dst := some 22, op := Go.Op.move (Go.Operand.tmp 0), type := 9, pos := "node.go:111", after := #[], guard := none }) (v := ?_) rfl (Or.inl ⟨by rfl, ?_⟩) ?_; rotate_left; (focus (intro w hSw; (try dsimp only at hSw); go_simp; (try (with_reducible rfl)); done)); try simp only [Act.put, List.setIfInBounds_toArray, List.set_cons_zero, List.set_cons_succ])
  (refine wpL_calm (o := { dst := some 23, op := Go.Op.move (Go.Operand.tmp 1), type := 3, pos := "node.go:111", after := #[], guard := none }) (v := ?_) rfl (Or.inl ⟨by rfl, ?_⟩) ?_; rotate_left; (focus (intro w hSw; (try dsimp only at hSw); go_simp; (try (with_reducible rfl)); done)); try simp only [Act.put, List.setIfInBounds_toArray, List.set_cons_zero, List.set_cons_succ])
  (refine wpL_calm (o := { dst := some 24, op := Go.Op.binOp Go.BinOp.add 3 (Go.Operand.tmp 23) (Go.Operand.const (Go.Value.int Go.IntKind.i64 1)) 3, type := 3, pos := "node.go:111", after := #[{ on := 8, ground := Go.Ground.data }], guard := none }) (v := ?_) rfl (Or.inl ⟨by rfl, ?_⟩) ?_; rotate_left; (focus (intro w hSw; (try dsimp only at hSw); go_simp; (try (with_reducible rfl)); done)); try simp only [Act.put, List.setIfInBounds_toArray, List.set_cons_zero, List.set_cons_succ])
  (refine wpL_calm (o := { dst := some 25, op := Go.Op.binOp Go.BinOp.mul 3 (Go.Operand.tmp 24) (Go.Operand.const (Go.Value.int Go.IntKind.i64 32)) 3, type := 3, pos := "node.go:111", after := #[{ on := 9, ground := Go.Ground.data }], guard := none }) (v := ?_) rfl (Or.inl ⟨by rfl, ?_⟩) ?_; rotate_left; (focus (intro w hSw; (try dsimp only at hSw); go_simp; (try (with_reducible rfl)); done)); try simp only [Act.put, List.setIfInBounds_toArray, List.set_cons_zero, List.set_cons_succ])
  (refine wpL_calm (o := { dst := some 26, op := Go.Op.slice 9 (Go.Operand.tmp 22) (some (Go.Operand.tmp 25)) none none, type := 9, pos := "node.go:111", after := #[{ on := 7, ground := Go.Ground.data }, { on := 10, ground := Go.Ground.data }], guard := none }) (v := ?_) rfl (Or.inl ⟨by rfl, ?_⟩) ?_; rotate_left; (focus (intro w hSw; (try dsimp only at hSw); go_simp; (try (with_reducible rfl)); done)); try simp only [Act.put, List.setIfInBounds_toArray, List.set_cons_zero, List.set_cons_succ])
  (refine wpL_calm (o := { dst := some 27, op := Go.Op.binOp Go.BinOp.add 9 (Go.Operand.tmp 21) (Go.Operand.tmp 26) 9, type := 9, pos := "node.go:111", after := #[{ on := 6, ground := Go.Ground.data }, { on := 11, ground := Go.Ground.data }], guard := none }) (v := ?_) rfl (Or.inl ⟨by rfl, ?_⟩) ?_; rotate_left; (focus (intro w hSw; (try dsimp only at hSw); go_simp; (try (with_reducible rfl)); done)); try simp only [Act.put, List.setIfInBounds_toArray, List.set_cons_zero, List.set_cons_succ])
  (refine wpL_calm (o := { dst := some 6, op := Go.Op.assign (Go.Operand.tmp 27), type := 9, pos := "node.go:111", after := #[{ on := 12, ground := Go.Ground.data }, { on := 0, ground := Go.Ground.phase }, { on := 1, ground := Go.Ground.phase }, { on := 2, ground := Go.Ground.phase }, { on := 3, ground := Go.Ground.phase }, { on := 4, ground := Go.Ground.phase }, { on := 5, ground := Go.Ground.phase }, { on := 6, ground := Go.Ground.phase }, { on := 7, ground := Go.Ground.phase }, { on := 8, ground := Go.Ground.phase }, { on := 9, ground := Go.Ground.phase }, { on := 10, ground := Go.Ground.phase }, { on := 11, ground := Go.Ground.phase }, { on := 12, ground := Go.Ground.phase }], guard := none }) (v := ?_) rfl (Or.inl ⟨by rfl, ?_⟩) ?_; rotate_left; (focus (intro w hSw; (try dsimp only at hSw); go_simp; (try (with_reducible rfl)); done)); try simp only [Act.put, List.setIfInBounds_toArray, List.set_cons_zero, List.set_cons_succ])
  (refine wpL_calm (o := { dst := some 7, op := Go.Op.assign (Go.Operand.const (Go.Value.int Go.IntKind.i64 0)), type := 23, pos := "node.go:111", after := #[{ on := 13, ground := Go.Ground.chain }, { on := 0, ground := Go.Ground.phase }, { on := 1, ground := Go.Ground.phase }, { on := 2, ground := Go.Ground.phase }, { on := 3, ground := Go.Ground.phase }, { on := 4, ground := Go.Ground.phase }, { on := 5, ground := Go.Ground.phase }, { on := 6, ground := Go.Ground.phase }, { on := 7, ground := Go.Ground.phase }, { on := 8, ground := Go.Ground.phase }, { on := 9, ground := Go.Ground.phase }, { on := 10, ground := Go.Ground.phase }, { on := 11, ground := Go.Ground.phase }, { on := 12, ground := Go.Ground.phase }, { on := 13, ground := Go.Ground.phase }], guard := none }) (v := ?_) rfl (Or.inl ⟨by rfl, ?_⟩) ?_; rotate_left; (focus (intro w hSw; (try dsimp only at hSw); go_simp; (try (with_reducible rfl)); done)); try simp only [Act.put, List.setIfInBounds_toArray, List.set_cons_zero, List.set_cons_succ])
  refine wpL_nil ?_
  refine NoPanic.normal ?_
  go_wp2_with fail
  go_ret2
  exact ⟨rfl, B1.drew⟩
end Go.Proofs.YtaopmiocompibaaDoor
