/- Package record (cellaret): Lay. -/
import Derived.Test.YthhaadcpenlnkaaRcE
namespace Go.Proofs.Ythhaadcpenlnkaa
open Go.RowKit Go.Deep
set_option linter.unusedVariables false
set_option linter.unusedSimpArgs false
attribute [local irreducible] rcA
theorem rc_info {P : Program} {t : TypeId} {z : Value} {n m : Nat} (h : (P.info? t).map (fun i => (i.zero, i.size, i.bytes)) = some (some z, n, m)) : ∃ i, P.info? t = some i ∧ i.zero = some z ∧ i.size = n ∧ i.bytes = m := by
  cases hq : P.info? t with
  | none => simp [hq] at h
  | some i => simp [hq] at h; exact ⟨i, rfl, h.1, h.2.1, h.2.2⟩
theorem info_strR : (Try.prog.info? 9).map (fun i => (i.zero, i.size, i.bytes)) = some (some (.string ⟨#[]⟩), 1, 16) := by kernel_rfl
theorem info_intR : (Try.prog.info? 3).map (fun i => (i.zero, i.size, i.bytes)) = some (some (.int .i64 0), 1, 8) := by kernel_rfl
theorem rc_loaded {R : Rc} (v : Value) (h : R.root.length = 32) : (Try.prog.info? 26).map (·.size) = some (rcA R v).size := by rw [rcA_size R v h]; kernel_rfl
theorem make24 (w : World) : (Instr.makeSlice 52 (.int .i64 24) (.int .i64 24)).run Try.prog w = .ok (.slice (some ⟨w.heap.size, 0, none⟩) 24 24) (w.alloc (.cells (madeCells #[.int .u8 0] 24) 5)) :=
  run_make_row' (P := Try.prog) 52 5 (.int .u8 0) 1 Try.underlying52 (by kernel_rfl) rfl .i64 .i64 24 (by omega) (by omega) (w := w)
theorem zeros_toArray (n : Nat) : ((List.range n).map fun _ => (0 : UInt8)) = List.replicate n 0 := by
  apply List.ext_getElem
  · simp
  · intro i h1 h2; simp
theorem conv24 (w : World) : (convert 52 9 (.slice (some ⟨w.heap.size, 0, none⟩) 24 24)).run Try.prog (w.alloc (.cells (madeCells #[.int .u8 0] 24) 5)) = .ok (.string ⟨(List.replicate 24 (0 : UInt8)).toArray⟩) (w.alloc (.cells (madeCells #[.int .u8 0] 24) 5)) := by
  have := conv_row (P := Try.prog) (cap := 24) (W := 24) (dst := 9) (f := fun _ => 0) Try.underlying52 Try.underlying5 Try.underlying9 (World.rowIs_made w (.int .u8 0) 24 5) (Nat.le_refl _)
  rw [zeros_toArray] at this
  exact this
theorem conv_root {w w' : World} {g : Nat} {l : List UInt8} (h : w.rangeAt g 1 (rootV l)) (hl : l.length = 32) (hg : g < w.heap.size) (hb : Below w.heap.size w w') :
    (convert 52 9 (.slice (some ⟨g, 1, none⟩) 32 32)).run Try.prog w' = .ok (.string ⟨l.toArray⟩) w' := by
  have := run_convert_bytes_back (P := Try.prog) w' 52 9 5 ⟨g, 1, none⟩ 32 l Try.underlying52 Try.underlying5 Try.underlying9 (fun j hj => by
    rw [Addr.add_mid]
    exact (hb.cell (p := ⟨g, 1 + j, none⟩) hg).trans (h j _ (by simp [rootV, hj])))
  rw [hl] at this
  exact this
theorem own_ne_type {w : World} {base n size : Nat} {e : TypeId} {v : Value} {xs : List Value} (h : w.ownsRow base e size v n xs) {g : Nat} {cs : Array Value} {t : TypeId} {fr : Nat × Nat} (hg : w.heap[g]? = some (.cells cs t fr)) (ht : t ≠ e) : v.ownBlock ≠ some g := fun hv => by
  rcases h.2 with ⟨rfl, _⟩ | ⟨g', cap, cur, rfl, _, hg', _⟩
  · cases hv
  · simp [Value.ownBlock] at hv
    subst hv
    rw [hg] at hg'
    injection hg' with hg'
    injection hg' with _ h2
    exact ht h2
theorem own_keep {w w' : World} {base B n size : Nat} {e : TypeId} {v : Value} {xs : List Value} (h3 : w.ownsRow base e size v n xs) (hb : Below B w w') (hB : w.heap.size ≤ B) : w'.ownsRow base e size v n xs := by
  refine ⟨h3.1, ?_⟩
  rcases h3.2 with h | ⟨g2, cap, cur, rfl, q1, q2, q3⟩
  · exact Or.inl h
  · exact Or.inr ⟨g2, cap, cur, rfl, q1, (hb.block g2 (Nat.lt_of_lt_of_le (Array.getElem?_eq_some_iff.1 q2).1 hB)).trans q2, q3⟩
theorem own_new1 (w : World) (base : Nat) (e : TypeId) (u : Value) (hb : base ≤ w.heap.size) : (w.alloc (.cells #[u] e)).ownsRow base e 1 (.slice (some ⟨w.heap.size, 0, none⟩) 1 1) 1 [u] :=
  ⟨rfl, Or.inr ⟨w.heap.size, 1, #[u], rfl, hb, heap_alloc_new _ _, Nat.le_refl _, by unfold maxLen; omega, rfl, rfl⟩⟩
theorem own_made (w : World) (base : Nat) (e : TypeId) (z : Value) (c : Nat) (hb : base ≤ w.heap.size) (hc : c ≤ maxLen) : (w.alloc (.cells (madeCells #[z] c) e)).ownsRow base e 1 (.slice (some ⟨w.heap.size, 0, none⟩) 0 c) 0 [] :=
  ⟨rfl, Or.inr ⟨w.heap.size, c, madeCells #[z] c, rfl, hb, heap_alloc_new _ _, Nat.zero_le _, hc, by rw [size_madeCells]; omega, by simp⟩⟩
theorem own_base {w : World} {base b n size : Nat} {e : TypeId} {v : Value} {xs : List Value} (h : w.ownsRow base e size v n xs) (hb : b ≤ base) : w.ownsRow b e size v n xs := by
  refine ⟨h.1, ?_⟩
  rcases h.2 with h | ⟨g2, cap, cur, rfl, q1, q2⟩
  · exact Or.inl h
  · exact Or.inr ⟨g2, cap, cur, rfl, Nat.le_trans hb q1, q2⟩
theorem own_at0 {w : World} {base n : Nat} {e : TypeId} {v : Value} {xs : List Value} (h : w.ownsRow base e 1 v n xs) : ∃ a c, v = .slice a n c := by
  rcases h.2 with ⟨rfl, rfl⟩ | ⟨g, cap, cur, rfl, _⟩
  · exact ⟨none, 0, rfl⟩
  · exact ⟨some ⟨g, 0, none⟩, cap, rfl⟩
theorem cell1_at (w : World) (t : TypeId) (v : Value) : ∀ j u, [v][j]? = some u → (w.alloc (.cells #[v] t)).cell? ((⟨w.heap.size, 0, none⟩ : Addr).add j) = some u := by
  intro j u hu
  cases j with
  | zero =>
    simp only [List.getElem?_cons_zero, Option.some.injEq] at hu
    subst hu
    rw [Addr.add_lit]
    exact cell_of_row _ _ 0 _ _ _ (heap_alloc_new _ _)
  | succ j => simp at hu
def intV (L : List Int) : List Value := L.map fun z => .int .i64 z
theorem intV_len (L : List Int) : (intV L).length = L.length := by simp [intV]
theorem beL_size (n : Int) (W : Nat) : (⟨(beL n W).toArray⟩ : ByteArray).size = W := by rw [bytes_size, beL_length]
set_option maxRecDepth 100000 in
set_option maxHeartbeats 2000000 in
theorem lay_no (R : Rc) (ao : Option Addr) (n cap : Nat) (w : World) (hr : R.root.length = 32) (hn : R.ps.length = n) (hnm : n ≤ 9223372036854775807) (hP : PtAt w ao R.ps) (hc : chkE R ≠ 0) :
    Calls Try.prog 9 #[.agg (rcA R (.slice ao n cap))] w fun e w' => e = .returned (.tuple #[.slice none 0 0, .int .i64 (chkE R)]) ∧ Below w.heap.size w w' := by
  obtain ⟨w1, HW, hR, HB⟩ := box_rc w R (.slice ao n cap) hr
  have CK := Lib.hid (check_any R ao n cap w1 hr hn hnm (hP.below HB.out))
  have h1 : (chkE R != 0) = true := by simpa using hc
  have HG := Lib.hid hR.1
  have HS := Lib.hid (rc_loaded (.slice ao n cap) hr)
  clear hR hP hc hn hr
  generalize chkE R = z at *
  go_enter Try.func9, Try.ntmps9
  go_upto_region 1 with fail
  rw [HW.out]
  go_wp2_with (refine wpList_load_row rfl _ _ rfl w.heap.size rfl 26 (rcA R (.slice ao n cap)) (0, 0) _ HG.out Try.underlying26 rfl HS.out ?_)
  refine (CK.out).mono ?_
  rintro e w2 ⟨rfl, b2⟩
  go_wp2_with fail
  go_ret2
  exact ⟨rfl, HB.out.trans (b2.mono HB.out.size)⟩
set_option maxRecDepth 100000 in
set_option maxHeartbeats 4000000 in
theorem lay_ok (R : Rc) (ao : Option Addr) (n cap : Nat) (w : World) (hr : R.root.length = 32) (hn : R.ps.length = n) (hP : PtAt w ao R.ps) (hc : chkE R = 0) :
    Calls Try.prog 9 #[.agg (rcA R (.slice ao n cap))] w fun e w' => ∃ v, e = .returned (.tuple #[v, .int .i64 0]) ∧ w'.ownsRow w.heap.size 9 1 v (lenN n) (strV (layL R)) ∧ Below w.heap.size w w' := by
  obtain ⟨is, his, hs1, hs2, hs3⟩ := rc_info info_strR
  obtain ⟨ii, hii, hi1, hi2, hi3⟩ := rc_info info_intR
  obtain ⟨w1, HW, hR, HB⟩ := box_rc w R (.slice ao n cap) hr
  obtain ⟨hn64, hq0, hq1, hok⟩ := chkE_zero hc
  rw [hn] at hn64
  have CK := Lib.hid (check_any R ao n cap w1 hr hn (by omega) (hP.below HB.out))
  rw [hc] at CK
  have HR1 := Lib.hid hR
  have hl1 := hR.lt
  have HS := Lib.hid (rc_loaded (.slice ao n cap) hr)
  have HP1 := Lib.hid (hP.below HB.out)
  have HN := Lib.hid hn
  have HOK := Lib.hid hok
  have HRT := Lib.hid hr
  have P4 := Lib.hid (fun w => put_any R.seq 4 w)
  have P2 := Lib.hid (fun w => put_any (n : Int) 2 w)
  have e4 : putE R.seq 4 = 0 := by
    unfold putE
    rw [if_pos (by omega), if_neg]
    rintro (h' | ⟨-, h'⟩)
    · omega
    · apply h'
      show R.seq / 2 ^ (8 * 4) = 0
      rw [show (2 : Int) ^ (8 * 4) = 4294967296 by decide]
      omega
  rw [e4, show putL R.seq 4 = beL R.seq 4 from putL_ok (W := 4) e4] at P4
  rw [putE_two (by omega) (by omega), putL_two (by omega) (by omega)] at P2
  have HHD : Hid (∀ q, (⟨#[114, 99]⟩ : ByteArray) ++ ⟨(beL R.seq 4).toArray⟩ ++ ⟨(beL (n : Int) 2).toArray⟩ ++ ⟨R.root.toArray⟩ ++ ⟨(List.replicate 24 (0 : UInt8)).toArray⟩ = q → hdB R = q) := Lib.hid (fun q h => by unfold hdB; rw [HN.out]; exact h)
  have z0 : (⟨#[114, 99]⟩ : ByteArray).size = 2 := rfl
  have z1 : (⟨(beL R.seq 4).toArray⟩ : ByteArray).size = 4 := beL_size _ _
  have z2 : (⟨(beL (n : Int) 2).toArray⟩ : ByteArray).size = 2 := beL_size _ _
  have z3 : (⟨R.root.toArray⟩ : ByteArray).size = 32 := by rw [bytes_size, hr]
  have z4 : (⟨(List.replicate 24 (0 : UInt8)).toArray⟩ : ByteArray).size = 24 := by rw [bytes_size, List.length_replicate]
  have QR := Lib.hid (fun (w' : World) (hb : Below w1.heap.size w1 w') => conv_root hR.root hr hl1 hb)
  have hmk := make24
  have hcv := conv24
  clear hR hP hc hn hr hok e4
  generalize (⟨(beL R.seq 4).toArray⟩ : ByteArray) = t1 at *
  generalize (⟨(beL (n : Int) 2).toArray⟩ : ByteArray) = t2 at *
  generalize (⟨R.root.toArray⟩ : ByteArray) = t3 at *
  generalize (⟨(List.replicate 24 (0 : UInt8)).toArray⟩ : ByteArray) = t4 at *
  generalize ht0 : (⟨#[114, 99]⟩ : ByteArray) = t0 at HHD z0
  have a1 : (9223372036854775807 < t0.size + t1.size) = False := by simp; omega
  have a2 : (9223372036854775807 < t0.size + t1.size + t2.size) = False := by simp; omega
  have a3 : (9223372036854775807 < t0.size + t1.size + t2.size + t3.size) = False := by simp; omega
  have a4 : (9223372036854775807 < t0.size + t1.size + t2.size + t3.size + t4.size) = False := by simp; omega
  clear z0 z1 z2 z3 z4
  go_enter Try.func9, Try.ntmps9
  go_upto_region 1 with fail
  rw [HW.out]
  clear HW
  go_wp2_with (refine wpList_load_row rfl _ _ rfl w.heap.size rfl 26 (rcA R (.slice ao n cap)) (0, 0) _ HR1.out.1 Try.underlying26 rfl HS.out ?_)
  refine (CK.out).mono ?_
  rintro e w2 ⟨rfl, b2⟩
  have d0 := (HR1.out.below b2).seq
  have HB2 := Lib.hid b2
  clear b2
  go_wp2_with fail
  refine (P4.out _).mono ?_
  rintro e w3 ⟨rfl, b3⟩
  have HB3 := Lib.hid (HB2.out.trans (b3.mono HB2.out.size))
  have d33 := (HR1.out.below HB3.out).ps
  clear b3 HB2 d0
  go_wp2_with fail
  refine (P2.out _).mono ?_
  rintro e w4 ⟨rfl, b4⟩
  have HB4 := Lib.hid (HB3.out.trans (b4.mono HB3.out.size))
  clear b4 HB3 d33
  go_upto_region 6 with fail
  refine wp_region_lin_all (S := (fun w' => (convert 52 9 (.slice (some ⟨w.heap.size, 1, none⟩) 32 32)).run Try.prog w' = .ok (.string t3) w')) [(0, true), (1, true), (2, true), (3, true), (4, true), (5, true), (6, true), (7, true), (8, false), (9, false), (10, true), (11, false), (12, true)] (by kernel_rfl) (by kernel_rfl) rfl (by kernel_rfl) ?_ (fun hHeld => ?_)
  · (try dsimp only); exact QR.out _ HB4.out.drew
  have HB5 := Lib.hid HB4.out.drew
  generalize World.drew w4 = w5 at hHeld HB5 ⊢
  refine wpL_calm (o := { dst := some 35, op := Go.Op.move (Go.Operand.tmp 5), type := 9, pos := "record.go:64", after := #[], guard := none }) (v := ?_) rfl (Or.inl ⟨by rfl, ?_⟩) ?_; rotate_left; (focus (intro w hSw; (try dsimp only at hSw); go_simp; (try (with_reducible rfl)); done)); try simp only [Act.put, List.setIfInBounds_toArray, List.set_cons_zero, List.set_cons_succ]
  refine wpL_calm (o := { dst := some 36, op := Go.Op.binOp Go.BinOp.add 9 (Go.Operand.const (Go.Value.string { data := #[114, 99] })) (Go.Operand.tmp 35) 9, type := 9, pos := "record.go:64", after := #[{ on := 0, ground := Go.Ground.data }], guard := none }) (v := ?_) rfl (Or.inl ⟨by rfl, ?_⟩) ?_; rotate_left; (focus (intro w hSw; (try dsimp only at hSw); go_simp; (try (with_reducible rfl)); done)); try simp only [Act.put, List.setIfInBounds_toArray, List.set_cons_zero, List.set_cons_succ]
  refine wpL_calm (o := { dst := some 37, op := Go.Op.move (Go.Operand.tmp 7), type := 9, pos := "record.go:64", after := #[], guard := none }) (v := ?_) rfl (Or.inl ⟨by rfl, ?_⟩) ?_; rotate_left; (focus (intro w hSw; (try dsimp only at hSw); go_simp; (try (with_reducible rfl)); done)); try simp only [Act.put, List.setIfInBounds_toArray, List.set_cons_zero, List.set_cons_succ]
  refine wpL_calm (o := { dst := some 38, op := Go.Op.binOp Go.BinOp.add 9 (Go.Operand.tmp 36) (Go.Operand.tmp 37) 9, type := 9, pos := "record.go:64", after := #[{ on := 1, ground := Go.Ground.data }, { on := 2, ground := Go.Ground.data }], guard := none }) (v := ?_) rfl (Or.inl ⟨by rfl, ?_⟩) ?_; rotate_left; (focus (intro w hSw; (try dsimp only at hSw); go_simp; (try (with_reducible rfl)); done)); try simp only [Act.put, List.setIfInBounds_toArray, List.set_cons_zero, List.set_cons_succ]
  refine wpL_calm (o := { dst := some 39, op := Go.Op.fieldAddr 26 (Go.Operand.tmp 1) 1, type := 0, pos := "record.go:64", after := #[], guard := none }) (v := ?_) rfl (Or.inl ⟨by rfl, ?_⟩) ?_; rotate_left; (focus (intro w hSw; (try dsimp only at hSw); go_simp; (try (with_reducible rfl)); done)); try simp only [Act.put, List.setIfInBounds_toArray, List.set_cons_zero, List.set_cons_succ]
  refine wpL_calm (o := { dst := some 40, op := Go.Op.slice 23 (Go.Operand.tmp 39) none none none, type := 52, pos := "record.go:64", after := #[{ on := 4, ground := Go.Ground.data }], guard := none }) (v := ?_) rfl (Or.inl ⟨by rfl, ?_⟩) ?_; rotate_left; (focus (intro w hSw; (try dsimp only at hSw); go_simp; (try (with_reducible rfl)); done)); try simp only [Act.put, List.setIfInBounds_toArray, List.set_cons_zero, List.set_cons_succ]
  refine wpL_calm (o := { dst := some 41, op := Go.Op.convert 52 9 (Go.Operand.tmp 40), type := 9, pos := "record.go:64", after := #[{ on := 5, ground := Go.Ground.data }], guard := none }) (v := ?_) rfl (Or.inl ⟨by rfl, ?_⟩) ?_; rotate_left; (focus (intro w hSw; (try dsimp only at hSw); go_simp; (try (with_reducible rfl)); done)); try simp only [Act.put, List.setIfInBounds_toArray, List.set_cons_zero, List.set_cons_succ]
  refine wpL_calm (o := { dst := some 42, op := Go.Op.binOp Go.BinOp.add 9 (Go.Operand.tmp 38) (Go.Operand.tmp 41) 9, type := 9, pos := "record.go:64", after := #[{ on := 3, ground := Go.Ground.data }, { on := 6, ground := Go.Ground.data }], guard := none }) (v := ?_) rfl (Or.inl ⟨by rfl, ?_⟩) ?_; rotate_left; (focus (intro w hSw; (try dsimp only at hSw); go_simp; (try (with_reducible rfl)); done)); try simp only [Act.put, List.setIfInBounds_toArray, List.set_cons_zero, List.set_cons_succ]
  refine wpL_loud1 (o := { dst := some 43, op := Go.Op.makeSlice 52 (Go.Operand.const (Go.Value.int Go.IntKind.i64 24)) (Go.Operand.const (Go.Value.int Go.IntKind.i64 24)), type := 52, pos := "record.go:64", after := #[], guard := none }) rfl (fun K hK => ?_)
  go_simp
  refine hK.out _ _ ?_ (fun hHeld => ?_)
  · (try dsimp only); exact QR.out _ (HB5.out.alloc HB5.out.size _)
  clear hK K
  try simp only [Act.put, List.setIfInBounds_toArray, List.set_cons_zero, List.set_cons_succ]
  refine wpL_loud1 (o := { dst := some 44, op := Go.Op.convert 52 9 (Go.Operand.tmp 43), type := 9, pos := "record.go:64", after := #[{ on := 8, ground := Go.Ground.data }], guard := none }) rfl (fun K hK => ?_)
  go_simp
  refine hK.out _ _ ?_ (fun hHeld => ?_)
  · (try dsimp only); exact QR.out _ (HB5.out.alloc HB5.out.size _)
  clear hK K
  try simp only [Act.put, List.setIfInBounds_toArray, List.set_cons_zero, List.set_cons_succ]
  refine wpL_calm (o := { dst := some 45, op := Go.Op.binOp Go.BinOp.add 9 (Go.Operand.tmp 42) (Go.Operand.tmp 44) 9, type := 9, pos := "record.go:64", after := #[{ on := 7, ground := Go.Ground.data }, { on := 9, ground := Go.Ground.data }], guard := none }) (v := ?_) rfl (Or.inl ⟨by rfl, ?_⟩) ?_; rotate_left; (focus (intro w hSw; (try dsimp only at hSw); go_simp; (try (with_reducible rfl)); done)); try simp only [Act.put, List.setIfInBounds_toArray, List.set_cons_zero, List.set_cons_succ]
  refine wpL_loud1 (o := { dst := some 46, op := Go.Op.buildSlice 29 1 #[(0, Go.Operand.tmp 45)], type := 29, pos := "record.go:64", after := #[{ on := 10, ground := Go.Ground.data }], guard := none }) rfl (fun K hK => ?_)
  go_simp
  refine hK.out _ _ ?_ (fun hHeld => ?_)
  · (try dsimp only); exact QR.out _ ((HB5.out.alloc HB5.out.size _).alloc (by have := HB5.out.size; simp; omega) _)
  clear hK K
  try simp only [Act.put, List.setIfInBounds_toArray, List.set_cons_zero, List.set_cons_succ]
  refine wpL_calm (o := { dst := some 9, op := Go.Op.assign (Go.Operand.tmp 46), type := 29, pos := "record.go:64", after := #[{ on := 11, ground := Go.Ground.data }, { on := 0, ground := Go.Ground.phase }, { on := 1, ground := Go.Ground.phase }, { on := 2, ground := Go.Ground.phase }, { on := 3, ground := Go.Ground.phase }, { on := 4, ground := Go.Ground.phase }, { on := 5, ground := Go.Ground.phase }, { on := 6, ground := Go.Ground.phase }, { on := 7, ground := Go.Ground.phase }, { on := 8, ground := Go.Ground.phase }, { on := 9, ground := Go.Ground.phase }, { on := 10, ground := Go.Ground.phase }, { on := 11, ground := Go.Ground.phase }], guard := none }) (v := ?_) rfl (Or.inl ⟨by rfl, ?_⟩) ?_; rotate_left; (focus (intro w hSw; (try dsimp only at hSw); go_simp; (try (with_reducible rfl)); done)); try simp only [Act.put, List.setIfInBounds_toArray, List.set_cons_zero, List.set_cons_succ]
  refine wpL_nil ?_
  refine NoPanic.normal ?_
  clear hHeld hmk hcv QR P2 P4 a1 a2 a3 a4
  have HH2 : Hid (t0 ++ t1 ++ t2 ++ t3 ++ t4 = hdB R) := Lib.hid ((HHD.out _ rfl).symm)
  generalize t0 ++ t1 ++ t2 ++ t3 ++ t4 = hd at *
  obtain rfl := HH2.out
  have hsz5 : (w5.alloc (.cells (madeCells #[.int .u8 0] 24) 5)).heap.size = w5.heap.size + 1 := by simp
  have HO6 : Hid (((w5.alloc (.cells (madeCells #[.int .u8 0] 24) 5)).alloc (.cells #[.string (hdB R)] 9)).ownsRow w1.heap.size 9 1 (.slice (some ⟨w5.heap.size + 1, 0, none⟩) 1 1) 1 (strV (hdsL R 0))) := Lib.hid (by
    have := own_new1 (w5.alloc (.cells (madeCells #[.int .u8 0] 24) 5)) w1.heap.size 9 (.string (hdB R)) (by rw [hsz5]; have := HB5.out.size; omega)
    rw [hsz5] at this
    exact this)
  have HB6 : Hid (Below w1.heap.size w1 ((w5.alloc (.cells (madeCells #[.int .u8 0] 24) 5)).alloc (.cells #[.string (hdB R)] 9))) := Lib.hid ((HB5.out.alloc HB5.out.size _).alloc (by rw [hsz5]; have := HB5.out.size; omega) _)
  clear hsz5 HH2 HHD ht0
  generalize ((w5.alloc (.cells (madeCells #[.int .u8 0] 24) 5)).alloc (.cells #[.string (hdB R)] 9)) = w6 at *
  generalize w5.heap.size + 1 = g9 at *
  have d33 := (HR1.out.below HB6.out).ps
  have hmk : ∀ w, (Instr.makeSlice 53 (.int .i64 0) (.int .i64 (n : Int))).run Try.prog w = .ok (.slice (some ⟨w.heap.size, 0, none⟩) 0 n) (w.alloc (.cells (madeCells #[.int .i64 0] n) 3)) := fun w => by
    have := run_make (P := Try.prog) w 53 3 ii (.int .i64 0) Try.underlying53 hii hi1 .i64 .i64 (0 : Int) (n : Int) (by omega) (by omega) (by rw [hi3]; omega) (by omega)
    rw [hi2, Int.toNat_natCast, Nat.mul_one] at this
    exact this
  go_upto_region 8 with fail
  obtain ⟨w7, HW7, HA7, HB7⟩ : ∃ w7, Hid (w6.alloc (.cells (madeCells #[.int .i64 0] n) 3) = w7) ∧ Hid (w7.ownsRow w6.heap.size 3 1 (.slice (some ⟨w6.heap.size, 0, none⟩) 0 n) 0 (intV ((atsL R.ps).take 0))) ∧ Hid (Below w6.heap.size w6 w7) := ⟨_, Lib.hid rfl, Lib.hid (own_made w6 w6.heap.size 3 (.int .i64 0) n (Nat.le_refl _) (by unfold maxLen; omega)), Lib.hid ((Below.refl _ _).alloc (Nat.le_refl _) _)⟩
  rw [HW7.out]
  have e33 := (HB7.out.cell (p := ⟨w.heap.size, 33, none⟩) (by have := HB6.out.size; show w.heap.size < w6.heap.size; omega)).trans d33
  clear HW7 hmk d33
  go_wp2_with fail
  have E33 := Lib.hid e33
  clear e33
  clear hHeld HB4 HB5 CK HS
  obtain ⟨ps, hps⟩ : ∃ ps, Hid (R.ps = ps) := ⟨_, Lib.hid rfl⟩
  have HPL : Hid (∀ q, layL R = q → layL R = q) := Lib.hid (fun q h => h)
  rw [hps.out] at HP1 HN HOK HA7
  go_loopw [10, 12, 54] (fun x10 x12 x54 wi => ∃ (k : Nat) (va : Value), x54 = .int .i64 (k : Int) ∧ k ≤ n ∧ x10 = va ∧ Hid (wi.ownsRow w6.heap.size 3 1 va k (intV ((atsL ps).take k))) ∧ Hid (Below w6.heap.size w6 wi)) (fun _ _ x _ => n - (intOf x).toNat)
  case atStart => exact ⟨0, _, rfl, by omega, rfl, HA7, HB7⟩
  clear HA7 HB7
  case round =>
    obtain ⟨k, va, rfl, hk, rfl, HA, HBi⟩ := hrel
    by_cases hkn : k < n
    · as_aux_lemma =>
      have hki : (k : Int) < (n : Int) := by omega
      obtain ⟨g, o, rfl, hg, hc⟩ := HP1.out (by rw [HN.out]; omega)
      have hbb : Below w1.heap.size w1 wr := HB6.out.trans (HBi.out.mono HB6.out.size)
      have d0 := (hbb.cell (p := ⟨g, o + k * 2, none⟩) hg).trans (hc k (by rw [HN.out]; exact hkn)).1
      have d1 := (hbb.cell (p := ⟨g, o + k * 2 + 1, none⟩) hg).trans (hc k (by rw [HN.out]; exact hkn)).2
      clear hc hbb
      obtain ⟨a, ha⟩ : ∃ a, Hid (pAt ps k = a) := ⟨_, Lib.hid rfl⟩
      rw [ha.out] at d0
      generalize pB ps k = b at d1
      have HSN : Hid (intV ((atsL ps).take (k + 1)) = intV ((atsL ps).take k) ++ [.int .i64 a]) := Lib.hid (by
        rw [List.take_succ_eq_append_getElem (by rw [atsL_len, HN.out]; exact hkn)]
        have : (atsL ps)[k]'(by rw [atsL_len, HN.out]; exact hkn) = a := by
          rw [← ha.out, ← atsL_get ps k (by rw [HN.out]; exact hkn), List.getD_eq_getElem?_getD, List.getElem?_eq_getElem (by rw [atsL_len, HN.out]; exact hkn)]
          rfl
        rw [this]
        simp [intV])
      obtain ⟨w8, HW8, HB8, e0, hz8⟩ : ∃ w8, Hid (wr.alloc (.cells #[.int .i64 a, .string b] 48) = w8) ∧ Hid (Below wr.heap.size wr w8) ∧ w8.cell? ⟨wr.heap.size, 0, none⟩ = some (.int .i64 a) ∧ wr.heap.size < w8.heap.size := ⟨_, Lib.hid rfl, Lib.hid ((Below.refl _ _).alloc (Nat.le_refl _) _), cell_of_row _ _ 0 _ _ _ (heap_alloc_new _ _), by simp⟩
      have HA8 := Lib.hid (own_keep HA.out HB8.out (Nat.le_refl _))
      have HBB8 : Hid (Below w6.heap.size w6 w8) := Lib.hid (HBi.out.trans (HB8.out.mono HBi.out.size))
      go_upto_region 11 with fail
      rw [HW8.out]
      clear HW8 d0 d1 HA HBi HB8
      go_wp2_with (at_builtin; refine wpList_append_own _ rfl _ _ 53 rfl w6.heap.size 3 ii (.int .i64 0) 1 8 Try.underlying53 hii hi1 hi2 hi3 rfl (by decide) _ k (intV ((atsL ps).take k)) rfl (HA8.out.alloc _) ⟨w8.heap.size, 0, none⟩ 1 1 [.int .i64 a] rfl rfl ?c1 ?c2 (by unfold maxLen; omega) (by omega) (by have := HBB8.out.size; simp; omega) ?_)
      case c1 => exact cell1_at _ _ _
      case c2 => intro u hu; simp at hu; subst hu; rfl
      intro v' w9 hown hg9 _
      have HA9 : Hid (w9.ownsRow w6.heap.size 3 1 v' (k + 1) (intV ((atsL ps).take (k + 1)))) := Lib.hid (by rw [HSN.out]; exact hown)
      have HB9 : Hid (Below w6.heap.size w6 w9) := Lib.hid ((HBB8.out.alloc HBB8.out.size _).grown hg9 (by have := HBB8.out.size; simp; omega) (fun q hq => (HA8.out.lt q hq).1))
      obtain ⟨a', c', rfl⟩ := own_at0 hown
      clear hown hg9 e0
      go_wp2_with fail
      go_roundw
      case rel => exact ⟨k + 1, _, by go_num, by omega, rfl, HA9, HB9⟩
      case measure => simp [intOf]; omega
    · as_aux_lemma =>
      obtain rfl : k = n := by omega
      rcases Nat.eq_zero_or_pos k with hk0 | hk0
      · have HO7 : Hid (wr.ownsRow w1.heap.size 9 1 (.slice (some ⟨g9, 0, none⟩) 1 1) 1 (strV (hdsL R 0))) := Lib.hid (own_keep HO6.out HBi.out (Nat.le_refl _))
        have HB7 : Hid (Below w1.heap.size w1 wr) := Lib.hid (HB6.out.trans (HBi.out.mono HB6.out.size))
        have HLL : Hid (layL R = hdsL R 0) := Lib.hid (by
          unfold layL
          rw [hps.out, HN.out, hk0, List.eq_nil_of_length_eq_zero (HN.out.trans hk0)]
          simp [plN])
        have f33 := (HR1.out.below HB7.out).ps
        obtain ⟨a', c', rfl⟩ := own_at0 HA.out
        subst hk0
        rw [show ((0 : Nat) : Int) = 0 from rfl]
        clear HA HBi HO6 E33 HB6
        go_wp2_with fail
        go_loopw [9, 13] (fun x9 x wi => x = .int .i64 0 ∧ x9 = .slice (some ⟨g9, 0, none⟩) 1 1 ∧ Hid (wi.ownsRow w1.heap.size 9 1 (.slice (some ⟨g9, 0, none⟩) 1 1) 1 (strV (hdsL R 0))) ∧ Hid (Below w1.heap.size w1 wi)) (fun _ _ _ => 0)
        case atStart => exact ⟨rfl, rfl, HO7, HB7⟩
        clear HO7 HB7 f33
        case round =>
          obtain ⟨rfl, rfl, HO7, HB7⟩ := hrel
          have f33 := (HR1.out.below HB7.out).ps
          go_wp2_with fail
          go_loopw [9, 87] (fun x9 x wi => x = .int .i64 0 ∧ x9 = .slice (some ⟨g9, 0, none⟩) 1 1 ∧ Hid (wi.ownsRow w1.heap.size 9 1 (.slice (some ⟨g9, 0, none⟩) 1 1) 1 (strV (hdsL R 0))) ∧ Hid (Below w1.heap.size w1 wi)) (fun _ _ _ => 0)
          case atStart => exact ⟨rfl, rfl, HO7, HB7⟩
          clear HO7 HB7 f33
          case round =>
            obtain ⟨rfl, rfl, HO7, HB7⟩ := hrel
            go_wp2_with fail
            go_ret2
            exact ⟨_, rfl, by rw [HLL.out]; exact own_base HO7.out (by have := HB.out.size; omega), HB.out.trans (HB7.out.mono HB.out.size)⟩
      · obtain ⟨gA, cA, cur, rfl, hgA, hcA, hob, hcur⟩ : ∃ gA cA cur, u10 = .slice (some ⟨gA, 0, none⟩) k cA ∧ w6.heap.size ≤ gA ∧ k ≤ cA ∧ wr.heap[gA]? = some (.cells cur 3 (0, 0)) ∧ ∀ j, j < k → cur[j]? = some (.int .i64 (pAt ps j)) := by
          rcases HA.out.2 with ⟨_, h0⟩ | ⟨g, cap, cur, hv, q1, q2, q3, q4, q5, q6⟩
          · omega
          · refine ⟨g, cap, cur, hv, q1, q3, q2, fun j hj => ?_⟩
            have hx : (intV ((atsL ps).take k))[j]? = some (.int .i64 (pAt ps j)) := by
              rw [List.take_of_length_le (by rw [atsL_len, HN.out]; exact Nat.le_refl _)]
              simp [intV, atsL, pAt, hj, HN.out]
            rw [← q6, List.getElem?_take, Nat.mul_one, if_pos hj, Array.getElem?_toList] at hx
            exact hx
        have HOB := Lib.hid hob
        have HCUR := Lib.hid hcur
        have HO7 : Hid (wr.ownsRow w1.heap.size 9 1 (.slice (some ⟨g9, 0, none⟩) 1 1) 1 (strV (hdsL R 0))) := Lib.hid (own_keep HO6.out HBi.out (Nat.le_refl _))
        have HB7 : Hid (Below w1.heap.size w1 wr) := Lib.hid (HB6.out.trans (HBi.out.mono HB6.out.size))
        have F33 : Hid (wr.cell? ⟨w.heap.size, 33, none⟩ = some (.slice ao k cap)) := Lib.hid (HR1.out.below HB7.out).ps
        have hgA1 : w1.heap.size ≤ gA := by have := HB6.out.size; omega
        clear HA HBi hob hcur HO6 E33 HB6
        go_wp2_with fail
        go_loopw [9, 13, 14] (fun x9 x13 _ wi => ∃ (c : Nat) (v9 : Value), x13 = .int .i64 ((32 * c : Nat) : Int) ∧ c ≤ plN k ∧ x9 = v9 ∧ Hid (wi.ownsRow w1.heap.size 9 1 v9 (c + 1) (strV (hdsL R c))) ∧ Hid (wi.heap[gA]? = some (.cells cur 3 (0, 0))) ∧ Hid (Below w1.heap.size w1 wi)) (fun _ x _ _ => 32 * plN k + 32 - (intOf x).toNat)
        case atStart => exact ⟨0, _, rfl, by omega, rfl, HO7, HOB, HB7⟩
        clear HO7 HOB HB7
        case round =>
          obtain ⟨c, v9, rfl, hc, rfl, HO, HG, HBi⟩ := hrel
          by_cases hcn : c < plN k
          · have hlo : 32 * c < k := by unfold plN at hcn; omega
            obtain ⟨lo, hlo'⟩ : ∃ lo, Hid (32 * c = lo) := ⟨_, Lib.hid rfl⟩
            rw [hlo'.out] at hlo ⊢
            obtain ⟨hi, hhi⟩ : ∃ hi, Hid (min (lo + 32) k = hi) := ⟨_, Lib.hid rfl⟩
            have hlt : (lo : Int) < (k : Int) := by omega
            have y1 : IntKind.i64.wrap ((lo : Int) + 32) = (lo : Int) + 32 := IntWalk.i64_in _ (by omega)
            have hmin : (if (k : Int) < (lo : Int) + 32 then (k : Int) else (lo : Int) + 32) = (hi : Int) := by have := hhi.out; split <;> omega
            have x1 : (lo : Int) ≤ (hi : Int) := by have := hhi.out; omega
            have x2 : (hi : Int) ≤ (cA : Int) := by have := hhi.out; omega
            have x3 : ¬ cA = lo := by omega
            have HRW := Lib.hid (rowBlk_any ps c (some ⟨gA, lo, none⟩) (hi - lo) (hi - lo) wr HOK.out (by rw [chunk_len, HN.out]; have := hhi.out; have := hlo'.out; omega) (fun _ => ⟨gA, lo, rfl, (Array.getElem?_eq_some_iff.1 HG.out).1, fun i hi2 => by
              rw [chunk_get ps c i (by rw [chunk_len, HN.out]; have := hhi.out; have := hlo'.out; omega), hlo'.out]
              rw [cell_of_row _ _ _ _ _ _ HG.out]
              exact HCUR.out _ (by have := hhi.out; omega)⟩))
            go_wp2_with fail
            refine (HRW.out).mono ?_
            rintro e w10 ⟨rfl, b10⟩
            have HO10 := Lib.hid (own_keep HO.out b10 (Nat.le_refl _))
            have HG10 := Lib.hid ((b10.block gA (Array.getElem?_eq_some_iff.1 HG.out).1).trans HG.out)
            have HB10 := Lib.hid (HBi.out.trans (b10.mono HBi.out.size))
            have HSN : Hid (strV (hdsL R (c + 1)) = strV (hdsL R c) ++ [.string (atsB ps c)]) := Lib.hid (by rw [hdsL_succ, hps.out, strV_app]; rfl)
            have hc64 : c < 64 := by unfold plN at hcn; omega
            clear b10 HO HG HBi HRW
            generalize atsB ps c = ab at *
            go_wp2_with (at_builtin; refine wpList_append_own _ rfl _ _ 29 rfl w1.heap.size 9 is (.string ⟨#[]⟩) 1 16 Try.underlying29 his hs1 hs2 hs3 rfl (by decide) _ (c + 1) (strV (hdsL R c)) rfl (HO10.out.alloc _) ⟨w10.heap.size, 0, none⟩ 1 1 [.string ab] rfl rfl ?c1 ?c2 (by unfold maxLen; omega) (by omega) (by have := HB10.out.size; simp; omega) ?_)
            case c1 => exact cell1_at _ _ _
            case c2 => intro u hu; simp at hu; subst hu; rfl
            intro v' w11 hown hg11 _
            have HO11 : Hid (w11.ownsRow w1.heap.size 9 1 v' (c + 1 + 1) (strV (hdsL R (c + 1)))) := Lib.hid (by rw [HSN.out]; exact hown)
            have HB11 : Hid (Below w1.heap.size w1 w11) := Lib.hid ((HB10.out.alloc HB10.out.size _).grown hg11 (by have := HB10.out.size; simp; omega) (fun q hq => (HO10.out.lt q hq).1))
            have HG11 : Hid (w11.heap[gA]? = some (.cells cur 3 (0, 0))) := Lib.hid (by
              have hl := (Array.getElem?_eq_some_iff.1 HG10.out).1
              rw [hg11.block gA (by simp; omega) (fun e => own_ne_type HO10.out HG10.out (by decide) e.symm)]
              exact (heap_alloc_old w10 _ hl).trans HG10.out)
            obtain ⟨a', c', rfl⟩ := own_at0 hown
            clear hown hg11 HO10 HG10 HB10
            have HNX : Hid (lo + 32 = 32 * (c + 1)) := Lib.hid (by have := hlo'.out; omega)
            go_wp2_with fail
            go_roundw
            case rel => exact ⟨c + 1, _, by rw [← HNX.out]; go_num, by omega, rfl, HO11, HG11, HB11⟩
            case measure => simp [intOf]; have := hlo'.out; omega
          · obtain rfl : c = plN k := by omega
            obtain ⟨pk, hpk⟩ : ∃ pk, Hid (plN k = pk) := ⟨_, Lib.hid rfl⟩
            have HLN : Hid (lenN k = pk + 1 + k) := Lib.hid (by have := hpk.out; unfold plN at this; unfold lenN; omega)
            have HLL : Hid (∀ j, j = k → strV (hdsL R pk) ++ strV ((ps.map (·.2)).take j) = strV (layL R)) := Lib.hid (fun j hj => by
              subst hj
              unfold layL
              rw [hps.out, HN.out, hpk.out, strV_app, List.take_of_length_le (by rw [List.length_map, HN.out]; exact Nat.le_refl _)])
            obtain ⟨X, hX⟩ : ∃ X, Hid (32 * pk = X) := ⟨_, Lib.hid rfl⟩
            have hge : ¬ (X : Int) < (k : Int) := by have := hpk.out; have := hX.out; unfold plN at *; omega
            have hpk64 : pk ≤ 64 := by have := hpk.out; unfold plN at this; omega
            rw [hpk.out] at HO ⊢
            rw [hX.out]
            have f33 := (HR1.out.below HBi.out).ps
            have HOZ : Hid (wr.ownsRow w1.heap.size 9 1 u9 (pk + 1 + 0) (strV (hdsL R pk) ++ strV ((ps.map (·.2)).take 0))) := Lib.hid (by rw [List.take_zero]; show wr.ownsRow _ _ _ _ (pk + 1) (_ ++ []); rw [List.append_nil]; exact HO.out)
            clear HO HG hc hcn F33
            go_wp2_with fail
            clear hge f33
            go_loopw [9, 16, 87] (fun x9 _ x87 wi => ∃ (j : Nat) (v9 : Value), x87 = .int .i64 (j : Int) ∧ j ≤ k ∧ x9 = v9 ∧ Hid (wi.ownsRow w1.heap.size 9 1 v9 (pk + 1 + j) (strV (hdsL R pk) ++ strV ((ps.map (·.2)).take j))) ∧ Hid (Below w1.heap.size w1 wi)) (fun _ _ x _ => k - (intOf x).toNat)
            case atStart => exact ⟨0, _, rfl, by omega, rfl, HOZ, HBi⟩
            clear HOZ HBi
            case round =>
              obtain ⟨j, v9, rfl, hj, rfl, HO, HBi⟩ := hrel
              by_cases hjk : j < k
              · have hji : (j : Int) < (k : Int) := by omega
                obtain ⟨g, o, rfl, hg, hcc⟩ := HP1.out (by rw [HN.out]; omega)
                have d0 := (HBi.out.cell (p := ⟨g, o + j * 2, none⟩) hg).trans (hcc j (by rw [HN.out]; exact hjk)).1
                have d1 := (HBi.out.cell (p := ⟨g, o + j * 2 + 1, none⟩) hg).trans (hcc j (by rw [HN.out]; exact hjk)).2
                clear hcc
                obtain ⟨b, hb⟩ : ∃ b, Hid (pB ps j = b) := ⟨_, Lib.hid rfl⟩
                rw [hb.out] at d1
                generalize pAt ps j = a at d0
                have HSN : Hid (strV (hdsL R pk) ++ strV ((ps.map (·.2)).take (j + 1)) = strV (hdsL R pk) ++ (strV ((ps.map (·.2)).take j) ++ [.string b])) := Lib.hid (by
                  rw [List.take_succ_eq_append_getElem (by rw [List.length_map, HN.out]; exact hjk), strV_app]
                  have : (ps.map (·.2))[j]'(by rw [List.length_map, HN.out]; exact hjk) = b := by
                    rw [← hb.out]
                    unfold pB
                    rw [List.getElem_map, List.getElem?_eq_getElem (by rw [HN.out]; exact hjk)]
                    rfl
                  rw [this]
                  rfl)
                obtain ⟨w8, HW8, HB8, e1, hz8⟩ : ∃ w8, Hid (wr.alloc (.cells #[.int .i64 a, .string b] 48) = w8) ∧ Hid (Below wr.heap.size wr w8) ∧ w8.cell? ⟨wr.heap.size, 1, none⟩ = some (.string b) ∧ wr.heap.size < w8.heap.size := ⟨_, Lib.hid rfl, Lib.hid ((Below.refl _ _).alloc (Nat.le_refl _) _), cell_of_row _ _ 1 _ _ _ (heap_alloc_new _ _), by simp⟩
                have HO8 := Lib.hid (own_keep HO.out HB8.out (Nat.le_refl _))
                have HBB8 : Hid (Below w1.heap.size w1 w8) := Lib.hid (HBi.out.trans (HB8.out.mono HBi.out.size))
                go_upto_region 21 with fail
                rw [HW8.out]
                clear HW8 d0 d1 HO HBi HB8
                go_wp2_with (at_builtin; refine wpList_append_own _ rfl _ _ 29 rfl w1.heap.size 9 is (.string ⟨#[]⟩) 1 16 Try.underlying29 his hs1 hs2 hs3 rfl (by decide) _ (pk + 1 + j) (strV (hdsL R pk) ++ strV ((ps.map (·.2)).take j)) rfl (HO8.out.alloc _) ⟨w8.heap.size, 0, none⟩ 1 1 [.string b] rfl rfl ?c1 ?c2 (by unfold maxLen; omega) (by omega) (by have := HBB8.out.size; simp; omega) ?_)
                try case c1 => exact cell1_at _ _ _
                case c2 => first | rfl | exact cell1_at _ _ _ | (intro u hu; simp at hu; subst hu; rfl)
                intro v' w9 hown hg9 _
                have HO9 : Hid (w9.ownsRow w1.heap.size 9 1 v' (pk + 1 + (j + 1)) (strV (hdsL R pk) ++ strV ((ps.map (·.2)).take (j + 1)))) := Lib.hid (by rw [HSN.out]; first | exact hown | (rw [← List.append_assoc]; exact hown))
                have HB9 : Hid (Below w1.heap.size w1 w9) := Lib.hid ((HBB8.out.alloc HBB8.out.size _).grown hg9 (by have := HBB8.out.size; simp; omega) (fun q hq => (HO8.out.lt q hq).1))
                obtain ⟨a', c', rfl⟩ := own_at0 hown
                clear hown hg9 e1
                go_wp2_with fail
                go_roundw
                case rel => exact ⟨j + 1, _, by go_num, by omega, rfl, HO9, HB9⟩
                case measure => simp [intOf]; omega
              · obtain rfl : j = k := by omega
                have HOF : Hid (wr.ownsRow w1.heap.size 9 1 u9 (lenN j) (strV (layL R))) := Lib.hid (by rw [HLN.out, ← HLL.out j rfl]; exact HO.out)
                obtain ⟨a', c', rfl⟩ := own_at0 HO.out
                go_wp2_with fail
                go_ret2
                exact ⟨_, rfl, own_base HOF.out (by have := HB.out.size; omega), HB.out.trans (HBi.out.mono HB.out.size)⟩
end Go.Proofs.Ythhaadcpenlnkaa
