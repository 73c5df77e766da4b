/- Slots: the law's same. -/
import Derived.Test.YthhgodfgigcacaaSlU
namespace Go.Proofs.Ythhgodfgigcacaa
open Go.RowKit Go.Deep
set_option linter.unusedVariables false
set_option linter.unusedSimpArgs false
theorem at_out {n : Nat} (T : Nat → Sl) {i : Int} (hi : i < 0 ∨ (n : Int) ≤ i) : atS n T i = zeS ∧ atE n T i = 3 := by
  have h : refE n T i false = 3 := by unfold refE; rw [if_pos (by rcases hi with h | h; exact Or.inl h; exact Or.inr (Or.inl h))]
  unfold atS atE
  rw [if_pos h, if_pos h]
  exact ⟨rfl, rfl⟩
set_option maxRecDepth 100000 in
set_option maxHeartbeats 16000000 in
theorem lsame_any (B b n : Nat) (v : Value) (T : Nat → Sl) (w : World) (hT : TAt w b n T) (hL : LAt w B v n T) (h8 : n ≤ 8) (hI : Inv n T) : Calls Try.prog 12 #[.pointer (some ⟨b, 0, none⟩), v] w fun e w' => e = .returned (.bool true) ∧ Below w.heap.size w w' := by
  obtain ⟨ao, c, rfl⟩ := own_form hL
  have HT := Lib.hid hT
  have HL := Lib.hid hL
  have HI := Lib.hid hI
  clear hT hL hI
  go_enter Try.func12, Try.ntmps12
  go_wp2_with fail
  go_loopw [5, 6, 7, 8, 9] (fun s5 s6 s7 _ _ wi => ∃ (i x y : Nat), s7 = .int .i64 (i : Int) ∧ s5 = .int .i64 (x : Int) ∧ s6 = .int .i64 (y : Int) ∧ i ≤ n ∧ x ≤ i ∧ y ≤ i ∧ Hid (cntO (fun s : Sl => s.busy) T i = x) ∧ Hid (cntO (fun s : Sl => !decide (s = frS)) T i = y) ∧ Hid (Below w.heap.size w wi)) (fun _ _ s7 _ _ _ => n - (intOf s7).toNat)
  case atStart => exact ⟨0, 0, 0, rfl, rfl, rfl, by omega, by omega, by omega, Lib.hid rfl, Lib.hid rfl, Lib.hid (Below.refl _ _)⟩
  case round =>
    obtain ⟨i, x, y, rfl, rfl, rfl, hi, hx, hy, HX, HY, HB⟩ := hrel
    by_cases hlt : i < n
    · have hli : (i : Int) < (n : Int) := by omega
      have CAT := Lib.hid (atT_any b n T (i : Int) wr (HT.out.below HB.out) h8)
      rw [(at_in T hlt).1, (at_in T hlt).2] at CAT
      obtain ⟨r, rfl, hr, hBr, hc⟩ := (HL.out.below HB.out).at_ (by omega)
      have l0 : wr.cell? ⟨r, i * 10, none⟩ = some (.int .i64 (T i).g) := hc i hlt 0 (by omega)
      have l1 : wr.cell? ⟨r, i * 10 + 1, none⟩ = some (.bool (T i).v0) := hc i hlt 1 (by omega)
      have l2 : wr.cell? ⟨r, i * 10 + 2, none⟩ = some (.bool (T i).v1) := hc i hlt 2 (by omega)
      have l3 : wr.cell? ⟨r, i * 10 + 3, none⟩ = some (.bool (T i).v2) := hc i hlt 3 (by omega)
      have l4 : wr.cell? ⟨r, i * 10 + 4, none⟩ = some (.bool (T i).v3) := hc i hlt 4 (by omega)
      have l5 : wr.cell? ⟨r, i * 10 + 5, none⟩ = some (.bool (T i).d0) := hc i hlt 5 (by omega)
      have l6 : wr.cell? ⟨r, i * 10 + 6, none⟩ = some (.bool (T i).d1) := hc i hlt 6 (by omega)
      have l7 : wr.cell? ⟨r, i * 10 + 7, none⟩ = some (.bool (T i).d2) := hc i hlt 7 (by omega)
      have l8 : wr.cell? ⟨r, i * 10 + 8, none⟩ = some (.bool (T i).d3) := hc i hlt 8 (by omega)
      have l9 : wr.cell? ⟨r, i * 10 + 9, none⟩ = some (.int .i64 (T i).l) := hc i hlt 9 (by omega)
      have HX2 : Hid (cntO (fun s : Sl => s.busy) T (i + 1) = x + (T i).busy.toNat) := Lib.hid (by rw [← HX.out]; rfl)
      have HY2 : Hid (cntO (fun s : Sl => !decide (s = frS)) T (i + 1) = y + (!decide (T i = frS)).toNat) := Lib.hid (by rw [← HY.out]; rfl)
      have hneg := HI.out.neg i
      obtain ⟨s, hs⟩ : ∃ s, T i = s := ⟨_, rfl⟩
      rw [hs] at CAT l0 l1 l2 l3 l4 l5 l6 l7 l8 l9 HX2 HY2 hneg
      rw [hneg] at HY2
      clear hs hc hneg HX HY
      unfold slA at CAT
      have hE : ∀ w, (Op.equalIn 10000 44 (.agg #[.int .i64 s.g, .bool s.v0, .bool s.v1, .bool s.v2, .bool s.v3, .bool s.d0, .bool s.d1, .bool s.d2, .bool s.d3, .int .i64 s.l]) (.agg #[.int .i64 s.g, .bool s.v0, .bool s.v1, .bool s.v2, .bool s.v3, .bool s.d0, .bool s.d1, .bool s.d2, .bool s.d3, .int .i64 s.l])).run Try.prog w = .ok (decide (s = s)) w := eqAt_slot s s
      rw [decide_eq_true rfl] at hE
      have CB := Lib.hid (rbusy_any s)
      go_wp2_with fail
      refine CAT.out.mono ?_
      rintro e w6 ⟨rfl, b6⟩
      have HB6 := Lib.hid (HB.out.trans (b6.mono HB.out.size))
      have k10 := ten_below b6 (⟨l0, l1, l2, l3, l4, l5, l6, l7, l8, l9⟩ : wr.cell? ⟨r, i * 10, none⟩ = some (.int .i64 s.g) ∧ wr.cell? ⟨r, i * 10 + 1, none⟩ = some (.bool s.v0) ∧ wr.cell? ⟨r, i * 10 + 2, none⟩ = some (.bool s.v1) ∧ wr.cell? ⟨r, i * 10 + 3, none⟩ = some (.bool s.v2) ∧ wr.cell? ⟨r, i * 10 + 4, none⟩ = some (.bool s.v3) ∧ wr.cell? ⟨r, i * 10 + 5, none⟩ = some (.bool s.d0) ∧ wr.cell? ⟨r, i * 10 + 6, none⟩ = some (.bool s.d1) ∧ wr.cell? ⟨r, i * 10 + 7, none⟩ = some (.bool s.d2) ∧ wr.cell? ⟨r, i * 10 + 8, none⟩ = some (.bool s.d3) ∧ wr.cell? ⟨r, i * 10 + 9, none⟩ = some (.int .i64 s.l))
      clear CAT HB l0 l1 l2 l3 l4 l5 l6 l7 l8 l9 b6
      have hrow : (w6.alloc (.cells #[.int .i64 s.g, .bool s.v0, .bool s.v1, .bool s.v2, .bool s.v3, .bool s.d0, .bool s.d1, .bool s.d2, .bool s.d3, .int .i64 s.l] 44)).heap[w6.heap.size]? = some (.cells #[.int .i64 s.g, .bool s.v0, .bool s.v1, .bool s.v2, .bool s.v3, .bool s.d0, .bool s.d1, .bool s.d2, .bool s.d3, .int .i64 s.l] 44 (0, 0)) := heap_alloc_new _ _
      have hba : Below w6.heap.size w6 (w6.alloc (.cells #[.int .i64 s.g, .bool s.v0, .bool s.v1, .bool s.v2, .bool s.v3, .bool s.d0, .bool s.d1, .bool s.d2, .bool s.d3, .int .i64 s.l] 44)) := (Below.refl _ _).alloc (Nat.le_refl _) _
      have HB7 := Lib.hid (HB6.out.trans (hba.mono HB6.out.size))
      have m10 := ten_below hba k10
      go_upto_region 6 with fail
      obtain ⟨w7, hw7⟩ : ∃ w7, w6.alloc (.cells #[.int .i64 s.g, .bool s.v0, .bool s.v1, .bool s.v2, .bool s.v3, .bool s.d0, .bool s.d1, .bool s.d2, .bool s.d3, .int .i64 s.l] 44) = w7 := ⟨_, rfl⟩
      rw [hw7] at hrow HB7 m10 ⊢
      obtain ⟨cc, hcc⟩ : ∃ c, w6.heap.size = c := ⟨_, rfl⟩
      rw [hcc] at hrow ⊢
      clear hba k10 hw7 hcc HB6
      have x10 : w7.cell? ⟨cc, 0, none⟩ = some (.int .i64 s.g) ∧ w7.cell? ⟨cc, 1, none⟩ = some (.bool s.v0) ∧ w7.cell? ⟨cc, 2, none⟩ = some (.bool s.v1) ∧ w7.cell? ⟨cc, 3, none⟩ = some (.bool s.v2) ∧ w7.cell? ⟨cc, 4, none⟩ = some (.bool s.v3) ∧ w7.cell? ⟨cc, 5, none⟩ = some (.bool s.d0) ∧ w7.cell? ⟨cc, 6, none⟩ = some (.bool s.d1) ∧ w7.cell? ⟨cc, 7, none⟩ = some (.bool s.d2) ∧ w7.cell? ⟨cc, 8, none⟩ = some (.bool s.d3) ∧ w7.cell? ⟨cc, 9, none⟩ = some (.int .i64 s.l) := ⟨row_cell22 hrow 0 _ rfl, row_cell22 hrow 1 _ rfl, row_cell22 hrow 2 _ rfl, row_cell22 hrow 3 _ rfl, row_cell22 hrow 4 _ rfl, row_cell22 hrow 5 _ rfl, row_cell22 hrow 6 _ rfl, row_cell22 hrow 7 _ rfl, row_cell22 hrow 8 _ rfl, row_cell22 hrow 9 _ rfl⟩
      clear hrow
      refine wp_region_lin (S := (fun w' => (w'.cell? ⟨cc, 0, none⟩ = some (.int .i64 s.g) ∧ w'.cell? ⟨cc, 1, none⟩ = some (.bool s.v0) ∧ w'.cell? ⟨cc, 2, none⟩ = some (.bool s.v1) ∧ w'.cell? ⟨cc, 3, none⟩ = some (.bool s.v2) ∧ w'.cell? ⟨cc, 4, none⟩ = some (.bool s.v3) ∧ w'.cell? ⟨cc, 5, none⟩ = some (.bool s.d0) ∧ w'.cell? ⟨cc, 6, none⟩ = some (.bool s.d1) ∧ w'.cell? ⟨cc, 7, none⟩ = some (.bool s.d2) ∧ w'.cell? ⟨cc, 8, none⟩ = some (.bool s.d3) ∧ w'.cell? ⟨cc, 9, none⟩ = some (.int .i64 s.l)) ∧ (w'.cell? ⟨r, i * 10, none⟩ = some (.int .i64 s.g) ∧ w'.cell? ⟨r, i * 10 + 1, none⟩ = some (.bool s.v0) ∧ w'.cell? ⟨r, i * 10 + 2, none⟩ = some (.bool s.v1) ∧ w'.cell? ⟨r, i * 10 + 3, none⟩ = some (.bool s.v2) ∧ w'.cell? ⟨r, i * 10 + 4, none⟩ = some (.bool s.v3) ∧ w'.cell? ⟨r, i * 10 + 5, none⟩ = some (.bool s.d0) ∧ w'.cell? ⟨r, i * 10 + 6, none⟩ = some (.bool s.d1) ∧ w'.cell? ⟨r, i * 10 + 7, none⟩ = some (.bool s.d2) ∧ w'.cell? ⟨r, i * 10 + 8, none⟩ = some (.bool s.d3) ∧ w'.cell? ⟨r, i * 10 + 9, none⟩ = some (.int .i64 s.l)))) [(0, true), (1, true), (2, true), (3, true), (4, true), (5, true), (6, true), (7, true), (8, true), (9, true)] (by kernel_rfl) (by kernel_rfl) rfl (by kernel_rfl) ?_ (fun hHeld => ?_)
      · (try dsimp only); exact ⟨x10, m10⟩
      refine wpL_calm (o := { dst := some 26, op := Go.Op.load 44 (Go.Operand.tmp 8), type := 44, pos := "law.go:102", after := #[], guard := none }) (v := ?_) rfl (Or.inl ⟨by rfl, ?_⟩) ?_; rotate_left; (focus (intro w hSw; (try dsimp only at hSw); go_simp; (try (with_reducible rfl)); done)); try simp only [Act.put, List.setIfInBounds_toArray, List.set_cons_zero, List.set_cons_succ]
      refine wpL_calm (o := { dst := some 27, op := Go.Op.move (Go.Operand.tmp 1), type := 28, pos := "law.go:102", after := #[], guard := none }) (v := ?_) rfl (Or.inl ⟨by rfl, ?_⟩) ?_; rotate_left; (focus (intro w hSw; (try dsimp only at hSw); go_simp; (try (with_reducible rfl)); done)); try simp only [Act.put, List.setIfInBounds_toArray, List.set_cons_zero, List.set_cons_succ]
      refine wpL_calm (o := { dst := some 28, op := Go.Op.move (Go.Operand.tmp 7), type := 3, pos := "law.go:102", after := #[], guard := none }) (v := ?_) rfl (Or.inl ⟨by rfl, ?_⟩) ?_; rotate_left; (focus (intro w hSw; (try dsimp only at hSw); go_simp; (try (with_reducible rfl)); done)); try simp only [Act.put, List.setIfInBounds_toArray, List.set_cons_zero, List.set_cons_succ]
      refine wpL_calm (o := { dst := some 29, op := Go.Op.indexAddr 28 (Go.Operand.tmp 27) (Go.Operand.tmp 28), type := 0, pos := "law.go:102", after := #[{ on := 1, ground := Go.Ground.data }, { on := 2, ground := Go.Ground.data }], guard := none }) (v := ?_) rfl (Or.inl ⟨by rfl, ?_⟩) ?_; rotate_left; (focus (intro w hSw; (try dsimp only at hSw); go_simp; (try (with_reducible rfl)); done)); try simp only [Act.put, List.setIfInBounds_toArray, List.set_cons_zero, List.set_cons_succ]
      refine wpL_calm (o := { dst := some 30, op := Go.Op.load 44 (Go.Operand.tmp 29), type := 44, pos := "law.go:102", after := #[{ on := 3, ground := Go.Ground.data }], guard := none }) (v := ?_) rfl (Or.inl ⟨by rfl, ?_⟩) ?_; rotate_left; (focus (intro w hSw; (try dsimp only at hSw); go_simp; (try (with_reducible rfl)); done)); try simp only [Act.put, List.setIfInBounds_toArray, List.set_cons_zero, List.set_cons_succ]
      refine wpL_calm (o := { dst := some 31, op := Go.Op.binOp Go.BinOp.neq 44 (Go.Operand.tmp 26) (Go.Operand.tmp 30) 44, type := 4, pos := "law.go:102", after := #[{ on := 0, ground := Go.Ground.data }, { on := 4, ground := Go.Ground.data }], guard := none }) (v := ?_) rfl (Or.inl ⟨by rfl, ?_⟩) ?_; rotate_left; (focus (intro w hSw; (try dsimp only at hSw); go_simp; (try (with_reducible rfl)); done)); try simp only [Act.put, List.setIfInBounds_toArray, List.set_cons_zero, List.set_cons_succ]
      refine wpL_calm (o := { dst := some 32, op := Go.Op.move (Go.Operand.tmp 31), type := 4, pos := "law.go:102", after := #[{ on := 5, ground := Go.Ground.data }], guard := none }) (v := ?_) rfl (Or.inl ⟨by rfl, ?_⟩) ?_; rotate_left; (focus (intro w hSw; (try dsimp only at hSw); go_simp; (try (with_reducible rfl)); done)); try simp only [Act.put, List.setIfInBounds_toArray, List.set_cons_zero, List.set_cons_succ]
      refine wpL_calm (o := { dst := some 33, op := Go.Op.move (Go.Operand.tmp 9), type := 24, pos := "law.go:102", after := #[{ on := 6, ground := Go.Ground.guard }], guard := some (6, false) }) (v := ?_) rfl (Or.inl ⟨by rfl, ?_⟩) ?_; rotate_left; (focus (intro w hSw; (try dsimp only at hSw); go_simp; (try (with_reducible rfl)); done)); try simp only [Act.put, List.setIfInBounds_toArray, List.set_cons_zero, List.set_cons_succ]
      refine wpL_calm (o := { dst := some 34, op := Go.Op.binOp Go.BinOp.neq 24 (Go.Operand.tmp 33) (Go.Operand.const (Go.Value.int Go.IntKind.i64 0)) 24, type := 4, pos := "law.go:102", after := #[{ on := 7, ground := Go.Ground.data }, { on := 6, ground := Go.Ground.guard }], guard := some (6, false) }) (v := ?_) rfl (Or.inl ⟨by rfl, ?_⟩) ?_; rotate_left; (focus (intro w hSw; (try dsimp only at hSw); go_simp; (try (with_reducible rfl)); done)); try simp only [Act.put, List.setIfInBounds_toArray, List.set_cons_zero, List.set_cons_succ]
      refine wpL_calm (o := { dst := some 35, op := Go.Op.pick (Go.Operand.tmp 32) (Go.Operand.const (Go.Value.bool true)) (Go.Operand.tmp 34), type := 4, pos := "law.go:102", after := #[{ on := 6, ground := Go.Ground.data }, { on := 8, ground := Go.Ground.data }], guard := none }) (v := ?_) rfl (Or.inl ⟨by rfl, ?_⟩) ?_; rotate_left; (focus (intro w hSw; (try dsimp only at hSw); go_simp; (try (with_reducible rfl)); done)); try simp only [Act.put, List.setIfInBounds_toArray, List.set_cons_zero, List.set_cons_succ]
      refine wpL_nil ?_
      refine NoPanic.normal ?_
      have HB8 := Lib.hid HB7.out.drew
      obtain ⟨l0, l1, l2, l3, l4, l5, l6, l7, l8, l9⟩ := (show w7.drew.cell? ⟨r, i * 10, none⟩ = some (.int .i64 s.g) ∧ w7.drew.cell? ⟨r, i * 10 + 1, none⟩ = some (.bool s.v0) ∧ w7.drew.cell? ⟨r, i * 10 + 2, none⟩ = some (.bool s.v1) ∧ w7.drew.cell? ⟨r, i * 10 + 3, none⟩ = some (.bool s.v2) ∧ w7.drew.cell? ⟨r, i * 10 + 4, none⟩ = some (.bool s.v3) ∧ w7.drew.cell? ⟨r, i * 10 + 5, none⟩ = some (.bool s.d0) ∧ w7.drew.cell? ⟨r, i * 10 + 6, none⟩ = some (.bool s.d1) ∧ w7.drew.cell? ⟨r, i * 10 + 7, none⟩ = some (.bool s.d2) ∧ w7.drew.cell? ⟨r, i * 10 + 8, none⟩ = some (.bool s.d3) ∧ w7.drew.cell? ⟨r, i * 10 + 9, none⟩ = some (.int .i64 s.l) from m10)
      clear m10 x10 hHeld HB7 hE
      generalize World.drew w7 = w8 at *
      have CB8 := Lib.hid (CB.out w8)
      go_wp2_with fail
      refine CB8.out.mono ?_
      rintro e w9 ⟨rfl, b9⟩
      have HB9 := Lib.hid (HB8.out.trans (b9.mono HB8.out.size))
      have g0 := (b9.cell (p := ⟨r, i * 10, none⟩) (block_lt_of_cell l0)).trans l0
      clear b9 CB CB8 HB8 l0 l1 l2 l3 l4 l5 l6 l7 l8 l9
      have hcase : (s.busy = true ∧ s.g < 0) ∨ (s.busy = true ∧ ¬ s.g < 0) ∨ (s.busy = false ∧ s.g < 0) ∨ (s.busy = false ∧ ¬ s.g < 0) := by by_cases hg : s.g < 0 <;> cases s.busy <;> simp [hg]
      rcases hcase with ⟨e1, e2⟩ | ⟨e1, e2⟩ | ⟨e1, e2⟩ | ⟨e1, e2⟩
      all_goals
        rw [e1] at HX2 ⊢
        first | rw [decide_eq_true e2] at HY2 | rw [decide_eq_false e2] at HY2
        go_wp2_with fail
        go_roundw
        case rel => exact ⟨i + 1, _, _, by go_num, by first | rfl | go_num, by first | rfl | go_num, by omega, by first | omega | (simp; omega), by first | omega | (simp; omega), by first | exact HX2 | (exact Lib.hid (by rw [HX2.out]; rfl)), by first | exact HY2 | (exact Lib.hid (by rw [HY2.out]; rfl)), HB9⟩
        case measure => simp [intOf]; omega
    · obtain rfl : i = n := by omega
      have hli : ¬ (i : Int) < (i : Int) := by omega
      have CA1 := Lib.hid (fun w' (hb : Below w.heap.size w w') => atT_any b i T (i : Int) w' (HT.out.below hb) h8)
      have CA2 := Lib.hid (fun w' (hb : Below w.heap.size w w') => atT_any b i T (-1) w' (HT.out.below hb) h8)
      rw [(at_out T (Or.inr (Int.le_refl (i : Int)))).1, (at_out T (Or.inr (Int.le_refl (i : Int)))).2] at CA1
      rw [(at_out T (Or.inl (by decide))).1, (at_out T (Or.inl (by decide))).2] at CA2
      rw [zeS_A] at CA1 CA2
      have CD := Lib.hid (fun w' (hb : Below w.heap.size w w') => dirtyT_any b i T w' (HT.out.below hb) h8)
      have CL := Lib.hid (fun w' (hb : Below w.heap.size w w') => lenT_any b i T w' (HT.out.below hb) h8)
      have CB := Lib.hid (fun w' (hb : Below w.heap.size w w') => bytesT_any b i T w' (HT.out.below hb) (fun k _ => HI.out.ok k))
      have CRB := Lib.hid (fun w' (hb : Below w.heap.size w w') => rbytes_any B i (.slice ao i c) T w' (HL.out.below hb) h8 HI.out.ok)
      rw [HX.out] at CD
      rw [HY.out] at CL
      rw [text_eq HI.out h8] at CB
      obtain ⟨z, hz⟩ : ∃ z, (⟨(zpadL (byT T i) 48).toArray⟩ : ByteArray) = z := ⟨_, rfl⟩
      rw [hz] at CB CRB
      clear hz HX HY HT HL HI
      go_wp2_with fail
      refine (CA1.out _ HB.out).mono ?_
      rintro e w1 ⟨rfl, b1⟩
      have HB1 := Lib.hid ((HB.out.trans (b1.mono HB.out.size)).alloc (HB.out.trans (b1.mono HB.out.size)).size (.cells #[.int .i64 0, .bool false, .bool false, .bool false, .bool false, .bool false, .bool false, .bool false, .bool false, .int .i64 0] 44))
      clear b1 CA1 HB
      go_wp2_with fail
      refine (CA2.out _ HB1.out).mono ?_
      rintro e w2 ⟨rfl, b2⟩
      have HB2 := Lib.hid ((HB1.out.trans (b2.mono HB1.out.size)).alloc (HB1.out.trans (b2.mono HB1.out.size)).size (.cells #[.int .i64 0, .bool false, .bool false, .bool false, .bool false, .bool false, .bool false, .bool false, .bool false, .int .i64 0] 44))
      clear b2 CA2 HB1
      go_wp2_with fail
      refine (CD.out _ HB2.out).mono ?_
      rintro e w3 ⟨rfl, b3⟩
      have HB3 := Lib.hid (HB2.out.trans (b3.mono HB2.out.size))
      clear b3 CD HB2
      go_wp2_with fail
      refine (CL.out _ HB3.out).mono ?_
      rintro e w4 ⟨rfl, b4⟩
      have HB4 := Lib.hid (HB3.out.trans (b4.mono HB3.out.size))
      clear b4 CL HB3
      go_wp2_with fail
      refine (CB.out _ HB4.out).mono ?_
      rintro e w5 ⟨rfl, b5⟩
      have HB5 := Lib.hid (HB4.out.trans (b5.mono HB4.out.size))
      clear b5 CB HB4
      go_wp2_with fail
      refine (CRB.out _ HB5.out).mono ?_
      rintro e w6 ⟨rfl, b6⟩
      have HB6 := Lib.hid (HB5.out.trans (b6.mono HB5.out.size))
      clear b6 CRB HB5
      go_wp2_with fail
      go_ret
      exact ⟨rfl, HB6.out⟩
end Go.Proofs.Ythhgodfgigcacaa
