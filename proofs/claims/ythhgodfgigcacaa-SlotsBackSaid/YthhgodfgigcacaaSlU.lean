/- Slots: the reference's Bytes, its walk. -/
import Derived.Test.YthhgodfgigcacaaSlT
namespace Go.Proofs.Ythhgodfgigcacaa
open Go.RowKit Go.Deep
set_option linter.unusedVariables false
set_option linter.unusedSimpArgs false
def bvL (l : List UInt8) : List Value := l.map fun b => Value.int .u8 (b.toNat : Int)
theorem bvL_app (a b : List UInt8) : bvL (a ++ b) = bvL a ++ bvL b := by unfold bvL; rw [List.map_append]
theorem info_u8D : (Try.prog.info? 5).map (fun i => (i.zero, i.size, i.bytes)) = some (some (.int .u8 0), 1, 1) := by kernel_rfl
set_option maxRecDepth 100000 in
set_option maxHeartbeats 16000000 in
theorem rbytes_any (B n : Nat) (v : Value) (X : Nat → Sl) (w : World) (hL : LAt w B v n X) (h8 : n ≤ 8) (hok : ∀ k, SlOk (X k)) : Calls Try.prog 32 #[v] w fun e w' => e = .returned (.string ⟨(zpadL (byT X n) 48).toArray⟩) ∧ Below w.heap.size w w' := by
  obtain ⟨ao, c, rfl⟩ := own_form hL
  have HL := Lib.hid hL
  have HOK := Lib.hid hok
  clear hL hok
  obtain ⟨i0, hi0, hz0, hz1, hz2⟩ := info_parts22 info_u8D
  go_enter Try.func32, Try.ntmps32
  go_wp2_with fail
  go_loopw [3, 4, 5, 6, 7] (fun s3 s4 _ _ _ wi => ∃ i : Nat, s4 = .int .i64 (i : Int) ∧ i ≤ n ∧ Hid (wi.ownsRow w.heap.size 5 1 s3 (4 * i) (bvL (byT X i))) ∧ Hid (Below w.heap.size w wi)) (fun _ s4 _ _ _ _ => n - (intOf s4).toNat)
  case atStart => exact ⟨0, rfl, by omega, Lib.hid (World.ownsRow_nil _ _ _ _), Lib.hid (Below.refl _ _)⟩
  case round =>
    obtain ⟨i, rfl, hi, HO, HB⟩ := hrel
    by_cases hlt : i < n
    · have hli : (i : Int) < (n : Int) := by omega
      obtain ⟨r, rfl, hrw, hBr, hcw⟩ := HL.out.at_ (by omega)
      have o0 : w.cell? ⟨r, i * 10, none⟩ = some (.int .i64 (X i).g) := hcw i hlt 0 (by omega)
      have o9 : w.cell? ⟨r, i * 10 + 9, none⟩ = some (.int .i64 (X i).l) := hcw i hlt 9 (by omega)
      have hc : ∀ k, k < n → ∀ j, j < 10 → wr.cell? ⟨r, k * 10 + j, none⟩ = some (slC (X k) j) := fun k hk j hj => (HB.out.cell (p := ⟨r, k * 10 + j, none⟩) hrw).trans (hcw k hk j hj)
      have hb : r < wr.heap.size := Nat.lt_of_lt_of_le hrw HB.out.size
      clear hcw
      obtain ⟨w1, hw1⟩ : ∃ w1, wr = w1 := ⟨_, rfl⟩
      rw [hw1] at hc HO HB hb ⊢
      clear hw1
      have x0 : w1.cell? ⟨r, i * 10, none⟩ = some (.int .i64 (X i).g) := hc i hlt 0 (by omega)
      have x1 : w1.cell? ⟨r, i * 10 + 1, none⟩ = some (.bool (X i).v0) := hc i hlt 1 (by omega)
      have x2 : w1.cell? ⟨r, i * 10 + 2, none⟩ = some (.bool (X i).v1) := hc i hlt 2 (by omega)
      have x3 : w1.cell? ⟨r, i * 10 + 3, none⟩ = some (.bool (X i).v2) := hc i hlt 3 (by omega)
      have x4 : w1.cell? ⟨r, i * 10 + 4, none⟩ = some (.bool (X i).v3) := hc i hlt 4 (by omega)
      have x5 : w1.cell? ⟨r, i * 10 + 5, none⟩ = some (.bool (X i).d0) := hc i hlt 5 (by omega)
      have x6 : w1.cell? ⟨r, i * 10 + 6, none⟩ = some (.bool (X i).d1) := hc i hlt 6 (by omega)
      have x7 : w1.cell? ⟨r, i * 10 + 7, none⟩ = some (.bool (X i).d2) := hc i hlt 7 (by omega)
      have x8 : w1.cell? ⟨r, i * 10 + 8, none⟩ = some (.bool (X i).d3) := hc i hlt 8 (by omega)
      have x9 : w1.cell? ⟨r, i * 10 + 9, none⟩ = some (.int .i64 (X i).l) := hc i hlt 9 (by omega)
      obtain ⟨g1, g2, l1, l2⟩ := HOK.out i
      have hsnoc : byT X (i + 1) = byT X i ++ byS (X i) := rfl
      have hbv := byS_vals (HOK.out i)
      have hb256 := bitN_lt (X i) 4 (by omega)
      obtain ⟨s, hs⟩ : ∃ s, X i = s := ⟨_, rfl⟩
      rw [hs] at o0 o9 x0 x1 x2 x3 x4 x5 x6 x7 x8 x9 g1 g2 l1 l2 hsnoc hbv hb256
      have HSN := Lib.hid hsnoc
      have HBV := Lib.hid hbv
      clear hc hs hsnoc hbv
      have hri : (r : Nat) < w1.heap.size := hb
      obtain ⟨a3, m3, c3, rfl⟩ := ownsRow_slice HO.out
      go_wp2_with fail
      go_loopw [5, 6, 7] (fun s5 s6 s7 wi => ∃ k : Nat, s7 = .int .i64 (k : Int) ∧ s5 = .int .i64 (bitN s k : Int) ∧ s6 = .int .i64 ((2 ^ k : Nat) : Int) ∧ k ≤ 4 ∧ w1 = wi) (fun _ _ s7 _ => 4 - (intOf s7).toNat)
      case atStart => exact ⟨0, rfl, rfl, rfl, by omega, rfl⟩
      case round =>
        obtain ⟨k, rfl, rfl, rfl, hk, rfl⟩ := hrel
        by_cases hk4 : k < 4
        · rcases (show k = 0 ∨ k = 1 ∨ k = 2 ∨ k = 3 by omega) with rfl | rfl | rfl | rfl
          · rw [show ((0 : Nat) : Int) = 0 from rfl]
            have hn : bitN s (0 + 1) = bitN s 0 + b2n s.v0 16 + b2n s.d0 1 := rfl
            have hlt2 : bitN s 0 < 256 := bitN_lt s 0 (by omega)
            obtain ⟨y, hy⟩ : ∃ y, bitN s 0 = y := ⟨_, rfl⟩
            rw [hy] at hn hlt2 ⊢
            have HN := Lib.hid hn
            have rv := x1
            have rd := x5
            have rv' : w1.cell? ⟨r, i * 10 + 1 + 0, none⟩ = some (.bool s.v0) := x1
            have rd' : w1.cell? ⟨r, i * 10 + 5 + 0, none⟩ = some (.bool s.d0) := x5
            clear hy hn
            have hc4 : (s.v0 = false ∧ s.d0 = false) ∨ (s.v0 = false ∧ s.d0 = true) ∨ (s.v0 = true ∧ s.d0 = false) ∨ (s.v0 = true ∧ s.d0 = true) := by cases s.v0 <;> cases s.d0 <;> simp
            rcases hc4 with ⟨e1, e2⟩ | ⟨e1, e2⟩ | ⟨e1, e2⟩ | ⟨e1, e2⟩
            all_goals
              rw [e1] at rv rv'
              rw [e2] at rd rd'
              have HN2 : Hid (bitN s (0 + 1) = y + b2n s.v0 16 + b2n s.d0 1) := HN
              rw [e1, e2] at HN2
              go_wp2_with fail
              go_roundw
              case rel => exact ⟨0 + 1, rfl, by rw [HN2.out]; simp [b2n]; try omega, by simp, by omega, by first | rfl | trivial⟩
              case measure => simp [intOf]
          · rw [show ((1 : Nat) : Int) = 1 from rfl]
            have hn : bitN s (1 + 1) = bitN s 1 + b2n s.v1 32 + b2n s.d1 2 := rfl
            have hlt2 : bitN s 1 < 256 := bitN_lt s 1 (by omega)
            obtain ⟨y, hy⟩ : ∃ y, bitN s 1 = y := ⟨_, rfl⟩
            rw [hy] at hn hlt2 ⊢
            have HN := Lib.hid hn
            have rv := x2
            have rd := x6
            have rv' : w1.cell? ⟨r, i * 10 + 1 + 1, none⟩ = some (.bool s.v1) := x2
            have rd' : w1.cell? ⟨r, i * 10 + 5 + 1, none⟩ = some (.bool s.d1) := x6
            clear hy hn
            have hc4 : (s.v1 = false ∧ s.d1 = false) ∨ (s.v1 = false ∧ s.d1 = true) ∨ (s.v1 = true ∧ s.d1 = false) ∨ (s.v1 = true ∧ s.d1 = true) := by cases s.v1 <;> cases s.d1 <;> simp
            rcases hc4 with ⟨e1, e2⟩ | ⟨e1, e2⟩ | ⟨e1, e2⟩ | ⟨e1, e2⟩
            all_goals
              rw [e1] at rv rv'
              rw [e2] at rd rd'
              have HN2 : Hid (bitN s (1 + 1) = y + b2n s.v1 32 + b2n s.d1 2) := HN
              rw [e1, e2] at HN2
              go_wp2_with fail
              go_roundw
              case rel => exact ⟨1 + 1, rfl, by rw [HN2.out]; simp [b2n]; try omega, by simp, by omega, by first | rfl | trivial⟩
              case measure => simp [intOf]
          · rw [show ((2 : Nat) : Int) = 2 from rfl]
            have hn : bitN s (2 + 1) = bitN s 2 + b2n s.v2 64 + b2n s.d2 4 := rfl
            have hlt2 : bitN s 2 < 256 := bitN_lt s 2 (by omega)
            obtain ⟨y, hy⟩ : ∃ y, bitN s 2 = y := ⟨_, rfl⟩
            rw [hy] at hn hlt2 ⊢
            have HN := Lib.hid hn
            have rv := x3
            have rd := x7
            have rv' : w1.cell? ⟨r, i * 10 + 1 + 2, none⟩ = some (.bool s.v2) := x3
            have rd' : w1.cell? ⟨r, i * 10 + 5 + 2, none⟩ = some (.bool s.d2) := x7
            clear hy hn
            have hc4 : (s.v2 = false ∧ s.d2 = false) ∨ (s.v2 = false ∧ s.d2 = true) ∨ (s.v2 = true ∧ s.d2 = false) ∨ (s.v2 = true ∧ s.d2 = true) := by cases s.v2 <;> cases s.d2 <;> simp
            rcases hc4 with ⟨e1, e2⟩ | ⟨e1, e2⟩ | ⟨e1, e2⟩ | ⟨e1, e2⟩
            all_goals
              rw [e1] at rv rv'
              rw [e2] at rd rd'
              have HN2 : Hid (bitN s (2 + 1) = y + b2n s.v2 64 + b2n s.d2 4) := HN
              rw [e1, e2] at HN2
              go_wp2_with fail
              go_roundw
              case rel => exact ⟨2 + 1, rfl, by rw [HN2.out]; simp [b2n]; try omega, by simp, by omega, by first | rfl | trivial⟩
              case measure => simp [intOf]
          · rw [show ((3 : Nat) : Int) = 3 from rfl]
            have hn : bitN s (3 + 1) = bitN s 3 + b2n s.v3 128 + b2n s.d3 8 := rfl
            have hlt2 : bitN s 3 < 256 := bitN_lt s 3 (by omega)
            obtain ⟨y, hy⟩ : ∃ y, bitN s 3 = y := ⟨_, rfl⟩
            rw [hy] at hn hlt2 ⊢
            have HN := Lib.hid hn
            have rv := x4
            have rd := x8
            have rv' : w1.cell? ⟨r, i * 10 + 1 + 3, none⟩ = some (.bool s.v3) := x4
            have rd' : w1.cell? ⟨r, i * 10 + 5 + 3, none⟩ = some (.bool s.d3) := x8
            clear hy hn
            have hc4 : (s.v3 = false ∧ s.d3 = false) ∨ (s.v3 = false ∧ s.d3 = true) ∨ (s.v3 = true ∧ s.d3 = false) ∨ (s.v3 = true ∧ s.d3 = true) := by cases s.v3 <;> cases s.d3 <;> simp
            rcases hc4 with ⟨e1, e2⟩ | ⟨e1, e2⟩ | ⟨e1, e2⟩ | ⟨e1, e2⟩
            all_goals
              rw [e1] at rv rv'
              rw [e2] at rd rd'
              have HN2 : Hid (bitN s (3 + 1) = y + b2n s.v3 128 + b2n s.d3 8) := HN
              rw [e1, e2] at HN2
              go_wp2_with fail
              go_roundw
              case rel => exact ⟨3 + 1, rfl, by rw [HN2.out]; simp [b2n]; try omega, by simp, by omega, by first | rfl | trivial⟩
              case measure => simp [intOf]
        · obtain rfl : k = 4 := by omega
          rw [show ((4 : Nat) : Int) = 4 from rfl]
          have e1 : IntKind.i64.wrap (s.g + 1) = s.g + 1 := IntWalk.i64_in _ (by omega)
          have e2 : IntKind.u8.wrap (s.g + 1) = s.g + 1 := wrap_u8 _ (by omega) (by omega)
          have e3 : IntKind.u8.wrap (bitN s 4 : Int) = (bitN s 4 : Int) := wrap_u8 _ (by omega) (by omega)
          have e4 : IntKind.u8.wrap s.l = s.l := wrap_u8 _ (by omega) (by omega)
          have hlenE := byT_len X i
          go_upto_region 15 with fail
          refine wp_region_lin (S := (fun w' => w'.cell? ⟨r, i * 10, none⟩ = some (.int .i64 s.g) ∧ w'.cell? ⟨r, i * 10 + 9, none⟩ = some (.int .i64 s.l))) [(0, true), (1, true), (2, true), (3, true), (4, true), (5, true), (6, true), (7, true), (8, true), (9, true), (10, true), (11, true), (12, true), (13, true), (14, true), (15, true), (16, false), (17, false), (18, true)] (by kernel_rfl) (by kernel_rfl) rfl (by kernel_rfl) ?_ (fun hHeld => ?_)
          · (try dsimp only); exact ⟨x0, x9⟩
          have HBD : Hid (Below w.heap.size w w1.drew) := Lib.hid HB.out.drew
          have HOD : Hid (w1.drew.ownsRow w.heap.size 5 1 (.slice a3 m3 c3) (4 * i) (bvL (byT X i))) := Lib.hid HO.out
          have hrd : r < w1.drew.heap.size := hri
          clear x0 x1 x2 x3 x4 x5 x6 x7 x8 x9 HO HB
          generalize World.drew w1 = w2 at hHeld HBD HOD hrd ⊢
          refine wpL_calm (o := { dst := some 41, op := Go.Op.move (Go.Operand.tmp 3), type := 73, pos := "ref.go:60", after := #[], guard := none }) (v := ?_) rfl (Or.inl ⟨by rfl, ?_⟩) ?_; rotate_left; (focus (intro w hSw; (try dsimp only at hSw); go_simp; (try (with_reducible rfl)); done)); try simp only [Act.put, List.setIfInBounds_toArray, List.set_cons_zero, List.set_cons_succ]
          refine wpL_calm (o := { dst := some 42, op := Go.Op.move (Go.Operand.tmp 0), type := 28, pos := "ref.go:60", after := #[], guard := none }) (v := ?_) rfl (Or.inl ⟨by rfl, ?_⟩) ?_; rotate_left; (focus (intro w hSw; (try dsimp only at hSw); go_simp; (try (with_reducible rfl)); done)); try simp only [Act.put, List.setIfInBounds_toArray, List.set_cons_zero, List.set_cons_succ]
          refine wpL_calm (o := { dst := some 43, op := Go.Op.move (Go.Operand.tmp 4), type := 3, pos := "ref.go:60", after := #[], guard := none }) (v := ?_) rfl (Or.inl ⟨by rfl, ?_⟩) ?_; rotate_left; (focus (intro w hSw; (try dsimp only at hSw); go_simp; (try (with_reducible rfl)); done)); try simp only [Act.put, List.setIfInBounds_toArray, List.set_cons_zero, List.set_cons_succ]
          refine wpL_calm (o := { dst := some 44, op := Go.Op.indexAddr 28 (Go.Operand.tmp 42) (Go.Operand.tmp 43), type := 0, pos := "ref.go:60", after := #[{ on := 1, ground := Go.Ground.data }, { on := 2, ground := Go.Ground.data }], guard := none }) (v := ?_) rfl (Or.inl ⟨by rfl, ?_⟩) ?_; rotate_left; (focus (intro w hSw; (try dsimp only at hSw); go_simp; (try (with_reducible rfl)); done)); try simp only [Act.put, List.setIfInBounds_toArray, List.set_cons_zero, List.set_cons_succ]
          refine wpL_calm (o := { dst := some 45, op := Go.Op.fieldAddr 44 (Go.Operand.tmp 44) 0, type := 0, pos := "ref.go:60", after := #[{ on := 3, ground := Go.Ground.data }], guard := none }) (v := ?_) rfl (Or.inl ⟨by rfl, ?_⟩) ?_; rotate_left; (focus (intro w hSw; (try dsimp only at hSw); go_simp; (try (with_reducible rfl)); done)); try simp only [Act.put, List.setIfInBounds_toArray, List.set_cons_zero, List.set_cons_succ]
          refine wpL_calm (o := { dst := some 46, op := Go.Op.load 3 (Go.Operand.tmp 45), type := 3, pos := "ref.go:60", after := #[{ on := 4, ground := Go.Ground.data }], guard := none }) (v := ?_) rfl (Or.inl ⟨by rfl, ?_⟩) ?_; rotate_left; (focus (intro w hSw; (try dsimp only at hSw); go_simp; (try (with_reducible rfl)); done)); try simp only [Act.put, List.setIfInBounds_toArray, List.set_cons_zero, List.set_cons_succ]
          refine wpL_calm (o := { dst := some 47, op := Go.Op.binOp Go.BinOp.add 3 (Go.Operand.tmp 46) (Go.Operand.const (Go.Value.int Go.IntKind.i64 1)) 3, type := 3, pos := "ref.go:60", after := #[{ on := 5, ground := Go.Ground.data }], guard := none }) (v := ?_) rfl (Or.inl ⟨by rfl, ?_⟩) ?_; rotate_left; (focus (intro w hSw; (try dsimp only at hSw); go_simp; (try (with_reducible rfl)); done)); try simp only [Act.put, List.setIfInBounds_toArray, List.set_cons_zero, List.set_cons_succ]
          refine wpL_calm (o := { dst := some 48, op := Go.Op.convert 3 5 (Go.Operand.tmp 47), type := 5, pos := "ref.go:60", after := #[{ on := 6, ground := Go.Ground.data }], guard := none }) (v := ?_) rfl (Or.inl ⟨by rfl, ?_⟩) ?_; rotate_left; (focus (intro w hSw; (try dsimp only at hSw); go_simp; (try (with_reducible rfl)); done)); try simp only [Act.put, List.setIfInBounds_toArray, List.set_cons_zero, List.set_cons_succ]
          refine wpL_calm (o := { dst := some 49, op := Go.Op.move (Go.Operand.tmp 5), type := 3, pos := "ref.go:60", after := #[], guard := none }) (v := ?_) rfl (Or.inl ⟨by rfl, ?_⟩) ?_; rotate_left; (focus (intro w hSw; (try dsimp only at hSw); go_simp; (try (with_reducible rfl)); done)); try simp only [Act.put, List.setIfInBounds_toArray, List.set_cons_zero, List.set_cons_succ]
          refine wpL_calm (o := { dst := some 50, op := Go.Op.convert 3 5 (Go.Operand.tmp 49), type := 5, pos := "ref.go:60", after := #[{ on := 8, ground := Go.Ground.data }], guard := none }) (v := ?_) rfl (Or.inl ⟨by rfl, ?_⟩) ?_; rotate_left; (focus (intro w hSw; (try dsimp only at hSw); go_simp; (try (with_reducible rfl)); done)); try simp only [Act.put, List.setIfInBounds_toArray, List.set_cons_zero, List.set_cons_succ]
          refine wpL_calm (o := { dst := some 51, op := Go.Op.move (Go.Operand.tmp 0), type := 28, pos := "ref.go:60", after := #[], guard := none }) (v := ?_) rfl (Or.inl ⟨by rfl, ?_⟩) ?_; rotate_left; (focus (intro w hSw; (try dsimp only at hSw); go_simp; (try (with_reducible rfl)); done)); try simp only [Act.put, List.setIfInBounds_toArray, List.set_cons_zero, List.set_cons_succ]
          refine wpL_calm (o := { dst := some 52, op := Go.Op.move (Go.Operand.tmp 4), type := 3, pos := "ref.go:60", after := #[], guard := none }) (v := ?_) rfl (Or.inl ⟨by rfl, ?_⟩) ?_; rotate_left; (focus (intro w hSw; (try dsimp only at hSw); go_simp; (try (with_reducible rfl)); done)); try simp only [Act.put, List.setIfInBounds_toArray, List.set_cons_zero, List.set_cons_succ]
          refine wpL_calm (o := { dst := some 53, op := Go.Op.indexAddr 28 (Go.Operand.tmp 51) (Go.Operand.tmp 52), type := 0, pos := "ref.go:60", after := #[{ on := 10, ground := Go.Ground.data }, { on := 11, ground := Go.Ground.data }], guard := none }) (v := ?_) rfl (Or.inl ⟨by rfl, ?_⟩) ?_; rotate_left; (focus (intro w hSw; (try dsimp only at hSw); go_simp; (try (with_reducible rfl)); done)); try simp only [Act.put, List.setIfInBounds_toArray, List.set_cons_zero, List.set_cons_succ]
          refine wpL_calm (o := { dst := some 54, op := Go.Op.fieldAddr 44 (Go.Operand.tmp 53) 3, type := 0, pos := "ref.go:60", after := #[{ on := 12, ground := Go.Ground.data }], guard := none }) (v := ?_) rfl (Or.inl ⟨by rfl, ?_⟩) ?_; rotate_left; (focus (intro w hSw; (try dsimp only at hSw); go_simp; (try (with_reducible rfl)); done)); try simp only [Act.put, List.setIfInBounds_toArray, List.set_cons_zero, List.set_cons_succ]
          refine wpL_calm (o := { dst := some 55, op := Go.Op.load 3 (Go.Operand.tmp 54), type := 3, pos := "ref.go:60", after := #[{ on := 13, ground := Go.Ground.data }], guard := none }) (v := ?_) rfl (Or.inl ⟨by rfl, ?_⟩) ?_; rotate_left; (focus (intro w hSw; (try dsimp only at hSw); go_simp; (try (with_reducible rfl)); done)); try simp only [Act.put, List.setIfInBounds_toArray, List.set_cons_zero, List.set_cons_succ]
          refine wpL_calm (o := { dst := some 56, op := Go.Op.convert 3 5 (Go.Operand.tmp 55), type := 5, pos := "ref.go:60", after := #[{ on := 14, ground := Go.Ground.data }], guard := none }) (v := ?_) rfl (Or.inl ⟨by rfl, ?_⟩) ?_; rotate_left; (focus (intro w hSw; (try dsimp only at hSw); go_simp; (try (with_reducible rfl)); done)); try simp only [Act.put, List.setIfInBounds_toArray, List.set_cons_zero, List.set_cons_succ]
          refine wpL_loud1 (o := { dst := some 57, op := Go.Op.buildSlice 73 4 #[(0, Go.Operand.tmp 48), (1, Go.Operand.tmp 50), (2, Go.Operand.tmp 56), (3, Go.Operand.const (Go.Value.int Go.IntKind.u8 0))], type := 73, pos := "ref.go:60", after := #[{ on := 7, ground := Go.Ground.data }, { on := 9, ground := Go.Ground.data }, { on := 15, ground := Go.Ground.data }], guard := none }) rfl (fun K hK => ?_)
          (go_simp; have hba : Below w2.heap.size w2 (w2.alloc (.cells #[.int .u8 (s.g + 1), .int .u8 (bitN s 4 : Int), .int .u8 s.l, .int .u8 0] 5)) := (Below.refl _ _).alloc (Nat.le_refl _) _; have y0 := (hba.cell (p := ⟨r, i * 10, none⟩) hrd).trans hHeld.1; have y9 := (hba.cell (p := ⟨r, i * 10 + 9, none⟩) hrd).trans hHeld.2; have hrow : (w2.alloc (.cells #[.int .u8 (s.g + 1), .int .u8 (bitN s 4 : Int), .int .u8 s.l, .int .u8 0] 5)).heap[w2.heap.size]? = some (.cells #[.int .u8 (s.g + 1), .int .u8 (bitN s 4 : Int), .int .u8 s.l, .int .u8 0] 5 (0, 0)) := heap_alloc_new _ _; have HO3 := Lib.hid (HOD.out.alloc (.cells #[.int .u8 (s.g + 1), .int .u8 (bitN s 4 : Int), .int .u8 s.l, .int .u8 0] 5)); have HB3 := Lib.hid (HBD.out.alloc HBD.out.size (.cells #[.int .u8 (s.g + 1), .int .u8 (bitN s 4 : Int), .int .u8 s.l, .int .u8 0] 5)); have hrd3 : r < (w2.alloc (.cells #[.int .u8 (s.g + 1), .int .u8 (bitN s 4 : Int), .int .u8 s.l, .int .u8 0] 5)).heap.size := Nat.lt_of_lt_of_le hrd hba.size; clear hba HOD HBD; generalize (w2.alloc (.cells #[.int .u8 (s.g + 1), .int .u8 (bitN s 4 : Int), .int .u8 s.l, .int .u8 0] 5)) = w3 at *; generalize w2.heap.size = cc at *)
          refine hK.out _ _ ?_ (fun hHeld => ?_)
          · (try dsimp only); exact ⟨y0, y9⟩
          clear hK K
          try simp only [Act.put, List.setIfInBounds_toArray, List.set_cons_zero, List.set_cons_succ]
          refine wpL_loud1 (o := { dst := some 58, op := Go.Op.call { callee := Go.Callee.builtin Go.Builtin.append, args := #[Go.Operand.tmp 41, Go.Operand.tmp 57], argTypes := #[73, 73] }, type := 73, pos := "ref.go:60", after := #[{ on := 0, ground := Go.Ground.data }, { on := 16, ground := Go.Ground.data }], guard := none }) rfl (fun K hK => ?_)
          (rw [if_pos (by rfl)]; refine wp_append_own _ _ _ _ rfl w.heap.size 5 i0 (.int .u8 0) 1 1 Try.underlying73 hi0 hz0 hz1 hz2 rfl (by decide) _ (4 * i) (bvL (byT X i)) rfl HO3.out ⟨cc, 0, none⟩ 4 4 [.int .u8 (s.g + 1), .int .u8 (bitN s 4 : Int), .int .u8 s.l, .int .u8 0] rfl rfl (fun j u hu => by rw [Addr.add_mid, Nat.zero_add]; exact row_cell22 hrow j u (by simpa using hu)) (fun u hu => by simp at hu; rcases hu with rfl | rfl | rfl | rfl <;> rfl) (by unfold maxLen; omega) (by omega) HB3.out.size ?_; intro v5 w5 O5 G5 _; have HB5 := Lib.hid (HB3.out.grown G5 HB3.out.size (fun j e => (HO3.out.lt j e).1)); have HO5 : Hid (w5.ownsRow w.heap.size 5 1 v5 (4 * (i + 1)) (bvL (byT X (i + 1)))) := Lib.hid (by rw [HSN.out, bvL_app, show 4 * (i + 1) = 4 * i + 4 by omega]; unfold bvL; unfold bvL at O5; rw [HBV.out]; exact O5); obtain ⟨a5, m5, c5, rfl⟩ := ownsRow_slice O5; clear O5)
          try go_wp2_with fail
          refine hK.out _ _ ?_ (fun hHeld => ?_)
          · (try dsimp only); exact ⟨(HB5.out.cell (p := ⟨r, i * 10, none⟩) hrw).trans o0, (HB5.out.cell (p := ⟨r, i * 10 + 9, none⟩) hrw).trans o9⟩
          clear hK K
          try simp only [Act.put, List.setIfInBounds_toArray, List.set_cons_zero, List.set_cons_succ]
          refine wpL_calm (o := { dst := some 3, op := Go.Op.assign (Go.Operand.tmp 58), type := 73, pos := "ref.go:60", after := #[{ on := 17, ground := Go.Ground.data }, { on := 17, ground := Go.Ground.chain }, { on := 0, ground := Go.Ground.phase }, { on := 1, ground := Go.Ground.phase }, { on := 2, ground := Go.Ground.phase }, { on := 3, ground := Go.Ground.phase }, { on := 4, ground := Go.Ground.phase }, { on := 5, ground := Go.Ground.phase }, { on := 6, ground := Go.Ground.phase }, { on := 7, ground := Go.Ground.phase }, { on := 8, ground := Go.Ground.phase }, { on := 9, ground := Go.Ground.phase }, { on := 10, ground := Go.Ground.phase }, { on := 11, ground := Go.Ground.phase }, { on := 12, ground := Go.Ground.phase }, { on := 13, ground := Go.Ground.phase }, { on := 14, ground := Go.Ground.phase }, { on := 15, ground := Go.Ground.phase }, { on := 16, ground := Go.Ground.phase }, { on := 17, ground := Go.Ground.phase }], guard := none }) (v := ?_) rfl (Or.inl ⟨by rfl, ?_⟩) ?_; rotate_left; (focus (intro w hSw; (try dsimp only at hSw); go_simp; (try (with_reducible rfl)); done)); try simp only [Act.put, List.setIfInBounds_toArray, List.set_cons_zero, List.set_cons_succ]
          refine wpL_nil ?_
          refine NoPanic.normal ?_
          clear hHeld y0 y9 hrow HO3 HB3 G5
          go_wp2_with fail
          go_roundw
          case rel => exact ⟨i + 1, by go_num, by omega, HO5, HB5⟩
          case measure => simp [intOf]; omega
    · obtain rfl : i = n := by omega
      have hli : ¬ (i : Int) < (i : Int) := by omega
      obtain ⟨a3, m3, c3, rfl⟩ := ownsRow_slice HO.out
      have hlenE := byT_len X i
      have HO' : wr.ownsRow w.heap.size 5 1 (.slice a3 m3 c3) (byT X i).length ((byT X i).map fun b => .int .u8 (b.toNat : Int)) := by rw [hlenE]; exact HO.out
      have hcv := conv_owned (P := Try.prog) (dst := 9) Try.underlying73 Try.underlying5 Try.underlying9 HO'
      have CU := Lib.hid (full_any ⟨(byT X i).toArray⟩ 48 wr (by omega) (by rw [bytes_size]; omega))
      rw [show ((48 : Nat) : Int) = 48 from rfl] at CU
      have e0 : ((⟨(byT X i).toArray⟩ : ByteArray)).data.toList = byT X i := by simp
      rw [e0] at CU
      clear HO' e0
      obtain ⟨z, hz⟩ : ∃ z, (⟨(byT X i).toArray⟩ : ByteArray) = z := ⟨_, rfl⟩
      rw [hz] at hcv CU
      clear hz
      go_wp2_with fail
      refine CU.out.mono ?_
      rintro e w2 ⟨rfl, b2⟩
      have HB2 := Lib.hid (HB.out.trans (b2.mono HB.out.size))
      clear b2 CU hcv
      go_wp2_with fail
      go_ret
      exact ⟨rfl, HB2.out⟩
end Go.Proofs.Ythhgodfgigcacaa
