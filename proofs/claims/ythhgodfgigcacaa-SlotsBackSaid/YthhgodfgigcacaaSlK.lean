/- Package slots: Bytes. -/
import Derived.Test.YthhgodfgigcacaaSlJ
import Derived.Test.YthhgodfgigcacaaBeF
import Derived.Deep.MidRow
namespace Go.Proofs.Ythhgodfgigcacaa
open Go.RowKit Go.Deep
set_option linter.unusedVariables false
set_option linter.unusedSimpArgs false
/-- Numbers of a slot that may be. -/
structure SlOk (s : Sl) : Prop where
  g1 : -1 ≤ s.g
  g2 : s.g ≤ 15
  l1 : 0 ≤ s.l
  l2 : s.l ≤ 3
def numS (s : Sl) : List Int := [s.g + 1, (bitN s 4 : Int), s.l, 0]
def txS (s : Sl) : List UInt8 := rowL 1 (numS s)
def txT (T : Nat → Sl) : Nat → List UInt8
  | 0 => []
  | k + 1 => txT T k ++ txS (T k)
theorem txS_len (s : Sl) : (txS s).length ≤ 32 := by
  unfold txS rowL
  split
  · exact rowB_length 1 (numS s)
  · exact Nat.zero_le _
theorem txT_len (T : Nat → Sl) (k : Nat) : (txT T k).length ≤ 32 * k := by
  induction k with
  | zero => exact Nat.zero_le _
  | succ k ih =>
    unfold txT
    rw [List.length_append]
    have := txS_len (T k)
    omega
def rowS (T : Nat → Sl) : List Value := (List.range 80).map (fun j => slC (T (j / 10)) (j % 10))
theorem rowS_length (T : Nat → Sl) : (rowS T).length = 80 := by unfold rowS; simp
theorem rowS_ext (T : Nat → Sl) (k : Nat) (hk : k < 8) : (rowS T).toArray.extract (k * 10) (k * 10 + 10) = slA (T k) := by
  rcases (show k = 0 ∨ k = 1 ∨ k = 2 ∨ k = 3 ∨ k = 4 ∨ k = 5 ∨ k = 6 ∨ k = 7 by omega) with rfl | rfl | rfl | rfl | rfl | rfl | rfl | rfl <;> kernel_rfl
theorem size_slot : ∀ w, (sizeOf 44).run Try.prog w = .ok 10 w := fun w => by kernel_rfl
theorem index_slots (T : Nat → Sl) (k : Nat) (hk : k < 8) (w : World) : (Instr.index 57 (.agg (rowS T).toArray) (.int .i64 (k : Int))).run Try.prog w = .ok (.agg #[.int .i64 (T k).g, .bool (T k).v0, .bool (T k).v1, .bool (T k).v2, .bool (T k).v3, .bool (T k).d0, .bool (T k).d1, .bool (T k).d2, .bool (T k).d3, .int .i64 (T k).l]) w := by
  have px : ∀ w, (part 44 (rowS T).toArray (k * 10)).run Try.prog w = .ok (.agg (slA (T k))) w := fun w => by
    rw [← rowS_ext T k hk]
    simp [part, isAgg, run_underlying Try.underlying44, size_slot]
  have h2 : (0 : Int) ≤ (k : Int) ∧ (k : Int) < ((8 : Nat) : Int) := ⟨by omega, by omega⟩
  unfold Instr.index
  simp only [asIntOf, Sem.run_bind, Sem.run_pure, Result.andThen_ok, run_underlying Try.underlying57, if_pos h2, size_slot, Int.toNat_natCast, px]
  rfl
theorem TAt.rows {w : World} {b n : Nat} {T : Nat → Sl} (h : TAt w b n T) : w.rangeAt b 1 (rowS T) := fun j v hv => by
  have hj : j < 80 := by
    have := (List.getElem?_eq_some_iff.1 hv).1
    rwa [rowS_length] at this
  unfold rowS at hv
  rw [List.getElem?_map, List.getElem?_range hj] at hv
  simp at hv
  subst hv
  have := World.rowIs.cell h (i := 1 + j) (by omega)
  rw [this]
  unfold taC
  rw [if_neg (by omega), show 1 + j - 1 = j by omega]
theorem ints4 {w : World} {c : Nat} {x y z u : Int} {t : TypeId} (h : w.heap[c]? = some (.cells #[.int .i64 x, .int .i64 y, .int .i64 z, .int .i64 u] t (0, 0))) : IntsAt w (some ⟨c, 0, none⟩) 4 [x, y, z, u] := fun _ => ⟨c, 0, rfl, (Array.getElem?_eq_some_iff.1 h).1, fun i hi => by
  rw [Nat.zero_add]
  match i, hi with
  | 0, _ => exact row_cell22 h 0 _ rfl
  | 1, _ => exact row_cell22 h 1 _ rfl
  | 2, _ => exact row_cell22 h 2 _ rfl
  | 3, _ => exact row_cell22 h 3 _ rfl⟩
def zz16 : ByteArray := ⟨(List.replicate 16 (0 : UInt8)).toArray⟩
theorem make16 (w : World) : (Instr.makeSlice 73 (.int .i64 16) (.int .i64 16)).run Try.prog w = .ok (.slice (some ⟨w.heap.size, 0, none⟩) 16 16) (w.alloc (.cells (madeCells #[.int .u8 0] 16) 5)) :=
  run_make_row' (P := Try.prog) 73 5 (.int .u8 0) 1 Try.underlying73 Try.info_u8 rfl .i64 .i64 16 (by omega) (by omega) (w := w)
theorem conv16 (w : World) : (convert 73 9 (.slice (some ⟨w.heap.size, 0, none⟩) 16 16)).run Try.prog (w.alloc (.cells (madeCells #[.int .u8 0] 16) 5)) = .ok (.string zz16) (w.alloc (.cells (madeCells #[.int .u8 0] 16) 5)) :=
  conv_row (P := Try.prog) (cap := 16) (W := 16) (dst := 9) (f := fun _ => 0) Try.underlying73 Try.underlying5 Try.underlying9 (World.rowIs_made w (.int .u8 0) 16 5) (Nat.le_refl _)
theorem zz16_size : zz16.size = 16 := by kernel_rfl
attribute [local irreducible] rowS
set_option maxRecDepth 100000 in
set_option maxHeartbeats 8000000 in
theorem bytesT_any (b n : Nat) (T : Nat → Sl) (w : World) (hT : TAt w b n T) (hok : ∀ k, k < 8 → SlOk (T k)) : Calls Try.prog 15 #[.pointer (some ⟨b, 0, none⟩)] w fun e w' => e = .returned (.string ⟨(txT T 8 ++ List.replicate 16 0).toArray⟩) ∧ Below w.heap.size w w' := by
  have HT := Lib.hid hT
  have HOK := Lib.hid hok
  have hrg := hT.rows
  have hix := fun (k : Nat) (hk : k < 8) => index_slots T k hk
  have HIX := Lib.hid hix
  clear hT hok hix
  have hl80 : (rowS T).length = 80 := rowS_length T
  obtain ⟨R, hR⟩ : ∃ R, Hid (rowS T = R) := ⟨_, Lib.hid rfl⟩
  rw [hR.out] at hrg HIX hl80
  go_enter Try.func15, Try.ntmps15
  go_wp2_with (refine wpList_load_mid rfl 57 _ rfl b 1 rfl R _ hrg Try.underlying57 rfl (by rw [hl80]; kernel_rfl) ?_)
  clear hrg
  go_loopw [14, 3, 5, 6, 7] (fun s14 s3 _ _ _ wi => ∃ k : Nat, s14 = .int .i64 (k : Int) ∧ s3 = .string ⟨(txT T k).toArray⟩ ∧ k ≤ 8 ∧ Hid (Below w.heap.size w wi)) (fun s14 _ _ _ _ _ => 8 - (intOf s14).toNat)
  case atStart => exact ⟨0, rfl, rfl, by omega, Lib.hid (Below.refl _ _)⟩
  case round =>
    obtain ⟨k, rfl, rfl, hk, HB⟩ := hrel
    by_cases hlt : k < 8
    · have hli : (k : Int) < 8 := by omega
      have hi := HIX.out k hlt
      obtain ⟨g1, g2, l1, l2⟩ := HOK.out k hlt
      have hlen := txT_len T k
      have htx : txT T (k + 1) = txT T k ++ txS (T k) := rfl
      obtain ⟨X, hX⟩ : ∃ X, Hid (txT T (k + 1) = X) := ⟨_, Lib.hid rfl⟩
      rw [hX.out] at htx
      obtain ⟨s, hs⟩ : ∃ s, T k = s := ⟨_, rfl⟩
      rw [hs] at hi g1 g2 l1 l2 htx
      clear hs
      obtain ⟨Y, hY⟩ : ∃ Y, txT T k = Y := ⟨_, rfl⟩
      rw [hY] at htx hlen ⊢
      clear hY
      have HTX := Lib.hid htx
      have hslen := txS_len s
      have HRL : Hid (rowL 1 (numS s) = txS s) := Lib.hid rfl
      have hadd : ∀ V : World, (Op.stringOp .add (⟨Y.toArray⟩ : ByteArray) ⟨(txS s).toArray⟩).run Try.prog V = .ok (.string ⟨X.toArray⟩) V := fun V => by
        rw [run_string_add_sum V _ _ (by rw [bytes_size, bytes_size]; omega), HTX.out, bytes_add]
      have hsum : IntKind.i64.wrap (s.g + 1) = s.g + 1 := IntWalk.i64_in _ (by omega)
      clear htx
      have HBA := Lib.hid (HB.out.alloc HB.out.size (.cells #[.int .i64 s.g, .bool s.v0, .bool s.v1, .bool s.v2, .bool s.v3, .bool s.d0, .bool s.d1, .bool s.d2, .bool s.d3, .int .i64 s.l] 44))
      have hrow : (wr.alloc (.cells #[.int .i64 s.g, .bool s.v0, .bool s.v1, .bool s.v2, .bool s.v3, .bool s.d0, .bool s.d1, .bool s.d2, .bool s.d3, .int .i64 s.l] 44)).heap[wr.heap.size]? = some (.cells #[.int .i64 s.g, .bool s.v0, .bool s.v1, .bool s.v2, .bool s.v3, .bool s.d0, .bool s.d1, .bool s.d2, .bool s.d3, .int .i64 s.l] 44 (0, 0)) := heap_alloc_new _ _
      have hc : (wr.alloc (.cells #[.int .i64 s.g, .bool s.v0, .bool s.v1, .bool s.v2, .bool s.v3, .bool s.d0, .bool s.d1, .bool s.d2, .bool s.d3, .int .i64 s.l] 44)).cell? ⟨wr.heap.size, 0, none⟩ = some (.int .i64 s.g) ∧ (wr.alloc (.cells #[.int .i64 s.g, .bool s.v0, .bool s.v1, .bool s.v2, .bool s.v3, .bool s.d0, .bool s.d1, .bool s.d2, .bool s.d3, .int .i64 s.l] 44)).cell? ⟨wr.heap.size, 1, none⟩ = some (.bool s.v0) ∧ (wr.alloc (.cells #[.int .i64 s.g, .bool s.v0, .bool s.v1, .bool s.v2, .bool s.v3, .bool s.d0, .bool s.d1, .bool s.d2, .bool s.d3, .int .i64 s.l] 44)).cell? ⟨wr.heap.size, 2, none⟩ = some (.bool s.v1) ∧ (wr.alloc (.cells #[.int .i64 s.g, .bool s.v0, .bool s.v1, .bool s.v2, .bool s.v3, .bool s.d0, .bool s.d1, .bool s.d2, .bool s.d3, .int .i64 s.l] 44)).cell? ⟨wr.heap.size, 3, none⟩ = some (.bool s.v2) ∧ (wr.alloc (.cells #[.int .i64 s.g, .bool s.v0, .bool s.v1, .bool s.v2, .bool s.v3, .bool s.d0, .bool s.d1, .bool s.d2, .bool s.d3, .int .i64 s.l] 44)).cell? ⟨wr.heap.size, 4, none⟩ = some (.bool s.v3) ∧ (wr.alloc (.cells #[.int .i64 s.g, .bool s.v0, .bool s.v1, .bool s.v2, .bool s.v3, .bool s.d0, .bool s.d1, .bool s.d2, .bool s.d3, .int .i64 s.l] 44)).cell? ⟨wr.heap.size, 5, none⟩ = some (.bool s.d0) ∧ (wr.alloc (.cells #[.int .i64 s.g, .bool s.v0, .bool s.v1, .bool s.v2, .bool s.v3, .bool s.d0, .bool s.d1, .bool s.d2, .bool s.d3, .int .i64 s.l] 44)).cell? ⟨wr.heap.size, 6, none⟩ = some (.bool s.d1) ∧ (wr.alloc (.cells #[.int .i64 s.g, .bool s.v0, .bool s.v1, .bool s.v2, .bool s.v3, .bool s.d0, .bool s.d1, .bool s.d2, .bool s.d3, .int .i64 s.l] 44)).cell? ⟨wr.heap.size, 7, none⟩ = some (.bool s.d2) ∧ (wr.alloc (.cells #[.int .i64 s.g, .bool s.v0, .bool s.v1, .bool s.v2, .bool s.v3, .bool s.d0, .bool s.d1, .bool s.d2, .bool s.d3, .int .i64 s.l] 44)).cell? ⟨wr.heap.size, 8, none⟩ = some (.bool s.d3) ∧ (wr.alloc (.cells #[.int .i64 s.g, .bool s.v0, .bool s.v1, .bool s.v2, .bool s.v3, .bool s.d0, .bool s.d1, .bool s.d2, .bool s.d3, .int .i64 s.l] 44)).cell? ⟨wr.heap.size, 9, none⟩ = some (.int .i64 s.l) := ⟨row_cell22 hrow 0 _ rfl, row_cell22 hrow 1 _ rfl, row_cell22 hrow 2 _ rfl, row_cell22 hrow 3 _ rfl, row_cell22 hrow 4 _ rfl, row_cell22 hrow 5 _ rfl, row_cell22 hrow 6 _ rfl, row_cell22 hrow 7 _ rfl, row_cell22 hrow 8 _ rfl, row_cell22 hrow 9 _ rfl⟩
      go_upto_region 7 with fail
      clear hrow hi
      obtain ⟨w1, hw1⟩ : ∃ w1, wr.alloc (.cells #[.int .i64 s.g, .bool s.v0, .bool s.v1, .bool s.v2, .bool s.v3, .bool s.d0, .bool s.d1, .bool s.d2, .bool s.d3, .int .i64 s.l] 44) = w1 := ⟨_, rfl⟩
      rw [hw1] at HBA hc ⊢
      clear hw1 HB
      obtain ⟨a, ha⟩ : ∃ a, wr.heap.size = a := ⟨_, rfl⟩
      rw [ha] at hc ⊢
      clear ha
      refine wp_region_lin (S := (fun w' => w'.cell? ⟨a, 0, none⟩ = some (.int .i64 s.g) ∧ w'.cell? ⟨a, 1, none⟩ = some (.bool s.v0) ∧ w'.cell? ⟨a, 2, none⟩ = some (.bool s.v1) ∧ w'.cell? ⟨a, 3, none⟩ = some (.bool s.v2) ∧ w'.cell? ⟨a, 4, none⟩ = some (.bool s.v3) ∧ w'.cell? ⟨a, 5, none⟩ = some (.bool s.d0) ∧ w'.cell? ⟨a, 6, none⟩ = some (.bool s.d1) ∧ w'.cell? ⟨a, 7, none⟩ = some (.bool s.d2) ∧ w'.cell? ⟨a, 8, none⟩ = some (.bool s.d3) ∧ w'.cell? ⟨a, 9, none⟩ = some (.int .i64 s.l))) [(0, true), (1, true), (2, true), (3, true), (5, true), (6, true), (4, false), (7, false), (8, false), (9, true), (10, true), (11, true), (12, true), (13, true)] (by kernel_rfl) (by kernel_rfl) rfl (by kernel_rfl) ?_ (fun hHeld => ?_)
      · (try dsimp only); exact hc
      have HBD : Hid (Below w.heap.size w w1.drew) := Lib.hid HBA.out.drew
      clear hc HBA
      generalize World.drew w1 = w2 at hHeld HBD ⊢
      refine wpL_calm (o := { dst := some 18, op := Go.Op.fieldAddr 44 (Go.Operand.tmp 5) 0, type := 0, pos := "slots.go:59", after := #[], guard := none }) (v := ?_) rfl (Or.inl ⟨by rfl, ?_⟩) ?_; rotate_left; (focus (intro w hSw; (try dsimp only at hSw); go_simp; (try (with_reducible rfl)); done)); try simp only [Act.put, List.setIfInBounds_toArray, List.set_cons_zero, List.set_cons_succ]
      refine wpL_calm (o := { dst := some 19, op := Go.Op.load 3 (Go.Operand.tmp 18), type := 3, pos := "slots.go:59", after := #[{ on := 0, ground := Go.Ground.data }], guard := none }) (v := ?_) rfl (Or.inl ⟨by rfl, ?_⟩) ?_; rotate_left; (focus (intro w hSw; (try dsimp only at hSw); go_simp; (try (with_reducible rfl)); done)); try simp only [Act.put, List.setIfInBounds_toArray, List.set_cons_zero, List.set_cons_succ]
      refine wpL_calm (o := { dst := some 20, op := Go.Op.binOp Go.BinOp.add 3 (Go.Operand.tmp 19) (Go.Operand.const (Go.Value.int Go.IntKind.i64 1)) 3, type := 3, pos := "slots.go:59", after := #[{ on := 1, ground := Go.Ground.data }], guard := none }) (v := ?_) rfl (Or.inl ⟨by rfl, ?_⟩) ?_; rotate_left; (focus (intro w hSw; (try dsimp only at hSw); go_simp; (try (with_reducible rfl)); done)); try simp only [Act.put, List.setIfInBounds_toArray, List.set_cons_zero, List.set_cons_succ]
      refine wpL_calm (o := { dst := some 21, op := Go.Op.load 44 (Go.Operand.tmp 5), type := 44, pos := "slots.go:59", after := #[], guard := none }) (v := ?_) rfl (Or.inl ⟨by rfl, ?_⟩) ?_; rotate_left; (focus (intro w hSw; (try dsimp only at hSw); go_simp; (try (with_reducible rfl)); done)); try simp only [Act.put, List.setIfInBounds_toArray, List.set_cons_zero, List.set_cons_succ]
      refine wpL_calm (o := { dst := some 23, op := Go.Op.fieldAddr 44 (Go.Operand.tmp 5) 3, type := 0, pos := "slots.go:59", after := #[], guard := none }) (v := ?_) rfl (Or.inl ⟨by rfl, ?_⟩) ?_; rotate_left; (focus (intro w hSw; (try dsimp only at hSw); go_simp; (try (with_reducible rfl)); done)); try simp only [Act.put, List.setIfInBounds_toArray, List.set_cons_zero, List.set_cons_succ]
      refine wpL_calm (o := { dst := some 24, op := Go.Op.load 3 (Go.Operand.tmp 23), type := 3, pos := "slots.go:59", after := #[{ on := 5, ground := Go.Ground.data }], guard := none }) (v := ?_) rfl (Or.inl ⟨by rfl, ?_⟩) ?_; rotate_left; (focus (intro w hSw; (try dsimp only at hSw); go_simp; (try (with_reducible rfl)); done)); try simp only [Act.put, List.setIfInBounds_toArray, List.set_cons_zero, List.set_cons_succ]
      refine wpL_loud1 (o := { dst := some 22, op := Go.Op.call { callee := Go.Callee.value (Go.Operand.func 38), args := #[Go.Operand.tmp 21], argTypes := #[44] }, type := 3, pos := "slots.go:59", after := #[{ on := 3, ground := Go.Ground.data }], guard := none }) rfl (fun K hK => ?_)
      (go_simp; go_at_call 38; refine (bits_any s w2).mono ?_; rintro e w3 ⟨rfl, b3⟩; have HB3 := Lib.hid (HBD.out.trans (b3.mono HBD.out.size)); have hc3 := ten_below b3 hHeld; clear b3)
      try go_wp2_with fail
      refine hK.out _ _ ?_ (fun hHeld => ?_)
      · (try dsimp only); exact hc3
      clear hK K
      try simp only [Act.put, List.setIfInBounds_toArray, List.set_cons_zero, List.set_cons_succ]
      refine wpL_loud1 (o := { dst := some 25, op := Go.Op.buildSlice 83 4 #[(0, Go.Operand.tmp 20), (1, Go.Operand.tmp 22), (2, Go.Operand.tmp 24), (3, Go.Operand.const (Go.Value.int Go.IntKind.i64 0))], type := 83, pos := "slots.go:59", after := #[{ on := 2, ground := Go.Ground.data }, { on := 4, ground := Go.Ground.data }, { on := 6, ground := Go.Ground.data }], guard := none }) rfl (fun K hK => ?_)
      (go_simp; have hBA4 : Below w3.heap.size w3 (w3.alloc (.cells #[.int .i64 (s.g + 1), .int .i64 (bitN s 4 : Int), .int .i64 s.l, .int .i64 0] 3)) := (Below.refl _ _).alloc (Nat.le_refl _) _; have hc4 := ten_below hBA4 hc3; have HB4 := Lib.hid (HB3.out.trans (hBA4.mono HB3.out.size)); have hr4 : (w3.alloc (.cells #[.int .i64 (s.g + 1), .int .i64 (bitN s 4 : Int), .int .i64 s.l, .int .i64 0] 3)).heap[w3.heap.size]? = some (.cells #[.int .i64 (s.g + 1), .int .i64 (bitN s 4 : Int), .int .i64 s.l, .int .i64 0] 3 (0, 0)) := heap_alloc_new _ _; have HI := Lib.hid (ints4 hr4); clear hBA4 hr4; generalize (w3.alloc (.cells #[.int .i64 (s.g + 1), .int .i64 (bitN s 4 : Int), .int .i64 s.l, .int .i64 0] 3)) = w4 at *; generalize w3.heap.size = c at *)
      refine hK.out _ _ ?_ (fun hHeld => ?_)
      · (try dsimp only); exact hc4
      clear hK K
      try simp only [Act.put, List.setIfInBounds_toArray, List.set_cons_zero, List.set_cons_succ]
      refine wpL_loud1 (o := { dst := some 26, op := Go.Op.call { callee := Go.Callee.value (Go.Operand.func 37), args := #[Go.Operand.const (Go.Value.int Go.IntKind.i64 1), Go.Operand.tmp 25], argTypes := #[3, 83] }, type := 71, pos := "slots.go:59", after := #[{ on := 7, ground := Go.Ground.data }, { on := 4, ground := Go.Ground.chain }], guard := none }) rfl (fun K hK => ?_)
      (go_simp; go_at_call 37; refine (row_ok 1 (some ⟨c, 0, none⟩) 4 4 (numS s) w4 (by omega) (by omega) (by omega) HI (Lib.hid rfl)).mono ?_; rintro e w5 ⟨rfl, b5⟩; have HB5 := Lib.hid (HB4.out.trans (b5.mono HB4.out.size)); have hc5 := ten_below b5 hc4; rw [HRL.out]; clear b5)
      try go_wp2_with fail
      refine hK.out _ _ ?_ (fun hHeld => ?_)
      · (try dsimp only); exact hc5
      clear hK K
      try simp only [Act.put, List.setIfInBounds_toArray, List.set_cons_zero, List.set_cons_succ]
      refine wpL_calm (o := { dst := some 17, op := Go.Op.move (Go.Operand.tmp 26), type := 71, pos := "slots.go:59", after := #[{ on := 8, ground := Go.Ground.data }], guard := none }) (v := ?_) rfl (Or.inl ⟨by rfl, ?_⟩) ?_; rotate_left; (focus (intro w hSw; (try dsimp only at hSw); go_simp; (try (with_reducible rfl)); done)); try simp only [Act.put, List.setIfInBounds_toArray, List.set_cons_zero, List.set_cons_succ]
      refine wpL_calm (o := { dst := some 27, op := Go.Op.extract (Go.Operand.tmp 17) 0, type := 9, pos := "slots.go:59", after := #[{ on := 9, ground := Go.Ground.data }], guard := none }) (v := ?_) rfl (Or.inl ⟨by rfl, ?_⟩) ?_; rotate_left; (focus (intro w hSw; (try dsimp only at hSw); go_simp; (try (with_reducible rfl)); done)); try simp only [Act.put, List.setIfInBounds_toArray, List.set_cons_zero, List.set_cons_succ]
      refine wpL_calm (o := { dst := some 28, op := Go.Op.extract (Go.Operand.tmp 17) 1, type := 24, pos := "slots.go:59", after := #[{ on := 9, ground := Go.Ground.data }, { on := 12, ground := Go.Ground.gcOnly Go.Departure.lateStores }], guard := none }) (v := ?_) rfl (Or.inl ⟨by rfl, ?_⟩) ?_; rotate_left; (focus (intro w hSw; (try dsimp only at hSw); go_simp; (try (with_reducible rfl)); done)); try simp only [Act.put, List.setIfInBounds_toArray, List.set_cons_zero, List.set_cons_succ]
      refine wpL_calm (o := { dst := some 6, op := Go.Op.assign (Go.Operand.tmp 27), type := 9, pos := "slots.go:59", after := #[{ on := 10, ground := Go.Ground.data }, { on := 8, ground := Go.Ground.chain }, { on := 0, ground := Go.Ground.phase }, { on := 1, ground := Go.Ground.phase }, { on := 2, ground := Go.Ground.phase }, { on := 3, ground := Go.Ground.phase }, { on := 4, ground := Go.Ground.phase }, { on := 5, ground := Go.Ground.phase }, { on := 6, ground := Go.Ground.phase }, { on := 7, ground := Go.Ground.phase }, { on := 8, ground := Go.Ground.phase }, { on := 9, ground := Go.Ground.phase }, { on := 10, ground := Go.Ground.phase }, { on := 11, ground := Go.Ground.textOnly Go.Departure.lateStores }], guard := none }) (v := ?_) rfl (Or.inl ⟨by rfl, ?_⟩) ?_; rotate_left; (focus (intro w hSw; (try dsimp only at hSw); go_simp; (try (with_reducible rfl)); done)); try simp only [Act.put, List.setIfInBounds_toArray, List.set_cons_zero, List.set_cons_succ]
      refine wpL_calm (o := { dst := some 7, op := Go.Op.assign (Go.Operand.tmp 28), type := 24, pos := "slots.go:59", after := #[{ on := 11, ground := Go.Ground.data }, { on := 12, ground := Go.Ground.chain }, { on := 0, ground := Go.Ground.phase }, { on := 1, ground := Go.Ground.phase }, { on := 2, ground := Go.Ground.phase }, { on := 3, ground := Go.Ground.phase }, { on := 4, ground := Go.Ground.phase }, { on := 5, ground := Go.Ground.phase }, { on := 6, ground := Go.Ground.phase }, { on := 7, ground := Go.Ground.phase }, { on := 8, ground := Go.Ground.phase }, { on := 9, ground := Go.Ground.phase }, { on := 10, ground := Go.Ground.phase }, { on := 11, ground := Go.Ground.phase }, { on := 12, ground := Go.Ground.phase }], guard := none }) (v := ?_) rfl (Or.inl ⟨by rfl, ?_⟩) ?_; rotate_left; (focus (intro w hSw; (try dsimp only at hSw); go_simp; (try (with_reducible rfl)); done)); try simp only [Act.put, List.setIfInBounds_toArray, List.set_cons_zero, List.set_cons_succ]
      refine wpL_nil ?_
      refine NoPanic.normal ?_
      clear hHeld hc3 hc4 hc5 HI HB4 HB3 HBD
      go_wp2_with fail
      go_roundw
      case rel => exact ⟨k + 1, by go_num, by rw [hX.out], by omega, HB5⟩
      case measure => simp [intOf]; omega
    · obtain rfl : k = 8 := by omega
      rw [show ((8 : Nat) : Int) = 8 from rfl]
      have hlen := txT_len T 8
      obtain ⟨Y, hY⟩ : ∃ Y, txT T 8 = Y := ⟨_, rfl⟩
      rw [hY] at hlen ⊢
      have HY := Lib.hid hY
      clear hY HIX HOK HT
      have hmk := make16 wr
      have hcv := conv16 wr
      have hadd : ∀ V : World, (Op.stringOp .add (⟨Y.toArray⟩ : ByteArray) zz16).run Try.prog V = .ok (.string ⟨(Y ++ List.replicate 16 0).toArray⟩) V := fun V => by
        rw [run_string_add_sum V _ _ (by rw [bytes_size, zz16_size]; omega)]
        unfold zz16
        rw [bytes_add]
      have HBM := Lib.hid (HB.out.alloc HB.out.size (.cells (madeCells #[.int .u8 0] 16) 5))
      obtain ⟨z, hz⟩ : ∃ z, zz16 = z := ⟨_, rfl⟩
      rw [hz] at hcv hadd
      clear hz
      go_wp2_with fail
      go_ret
      exact ⟨by rw [HY.out]; rfl, HBM.out⟩
end Go.Proofs.Ythhgodfgigcacaa
