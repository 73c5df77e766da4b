/- Package slots: the reference's Read, its walk. -/
import Derived.Test.YthhgodfgigcacaaSmA
namespace Go.Proofs.Ythhgodfgigcacaa
open Go.RowKit Go.Deep
set_option linter.unusedVariables false
set_option linter.unusedSimpArgs false
theorem below_setRow {B : Nat} {a w : World} {r : Nat} (h : Below B a w) (hr : B ≤ r) (cs : Array Value) : Below B a (w.setRow r cs) :=
  ⟨h.os, h.tape, h.output, by have := h.size; simpa [World.setRow] using this, fun k hk => (setRow_other w r k cs (by omega)).trans (h.block k hk)⟩
theorem index22 (s : ByteArray) (x : Int) (j : Nat) (hx : x = (j : Int)) (hj : j < s.size) (w : World) : (Instr.index 9 (.string s) (.int .i64 x)).run Try.prog w = .ok (.int .u8 (bt s j : Int)) w := by
  subst hx
  have h2 : (j : Int) < (s.size : Int) := by omega
  have h3 : s[j] = (s.data.toList[j]?.getD 0) := by
    rw [List.getElem?_eq_getElem (show j < s.data.toList.length from hj)]
    rfl
  unfold bt
  rw [← h3]
  unfold Instr.index
  simp [asIntOf, run_underlying Try.underlying9, hj, h2]
def RrP (n : Nat) (s : ByteArray) (w : World) (e : Ending) (w' : World) : Prop := ((accP n s ∧ ∃ v, e = .returned (.tuple #[v, .bool true]) ∧ LAt w' w.heap.size v n (TR s n)) ∨ (¬ accP n s ∧ e = .returned (.tuple #[.slice none 0 0, .bool false]))) ∧ Below w.heap.size w w'
theorem RrP.no {n : Nat} {s : ByteArray} {w w' : World} (h : ¬ accP n s) (hb : Below w.heap.size w w') : RrP n s w (.returned (.tuple #[.slice none 0 0, .bool false])) w' := ⟨Or.inr ⟨h, rfl⟩, hb⟩
theorem RrP.yes {n : Nat} {v : Value} {s : ByteArray} {w w' : World} (h : accP n s) (h2 : LAt w' w.heap.size v n (TR s n)) (hb : Below w.heap.size w w') : RrP n s w (.returned (.tuple #[v, .bool true])) w' := ⟨Or.inl ⟨h, v, rfl, h2⟩, hb⟩
theorem fndR_new {s : ByteArray} {k : Nat} : fndR (XR s) k (XR s k).g < 0 ↔ newR s k := by
  unfold fndR newR
  by_cases h0 : 0 ≤ (XR s k).g
  · rw [if_pos h0]
    cases hq : fstO (fun t : Sl => decide (t.g = (XR s k).g)) (XR s) k with
    | none =>
      refine ⟨fun _ _ j hj e => ?_, fun _ => by decide⟩
      unfold fstO at hq
      exact List.find?_eq_none.1 hq j (List.mem_range.2 hj) (decide_eq_true e)
    | some i =>
      obtain ⟨h1, h2, _⟩ := fst_spec hq
      refine ⟨fun h => absurd h (by show ¬ (i : Int) < 0; omega), fun h => absurd (of_decide_eq_true h2) (h h0 i h1)⟩
  · rw [if_neg h0]
    exact ⟨fun _ h => absurd h h0, fun _ => by decide⟩
def GoodR (s : ByteArray) (k : Nat) : Prop := ∀ j, j < k → okS s j = true ∧ newR s j
set_option maxRecDepth 100000 in
set_option maxHeartbeats 32000000 in
theorem rread_any (n : Nat) (s : ByteArray) (w : World) (h8 : n ≤ 8) : Calls Try.prog 14 #[.int .i64 (n : Int), .string s] w (RrP n s w) := by
  obtain ⟨i0, hi0, hz0, hz1, hz2⟩ := info_parts22 info_slD
  go_enter Try.func14, Try.ntmps14
  by_cases hs : s.size = 48
  · have h48 : (s.size : Int) = 48 := by omega
    have HG0 : Hid (GoodR s 0) := Lib.hid (fun j hj => absurd hj (by omega))
    go_wp2_with fail
    go_loopw [6, 7, 8, 9, 10] (fun s6 s7 _ _ _ wi => ∃ k : Nat, s7 = .int .i64 (k : Int) ∧ k ≤ n ∧ Hid (LAt wi w.heap.size s6 k (XR s)) ∧ Hid (Below w.heap.size w wi) ∧ Hid (GoodR s k)) (fun _ s7 _ _ _ _ => n - (intOf s7).toNat)
    case atStart => exact ⟨0, rfl, by omega, Lib.hid (World.ownsRow_nil _ _ _ _), Lib.hid (Below.refl _ _), HG0⟩
    case round =>
      obtain ⟨k, rfl, hk, HL, HB, HG⟩ := hrel
      clear HG0
      by_cases hlt : k < n
      · have hli : (k : Int) < (n : Int) := by omega
        obtain ⟨w1, hw1⟩ : ∃ w1, wr = w1 := ⟨_, rfl⟩
        rw [hw1] at HL HB ⊢
        clear hw1
        obtain ⟨al, cl, rfl⟩ := own_form HL.out
        have h0 := bt_lt s (4 * k)
        have h1 := bt_lt s (4 * k + 1)
        have h2 := bt_lt s (4 * k + 2)
        have hix0 := index22 s (4 * (k : Int)) (4 * k) (by omega) (by omega)
        have hix1 := index22 s (4 * (k : Int) + 1) (4 * k + 1) (by omega) (by omega)
        have hix2 := index22 s (4 * (k : Int) + 2) (4 * k + 2) (by omega) (by omega)
        have hok : okS s k = okQ (bt s (4 * k)) (bt s (4 * k + 1)) (bt s (4 * k + 2)) := rfl
        have hxr : XR s k = pS (bt s (4 * k)) (bt s (4 * k + 1)) (bt s (4 * k + 2)) := rfl
        obtain ⟨b0, hb0⟩ : ∃ b, bt s (4 * k) = b := ⟨_, rfl⟩
        obtain ⟨b1, hb1⟩ : ∃ b, bt s (4 * k + 1) = b := ⟨_, rfl⟩
        obtain ⟨b2, hb2⟩ : ∃ b, bt s (4 * k + 2) = b := ⟨_, rfl⟩
        have HB1 : Hid (bt s (4 * k + 1) = b1) := Lib.hid hb1
        rw [hb0] at h0 hix0 hok hxr
        rw [hb1] at h1 hix1 hok hxr
        rw [hb2] at h2 hix2 hok hxr
        have HOK := Lib.hid hok
        have HXR := Lib.hid hxr
        clear hb0 hb1 hb2 hok hxr
        have e4 : IntKind.i64.wrap (4 * (k : Int)) = 4 * (k : Int) := IntWalk.i64_in _ (by omega)
        have e5 : IntKind.i64.wrap (4 * (k : Int) + 2) = 4 * (k : Int) + 2 := IntWalk.i64_in _ (by omega)
        have e6 : IntKind.i64.wrap (4 * (k : Int) + 1) = 4 * (k : Int) + 1 := IntWalk.i64_in _ (by omega)
        have eb0 : IntKind.i64.wrap (b0 : Int) = b0 := IntWalk.i64_in _ (by omega)
        have eb1 : IntKind.i64.wrap (b1 : Int) = b1 := IntWalk.i64_in _ (by omega)
        have eb2 : IntKind.i64.wrap (b2 : Int) = b2 := IntWalk.i64_in _ (by omega)
        have e1 : IntKind.i64.wrap ((b0 : Int) - 1) = (b0 : Int) - 1 := IntWalk.i64_in _ (by omega)
        have HB2 : Hid (Below w1.heap.size w1 w1.drew) := Lib.hid (Below.refl _ _).drew
        go_upto_region 7 with fail
        refine wp_region_lin (S := (fun _ => True)) [(0, true), (1, true), (2, true), (3, true), (4, true), (5, true), (6, true), (7, true), (8, true), (9, true), (10, true), (11, true), (12, true), (13, false), (14, false)] (by kernel_rfl) (by kernel_rfl) rfl (by kernel_rfl) ?_ (fun hHeld => ?_)
        · (try dsimp only); try exact trivial
        generalize World.drew w1 = w2 at HB2 ⊢
        refine wpL_calm (o := { dst := some 19, op := Go.Op.move (Go.Operand.tmp 1), type := 9, pos := "ref.go:72", after := #[], guard := none }) (v := ?_) rfl (Or.inl ⟨by rfl, ?_⟩) ?_; rotate_left; (focus (intro w hSw; (try dsimp only at hSw); go_simp; (try (with_reducible rfl)); done)); try simp only [Act.put, List.setIfInBounds_toArray, List.set_cons_zero, List.set_cons_succ]
        refine wpL_calm (o := { dst := some 20, op := Go.Op.move (Go.Operand.tmp 7), type := 3, pos := "ref.go:72", after := #[], guard := none }) (v := ?_) rfl (Or.inl ⟨by rfl, ?_⟩) ?_; rotate_left; (focus (intro w hSw; (try dsimp only at hSw); go_simp; (try (with_reducible rfl)); done)); try simp only [Act.put, List.setIfInBounds_toArray, List.set_cons_zero, List.set_cons_succ]
        refine wpL_calm (o := { dst := some 21, op := Go.Op.binOp Go.BinOp.mul 3 (Go.Operand.const (Go.Value.int Go.IntKind.i64 4)) (Go.Operand.tmp 20) 3, type := 3, pos := "ref.go:72", after := #[{ on := 1, ground := Go.Ground.data }], guard := none }) (v := ?_) rfl (Or.inl ⟨by rfl, ?_⟩) ?_; rotate_left; (focus (intro w hSw; (try dsimp only at hSw); go_simp; (try (with_reducible rfl)); done)); try simp only [Act.put, List.setIfInBounds_toArray, List.set_cons_zero, List.set_cons_succ]
        refine wpL_calm (o := { dst := some 22, op := Go.Op.index 9 (Go.Operand.tmp 19) (Go.Operand.tmp 21), type := 5, pos := "ref.go:72", after := #[{ on := 0, ground := Go.Ground.data }, { on := 2, ground := Go.Ground.data }], guard := none }) (v := ?_) rfl (Or.inl ⟨by rfl, ?_⟩) ?_; rotate_left; (focus (intro w hSw; (try dsimp only at hSw); go_simp; (try (with_reducible rfl)); done)); try simp only [Act.put, List.setIfInBounds_toArray, List.set_cons_zero, List.set_cons_succ]
        refine wpL_calm (o := { dst := some 23, op := Go.Op.convert 5 3 (Go.Operand.tmp 22), type := 3, pos := "ref.go:72", after := #[{ on := 3, ground := Go.Ground.data }], guard := none }) (v := ?_) rfl (Or.inl ⟨by rfl, ?_⟩) ?_; rotate_left; (focus (intro w hSw; (try dsimp only at hSw); go_simp; (try (with_reducible rfl)); done)); try simp only [Act.put, List.setIfInBounds_toArray, List.set_cons_zero, List.set_cons_succ]
        refine wpL_calm (o := { dst := some 24, op := Go.Op.binOp Go.BinOp.sub 3 (Go.Operand.tmp 23) (Go.Operand.const (Go.Value.int Go.IntKind.i64 1)) 3, type := 3, pos := "ref.go:72", after := #[{ on := 4, ground := Go.Ground.data }], guard := none }) (v := ?_) rfl (Or.inl ⟨by rfl, ?_⟩) ?_; rotate_left; (focus (intro w hSw; (try dsimp only at hSw); go_simp; (try (with_reducible rfl)); done)); try simp only [Act.put, List.setIfInBounds_toArray, List.set_cons_zero, List.set_cons_succ]
        refine wpL_calm (o := { dst := some 25, op := Go.Op.move (Go.Operand.tmp 1), type := 9, pos := "ref.go:72", after := #[], guard := none }) (v := ?_) rfl (Or.inl ⟨by rfl, ?_⟩) ?_; rotate_left; (focus (intro w hSw; (try dsimp only at hSw); go_simp; (try (with_reducible rfl)); done)); try simp only [Act.put, List.setIfInBounds_toArray, List.set_cons_zero, List.set_cons_succ]
        refine wpL_calm (o := { dst := some 26, op := Go.Op.move (Go.Operand.tmp 7), type := 3, pos := "ref.go:72", after := #[], guard := none }) (v := ?_) rfl (Or.inl ⟨by rfl, ?_⟩) ?_; rotate_left; (focus (intro w hSw; (try dsimp only at hSw); go_simp; (try (with_reducible rfl)); done)); try simp only [Act.put, List.setIfInBounds_toArray, List.set_cons_zero, List.set_cons_succ]
        refine wpL_calm (o := { dst := some 27, op := Go.Op.binOp Go.BinOp.mul 3 (Go.Operand.const (Go.Value.int Go.IntKind.i64 4)) (Go.Operand.tmp 26) 3, type := 3, pos := "ref.go:72", after := #[{ on := 7, ground := Go.Ground.data }], guard := none }) (v := ?_) rfl (Or.inl ⟨by rfl, ?_⟩) ?_; rotate_left; (focus (intro w hSw; (try dsimp only at hSw); go_simp; (try (with_reducible rfl)); done)); try simp only [Act.put, List.setIfInBounds_toArray, List.set_cons_zero, List.set_cons_succ]
        refine wpL_calm (o := { dst := some 28, op := Go.Op.binOp Go.BinOp.add 3 (Go.Operand.tmp 27) (Go.Operand.const (Go.Value.int Go.IntKind.i64 2)) 3, type := 3, pos := "ref.go:72", after := #[{ on := 8, ground := Go.Ground.data }], guard := none }) (v := ?_) rfl (Or.inl ⟨by rfl, ?_⟩) ?_; rotate_left; (focus (intro w hSw; (try dsimp only at hSw); go_simp; (try (with_reducible rfl)); done)); try simp only [Act.put, List.setIfInBounds_toArray, List.set_cons_zero, List.set_cons_succ]
        refine wpL_calm (o := { dst := some 29, op := Go.Op.index 9 (Go.Operand.tmp 25) (Go.Operand.tmp 28), type := 5, pos := "ref.go:72", after := #[{ on := 6, ground := Go.Ground.data }, { on := 9, ground := Go.Ground.data }], guard := none }) (v := ?_) rfl (Or.inl ⟨by rfl, ?_⟩) ?_; rotate_left; (focus (intro w hSw; (try dsimp only at hSw); go_simp; (try (with_reducible rfl)); done)); try simp only [Act.put, List.setIfInBounds_toArray, List.set_cons_zero, List.set_cons_succ]
        refine wpL_calm (o := { dst := some 30, op := Go.Op.convert 5 3 (Go.Operand.tmp 29), type := 3, pos := "ref.go:72", after := #[{ on := 10, ground := Go.Ground.data }], guard := none }) (v := ?_) rfl (Or.inl ⟨by rfl, ?_⟩) ?_; rotate_left; (focus (intro w hSw; (try dsimp only at hSw); go_simp; (try (with_reducible rfl)); done)); try simp only [Act.put, List.setIfInBounds_toArray, List.set_cons_zero, List.set_cons_succ]
        refine wpL_calm (o := { dst := some 31, op := Go.Op.build 44 #[(0, Go.Operand.tmp 24), (3, Go.Operand.tmp 30)], type := 44, pos := "ref.go:72", after := #[{ on := 5, ground := Go.Ground.data }, { on := 11, ground := Go.Ground.data }], guard := none }) (v := ?_) rfl (Or.inl ⟨by rfl, ?_⟩) ?_; rotate_left; (focus (intro w hSw; (try dsimp only at hSw); go_simp; (try (with_reducible rfl)); done)); try simp only [Act.put, List.setIfInBounds_toArray, List.set_cons_zero, List.set_cons_succ]
        refine wpL_loud1 (o := { dst := some 8, op := Go.Op.alloc 44, type := 0, pos := "ref.go:72", after := #[], guard := none }) rfl (fun K hK => ?_)
        (go_simp; have hrow : (w2.alloc (.cells #[.int .i64 0, .bool false, .bool false, .bool false, .bool false, .bool false, .bool false, .bool false, .bool false, .int .i64 0] 44)).heap[w2.heap.size]? = some (.cells #[.int .i64 0, .bool false, .bool false, .bool false, .bool false, .bool false, .bool false, .bool false, .bool false, .int .i64 0] 44 (0, 0)) := heap_alloc_new _ _; have HB3 := Lib.hid (HB2.out.alloc HB2.out.size (.cells #[.int .i64 0, .bool false, .bool false, .bool false, .bool false, .bool false, .bool false, .bool false, .bool false, .int .i64 0] 44)); have hc1 : w1.heap.size ≤ w2.heap.size := HB2.out.size; generalize w2.alloc (.cells #[.int .i64 0, .bool false, .bool false, .bool false, .bool false, .bool false, .bool false, .bool false, .bool false, .int .i64 0] 44) = w3 at hrow HB3 ⊢; generalize w2.heap.size = c at hrow hc1 ⊢)
        refine hK.out _ _ ?_ (fun hHeld => ?_)
        · (try dsimp only); try trivial
        clear hK K
        try simp only [Act.put, List.setIfInBounds_toArray, List.set_cons_zero, List.set_cons_succ]
        refine wpL_loud0 (o := { dst := none, op := Go.Op.store 44 (Go.Operand.tmp 8) (Go.Operand.tmp 31), type := 0, pos := "ref.go:72", after := #[{ on := 13, ground := Go.Ground.data }, { on := 12, ground := Go.Ground.data }, { on := 0, ground := Go.Ground.phase }, { on := 1, ground := Go.Ground.phase }, { on := 2, ground := Go.Ground.phase }, { on := 3, ground := Go.Ground.phase }, { on := 4, ground := Go.Ground.phase }, { on := 5, ground := Go.Ground.phase }, { on := 6, ground := Go.Ground.phase }, { on := 7, ground := Go.Ground.phase }, { on := 8, ground := Go.Ground.phase }, { on := 9, ground := Go.Ground.phase }, { on := 10, ground := Go.Ground.phase }, { on := 11, ground := Go.Ground.phase }, { on := 12, ground := Go.Ground.phase }, { on := 13, ground := Go.Ground.phase }], guard := none }) rfl (by kernel_rfl) (fun K hK => ?_)
        (rw [if_pos (by rfl)]; refine wp_store_row 44 _ _ rfl c #[.int .i64 ((b0 : Int) - 1), .bool false, .bool false, .bool false, .bool false, .bool false, .bool false, .bool false, .bool false, .int .i64 (b2 : Int)] rfl rfl 44 #[.int .i64 0, .bool false, .bool false, .bool false, .bool false, .bool false, .bool false, .bool false, .bool false, .int .i64 0] hrow (by kernel_rfl) (by rfl) (by simp [Value.oneCell']) ?_)
        refine hK.out _ _ ?_
        clear hK K
        try simp only [Act.put, List.setIfInBounds_toArray, List.set_cons_zero, List.set_cons_succ]
        refine wpL_nil ?_
        refine NoPanic.normal ?_
        have HX4 : Hid ((w3.setRow c #[.int .i64 ((b0 : Int) - 1), .bool false, .bool false, .bool false, .bool false, .bool false, .bool false, .bool false, .bool false, .int .i64 (b2 : Int)]).rowIs c 44 10 (slC (pSi b0 b1 b2 0))) := Lib.hid ⟨_, setRow_heap w3 c _ _ 44 (0, 0) hrow, rfl, fun j hj => by
          rcases (show j = 0 ∨ j = 1 ∨ j = 2 ∨ j = 3 ∨ j = 4 ∨ j = 5 ∨ j = 6 ∨ j = 7 ∨ j = 8 ∨ j = 9 by omega) with rfl | rfl | rfl | rfl | rfl | rfl | rfl | rfl | rfl | rfl <;> rfl⟩
        have HK4 := Lib.hid (below_setRow HB3.out hc1 #[.int .i64 ((b0 : Int) - 1), .bool false, .bool false, .bool false, .bool false, .bool false, .bool false, .bool false, .bool false, .int .i64 (b2 : Int)])
        clear hrow HB3 HB2 hHeld
        generalize w3.setRow c #[.int .i64 ((b0 : Int) - 1), .bool false, .bool false, .bool false, .bool false, .bool false, .bool false, .bool false, .bool false, .int .i64 (b2 : Int)] = w4 at *
        go_wp2_with fail
        go_loopw [9, 10] (fun s9 s10 wi => ∃ i : Nat, s10 = .int .i64 (i : Int) ∧ s9 = .int .i64 ((b1 / 2 ^ i : Nat) : Int) ∧ i ≤ 4 ∧ Hid (wi.rowIs c 44 10 (slC (pSi b0 b1 b2 i))) ∧ Hid (Below w1.heap.size w1 wi) ∧ Hid (∀ j, j < i → tb b1 j = true → tb b1 (4 + j) = true)) (fun _ s10 _ => 4 - (intOf s10).toNat)
        case atStart => exact ⟨0, rfl, by rw [Nat.pow_zero, Nat.div_one], by omega, HX4, HK4, Lib.hid (fun j h => absurd h (by omega))⟩
        case round =>
          obtain ⟨i, rfl, rfl, hi, HX, HK, HJ⟩ := hrel
          clear HX4 HK4
          by_cases hi4 : i < 4
          · rcases (show i = 0 ∨ i = 1 ∨ i = 2 ∨ i = 3 by omega) with rfl | rfl | rfl | rfl
            · rw [show ((0 : Nat) : Int) = 0 from rfl]
              obtain ⟨m, hm⟩ : ∃ m, Hid (b1 / 2 ^ 0 = m) := ⟨_, Lib.hid rfl⟩
              rw [hm.out]
              have hm256 : m < 256 := by have := hm.out; omega
              obtain ⟨r0, hr0⟩ : ∃ r, Hid (m % 2 = r) := ⟨_, Lib.hid rfl⟩
              obtain ⟨q, hq⟩ : ∃ q, Hid (m / 16 = q) := ⟨_, Lib.hid rfl⟩
              obtain ⟨r1, hr1⟩ : ∃ r, Hid (q % 2 = r) := ⟨_, Lib.hid rfl⟩
              obtain ⟨h, hh⟩ : ∃ h, Hid (m / 2 = h) := ⟨_, Lib.hid rfl⟩
              have a1 : (m : Int).tmod 2 = (r0 : Int) := by rw [Int.tmod_eq_emod_of_nonneg (by omega)]; have := hr0.out; omega
              have a1' : (m : Int) % 2 = (r0 : Int) := by have := hr0.out; omega
              have a2 : (m : Int).tdiv 16 = (q : Int) := by rw [Int.tdiv_eq_ediv_of_nonneg (by omega)]; have := hq.out; omega
              have a2' : (m : Int) / 16 = (q : Int) := by have := hq.out; omega
              have a3 : (q : Int).tmod 2 = (r1 : Int) := by rw [Int.tmod_eq_emod_of_nonneg (by omega)]; have := hr1.out; omega
              have a3' : (q : Int) % 2 = (r1 : Int) := by have := hr1.out; omega
              have a4 : (m : Int).tdiv 2 = (h : Int) := by rw [Int.tdiv_eq_ediv_of_nonneg (by omega)]; have := hh.out; omega
              have a4' : (m : Int) / 2 = (h : Int) := by have := hh.out; omega
              have z0 : IntKind.i64.wrap (r0 : Int) = r0 := IntWalk.i64_in _ (by have := hr0.out; omega)
              have z1 : IntKind.i64.wrap (r1 : Int) = r1 := IntWalk.i64_in _ (by have := hr1.out; omega)
              have z2 : IntKind.i64.wrap (q : Int) = q := IntWalk.i64_in _ (by have := hq.out; omega)
              have z3 : IntKind.i64.wrap (h : Int) = h := IntWalk.i64_in _ (by have := hh.out; omega)
              have HH : Hid (h = b1 / 2 ^ (0 + 1)) := Lib.hid (by have := hh.out; have := hm.out; omega)
              obtain ⟨vv, hvv⟩ : ∃ vv, tb b1 4 = vv := ⟨_, rfl⟩
              obtain ⟨dd, hdd⟩ : ∃ dd, tb b1 0 = dd := ⟨_, rfl⟩
              have hv : ((r1 : Int) == 1) = vv := by
                rw [← hvv]; unfold tb
                have e : (r1 = 1) ↔ (b1 / 2 ^ 4 % 2 = 1) := by have := hr1.out; have := hq.out; have := hm.out; omega
                by_cases q1 : r1 = 1
                · rw [decide_eq_true (e.1 q1), q1]; rfl
                · rw [decide_eq_false (fun x => q1 (e.2 x))]; rw [beq_eq_false_iff_ne]; omega
              have hd : ((r0 : Int) == 1) = dd := by
                rw [← hdd]; unfold tb
                have e : (r0 = 1) ↔ (b1 / 2 ^ 0 % 2 = 1) := by have := hr0.out; have := hm.out; omega
                by_cases q1 : r0 = 1
                · rw [decide_eq_true (e.1 q1), q1]; rfl
                · rw [decide_eq_false (fun x => q1 (e.2 x))]; rw [beq_eq_false_iff_ne]; omega
              have cd : wr.cell? ⟨c, 5, none⟩ = some (.bool false) := HX.out.cell (i := 5) (by omega)
              have fd := World.rowIs.frozen HX.out 5
              have hx1 := World.rowIs.set HX.out 5 (.bool dd)
              have cv : (wr.setCell ⟨c, 5, none⟩ (.bool dd)).cell? ⟨c, 1, none⟩ = some (.bool false) := hx1.cell (i := 1) (by omega)
              have fv := World.rowIs.frozen hx1 1
              have hx2 := World.rowIs.set hx1 1 (.bool vv)
              have HX2 : Hid (((wr.setCell ⟨c, 5, none⟩ (.bool dd)).setCell ⟨c, 1, none⟩ (.bool vv)).rowIs c 44 10 (slC (pSi b0 b1 b2 (0 + 1)))) := Lib.hid (hx2.congr fun j hj => by
                rcases (show j = 0 ∨ j = 1 ∨ j = 2 ∨ j = 3 ∨ j = 4 ∨ j = 5 ∨ j = 6 ∨ j = 7 ∨ j = 8 ∨ j = 9 by omega) with rfl | rfl | rfl | rfl | rfl | rfl | rfl | rfl | rfl | rfl <;> first | rfl | (rw [← hvv]; rfl) | (rw [← hdd]; rfl))
              have e1' : ((wr.setCell ⟨c, 5, none⟩ (.bool dd)).setCell ⟨c, 1, none⟩ (.bool vv)).cell? ⟨c, 1, none⟩ = some (.bool vv) := (HX2.out.cell (i := 1) (by omega)).trans (by rw [← hvv]; rfl)
              have e2' : ((wr.setCell ⟨c, 5, none⟩ (.bool dd)).setCell ⟨c, 1, none⟩ (.bool vv)).cell? ⟨c, 5, none⟩ = some (.bool dd) := (HX2.out.cell (i := 5) (by omega)).trans (by rw [← hdd]; rfl)
              have hoth : ∀ q, q ≠ c → ((wr.setCell ⟨c, 5, none⟩ (.bool dd)).setCell ⟨c, 1, none⟩ (.bool vv)).heap[q]? = wr.heap[q]? := fun q hq => (Below.heap_setCell _ ⟨c, 1, none⟩ _ q hq).trans (Below.heap_setCell wr ⟨c, 5, none⟩ _ q hq)
              have HK2 : Hid (Below w1.heap.size w1 ((wr.setCell ⟨c, 5, none⟩ (.bool dd)).setCell ⟨c, 1, none⟩ (.bool vv))) := Lib.hid ((HK.out.setCell (p := ⟨c, 5, none⟩) hc1 (.bool dd)).setCell (p := ⟨c, 1, none⟩) hc1 (.bool vv))
              have HJ2 : Hid (dd = true → vv = true → ∀ j, j < 0 + 1 → tb b1 j = true → tb b1 (4 + j) = true) := Lib.hid (fun h1 h2 j hj hh => by
                by_cases e : j = 0
                · subst e; rw [← hvv] at h2; exact h2
                · exact HJ.out j (by omega) hh)
              have HJ3 : Hid (dd = false → ∀ j, j < 0 + 1 → tb b1 j = true → tb b1 (4 + j) = true) := Lib.hid (fun h1 j hj hh => by
                by_cases e : j = 0
                · subst e; rw [hdd, h1] at hh; exact absurd hh (by simp)
                · exact HJ.out j (by omega) hh)
              have HOKF : Hid (dd = true → vv = false → ¬ accP n s) := Lib.hid (fun h1 h2 ha => by
                have h3 := (okQ_cases (ha.one k hlt).1).1
                rw [HB1.out] at h3
                rw [← hdd] at h1
                rw [← hvv] at h2
                unfold dvB at h3
                rw [h1, h2] at h3
                simp at h3)
              clear hx1 hx2 hoth hvv hdd HX HK HJ
              generalize hw2 : ((wr.setCell ⟨c, 5, none⟩ (.bool dd)).setCell ⟨c, 1, none⟩ (.bool vv)) = w9 at *
              have hcase : (dd = true ∧ vv = false) ∨ (dd = true ∧ vv = true) ∨ dd = false := by cases dd <;> cases vv <;> simp
              rcases hcase with ⟨rfl, rfl⟩ | ⟨rfl, rfl⟩ | rfl
              · have HOF := Lib.hid (HOKF.out rfl rfl)
                have HF2 : Hid (Below w.heap.size w w9) := Lib.hid (HB.out.trans (HK2.out.mono HB.out.size))
                go_upto_region 15 with fail
                try rw [hw2]
                go_wp2_with fail
                go_ret2
                exact RrP.no HOF.out HF2.out
              · have HJ4 := Lib.hid (HJ2.out rfl rfl)
                go_upto_region 15 with fail
                try rw [hw2]
                go_wp2_with fail
                go_roundw
                case rel => exact ⟨0 + 1, rfl, by rw [HH.out], by omega, HX2, HK2, HJ4⟩
                case measure => simp [intOf]
              · have HJ4 := Lib.hid (HJ3.out rfl)
                go_upto_region 15 with fail
                try rw [hw2]
                go_wp2_with fail
                go_roundw
                case rel => exact ⟨0 + 1, rfl, by rw [HH.out], by omega, HX2, HK2, HJ4⟩
                case measure => simp [intOf]
            · rw [show ((1 : Nat) : Int) = 1 from rfl]
              obtain ⟨m, hm⟩ : ∃ m, Hid (b1 / 2 ^ 1 = m) := ⟨_, Lib.hid rfl⟩
              rw [hm.out]
              have hm256 : m < 256 := by have := hm.out; omega
              obtain ⟨r0, hr0⟩ : ∃ r, Hid (m % 2 = r) := ⟨_, Lib.hid rfl⟩
              obtain ⟨q, hq⟩ : ∃ q, Hid (m / 16 = q) := ⟨_, Lib.hid rfl⟩
              obtain ⟨r1, hr1⟩ : ∃ r, Hid (q % 2 = r) := ⟨_, Lib.hid rfl⟩
              obtain ⟨h, hh⟩ : ∃ h, Hid (m / 2 = h) := ⟨_, Lib.hid rfl⟩
              have a1 : (m : Int).tmod 2 = (r0 : Int) := by rw [Int.tmod_eq_emod_of_nonneg (by omega)]; have := hr0.out; omega
              have a1' : (m : Int) % 2 = (r0 : Int) := by have := hr0.out; omega
              have a2 : (m : Int).tdiv 16 = (q : Int) := by rw [Int.tdiv_eq_ediv_of_nonneg (by omega)]; have := hq.out; omega
              have a2' : (m : Int) / 16 = (q : Int) := by have := hq.out; omega
              have a3 : (q : Int).tmod 2 = (r1 : Int) := by rw [Int.tmod_eq_emod_of_nonneg (by omega)]; have := hr1.out; omega
              have a3' : (q : Int) % 2 = (r1 : Int) := by have := hr1.out; omega
              have a4 : (m : Int).tdiv 2 = (h : Int) := by rw [Int.tdiv_eq_ediv_of_nonneg (by omega)]; have := hh.out; omega
              have a4' : (m : Int) / 2 = (h : Int) := by have := hh.out; omega
              have z0 : IntKind.i64.wrap (r0 : Int) = r0 := IntWalk.i64_in _ (by have := hr0.out; omega)
              have z1 : IntKind.i64.wrap (r1 : Int) = r1 := IntWalk.i64_in _ (by have := hr1.out; omega)
              have z2 : IntKind.i64.wrap (q : Int) = q := IntWalk.i64_in _ (by have := hq.out; omega)
              have z3 : IntKind.i64.wrap (h : Int) = h := IntWalk.i64_in _ (by have := hh.out; omega)
              have HH : Hid (h = b1 / 2 ^ (1 + 1)) := Lib.hid (by have := hh.out; have := hm.out; omega)
              obtain ⟨vv, hvv⟩ : ∃ vv, tb b1 5 = vv := ⟨_, rfl⟩
              obtain ⟨dd, hdd⟩ : ∃ dd, tb b1 1 = dd := ⟨_, rfl⟩
              have hv : ((r1 : Int) == 1) = vv := by
                rw [← hvv]; unfold tb
                have e : (r1 = 1) ↔ (b1 / 2 ^ 5 % 2 = 1) := by have := hr1.out; have := hq.out; have := hm.out; omega
                by_cases q1 : r1 = 1
                · rw [decide_eq_true (e.1 q1), q1]; rfl
                · rw [decide_eq_false (fun x => q1 (e.2 x))]; rw [beq_eq_false_iff_ne]; omega
              have hd : ((r0 : Int) == 1) = dd := by
                rw [← hdd]; unfold tb
                have e : (r0 = 1) ↔ (b1 / 2 ^ 1 % 2 = 1) := by have := hr0.out; have := hm.out; omega
                by_cases q1 : r0 = 1
                · rw [decide_eq_true (e.1 q1), q1]; rfl
                · rw [decide_eq_false (fun x => q1 (e.2 x))]; rw [beq_eq_false_iff_ne]; omega
              have cd : wr.cell? ⟨c, 6, none⟩ = some (.bool false) := HX.out.cell (i := 6) (by omega)
              have fd := World.rowIs.frozen HX.out 6
              have hx1 := World.rowIs.set HX.out 6 (.bool dd)
              have cv : (wr.setCell ⟨c, 6, none⟩ (.bool dd)).cell? ⟨c, 2, none⟩ = some (.bool false) := hx1.cell (i := 2) (by omega)
              have fv := World.rowIs.frozen hx1 2
              have hx2 := World.rowIs.set hx1 2 (.bool vv)
              have HX2 : Hid (((wr.setCell ⟨c, 6, none⟩ (.bool dd)).setCell ⟨c, 2, none⟩ (.bool vv)).rowIs c 44 10 (slC (pSi b0 b1 b2 (1 + 1)))) := Lib.hid (hx2.congr fun j hj => by
                rcases (show j = 0 ∨ j = 1 ∨ j = 2 ∨ j = 3 ∨ j = 4 ∨ j = 5 ∨ j = 6 ∨ j = 7 ∨ j = 8 ∨ j = 9 by omega) with rfl | rfl | rfl | rfl | rfl | rfl | rfl | rfl | rfl | rfl <;> first | rfl | (rw [← hvv]; rfl) | (rw [← hdd]; rfl))
              have e1' : ((wr.setCell ⟨c, 6, none⟩ (.bool dd)).setCell ⟨c, 2, none⟩ (.bool vv)).cell? ⟨c, 2, none⟩ = some (.bool vv) := (HX2.out.cell (i := 2) (by omega)).trans (by rw [← hvv]; rfl)
              have e2' : ((wr.setCell ⟨c, 6, none⟩ (.bool dd)).setCell ⟨c, 2, none⟩ (.bool vv)).cell? ⟨c, 6, none⟩ = some (.bool dd) := (HX2.out.cell (i := 6) (by omega)).trans (by rw [← hdd]; rfl)
              have hoth : ∀ q, q ≠ c → ((wr.setCell ⟨c, 6, none⟩ (.bool dd)).setCell ⟨c, 2, none⟩ (.bool vv)).heap[q]? = wr.heap[q]? := fun q hq => (Below.heap_setCell _ ⟨c, 2, none⟩ _ q hq).trans (Below.heap_setCell wr ⟨c, 6, none⟩ _ q hq)
              have HK2 : Hid (Below w1.heap.size w1 ((wr.setCell ⟨c, 6, none⟩ (.bool dd)).setCell ⟨c, 2, none⟩ (.bool vv))) := Lib.hid ((HK.out.setCell (p := ⟨c, 6, none⟩) hc1 (.bool dd)).setCell (p := ⟨c, 2, none⟩) hc1 (.bool vv))
              have HJ2 : Hid (dd = true → vv = true → ∀ j, j < 1 + 1 → tb b1 j = true → tb b1 (4 + j) = true) := Lib.hid (fun h1 h2 j hj hh => by
                by_cases e : j = 1
                · subst e; rw [← hvv] at h2; exact h2
                · exact HJ.out j (by omega) hh)
              have HJ3 : Hid (dd = false → ∀ j, j < 1 + 1 → tb b1 j = true → tb b1 (4 + j) = true) := Lib.hid (fun h1 j hj hh => by
                by_cases e : j = 1
                · subst e; rw [hdd, h1] at hh; exact absurd hh (by simp)
                · exact HJ.out j (by omega) hh)
              have HOKF : Hid (dd = true → vv = false → ¬ accP n s) := Lib.hid (fun h1 h2 ha => by
                have h3 := (okQ_cases (ha.one k hlt).1).1
                rw [HB1.out] at h3
                rw [← hdd] at h1
                rw [← hvv] at h2
                unfold dvB at h3
                rw [h1, h2] at h3
                simp at h3)
              clear hx1 hx2 hoth hvv hdd HX HK HJ
              generalize hw2 : ((wr.setCell ⟨c, 6, none⟩ (.bool dd)).setCell ⟨c, 2, none⟩ (.bool vv)) = w9 at *
              have hcase : (dd = true ∧ vv = false) ∨ (dd = true ∧ vv = true) ∨ dd = false := by cases dd <;> cases vv <;> simp
              rcases hcase with ⟨rfl, rfl⟩ | ⟨rfl, rfl⟩ | rfl
              · have HOF := Lib.hid (HOKF.out rfl rfl)
                have HF2 : Hid (Below w.heap.size w w9) := Lib.hid (HB.out.trans (HK2.out.mono HB.out.size))
                go_upto_region 15 with fail
                try rw [hw2]
                go_wp2_with fail
                go_ret2
                exact RrP.no HOF.out HF2.out
              · have HJ4 := Lib.hid (HJ2.out rfl rfl)
                go_upto_region 15 with fail
                try rw [hw2]
                go_wp2_with fail
                go_roundw
                case rel => exact ⟨1 + 1, rfl, by rw [HH.out], by omega, HX2, HK2, HJ4⟩
                case measure => simp [intOf]
              · have HJ4 := Lib.hid (HJ3.out rfl)
                go_upto_region 15 with fail
                try rw [hw2]
                go_wp2_with fail
                go_roundw
                case rel => exact ⟨1 + 1, rfl, by rw [HH.out], by omega, HX2, HK2, HJ4⟩
                case measure => simp [intOf]
            · rw [show ((2 : Nat) : Int) = 2 from rfl]
              obtain ⟨m, hm⟩ : ∃ m, Hid (b1 / 2 ^ 2 = m) := ⟨_, Lib.hid rfl⟩
              rw [hm.out]
              have hm256 : m < 256 := by have := hm.out; omega
              obtain ⟨r0, hr0⟩ : ∃ r, Hid (m % 2 = r) := ⟨_, Lib.hid rfl⟩
              obtain ⟨q, hq⟩ : ∃ q, Hid (m / 16 = q) := ⟨_, Lib.hid rfl⟩
              obtain ⟨r1, hr1⟩ : ∃ r, Hid (q % 2 = r) := ⟨_, Lib.hid rfl⟩
              obtain ⟨h, hh⟩ : ∃ h, Hid (m / 2 = h) := ⟨_, Lib.hid rfl⟩
              have a1 : (m : Int).tmod 2 = (r0 : Int) := by rw [Int.tmod_eq_emod_of_nonneg (by omega)]; have := hr0.out; omega
              have a1' : (m : Int) % 2 = (r0 : Int) := by have := hr0.out; omega
              have a2 : (m : Int).tdiv 16 = (q : Int) := by rw [Int.tdiv_eq_ediv_of_nonneg (by omega)]; have := hq.out; omega
              have a2' : (m : Int) / 16 = (q : Int) := by have := hq.out; omega
              have a3 : (q : Int).tmod 2 = (r1 : Int) := by rw [Int.tmod_eq_emod_of_nonneg (by omega)]; have := hr1.out; omega
              have a3' : (q : Int) % 2 = (r1 : Int) := by have := hr1.out; omega
              have a4 : (m : Int).tdiv 2 = (h : Int) := by rw [Int.tdiv_eq_ediv_of_nonneg (by omega)]; have := hh.out; omega
              have a4' : (m : Int) / 2 = (h : Int) := by have := hh.out; omega
              have z0 : IntKind.i64.wrap (r0 : Int) = r0 := IntWalk.i64_in _ (by have := hr0.out; omega)
              have z1 : IntKind.i64.wrap (r1 : Int) = r1 := IntWalk.i64_in _ (by have := hr1.out; omega)
              have z2 : IntKind.i64.wrap (q : Int) = q := IntWalk.i64_in _ (by have := hq.out; omega)
              have z3 : IntKind.i64.wrap (h : Int) = h := IntWalk.i64_in _ (by have := hh.out; omega)
              have HH : Hid (h = b1 / 2 ^ (2 + 1)) := Lib.hid (by have := hh.out; have := hm.out; omega)
              obtain ⟨vv, hvv⟩ : ∃ vv, tb b1 6 = vv := ⟨_, rfl⟩
              obtain ⟨dd, hdd⟩ : ∃ dd, tb b1 2 = dd := ⟨_, rfl⟩
              have hv : ((r1 : Int) == 1) = vv := by
                rw [← hvv]; unfold tb
                have e : (r1 = 1) ↔ (b1 / 2 ^ 6 % 2 = 1) := by have := hr1.out; have := hq.out; have := hm.out; omega
                by_cases q1 : r1 = 1
                · rw [decide_eq_true (e.1 q1), q1]; rfl
                · rw [decide_eq_false (fun x => q1 (e.2 x))]; rw [beq_eq_false_iff_ne]; omega
              have hd : ((r0 : Int) == 1) = dd := by
                rw [← hdd]; unfold tb
                have e : (r0 = 1) ↔ (b1 / 2 ^ 2 % 2 = 1) := by have := hr0.out; have := hm.out; omega
                by_cases q1 : r0 = 1
                · rw [decide_eq_true (e.1 q1), q1]; rfl
                · rw [decide_eq_false (fun x => q1 (e.2 x))]; rw [beq_eq_false_iff_ne]; omega
              have cd : wr.cell? ⟨c, 7, none⟩ = some (.bool false) := HX.out.cell (i := 7) (by omega)
              have fd := World.rowIs.frozen HX.out 7
              have hx1 := World.rowIs.set HX.out 7 (.bool dd)
              have cv : (wr.setCell ⟨c, 7, none⟩ (.bool dd)).cell? ⟨c, 3, none⟩ = some (.bool false) := hx1.cell (i := 3) (by omega)
              have fv := World.rowIs.frozen hx1 3
              have hx2 := World.rowIs.set hx1 3 (.bool vv)
              have HX2 : Hid (((wr.setCell ⟨c, 7, none⟩ (.bool dd)).setCell ⟨c, 3, none⟩ (.bool vv)).rowIs c 44 10 (slC (pSi b0 b1 b2 (2 + 1)))) := Lib.hid (hx2.congr fun j hj => by
                rcases (show j = 0 ∨ j = 1 ∨ j = 2 ∨ j = 3 ∨ j = 4 ∨ j = 5 ∨ j = 6 ∨ j = 7 ∨ j = 8 ∨ j = 9 by omega) with rfl | rfl | rfl | rfl | rfl | rfl | rfl | rfl | rfl | rfl <;> first | rfl | (rw [← hvv]; rfl) | (rw [← hdd]; rfl))
              have e1' : ((wr.setCell ⟨c, 7, none⟩ (.bool dd)).setCell ⟨c, 3, none⟩ (.bool vv)).cell? ⟨c, 3, none⟩ = some (.bool vv) := (HX2.out.cell (i := 3) (by omega)).trans (by rw [← hvv]; rfl)
              have e2' : ((wr.setCell ⟨c, 7, none⟩ (.bool dd)).setCell ⟨c, 3, none⟩ (.bool vv)).cell? ⟨c, 7, none⟩ = some (.bool dd) := (HX2.out.cell (i := 7) (by omega)).trans (by rw [← hdd]; rfl)
              have hoth : ∀ q, q ≠ c → ((wr.setCell ⟨c, 7, none⟩ (.bool dd)).setCell ⟨c, 3, none⟩ (.bool vv)).heap[q]? = wr.heap[q]? := fun q hq => (Below.heap_setCell _ ⟨c, 3, none⟩ _ q hq).trans (Below.heap_setCell wr ⟨c, 7, none⟩ _ q hq)
              have HK2 : Hid (Below w1.heap.size w1 ((wr.setCell ⟨c, 7, none⟩ (.bool dd)).setCell ⟨c, 3, none⟩ (.bool vv))) := Lib.hid ((HK.out.setCell (p := ⟨c, 7, none⟩) hc1 (.bool dd)).setCell (p := ⟨c, 3, none⟩) hc1 (.bool vv))
              have HJ2 : Hid (dd = true → vv = true → ∀ j, j < 2 + 1 → tb b1 j = true → tb b1 (4 + j) = true) := Lib.hid (fun h1 h2 j hj hh => by
                by_cases e : j = 2
                · subst e; rw [← hvv] at h2; exact h2
                · exact HJ.out j (by omega) hh)
              have HJ3 : Hid (dd = false → ∀ j, j < 2 + 1 → tb b1 j = true → tb b1 (4 + j) = true) := Lib.hid (fun h1 j hj hh => by
                by_cases e : j = 2
                · subst e; rw [hdd, h1] at hh; exact absurd hh (by simp)
                · exact HJ.out j (by omega) hh)
              have HOKF : Hid (dd = true → vv = false → ¬ accP n s) := Lib.hid (fun h1 h2 ha => by
                have h3 := (okQ_cases (ha.one k hlt).1).1
                rw [HB1.out] at h3
                rw [← hdd] at h1
                rw [← hvv] at h2
                unfold dvB at h3
                rw [h1, h2] at h3
                simp at h3)
              clear hx1 hx2 hoth hvv hdd HX HK HJ
              generalize hw2 : ((wr.setCell ⟨c, 7, none⟩ (.bool dd)).setCell ⟨c, 3, none⟩ (.bool vv)) = w9 at *
              have hcase : (dd = true ∧ vv = false) ∨ (dd = true ∧ vv = true) ∨ dd = false := by cases dd <;> cases vv <;> simp
              rcases hcase with ⟨rfl, rfl⟩ | ⟨rfl, rfl⟩ | rfl
              · have HOF := Lib.hid (HOKF.out rfl rfl)
                have HF2 : Hid (Below w.heap.size w w9) := Lib.hid (HB.out.trans (HK2.out.mono HB.out.size))
                go_upto_region 15 with fail
                try rw [hw2]
                go_wp2_with fail
                go_ret2
                exact RrP.no HOF.out HF2.out
              · have HJ4 := Lib.hid (HJ2.out rfl rfl)
                go_upto_region 15 with fail
                try rw [hw2]
                go_wp2_with fail
                go_roundw
                case rel => exact ⟨2 + 1, rfl, by rw [HH.out], by omega, HX2, HK2, HJ4⟩
                case measure => simp [intOf]
              · have HJ4 := Lib.hid (HJ3.out rfl)
                go_upto_region 15 with fail
                try rw [hw2]
                go_wp2_with fail
                go_roundw
                case rel => exact ⟨2 + 1, rfl, by rw [HH.out], by omega, HX2, HK2, HJ4⟩
                case measure => simp [intOf]
            · rw [show ((3 : Nat) : Int) = 3 from rfl]
              obtain ⟨m, hm⟩ : ∃ m, Hid (b1 / 2 ^ 3 = m) := ⟨_, Lib.hid rfl⟩
              rw [hm.out]
              have hm256 : m < 256 := by have := hm.out; omega
              obtain ⟨r0, hr0⟩ : ∃ r, Hid (m % 2 = r) := ⟨_, Lib.hid rfl⟩
              obtain ⟨q, hq⟩ : ∃ q, Hid (m / 16 = q) := ⟨_, Lib.hid rfl⟩
              obtain ⟨r1, hr1⟩ : ∃ r, Hid (q % 2 = r) := ⟨_, Lib.hid rfl⟩
              obtain ⟨h, hh⟩ : ∃ h, Hid (m / 2 = h) := ⟨_, Lib.hid rfl⟩
              have a1 : (m : Int).tmod 2 = (r0 : Int) := by rw [Int.tmod_eq_emod_of_nonneg (by omega)]; have := hr0.out; omega
              have a1' : (m : Int) % 2 = (r0 : Int) := by have := hr0.out; omega
              have a2 : (m : Int).tdiv 16 = (q : Int) := by rw [Int.tdiv_eq_ediv_of_nonneg (by omega)]; have := hq.out; omega
              have a2' : (m : Int) / 16 = (q : Int) := by have := hq.out; omega
              have a3 : (q : Int).tmod 2 = (r1 : Int) := by rw [Int.tmod_eq_emod_of_nonneg (by omega)]; have := hr1.out; omega
              have a3' : (q : Int) % 2 = (r1 : Int) := by have := hr1.out; omega
              have a4 : (m : Int).tdiv 2 = (h : Int) := by rw [Int.tdiv_eq_ediv_of_nonneg (by omega)]; have := hh.out; omega
              have a4' : (m : Int) / 2 = (h : Int) := by have := hh.out; omega
              have z0 : IntKind.i64.wrap (r0 : Int) = r0 := IntWalk.i64_in _ (by have := hr0.out; omega)
              have z1 : IntKind.i64.wrap (r1 : Int) = r1 := IntWalk.i64_in _ (by have := hr1.out; omega)
              have z2 : IntKind.i64.wrap (q : Int) = q := IntWalk.i64_in _ (by have := hq.out; omega)
              have z3 : IntKind.i64.wrap (h : Int) = h := IntWalk.i64_in _ (by have := hh.out; omega)
              have HH : Hid (h = b1 / 2 ^ (3 + 1)) := Lib.hid (by have := hh.out; have := hm.out; omega)
              obtain ⟨vv, hvv⟩ : ∃ vv, tb b1 7 = vv := ⟨_, rfl⟩
              obtain ⟨dd, hdd⟩ : ∃ dd, tb b1 3 = dd := ⟨_, rfl⟩
              have hv : ((r1 : Int) == 1) = vv := by
                rw [← hvv]; unfold tb
                have e : (r1 = 1) ↔ (b1 / 2 ^ 7 % 2 = 1) := by have := hr1.out; have := hq.out; have := hm.out; omega
                by_cases q1 : r1 = 1
                · rw [decide_eq_true (e.1 q1), q1]; rfl
                · rw [decide_eq_false (fun x => q1 (e.2 x))]; rw [beq_eq_false_iff_ne]; omega
              have hd : ((r0 : Int) == 1) = dd := by
                rw [← hdd]; unfold tb
                have e : (r0 = 1) ↔ (b1 / 2 ^ 3 % 2 = 1) := by have := hr0.out; have := hm.out; omega
                by_cases q1 : r0 = 1
                · rw [decide_eq_true (e.1 q1), q1]; rfl
                · rw [decide_eq_false (fun x => q1 (e.2 x))]; rw [beq_eq_false_iff_ne]; omega
              have cd : wr.cell? ⟨c, 8, none⟩ = some (.bool false) := HX.out.cell (i := 8) (by omega)
              have fd := World.rowIs.frozen HX.out 8
              have hx1 := World.rowIs.set HX.out 8 (.bool dd)
              have cv : (wr.setCell ⟨c, 8, none⟩ (.bool dd)).cell? ⟨c, 4, none⟩ = some (.bool false) := hx1.cell (i := 4) (by omega)
              have fv := World.rowIs.frozen hx1 4
              have hx2 := World.rowIs.set hx1 4 (.bool vv)
              have HX2 : Hid (((wr.setCell ⟨c, 8, none⟩ (.bool dd)).setCell ⟨c, 4, none⟩ (.bool vv)).rowIs c 44 10 (slC (pSi b0 b1 b2 (3 + 1)))) := Lib.hid (hx2.congr fun j hj => by
                rcases (show j = 0 ∨ j = 1 ∨ j = 2 ∨ j = 3 ∨ j = 4 ∨ j = 5 ∨ j = 6 ∨ j = 7 ∨ j = 8 ∨ j = 9 by omega) with rfl | rfl | rfl | rfl | rfl | rfl | rfl | rfl | rfl | rfl <;> first | rfl | (rw [← hvv]; rfl) | (rw [← hdd]; rfl))
              have e1' : ((wr.setCell ⟨c, 8, none⟩ (.bool dd)).setCell ⟨c, 4, none⟩ (.bool vv)).cell? ⟨c, 4, none⟩ = some (.bool vv) := (HX2.out.cell (i := 4) (by omega)).trans (by rw [← hvv]; rfl)
              have e2' : ((wr.setCell ⟨c, 8, none⟩ (.bool dd)).setCell ⟨c, 4, none⟩ (.bool vv)).cell? ⟨c, 8, none⟩ = some (.bool dd) := (HX2.out.cell (i := 8) (by omega)).trans (by rw [← hdd]; rfl)
              have hoth : ∀ q, q ≠ c → ((wr.setCell ⟨c, 8, none⟩ (.bool dd)).setCell ⟨c, 4, none⟩ (.bool vv)).heap[q]? = wr.heap[q]? := fun q hq => (Below.heap_setCell _ ⟨c, 4, none⟩ _ q hq).trans (Below.heap_setCell wr ⟨c, 8, none⟩ _ q hq)
              have HK2 : Hid (Below w1.heap.size w1 ((wr.setCell ⟨c, 8, none⟩ (.bool dd)).setCell ⟨c, 4, none⟩ (.bool vv))) := Lib.hid ((HK.out.setCell (p := ⟨c, 8, none⟩) hc1 (.bool dd)).setCell (p := ⟨c, 4, none⟩) hc1 (.bool vv))
              have HJ2 : Hid (dd = true → vv = true → ∀ j, j < 3 + 1 → tb b1 j = true → tb b1 (4 + j) = true) := Lib.hid (fun h1 h2 j hj hh => by
                by_cases e : j = 3
                · subst e; rw [← hvv] at h2; exact h2
                · exact HJ.out j (by omega) hh)
              have HJ3 : Hid (dd = false → ∀ j, j < 3 + 1 → tb b1 j = true → tb b1 (4 + j) = true) := Lib.hid (fun h1 j hj hh => by
                by_cases e : j = 3
                · subst e; rw [hdd, h1] at hh; exact absurd hh (by simp)
                · exact HJ.out j (by omega) hh)
              have HOKF : Hid (dd = true → vv = false → ¬ accP n s) := Lib.hid (fun h1 h2 ha => by
                have h3 := (okQ_cases (ha.one k hlt).1).1
                rw [HB1.out] at h3
                rw [← hdd] at h1
                rw [← hvv] at h2
                unfold dvB at h3
                rw [h1, h2] at h3
                simp at h3)
              clear hx1 hx2 hoth hvv hdd HX HK HJ
              generalize hw2 : ((wr.setCell ⟨c, 8, none⟩ (.bool dd)).setCell ⟨c, 4, none⟩ (.bool vv)) = w9 at *
              have hcase : (dd = true ∧ vv = false) ∨ (dd = true ∧ vv = true) ∨ dd = false := by cases dd <;> cases vv <;> simp
              rcases hcase with ⟨rfl, rfl⟩ | ⟨rfl, rfl⟩ | rfl
              · have HOF := Lib.hid (HOKF.out rfl rfl)
                have HF2 : Hid (Below w.heap.size w w9) := Lib.hid (HB.out.trans (HK2.out.mono HB.out.size))
                go_upto_region 15 with fail
                try rw [hw2]
                go_wp2_with fail
                go_ret2
                exact RrP.no HOF.out HF2.out
              · have HJ4 := Lib.hid (HJ2.out rfl rfl)
                go_upto_region 15 with fail
                try rw [hw2]
                go_wp2_with fail
                go_roundw
                case rel => exact ⟨3 + 1, rfl, by rw [HH.out], by omega, HX2, HK2, HJ4⟩
                case measure => simp [intOf]
              · have HJ4 := Lib.hid (HJ3.out rfl)
                go_upto_region 15 with fail
                try rw [hw2]
                go_wp2_with fail
                go_roundw
                case rel => exact ⟨3 + 1, rfl, by rw [HH.out], by omega, HX2, HK2, HJ4⟩
                case measure => simp [intOf]
          · obtain rfl : i = 4 := by omega
            rw [show ((4 : Nat) : Int) = 4 from rfl]
            generalize b1 / 2 ^ 4 = m
            have hdv : dvB b1 = true := by
              have j0 := HJ.out 0 (by omega)
              have j1 := HJ.out 1 (by omega)
              have j2 := HJ.out 2 (by omega)
              have j3 := HJ.out 3 (by omega)
              unfold dvB
              cases hq0 : tb b1 0 <;> cases hq1 : tb b1 1 <;> cases hq2 : tb b1 2 <;> cases hq3 : tb b1 3 <;> simp_all
            obtain ⟨P, hP⟩ : ∃ P, pS b0 b1 b2 = P := ⟨_, rfl⟩
            have hX : wr.rowIs c 44 10 (slC P) := by rw [← hP]; exact HX.out
            have hG : P.g = (b0 : Int) - 1 := by rw [← hP]; rfl
            have hLv : P.l = (b2 : Int) := by rw [← hP]; rfl
            have x10 : wr.cell? ⟨c, 0, none⟩ = some (.int .i64 P.g) ∧ wr.cell? ⟨c, 1, none⟩ = some (.bool P.v0) ∧ wr.cell? ⟨c, 2, none⟩ = some (.bool P.v1) ∧ wr.cell? ⟨c, 3, none⟩ = some (.bool P.v2) ∧ wr.cell? ⟨c, 4, none⟩ = some (.bool P.v3) ∧ wr.cell? ⟨c, 5, none⟩ = some (.bool P.d0) ∧ wr.cell? ⟨c, 6, none⟩ = some (.bool P.d1) ∧ wr.cell? ⟨c, 7, none⟩ = some (.bool P.d2) ∧ wr.cell? ⟨c, 8, none⟩ = some (.bool P.d3) ∧ wr.cell? ⟨c, 9, none⟩ = some (.int .i64 P.l) := ⟨hX.cell (i := 0) (by omega), hX.cell (i := 1) (by omega), hX.cell (i := 2) (by omega), hX.cell (i := 3) (by omega), hX.cell (i := 4) (by omega), hX.cell (i := 5) (by omega), hX.cell (i := 6) (by omega), hX.cell (i := 7) (by omega), hX.cell (i := 8) (by omega), hX.cell (i := 9) (by omega)⟩
            have HBW := Lib.hid (HB.out.trans (HK.out.mono HB.out.size))
            have HL2 := Lib.hid (HL.out.below HK.out)
            have HXP : Hid (XR s k = P) := Lib.hid (HXR.out.trans hP)
            have HNQ : Hid (okQ b0 b1 b2 = false → ¬ accP n s) := Lib.hid (fun h ha => by
              have := (ha.one k hlt).1
              rw [HOK.out, h] at this
              exact absurd this (by simp))
            have hokq : okQ b0 b1 b2 = (decide (b0 ≤ 16) && decide (b2 < 4) && (decide (b0 ≠ 0) || decide (P = frS))) := by unfold okQ; rw [hdv, hP]; simp
            have hpfr : P = frS → b0 = 0 ∧ b1 = 0 ∧ b2 = 0 := fun h => pS_fr h1 (hP.trans h)
            have hpz : b0 = 0 → b1 = 0 → b2 = 0 → P = frS := fun q1 q2 q3 => by rw [← hP, q1, q2, q3]; exact pS_zero
            clear hX hP HX HK HJ HL HB hdv
            have hc6 : (b0 = 0 ∧ 0 < b1) ∨ (b0 = 0 ∧ b1 = 0 ∧ 0 < b2) ∨ (1 ≤ b0 ∧ 16 < b0) ∨ (1 ≤ b0 ∧ b0 ≤ 16 ∧ 3 < b2) ∨ (b0 = 0 ∧ b1 = 0 ∧ b2 = 0) ∨ (1 ≤ b0 ∧ b0 ≤ 16 ∧ b2 ≤ 3) := by omega
            have hbad : (b0 = 0 ∧ 0 < b1) ∨ (b0 = 0 ∧ b1 = 0 ∧ 0 < b2) ∨ (1 ≤ b0 ∧ 16 < b0) ∨ (1 ≤ b0 ∧ b0 ≤ 16 ∧ 3 < b2) → okQ b0 b1 b2 = false := fun h => by
              rw [hokq]
              cases hq : decide (P = frS) with
              | true =>
                obtain ⟨q0, q1, q2⟩ := hpfr (of_decide_eq_true hq)
                omega
              | false =>
                simp
                omega
            have hgood : (b0 = 0 ∧ b1 = 0 ∧ b2 = 0) ∨ (1 ≤ b0 ∧ b0 ≤ 16 ∧ b2 ≤ 3) → okQ b0 b1 b2 = true := fun h => by
              rw [hokq]
              rcases h with ⟨q0, q1, q2⟩ | ⟨q0, q1, q2⟩
              · rw [decide_eq_true (hpz q0 q1 q2)]; simp; omega
              · simp; omega
            have HBAD := Lib.hid hbad
            have HGOOD := Lib.hid hgood
            clear hokq hpfr hpz hbad hgood
            rcases hc6 with u | u | u | u | u | u
            · have HN := Lib.hid (HNQ.out (HBAD.out (Or.inl u)))
              have t1 : P.g < 0 := by omega
              have t2 : 0 < (b1 : Int) := by omega
              clear hG hLv u
              go_wp2_with fail
              go_ret2
              exact RrP.no HN.out HBW.out
            · have HN := Lib.hid (HNQ.out (HBAD.out (Or.inr (Or.inl u))))
              have t1 : P.g < 0 := by omega
              have t2 : ¬ 0 < (b1 : Int) := by omega
              have t3 : 0 < P.l := by omega
              clear hG hLv u
              go_wp2_with fail
              go_ret2
              exact RrP.no HN.out HBW.out
            · have HN := Lib.hid (HNQ.out (HBAD.out (Or.inr (Or.inr (Or.inl u)))))
              have t1 : ¬ P.g < 0 := by omega
              have t2 : 15 < P.g := by omega
              clear hG hLv u
              go_wp2_with fail
              go_ret2
              exact RrP.no HN.out HBW.out
            · have HN := Lib.hid (HNQ.out (HBAD.out (Or.inr (Or.inr (Or.inr u)))))
              have t1 : ¬ P.g < 0 := by omega
              have t2 : ¬ 15 < P.g := by omega
              have t3 : 3 < P.l := by omega
              clear hG hLv u
              go_wp2_with fail
              go_ret2
              exact RrP.no HN.out HBW.out
            all_goals
              have HOK2 : Hid (okS s k = true) := Lib.hid (by rw [HOK.out]; exact HGOOD.out (by first | exact Or.inl u | exact Or.inr u))
              have t1 : P.g < 0 ∨ ¬ P.g < 0 := by omega
              have t2 : ¬ 15 < P.g := by omega
              have t3 : ¬ 3 < P.l := by omega
              have t4 : (P.g < 0 ∧ ¬ 0 < (b1 : Int) ∧ ¬ 0 < P.l) ∨ ¬ P.g < 0 := by omega
              have CF := Lib.hid (rfind_any w.heap.size k (.slice al k cl) (XR s) P.g wr HL2.out (by omega))
              have HFN : Hid (fndR (XR s) k P.g < 0 ↔ newR s k) := Lib.hid (by rw [← HXP.out]; exact fndR_new)
              obtain ⟨F, hF⟩ : ∃ F, fndR (XR s) k P.g = F := ⟨_, rfl⟩
              rw [hF] at CF HFN
              clear hF hG hLv u t1
              have hFc : ¬ 0 ≤ F ∨ 0 ≤ F := by omega
              rcases t4 with ⟨t4, t5, t6⟩ | t4
              all_goals
                rcases hFc with hF0 | hF0
                · have HNR : Hid (newR s k) := Lib.hid (HFN.out.1 (by omega))
                  have HG2 : Hid (GoodR s (k + 1)) := Lib.hid (fun j hj => by
                    by_cases e : j < k
                    · exact HG.out j e
                    · obtain rfl : j = k := by omega
                      exact ⟨HOK2.out, HNR.out⟩)
                  go_wp2_with fail
                  refine CF.out.mono ?_
                  rintro e w5 ⟨rfl, rfl⟩
                  have hrow : (wr.alloc (.cells #[.int .i64 P.g, .bool P.v0, .bool P.v1, .bool P.v2, .bool P.v3, .bool P.d0, .bool P.d1, .bool P.d2, .bool P.d3, .int .i64 P.l] 44)).heap[wr.heap.size]? = some (.cells #[.int .i64 P.g, .bool P.v0, .bool P.v1, .bool P.v2, .bool P.v3, .bool P.d0, .bool P.d1, .bool P.d2, .bool P.d3, .int .i64 P.l] 44 (0, 0)) := heap_alloc_new _ _
                  clear CF
                  have hszB := HBW.out.size
                  go_wp2_with (at_builtin; refine wpList_append_own _ rfl _ _ 28 rfl w.heap.size 44 i0 (.agg #[.int .i64 0, .bool false, .bool false, .bool false, .bool false, .bool false, .bool false, .bool false, .bool false, .int .i64 0]) 10 24 Try.underlying28 hi0 hz0 hz1 hz2 rfl (by decide) _ k (LL (XR s) k) rfl (HL2.out.alloc _) ⟨wr.heap.size, 0, none⟩ 1 1 (slA P).toList rfl rfl ?c1 ?c2 ?c3 ?c4 ?c5 ?_)
                  case c1 =>
                    intro j u hu
                    rw [Addr.add_mid, Nat.zero_add]
                    rw [Array.getElem?_toList] at hu
                    exact row_cell22 hrow j u hu
                  case c2 =>
                    intro u hu
                    simp [slA] at hu
                    rcases hu with rfl | rfl | rfl | rfl | rfl | rfl | rfl | rfl | rfl | rfl <;> rfl
                  case c3 => unfold maxLen; omega
                  case c4 => omega
                  case c5 => simp; omega
                  intro v' w6 hown hg _
                  have HB6 := Lib.hid ((HBW.out.alloc hszB (.cells #[.int .i64 P.g, .bool P.v0, .bool P.v1, .bool P.v2, .bool P.v3, .bool P.d0, .bool P.d1, .bool P.d2, .bool P.d3, .int .i64 P.l] 44)).grown hg (by simp; omega) (fun j e => (HL2.out.lt j e).1))
                  have HL6 : Hid (LAt w6 w.heap.size v' (k + 1) (XR s)) := Lib.hid (by unfold LAt; rw [LL_snoc, HXP.out]; exact hown)
                  obtain ⟨a2, c2, rfl⟩ := own_form hown
                  clear hown hg HBW HL2 hrow x10
                  go_wp2_with fail
                  go_roundw
                  case rel => exact ⟨k + 1, by go_num, by omega, HL6, HB6, HG2⟩
                  case measure => simp [intOf]; omega
                · have HN : Hid (¬ accP n s) := Lib.hid (fun ha => by
                    have := HFN.out.2 (ha.one k hlt).2.2
                    omega)
                  go_wp2_with fail
                  refine CF.out.mono ?_
                  rintro e w5 ⟨rfl, rfl⟩
                  clear CF
                  go_wp2_with fail
                  go_ret2
                  exact RrP.no HN.out HBW.out
      · obtain rfl : k = n := by omega
        have hli : ¬ (k : Int) < (k : Int) := by omega
        obtain ⟨al, cl, rfl⟩ := own_form HL.out
        have HLT : Hid (LAt wr w.heap.size (.slice al k cl) k (TR s k)) := Lib.hid (HL.out.congr (fun j hj => by unfold TR; rw [if_pos hj]))
        have CB := Lib.hid (rbytes_any w.heap.size k (.slice al k cl) (TR s k) wr HLT.out h8 (fun j => by
          unfold TR
          split
          · rename_i q; exact okQ_ok (HG.out j q).1
          · exact frS_ok))
        have hte := text_acc hs h8
        obtain ⟨E, hE⟩ : ∃ E, (⟨(zpadL (byT (TR s k) k) 48).toArray⟩ : ByteArray) = E := ⟨_, rfl⟩
        rw [hE] at hte CB
        clear hE
        by_cases heq : E = s
        · have HA : Hid (accP k s) := Lib.hid ⟨hs, fun j hj => ⟨(HG.out j hj).1, (hte.1 heq).1 j hj, (HG.out j hj).2⟩, (hte.1 heq).2⟩
          have hq : (E.toList == s.toList) = true := by rw [heq]; simp
          clear hte heq HG
          go_wp2_with fail
          refine CB.out.mono ?_
          rintro e w3 ⟨rfl, b3⟩
          have HB3 := Lib.hid (HB.out.trans (b3.mono HB.out.size))
          have HL3 := Lib.hid (HLT.out.below b3)
          clear b3 CB HB HLT HL
          go_wp2_with fail
          go_ret2
          exact RrP.yes HA.out HL3.out HB3.out
        · have HN : Hid (¬ accP k s) := Lib.hid (fun ha => heq (hte.2 ⟨fun j hj => (ha.one j hj).2.1, ha.zero⟩))
          have hq := bane22 E s heq
          clear hte HG
          go_wp2_with fail
          refine CB.out.mono ?_
          rintro e w3 ⟨rfl, b3⟩
          have HB3 := Lib.hid (HB.out.trans (b3.mono HB.out.size))
          clear b3 CB HB HLT HL
          go_wp2_with fail
          go_ret2
          exact RrP.no HN.out HB3.out
  · have h48 : ¬ (s.size : Int) = 48 := by omega
    have HN : Hid (¬ accP n s) := Lib.hid (fun ha => hs ha.size)
    go_wp2_with fail
    go_ret2
    exact RrP.no HN.out (Below.refl _ _)
end Go.Proofs.Ythhgodfgigcacaa
