/- Contracts (cellaret): tally's counter, a call of it. -/
import Derived.Test.YtnbmpackjgffaaaTaB
import Derived.Deep.CutRange
import Derived.Test.YtnbmpackjgffaaaLin
import Derived.Deep.DeepCutAuto
namespace Go.Proofs.Ytnbmpackjgffaaa
open Go.RowKit Go.Deep
set_option linter.unusedVariables false
attribute [local go_sem] unary_negf run_store_complex run_store_float
theorem kindAt_nat (k : Int) (κ : Nat) (h : kindI k = κ) (w : World) : Calls Try.prog 26 #[.int .i64 k] w fun e w' => e = .returned (.int .i64 (κ : Int)) ∧ w = w' := by rw [← h]; exact kindAt_any k w
theorem errorAt_nat (k : Int) (κ : Nat) (h : errI k = κ) (w : World) : Calls Try.prog 27 #[.int .i64 k] w fun e w' => e = .returned (.int .i64 (κ : Int)) ∧ w = w' := by rw [← h]; exact errorAt_any k w
theorem bcell {W w1 : World} (hb : Below W.heap.size W w1) : (∀ b o, b < W.heap.size → w1.cell? ⟨b, o, none⟩ = W.cell? ⟨b, o, none⟩) ∧ (∀ b o, b < W.heap.size → w1.frozen? ⟨b, o, none⟩ = W.frozen? ⟨b, o, none⟩) :=
  ⟨fun b o h => hb.cell (p := ⟨b, o, none⟩) h, fun b o h => hb.frozen (p := ⟨b, o, none⟩) h⟩
/-- What stands in memory in the midst of a count. -/
structure Mid (w wx : World) (g bx ba : Nat) (T : Tl) (i : Int) (k e : Int) (s : ByteArray) : Prop where
  t : TallyAt wx g T
  x : OneAt wx bx 52 (.pointer (some ⟨g, 0, none⟩))
  a : OneAt wx ba 3 (.int .i64 i)
  ck : wx.cell? ⟨w.heap.size, 0, none⟩ = some (.int .i64 k)
  ce : wx.cell? ⟨w.heap.size + 1, 0, none⟩ = some (.int .i64 e)
  cs : wx.cell? ⟨w.heap.size + 1, 1, none⟩ = some (.string s)
  lb : ba < w.heap.size
  bl : Below g w wx
theorem Mid.drewN {w wx : World} {g bx ba : Nat} {T : Tl} {i k e : Int} {s : ByteArray} (h : Mid w wx g bx ba T i k e s) (n : Nat) : Mid w (wx.drewN n) g bx ba T i k e s := ⟨h.t, h.x, h.a, h.ck, h.ce, h.cs, h.lb, below_drewN h.bl n⟩
theorem Mid.drew {w wx : World} {g bx ba : Nat} {T : Tl} {i k e : Int} {s : ByteArray} (h : Mid w wx g bx ba T i k e s) : Mid w wx.drew g bx ba T i k e s := h.drewN 1
theorem Mid.put {w wx : World} {g bx ba : Nat} {T U : Tl} {i k e : Int} {s : ByteArray} (h : Mid w wx g bx ba T i k e s) (hgx : g < bx) (hxa : bx < ba) (j : Nat) (v : Value) (hU : TallyAt (wx.setCell ⟨g, j, none⟩ v) g U) : Mid w (wx.setCell ⟨g, j, none⟩ v) g bx ba U i k e s := by
  have lb := h.lb
  have o : ∀ p : Addr, p.block ≠ g → (wx.setCell ⟨g, j, none⟩ v).cell? p = wx.cell? p := fun p hp => World.cell?_setCell_other _ _ _ _ (by rintro rfl; exact hp rfl)
  exact ⟨hU, h.x.other _ _ (by simp; omega), h.a.other _ _ (by simp; omega), (o _ (by simp; omega)).trans h.ck, (o _ (by simp; omega)).trans h.ce, (o _ (by simp; omega)).trans h.cs, h.lb, h.bl.setCell (p := ⟨g, j, none⟩) (Nat.le_refl _) _⟩
theorem Mid.below {w wx wy : World} {g bx ba : Nat} {T : Tl} {i k e : Int} {s : ByteArray} (h : Mid w wx g bx ba T i k e s) (hs : w.heap.size + 1 < wx.heap.size) (hgx : g < bx) (hxa : bx < ba) (hb : Below wx.heap.size wx wy) : Mid w wy g bx ba T i k e s :=
  have lb := h.lb
  ⟨h.t.below hb h.t.lt, h.x.below hb h.x.lt, h.a.below hb h.a.lt, (hb.cell (p := ⟨w.heap.size, 0, none⟩) (by simp; omega)).trans h.ck, (hb.cell (p := ⟨w.heap.size + 1, 0, none⟩) (by simp; omega)).trans h.ce, (hb.cell (p := ⟨w.heap.size + 1, 1, none⟩) (by simp; omega)).trans h.cs, h.lb, h.bl.trans (hb.mono (Nat.le_of_lt h.t.lt))⟩
/-- What a tally becomes by one act and its answer, i of them being ahead. -/
def Step (T : Tl) (k e : Int) (κ ε sz i : Nat) (U : Tl) : Prop := U.a = upd T.a κ (IntKind.i64.wrap (T.a κ + 1)) ∧ U.e = upd T.e ε (IntKind.i64.wrap (T.e ε + 1)) ∧
  ((k = 1 ∧ e = 0) → U.b = wrap64 (T.b + sz) ∧ FAns (fadd T.x (turnF (i % 4) (4607182418800017408, 0)).1) U.x ∧ FAns (fadd T.y (turnF (i % 4) (4607182418800017408, 0)).2) U.y) ∧
  (¬ (k = 1 ∧ e = 0) → U.b = T.b ∧ U.x = T.x ∧ U.y = T.y)
/-- What stands in memory behind a count. -/
structure Done (w w' : World) (g bx ba : Nat) (U : Tl) (i : Int) : Prop where
  t : TallyAt w' g U
  x : OneAt w' bx 52 (.pointer (some ⟨g, 0, none⟩))
  a : OneAt w' ba 3 (.int .i64 i)
  bl : Below g w w'
theorem Mid.done {w wx : World} {g bx ba : Nat} {T : Tl} {i k e : Int} {s : ByteArray} (h : Mid w wx g bx ba T i k e s) (hgx : g < bx) (hxa : bx < ba) (j : Int) : Done w (wx.setCell ⟨ba, 0, none⟩ (.int .i64 j)) g bx ba T j :=
  ⟨h.t.other _ _ (by simp; omega), h.x.other _ _ (by simp; omega), h.a.put _, h.bl.setCell (p := ⟨ba, 0, none⟩) (by simp; omega) _⟩
set_option maxRecDepth 100000 in
set_option maxHeartbeats 4000000 in
theorem count_any (k e : Int) (κ ε : Nat) (s : ByteArray) (u1 u2 u3 s' l1 l4 t1 t2 t4 t5 n : Value) (w : World) (bx g ba : Nat) (T : Tl) (i : Nat)
    (hκ : kindI k = κ) (hε : errI e = ε) (hi : i < 9007199254740991) (hT : TallyAt w g T) (hx : OneAt w bx 52 (.pointer (some ⟨g, 0, none⟩))) (ha : OneAt w ba 3 (.int .i64 i))
    (hgx : g < bx) (hxa : bx < ba) :
    Calls Try.prog 25 #[.agg #[.int .i64 k, u1, u2, u3, s', l1, t1, t2, l4, t4, t5], .agg #[.int .i64 e, .string s, n], .pointer (some ⟨bx, 0, none⟩), .pointer (some ⟨ba, 0, none⟩)] w fun r w' => r = .returned (.tuple #[]) ∧ ∃ U, Step T k e κ ε s.size i U ∧ Done w w' g bx ba U (i + 1) := by
  have hκ' : κ < 24 := by have := kindI_range k; omega
  have hε' : ε < 32 := by have := errI_range e; omega
  have hki : (κ : Int) < 24 := by omega
  have hei : (ε : Int) < 32 := by omega
  have HK := Lib.hid (fun w => kindAt_nat k κ hκ w)
  have HE := Lib.hid (fun w => errorAt_nat e ε hε w)
  have l0 := hT.lt
  have l2 := hx.lt
  have l3 := ha.lt
  obtain ⟨w2, HW2, M0, S0⟩ : ∃ w2, Hid ((w.alloc (.cells #[.int .i64 k, u1, u2, u3, s', l1, t1, t2, l4, t4, t5] 57)).alloc (.cells #[.int .i64 e, .string s, n] 60) = w2) ∧ Mid w w2 g bx ba T i k e s ∧ w2.heap.size = w.heap.size + 2 := by
    have hb : Below w.heap.size w ((w.alloc (.cells #[.int .i64 k, u1, u2, u3, s', l1, t1, t2, l4, t4, t5] 57)).alloc (.cells #[.int .i64 e, .string s, n] 60)) := ((Below.refl _ _).alloc (Nat.le_refl _) _).alloc (by simp) _
    refine ⟨_, Lib.hid rfl, ⟨hT.below hb l0, hx.below hb l2, ha.below hb l3, by simp [go_sem], by simp [go_sem], by simp [go_sem], l3, hb.mono (by omega)⟩, by simp⟩
  have c1 := M0.x.cell
  have c2 := M0.t.ca κ hκ'
  have f2 := M0.t.free κ
  have c3 := M0.ck
  clear hκ hε hT hx ha
  have HM0 := Lib.hid M0
  clear M0
  go_enter Try.func25, Try.ntmps25
  go_wp2
  rw [HW2.out]
  clear HW2
  go_cut [] from 6 (fun wx => Hid (Mid w wx g bx ba { T with a := upd T.a κ (IntKind.i64.wrap (T.a κ + 1)) } i k e s) ∧ wx.heap.size = w.heap.size + 2)
  case first =>
    refine wp_region_lin (S := (fun w' => w'.cell? ⟨bx, 0, none⟩ = some (.pointer (some ⟨g, 0, none⟩)) ∧ w'.cell? ⟨w.heap.size, 0, none⟩ = some (.int .i64 k) ∧ w'.cell? ⟨g, κ, none⟩ = some (.int .i64 (T.a κ)))) [(0, true), (1, true), (2, true), (4, true), (5, true), (9, true), (10, true), (3, false), (6, true), (7, true), (8, true), (11, true), (12, false)] (by kernel_rfl) (by kernel_rfl) rfl (by kernel_rfl) ?_ (fun hHeld => ?_)
    · (try dsimp only); exact ⟨c1, c3, c2⟩
    (refine wpL_calm (o := { dst := some 6, op := Go.Op.load 52 (Go.Operand.tmp 2), type := 52, pos := "tally.go:36", after := #[], guard := none }) (v := ?_) rfl (Or.inl ⟨by rfl, ?_⟩) ?_; rotate_left; (focus (intro w hSw; (try dsimp only at hSw); go_simp; (try (with_reducible rfl)); done)); try simp only [Act.put, List.setIfInBounds_toArray, List.set_cons_zero, List.set_cons_succ])
    (refine wpL_calm (o := { dst := some 7, op := Go.Op.fieldAddr 57 (Go.Operand.tmp 4) 0, type := 0, pos := "tally.go:36", after := #[], guard := none }) (v := ?_) rfl (Or.inl ⟨by rfl, ?_⟩) ?_; rotate_left; (focus (intro w hSw; (try dsimp only at hSw); go_simp; (try (with_reducible rfl)); done)); try simp only [Act.put, List.setIfInBounds_toArray, List.set_cons_zero, List.set_cons_succ])
    (refine wpL_calm (o := { dst := some 8, op := Go.Op.load 3 (Go.Operand.tmp 7), type := 3, pos := "tally.go:36", after := #[{ on := 1, ground := Go.Ground.data }], guard := none }) (v := ?_) rfl (Or.inl ⟨by rfl, ?_⟩) ?_; rotate_left; (focus (intro w hSw; (try dsimp only at hSw); go_simp; (try (with_reducible rfl)); done)); try simp only [Act.put, List.setIfInBounds_toArray, List.set_cons_zero, List.set_cons_succ])
    (refine wpL_calm (o := { dst := some 10, op := Go.Op.nilCheck (Go.Operand.tmp 6), type := 0, pos := "tally.go:36", after := #[{ on := 0, ground := Go.Ground.data }], guard := none }) (v := ?_) rfl (Or.inl ⟨by rfl, ?_⟩) ?_; rotate_left; (focus (intro w hSw; (try dsimp only at hSw); go_simp; (try (with_reducible rfl)); done)); try simp only [Act.put, List.setIfInBounds_toArray, List.set_cons_zero, List.set_cons_succ])
    (refine wpL_calm (o := { dst := some 11, op := Go.Op.fieldAddr 28 (Go.Operand.tmp 10) 0, type := 0, pos := "tally.go:36", after := #[{ on := 4, ground := Go.Ground.data }], guard := none }) (v := ?_) rfl (Or.inl ⟨by rfl, ?_⟩) ?_; rotate_left; (focus (intro w hSw; (try dsimp only at hSw); go_simp; (try (with_reducible rfl)); done)); try simp only [Act.put, List.setIfInBounds_toArray, List.set_cons_zero, List.set_cons_succ])
    (refine wpL_calm (o := { dst := some 15, op := Go.Op.nilCheck (Go.Operand.tmp 6), type := 0, pos := "tally.go:36", after := #[{ on := 0, ground := Go.Ground.data }], guard := none }) (v := ?_) rfl (Or.inl ⟨by rfl, ?_⟩) ?_; rotate_left; (focus (intro w hSw; (try dsimp only at hSw); go_simp; (try (with_reducible rfl)); done)); try simp only [Act.put, List.setIfInBounds_toArray, List.set_cons_zero, List.set_cons_succ])
    (refine wpL_calm (o := { dst := some 16, op := Go.Op.fieldAddr 28 (Go.Operand.tmp 15) 0, type := 0, pos := "tally.go:36", after := #[{ on := 9, ground := Go.Ground.data }], guard := none }) (v := ?_) rfl (Or.inl ⟨by rfl, ?_⟩) ?_; rotate_left; (focus (intro w hSw; (try dsimp only at hSw); go_simp; (try (with_reducible rfl)); done)); try simp only [Act.put, List.setIfInBounds_toArray, List.set_cons_zero, List.set_cons_succ])
    refine wpL_loud1 (o := { dst := some 9, op := Go.Op.call { callee := Go.Callee.value (Go.Operand.func 26), args := #[Go.Operand.tmp 8], argTypes := #[3] }, type := 3, pos := "tally.go:36", after := #[{ on := 2, ground := Go.Ground.data }], guard := none }) rfl (fun K hK => ?_)
    go_simp; go_at_call 26; refine (HK.out _).mono ?_; rintro e w' ⟨rfl, rfl⟩
    try go_wp2_with fail
    refine hK.out _ _ ?_ (fun hHeld => ?_)
    · (try dsimp only); exact hHeld
    clear hK K
    try simp only [Act.put, List.setIfInBounds_toArray, List.set_cons_zero, List.set_cons_succ]
    (refine wpL_calm (o := { dst := some 12, op := Go.Op.indexAddr 24 (Go.Operand.tmp 11) (Go.Operand.tmp 9), type := 0, pos := "tally.go:36", after := #[{ on := 5, ground := Go.Ground.data }, { on := 3, ground := Go.Ground.data }], guard := none }) (v := ?_) rfl (Or.inl ⟨by rfl, ?_⟩) ?_; rotate_left; (focus (intro w hSw; (try dsimp only at hSw); go_simp; (try (with_reducible rfl)); done)); try simp only [Act.put, List.setIfInBounds_toArray, List.set_cons_zero, List.set_cons_succ])
    (refine wpL_calm (o := { dst := some 13, op := Go.Op.load 3 (Go.Operand.tmp 12), type := 3, pos := "tally.go:36", after := #[{ on := 6, ground := Go.Ground.data }], guard := none }) (v := ?_) rfl (Or.inl ⟨by rfl, ?_⟩) ?_; rotate_left; (focus (intro w hSw; (try dsimp only at hSw); go_simp; (try (with_reducible rfl)); done)); try simp only [Act.put, List.setIfInBounds_toArray, List.set_cons_zero, List.set_cons_succ])
    (refine wpL_calm (o := { dst := some 14, op := Go.Op.binOp Go.BinOp.add 3 (Go.Operand.tmp 13) (Go.Operand.const (Go.Value.int Go.IntKind.i64 1)) 3, type := 3, pos := "tally.go:36", after := #[{ on := 7, ground := Go.Ground.data }], guard := none }) (v := ?_) rfl (Or.inl ⟨by rfl, ?_⟩) ?_; rotate_left; (focus (intro w hSw; (try dsimp only at hSw); go_simp; (try (with_reducible rfl)); done)); try simp only [Act.put, List.setIfInBounds_toArray, List.set_cons_zero, List.set_cons_succ])
    (refine wpL_calm (o := { dst := some 17, op := Go.Op.indexAddr 24 (Go.Operand.tmp 16) (Go.Operand.tmp 9), type := 0, pos := "tally.go:36", after := #[{ on := 10, ground := Go.Ground.data }, { on := 3, ground := Go.Ground.data }, { on := 0, ground := Go.Ground.phase }, { on := 1, ground := Go.Ground.phase }, { on := 2, ground := Go.Ground.phase }, { on := 3, ground := Go.Ground.phase }, { on := 4, ground := Go.Ground.phase }, { on := 5, ground := Go.Ground.phase }, { on := 6, ground := Go.Ground.phase }, { on := 7, ground := Go.Ground.phase }, { on := 8, ground := Go.Ground.phase }], guard := none }) (v := ?_) rfl (Or.inl ⟨by rfl, ?_⟩) ?_; rotate_left; (focus (intro w hSw; (try dsimp only at hSw); go_simp; (try (with_reducible rfl)); done)); try simp only [Act.put, List.setIfInBounds_toArray, List.set_cons_zero, List.set_cons_succ])
    refine wpL_loud0 (o := { dst := none, op := Go.Op.store 3 (Go.Operand.tmp 17) (Go.Operand.tmp 14), type := 0, pos := "tally.go:36", after := #[{ on := 11, ground := Go.Ground.data }, { on := 8, ground := Go.Ground.data }, { on := 3, ground := Go.Ground.chain }, { on := 0, ground := Go.Ground.phase }, { on := 1, ground := Go.Ground.phase }, { on := 2, ground := Go.Ground.phase }, { on := 3, ground := Go.Ground.phase }, { on := 4, ground := Go.Ground.phase }, { on := 5, ground := Go.Ground.phase }, { on := 6, ground := Go.Ground.phase }, { on := 7, ground := Go.Ground.phase }, { on := 8, ground := Go.Ground.phase }], guard := none }) rfl (by kernel_rfl) (fun K hK => ?_)
    go_simp
    refine hK.out _ _ ?_
    clear hK K
    try simp only [Act.put, List.setIfInBounds_toArray, List.set_cons_zero, List.set_cons_succ]
    refine wpL_nil ?_
    refine NoPanic.normal ?_
    go_wp2
    go_meet
    exact ⟨Lib.hid (HM0.out.drew.put hgx hxa _ _ (HM0.out.drew.t.puta _ _ hκ')), by simp [S0]⟩
  case rest =>
  obtain ⟨HM1, S1⟩ := hcut
  clear HM0 c1 c2 c3 f2 S0
  have c1 := HM1.out.x.cell
  have c2 := HM1.out.t.ce ε hε'
  have f2 := HM1.out.t.free (24 + ε)
  have c3 := HM1.out.ce
  go_wp2
  go_cut [] from 6 (fun wx => Hid (Mid w wx g bx ba { T with a := upd T.a κ (IntKind.i64.wrap (T.a κ + 1)), e := upd T.e ε (IntKind.i64.wrap (T.e ε + 1)) } i k e s) ∧ wx.heap.size = w.heap.size + 2)
  case first =>
    refine wp_region_lin (S := (fun w' => w'.cell? ⟨bx, 0, none⟩ = some (.pointer (some ⟨g, 0, none⟩)) ∧ w'.cell? ⟨w.heap.size + 1, 0, none⟩ = some (.int .i64 e) ∧ w'.cell? ⟨g, 24 + ε, none⟩ = some (.int .i64 (T.e ε)))) [(0, true), (1, true), (2, true), (4, true), (5, true), (9, true), (10, true), (3, false), (6, true), (7, true), (8, true), (11, true), (12, false)] (by kernel_rfl) (by kernel_rfl) rfl (by kernel_rfl) ?_ (fun hHeld => ?_)
    · (try dsimp only); exact ⟨c1, c3, c2⟩
    (refine wpL_calm (o := { dst := some 18, op := Go.Op.load 52 (Go.Operand.tmp 2), type := 52, pos := "tally.go:37", after := #[], guard := none }) (v := ?_) rfl (Or.inl ⟨by rfl, ?_⟩) ?_; rotate_left; (focus (intro w hSw; (try dsimp only at hSw); go_simp; (try (with_reducible rfl)); done)); try simp only [Act.put, List.setIfInBounds_toArray, List.set_cons_zero, List.set_cons_succ])
    (refine wpL_calm (o := { dst := some 19, op := Go.Op.fieldAddr 60 (Go.Operand.tmp 5) 0, type := 0, pos := "tally.go:37", after := #[], guard := none }) (v := ?_) rfl (Or.inl ⟨by rfl, ?_⟩) ?_; rotate_left; (focus (intro w hSw; (try dsimp only at hSw); go_simp; (try (with_reducible rfl)); done)); try simp only [Act.put, List.setIfInBounds_toArray, List.set_cons_zero, List.set_cons_succ])
    (refine wpL_calm (o := { dst := some 20, op := Go.Op.load 58 (Go.Operand.tmp 19), type := 58, pos := "tally.go:37", after := #[{ on := 1, ground := Go.Ground.data }], guard := none }) (v := ?_) rfl (Or.inl ⟨by rfl, ?_⟩) ?_; rotate_left; (focus (intro w hSw; (try dsimp only at hSw); go_simp; (try (with_reducible rfl)); done)); try simp only [Act.put, List.setIfInBounds_toArray, List.set_cons_zero, List.set_cons_succ])
    (refine wpL_calm (o := { dst := some 22, op := Go.Op.nilCheck (Go.Operand.tmp 18), type := 0, pos := "tally.go:37", after := #[{ on := 0, ground := Go.Ground.data }], guard := none }) (v := ?_) rfl (Or.inl ⟨by rfl, ?_⟩) ?_; rotate_left; (focus (intro w hSw; (try dsimp only at hSw); go_simp; (try (with_reducible rfl)); done)); try simp only [Act.put, List.setIfInBounds_toArray, List.set_cons_zero, List.set_cons_succ])
    (refine wpL_calm (o := { dst := some 23, op := Go.Op.fieldAddr 28 (Go.Operand.tmp 22) 1, type := 0, pos := "tally.go:37", after := #[{ on := 4, ground := Go.Ground.data }], guard := none }) (v := ?_) rfl (Or.inl ⟨by rfl, ?_⟩) ?_; rotate_left; (focus (intro w hSw; (try dsimp only at hSw); go_simp; (try (with_reducible rfl)); done)); try simp only [Act.put, List.setIfInBounds_toArray, List.set_cons_zero, List.set_cons_succ])
    (refine wpL_calm (o := { dst := some 27, op := Go.Op.nilCheck (Go.Operand.tmp 18), type := 0, pos := "tally.go:37", after := #[{ on := 0, ground := Go.Ground.data }], guard := none }) (v := ?_) rfl (Or.inl ⟨by rfl, ?_⟩) ?_; rotate_left; (focus (intro w hSw; (try dsimp only at hSw); go_simp; (try (with_reducible rfl)); done)); try simp only [Act.put, List.setIfInBounds_toArray, List.set_cons_zero, List.set_cons_succ])
    (refine wpL_calm (o := { dst := some 28, op := Go.Op.fieldAddr 28 (Go.Operand.tmp 27) 1, type := 0, pos := "tally.go:37", after := #[{ on := 9, ground := Go.Ground.data }], guard := none }) (v := ?_) rfl (Or.inl ⟨by rfl, ?_⟩) ?_; rotate_left; (focus (intro w hSw; (try dsimp only at hSw); go_simp; (try (with_reducible rfl)); done)); try simp only [Act.put, List.setIfInBounds_toArray, List.set_cons_zero, List.set_cons_succ])
    refine wpL_loud1 (o := { dst := some 21, op := Go.Op.call { callee := Go.Callee.value (Go.Operand.func 27), args := #[Go.Operand.tmp 20], argTypes := #[58] }, type := 3, pos := "tally.go:37", after := #[{ on := 2, ground := Go.Ground.data }], guard := none }) rfl (fun K hK => ?_)
    go_simp; go_at_call 27; refine (HE.out _).mono ?_; rintro e w' ⟨rfl, rfl⟩
    try go_wp2_with fail
    refine hK.out _ _ ?_ (fun hHeld => ?_)
    · (try dsimp only); exact hHeld
    clear hK K
    try simp only [Act.put, List.setIfInBounds_toArray, List.set_cons_zero, List.set_cons_succ]
    (refine wpL_calm (o := { dst := some 24, op := Go.Op.indexAddr 25 (Go.Operand.tmp 23) (Go.Operand.tmp 21), type := 0, pos := "tally.go:37", after := #[{ on := 5, ground := Go.Ground.data }, { on := 3, ground := Go.Ground.data }], guard := none }) (v := ?_) rfl (Or.inl ⟨by rfl, ?_⟩) ?_; rotate_left; (focus (intro w hSw; (try dsimp only at hSw); go_simp; (try (with_reducible rfl)); done)); try simp only [Act.put, List.setIfInBounds_toArray, List.set_cons_zero, List.set_cons_succ])
    (refine wpL_calm (o := { dst := some 25, op := Go.Op.load 3 (Go.Operand.tmp 24), type := 3, pos := "tally.go:37", after := #[{ on := 6, ground := Go.Ground.data }], guard := none }) (v := ?_) rfl (Or.inl ⟨by rfl, ?_⟩) ?_; rotate_left; (focus (intro w hSw; (try dsimp only at hSw); go_simp; (try (with_reducible rfl)); done)); try simp only [Act.put, List.setIfInBounds_toArray, List.set_cons_zero, List.set_cons_succ])
    (refine wpL_calm (o := { dst := some 26, op := Go.Op.binOp Go.BinOp.add 3 (Go.Operand.tmp 25) (Go.Operand.const (Go.Value.int Go.IntKind.i64 1)) 3, type := 3, pos := "tally.go:37", after := #[{ on := 7, ground := Go.Ground.data }], guard := none }) (v := ?_) rfl (Or.inl ⟨by rfl, ?_⟩) ?_; rotate_left; (focus (intro w hSw; (try dsimp only at hSw); go_simp; (try (with_reducible rfl)); done)); try simp only [Act.put, List.setIfInBounds_toArray, List.set_cons_zero, List.set_cons_succ])
    (refine wpL_calm (o := { dst := some 29, op := Go.Op.indexAddr 25 (Go.Operand.tmp 28) (Go.Operand.tmp 21), type := 0, pos := "tally.go:37", after := #[{ on := 10, ground := Go.Ground.data }, { on := 3, ground := Go.Ground.data }, { on := 0, ground := Go.Ground.phase }, { on := 1, ground := Go.Ground.phase }, { on := 2, ground := Go.Ground.phase }, { on := 3, ground := Go.Ground.phase }, { on := 4, ground := Go.Ground.phase }, { on := 5, ground := Go.Ground.phase }, { on := 6, ground := Go.Ground.phase }, { on := 7, ground := Go.Ground.phase }, { on := 8, ground := Go.Ground.phase }], guard := none }) (v := ?_) rfl (Or.inl ⟨by rfl, ?_⟩) ?_; rotate_left; (focus (intro w hSw; (try dsimp only at hSw); go_simp; (try (with_reducible rfl)); done)); try simp only [Act.put, List.setIfInBounds_toArray, List.set_cons_zero, List.set_cons_succ])
    refine wpL_loud0 (o := { dst := none, op := Go.Op.store 3 (Go.Operand.tmp 29) (Go.Operand.tmp 26), type := 0, pos := "tally.go:37", after := #[{ on := 11, ground := Go.Ground.data }, { on := 8, ground := Go.Ground.data }, { on := 3, ground := Go.Ground.chain }, { on := 0, ground := Go.Ground.phase }, { on := 1, ground := Go.Ground.phase }, { on := 2, ground := Go.Ground.phase }, { on := 3, ground := Go.Ground.phase }, { on := 4, ground := Go.Ground.phase }, { on := 5, ground := Go.Ground.phase }, { on := 6, ground := Go.Ground.phase }, { on := 7, ground := Go.Ground.phase }, { on := 8, ground := Go.Ground.phase }], guard := none }) rfl (by kernel_rfl) (fun K hK => ?_)
    go_simp
    refine hK.out _ _ ?_
    clear hK K
    try simp only [Act.put, List.setIfInBounds_toArray, List.set_cons_zero, List.set_cons_succ]
    refine wpL_nil ?_
    refine NoPanic.normal ?_
    go_wp2
    go_meet
    exact ⟨Lib.hid (HM1.out.drew.put hgx hxa _ _ (HM1.out.drew.t.pute _ _ hε')), by simp [S1]⟩
  case rest =>
  obtain ⟨HM2, S2⟩ := hcut
  clear HM1 c1 c2 c3 f2 S1
  have c1 := HM2.out.ck
  have c2 := HM2.out.ce
  have c3 := HM2.out.a.cell
  have f3 := HM2.out.a.free
  by_cases hk : k = 1
  · by_cases he : e = 0
    · have HT := Lib.hid (fun w => turn_any 4607182418800017408 0 (i : Int) w (i % 4) (by omega) (by omega))
      have c4 := HM2.out.x.cell
      have c5 := HM2.out.t.cb
      have c6 := HM2.out.cs
      have f5 := HM2.out.t.free 56
      subst hk he
      go_wp2
      go_cut [] from 6 (fun wx => ∃ v, v = wrap64 (T.b + s.size) ∧ Hid (Mid w wx g bx ba { T with a := upd T.a κ (IntKind.i64.wrap (T.a κ + 1)), e := upd T.e ε (IntKind.i64.wrap (T.e ε + 1)), b := v } i 1 0 s) ∧ wx.heap.size = w.heap.size + 2)
      case first =>
        go_region
        all_goals
          go_wp2
          go_meet
          exact ⟨_, rfl, Lib.hid (HM2.out.drew.put hgx hxa _ _ (HM2.out.drew.t.putb _)), by simp [S2]⟩
      case rest =>
      obtain ⟨v, hv, HM3, S3⟩ := hcut
      have HV := Lib.hid hv
      clear HM2 c1 c2 c3 f3 c4 c5 c6 f5 S2 hv
      have c4 := HM3.out.a.cell
      have f4 := HM3.out.a.free
      have c5 := HM3.out.x.cell
      have c6 := HM3.out.t.cz
      have f6 := HM3.out.t.free 57
      have l5 := HM3.out.t.lt
      have l6 := HM3.out.x.lt
      have l7 := HM3.out.a.lt
      go_wp2
      go_cut [] from 6 (fun wx => ∃ r z, Hid (FAns (fadd T.x (turnF (i % 4) (4607182418800017408, 0)).1) r ∧ FAns (fadd T.y (turnF (i % 4) (4607182418800017408, 0)).2) z) ∧ Hid (Mid w wx g bx ba { T with a := upd T.a κ (IntKind.i64.wrap (T.a κ + 1)), e := upd T.e ε (IntKind.i64.wrap (T.e ε + 1)), b := v, x := r, y := z } i 1 0 s))
      case first =>
        refine wp_region_lin (S := (fun w' => w'.cell? ⟨ba, 0, none⟩ = some (.int .i64 i) ∧ w'.cell? ⟨bx, 0, none⟩ = some (.pointer (some ⟨g, 0, none⟩)) ∧ w'.cell? ⟨g, 57, none⟩ = some (.complex .f64 T.x T.y))) [(0, true), (1, true), (2, true), (3, true), (4, true), (5, true), (6, false), (7, false), (8, true), (9, true), (10, false)] (by kernel_rfl) (by kernel_rfl) rfl (by kernel_rfl) ?_ (fun hHeld => ?_)
        · (try dsimp only); exact ⟨c4, c5, c6⟩
        (refine wpL_calm (o := { dst := some 48, op := Go.Op.load 52 (Go.Operand.tmp 2), type := 52, pos := "tally.go:40", after := #[], guard := none }) (v := ?_) rfl (Or.inl ⟨by rfl, ?_⟩) ?_; rotate_left; (focus (intro w hSw; (try dsimp only at hSw); go_simp; (try (with_reducible rfl)); done)); try simp only [Act.put, List.setIfInBounds_toArray, List.set_cons_zero, List.set_cons_succ])
        (refine wpL_calm (o := { dst := some 49, op := Go.Op.load 52 (Go.Operand.tmp 2), type := 52, pos := "tally.go:40", after := #[], guard := none }) (v := ?_) rfl (Or.inl ⟨by rfl, ?_⟩) ?_; rotate_left; (focus (intro w hSw; (try dsimp only at hSw); go_simp; (try (with_reducible rfl)); done)); try simp only [Act.put, List.setIfInBounds_toArray, List.set_cons_zero, List.set_cons_succ])
        (refine wpL_calm (o := { dst := some 50, op := Go.Op.nilCheck (Go.Operand.tmp 49), type := 0, pos := "tally.go:40", after := #[{ on := 1, ground := Go.Ground.data }], guard := none }) (v := ?_) rfl (Or.inl ⟨by rfl, ?_⟩) ?_; rotate_left; (focus (intro w hSw; (try dsimp only at hSw); go_simp; (try (with_reducible rfl)); done)); try simp only [Act.put, List.setIfInBounds_toArray, List.set_cons_zero, List.set_cons_succ])
        (refine wpL_calm (o := { dst := some 51, op := Go.Op.fieldAddr 28 (Go.Operand.tmp 50) 3, type := 0, pos := "tally.go:40", after := #[{ on := 2, ground := Go.Ground.data }], guard := none }) (v := ?_) rfl (Or.inl ⟨by rfl, ?_⟩) ?_; rotate_left; (focus (intro w hSw; (try dsimp only at hSw); go_simp; (try (with_reducible rfl)); done)); try simp only [Act.put, List.setIfInBounds_toArray, List.set_cons_zero, List.set_cons_succ])
        (refine wpL_calm (o := { dst := some 52, op := Go.Op.load 26 (Go.Operand.tmp 51), type := 26, pos := "tally.go:40", after := #[{ on := 3, ground := Go.Ground.data }], guard := none }) (v := ?_) rfl (Or.inl ⟨by rfl, ?_⟩) ?_; rotate_left; (focus (intro w hSw; (try dsimp only at hSw); go_simp; (try (with_reducible rfl)); done)); try simp only [Act.put, List.setIfInBounds_toArray, List.set_cons_zero, List.set_cons_succ])
        (refine wpL_calm (o := { dst := some 53, op := Go.Op.load 3 (Go.Operand.tmp 3), type := 3, pos := "tally.go:40", after := #[], guard := none }) (v := ?_) rfl (Or.inl ⟨by rfl, ?_⟩) ?_; rotate_left; (focus (intro w hSw; (try dsimp only at hSw); go_simp; (try (with_reducible rfl)); done)); try simp only [Act.put, List.setIfInBounds_toArray, List.set_cons_zero, List.set_cons_succ])
        refine wpL_loud1 (o := { dst := some 54, op := Go.Op.call { callee := Go.Callee.value (Go.Operand.func 22), args := #[Go.Operand.const (Go.Value.complex Go.FloatKind.f64 4607182418800017408 0), Go.Operand.tmp 53], argTypes := #[26, 3] }, type := 26, pos := "tally.go:40", after := #[{ on := 5, ground := Go.Ground.data }], guard := none }) rfl (fun K hK => ?_)
        go_simp; go_at_call 22; refine (HT.out _).mono ?_; rintro e w' ⟨rfl, hb⟩; have d3 := (hb.cell (p := ⟨ba, 0, none⟩) l7).trans c4; have d4 := (hb.cell (p := ⟨bx, 0, none⟩) l6).trans c5; have d6 := (hb.cell (p := ⟨g, 57, none⟩) l5).trans c6; have e6 := (hb.frozen (p := ⟨g, 57, none⟩) l5).trans f6
        try go_wp2_with fail
        refine hK.out _ _ ?_ (fun hHeld => ?_)
        · (try dsimp only); exact ⟨d3, d4, d6⟩
        clear hK K
        try simp only [Act.put, List.setIfInBounds_toArray, List.set_cons_zero, List.set_cons_succ]
        refine wpL_loud1 (o := { dst := some 55, op := Go.Op.call { callee := Go.Callee.value (Go.Operand.func 21), args := #[Go.Operand.tmp 52, Go.Operand.tmp 54], argTypes := #[26, 26] }, type := 26, pos := "tally.go:40", after := #[{ on := 4, ground := Go.Ground.data }, { on := 6, ground := Go.Ground.data }, { on := 6, ground := Go.Ground.chain }], guard := none }) rfl (fun K hK => ?_)
        go_simp; go_at_call 21; refine (plus_any _ _ _ _ _).mono ?_; rintro e w'' ⟨r, z, nn, rfl, hr, hz, rfl⟩
        try go_wp2_with fail
        refine hK.out _ _ ?_ (fun hHeld => ?_)
        · (try dsimp only); exact ⟨d3, d4, d6⟩
        clear hK K
        try simp only [Act.put, List.setIfInBounds_toArray, List.set_cons_zero, List.set_cons_succ]
        (refine wpL_calm (o := { dst := some 56, op := Go.Op.nilCheck (Go.Operand.tmp 48), type := 0, pos := "tally.go:40", after := #[{ on := 0, ground := Go.Ground.data }, { on := 0, ground := Go.Ground.phase }, { on := 1, ground := Go.Ground.phase }, { on := 2, ground := Go.Ground.phase }, { on := 3, ground := Go.Ground.phase }, { on := 4, ground := Go.Ground.phase }, { on := 5, ground := Go.Ground.phase }, { on := 6, ground := Go.Ground.phase }, { on := 7, ground := Go.Ground.phase }], guard := none }) (v := ?_) rfl (Or.inl ⟨by rfl, ?_⟩) ?_; rotate_left; (focus (intro w hSw; (try dsimp only at hSw); go_simp; (try (with_reducible rfl)); done)); try simp only [Act.put, List.setIfInBounds_toArray, List.set_cons_zero, List.set_cons_succ])
        (refine wpL_calm (o := { dst := some 57, op := Go.Op.fieldAddr 28 (Go.Operand.tmp 56) 3, type := 0, pos := "tally.go:40", after := #[{ on := 8, ground := Go.Ground.data }, { on := 0, ground := Go.Ground.phase }, { on := 1, ground := Go.Ground.phase }, { on := 2, ground := Go.Ground.phase }, { on := 3, ground := Go.Ground.phase }, { on := 4, ground := Go.Ground.phase }, { on := 5, ground := Go.Ground.phase }, { on := 6, ground := Go.Ground.phase }, { on := 7, ground := Go.Ground.phase }], guard := none }) (v := ?_) rfl (Or.inl ⟨by rfl, ?_⟩) ?_; rotate_left; (focus (intro w hSw; (try dsimp only at hSw); go_simp; (try (with_reducible rfl)); done)); try simp only [Act.put, List.setIfInBounds_toArray, List.set_cons_zero, List.set_cons_succ])
        refine wpL_loud0 (o := { dst := none, op := Go.Op.store 26 (Go.Operand.tmp 57) (Go.Operand.tmp 55), type := 0, pos := "tally.go:40", after := #[{ on := 9, ground := Go.Ground.data }, { on := 7, ground := Go.Ground.data }, { on := 7, ground := Go.Ground.chain }, { on := 0, ground := Go.Ground.phase }, { on := 1, ground := Go.Ground.phase }, { on := 2, ground := Go.Ground.phase }, { on := 3, ground := Go.Ground.phase }, { on := 4, ground := Go.Ground.phase }, { on := 5, ground := Go.Ground.phase }, { on := 6, ground := Go.Ground.phase }, { on := 7, ground := Go.Ground.phase }], guard := none }) rfl (by kernel_rfl) (fun K hK => ?_)
        go_simp
        refine hK.out _ _ ?_
        clear hK K
        try simp only [Act.put, List.setIfInBounds_toArray, List.set_cons_zero, List.set_cons_succ]
        refine wpL_nil ?_
        refine NoPanic.normal ?_
        go_wp2
        go_meet
        exact ⟨r, z, Lib.hid ⟨hr, hz⟩, Lib.hid (((HM3.out.drew.below (by simp [S3]) hgx hxa hb).drewN nn).put hgx hxa _ _ (((HM3.out.drew.below (by simp [S3]) hgx hxa hb).drewN nn).t.putz r z))⟩
      case rest =>
      obtain ⟨r, z, HZ, HM4⟩ := hcut
      clear HM3 c4 f4 c5 c6 f6 l5 l6 l7
      have c3 := HM4.out.a.cell
      have f3 := HM4.out.a.free
      go_wp2
      go_end0
      refine ⟨rfl, _, ?_, HM4.out.done hgx hxa _⟩
      exact ⟨rfl, rfl, fun _ => ⟨HV.out, HZ.out.1, HZ.out.2⟩, fun h => absurd ⟨rfl, rfl⟩ h⟩
    · go_wp2
      go_end0
      refine ⟨rfl, _, ?_, HM2.out.done hgx hxa _⟩
      exact ⟨rfl, rfl, fun h => absurd h.2 he, fun _ => ⟨rfl, rfl, rfl⟩⟩
  · go_wp2
    go_end0
    refine ⟨rfl, _, ?_, HM2.out.done hgx hxa _⟩
    exact ⟨rfl, rfl, fun h => absurd h.1 hk, fun _ => ⟨rfl, rfl, rfl⟩⟩
end Go.Proofs.Ytnbmpackjgffaaa
