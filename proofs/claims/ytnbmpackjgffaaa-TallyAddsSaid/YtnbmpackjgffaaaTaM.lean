/- The law TallyAdds. -/
import Derived.Test.YtnbmpackjgffaaaTaJ
import Derived.Test.YtnbmpackjgffaaaOpen
namespace Go.Proofs.Ytnbmpackjgffaaa
open Go.RowKit Go.Deep Go.ChangeShapes Go.WideShapes
set_option linter.unusedVariables false
attribute [local go_sem] unary_negf run_store_complex run_store_float
/-- A load of a whole row by a guarded operation that is wanted (the operation's kind is asked first). -/
theorem wpList_load_row_h {P : Program} {ops : Array Oper} {rest : List Oper} {o : Oper} {a : Act} {w : World} {Q : Exit → Act → World → Prop} (ty : TypeId) (x : Operand) (ho : o.op = .load ty x) (hw : Region.wanted o (yielded ops a.tmps) = true)
    (g : Nat) (hx : a.eval x = .pointer (some ⟨g, 0, none⟩)) (t : TypeId) (cs : Array Value) (fr : Nat × Nat) (d : TypeDesc) (hg : w.heap[g]? = some (.cells cs t fr))
    (hu : P.underlying ty = some d) (hd : (match d with | .struct _ | .array _ _ => true | _ => false) = true) (hi : (P.info? ty).map (·.size) = some cs.size)
    (h : wpList P ops Q rest (a.put o.dst (.agg cs)) w) : wpList P ops Q (o :: rest) a w := wpList_load_row_g hw ty x ho g hx t cs fr d hg hu hd hi h
def Loaded (P : Program) (ty : TypeId) (w : World) (g : Nat) (cs : Array Value) : Prop := ∃ t fr fs, w.heap[g]? = some (.cells cs t fr) ∧ P.underlying ty = some (.struct fs) ∧ (P.info? ty).map (·.size) = some cs.size
theorem wpList_load_row_i {P : Program} {ops : Array Oper} {rest : List Oper} {o : Oper} {a : Act} {w : World} {Q : Exit → Act → World → Prop} {g : Nat} {cs : Array Value} (ty : TypeId) (x : Operand) (ho : o.op = .load ty x)
    (h2 : Region.wanted o (yielded ops a.tmps) = true ∧ a.eval x = .pointer (some ⟨g, 0, none⟩)) (hL : Loaded P ty w g cs)
    (h : wpList P ops Q rest (a.put o.dst (.agg cs)) w) : wpList P ops Q (o :: rest) a w := by
  obtain ⟨t, fr, fs, hg, hu, hi⟩ := hL
  exact wpList_load_row_g h2.1 ty x ho g h2.2 t cs fr (.struct fs) hg hu rfl hi h
theorem loaded_tally {w : World} {g : Nat} {T : Tl} (h : TallyAt w g T) : Loaded Try.prog 28 w g (tcells T) := ⟨_, _, _, h, Try.underlying28, by rw [tcells_size]; kernel_rfl⟩
def tA (n m : Int) (X Y : Nat) : Tl := ⟨upd (fun _ => 0) 3 n, upd (fun _ => 0) 5 m, n, X, Y⟩
def tB (m : Int) (U V : Nat) : Tl := ⟨upd (fun _ => 0) 3 m, fun _ => 0, m, U, V⟩
theorem litA (n m : Int) (X Y : Nat) : tcells (tA n m X Y) = #[.int .i64 0, .int .i64 0, .int .i64 0, .int .i64 n, .int .i64 0, .int .i64 0, .int .i64 0, .int .i64 0, .int .i64 0, .int .i64 0, .int .i64 0, .int .i64 0, .int .i64 0, .int .i64 0, .int .i64 0, .int .i64 0, .int .i64 0, .int .i64 0, .int .i64 0, .int .i64 0, .int .i64 0, .int .i64 0, .int .i64 0, .int .i64 0, .int .i64 0, .int .i64 0, .int .i64 0, .int .i64 0, .int .i64 0, .int .i64 m, .int .i64 0, .int .i64 0, .int .i64 0, .int .i64 0, .int .i64 0, .int .i64 0, .int .i64 0, .int .i64 0, .int .i64 0, .int .i64 0, .int .i64 0, .int .i64 0, .int .i64 0, .int .i64 0, .int .i64 0, .int .i64 0, .int .i64 0, .int .i64 0, .int .i64 0, .int .i64 0, .int .i64 0, .int .i64 0, .int .i64 0, .int .i64 0, .int .i64 0, .int .i64 0, .int .i64 n, .complex .f64 X Y] := by kernel_rfl
theorem litB (m : Int) (U V : Nat) : tcells (tB m U V) = #[.int .i64 0, .int .i64 0, .int .i64 0, .int .i64 m, .int .i64 0, .int .i64 0, .int .i64 0, .int .i64 0, .int .i64 0, .int .i64 0, .int .i64 0, .int .i64 0, .int .i64 0, .int .i64 0, .int .i64 0, .int .i64 0, .int .i64 0, .int .i64 0, .int .i64 0, .int .i64 0, .int .i64 0, .int .i64 0, .int .i64 0, .int .i64 0, .int .i64 0, .int .i64 0, .int .i64 0, .int .i64 0, .int .i64 0, .int .i64 0, .int .i64 0, .int .i64 0, .int .i64 0, .int .i64 0, .int .i64 0, .int .i64 0, .int .i64 0, .int .i64 0, .int .i64 0, .int .i64 0, .int .i64 0, .int .i64 0, .int .i64 0, .int .i64 0, .int .i64 0, .int .i64 0, .int .i64 0, .int .i64 0, .int .i64 0, .int .i64 0, .int .i64 0, .int .i64 0, .int .i64 0, .int .i64 0, .int .i64 0, .int .i64 0, .int .i64 m, .complex .f64 U V] := by kernel_rfl
theorem two_tallies (w : World) (n m : Int) (X Y U V : Nat) : ∃ w3, Hid (((w.alloc (.cells #[.int .i64 0, .int .i64 0, .int .i64 0, .int .i64 n, .int .i64 0, .int .i64 0, .int .i64 0, .int .i64 0, .int .i64 0, .int .i64 0, .int .i64 0, .int .i64 0, .int .i64 0, .int .i64 0, .int .i64 0, .int .i64 0, .int .i64 0, .int .i64 0, .int .i64 0, .int .i64 0, .int .i64 0, .int .i64 0, .int .i64 0, .int .i64 0, .int .i64 0, .int .i64 0, .int .i64 0, .int .i64 0, .int .i64 0, .int .i64 m, .int .i64 0, .int .i64 0, .int .i64 0, .int .i64 0, .int .i64 0, .int .i64 0, .int .i64 0, .int .i64 0, .int .i64 0, .int .i64 0, .int .i64 0, .int .i64 0, .int .i64 0, .int .i64 0, .int .i64 0, .int .i64 0, .int .i64 0, .int .i64 0, .int .i64 0, .int .i64 0, .int .i64 0, .int .i64 0, .int .i64 0, .int .i64 0, .int .i64 0, .int .i64 0, .int .i64 n, .complex .f64 X Y] 28)).alloc (.cells #[.int .i64 0, .int .i64 0, .int .i64 0, .int .i64 m, .int .i64 0, .int .i64 0, .int .i64 0, .int .i64 0, .int .i64 0, .int .i64 0, .int .i64 0, .int .i64 0, .int .i64 0, .int .i64 0, .int .i64 0, .int .i64 0, .int .i64 0, .int .i64 0, .int .i64 0, .int .i64 0, .int .i64 0, .int .i64 0, .int .i64 0, .int .i64 0, .int .i64 0, .int .i64 0, .int .i64 0, .int .i64 0, .int .i64 0, .int .i64 0, .int .i64 0, .int .i64 0, .int .i64 0, .int .i64 0, .int .i64 0, .int .i64 0, .int .i64 0, .int .i64 0, .int .i64 0, .int .i64 0, .int .i64 0, .int .i64 0, .int .i64 0, .int .i64 0, .int .i64 0, .int .i64 0, .int .i64 0, .int .i64 0, .int .i64 0, .int .i64 0, .int .i64 0, .int .i64 0, .int .i64 0, .int .i64 0, .int .i64 0, .int .i64 0, .int .i64 m, .complex .f64 U V] 28)).drew = w3) ∧ TallyAt w3 w.heap.size (tA n m X Y) ∧ TallyAt w3 (w.heap.size + 1) (tB m U V) ∧ Below w.heap.size w w3 := by
  refine ⟨_, Lib.hid rfl, ?_, ?_, (((Below.refl _ _).alloc (Nat.le_refl _) _).alloc (by simp) _).drew⟩
  · show TallyAt ((w.alloc _).alloc _) _ _
    rw [← litA n m X Y]
    exact heap_alloc2_old w _ _
  · show TallyAt ((w.alloc _).alloc _) _ _
    rw [← litB m U V]
    exact heap_alloc2_new w _ _
theorem sameT_AB (n m : Int) (X Y U V : Nat) : (n = m → m = 0 → sameT (tA n m X Y) (tB m U V) = (sameF X U && sameF Y V)) ∧ ((¬ n = m ∨ ¬ m = 0) → sameT (tA n m X Y) (tB m U V) = false) := by
  constructor
  · rintro rfl rfl
    have h1 : eqRow (tA 0 0 X Y).a (tB 0 U V).a 24 = true := (eqRow_iff _ _ _).2 fun i _ => rfl
    have h2 : eqRow (tA 0 0 X Y).e (tB 0 U V).e 32 = true := (eqRow_iff _ _ _).2 fun i _ => by show (upd (fun _ => (0 : Int)) 5 0 i) = 0; unfold upd; split <;> rfl
    unfold sameT
    rw [h1, h2]
    show (true && (true && (decide ((0 : Int) = 0) && (sameF X U && sameF Y V)))) = _
    simp
  · rintro h
    by_cases e : n = m
    · have h0 : ¬ m = 0 := by rcases h with h | h; exact absurd e h; exact h
      have : eqRow (tA n m X Y).e (tB m U V).e 32 = false := by
        rw [Bool.eq_false_iff]
        intro hh
        exact h0 ((eqRow_iff _ _ _).1 hh 5 (by omega))
      unfold sameT
      rw [this]
      simp
    · have : eqRow (tA n m X Y).a (tB m U V).a 24 = false := by
        rw [Bool.eq_false_iff]
        intro hh
        exact e ((eqRow_iff _ _ _).1 hh 3 (by omega))
      unfold sameT
      rw [this]
      simp
theorem sameT_self (C : Tl) : sameT C C = true := by
  have h1 : eqRow C.a C.a 24 = true := (eqRow_iff _ _ _).2 fun i _ => rfl
  have h2 : eqRow C.e C.e 32 = true := (eqRow_iff _ _ _).2 fun i _ => rfl
  unfold sameT
  rw [h1, h2, sameF_self, sameF_self]
  simp
theorem wrapIn {n : Int} (h : -9223372036854775808 ≤ n ∧ n ≤ 9223372036854775807) : wrap64 n = n := by unfold wrap64; omega
theorem tmod_bd (N : Int) : -999999 ≤ N.tmod 1000000 ∧ N.tmod 1000000 ≤ 999999 := by
  rw [Int.tmod_eq_emod]
  split <;> omega
set_option maxRecDepth 100000 in
set_option maxHeartbeats 8000000 in
theorem tallyAdds_body (N M k : Int) (X Y U V q : Nat) (w : World) (hX : X < 18446744073709551616) (hY : Y < 18446744073709551616) (hU : U < 18446744073709551616) (hV : V < 18446744073709551616) (hq : k % 4 = (q : Int)) (hk : -9223372036854775808 ≤ k ∧ k ≤ 9223372036854775807) :
    Calls Try.prog 6 #[.agg #[.int .i64 N, .int .i64 M, .float .f64 X, .float .f64 Y, .float .f64 U, .float .f64 V, .int .i64 k]] w fun r w' => r = .returned (.bool true) ∧ Below w.heap.size w w' := by
  obtain ⟨w0, HW0, c0, c1, c2, c3, c4, c5, c6, B0, l0⟩ : ∃ w0, Hid (w.alloc (.cells #[.int .i64 N, .int .i64 M, .float .f64 X, .float .f64 Y, .float .f64 U, .float .f64 V, .int .i64 k] 44) = w0) ∧ w0.cell? ⟨w.heap.size, 0, none⟩ = some (.int .i64 N) ∧ w0.cell? ⟨w.heap.size, 1, none⟩ = some (.int .i64 M) ∧ w0.cell? ⟨w.heap.size, 2, none⟩ = some (.float .f64 X) ∧ w0.cell? ⟨w.heap.size, 3, none⟩ = some (.float .f64 Y) ∧ w0.cell? ⟨w.heap.size, 4, none⟩ = some (.float .f64 U) ∧ w0.cell? ⟨w.heap.size, 5, none⟩ = some (.float .f64 V) ∧ w0.cell? ⟨w.heap.size, 6, none⟩ = some (.int .i64 k) ∧ Below w.heap.size w w0 ∧ w.heap.size < w0.heap.size :=
    ⟨_, Lib.hid rfl, by simp, by simp, by simp, by simp, by simp, by simp, by simp, (Below.refl _ _).alloc (Nat.le_refl _) _, by simp⟩
  have HQ := Lib.hid (fun w => quarters_any k w q hq hk)
  have hq4 : q < 4 := by omega
  have HRT := Lib.hid (fun w => rturn_any U V q w hq4)
  have HSM := Lib.hid (fun w => rsame_any X Y U V w hX hY hU hV)
  obtain ⟨n, hn⟩ : ∃ n, N.tmod 1000000 = n := ⟨_, rfl⟩
  obtain ⟨m, hm⟩ : ∃ m, M.tmod 1000000 = m := ⟨_, rfl⟩
  have hnb := tmod_bd N
  have hmb := tmod_bd M
  rw [hn] at hnb
  rw [hm] at hmb
  obtain ⟨n1, n2⟩ := hnb
  obtain ⟨m1, m2⟩ := hmb
  have HN := Lib.hid hn
  have HM := Lib.hid hm
  have HAD := Lib.hid (fun w => add_any (tA n m X Y) (tB m U V) k q w hq hk)
  have HXB := Lib.hid (show X < 18446744073709551616 ∧ Y < 18446744073709551616 ∧ U < 18446744073709551616 ∧ V < 18446744073709551616 from ⟨hX, hY, hU, hV⟩)
  clear hn hm hq hk hX hY hU hV
  go_enter Try.func6, Try.ntmps6
  go_wp2
  rw [HW0.out]
  clear HW0
  go_cut [3, 4] from 10 (fun s3 s4 wx => s3 = .int .i64 n ∧ s4 = .int .i64 m ∧ w0.drew = wx)
  case first =>
    refine wp_region_lin (S := (fun w' => w'.cell? ⟨w.heap.size, 0, none⟩ = some (.int .i64 N) ∧ w'.cell? ⟨w.heap.size, 1, none⟩ = some (.int .i64 M))) [(0, true), (1, true), (2, true), (3, true), (4, true), (5, true), (6, true), (7, true)] (by kernel_rfl) (by kernel_rfl) rfl (by kernel_rfl) ?_ (fun hHeld => ?_)
    · (try dsimp only); exact ⟨c0, c1⟩
    (refine wpL_calm (o := { dst := some 10, op := Go.Op.fieldAddr 44 (Go.Operand.tmp 1) 0, type := 0, pos := "law.go:77", after := #[], guard := none }) (v := ?_) rfl (Or.inl ⟨by rfl, ?_⟩) ?_; rotate_left; (focus (intro w hSw; (try dsimp only at hSw); go_simp; (try (with_reducible rfl)); done)); try simp only [Act.put, List.setIfInBounds_toArray, List.set_cons_zero, List.set_cons_succ])
    (refine wpL_calm (o := { dst := some 11, op := Go.Op.load 3 (Go.Operand.tmp 10), type := 3, pos := "law.go:77", after := #[{ on := 0, ground := Go.Ground.data }], guard := none }) (v := ?_) rfl (Or.inl ⟨by rfl, ?_⟩) ?_; rotate_left; (focus (intro w hSw; (try dsimp only at hSw); go_simp; (try (with_reducible rfl)); done)); try simp only [Act.put, List.setIfInBounds_toArray, List.set_cons_zero, List.set_cons_succ])
    (refine wpL_calm (o := { dst := some 12, op := Go.Op.binOp Go.BinOp.rem 3 (Go.Operand.tmp 11) (Go.Operand.const (Go.Value.int Go.IntKind.i64 1000000)) 3, type := 3, pos := "law.go:77", after := #[{ on := 1, ground := Go.Ground.data }], guard := none }) (v := ?_) rfl (Or.inl ⟨by rfl, ?_⟩) ?_; rotate_left; (focus (intro w hSw; (try dsimp only at hSw); go_simp; (try (with_reducible rfl)); done)); try simp only [Act.put, List.setIfInBounds_toArray, List.set_cons_zero, List.set_cons_succ])
    (refine wpL_calm (o := { dst := some 13, op := Go.Op.fieldAddr 44 (Go.Operand.tmp 1) 1, type := 0, pos := "law.go:77", after := #[{ on := 6, ground := Go.Ground.gcOnly Go.Departure.lateStores }], guard := none }) (v := ?_) rfl (Or.inl ⟨by rfl, ?_⟩) ?_; rotate_left; (focus (intro w hSw; (try dsimp only at hSw); go_simp; (try (with_reducible rfl)); done)); try simp only [Act.put, List.setIfInBounds_toArray, List.set_cons_zero, List.set_cons_succ])
    (refine wpL_calm (o := { dst := some 14, op := Go.Op.load 3 (Go.Operand.tmp 13), type := 3, pos := "law.go:77", after := #[{ on := 3, ground := Go.Ground.data }, { on := 6, ground := Go.Ground.gcOnly Go.Departure.lateStores }], guard := none }) (v := ?_) rfl (Or.inl ⟨by rfl, ?_⟩) ?_; rotate_left; (focus (intro w hSw; (try dsimp only at hSw); go_simp; (try (with_reducible rfl)); done)); try simp only [Act.put, List.setIfInBounds_toArray, List.set_cons_zero, List.set_cons_succ])
    (refine wpL_calm (o := { dst := some 15, op := Go.Op.binOp Go.BinOp.rem 3 (Go.Operand.tmp 14) (Go.Operand.const (Go.Value.int Go.IntKind.i64 1000000)) 3, type := 3, pos := "law.go:77", after := #[{ on := 4, ground := Go.Ground.data }, { on := 6, ground := Go.Ground.gcOnly Go.Departure.lateStores }], guard := none }) (v := ?_) rfl (Or.inl ⟨by rfl, ?_⟩) ?_; rotate_left; (focus (intro w hSw; (try dsimp only at hSw); go_simp; (try (with_reducible rfl)); done)); try simp only [Act.put, List.setIfInBounds_toArray, List.set_cons_zero, List.set_cons_succ])
    (refine wpL_calm (o := { dst := some 3, op := Go.Op.assign (Go.Operand.tmp 12), type := 3, pos := "law.go:77", after := #[{ on := 2, ground := Go.Ground.data }, { on := 0, ground := Go.Ground.phase }, { on := 1, ground := Go.Ground.phase }, { on := 2, ground := Go.Ground.phase }, { on := 3, ground := Go.Ground.textOnly Go.Departure.lateStores }, { on := 4, ground := Go.Ground.textOnly Go.Departure.lateStores }, { on := 5, ground := Go.Ground.textOnly Go.Departure.lateStores }], guard := none }) (v := ?_) rfl (Or.inl ⟨by rfl, ?_⟩) ?_; rotate_left; (focus (intro w hSw; (try dsimp only at hSw); go_simp; (try (with_reducible rfl)); done)); try simp only [Act.put, List.setIfInBounds_toArray, List.set_cons_zero, List.set_cons_succ])
    (refine wpL_calm (o := { dst := some 4, op := Go.Op.assign (Go.Operand.tmp 15), type := 3, pos := "law.go:77", after := #[{ on := 5, ground := Go.Ground.data }, { on := 6, ground := Go.Ground.chain }, { on := 0, ground := Go.Ground.phase }, { on := 1, ground := Go.Ground.phase }, { on := 2, ground := Go.Ground.phase }, { on := 3, ground := Go.Ground.phase }, { on := 4, ground := Go.Ground.phase }, { on := 5, ground := Go.Ground.phase }, { on := 6, ground := Go.Ground.phase }], guard := none }) (v := ?_) rfl (Or.inl ⟨by rfl, ?_⟩) ?_; rotate_left; (focus (intro w hSw; (try dsimp only at hSw); go_simp; (try (with_reducible rfl)); done)); try simp only [Act.put, List.setIfInBounds_toArray, List.set_cons_zero, List.set_cons_succ])
    refine wpL_nil ?_
    refine NoPanic.normal ?_
    go_wp2
    go_meet
    exact ⟨by rw [HN.out], by rw [HM.out], rfl⟩
  case rest =>
  obtain ⟨rfl, rfl, rfl⟩ := hcut
  clear HN HM
  go_upto_region 10 with fail
  obtain ⟨w3, HW3, hA3, hB3, b3⟩ := two_tallies w0 n m X Y U V
  rw [HW3.out]
  clear HW3
  have B3 := B0.trans (b3.mono B0.size)
  have HA3 := Lib.hid hA3
  have HB3 := Lib.hid hB3
  have k2 := (b3.cell (p := ⟨w.heap.size, 2, none⟩) l0).trans c2
  have k3 := (b3.cell (p := ⟨w.heap.size, 3, none⟩) l0).trans c3
  have k4 := (b3.cell (p := ⟨w.heap.size, 4, none⟩) l0).trans c4
  have k5 := (b3.cell (p := ⟨w.heap.size, 5, none⟩) l0).trans c5
  have k6 := (b3.cell (p := ⟨w.heap.size, 6, none⟩) l0).trans c6
  have l3 : w.heap.size < w3.heap.size := Nat.lt_of_lt_of_le l0 b3.size
  clear c0 c1 c2 c3 c4 c5 c6 b3 B0 hA3 hB3
  generalize w0.heap.size = ga at *
  have ha : w3.heap[ga]? = some (.cells (tcells (tA n m X Y)) 28 (0, 0)) := HA3.out
  have hb : w3.heap[ga + 1]? = some (.cells (tcells (tB m U V)) 28 (0, 0)) := HB3.out
  go_wp2_with (first
    | (refine wpList_load_row rfl _ _ rfl ga rfl 28 (tcells (tA n m X Y)) (0, 0) _ ha Try.underlying28 rfl (by rw [tcells_size]; kernel_rfl) ?_)
    | (refine wpList_load_row rfl _ _ rfl (ga + 1) rfl 28 (tcells (tB m U V)) (0, 0) _ hb Try.underlying28 rfl (by rw [tcells_size]; kernel_rfl) ?_))
  refine (HAD.out _).mono ?_
  rintro e w4 ⟨⟨C, rfl, hC⟩, b4⟩
  have HA4 := HA3.out.below b4 HA3.out.lt
  have HB4 := HB3.out.below b4 HB3.out.lt
  have B4 := B3.trans (b4.mono B3.size)
  obtain ⟨w5, HW5, HC5, b5⟩ := stored_tally w4 C
  have HA5 := Lib.hid (HA4.below b5 HA4.lt)
  have HB5 := Lib.hid (HB4.below b5 HB4.lt)
  have B5 := B4.trans (b5.mono B4.size)
  have j2 := ((b5.cell (p := ⟨w.heap.size, 2, none⟩) (Nat.lt_of_lt_of_le l3 b4.size)).trans (b4.cell (p := ⟨w.heap.size, 2, none⟩) l3)).trans k2
  have j3 := ((b5.cell (p := ⟨w.heap.size, 3, none⟩) (Nat.lt_of_lt_of_le l3 b4.size)).trans (b4.cell (p := ⟨w.heap.size, 3, none⟩) l3)).trans k3
  have j4 := ((b5.cell (p := ⟨w.heap.size, 4, none⟩) (Nat.lt_of_lt_of_le l3 b4.size)).trans (b4.cell (p := ⟨w.heap.size, 4, none⟩) l3)).trans k4
  have j5 := ((b5.cell (p := ⟨w.heap.size, 5, none⟩) (Nat.lt_of_lt_of_le l3 b4.size)).trans (b4.cell (p := ⟨w.heap.size, 5, none⟩) l3)).trans k5
  have j6 := ((b5.cell (p := ⟨w.heap.size, 6, none⟩) (Nat.lt_of_lt_of_le l3 b4.size)).trans (b4.cell (p := ⟨w.heap.size, 6, none⟩) l3)).trans k6
  have l5 : w.heap.size < w5.heap.size := Nat.lt_of_lt_of_le (Nat.lt_of_lt_of_le l3 b4.size) b5.size
  have HCC := Lib.hid hC
  go_wp2_with (refine wpList_store_row rfl _ _ _ rfl w4.heap.size (tcells C) rfl rfl 28 _ (heap_alloc_new _ _) (by rw [tcells_size]; kernel_rfl) (by rw [tcells_size]; rfl) (tcells_one _) ?_; rw [HW5.out])
  clear HW5 b5 b4 B4 B3 HA4 HB4 k2 k3 k4 k5 k6 l3 ha hb HA3 HB3 l0 hC HAD
  generalize w4.heap.size = gc at HC5 ⊢
  have HC6 := Lib.hid HC5
  clear HC5
  simp only [Act.put]
  go_cut [8, 9] from 46 (fun s8 s9 wx => s8 = .float .f64 (turnF q (U, V)).1 ∧ s9 = .float .f64 (turnF q (U, V)).2 ∧ ∃ d, w5.drewN d = wx)
  case first =>
    refine wp_region_lin (S := (fun w' => w'.cell? ⟨w.heap.size, 4, none⟩ = some (.float .f64 U) ∧ w'.cell? ⟨w.heap.size, 5, none⟩ = some (.float .f64 V) ∧ w'.cell? ⟨w.heap.size, 6, none⟩ = some (.int .i64 k))) [(0, true), (1, true), (2, true), (3, true), (4, true), (5, true), (6, false), (7, false), (8, true), (9, true), (10, true), (11, true), (12, true)] (by kernel_rfl) (by kernel_rfl) rfl (by kernel_rfl) ?_ (fun hHeld => ?_)
    · (try dsimp only); exact ⟨j4, j5, j6⟩
    (refine wpL_calm (o := { dst := some 47, op := Go.Op.fieldAddr 44 (Go.Operand.tmp 1) 4, type := 0, pos := "law.go:87", after := #[], guard := none }) (v := ?_) rfl (Or.inl ⟨by rfl, ?_⟩) ?_; rotate_left; (focus (intro w hSw; (try dsimp only at hSw); go_simp; (try (with_reducible rfl)); done)); try simp only [Act.put, List.setIfInBounds_toArray, List.set_cons_zero, List.set_cons_succ])
    (refine wpL_calm (o := { dst := some 48, op := Go.Op.load 35 (Go.Operand.tmp 47), type := 35, pos := "law.go:87", after := #[{ on := 0, ground := Go.Ground.data }], guard := none }) (v := ?_) rfl (Or.inl ⟨by rfl, ?_⟩) ?_; rotate_left; (focus (intro w hSw; (try dsimp only at hSw); go_simp; (try (with_reducible rfl)); done)); try simp only [Act.put, List.setIfInBounds_toArray, List.set_cons_zero, List.set_cons_succ])
    (refine wpL_calm (o := { dst := some 49, op := Go.Op.fieldAddr 44 (Go.Operand.tmp 1) 5, type := 0, pos := "law.go:87", after := #[], guard := none }) (v := ?_) rfl (Or.inl ⟨by rfl, ?_⟩) ?_; rotate_left; (focus (intro w hSw; (try dsimp only at hSw); go_simp; (try (with_reducible rfl)); done)); try simp only [Act.put, List.setIfInBounds_toArray, List.set_cons_zero, List.set_cons_succ])
    (refine wpL_calm (o := { dst := some 50, op := Go.Op.load 35 (Go.Operand.tmp 49), type := 35, pos := "law.go:87", after := #[{ on := 2, ground := Go.Ground.data }], guard := none }) (v := ?_) rfl (Or.inl ⟨by rfl, ?_⟩) ?_; rotate_left; (focus (intro w hSw; (try dsimp only at hSw); go_simp; (try (with_reducible rfl)); done)); try simp only [Act.put, List.setIfInBounds_toArray, List.set_cons_zero, List.set_cons_succ])
    (refine wpL_calm (o := { dst := some 51, op := Go.Op.fieldAddr 44 (Go.Operand.tmp 1) 6, type := 0, pos := "law.go:87", after := #[], guard := none }) (v := ?_) rfl (Or.inl ⟨by rfl, ?_⟩) ?_; rotate_left; (focus (intro w hSw; (try dsimp only at hSw); go_simp; (try (with_reducible rfl)); done)); try simp only [Act.put, List.setIfInBounds_toArray, List.set_cons_zero, List.set_cons_succ])
    (refine wpL_calm (o := { dst := some 52, op := Go.Op.load 3 (Go.Operand.tmp 51), type := 3, pos := "law.go:87", after := #[{ on := 4, ground := Go.Ground.data }], guard := none }) (v := ?_) rfl (Or.inl ⟨by rfl, ?_⟩) ?_; rotate_left; (focus (intro w hSw; (try dsimp only at hSw); go_simp; (try (with_reducible rfl)); done)); try simp only [Act.put, List.setIfInBounds_toArray, List.set_cons_zero, List.set_cons_succ])
    refine wpL_loud1 (o := { dst := some 53, op := Go.Op.call { callee := Go.Callee.value (Go.Operand.func 18), args := #[Go.Operand.tmp 52], argTypes := #[3] }, type := 3, pos := "law.go:87", after := #[{ on := 5, ground := Go.Ground.data }], guard := none }) rfl (fun K hK => ?_)
    go_simp; go_at_call 18; ((with_reducible refine (HQ.out _).mono ?_); rintro e w' ⟨rfl, rfl⟩)
    try go_wp2_with fail
    refine hK.out _ _ ?_ (fun hHeld => ?_)
    · (try dsimp only); exact hHeld
    clear hK K
    try simp only [Act.put, List.setIfInBounds_toArray, List.set_cons_zero, List.set_cons_succ]
    refine wpL_loud1 (o := { dst := some 54, op := Go.Op.call { callee := Go.Callee.value (Go.Operand.func 17), args := #[Go.Operand.tmp 48, Go.Operand.tmp 50, Go.Operand.tmp 53], argTypes := #[35, 35, 3] }, type := 45, pos := "law.go:87", after := #[{ on := 1, ground := Go.Ground.data }, { on := 3, ground := Go.Ground.data }, { on := 6, ground := Go.Ground.data }, { on := 6, ground := Go.Ground.chain }], guard := none }) rfl (fun K hK => ?_)
    go_simp; go_at_call 17; ((with_reducible refine (HRT.out _).mono ?_); rintro e w' ⟨rfl, rfl⟩)
    try go_wp2_with fail
    refine hK.out _ _ ?_ (fun hHeld => ?_)
    · (try dsimp only); exact hHeld
    clear hK K
    try simp only [Act.put, List.setIfInBounds_toArray, List.set_cons_zero, List.set_cons_succ]
    (refine wpL_calm (o := { dst := some 46, op := Go.Op.move (Go.Operand.tmp 54), type := 45, pos := "law.go:87", after := #[{ on := 7, ground := Go.Ground.data }], guard := none }) (v := ?_) rfl (Or.inl ⟨by rfl, ?_⟩) ?_; rotate_left; (focus (intro w hSw; (try dsimp only at hSw); go_simp; (try (with_reducible rfl)); done)); try simp only [Act.put, List.setIfInBounds_toArray, List.set_cons_zero, List.set_cons_succ])
    (refine wpL_calm (o := { dst := some 55, op := Go.Op.extract (Go.Operand.tmp 46) 0, type := 35, pos := "law.go:87", after := #[{ on := 8, ground := Go.Ground.data }], guard := none }) (v := ?_) rfl (Or.inl ⟨by rfl, ?_⟩) ?_; rotate_left; (focus (intro w hSw; (try dsimp only at hSw); go_simp; (try (with_reducible rfl)); done)); try simp only [Act.put, List.setIfInBounds_toArray, List.set_cons_zero, List.set_cons_succ])
    (refine wpL_calm (o := { dst := some 56, op := Go.Op.extract (Go.Operand.tmp 46) 1, type := 35, pos := "law.go:87", after := #[{ on := 8, ground := Go.Ground.data }, { on := 11, ground := Go.Ground.gcOnly Go.Departure.lateStores }], guard := none }) (v := ?_) rfl (Or.inl ⟨by rfl, ?_⟩) ?_; rotate_left; (focus (intro w hSw; (try dsimp only at hSw); go_simp; (try (with_reducible rfl)); done)); try simp only [Act.put, List.setIfInBounds_toArray, List.set_cons_zero, List.set_cons_succ])
    (refine wpL_calm (o := { dst := some 8, op := Go.Op.assign (Go.Operand.tmp 55), type := 35, pos := "law.go:87", after := #[{ on := 9, ground := Go.Ground.data }, { on := 7, ground := Go.Ground.chain }, { on := 0, ground := Go.Ground.phase }, { on := 1, ground := Go.Ground.phase }, { on := 2, ground := Go.Ground.phase }, { on := 3, ground := Go.Ground.phase }, { on := 4, ground := Go.Ground.phase }, { on := 5, ground := Go.Ground.phase }, { on := 6, ground := Go.Ground.phase }, { on := 7, ground := Go.Ground.phase }, { on := 8, ground := Go.Ground.phase }, { on := 9, ground := Go.Ground.phase }, { on := 10, ground := Go.Ground.textOnly Go.Departure.lateStores }], guard := none }) (v := ?_) rfl (Or.inl ⟨by rfl, ?_⟩) ?_; rotate_left; (focus (intro w hSw; (try dsimp only at hSw); go_simp; (try (with_reducible rfl)); done)); try simp only [Act.put, List.setIfInBounds_toArray, List.set_cons_zero, List.set_cons_succ])
    (refine wpL_calm (o := { dst := some 9, op := Go.Op.assign (Go.Operand.tmp 56), type := 35, pos := "law.go:87", after := #[{ on := 10, ground := Go.Ground.data }, { on := 11, ground := Go.Ground.chain }, { on := 0, ground := Go.Ground.phase }, { on := 1, ground := Go.Ground.phase }, { on := 2, ground := Go.Ground.phase }, { on := 3, ground := Go.Ground.phase }, { on := 4, ground := Go.Ground.phase }, { on := 5, ground := Go.Ground.phase }, { on := 6, ground := Go.Ground.phase }, { on := 7, ground := Go.Ground.phase }, { on := 8, ground := Go.Ground.phase }, { on := 9, ground := Go.Ground.phase }, { on := 10, ground := Go.Ground.phase }, { on := 11, ground := Go.Ground.phase }], guard := none }) (v := ?_) rfl (Or.inl ⟨by rfl, ?_⟩) ?_; rotate_left; (focus (intro w hSw; (try dsimp only at hSw); go_simp; (try (with_reducible rfl)); done)); try simp only [Act.put, List.setIfInBounds_toArray, List.set_cons_zero, List.set_cons_succ])
    refine wpL_nil ?_
    refine NoPanic.normal ?_
    go_wp2
    go_meet
    exact ⟨rfl, rfl, 1, rfl⟩
  case rest =>
  obtain ⟨rfl, rfl, d6, rfl⟩ := hcut
  have B6 := below_drewN B5 d6
  have HA6 := Lib.hid (HA5.out.drewN d6)
  have HB6 := Lib.hid (HB5.out.drewN d6)
  have HD6 := Lib.hid (HC6.out.drewN d6)
  have i2 : (w5.drewN d6).cell? ⟨w.heap.size, 2, none⟩ = _ := j2
  have i3 : (w5.drewN d6).cell? ⟨w.heap.size, 3, none⟩ = _ := j3
  have i4 : (w5.drewN d6).cell? ⟨w.heap.size, 4, none⟩ = _ := j4
  have i5 : (w5.drewN d6).cell? ⟨w.heap.size, 5, none⟩ = _ := j5
  have l6 : w.heap.size < (w5.drewN d6).heap.size := l5
  clear HA5 HB5 HC6 j2 j3 j4 j5 j6 l5 B5 HQ HRT
  generalize w5.drewN d6 = w6 at *
  obtain ⟨hCa, hCe, hCb, hCx, hCy⟩ := HCC.out
  have f3 : C.a 3 = n + m := by rw [hCa]; show wrap64 (n + m) = n + m; exact wrapIn (by omega)
  have f5 : C.e 5 = m := by rw [hCe]; show wrap64 (m + 0) = m; rw [Int.add_zero]; exact wrapIn (by omega)
  have fb : C.b = n + m := by rw [hCb]; show wrap64 (n + m) = n + m; exact wrapIn (by omega)
  have q3 := HD6.out.ca 3 (by omega)
  have q5 := HD6.out.ce 5 (by omega)
  have qb := HD6.out.cb
  have qz := HD6.out.cz
  rw [f3] at q3
  rw [f5, show 24 + 5 = 29 from rfl] at q5
  rw [fb] at qb
  clear f3 f5 fb hCa hCe hCb
  obtain ⟨r1, e1, g1, run1⟩ := arith_run .add 35 X (turnF q (U, V)).1 w6 (by simp)
  obtain ⟨r2, e2, g2, run2⟩ := arith_run .add 35 Y (turnF q (U, V)).2 (w6.drewN e1) (by simp)
  have HSC := Lib.hid (fun w => rsame_any C.x C.y r1 r2 w hCx.lt hCy.lt g1.lt g2.lt)
  rw [show sameF C.x r1 = true from hCx.congr g1, show sameF C.y r2 = true from hCy.congr g2] at HSC
  have HCS := Lib.hid (fun w => same_tally C C w hCx.lt hCy.lt hCx.lt hCy.lt)
  rw [sameT_self] at HCS
  have HAB := Lib.hid (fun w => same_tally (tA n m X Y) (tB m U V) w HXB.out.1 HXB.out.2.1 HXB.out.2.2.1 HXB.out.2.2.2)
  rw [World.drewN_drewN] at run2
  clear hCx hCy g1 g2 HCC
  generalize (turnF q (U, V)).1 = tx at *
  generalize (turnF q (U, V)).2 = ty at *
  generalize C.x = cx at *
  generalize C.y = cy at *
  go_wp2_with fail
  refine (HSC.out _).mono ?_
  rintro e w7 ⟨rfl, rfl⟩
  clear q3 q5 qb qz run1 run2
  have HA7 := Lib.hid (HA6.out.drewN (e1 + e2))
  have HB7 := Lib.hid (HB6.out.drewN (e1 + e2))
  have HD7 := Lib.hid (HD6.out.drewN (e1 + e2))
  have B7 := below_drewN B6 (e1 + e2)
  have p2 : (w6.drewN (e1 + e2)).cell? ⟨w.heap.size, 2, none⟩ = _ := i2
  have p3 : (w6.drewN (e1 + e2)).cell? ⟨w.heap.size, 3, none⟩ = _ := i3
  have p4 : (w6.drewN (e1 + e2)).cell? ⟨w.heap.size, 4, none⟩ = _ := i4
  have p5 : (w6.drewN (e1 + e2)).cell? ⟨w.heap.size, 5, none⟩ = _ := i5
  have l7 : w.heap.size < (w6.drewN (e1 + e2)).heap.size := l6
  clear HA6 HB6 HD6 B6 i2 i3 i4 i5 l6
  generalize w6.drewN (e1 + e2) = w7 at *
  go_wp2_with fail
  refine (awake35 _).mono ?_
  rintro e w8 ⟨rfl, b8⟩
  have ha := HA7.out.below b8 HA7.out.lt
  have hb := HB7.out.below b8 HB7.out.lt
  have hc := HD7.out.below b8 HD7.out.lt
  have B8 := B7.trans (b8.mono B7.size)
  have i2 := (b8.cell (p := ⟨w.heap.size, 2, none⟩) l7).trans p2
  have i3 := (b8.cell (p := ⟨w.heap.size, 3, none⟩) l7).trans p3
  have i4 := (b8.cell (p := ⟨w.heap.size, 4, none⟩) l7).trans p4
  have i5 := (b8.cell (p := ⟨w.heap.size, 5, none⟩) l7).trans p5
  have l8 : w.heap.size < w8.heap.size := Nat.lt_of_lt_of_le l7 b8.size
  have HC8 := Lib.hid hc
  clear p2 p3 p4 p5 l7 b8 HA7 HB7 HD7 B7 hc
  have ha : w8.heap[ga]? = some (.cells (tcells (tA n m X Y)) 28 (0, 0)) := ha
  have hb : w8.heap[ga + 1]? = some (.cells (tcells (tB m U V)) 28 (0, 0)) := hb
  obtain ⟨s1, s2⟩ := sameT_AB n m X Y U V
  have hcase : (n = m ∧ m = 0) ∨ (¬ n = m) ∨ (n = m ∧ ¬ m = 0) := by omega
  rcases hcase with ⟨h1, h2⟩ | h1 | ⟨h1, h2⟩
  · as_aux_lemma =>
    have s := s1 h1 h2
    clear s1 s2
    rw [s] at HAB
    have HXY : ∀ b, b = (sameF X U && sameF Y V) → Hid (∀ w, Calls Try.prog 19 #[.float .f64 X, .float .f64 Y, .float .f64 U, .float .f64 V] w fun e w' => e = .returned (.bool b) ∧ w = w') := by rintro b rfl; exact HSM
    generalize hbv : (sameF X U && sameF Y V) = bv at HAB HXY
    have HXY2 := HXY bv rfl
    clear HXY HSM s hbv
    have e1' : (n == m) = true := by simpa using h1
    have e2' : (m == 0) = true := by simpa using h2
    clear h1 h2
    go_wp2_with (first
      | (refine wpList_load_row_h 28 _ rfl rfl ga rfl 28 (tcells (tA n m X Y)) (0, 0) _ ha Try.underlying28 rfl (by rw [tcells_size]; kernel_rfl) ?_)
      | (refine wpList_load_row_h 28 _ rfl rfl (ga + 1) rfl 28 (tcells (tB m U V)) (0, 0) _ hb Try.underlying28 rfl (by rw [tcells_size]; kernel_rfl) ?_)
      | (go_at_call 14; ((with_reducible refine (HAB.out _).mono ?_); rintro e w9 ⟨rfl, b9⟩; have k2 := (b9.cell (p := ⟨w.heap.size, 2, none⟩) l8).trans i2; have k3 := (b9.cell (p := ⟨w.heap.size, 3, none⟩) l8).trans i3; have k4 := (b9.cell (p := ⟨w.heap.size, 4, none⟩) l8).trans i4; have k5 := (b9.cell (p := ⟨w.heap.size, 5, none⟩) l8).trans i5; have hc9 : w9.heap[gc]? = some (.cells (tcells C) 28 (0, 0)) := HC8.out.below b9 HC8.out.lt))
      | (go_at_call 19; ((with_reducible refine (HXY2.out _).mono ?_); rintro e w' ⟨rfl, rfl⟩))
      | (refine wpList_load_row_h 28 _ rfl rfl gc rfl 28 (tcells C) (0, 0) _ (by assumption) Try.underlying28 rfl (by rw [tcells_size]; kernel_rfl) ?_)
      | (go_at_call 14; ((with_reducible refine (HCS.out _).mono ?_); rintro e w10 ⟨rfl, b10⟩)))
    go_ret
    exact ⟨rfl, (B8.trans (b9.mono B8.size)).trans (b10.mono (Nat.le_trans B8.size b9.size))⟩
  · as_aux_lemma =>
    have s := s2 (Or.inl h1)
    clear s1 s2
    rw [s] at HAB
    have e1' : (n == m) = false := by simpa using h1
    have e1d : decide (n = m) = false := by simpa using h1
    clear s HSM
    have La : Loaded Try.prog 28 w8 ga (tcells (tA n m X Y)) := loaded_tally ha
    have Lb : Loaded Try.prog 28 w8 (ga + 1) (tcells (tB m U V)) := loaded_tally hb
    clear ha hb
    go_wp2_with (first | ((with_reducible refine wpList_load_row_i (g := ga) (cs := tcells (tA n m X Y)) 28 _ rfl ?_ ?_ ?_); exact ⟨rfl, rfl⟩; assumption) | ((with_reducible refine wpList_load_row_i (g := ga + 1) (cs := tcells (tB m U V)) 28 _ rfl ?_ ?_ ?_); exact ⟨rfl, rfl⟩; assumption))
    refine (HAB.out _).mono ?_
    rintro e w9 ⟨rfl, b9⟩
    have Lc : Loaded Try.prog 28 w9 gc (tcells C) := loaded_tally (HC8.out.below b9 HC8.out.lt)
    clear La Lb i2 i3 i4 i5 HAB
    go_wp2_with (first | ((with_reducible refine wpList_load_row_i (g := gc) (cs := tcells C) 28 _ rfl ?_ ?_ ?_); exact ⟨rfl, rfl⟩; assumption) | (go_at_call 14; ((with_reducible refine (HCS.out _).mono ?_); rintro e w10 ⟨rfl, b10⟩)))
    go_ret
    exact ⟨rfl, (B8.trans (b9.mono B8.size)).trans (b10.mono (Nat.le_trans B8.size b9.size))⟩
  · as_aux_lemma =>
    have s := s2 (Or.inr h2)
    clear s1 s2
    rw [s] at HAB
    have e1' : (n == m) = true := by simpa using h1
    have e2' : (m == 0) = false := by simpa using h2
    have e1d : decide (n = m) = true := by simpa using h1
    have e2d : decide (m = 0) = false := by simpa using h2
    clear h1 s HSM
    have La : Loaded Try.prog 28 w8 ga (tcells (tA n m X Y)) := loaded_tally ha
    have Lb : Loaded Try.prog 28 w8 (ga + 1) (tcells (tB m U V)) := loaded_tally hb
    clear ha hb
    go_wp2_with (first | ((with_reducible refine wpList_load_row_i (g := ga) (cs := tcells (tA n m X Y)) 28 _ rfl ?_ ?_ ?_); exact ⟨rfl, rfl⟩; assumption) | ((with_reducible refine wpList_load_row_i (g := ga + 1) (cs := tcells (tB m U V)) 28 _ rfl ?_ ?_ ?_); exact ⟨rfl, rfl⟩; assumption))
    refine (HAB.out _).mono ?_
    rintro e w9 ⟨rfl, b9⟩
    have Lc : Loaded Try.prog 28 w9 gc (tcells C) := loaded_tally (HC8.out.below b9 HC8.out.lt)
    clear La Lb i2 i3 i4 i5 HAB
    go_wp2_with (first | ((with_reducible refine wpList_load_row_i (g := gc) (cs := tcells C) 28 _ rfl ?_ ?_ ?_); exact ⟨rfl, rfl⟩; assumption) | (go_at_call 14; ((with_reducible refine (HCS.out _).mono ?_); rintro e w10 ⟨rfl, b10⟩)))
    go_ret
    exact ⟨rfl, (B8.trans (b9.mono B8.size)).trans (b10.mono (Nat.le_trans B8.size b9.size))⟩
theorem two_fields : ∃ f0 f1 f2 f3 f4 f5 f6, Try.prog.underlying 44 = some (.struct #[f0, f1, f2, f3, f4, f5, f6]) ∧ oneCellFields Try.prog #[f0, f1, f2, f3, f4, f5, f6] = true ∧ f0.type = 3 ∧ f1.type = 3 ∧ f2.type = 35 ∧ f3.type = 35 ∧ f4.type = 35 ∧ f5.type = 35 ∧ f6.type = 3 :=
  ⟨_, _, _, _, _, _, _, Try.underlying44, by kernel_rfl, rfl, rfl, rfl, rfl, rfl, rfl, rfl⟩
section
variable {H : Type} {enc : TypeId × Value → H} {P : Program} {w : World}
/-- A struct of one-cell fields that came in by value. -/
theorem open_agg_any {r : Reach} {b0 : Nat} {t : TypeId} {fs : Array Field} {v : Value} {d : DataW H} {p : List MemPlace} (hs : P.underlying t = some (.struct fs)) (hone : oneCellFields P fs = true) (hC : P.cellsOf t = fs.size)
    (hv : Value.okWide P w r b0 t v) (h : DataW.Trod enc P w 0 (fun _ => true) true t v d p) :
    ∃ (cs : List Value) (n : Nat), v = .agg cs.toArray ∧ cs.length = fs.size ∧ ∀ (j : Nat) (f : Field), fs[j]? = some f → ∃ (u : Value) (y : DataW H × List MemPlace), cs[j]? = some u ∧ DataW.trod enc P w 0 (fun _ => true) true n f.type [u] = some y := by
  obtain ⟨cs, rfl, hsz⟩ := okWide_struct hs hv
  obtain ⟨l⟩ := cs
  have hl : l.length = fs.size := hsz.trans hC
  obtain ⟨fuel, hf⟩ := h
  obtain ⟨ys, n', hn', hy, hlen, hyl, hf'⟩ := DataW.trod_struct hs hf
  refine ⟨l, n', rfl, hl, fun j f hj => ?_⟩
  obtain ⟨ho, hk⟩ := hone_of hone j f hj
  have hjl : j < fs.size := (Array.getElem?_eq_some_iff.1 hj).1
  have h1 := hf' j f hj
  rw [ho, hk] at h1
  have e0 : (Value.agg ⟨l⟩).cells.toList = l := by simp [Value.cells]
  rw [e0] at h1
  have hone' : (l.drop j).take 1 = [l[j]'(by omega)] := by
    rw [List.drop_eq_getElem_cons (by omega)]
    rfl
  rw [hone'] at h1
  have hys : ys[j]? = some (ys[j]'(by omega)) := List.getElem?_eq_getElem (by omega)
  exact ⟨_, _, List.getElem?_eq_getElem (by omega), h1.trans hys⟩
theorem field_float {n : Nat} {t : TypeId} {v : Value} {y : DataW H × List MemPlace} (ht : P.underlying t = some (.float .f64)) (h : DataW.trod enc P w 0 (fun _ => true) true n t [v] = some y) :
    ∃ x, v = .float .f64 x ∧ x < 18446744073709551616 := by
  cases n with
  | zero => simp [DataW.trod] at h
  | succ n =>
    simp only [DataW.trod, ht] at h
    cases v <;> simp at h
    rename_i k b
    cases k <;> simp at h
    by_cases hw : (Lit.float .f64 b).wf = true
    · exact ⟨b, rfl, float_wf hw⟩
    · simp [hw] at h
end
theorem tallyAdds_walk {H : Type} {enc : TypeId × Value → H} {r : Reach} {b0 : Nat} (v : Value) (d : DataW H) (p : List MemPlace) (w : World)
    (hok : Value.okWide Try.prog w r b0 44 v) (h : DataW.Trod enc Try.prog w 0 (fun _ => true) true 44 v d p) :
    Calls Try.prog 6 #[v] w fun e w' => e = .returned (.bool true) ∧ Below w.heap.size w w' := by
  obtain ⟨f0, f1, f2, f3, f4, f5, f6, hs, hone, t0, t1, t2, t3, t4, t5, t6⟩ := two_fields
  obtain ⟨cs, m, rfl, hl, hf⟩ := open_agg_any hs hone (by kernel_rfl) hok h
  obtain ⟨v0, y0, e0, h0⟩ := hf 0 f0 rfl
  obtain ⟨v1, y1, e1, h1⟩ := hf 1 f1 rfl
  obtain ⟨v2, y2, e2, h2⟩ := hf 2 f2 rfl
  obtain ⟨v3, y3, e3, h3⟩ := hf 3 f3 rfl
  obtain ⟨v4, y4, e4, h4⟩ := hf 4 f4 rfl
  obtain ⟨v5, y5, e5, h5⟩ := hf 5 f5 rfl
  obtain ⟨v6, y6, e6, h6⟩ := hf 6 f6 rfl
  rw [t0] at h0
  rw [t1] at h1
  rw [t2] at h2
  rw [t3] at h3
  rw [t4] at h4
  rw [t5] at h5
  rw [t6] at h6
  obtain ⟨x0, rfl, w0⟩ := field_int Try.underlying3 h0
  obtain ⟨x1, rfl, w1⟩ := field_int Try.underlying3 h1
  obtain ⟨x2, rfl, w2⟩ := field_float Try.underlying35 h2
  obtain ⟨x3, rfl, w3⟩ := field_float Try.underlying35 h3
  obtain ⟨x4, rfl, w4⟩ := field_float Try.underlying35 h4
  obtain ⟨x5, rfl, w5⟩ := field_float Try.underlying35 h5
  obtain ⟨x6, rfl, w6⟩ := field_int Try.underlying3 h6
  have hl7 : cs.length = 7 := hl
  have hcs : cs = [.int .i64 x0, .int .i64 x1, .float .f64 x2, .float .f64 x3, .float .f64 x4, .float .f64 x5, .int .i64 x6] := by
    match cs, hl7, e0, e1, e2, e3, e4, e5, e6 with
    | [a, b, c, d, e, f, g], _, e0, e1, e2, e3, e4, e5, e6 =>
      simp at e0 e1 e2 e3 e4 e5 e6
      subst e0 e1 e2 e3 e4 e5 e6
      rfl
  subst hcs
  have hk := bounds_i64 w6
  exact tallyAdds_body x0 x1 x6 x2 x3 x4 x5 (x6 % 4).toNat w w2 w3 w4 w5 (by omega) hk
end Go.Proofs.Ytnbmpackjgffaaa
