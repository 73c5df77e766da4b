/- Opening lists of acts and answers; the contract of tally.Of. -/
import Derived.Test.YtnbmpackjgffaaaTaE
import Derived.Test.YtnbmpackjgffaaaOpen
import Derived.Laws.Tables
import Derived.Laws.CopyOwn
import Derived.Deep.CutRange
namespace Go.Proofs.Ytnbmpackjgffaaa
open Go.RowKit Go.Deep Go.ChangeShapes Go.WideShapes
set_option linter.unusedVariables false
attribute [local go_sem] unary_negf run_store_complex run_store_float
/-- A list of acts in memory: their kinds. -/
def ActsAt (w : World) (ao : Option Addr) (n : Nat) (K : Nat → Int) : Prop :=
  0 < n → ∃ b off, ao = some ⟨b, off, none⟩ ∧ b < w.heap.size ∧ ∀ i, i < n → ∃ v1 v2 v3 v4 v5 v6 v7 v8 v9 v10 : Value,
    w.cell? ⟨b, off + i * 11, none⟩ = some (.int .i64 (K i)) ∧ w.cell? ⟨b, off + i * 11 + 1, none⟩ = some v1 ∧ w.cell? ⟨b, off + i * 11 + 2, none⟩ = some v2 ∧ w.cell? ⟨b, off + i * 11 + 3, none⟩ = some v3 ∧
    w.cell? ⟨b, off + i * 11 + 4, none⟩ = some v4 ∧ w.cell? ⟨b, off + i * 11 + 5, none⟩ = some v5 ∧ w.cell? ⟨b, off + i * 11 + 6, none⟩ = some v6 ∧ w.cell? ⟨b, off + i * 11 + 7, none⟩ = some v7 ∧
    w.cell? ⟨b, off + i * 11 + 8, none⟩ = some v8 ∧ w.cell? ⟨b, off + i * 11 + 9, none⟩ = some v9 ∧ w.cell? ⟨b, off + i * 11 + 10, none⟩ = some v10
/-- A list of answers in memory: their errors and texts. -/
def ToldAt (w : World) (ao : Option Addr) (n : Nat) (E : Nat → Int) (S : Nat → ByteArray) : Prop :=
  0 < n → ∃ b off, ao = some ⟨b, off, none⟩ ∧ b < w.heap.size ∧ ∀ i, i < n → ∃ v : Value,
    w.cell? ⟨b, off + i * 3, none⟩ = some (.int .i64 (E i)) ∧ w.cell? ⟨b, off + i * 3 + 1, none⟩ = some (.string (S i)) ∧ w.cell? ⟨b, off + i * 3 + 2, none⟩ = some v
/-- What Of begins with. -/
structure Fresh (w wx : World) : Prop where
  r : TallyAt wx w.heap.size ⟨fun _ => 0, fun _ => 0, 0, 0, 0⟩
  t : TallyAt wx (w.heap.size + 1) ⟨fun _ => 0, fun _ => 0, 0, 0, 0⟩
  x : OneAt wx (w.heap.size + 1 + 1) 52 (.pointer (some ⟨w.heap.size + 1, 0, none⟩))
  a : OneAt wx (w.heap.size + 1 + 1 + 1) 3 (.int .i64 0)
  size : wx.heap.size = w.heap.size + 1 + 1 + 1 + 1
  bl : Below w.heap.size w wx
def zeroT : Tl := ⟨fun _ => 0, fun _ => 0, 0, 0, 0⟩
theorem fresh_mk0 (w : World) : Hid (Fresh w ((((w.alloc (.cells (tcells zeroT) 28)).alloc (.cells (tcells zeroT) 28)).alloc (.cells #[.pointer (some ⟨w.heap.size + 1, 0, none⟩)] 52)).alloc (.cells #[.int .i64 0] 3))) := by
  have b0 : Below w.heap.size w (w.alloc (.cells (tcells zeroT) 28)) := (Below.refl _ _).alloc (Nat.le_refl _) _
  have t0 : TallyAt (w.alloc (.cells (tcells zeroT) 28)) w.heap.size zeroT := heap_alloc_new _ _
  have s0 : (w.alloc (.cells (tcells zeroT) 28)).heap.size = w.heap.size + 1 := by simp
  generalize w.alloc (.cells (tcells zeroT) 28) = w0 at *
  have b1 : Below w0.heap.size w0 (w0.alloc (.cells (tcells zeroT) 28)) := (Below.refl _ _).alloc (Nat.le_refl _) _
  have t1 : TallyAt (w0.alloc (.cells (tcells zeroT) 28)) w0.heap.size zeroT := heap_alloc_new _ _
  have s1 : (w0.alloc (.cells (tcells zeroT) 28)).heap.size = w0.heap.size + 1 := by simp
  generalize w0.alloc (.cells (tcells zeroT) 28) = w1 at *
  have b2 : Below w1.heap.size w1 (w1.alloc (.cells #[.pointer (some ⟨w.heap.size + 1, 0, none⟩)] 52)) := (Below.refl _ _).alloc (Nat.le_refl _) _
  have x2 := OneAt.new w1 52 (.pointer (some ⟨w.heap.size + 1, 0, none⟩))
  have s2 : (w1.alloc (.cells #[.pointer (some ⟨w.heap.size + 1, 0, none⟩)] 52)).heap.size = w1.heap.size + 1 := by simp
  generalize w1.alloc (.cells #[.pointer (some ⟨w.heap.size + 1, 0, none⟩)] 52) = w2 at *
  have b3 : Below w2.heap.size w2 (w2.alloc (.cells #[.int .i64 0] 3)) := (Below.refl _ _).alloc (Nat.le_refl _) _
  have x3 := OneAt.new w2 3 (.int .i64 0)
  have s3 : (w2.alloc (.cells #[.int .i64 0] 3)).heap.size = w2.heap.size + 1 := by simp
  generalize w2.alloc (.cells #[.int .i64 0] 3) = w3 at *
  have b03 := ((b0.trans (b1.mono (by omega))).trans (b2.mono (by omega))).trans (b3.mono (by omega))
  have e1 : w0.heap.size = w.heap.size + 1 := s0
  have e2 : w1.heap.size = w.heap.size + 1 + 1 := by omega
  have e3 : w2.heap.size = w.heap.size + 1 + 1 + 1 := by omega
  rw [e1] at t1
  rw [e2] at x2
  rw [e3] at x3
  exact Lib.hid ⟨((t0.below b1 (by omega)).below b2 (by omega)).below b3 (by omega), (t1.below b2 (by omega)).below b3 (by omega), x2.below b3 (by omega), x3, by omega, b03⟩
theorem zlit : tcells zeroT = #[.int .i64 0, .int .i64 0, .int .i64 0, .int .i64 0, .int .i64 0, .int .i64 0, .int .i64 0, .int .i64 0, .int .i64 0, .int .i64 0, .int .i64 0, .int .i64 0, .int .i64 0, .int .i64 0, .int .i64 0, .int .i64 0, .int .i64 0, .int .i64 0, .int .i64 0, .int .i64 0, .int .i64 0, .int .i64 0, .int .i64 0, .int .i64 0, .int .i64 0, .int .i64 0, .int .i64 0, .int .i64 0, .int .i64 0, .int .i64 0, .int .i64 0, .int .i64 0, .int .i64 0, .int .i64 0, .int .i64 0, .int .i64 0, .int .i64 0, .int .i64 0, .int .i64 0, .int .i64 0, .int .i64 0, .int .i64 0, .int .i64 0, .int .i64 0, .int .i64 0, .int .i64 0, .int .i64 0, .int .i64 0, .int .i64 0, .int .i64 0, .int .i64 0, .int .i64 0, .int .i64 0, .int .i64 0, .int .i64 0, .int .i64 0, .int .i64 0, .complex .f64 0 0] := by kernel_rfl
theorem fresh_mk (w : World) : Hid (Fresh w ((((w.alloc (.cells #[.int .i64 0, .int .i64 0, .int .i64 0, .int .i64 0, .int .i64 0, .int .i64 0, .int .i64 0, .int .i64 0, .int .i64 0, .int .i64 0, .int .i64 0, .int .i64 0, .int .i64 0, .int .i64 0, .int .i64 0, .int .i64 0, .int .i64 0, .int .i64 0, .int .i64 0, .int .i64 0, .int .i64 0, .int .i64 0, .int .i64 0, .int .i64 0, .int .i64 0, .int .i64 0, .int .i64 0, .int .i64 0, .int .i64 0, .int .i64 0, .int .i64 0, .int .i64 0, .int .i64 0, .int .i64 0, .int .i64 0, .int .i64 0, .int .i64 0, .int .i64 0, .int .i64 0, .int .i64 0, .int .i64 0, .int .i64 0, .int .i64 0, .int .i64 0, .int .i64 0, .int .i64 0, .int .i64 0, .int .i64 0, .int .i64 0, .int .i64 0, .int .i64 0, .int .i64 0, .int .i64 0, .int .i64 0, .int .i64 0, .int .i64 0, .int .i64 0, .complex .f64 0 0] 28)).alloc (.cells #[.int .i64 0, .int .i64 0, .int .i64 0, .int .i64 0, .int .i64 0, .int .i64 0, .int .i64 0, .int .i64 0, .int .i64 0, .int .i64 0, .int .i64 0, .int .i64 0, .int .i64 0, .int .i64 0, .int .i64 0, .int .i64 0, .int .i64 0, .int .i64 0, .int .i64 0, .int .i64 0, .int .i64 0, .int .i64 0, .int .i64 0, .int .i64 0, .int .i64 0, .int .i64 0, .int .i64 0, .int .i64 0, .int .i64 0, .int .i64 0, .int .i64 0, .int .i64 0, .int .i64 0, .int .i64 0, .int .i64 0, .int .i64 0, .int .i64 0, .int .i64 0, .int .i64 0, .int .i64 0, .int .i64 0, .int .i64 0, .int .i64 0, .int .i64 0, .int .i64 0, .int .i64 0, .int .i64 0, .int .i64 0, .int .i64 0, .int .i64 0, .int .i64 0, .int .i64 0, .int .i64 0, .int .i64 0, .int .i64 0, .int .i64 0, .int .i64 0, .complex .f64 0 0] 28)).alloc (.cells #[.pointer (some ⟨w.heap.size + 1, 0, none⟩)] 52)).alloc (.cells #[.int .i64 0] 3))) := by
  rw [← zlit]
  exact fresh_mk0 w
theorem tcells_one (T : Tl) : (tcells T).all (·.oneCell') = true := by
  refine Array.all_eq_true_iff_forall_mem.2 fun v hv => ?_
  unfold tcells at hv
  simp at hv
  obtain ⟨i, _, rfl⟩ := hv
  unfold tcell
  split
  · rfl
  · split
    · rfl
    · split <;> rfl
theorem counter_any (g : Nat) (w : World) : Calls Try.prog 20 #[.pointer (some ⟨g, 0, none⟩)] w fun e w' =>
    e = .returned (.func (.func 25) #[] #[.pointer (some ⟨w.heap.size, 0, none⟩), .pointer (some ⟨w.heap.size + 1, 0, none⟩)]) ∧ (w.alloc (.cells #[.pointer (some ⟨g, 0, none⟩)] 52)).alloc (.cells #[.int .i64 0] 3) = w' := by
  go_enter Try.func20, Try.ntmps20
  go_wp2
  go_ret
  exact ⟨rfl, rfl⟩
set_option maxRecDepth 100000 in
set_option maxHeartbeats 4000000 in
theorem of_any (ao bo : Option Addr) (n c m d : Nat) (K E : Nat → Int) (S : Nat → ByteArray) (w : World) (hn : n ≤ 4503599627370496) (hm : m ≤ 9223372036854775807) (hA : ActsAt w ao n K) (hT : ToldAt w bo m E S) :
    Calls Try.prog 7 #[.slice ao n c, .slice bo m d] w fun r w' => r = .returned (.agg (tcells (tl K E S (min n m)))) ∧ Below w.heap.size w w' := by
  have HA := Lib.hid hA
  have HT := Lib.hid hT
  clear hA hT
  go_enter Try.func7, Try.ntmps7
  go_upto_region 3 with (go_at_call 20; refine (counter_any _ _).mono ?_; rintro e w1 ⟨rfl, rfl⟩)
  go_cut [13, 14] from 9 (fun s13 s14 wx => s13 = .int .i64 ((min n m : Nat) : Int) ∧ s14 = .int .i64 0 ∧ Hid (Fresh w wx))
  case first =>
    have HF := fresh_mk w
    go_wp2
    all_goals
      go_meet
      refine ⟨?_, rfl, HF⟩
      congr 1
      omega
  case rest =>
  obtain ⟨rfl, rfl, HF⟩ := hcut
  generalize hN : min n m = N
  have hNn : N ≤ n := by omega
  have hNm : N ≤ m := by omega
  have HN := Lib.hid hN
  clear hN
  have hsz := HF.out.size
  go_wp2
  go_loopw [14] (fun x wi => ∃ i : Nat, x = .int .i64 i ∧ i ≤ N ∧ Hid (TallyAt wi (w.heap.size + 1) (tl K E S i) ∧ OneAt wi (w.heap.size + 1 + 1) 52 (.pointer (some ⟨w.heap.size + 1, 0, none⟩)) ∧ OneAt wi (w.heap.size + 1 + 1 + 1) 3 (.int .i64 i)) ∧ Below (w.heap.size + 1) wc wi) (fun x _ => N - (intOf x).toNat)
  case atStart => exact ⟨0, rfl, by omega, Lib.hid ⟨by rw [tl_zero]; exact HF.out.t, HF.out.x, HF.out.a⟩, Below.refl _ _⟩
  case round =>
    obtain ⟨i, rfl, hi, HS, hbw⟩ := hrel
    by_cases hlt : i < N
    · have hli : (i : Int) < N := by omega
      have hin : (i : Int) < n := by omega
      have him : (i : Int) < m := by omega
      have hBw : Below w.heap.size w wr := HF.out.bl.trans (hbw.mono (by omega))
      obtain ⟨ab, aoff, rfl, hab, hac⟩ := HA.out (by omega)
      obtain ⟨v1, v2, v3, v4, v5, v6, v7, v8, v9, v10, a0, a1, a2, a3, a4, a5, a6, a7, a8, a9, a10⟩ := hac i (by omega)
      obtain ⟨tb, toff, rfl, htb, htc⟩ := HT.out (by omega)
      obtain ⟨u2, t0, t1, t2⟩ := htc i (by omega)
      obtain ⟨κ, hκ⟩ : ∃ κ : Nat, kindI (K i) = κ := ⟨(kindI (K i)).toNat, by have := kindI_range (K i); omega⟩
      obtain ⟨ε, hε⟩ : ∃ ε : Nat, errI (E i) = ε := ⟨(errI (E i)).toNat, by have := errI_range (E i); omega⟩
      have HC : ∀ wx : World, TallyAt wx (w.heap.size + 1) (tl K E S i) → OneAt wx (w.heap.size + 1 + 1) 52 (.pointer (some ⟨w.heap.size + 1, 0, none⟩)) → OneAt wx (w.heap.size + 1 + 1 + 1) 3 (.int .i64 i) → _ := fun wx h1 h2 h3 =>
        count_any (K i) (E i) κ ε (S i) v1 v2 v3 v4 v5 v8 v6 v7 v9 v10 u2 wx (w.heap.size + 1 + 1) (w.heap.size + 1) (w.heap.size + 1 + 1 + 1) (tl K E S i) i hκ hε (by omega) h1 h2 h3 (by omega) (by omega)
      have HCC := Lib.hid HC
      have hST := fun U h => tl_step K E S i κ ε U (by omega) hκ hε h
      have HST := Lib.hid hST
      clear HC hST hac htc hκ hε
      have b0 := (hBw.cell (p := ⟨ab, aoff + i * 11, none⟩) hab).trans a0
      have b1 := (hBw.cell (p := ⟨ab, aoff + i * 11 + 1, none⟩) hab).trans a1
      have b2 := (hBw.cell (p := ⟨ab, aoff + i * 11 + 2, none⟩) hab).trans a2
      have b3 := (hBw.cell (p := ⟨ab, aoff + i * 11 + 3, none⟩) hab).trans a3
      have b4 := (hBw.cell (p := ⟨ab, aoff + i * 11 + 4, none⟩) hab).trans a4
      have b5 := (hBw.cell (p := ⟨ab, aoff + i * 11 + 5, none⟩) hab).trans a5
      have b6 := (hBw.cell (p := ⟨ab, aoff + i * 11 + 6, none⟩) hab).trans a6
      have b7 := (hBw.cell (p := ⟨ab, aoff + i * 11 + 7, none⟩) hab).trans a7
      have b8 := (hBw.cell (p := ⟨ab, aoff + i * 11 + 8, none⟩) hab).trans a8
      have b9 := (hBw.cell (p := ⟨ab, aoff + i * 11 + 9, none⟩) hab).trans a9
      have b10 := (hBw.cell (p := ⟨ab, aoff + i * 11 + 10, none⟩) hab).trans a10
      have d0 := (hBw.cell (p := ⟨tb, toff + i * 3, none⟩) htb).trans t0
      have d1 := (hBw.cell (p := ⟨tb, toff + i * 3 + 1, none⟩) htb).trans t1
      have d2 := (hBw.cell (p := ⟨tb, toff + i * 3 + 2, none⟩) htb).trans t2
      clear a0 a1 a2 a3 a4 a5 a6 a7 a8 a9 a10 t0 t1 t2 HA HT
      go_wp2
      refine wp_region_lin (S := (fun w' => (w'.cell? ⟨ab, aoff + i * 11, none⟩ = some (.int .i64 (K i)) ∧ w'.cell? ⟨ab, aoff + i * 11 + 1, none⟩ = some v1 ∧ w'.cell? ⟨ab, aoff + i * 11 + 2, none⟩ = some v2 ∧ w'.cell? ⟨ab, aoff + i * 11 + 3, none⟩ = some v3 ∧ w'.cell? ⟨ab, aoff + i * 11 + 4, none⟩ = some v4 ∧ w'.cell? ⟨ab, aoff + i * 11 + 5, none⟩ = some v5 ∧ w'.cell? ⟨ab, aoff + i * 11 + 6, none⟩ = some v6 ∧ w'.cell? ⟨ab, aoff + i * 11 + 7, none⟩ = some v7 ∧ w'.cell? ⟨ab, aoff + i * 11 + 8, none⟩ = some v8 ∧ w'.cell? ⟨ab, aoff + i * 11 + 9, none⟩ = some v9 ∧ w'.cell? ⟨ab, aoff + i * 11 + 10, none⟩ = some v10) ∧ w'.cell? ⟨tb, toff + i * 3, none⟩ = some (.int .i64 (E i)) ∧ w'.cell? ⟨tb, toff + i * 3 + 1, none⟩ = some (.string (S i)) ∧ w'.cell? ⟨tb, toff + i * 3 + 2, none⟩ = some u2)) [(0, true), (1, true), (2, true), (3, true), (4, true), (5, true), (6, true), (7, true), (8, true), (9, false)] (by kernel_rfl) (by kernel_rfl) rfl (by kernel_rfl) ?_ (fun hHeld => ?_)
      · (try dsimp only); exact ⟨⟨b0, b1, b2, b3, b4, b5, b6, b7, b8, b9, b10⟩, d0, d1, d2⟩
      (refine wpL_calm (o := { dst := some 17, op := Go.Op.move (Go.Operand.tmp 6), type := 50, pos := "tally.go:51", after := #[], guard := none }) (v := ?_) rfl (Or.inl ⟨by rfl, ?_⟩) ?_; rotate_left; (focus (intro w hSw; (try dsimp only at hSw); go_simp; (try (with_reducible rfl)); done)); try simp only [Act.put, List.setIfInBounds_toArray, List.set_cons_zero, List.set_cons_succ])
      (refine wpL_calm (o := { dst := some 18, op := Go.Op.move (Go.Operand.tmp 0), type := 22, pos := "tally.go:51", after := #[], guard := none }) (v := ?_) rfl (Or.inl ⟨by rfl, ?_⟩) ?_; rotate_left; (focus (intro w hSw; (try dsimp only at hSw); go_simp; (try (with_reducible rfl)); done)); try simp only [Act.put, List.setIfInBounds_toArray, List.set_cons_zero, List.set_cons_succ])
      (refine wpL_calm (o := { dst := some 19, op := Go.Op.move (Go.Operand.tmp 7), type := 3, pos := "tally.go:51", after := #[], guard := none }) (v := ?_) rfl (Or.inl ⟨by rfl, ?_⟩) ?_; rotate_left; (focus (intro w hSw; (try dsimp only at hSw); go_simp; (try (with_reducible rfl)); done)); try simp only [Act.put, List.setIfInBounds_toArray, List.set_cons_zero, List.set_cons_succ])
      (refine wpL_calm (o := { dst := some 20, op := Go.Op.indexAddr 22 (Go.Operand.tmp 18) (Go.Operand.tmp 19), type := 0, pos := "tally.go:51", after := #[{ on := 1, ground := Go.Ground.data }, { on := 2, ground := Go.Ground.data }], guard := none }) (v := ?_) rfl (Or.inl ⟨by rfl, ?_⟩) ?_; rotate_left; (focus (intro w hSw; (try dsimp only at hSw); go_simp; (try (with_reducible rfl)); done)); try simp only [Act.put, List.setIfInBounds_toArray, List.set_cons_zero, List.set_cons_succ])
      (refine wpL_calm (o := { dst := some 21, op := Go.Op.load 57 (Go.Operand.tmp 20), type := 57, pos := "tally.go:51", after := #[{ on := 3, ground := Go.Ground.data }], guard := none }) (v := ?_) rfl (Or.inl ⟨by rfl, ?_⟩) ?_; rotate_left; (focus (intro w hSw; (try dsimp only at hSw); go_simp; (try (with_reducible rfl)); done)); try simp only [Act.put, List.setIfInBounds_toArray, List.set_cons_zero, List.set_cons_succ])
      (refine wpL_calm (o := { dst := some 22, op := Go.Op.move (Go.Operand.tmp 1), type := 23, pos := "tally.go:51", after := #[], guard := none }) (v := ?_) rfl (Or.inl ⟨by rfl, ?_⟩) ?_; rotate_left; (focus (intro w hSw; (try dsimp only at hSw); go_simp; (try (with_reducible rfl)); done)); try simp only [Act.put, List.setIfInBounds_toArray, List.set_cons_zero, List.set_cons_succ])
      (refine wpL_calm (o := { dst := some 23, op := Go.Op.move (Go.Operand.tmp 7), type := 3, pos := "tally.go:51", after := #[], guard := none }) (v := ?_) rfl (Or.inl ⟨by rfl, ?_⟩) ?_; rotate_left; (focus (intro w hSw; (try dsimp only at hSw); go_simp; (try (with_reducible rfl)); done)); try simp only [Act.put, List.setIfInBounds_toArray, List.set_cons_zero, List.set_cons_succ])
      (refine wpL_calm (o := { dst := some 24, op := Go.Op.indexAddr 23 (Go.Operand.tmp 22) (Go.Operand.tmp 23), type := 0, pos := "tally.go:51", after := #[{ on := 5, ground := Go.Ground.data }, { on := 6, ground := Go.Ground.data }], guard := none }) (v := ?_) rfl (Or.inl ⟨by rfl, ?_⟩) ?_; rotate_left; (focus (intro w hSw; (try dsimp only at hSw); go_simp; (try (with_reducible rfl)); done)); try simp only [Act.put, List.setIfInBounds_toArray, List.set_cons_zero, List.set_cons_succ])
      (refine wpL_calm (o := { dst := some 25, op := Go.Op.load 60 (Go.Operand.tmp 24), type := 60, pos := "tally.go:51", after := #[{ on := 7, ground := Go.Ground.data }], guard := none }) (v := ?_) rfl (Or.inl ⟨by rfl, ?_⟩) ?_; rotate_left; (focus (intro w hSw; (try dsimp only at hSw); go_simp; (try (with_reducible rfl)); done)); try simp only [Act.put, List.setIfInBounds_toArray, List.set_cons_zero, List.set_cons_succ])
      refine wpL_loud0 (o := { dst := some 26, op := Go.Op.call { callee := Go.Callee.value (Go.Operand.tmp 17), args := #[Go.Operand.tmp 21, Go.Operand.tmp 25], argTypes := #[57, 60] }, type := 0, pos := "tally.go:51", after := #[{ on := 0, ground := Go.Ground.data }, { on := 4, ground := Go.Ground.data }, { on := 8, ground := Go.Ground.data }], guard := none }) rfl (by kernel_rfl) (fun K hK => ?_)
      go_simp; go_at_call 25; ((with_reducible refine (HCC.out _ HS.out.1.drew HS.out.2.1.drew HS.out.2.2.drew).mono ?_); rintro e w' ⟨rfl, U, hU, hD⟩; have HUE := HST.out U hU; subst HUE; have HD := Lib.hid hD)
      try go_wp2_with fail
      refine hK.out _ _ ?_
      clear hK K
      try simp only [Act.put, List.setIfInBounds_toArray, List.set_cons_zero, List.set_cons_succ]
      refine wpL_nil ?_
      refine NoPanic.normal ?_
      go_wp2
      go_roundw
      case rel => exact ⟨i + 1, by go_num, by omega, Lib.hid ⟨HD.out.t, HD.out.x, by have := HD.out.a; simpa using this⟩, (hbw.trans (Below.refl _ _).drew).trans HD.out.bl⟩
      case measure => simp [intOf]; omega
    · obtain rfl : i = N := by omega
      have ht := HS.out.1
      have hr0 : wr.heap[w.heap.size]? = some (.cells (tcells ⟨fun _ => 0, fun _ => 0, 0, 0, 0⟩) 28 (0, 0)) := (hbw.block _ (by omega)).trans HF.out.r
      have hBw : Below w.heap.size w wr := HF.out.bl.trans (hbw.mono (by omega))
      go_wp2_with (first
        | (refine wpList_load_row rfl _ _ rfl (w.heap.size + 1) rfl 28 (tcells (tl K E S i)) (0, 0) _ ht Try.underlying28 rfl (by rw [tcells_size]; kernel_rfl) ?_)
        | (refine wpList_store_row rfl _ _ _ rfl w.heap.size (tcells (tl K E S i)) rfl rfl 28 _ hr0 (by rw [tcells_size]; kernel_rfl) (by rw [tcells_size, tcells_size]) (tcells_one _) ?_))
      go_wp2
      have hh := setRow_heap wr w.heap.size _ (tcells (tl K E S i)) 28 (0, 0) hr0
      refine bodyPost_ret_by (results_cell_row rfl _ _ w.heap.size 28 (tcells (tl K E S i)) (0, 0) _ rfl hh Try.underlying28 rfl (by rw [tcells_size]; kernel_rfl)) rfl ⟨by rw [HN.out], ?_⟩
      exact below_setRow hBw (Nat.le_refl _) _
end Go.Proofs.Ytnbmpackjgffaaa
