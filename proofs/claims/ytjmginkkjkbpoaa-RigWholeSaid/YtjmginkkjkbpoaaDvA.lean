/- Package dev (cellaret): a device's blocks; refused, Read, Write, Blocks. -/
import Derived.Test.YtjmginkkjkbpoaaLin
import Derived.Test.YtjmginkkjkbpoaaBeE
import Derived.Test.YtjmginkkjkbpoaaOpenR
import Derived.Lib.Hide
import Derived.Deep.CutRange
import Derived.Deep.CutBlock
import Derived.Deep.RegionWith
import Derived.Laws.Rows
import Derived.Laws.NewBlocks
import Derived.Laws.CopyOwn
import Derived.Laws.MakeOwn
import Derived.Laws.AppendOwn
import Derived.Laws.EntriesVeiled
import Derived.Deep.MidRow
import Derived.Deep.AppendLies
namespace Go.Proofs.Ytjmginkkjkbpoaa
open Go.RowKit Go.Deep
set_option linter.unusedVariables false
set_option linter.unusedSimpArgs false
/-- What lies below g stays; of what was there, block g alone turns. -/
structure Kp (g : Nat) (w w' : World) : Prop where
  below : Below g w w'
  other : ∀ k, k < w.heap.size → k ≠ g → w'.heap[k]? = w.heap[k]?
theorem Kp.refl (g : Nat) (w : World) : Kp g w w := ⟨Below.refl _ _, fun _ _ _ => rfl⟩
theorem Kp.of_below {g : Nat} {w w' : World} (h : Below w.heap.size w w') (hg : g < w.heap.size) : Kp g w w' := ⟨h.mono (Nat.le_of_lt hg), fun k hk _ => h.block k hk⟩
theorem Kp.trans {g : Nat} {a b c : World} (h : Kp g a b) (k : Kp g b c) : Kp g a c := ⟨h.below.trans k.below, fun i hi hn => (k.other i (Nat.lt_of_lt_of_le hi h.below.size) hn).trans (h.other i hi hn)⟩
theorem Kp.setCell {g : Nat} {w w' : World} (h : Kp g w w') (k : Nat) (v : Value) : Kp g w (w'.setCell ⟨g, k, none⟩ v) := ⟨h.below.setCell (p := ⟨g, k, none⟩) (Nat.le_refl _) v, fun i hi hn => (Below.heap_setCell w' ⟨g, k, none⟩ v i hn).trans (h.other i hi hn)⟩
theorem Kp.drew {g : Nat} {w w' : World} (h : Kp g w w') : Kp g w w'.drew := ⟨h.below.drew, h.other⟩
theorem Kp.setRow {g z : Nat} {w w' : World} (h : Kp g w w') (hz : z = g ∨ (g ≤ z ∧ w.heap.size ≤ z)) (cs : Array Value) : Kp g w (w'.setRow z cs) := ⟨below_setRow h.below (by omega) cs, fun i hi hn => (setRow_other w' z i cs (by omega)).trans (h.other i hi hn)⟩
theorem Kp.row {g : Nat} {w w' : World} {b : Nat} {o : Obj} (h : Kp g w w') (hn : b ≠ g) (hb : w.heap[b]? = some o) : w'.heap[b]? = some o := (h.other b (Array.getElem?_eq_some_iff.1 hb).1 hn).trans hb
theorem Kp.cell {g : Nat} {w w' : World} (h : Kp g w w') {b o : Nat} {v : Value} (hn : b ≠ g) (hc : w.cell? ⟨b, o, none⟩ = some v) : w'.cell? ⟨b, o, none⟩ = some v :=
  (World.grownBy.cell_far (row := some g) ⟨h.below.os, h.below.tape, h.below.output, h.below.size, fun k hk hn => h.other k hk (fun e => hn (by rw [e]))⟩ ⟨b, o, none⟩ (block_lt_of_cell hc) (fun e => hn (Option.some.inj e))).trans hc
/-- A block: what it has now, what is safe, was it written. -/
structure Bk where
  now : ByteArray
  safe : ByteArray
  wr : Bool
def cB (b : Bk) (r : Nat) : Value := if r = 0 then .string b.now else if r = 1 then .string b.safe else .bool b.wr
def dvF (bs : Nat → Bk) (j : Nat) : Value := cB (bs (j / 3)) (j % 3)
/-- A device at block g, whose n blocks lie at block rb. -/
structure DvAt (w : World) (g rb n : Nat) (bs : Nat → Bk) : Prop where
  hd : w.cell? ⟨g, 0, none⟩ = some (.slice (some ⟨rb, 0, none⟩) n n)
  row : w.rowIs rb 91 (3 * n) (dvF bs)
  ne : g ≠ rb
theorem DvAt.below {w w' : World} {g rb n : Nat} {bs : Nat → Bk} (h : DvAt w g rb n bs) (hb : Below w.heap.size w w') : DvAt w' g rb n bs :=
  ⟨(hb.cell (p := ⟨g, 0, none⟩) (block_lt_of_cell h.hd)).trans h.hd, World.rowIs.of_block h.row (hb.block rb (World.rowIs.lt h.row)), h.ne⟩
theorem DvAt.drew {w : World} {g rb n : Nat} {bs : Nat → Bk} (h : DvAt w g rb n bs) : DvAt w.drew g rb n bs := ⟨h.hd, h.row, h.ne⟩
theorem DvAt.now {w : World} {g rb n : Nat} {bs : Nat → Bk} (h : DvAt w g rb n bs) (i : Nat) (hi : i < n) : w.cell? ⟨rb, i * 3, none⟩ = some (.string (bs i).now) := by
  rw [World.rowIs.cell h.row (i := i * 3) (by omega)]
  unfold dvF
  rw [show i * 3 / 3 = i by omega, show i * 3 % 3 = 0 by omega]
  rfl
theorem DvAt.safe {w : World} {g rb n : Nat} {bs : Nat → Bk} (h : DvAt w g rb n bs) (i : Nat) (hi : i < n) : w.cell? ⟨rb, i * 3 + 1, none⟩ = some (.string (bs i).safe) := by
  rw [World.rowIs.cell h.row (i := i * 3 + 1) (by omega)]
  unfold dvF
  rw [show (i * 3 + 1) / 3 = i by omega, show (i * 3 + 1) % 3 = 1 by omega]
  rfl
theorem DvAt.wr {w : World} {g rb n : Nat} {bs : Nat → Bk} (h : DvAt w g rb n bs) (i : Nat) (hi : i < n) : w.cell? ⟨rb, i * 3 + 2, none⟩ = some (.bool (bs i).wr) := by
  rw [World.rowIs.cell h.row (i := i * 3 + 2) (by omega)]
  unfold dvF
  rw [show (i * 3 + 2) / 3 = i by omega, show (i * 3 + 2) % 3 = 2 by omega]
  rfl
def upB (bs : Nat → Bk) (i : Nat) (b : Bk) : Nat → Bk := fun k => if k = i then b else bs k
theorem DvAt.write {w : World} {g rb n : Nat} {bs : Nat → Bk} (h : DvAt w g rb n bs) (i : Nat) (hi : i < n) (s : ByteArray) : DvAt ((w.setCell ⟨rb, i * 3, none⟩ (.string s)).setCell ⟨rb, i * 3 + 2, none⟩ (.bool true)) g rb n (upB bs i ⟨s, (bs i).safe, true⟩) := by
  refine ⟨?_, ?_, h.ne⟩
  · rw [World.cell?_setCell_other _ _ _ _ (by intro e; simp only [Addr.mk.injEq] at e; exact h.ne e.1.symm), World.cell?_setCell_other _ _ _ _ (by intro e; simp only [Addr.mk.injEq] at e; exact h.ne e.1.symm)]
    exact h.hd
  · refine World.rowIs.congr (World.rowIs.set (World.rowIs.set h.row (i * 3) (.string s)) (i * 3 + 2) (.bool true)) fun j hj => ?_
    unfold dvF upB
    by_cases e2 : j = i * 3 + 2
    · rw [if_pos e2, show j / 3 = i by omega, show j % 3 = 2 by omega, if_pos rfl]; rfl
    · rw [if_neg e2]
      by_cases e0 : j = i * 3
      · rw [if_pos e0, show j / 3 = i by omega, show j % 3 = 0 by omega, if_pos rfl]; rfl
      · rw [if_neg e0]
        by_cases e1 : j / 3 = i
        · rw [show j % 3 = 1 by omega, e1, if_pos rfl]; rfl
        · rw [if_neg e1]
theorem mayHave_any (n : Int) (w : World) : Calls Try.prog 53 #[.int .i64 n] w fun e w' => e = .returned (.bool (decide (1 ≤ n) && decide (n ≤ 512))) ∧ w = w' := by
  by_cases h0 : 1 ≤ n
  · by_cases h1 : n ≤ 512
    · go_enter Try.func53, Try.ntmps53
      go_wp2
      go_ret
      exact ⟨by simp [h0, h1], rfl⟩
    · go_enter Try.func53, Try.ntmps53
      go_wp2
      go_ret
      exact ⟨by simp [h0, h1], rfl⟩
  · go_enter Try.func53, Try.ntmps53
    go_wp2
    go_ret
    exact ⟨by simp [h0]; omega, rfl⟩
theorem refused_nilD (i : Int) (w : World) : Calls Try.prog 64 #[.pointer none, .int .i64 i] w fun e w' => e = .returned (.int .i64 1) ∧ w = w' := by
  go_enter Try.func64, Try.ntmps64
  go_wp2_with fail
  go_ret
  exact ⟨rfl, rfl⟩
theorem refused_outD (g rb n : Nat) (bs : Nat → Bk) (i : Int) (w : World) (hD : DvAt w g rb n bs) (hi : i < 0 ∨ (n : Int) ≤ i) : Calls Try.prog 64 #[.pointer (some ⟨g, 0, none⟩), .int .i64 i] w fun e w' => e = .returned (.int .i64 3) ∧ w = w' := by
  have hc := hD.hd
  rcases hi with h | h
  · go_enter Try.func64, Try.ntmps64
    go_wp2_with fail
    go_ret
    exact ⟨rfl, rfl⟩
  · have h0 : ¬ i < 0 := by omega
    have h1 : ¬ i < (n : Int) := by omega
    go_enter Try.func64, Try.ntmps64
    go_wp2_with fail
    go_ret
    exact ⟨rfl, rfl⟩
theorem refused_okD (g rb n i : Nat) (bs : Nat → Bk) (w : World) (hD : DvAt w g rb n bs) (hi : i < n) : Calls Try.prog 64 #[.pointer (some ⟨g, 0, none⟩), .int .i64 (i : Int)] w fun e w' => e = .returned (.int .i64 0) ∧ w = w' := by
  have hc := hD.hd
  have h0 : ¬ (i : Int) < 0 := by omega
  have h1 : (i : Int) < (n : Int) := by omega
  have h2 : ¬ (n : Int) ≤ (i : Int) := by omega
  go_enter Try.func64, Try.ntmps64
  go_wp2_with fail
  go_ret
  exact ⟨rfl, rfl⟩
theorem read_nilD (i : Int) (w : World) : Calls Try.prog 43 #[.pointer none, .int .i64 i] w fun e w' => e = .returned (.tuple #[.string ⟨#[]⟩, .int .i64 1]) ∧ w = w' := by
  go_enter Try.func43, Try.ntmps43
  go_wp2_with fail
  refine (refused_nilD i _).mono ?_
  rintro e w' ⟨rfl, rfl⟩
  go_wp2_with fail
  go_ret2
  exact ⟨rfl, rfl⟩
theorem read_outD (g rb n : Nat) (bs : Nat → Bk) (i : Int) (w : World) (hD : DvAt w g rb n bs) (hi : i < 0 ∨ (n : Int) ≤ i) : Calls Try.prog 43 #[.pointer (some ⟨g, 0, none⟩), .int .i64 i] w fun e w' => e = .returned (.tuple #[.string ⟨#[]⟩, .int .i64 3]) ∧ w = w' := by
  have CR := Lib.hid (refused_outD g rb n bs i w hD hi)
  clear hD hi
  go_enter Try.func43, Try.ntmps43
  go_wp2_with fail
  refine (CR.out).mono ?_
  rintro e w' ⟨rfl, rfl⟩
  go_wp2_with fail
  go_ret2
  exact ⟨rfl, rfl⟩
theorem read_okD (g rb n i : Nat) (bs : Nat → Bk) (w : World) (hD : DvAt w g rb n bs) (hi : i < n) : Calls Try.prog 43 #[.pointer (some ⟨g, 0, none⟩), .int .i64 (i : Int)] w fun e w' => e = .returned (.tuple #[.string (bs i).now, .int .i64 0]) ∧ w = w' := by
  have hc := hD.hd
  have h1 : (i : Int) < (n : Int) := by omega
  have c0 := hD.now i hi
  have CR := Lib.hid (refused_okD g rb n i bs w hD hi)
  generalize (bs i).now = s at *
  go_enter Try.func43, Try.ntmps43
  go_wp2_with fail
  refine (CR.out).mono ?_
  rintro e w' ⟨rfl, rfl⟩
  go_wp2_with fail
  go_ret2
  exact ⟨rfl, rfl⟩
set_option maxRecDepth 100000 in
set_option maxHeartbeats 1000000 in
theorem write_okD (g rb n i : Nat) (bs : Nat → Bk) (s : ByteArray) (w : World) (hD : DvAt w g rb n bs) (hi : i < n) (hs : s.size = 64) : Calls Try.prog 47 #[.pointer (some ⟨g, 0, none⟩), .int .i64 (i : Int), .string s] w fun e w' => e = .returned (.int .i64 0) ∧ DvAt w' g rb n (upB bs i ⟨s, (bs i).safe, true⟩) ∧ Kp rb w w' := by
  have hc := hD.hd
  have h1 : (i : Int) < (n : Int) := by omega
  have c0 := hD.now i hi
  have c2 := hD.wr i hi
  have f0 := World.rowIs.frozen hD.row (i * 3)
  have f2 := World.rowIs.frozen hD.row (i * 3 + 2)
  have ht : ((s.size : Int) == 64) = true := by rw [beq_iff_eq]; omega
  have CR := Lib.hid (fun w hD => refused_okD g rb n i bs w hD hi)
  have HD := Lib.hid hD
  have CT : Hid (Calls Try.prog 66 #[.pointer (some ⟨g, 0, none⟩), .int .i64 (i : Int), .string s] w fun e w' => e = .returned (.int .i64 0) ∧ w = w') := Lib.hid (by
    clear c0 c2 f0 f2
    go_enter Try.func66, Try.ntmps66
    go_wp2_with fail
    refine (CR.out _ HD.out).mono ?_
    rintro e w' ⟨rfl, rfl⟩
    go_wp2_with fail
    go_ret
    exact ⟨rfl, rfl⟩)
  clear hD CR
  go_enter Try.func47, Try.ntmps47
  go_wp2_with fail
  refine (CT.out).mono ?_
  rintro e w' ⟨rfl, rfl⟩
  go_upto_region 4 with fail
  refine wp_region_lin (S := (fun w' => w'.cell? ⟨g, 0, none⟩ = some (.slice (some ⟨rb, 0, none⟩) n n))) [(0, true), (1, true), (2, true), (3, true), (4, true), (5, true), (6, true), (7, true), (8, true), (9, true), (10, true), (11, true), (12, true), (13, false), (14, true), (15, true), (16, false)] (by kernel_rfl) (by kernel_rfl) rfl (by kernel_rfl) ?_ (fun hHeld => ?_)
  · (try dsimp only); exact hc
  refine wpL_calm (o := { dst := some 15, op := Go.Op.move (Go.Operand.tmp 0), type := 44, pos := "dev.go:83", after := #[], guard := none }) (v := ?_) rfl (Or.inl ⟨by rfl, ?_⟩) ?_; rotate_left; (focus (intro w hSw; (try dsimp only at hSw); go_simp; (try (with_reducible rfl)); done)); try simp only [Act.put, List.setIfInBounds_toArray, List.set_cons_zero, List.set_cons_succ]
  refine wpL_calm (o := { dst := some 16, op := Go.Op.nilCheck (Go.Operand.tmp 15), type := 0, pos := "dev.go:83", after := #[{ on := 0, ground := Go.Ground.data }], guard := none }) (v := ?_) rfl (Or.inl ⟨by rfl, ?_⟩) ?_; rotate_left; (focus (intro w hSw; (try dsimp only at hSw); go_simp; (try (with_reducible rfl)); done)); try simp only [Act.put, List.setIfInBounds_toArray, List.set_cons_zero, List.set_cons_succ]
  refine wpL_calm (o := { dst := some 17, op := Go.Op.fieldAddr 94 (Go.Operand.tmp 16) 0, type := 0, pos := "dev.go:83", after := #[{ on := 1, ground := Go.Ground.data }], guard := none }) (v := ?_) rfl (Or.inl ⟨by rfl, ?_⟩) ?_; rotate_left; (focus (intro w hSw; (try dsimp only at hSw); go_simp; (try (with_reducible rfl)); done)); try simp only [Act.put, List.setIfInBounds_toArray, List.set_cons_zero, List.set_cons_succ]
  refine wpL_calm (o := { dst := some 18, op := Go.Op.load 92 (Go.Operand.tmp 17), type := 92, pos := "dev.go:83", after := #[{ on := 2, ground := Go.Ground.data }], guard := none }) (v := ?_) rfl (Or.inl ⟨by rfl, ?_⟩) ?_; rotate_left; (focus (intro w hSw; (try dsimp only at hSw); go_simp; (try (with_reducible rfl)); done)); try simp only [Act.put, List.setIfInBounds_toArray, List.set_cons_zero, List.set_cons_succ]
  refine wpL_calm (o := { dst := some 19, op := Go.Op.move (Go.Operand.tmp 1), type := 3, pos := "dev.go:83", after := #[], guard := none }) (v := ?_) rfl (Or.inl ⟨by rfl, ?_⟩) ?_; rotate_left; (focus (intro w hSw; (try dsimp only at hSw); go_simp; (try (with_reducible rfl)); done)); try simp only [Act.put, List.setIfInBounds_toArray, List.set_cons_zero, List.set_cons_succ]
  refine wpL_calm (o := { dst := some 20, op := Go.Op.move (Go.Operand.tmp 0), type := 44, pos := "dev.go:83", after := #[], guard := none }) (v := ?_) rfl (Or.inl ⟨by rfl, ?_⟩) ?_; rotate_left; (focus (intro w hSw; (try dsimp only at hSw); go_simp; (try (with_reducible rfl)); done)); try simp only [Act.put, List.setIfInBounds_toArray, List.set_cons_zero, List.set_cons_succ]
  refine wpL_calm (o := { dst := some 21, op := Go.Op.nilCheck (Go.Operand.tmp 20), type := 0, pos := "dev.go:83", after := #[{ on := 5, ground := Go.Ground.data }], guard := none }) (v := ?_) rfl (Or.inl ⟨by rfl, ?_⟩) ?_; rotate_left; (focus (intro w hSw; (try dsimp only at hSw); go_simp; (try (with_reducible rfl)); done)); try simp only [Act.put, List.setIfInBounds_toArray, List.set_cons_zero, List.set_cons_succ]
  refine wpL_calm (o := { dst := some 22, op := Go.Op.fieldAddr 94 (Go.Operand.tmp 21) 0, type := 0, pos := "dev.go:83", after := #[{ on := 6, ground := Go.Ground.data }], guard := none }) (v := ?_) rfl (Or.inl ⟨by rfl, ?_⟩) ?_; rotate_left; (focus (intro w hSw; (try dsimp only at hSw); go_simp; (try (with_reducible rfl)); done)); try simp only [Act.put, List.setIfInBounds_toArray, List.set_cons_zero, List.set_cons_succ]
  refine wpL_calm (o := { dst := some 23, op := Go.Op.load 92 (Go.Operand.tmp 22), type := 92, pos := "dev.go:83", after := #[{ on := 7, ground := Go.Ground.data }], guard := none }) (v := ?_) rfl (Or.inl ⟨by rfl, ?_⟩) ?_; rotate_left; (focus (intro w hSw; (try dsimp only at hSw); go_simp; (try (with_reducible rfl)); done)); try simp only [Act.put, List.setIfInBounds_toArray, List.set_cons_zero, List.set_cons_succ]
  refine wpL_calm (o := { dst := some 24, op := Go.Op.move (Go.Operand.tmp 1), type := 3, pos := "dev.go:83", after := #[{ on := 13, ground := Go.Ground.gcOnly Go.Departure.lateStores }], guard := none }) (v := ?_) rfl (Or.inl ⟨by rfl, ?_⟩) ?_; rotate_left; (focus (intro w hSw; (try dsimp only at hSw); go_simp; (try (with_reducible rfl)); done)); try simp only [Act.put, List.setIfInBounds_toArray, List.set_cons_zero, List.set_cons_succ]
  refine wpL_calm (o := { dst := some 25, op := Go.Op.move (Go.Operand.tmp 2), type := 9, pos := "dev.go:83", after := #[], guard := none }) (v := ?_) rfl (Or.inl ⟨by rfl, ?_⟩) ?_; rotate_left; (focus (intro w hSw; (try dsimp only at hSw); go_simp; (try (with_reducible rfl)); done)); try simp only [Act.put, List.setIfInBounds_toArray, List.set_cons_zero, List.set_cons_succ]
  refine wpL_calm (o := { dst := some 26, op := Go.Op.indexAddr 92 (Go.Operand.tmp 18) (Go.Operand.tmp 19), type := 0, pos := "dev.go:83", after := #[{ on := 3, ground := Go.Ground.data }, { on := 4, ground := Go.Ground.data }, { on := 0, ground := Go.Ground.phase }, { on := 1, ground := Go.Ground.phase }, { on := 2, ground := Go.Ground.phase }, { on := 3, ground := Go.Ground.phase }, { on := 4, ground := Go.Ground.phase }, { on := 5, ground := Go.Ground.textOnly Go.Departure.lateStores }, { on := 6, ground := Go.Ground.textOnly Go.Departure.lateStoresUnsure }, { on := 7, ground := Go.Ground.textOnly Go.Departure.lateStoresUnsure }, { on := 8, ground := Go.Ground.phase }, { on := 9, ground := Go.Ground.textOnly Go.Departure.lateStores }, { on := 10, ground := Go.Ground.phase }], guard := none }) (v := ?_) rfl (Or.inl ⟨by rfl, ?_⟩) ?_; rotate_left; (focus (intro w hSw; (try dsimp only at hSw); go_simp; (try (with_reducible rfl)); done)); try simp only [Act.put, List.setIfInBounds_toArray, List.set_cons_zero, List.set_cons_succ]
  refine wpL_calm (o := { dst := some 27, op := Go.Op.fieldAddr 91 (Go.Operand.tmp 26) 0, type := 0, pos := "dev.go:83", after := #[{ on := 11, ground := Go.Ground.data }, { on := 0, ground := Go.Ground.phase }, { on := 1, ground := Go.Ground.phase }, { on := 2, ground := Go.Ground.phase }, { on := 3, ground := Go.Ground.phase }, { on := 4, ground := Go.Ground.phase }, { on := 5, ground := Go.Ground.textOnly Go.Departure.lateStores }, { on := 6, ground := Go.Ground.textOnly Go.Departure.lateStoresUnsure }, { on := 7, ground := Go.Ground.textOnly Go.Departure.lateStoresUnsure }, { on := 8, ground := Go.Ground.phase }, { on := 9, ground := Go.Ground.textOnly Go.Departure.lateStores }, { on := 10, ground := Go.Ground.phase }], guard := none }) (v := ?_) rfl (Or.inl ⟨by rfl, ?_⟩) ?_; rotate_left; (focus (intro w hSw; (try dsimp only at hSw); go_simp; (try (with_reducible rfl)); done)); try simp only [Act.put, List.setIfInBounds_toArray, List.set_cons_zero, List.set_cons_succ]
  refine wpL_loud1 (o := { dst := none, op := Go.Op.store 9 (Go.Operand.tmp 27) (Go.Operand.tmp 25), type := 0, pos := "dev.go:83", after := #[{ on := 12, ground := Go.Ground.data }, { on := 10, ground := Go.Ground.data }, { on := 0, ground := Go.Ground.phase }, { on := 1, ground := Go.Ground.phase }, { on := 2, ground := Go.Ground.phase }, { on := 3, ground := Go.Ground.phase }, { on := 4, ground := Go.Ground.phase }, { on := 5, ground := Go.Ground.textOnly Go.Departure.lateStores }, { on := 6, ground := Go.Ground.textOnly Go.Departure.lateStoresUnsure }, { on := 7, ground := Go.Ground.textOnly Go.Departure.lateStoresUnsure }, { on := 8, ground := Go.Ground.phase }, { on := 9, ground := Go.Ground.textOnly Go.Departure.lateStores }, { on := 10, ground := Go.Ground.phase }], guard := none }) rfl (fun K hK => ?_)
  go_simp
  refine hK.out _ _ ?_ (fun hHeld => ?_)
  · (try dsimp only); exact (World.cell?_setCell_other _ _ _ _ (by intro e; simp only [Addr.mk.injEq] at e; exact HD.out.ne e.1.symm)).trans HD.out.hd
  clear hK K
  try simp only [Act.put, List.setIfInBounds_toArray, List.set_cons_zero, List.set_cons_succ]
  refine wpL_calm (o := { dst := some 28, op := Go.Op.indexAddr 92 (Go.Operand.tmp 23) (Go.Operand.tmp 24), type := 0, pos := "dev.go:83", after := #[{ on := 8, ground := Go.Ground.data }, { on := 9, ground := Go.Ground.data }, { on := 0, ground := Go.Ground.phase }, { on := 1, ground := Go.Ground.phase }, { on := 2, ground := Go.Ground.phase }, { on := 3, ground := Go.Ground.phase }, { on := 4, ground := Go.Ground.phase }, { on := 5, ground := Go.Ground.phase }, { on := 6, ground := Go.Ground.phase }, { on := 7, ground := Go.Ground.phase }, { on := 8, ground := Go.Ground.phase }, { on := 9, ground := Go.Ground.phase }, { on := 10, ground := Go.Ground.phase }, { on := 11, ground := Go.Ground.phase }, { on := 12, ground := Go.Ground.phase }, { on := 13, ground := Go.Ground.phase }], guard := none }) (v := ?_) rfl (Or.inl ⟨by rfl, ?_⟩) ?_; rotate_left; (focus (intro w hSw; (try dsimp only at hSw); go_simp; (try (with_reducible rfl)); done)); try simp only [Act.put, List.setIfInBounds_toArray, List.set_cons_zero, List.set_cons_succ]
  refine wpL_calm (o := { dst := some 29, op := Go.Op.fieldAddr 91 (Go.Operand.tmp 28) 2, type := 0, pos := "dev.go:83", after := #[{ on := 14, ground := Go.Ground.data }, { on := 0, ground := Go.Ground.phase }, { on := 1, ground := Go.Ground.phase }, { on := 2, ground := Go.Ground.phase }, { on := 3, ground := Go.Ground.phase }, { on := 4, ground := Go.Ground.phase }, { on := 5, ground := Go.Ground.phase }, { on := 6, ground := Go.Ground.phase }, { on := 7, ground := Go.Ground.phase }, { on := 8, ground := Go.Ground.phase }, { on := 9, ground := Go.Ground.phase }, { on := 10, ground := Go.Ground.phase }, { on := 11, ground := Go.Ground.phase }, { on := 12, ground := Go.Ground.phase }, { on := 13, ground := Go.Ground.phase }], guard := none }) (v := ?_) rfl (Or.inl ⟨by rfl, ?_⟩) ?_; rotate_left; (focus (intro w hSw; (try dsimp only at hSw); go_simp; (try (with_reducible rfl)); done)); try simp only [Act.put, List.setIfInBounds_toArray, List.set_cons_zero, List.set_cons_succ]
  refine wpL_loud0 (o := { dst := none, op := Go.Op.store 4 (Go.Operand.tmp 29) (Go.Operand.const (Go.Value.bool true)), type := 0, pos := "dev.go:83", after := #[{ on := 15, ground := Go.Ground.data }, { on := 13, ground := Go.Ground.chain }, { on := 0, ground := Go.Ground.phase }, { on := 1, ground := Go.Ground.phase }, { on := 2, ground := Go.Ground.phase }, { on := 3, ground := Go.Ground.phase }, { on := 4, ground := Go.Ground.phase }, { on := 5, ground := Go.Ground.phase }, { on := 6, ground := Go.Ground.phase }, { on := 7, ground := Go.Ground.phase }, { on := 8, ground := Go.Ground.phase }, { on := 9, ground := Go.Ground.phase }, { on := 10, ground := Go.Ground.phase }, { on := 11, ground := Go.Ground.phase }, { on := 12, ground := Go.Ground.phase }, { on := 13, ground := Go.Ground.phase }], guard := none }) rfl (by kernel_rfl) (fun K hK => ?_)
  go_simp
  refine hK.out _ _ ?_
  clear hK K
  try simp only [Act.put, List.setIfInBounds_toArray, List.set_cons_zero, List.set_cons_succ]
  refine wpL_nil ?_
  refine NoPanic.normal ?_
  go_wp2_with fail
  go_ret
  refine ⟨rfl, ?_, ?_⟩
  · first | exact HD.out.write i hi s | exact (HD.out.write i hi s).drew | exact (HD.out.write i hi s).drew.drew
  · first | exact (((Kp.refl rb w).setCell (i * 3) _).setCell (i * 3 + 2) _) | exact (((Kp.refl rb w).setCell (i * 3) _).setCell (i * 3 + 2) _).drew | exact (((Kp.refl rb w).setCell (i * 3) _).setCell (i * 3 + 2) _).drew.drew
end Go.Proofs.Ytjmginkkjkbpoaa
