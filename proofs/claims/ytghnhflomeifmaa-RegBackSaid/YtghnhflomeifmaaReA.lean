/- Contracts (cellaret): registers as values; whether a register may be. -/
import Derived.Test.YtghnhflomeifmaaBeF
import Derived.Test.YtghnhflomeifmaaRefB
import Derived.Test.YtghnhflomeifmaaLin
import Derived.Deep.MidRow
import Derived.Stop.BytesEq
import Derived.Laws.Rows
import Derived.Deep.CutRange
import Derived.Outline
namespace Go.Proofs.Ytghnhflomeifmaa
open Go.RowKit Go.Deep
set_option linter.unusedVariables false
set_option linter.unusedSimpArgs false
/-- A register. -/
structure Rg where
  d0 : Nat → UInt8
  d1 : Nat → UInt8
  ep : Int
  iv : Int
  a0 : Int
  a1 : Int
  u0 : Int
  u1 : Int
  di : Int
  mo : Int
  at_ : Bool
def rcell (R : Rg) (i : Nat) : Value := if i < 32 then .int .u8 ((R.d0 i).toNat : Int) else if i < 64 then .int .u8 ((R.d1 (i - 32)).toNat : Int) else
  if i = 64 then .int .i64 R.ep else if i = 65 then .int .i64 R.iv else if i = 66 then .int .i64 R.a0 else if i = 67 then .int .i64 R.a1 else if i = 68 then .int .i64 R.u0 else if i = 69 then .int .i64 R.u1 else
  if i = 70 then .int .i64 R.di else if i = 71 then .int .i64 R.mo else .bool R.at_
def rcells (R : Rg) : Array Value := ((List.range 73).map (rcell R)).toArray
theorem rcells_size (R : Rg) : (rcells R).size = 73 := by simp [rcells]
def RegAt (w : World) (g : Nat) (R : Rg) : Prop := w.heap[g]? = some (.cells (rcells R) 27 (0, 0))
theorem RegAt.lt {w : World} {g : Nat} {R : Rg} (h : RegAt w g R) : g < w.heap.size := (Array.getElem?_eq_some_iff.1 h).1
theorem RegAt.cell {w : World} {g : Nat} {R : Rg} (h : RegAt w g R) (i : Nat) (hi : i < 73) : w.cell? ⟨g, i, none⟩ = some (rcell R i) := (cell_of_row w g i _ _ _ h).trans (by simp [rcells, hi])
theorem RegAt.below {w w' : World} {g B : Nat} {R : Rg} (h : RegAt w g R) (hb : Below B w w') (hg : g < B) : RegAt w' g R := (hb.block g hg).trans h
theorem RegAt.drewN {w : World} {g : Nat} {R : Rg} (h : RegAt w g R) (n : Nat) : RegAt (w.drewN n) g R := h
theorem RegAt.drew {w : World} {g : Nat} {R : Rg} (h : RegAt w g R) : RegAt w.drew g R := h
def digL (f : Nat → UInt8) : List UInt8 := (List.range 32).map f
theorem RegAt.r0 {w : World} {g : Nat} {R : Rg} (h : RegAt w g R) : w.rangeAt g 0 ((digL R.d0).map fun b => .int .u8 (b.toNat : Int)) := fun j v hv => by
  have hj : j < 32 := by have := (List.getElem?_eq_some_iff.1 hv).1; simpa [digL] using this
  rw [Nat.zero_add, h.cell j (by omega)]
  rw [← hv]
  simp [digL, hj, rcell]
theorem RegAt.r1 {w : World} {g : Nat} {R : Rg} (h : RegAt w g R) : w.rangeAt g 32 ((digL R.d1).map fun b => .int .u8 (b.toNat : Int)) := fun j v hv => by
  have hj : j < 32 := by have := (List.getElem?_eq_some_iff.1 hv).1; simpa [digL] using this
  rw [h.cell (32 + j) (by omega)]
  rw [← hv]
  have h1 : ¬ 32 + j < 32 := by omega
  have h2 : 32 + j < 64 := by omega
  simp [digL, hj, rcell, h1, h2]
theorem box_reg (w : World) (R : Rg) : ∃ w0, Hid (w.alloc (.cells (rcells R) 27) = w0) ∧ RegAt w0 w.heap.size R ∧ Below w.heap.size w w0 :=
  ⟨_, Lib.hid rfl, heap_alloc_new _ _, (Below.refl _ _).alloc (Nat.le_refl _) _⟩
/-- What is read of a register's numbers. -/
structure RegCells (w : World) (g : Nat) (R : Rg) : Prop where
  c64 : w.cell? ⟨g, 64, none⟩ = some (.int .i64 R.ep)
  c65 : w.cell? ⟨g, 65, none⟩ = some (.int .i64 R.iv)
  c66 : w.cell? ⟨g, 66, none⟩ = some (.int .i64 R.a0)
  c67 : w.cell? ⟨g, 67, none⟩ = some (.int .i64 R.a1)
  c68 : w.cell? ⟨g, 68, none⟩ = some (.int .i64 R.u0)
  c69 : w.cell? ⟨g, 69, none⟩ = some (.int .i64 R.u1)
  c70 : w.cell? ⟨g, 70, none⟩ = some (.int .i64 R.di)
  c71 : w.cell? ⟨g, 71, none⟩ = some (.int .i64 R.mo)
  c72 : w.cell? ⟨g, 72, none⟩ = some (.bool R.at_)
theorem RegAt.cells {w : World} {g : Nat} {R : Rg} (h : RegAt w g R) : RegCells w g R :=
  ⟨h.cell 64 (by omega), h.cell 65 (by omega), h.cell 66 (by omega), h.cell 67 (by omega), h.cell 68 (by omega), h.cell 69 (by omega), h.cell 70 (by omega), h.cell 71 (by omega), h.cell 72 (by omega)⟩
/-- The eight fields that have a most, and it. -/
def fld (R : Rg) (i : Nat) : Int := if i = 0 then R.ep else if i = 1 then R.iv else if i = 2 then R.a0 else if i = 3 then R.a1 else if i = 4 then R.u0 else if i = 5 then R.u1 else if i = 6 then R.di else R.mo
def mst (i : Nat) : Int := if i = 0 then 4294967295 else if i = 1 then 1099511627776 else if i = 2 then 1 else if i = 3 then 1 else if i = 4 then 80 else if i = 5 then 80 else if i = 6 then 8 else 2
def okF (R : Rg) (i : Nat) : Prop := 0 ≤ fld R i ∧ fld R i ≤ mst i
theorem i8 {i : Nat} (h : i < 8) : i = 0 ∨ i = 1 ∨ i = 2 ∨ i = 3 ∨ i = 4 ∨ i = 5 ∨ i = 6 ∨ i = 7 := by omega
theorem index8 (R : Rg) (i : Nat) (hi : i < 8) (w : World) : (Instr.index 49 (.agg #[.int .i64 R.ep, .int .i64 4294967295, .int .i64 R.iv, .int .i64 1099511627776, .int .i64 R.a0, .int .i64 1, .int .i64 R.a1, .int .i64 1, .int .i64 R.u0, .int .i64 80, .int .i64 R.u1, .int .i64 80, .int .i64 R.di, .int .i64 8, .int .i64 R.mo, .int .i64 2]) (.int .i64 (i : Int))).run Try.prog w = .ok (.agg #[.int .i64 (fld R i), .int .i64 (mst i)]) w := by
  rcases i8 hi with rfl | rfl | rfl | rfl | rfl | rfl | rfl | rfl <;> kernel_rfl
set_option maxRecDepth 100000 in
set_option maxHeartbeats 2000000 in
theorem within1_yes (R : Rg) (g : Nat) (w : World) (h : RegAt w g R) (hok : ∀ i, i < 8 → okF R i) :
    Calls Try.prog 21 #[.pointer (some ⟨g, 0, none⟩)] w fun e w' => e = .returned (.bool true) ∧ Below w.heap.size w w' := by
  obtain ⟨c64, c65, c66, c67, c68, c69, c70, c71, c72⟩ := h.cells
  have HI := Lib.hid (index8 R)
  have HK := Lib.hid hok
  clear h hok
  go_enter Try.func21, Try.ntmps21
  go_wp2
  go_loopw [33] (fun x wi => ∃ i : Nat, x = .int .i64 i ∧ i ≤ 8 ∧ Below w.heap.size w wi) (fun x _ => 8 - (intOf x).toNat)
  case atStart => exact ⟨0, rfl, by omega, Below.refl _ _⟩
  case round =>
    obtain ⟨i, rfl, hi, hb⟩ := hrel
    by_cases hlt : i < 8
    · have hli : (i : Int) < 8 := by omega
      have ix := HI.out i hlt
      obtain ⟨k1, k2⟩ := HK.out i hlt
      generalize fld R i = a at *
      generalize mst i = b at *
      go_wp2
      go_roundw
      case rel => exact ⟨i + 1, by go_num, by omega, hb.alloc hb.size _⟩
      case measure => simp [intOf]; omega
    · obtain rfl : i = 8 := by omega
      go_wp2
      go_ret
      exact ⟨rfl, hb⟩
set_option maxRecDepth 100000 in
set_option maxHeartbeats 2000000 in
theorem within1_no (R : Rg) (g : Nat) (w : World) (h : RegAt w g R) (k : Nat) (hk : k < 8) (hok : ∀ i, i < k → okF R i) (hno : ¬ okF R k) :
    Calls Try.prog 21 #[.pointer (some ⟨g, 0, none⟩)] w fun e w' => e = .returned (.bool false) ∧ Below w.heap.size w w' := by
  obtain ⟨c64, c65, c66, c67, c68, c69, c70, c71, c72⟩ := h.cells
  have HI := Lib.hid (index8 R)
  have HK := Lib.hid hok
  have HN : Hid (fld R k < 0 ∨ (0 ≤ fld R k ∧ mst k < fld R k)) := Lib.hid (by unfold okF at hno; omega)
  clear h hok hno
  go_enter Try.func21, Try.ntmps21
  go_wp2
  go_loopw [33] (fun x wi => ∃ i : Nat, x = .int .i64 i ∧ i ≤ k ∧ Below w.heap.size w wi) (fun x _ => 8 - (intOf x).toNat)
  case atStart => exact ⟨0, rfl, by omega, Below.refl _ _⟩
  case round =>
    obtain ⟨i, rfl, hi, hb⟩ := hrel
    have hli : (i : Int) < 8 := by omega
    have ix := HI.out i (by omega)
    by_cases hlt : i < k
    · obtain ⟨k1, k2⟩ := HK.out i hlt
      generalize fld R i = a at *
      generalize mst i = b at *
      go_wp2
      go_roundw
      case rel => exact ⟨i + 1, by go_num, by omega, hb.alloc hb.size _⟩
      case measure => simp [intOf]; omega
    · obtain rfl : i = k := by omega
      have hn := HN.out
      clear HN
      generalize fld R i = a at *
      generalize mst i = b at *
      rcases hn with h1 | ⟨h1, h2⟩
      all_goals
        go_wp2
        go_ret
        exact ⟨rfl, hb.alloc hb.size _⟩
theorem within_any (R : Rg) (w : World) : Calls Try.prog 14 #[.agg (rcells R)] w fun e w' => e = .returned (.func (.func 21) #[] #[.pointer (some ⟨w.heap.size, 0, none⟩)]) ∧ w.alloc (.cells (rcells R) 27) = w' := by
  go_enter Try.func14, Try.ntmps14
  go_wp2
  go_ret
  exact ⟨rfl, rfl⟩
end Go.Proofs.Ytghnhflomeifmaa
