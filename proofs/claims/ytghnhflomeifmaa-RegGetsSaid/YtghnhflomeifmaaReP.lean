/- Contracts (cellaret): the reference's Get of a register of 96 bytes. -/
import Derived.Test.YtghnhflomeifmaaReN
namespace Go.Proofs.Ytghnhflomeifmaa
open Go.RowKit Go.Deep
set_option linter.unusedVariables false
set_option linter.unusedSimpArgs false
theorem ix_str (s : ByteArray) (k : Nat) (h : k < s.size) (w : World) : (Instr.index 9 (.string s) (.int .i64 (k : Int))).run Try.prog w = .ok (.int .u8 ((by_ s k).toNat : Int)) w := by
  rw [run_index_string w 9 s .i64 (k : Int) Try.underlying9, dif_pos ⟨by omega, by omega⟩]
  have : by_ s k = s[k] := byte_getD s k h
  rw [this]
  rfl
theorem upd_ext (R R' : Rg) (k : Nat) (v : Value) (h : ∀ j, j < 73 → rcell R' j = if j = k then v else rcell R j) : ∀ j, j < 73 → rcell R' j = if j = k then v else rcell R j := h
theorem RegAt.alk {w : World} {g : Nat} {A B : Rg} (h : RegAt w g A) (ha : Alk A B) : RegAt w g B := by unfold RegAt at h ⊢; rw [← ha.cells]; exact h
theorem RegAt.other {w : World} {g b k : Nat} {v : Value} {R : Rg} (h : RegAt w g R) (hne : g ≠ b) : RegAt (w.setCell ⟨b, k, none⟩ v) g R := (Below.heap_setCell w _ v g hne).trans h
theorem getE_four (s : ByteArray) (h : s.size = 96) : getE (s.extract 64 68).data.toList = 0 := getE_few s 64 4 (by omega) (by omega) (by omega)
theorem r11n1 (s : ByteArray) (h : s.size = 96) (w : World) : Calls Try.prog 18 #[.string (s.extract 64 68)] w fun e w' => e = .returned (.tuple #[.int .i64 (num s 64 4), .int .i64 0]) ∧ w = w' := by
  have := r01get_any (s.extract 64 68) w
  rw [getE_four s h] at this
  exact this
theorem r11n2 (s : ByteArray) (w : World) : Calls Try.prog 18 #[.string (s.extract 68 76)] w fun e w' => e = .returned (.tuple #[.int .i64 (num s 68 8), .int .i64 (getE (s.extract 68 76).data.toList)]) ∧ w = w' := r01get_any (s.extract 68 76) w
theorem RegAt.there {w : World} {g : Nat} {R : Rg} (h : RegAt w g R) (o n : Nat) (hn : o + n ≤ 73) : w.there g o n := fun j hj => ⟨by rw [h.cell (o + j) (by omega)]; rfl, h.row.frozen (o + j)⟩
theorem RegAt.range {w : World} {g : Nat} {R : Rg} (h : RegAt w g R) : w.rangeAt g 0 (rcells R).toList := fun j v hv => by
  rw [Nat.zero_add, cell_of_row w g j _ _ _ h, ← Array.getElem?_toList]
  exact hv
/-- The numbers of a register set one by one: what stands behind them. -/
def RXa (s : ByteArray) : Rg := { RX0 s 32 with ep := num s 64 4, iv := num s 68 8 }
def RXb (s : ByteArray) (x y : Int) : Rg := { RXa s with a0 := x, a1 := y }
def RXc (s : ByteArray) (x y a b : Int) : Rg := { RXb s x y with u0 := a, u1 := b }
def RXd (s : ByteArray) (x y a b c d : Int) (e : Bool) : Rg := { RXc s x y a b with di := c, mo := d, at_ := e }
attribute [local irreducible] num by_ RX0
theorem RXd_alk (s : ByteArray) : Alk (RXd s ((by_ s 76).toNat : Int) ((by_ s 78).toNat : Int) ((by_ s 77).toNat : Int) ((by_ s 79).toNat : Int) ((by_ s 80).toNat : Int) ((by_ s 81).toNat : Int) (((by_ s 82).toNat : Int) == 1)) (RX s) := by
  unfold RXd RXc RXb RXa
  exact RX_alk s
section
theorem at_two {w : World} {g k l : Nat} {u v : Value} (R R1 R2 : Rg) (h : RegAt w g R) (h1 : ∀ j, j < 73 → rcell R1 j = if j = k then u else rcell R j) (h2 : ∀ j, j < 73 → rcell R2 j = if j = l then v else rcell R1 j) : RegAt ((w.setCell ⟨g, k, none⟩ u).setCell ⟨g, l, none⟩ v) g R2 := (h.upd k R1 u h1).upd l R2 v h2
theorem at_a {w : World} {g : Nat} (s : ByteArray) (h : RegAt w g (RX0 s 32)) : RegAt ((w.setCell ⟨g, 64, none⟩ (.int .i64 (num s 64 4))).setCell ⟨g, 65, none⟩ (.int .i64 (num s 68 8))) g (RXa s) := by
  unfold RXa
  exact at_two (RX0 s 32) { RX0 s 32 with ep := num s 64 4 } { RX0 s 32 with ep := num s 64 4, iv := num s 68 8 } h (upd_ep (RX0 s 32) (num s 64 4)) (upd_iv { RX0 s 32 with ep := num s 64 4 } (num s 68 8))
theorem sets_two (w : World) (g k : Nat) (u v : Value) : w.setCells g k [u, v] = (w.setCell ⟨g, k, none⟩ u).setCell ⟨g, k + 1, none⟩ v := rfl
theorem at_b {w : World} {g : Nat} (s : ByteArray) (x y : Int) (h : RegAt w g (RXa s)) : RegAt (w.setCells g 66 [.int .i64 x, .int .i64 y]) g (RXb s x y) := by
  unfold RXb
  generalize RXa s = R at *
  rw [sets_two]
  exact at_two R { R with a0 := x } { R with a0 := x, a1 := y } h (upd_a0 R x) (upd_a1 { R with a0 := x } y)
theorem at_c {w : World} {g : Nat} (s : ByteArray) (x y a b : Int) (h : RegAt w g (RXb s x y)) : RegAt (w.setCells g 68 [.int .i64 a, .int .i64 b]) g (RXc s x y a b) := by
  unfold RXc
  generalize RXb s x y = R at *
  rw [sets_two]
  exact at_two R { R with u0 := a } { R with u0 := a, u1 := b } h (upd_u0 R a) (upd_u1 { R with u0 := a } b)
theorem at_d {w : World} {g : Nat} (s : ByteArray) (x y a b c d : Int) (e : Bool) (h : RegAt w g (RXc s x y a b)) : RegAt (((w.setCell ⟨g, 70, none⟩ (.int .i64 c)).setCell ⟨g, 71, none⟩ (.int .i64 d)).setCell ⟨g, 72, none⟩ (.bool e)) g (RXd s x y a b c d e) := by
  unfold RXd
  generalize RXc s x y a b = R at *
  exact (at_two R { R with di := c } { R with di := c, mo := d } h (upd_di R c) (upd_mo { R with di := c } d)).upd 72 { R with di := c, mo := d, at_ := e } (.bool e) (upd_at_ { R with di := c, mo := d } e)
end
theorem tail_eq (s : ByteArray) (h : s.size = 96) : ((s.extract 84 96).toList == zz12.toList) = decide (s.data.toList.drop 84 = List.replicate 12 0) := by
  have hl : s.data.toList.length = s.size := by rw [← Lib.size_eq]
  rw [Lib.toList_data, Lib.toList_data, show s.extract 84 96 = s.extract 84 (84 + 12) from rfl, ext_list, List.take_of_length_le (by rw [List.length_drop]; omega)]
  rw [Bool.eq_iff_iff, beq_iff_eq, decide_eq_true_iff]
  exact Iff.rfl
/-- What stays of the two registers. -/
structure Two (w w' : World) (g : Nat) (R : Rg) : Prop where
  x : RegAt w' g R
  r : RegAt w' w.heap.size R0
  b : Below w.heap.size w w'
theorem Two.set {w w' : World} {g k : Nat} {R R' : Rg} {v : Value} (h : Two w w' g R) (hl : w.heap.size < g) (hx : RegAt (w'.setCell ⟨g, k, none⟩ v) g R') : Two w (w'.setCell ⟨g, k, none⟩ v) g R' := ⟨hx, h.r.other (by omega), h.b.setCell (p := ⟨g, k, none⟩) (Nat.le_of_lt hl) _⟩
theorem Two.sets {w w' : World} {g k : Nat} {R R' : Rg} {u v : Value} (h : Two w w' g R) (hl : w.heap.size < g) (hx : RegAt ((w'.setCell ⟨g, k, none⟩ u).setCell ⟨g, k + 1, none⟩ v) g R') : Two w ((w'.setCell ⟨g, k, none⟩ u).setCell ⟨g, k + 1, none⟩ v) g R' :=
  ⟨hx, (h.r.other (by omega)).other (by omega), (h.b.setCell (p := ⟨g, k, none⟩) (Nat.le_of_lt hl) _).setCell (p := ⟨g, k + 1, none⟩) (Nat.le_of_lt hl) _⟩
theorem Two.below {w w' w'' : World} {g : Nat} {R : Rg} (h : Two w w' g R) (hb : Below w'.heap.size w' w'') : Two w w'' g R := ⟨h.x.below hb h.x.lt, h.r.below hb h.r.lt, h.b.trans (hb.mono h.b.size)⟩
theorem Two.drew {w w' : World} {g : Nat} {R : Rg} (h : Two w w' g R) : Two w w'.drew g R := ⟨h.x, h.r, h.b.drew⟩
theorem Two.alk {w w' : World} {g : Nat} {A B : Rg} (h : Two w w' g A) (ha : Alk A B) : Two w w' g B := ⟨h.x.alk ha, h.r, h.b⟩
attribute [local irreducible] RX RX1 rcells zz96 RXa RXb RXc RXd
set_option maxRecDepth 100000 in
set_option maxHeartbeats 5000000 in
theorem r11get_walk (s : ByteArray) (w : World) (h96 : s.size = 96) (hnz : Hid ((s.toList == zz96.toList) = false)) (g : Bool) (hg : Hid (g = true ↔ Good s)) :
    Calls Try.prog 12 #[.string s] w fun e w' => e = .returned (.tuple #[.agg (rcells (if g = true then RX s else R0)), .int .i64 (if g = true then 0 else 6)]) ∧ Below w.heap.size w w' := by
  obtain ⟨w0, HE, HR0, B0⟩ := box_reg w R0
  have hzv := zero_reg
  have HZ := zeros96
  have HIX := Lib.hid (fun k (h : k < 96) (w : World) => ix_str s k (by omega) w)
  have HIY : Hid (∀ k : Nat, k < 32 → ∀ w, (Instr.index 9 (.string s) (.int .i64 (32 + (k : Int)))).run Try.prog w = .ok (.int .u8 ((by_ s (32 + k)).toNat : Int)) w) := Lib.hid (fun k hk w => by
    have := ix_str s (32 + k) (by omega) w
    rw [show ((32 + k : Nat) : Int) = 32 + (k : Int) from by omega] at this
    exact this)
  have HN1 := Lib.hid (r11n1 s h96)
  have HN2 := Lib.hid (r11n2 s)
  have hk : (96 : Int) ≤ s.size := by omega
  have ht : ((s.size : Int) != 96) = false := by rw [h96]; rfl
  have hz := hnz.out
  have l0 := HR0.lt
  clear hnz
  go_enter Try.func12, Try.ntmps12
  go_upto_region 1 with fail
  rw [HE.out]
  clear HE
  go_wp2_with fail
  refine (HZ.out _).mono ?_
  rintro e w1 ⟨rfl, b1⟩
  have HR1 := HR0.below b1 HR0.lt
  have B1 := B0.trans (b1.mono B0.size)
  obtain ⟨w3, HW3, HX3, b3⟩ := stored_reg w1 R0
  have HR3 := HR1.below b3 HR1.lt
  have B3 := B1.trans (b3.mono B1.size)
  have hlt : w.heap.size < w1.heap.size := HR1.lt
  clear HR0 HR1 b1 b3 B0 B1 l0
  go_upto_region 6 with (refine wpList_store_row rfl _ _ _ rfl w1.heap.size (rcells R0) rfl rfl 27 _ (heap_alloc_new _ _) (by rw [rcells_size]; kernel_rfl) rfl (rcells_one _) ?_)
  rw [HW3.out]
  clear HW3
  generalize w1.heap.size = gx at *
  rw [← RX0_zero s] at HX3
  have hne : w.heap.size ≠ gx := by omega
  have hlx : w.heap.size < gx := hlt
  go_wp2_with fail
  go_loopw [5] (fun x wi => ∃ i : Nat, x = .int .i64 i ∧ i ≤ 32 ∧ RegAt wi gx (RX0 s i) ∧ RegAt wi w.heap.size R0 ∧ Below w.heap.size w wi) (fun x _ => 32 - (intOf x).toNat)
  case atStart => exact ⟨0, rfl, by omega, HX3, HR3, B3⟩
  clear HX3 HR3 B3
  case round =>
    obtain ⟨i, rfl, hi, hx, hr, hb⟩ := hrel
    by_cases hlt : i < 32
    · have hli : (i : Int) < 32 := by omega
      have ix := HIX.out i (by omega)
      have iy := HIY.out i hlt
      have c1 := hx.cell i (by omega)
      have f1 := hx.row.frozen i
      have c2 := hx.cell (32 + i) (by omega)
      have f2 := hx.row.frozen (32 + i)
      go_wp2_with fail
      go_roundw
      case rel => exact ⟨i + 1, by go_num, by omega, (hx.upd i _ _ (RX1_upd s i hlt)).upd (32 + i) _ _ (RX0_upd s i hlt), (hr.other hne).other hne, (hb.setCell (p := ⟨gx, i, none⟩) (Nat.le_of_lt hlx) _).setCell (p := ⟨gx, 32 + i, none⟩) (Nat.le_of_lt hlx) _⟩
      case measure => simp [intOf]; omega
    · obtain rfl : i = 32 := by omega
      clear HIY
      have i76 := HIX.out 76 (by omega)
      have i77 := HIX.out 77 (by omega)
      have i78 := HIX.out 78 (by omega)
      have i79 := HIX.out 79 (by omega)
      have i80 := HIX.out 80 (by omega)
      have i81 := HIX.out 81 (by omega)
      have i82 := HIX.out 82 (by omega)
      have i83 := HIX.out 83 (by omega)
      rw [show ((76 : Nat) : Int) = 76 from rfl] at i76
      rw [show ((77 : Nat) : Int) = 77 from rfl] at i77
      rw [show ((78 : Nat) : Int) = 78 from rfl] at i78
      rw [show ((79 : Nat) : Int) = 79 from rfl] at i79
      rw [show ((80 : Nat) : Int) = 80 from rfl] at i80
      rw [show ((81 : Nat) : Int) = 81 from rfl] at i81
      rw [show ((82 : Nat) : Int) = 82 from rfl] at i82
      rw [show ((83 : Nat) : Int) = 83 from rfl] at i83
      clear HIX
      go_wp2_with fail
      refine (HN1.out _).mono ?_
      rintro e w' ⟨rfl, rfl⟩
      go_wp2_with fail
      refine (HN2.out _).mono ?_
      rintro e w' ⟨rfl, rfl⟩
      clear HN1 HN2
      generalize hge : getE (s.extract 68 76).data.toList = ge
      have c64 := hx.cell 64 (by omega)
      have f64 := hx.row.frozen 64
      have c65 := hx.cell 65 (by omega)
      have f65 := hx.row.frozen 65
      go_upto_region 15 with fail
      have T1 : Two w _ gx (RXa s) := ⟨at_a s hx, (hr.other hne).other hne, (hb.setCell (p := ⟨gx, 64, none⟩) (Nat.le_of_lt hlx) _).setCell (p := ⟨gx, 65, none⟩) (Nat.le_of_lt hlx) _⟩
      have HGE := Lib.hid hge
      clear c64 f64 c65 f65 hx hr hb hge
      generalize World.setCell _ _ _ = x1 at T1 ⊢
      generalize hq76 : ((by_ s 76).toNat : Int) = q76 at i76
      generalize hq77 : ((by_ s 77).toNat : Int) = q77 at i77
      generalize hq78 : ((by_ s 78).toNat : Int) = q78 at i78
      generalize hq79 : ((by_ s 79).toNat : Int) = q79 at i79
      generalize hq80 : ((by_ s 80).toNat : Int) = q80 at i80
      generalize hq81 : ((by_ s 81).toNat : Int) = q81 at i81
      generalize hq82 : ((by_ s 82).toNat : Int) = q82 at i82
      generalize hq83 : ((by_ s 83).toNat : Int) = q83 at i83
      have k76 : 0 ≤ q76 ∧ q76 ≤ 255 := by have := (by_ s 76).toNat_lt; omega
      have k77 : 0 ≤ q77 ∧ q77 ≤ 255 := by have := (by_ s 77).toNat_lt; omega
      have k78 : 0 ≤ q78 ∧ q78 ≤ 255 := by have := (by_ s 78).toNat_lt; omega
      have k79 : 0 ≤ q79 ∧ q79 ≤ 255 := by have := (by_ s 79).toNat_lt; omega
      have k80 : 0 ≤ q80 ∧ q80 ≤ 255 := by have := (by_ s 80).toNat_lt; omega
      have k81 : 0 ≤ q81 ∧ q81 ≤ 255 := by have := (by_ s 81).toNat_lt; omega
      obtain ⟨j76, k76⟩ := k76
      obtain ⟨j77, k77⟩ := k77
      obtain ⟨j78, k78⟩ := k78
      obtain ⟨j79, k79⟩ := k79
      obtain ⟨j80, k80⟩ := k80
      obtain ⟨j81, k81⟩ := k81
      have HQ := Lib.hid (And.intro hq76 (And.intro hq77 (And.intro hq78 (And.intro hq79 (And.intro hq80 (And.intro hq81 (And.intro hq82 hq83)))))))
      clear hq76 hq77 hq78 hq79 hq80 hq81 hq82 hq83
      have y76 : IntKind.i64.wrap q76 = q76 := IntWalk.i64_in _ (by omega)
      have y77 : IntKind.i64.wrap q77 = q77 := IntWalk.i64_in _ (by omega)
      have y78 : IntKind.i64.wrap q78 = q78 := IntWalk.i64_in _ (by omega)
      have y79 : IntKind.i64.wrap q79 = q79 := IntWalk.i64_in _ (by omega)
      have t66 := T1.x.drew.there 66 2 (by omega)
      refine wp_region_lin (S := (fun _ => True)) [(0, true), (1, true), (2, true), (3, true), (4, true), (5, true), (6, true), (7, true), (8, false)] (by kernel_rfl) (by kernel_rfl) rfl (by kernel_rfl) ?_ (fun hHeld => ?_)
      · (try dsimp only); try exact trivial
      (refine wpL_calm (o := { dst := some 54, op := Go.Op.move (Go.Operand.tmp 0), type := 9, pos := "ref.go:53", after := #[], guard := none }) (v := ?_) rfl (Or.inl ⟨by rfl, ?_⟩) ?_; rotate_left; (focus (intro w hSw; (try dsimp only at hSw); go_simp; (try (with_reducible rfl)); done)); try simp only [Act.put, List.setIfInBounds_toArray, List.set_cons_zero, List.set_cons_succ])
      (refine wpL_calm (o := { dst := some 55, op := Go.Op.index 9 (Go.Operand.tmp 54) (Go.Operand.const (Go.Value.int Go.IntKind.i64 76)), type := 5, pos := "ref.go:53", after := #[{ on := 0, ground := Go.Ground.data }], guard := none }) (v := ?_) rfl (Or.inl ⟨by rfl, ?_⟩) ?_; rotate_left; (focus (intro w hSw; (try dsimp only at hSw); go_simp; (try (with_reducible rfl)); done)); try simp only [Act.put, List.setIfInBounds_toArray, List.set_cons_zero, List.set_cons_succ])
      (refine wpL_calm (o := { dst := some 56, op := Go.Op.convert 5 3 (Go.Operand.tmp 55), type := 3, pos := "ref.go:53", after := #[{ on := 1, ground := Go.Ground.data }], guard := none }) (v := ?_) rfl (Or.inl ⟨by rfl, ?_⟩) ?_; rotate_left; (focus (intro w hSw; (try dsimp only at hSw); go_simp; (try (with_reducible rfl)); done)); try simp only [Act.put, List.setIfInBounds_toArray, List.set_cons_zero, List.set_cons_succ])
      (refine wpL_calm (o := { dst := some 57, op := Go.Op.move (Go.Operand.tmp 0), type := 9, pos := "ref.go:53", after := #[], guard := none }) (v := ?_) rfl (Or.inl ⟨by rfl, ?_⟩) ?_; rotate_left; (focus (intro w hSw; (try dsimp only at hSw); go_simp; (try (with_reducible rfl)); done)); try simp only [Act.put, List.setIfInBounds_toArray, List.set_cons_zero, List.set_cons_succ])
      (refine wpL_calm (o := { dst := some 58, op := Go.Op.index 9 (Go.Operand.tmp 57) (Go.Operand.const (Go.Value.int Go.IntKind.i64 78)), type := 5, pos := "ref.go:53", after := #[{ on := 3, ground := Go.Ground.data }], guard := none }) (v := ?_) rfl (Or.inl ⟨by rfl, ?_⟩) ?_; rotate_left; (focus (intro w hSw; (try dsimp only at hSw); go_simp; (try (with_reducible rfl)); done)); try simp only [Act.put, List.setIfInBounds_toArray, List.set_cons_zero, List.set_cons_succ])
      (refine wpL_calm (o := { dst := some 59, op := Go.Op.convert 5 3 (Go.Operand.tmp 58), type := 3, pos := "ref.go:53", after := #[{ on := 4, ground := Go.Ground.data }], guard := none }) (v := ?_) rfl (Or.inl ⟨by rfl, ?_⟩) ?_; rotate_left; (focus (intro w hSw; (try dsimp only at hSw); go_simp; (try (with_reducible rfl)); done)); try simp only [Act.put, List.setIfInBounds_toArray, List.set_cons_zero, List.set_cons_succ])
      (refine wpL_calm (o := { dst := some 60, op := Go.Op.build 25 #[(0, Go.Operand.tmp 56), (1, Go.Operand.tmp 59)], type := 25, pos := "ref.go:53", after := #[{ on := 2, ground := Go.Ground.data }, { on := 5, ground := Go.Ground.data }], guard := none }) (v := ?_) rfl (Or.inl ⟨by rfl, ?_⟩) ?_; rotate_left; (focus (intro w hSw; (try dsimp only at hSw); go_simp; (try (with_reducible rfl)); done)); try simp only [Act.put, List.setIfInBounds_toArray, List.set_cons_zero, List.set_cons_succ])
      (refine wpL_calm (o := { dst := some 61, op := Go.Op.fieldAddr 27 (Go.Operand.tmp 4) 3, type := 0, pos := "ref.go:53", after := #[{ on := 0, ground := Go.Ground.phase }, { on := 1, ground := Go.Ground.phase }, { on := 2, ground := Go.Ground.phase }, { on := 3, ground := Go.Ground.phase }, { on := 4, ground := Go.Ground.phase }, { on := 5, ground := Go.Ground.phase }, { on := 6, ground := Go.Ground.phase }], guard := none }) (v := ?_) rfl (Or.inl ⟨by rfl, ?_⟩) ?_; rotate_left; (focus (intro w hSw; (try dsimp only at hSw); go_simp; (try (with_reducible rfl)); done)); try simp only [Act.put, List.setIfInBounds_toArray, List.set_cons_zero, List.set_cons_succ])
      refine wpL_loud0 (o := { dst := none, op := Go.Op.store 25 (Go.Operand.tmp 61) (Go.Operand.tmp 60), type := 0, pos := "ref.go:53", after := #[{ on := 7, ground := Go.Ground.data }, { on := 6, ground := Go.Ground.data }, { on := 0, ground := Go.Ground.phase }, { on := 1, ground := Go.Ground.phase }, { on := 2, ground := Go.Ground.phase }, { on := 3, ground := Go.Ground.phase }, { on := 4, ground := Go.Ground.phase }, { on := 5, ground := Go.Ground.phase }, { on := 6, ground := Go.Ground.phase }], guard := none }) rfl (by kernel_rfl) (fun K hK => ?_)
      (rw [if_pos (by rfl)]; refine wp_store_mid 25 _ _ rfl gx 66 #[.int .i64 q76, .int .i64 q78] rfl rfl t66 (by kernel_rfl) (by simp [Value.oneCell']) ?_)
      refine hK.out _ _ ?_
      clear hK K
      try simp only [Act.put, List.setIfInBounds_toArray, List.set_cons_zero, List.set_cons_succ]
      refine wpL_nil ?_
      refine NoPanic.normal ?_
      have T2 : Two w _ gx (RXb s q76 q78) := T1.drew.sets hlx (at_b s q76 q78 T1.drew.x)
      rw [← sets_two] at T2
      clear t66 T1
      generalize World.setCells _ _ _ _ = x2 at T2 ⊢
      have t68 := T2.x.drew.there 68 2 (by omega)
      go_wp2_with fail
      refine wp_region_lin (S := (fun _ => True)) [(0, true), (1, true), (2, true), (3, true), (4, true), (5, true), (6, true), (7, true), (8, false)] (by kernel_rfl) (by kernel_rfl) rfl (by kernel_rfl) ?_ (fun hHeld => ?_)
      · (try dsimp only); try exact trivial
      (refine wpL_calm (o := { dst := some 62, op := Go.Op.move (Go.Operand.tmp 0), type := 9, pos := "ref.go:54", after := #[], guard := none }) (v := ?_) rfl (Or.inl ⟨by rfl, ?_⟩) ?_; rotate_left; (focus (intro w hSw; (try dsimp only at hSw); go_simp; (try (with_reducible rfl)); done)); try simp only [Act.put, List.setIfInBounds_toArray, List.set_cons_zero, List.set_cons_succ])
      (refine wpL_calm (o := { dst := some 63, op := Go.Op.index 9 (Go.Operand.tmp 62) (Go.Operand.const (Go.Value.int Go.IntKind.i64 77)), type := 5, pos := "ref.go:54", after := #[{ on := 0, ground := Go.Ground.data }], guard := none }) (v := ?_) rfl (Or.inl ⟨by rfl, ?_⟩) ?_; rotate_left; (focus (intro w hSw; (try dsimp only at hSw); go_simp; (try (with_reducible rfl)); done)); try simp only [Act.put, List.setIfInBounds_toArray, List.set_cons_zero, List.set_cons_succ])
      (refine wpL_calm (o := { dst := some 64, op := Go.Op.convert 5 3 (Go.Operand.tmp 63), type := 3, pos := "ref.go:54", after := #[{ on := 1, ground := Go.Ground.data }], guard := none }) (v := ?_) rfl (Or.inl ⟨by rfl, ?_⟩) ?_; rotate_left; (focus (intro w hSw; (try dsimp only at hSw); go_simp; (try (with_reducible rfl)); done)); try simp only [Act.put, List.setIfInBounds_toArray, List.set_cons_zero, List.set_cons_succ])
      (refine wpL_calm (o := { dst := some 65, op := Go.Op.move (Go.Operand.tmp 0), type := 9, pos := "ref.go:54", after := #[], guard := none }) (v := ?_) rfl (Or.inl ⟨by rfl, ?_⟩) ?_; rotate_left; (focus (intro w hSw; (try dsimp only at hSw); go_simp; (try (with_reducible rfl)); done)); try simp only [Act.put, List.setIfInBounds_toArray, List.set_cons_zero, List.set_cons_succ])
      (refine wpL_calm (o := { dst := some 66, op := Go.Op.index 9 (Go.Operand.tmp 65) (Go.Operand.const (Go.Value.int Go.IntKind.i64 79)), type := 5, pos := "ref.go:54", after := #[{ on := 3, ground := Go.Ground.data }], guard := none }) (v := ?_) rfl (Or.inl ⟨by rfl, ?_⟩) ?_; rotate_left; (focus (intro w hSw; (try dsimp only at hSw); go_simp; (try (with_reducible rfl)); done)); try simp only [Act.put, List.setIfInBounds_toArray, List.set_cons_zero, List.set_cons_succ])
      (refine wpL_calm (o := { dst := some 67, op := Go.Op.convert 5 3 (Go.Operand.tmp 66), type := 3, pos := "ref.go:54", after := #[{ on := 4, ground := Go.Ground.data }], guard := none }) (v := ?_) rfl (Or.inl ⟨by rfl, ?_⟩) ?_; rotate_left; (focus (intro w hSw; (try dsimp only at hSw); go_simp; (try (with_reducible rfl)); done)); try simp only [Act.put, List.setIfInBounds_toArray, List.set_cons_zero, List.set_cons_succ])
      (refine wpL_calm (o := { dst := some 68, op := Go.Op.build 25 #[(0, Go.Operand.tmp 64), (1, Go.Operand.tmp 67)], type := 25, pos := "ref.go:54", after := #[{ on := 2, ground := Go.Ground.data }, { on := 5, ground := Go.Ground.data }], guard := none }) (v := ?_) rfl (Or.inl ⟨by rfl, ?_⟩) ?_; rotate_left; (focus (intro w hSw; (try dsimp only at hSw); go_simp; (try (with_reducible rfl)); done)); try simp only [Act.put, List.setIfInBounds_toArray, List.set_cons_zero, List.set_cons_succ])
      (refine wpL_calm (o := { dst := some 69, op := Go.Op.fieldAddr 27 (Go.Operand.tmp 4) 4, type := 0, pos := "ref.go:54", after := #[{ on := 0, ground := Go.Ground.phase }, { on := 1, ground := Go.Ground.phase }, { on := 2, ground := Go.Ground.phase }, { on := 3, ground := Go.Ground.phase }, { on := 4, ground := Go.Ground.phase }, { on := 5, ground := Go.Ground.phase }, { on := 6, ground := Go.Ground.phase }], guard := none }) (v := ?_) rfl (Or.inl ⟨by rfl, ?_⟩) ?_; rotate_left; (focus (intro w hSw; (try dsimp only at hSw); go_simp; (try (with_reducible rfl)); done)); try simp only [Act.put, List.setIfInBounds_toArray, List.set_cons_zero, List.set_cons_succ])
      refine wpL_loud0 (o := { dst := none, op := Go.Op.store 25 (Go.Operand.tmp 69) (Go.Operand.tmp 68), type := 0, pos := "ref.go:54", after := #[{ on := 7, ground := Go.Ground.data }, { on := 6, ground := Go.Ground.data }, { on := 0, ground := Go.Ground.phase }, { on := 1, ground := Go.Ground.phase }, { on := 2, ground := Go.Ground.phase }, { on := 3, ground := Go.Ground.phase }, { on := 4, ground := Go.Ground.phase }, { on := 5, ground := Go.Ground.phase }, { on := 6, ground := Go.Ground.phase }], guard := none }) rfl (by kernel_rfl) (fun K hK => ?_)
      (rw [if_pos (by rfl)]; refine wp_store_mid 25 _ _ rfl gx 68 #[.int .i64 q77, .int .i64 q79] rfl rfl t68 (by kernel_rfl) (by simp [Value.oneCell']) ?_)
      refine hK.out _ _ ?_
      clear hK K
      try simp only [Act.put, List.setIfInBounds_toArray, List.set_cons_zero, List.set_cons_succ]
      refine wpL_nil ?_
      refine NoPanic.normal ?_
      have T3 : Two w _ gx (RXc s q76 q78 q77 q79) := T2.drew.sets hlx (at_c s q76 q78 q77 q79 T2.drew.x)
      rw [← sets_two] at T3
      clear t68 T2 y76 y77 y78 y79
      generalize World.setCells _ _ _ _ = x3 at T3 ⊢
      have c70 := T3.x.cell 70 (by omega)
      have f70 := T3.x.row.frozen 70
      have c71 := T3.x.cell 71 (by omega)
      have f71 := T3.x.row.frozen 71
      have c72 := T3.x.cell 72 (by omega)
      have f72 := T3.x.row.frozen 72
      go_upto_region 20 with fail
      have T4 : Two w _ gx (RXd s q76 q78 q77 q79 q80 q81 (q82 == 1)) := ⟨at_d s q76 q78 q77 q79 q80 q81 (q82 == 1) T3.x, ((T3.r.other hne).other hne).other hne, ((T3.b.setCell (p := ⟨gx, 70, none⟩) (Nat.le_of_lt hlx) _).setCell (p := ⟨gx, 71, none⟩) (Nat.le_of_lt hlx) _).setCell (p := ⟨gx, 72, none⟩) (Nat.le_of_lt hlx) _⟩
      clear c70 f70 c71 f71 c72 f72 T3
      generalize World.setCell _ _ _ = x4 at T4 ⊢
      have HA : Alk (RXd s q76 q78 q77 q79 q80 q81 (q82 == 1)) (RX s) := by
        obtain ⟨e76, e77, e78, e79, e80, e81, e82, e83⟩ := HQ.out
        rw [← e76, ← e77, ← e78, ← e79, ← e80, ← e81, ← e82]
        exact RXd_alk s
      have T5 := T4.alk HA
      clear T4 HA j76 k76 j77 k77 j78 k78 j79 k79 j80 k80 j81 k81 i76 i77 i78 i79 i80 i81
      have HZ12 : Hid (∀ w, Calls Try.prog 15 #[.int .i64 12] w fun e w' => e = .returned (.string zz12) ∧ Below w.heap.size w w') := Lib.hid (fun w => zeros_any 12 w (by omega))
      have HRY := Lib.hid (fun h w => right_yes (RX s) w h)
      have HRN := Lib.hid (fun h w => right_no (RX s) w h)
      have HGD : Hid (g = true ↔ (ge = 0 ∧ q82 ≤ 1 ∧ q83 = 103 ∧ ((s.extract 84 96).toList == zz12.toList) = true ∧ Rt (RX s))) := Lib.hid (by
        obtain ⟨e76, e77, e78, e79, e80, e81, e82, e83⟩ := HQ.out
        rw [hg.out, tail_eq s h96, ← HGE.out, ← e82, ← e83, decide_eq_true_eq]
        unfold Good
        rw [show (s.extract 68 76) = s.extract 68 (68 + 8) from rfl, ext_list]
        constructor
        · rintro ⟨a, b, c, d, e⟩; exact ⟨a, by omega, by omega, d, e⟩
        · rintro ⟨a, b, c, d, e⟩; exact ⟨a, by omega, by omega, d, e⟩)
      clear HQ HGE hg
      generalize ht5 : ((s.extract 84 96).toList == zz12.toList) = t5 at HGD
      generalize hX : RX s = X at *
      have HX := Lib.hid hX
      clear hX
      clear hlt hi
      cases g
      · by_cases a1 : ge = 0
        · subst a1
          by_cases a2 : q82 ≤ 1
          · have d82 : decide (1 < q82) = false := by simpa using a2
            by_cases a3 : q83 = 103
            · subst a3
              cases t5
              · clear HGD HRY HRN
                refine wp_region_lin (S := (fun w' => Two w w' gx X)) [(0, true), (1, true), (2, true), (3, true), (4, true), (5, true), (6, true), (7, true), (8, true), (9, true), (10, true), (11, true), (12, true), (13, true), (14, true), (15, false), (16, true), (17, true), (18, true), (19, true), (20, false), (21, true), (22, true)] (by kernel_rfl) (by kernel_rfl) rfl (by kernel_rfl) ?_ (fun hHeld => ?_)
                · (try dsimp only); exact T5.drew
                refine wpL_calm (o := { dst := some 82, op := Go.Op.move (Go.Operand.tmp 9), type := 28, pos := "ref.go:58", after := #[], guard := none }) (v := ?_) rfl (Or.inl ⟨by rfl, ?_⟩) ?_; rotate_left; (focus (intro w hSw; (try dsimp only at hSw); go_simp; (try (with_reducible rfl)); done)); try simp only [Act.put, List.setIfInBounds_toArray, List.set_cons_zero, List.set_cons_succ]
                refine wpL_calm (o := { dst := some 83, op := Go.Op.binOp Go.BinOp.neq 28 (Go.Operand.tmp 82) (Go.Operand.const (Go.Value.int Go.IntKind.i64 0)) 28, type := 4, pos := "ref.go:58", after := #[{ on := 0, ground := Go.Ground.data }], guard := none }) (v := ?_) rfl (Or.inl ⟨by rfl, ?_⟩) ?_; rotate_left; (focus (intro w hSw; (try dsimp only at hSw); go_simp; (try (with_reducible rfl)); done)); try simp only [Act.put, List.setIfInBounds_toArray, List.set_cons_zero, List.set_cons_succ]
                refine wpL_calm (o := { dst := some 84, op := Go.Op.move (Go.Operand.tmp 83), type := 4, pos := "ref.go:58", after := #[{ on := 1, ground := Go.Ground.data }], guard := none }) (v := ?_) rfl (Or.inl ⟨by rfl, ?_⟩) ?_; rotate_left; (focus (intro w hSw; (try dsimp only at hSw); go_simp; (try (with_reducible rfl)); done)); try simp only [Act.put, List.setIfInBounds_toArray, List.set_cons_zero, List.set_cons_succ]
                refine wpL_calm (o := { dst := some 85, op := Go.Op.move (Go.Operand.tmp 0), type := 9, pos := "ref.go:58", after := #[{ on := 2, ground := Go.Ground.guard }], guard := some (2, false) }) (v := ?_) rfl (Or.inl ⟨by rfl, ?_⟩) ?_; rotate_left; (focus (intro w hSw; (try dsimp only at hSw); go_simp; (try (with_reducible rfl)); done)); try simp only [Act.put, List.setIfInBounds_toArray, List.set_cons_zero, List.set_cons_succ]
                refine wpL_calm (o := { dst := some 86, op := Go.Op.index 9 (Go.Operand.tmp 85) (Go.Operand.const (Go.Value.int Go.IntKind.i64 82)), type := 5, pos := "ref.go:58", after := #[{ on := 3, ground := Go.Ground.data }, { on := 2, ground := Go.Ground.guard }], guard := some (2, false) }) (v := ?_) rfl (Or.inl ⟨by rfl, ?_⟩) ?_; rotate_left; (focus (intro w hSw; (try dsimp only at hSw); go_simp; (try (with_reducible rfl)); done)); try simp only [Act.put, List.setIfInBounds_toArray, List.set_cons_zero, List.set_cons_succ]
                refine wpL_calm (o := { dst := some 87, op := Go.Op.binOp Go.BinOp.gtr 5 (Go.Operand.tmp 86) (Go.Operand.const (Go.Value.int Go.IntKind.u8 1)) 5, type := 4, pos := "ref.go:58", after := #[{ on := 4, ground := Go.Ground.data }, { on := 2, ground := Go.Ground.guard }], guard := some (2, false) }) (v := ?_) rfl (Or.inl ⟨by rfl, ?_⟩) ?_; rotate_left; (focus (intro w hSw; (try dsimp only at hSw); go_simp; (try (with_reducible rfl)); done)); try simp only [Act.put, List.setIfInBounds_toArray, List.set_cons_zero, List.set_cons_succ]
                refine wpL_calm (o := { dst := some 88, op := Go.Op.pick (Go.Operand.tmp 84) (Go.Operand.const (Go.Value.bool true)) (Go.Operand.tmp 87), type := 4, pos := "ref.go:58", after := #[{ on := 2, ground := Go.Ground.data }, { on := 5, ground := Go.Ground.data }], guard := none }) (v := ?_) rfl (Or.inl ⟨by rfl, ?_⟩) ?_; rotate_left; (focus (intro w hSw; (try dsimp only at hSw); go_simp; (try (with_reducible rfl)); done)); try simp only [Act.put, List.setIfInBounds_toArray, List.set_cons_zero, List.set_cons_succ]
                refine wpL_calm (o := { dst := some 89, op := Go.Op.move (Go.Operand.tmp 88), type := 4, pos := "ref.go:58", after := #[{ on := 6, ground := Go.Ground.data }, { on := 2, ground := Go.Ground.chain }], guard := none }) (v := ?_) rfl (Or.inl ⟨by rfl, ?_⟩) ?_; rotate_left; (focus (intro w hSw; (try dsimp only at hSw); go_simp; (try (with_reducible rfl)); done)); try simp only [Act.put, List.setIfInBounds_toArray, List.set_cons_zero, List.set_cons_succ]
                refine wpL_calm (o := { dst := some 90, op := Go.Op.move (Go.Operand.tmp 0), type := 9, pos := "ref.go:58", after := #[{ on := 7, ground := Go.Ground.guard }], guard := some (7, false) }) (v := ?_) rfl (Or.inl ⟨by rfl, ?_⟩) ?_; rotate_left; (focus (intro w hSw; (try dsimp only at hSw); go_simp; (try (with_reducible rfl)); done)); try simp only [Act.put, List.setIfInBounds_toArray, List.set_cons_zero, List.set_cons_succ]
                refine wpL_calm (o := { dst := some 91, op := Go.Op.index 9 (Go.Operand.tmp 90) (Go.Operand.const (Go.Value.int Go.IntKind.i64 83)), type := 5, pos := "ref.go:58", after := #[{ on := 8, ground := Go.Ground.data }, { on := 7, ground := Go.Ground.guard }], guard := some (7, false) }) (v := ?_) rfl (Or.inl ⟨by rfl, ?_⟩) ?_; rotate_left; (focus (intro w hSw; (try dsimp only at hSw); go_simp; (try (with_reducible rfl)); done)); try simp only [Act.put, List.setIfInBounds_toArray, List.set_cons_zero, List.set_cons_succ]
                refine wpL_calm (o := { dst := some 92, op := Go.Op.binOp Go.BinOp.neq 5 (Go.Operand.tmp 91) (Go.Operand.const (Go.Value.int Go.IntKind.u8 103)) 5, type := 4, pos := "ref.go:58", after := #[{ on := 9, ground := Go.Ground.data }, { on := 7, ground := Go.Ground.guard }], guard := some (7, false) }) (v := ?_) rfl (Or.inl ⟨by rfl, ?_⟩) ?_; rotate_left; (focus (intro w hSw; (try dsimp only at hSw); go_simp; (try (with_reducible rfl)); done)); try simp only [Act.put, List.setIfInBounds_toArray, List.set_cons_zero, List.set_cons_succ]
                refine wpL_calm (o := { dst := some 93, op := Go.Op.pick (Go.Operand.tmp 89) (Go.Operand.const (Go.Value.bool true)) (Go.Operand.tmp 92), type := 4, pos := "ref.go:58", after := #[{ on := 7, ground := Go.Ground.data }, { on := 10, ground := Go.Ground.data }], guard := none }) (v := ?_) rfl (Or.inl ⟨by rfl, ?_⟩) ?_; rotate_left; (focus (intro w hSw; (try dsimp only at hSw); go_simp; (try (with_reducible rfl)); done)); try simp only [Act.put, List.setIfInBounds_toArray, List.set_cons_zero, List.set_cons_succ]
                refine wpL_calm (o := { dst := some 94, op := Go.Op.move (Go.Operand.tmp 93), type := 4, pos := "ref.go:58", after := #[{ on := 11, ground := Go.Ground.data }, { on := 7, ground := Go.Ground.chain }], guard := none }) (v := ?_) rfl (Or.inl ⟨by rfl, ?_⟩) ?_; rotate_left; (focus (intro w hSw; (try dsimp only at hSw); go_simp; (try (with_reducible rfl)); done)); try simp only [Act.put, List.setIfInBounds_toArray, List.set_cons_zero, List.set_cons_succ]
                refine wpL_calm (o := { dst := some 95, op := Go.Op.move (Go.Operand.tmp 0), type := 9, pos := "ref.go:58", after := #[{ on := 12, ground := Go.Ground.guard }], guard := some (12, false) }) (v := ?_) rfl (Or.inl ⟨by rfl, ?_⟩) ?_; rotate_left; (focus (intro w hSw; (try dsimp only at hSw); go_simp; (try (with_reducible rfl)); done)); try simp only [Act.put, List.setIfInBounds_toArray, List.set_cons_zero, List.set_cons_succ]
                refine wpL_calm (o := { dst := some 96, op := Go.Op.slice 9 (Go.Operand.tmp 95) (some (Go.Operand.const (Go.Value.int Go.IntKind.i64 84))) none none, type := 9, pos := "ref.go:58", after := #[{ on := 13, ground := Go.Ground.data }, { on := 12, ground := Go.Ground.guard }], guard := some (12, false) }) (v := ?_) rfl (Or.inl ⟨by rfl, ?_⟩) ?_; rotate_left; (focus (intro w hSw; (try dsimp only at hSw); go_simp; (try (with_reducible rfl)); done)); try simp only [Act.put, List.setIfInBounds_toArray, List.set_cons_zero, List.set_cons_succ]
                refine wpL_loud1 (o := { dst := some 97, op := Go.Op.call { callee := Go.Callee.value (Go.Operand.func 15), args := #[Go.Operand.const (Go.Value.int Go.IntKind.i64 12)], argTypes := #[3] }, type := 9, pos := "ref.go:58", after := #[{ on := 12, ground := Go.Ground.chain }, { on := 12, ground := Go.Ground.guard }], guard := some (12, false) }) rfl (fun K hK => ?_)
                (go_simp; refine (HZ12.out _).mono ?_; rintro e w' ⟨rfl, hb⟩)
                try go_wp2_with fail
                refine hK.out _ _ ?_ (fun hHeld => ?_)
                · (try dsimp only); exact hHeld.below hb
                clear hK K
                try simp only [Act.put, List.setIfInBounds_toArray, List.set_cons_zero, List.set_cons_succ]
                refine wpL_calm (o := { dst := some 98, op := Go.Op.binOp Go.BinOp.neq 9 (Go.Operand.tmp 96) (Go.Operand.tmp 97) 9, type := 4, pos := "ref.go:58", after := #[{ on := 14, ground := Go.Ground.data }, { on := 15, ground := Go.Ground.data }, { on := 12, ground := Go.Ground.guard }], guard := some (12, false) }) (v := ?_) rfl (Or.inl ⟨by rfl, ?_⟩) ?_; rotate_left; (focus (intro w hSw; (try dsimp only at hSw); go_simp; (try (with_reducible rfl)); done)); try simp only [Act.put, List.setIfInBounds_toArray, List.set_cons_zero, List.set_cons_succ]
                refine wpL_calm (o := { dst := some 99, op := Go.Op.pick (Go.Operand.tmp 94) (Go.Operand.const (Go.Value.bool true)) (Go.Operand.tmp 98), type := 4, pos := "ref.go:58", after := #[{ on := 12, ground := Go.Ground.data }, { on := 16, ground := Go.Ground.data }], guard := none }) (v := ?_) rfl (Or.inl ⟨by rfl, ?_⟩) ?_; rotate_left; (focus (intro w hSw; (try dsimp only at hSw); go_simp; (try (with_reducible rfl)); done)); try simp only [Act.put, List.setIfInBounds_toArray, List.set_cons_zero, List.set_cons_succ]
                refine wpL_calm (o := { dst := some 100, op := Go.Op.move (Go.Operand.tmp 99), type := 4, pos := "ref.go:58", after := #[{ on := 17, ground := Go.Ground.data }, { on := 15, ground := Go.Ground.chain }], guard := none }) (v := ?_) rfl (Or.inl ⟨by rfl, ?_⟩) ?_; rotate_left; (focus (intro w hSw; (try dsimp only at hSw); go_simp; (try (with_reducible rfl)); done)); try simp only [Act.put, List.setIfInBounds_toArray, List.set_cons_zero, List.set_cons_succ]
                refine wpL_calm (o := { dst := some 101, op := Go.Op.load 27 (Go.Operand.tmp 4), type := 27, pos := "ref.go:58", after := #[{ on := 18, ground := Go.Ground.guard }], guard := some (18, false) }) (v := undef) rfl (Or.inr ⟨by rfl, rfl⟩) ?_
                try simp only [Act.put, List.setIfInBounds_toArray, List.set_cons_zero, List.set_cons_succ]
                refine wpL_loud1 (o := { dst := some 102, op := Go.Op.call { callee := Go.Callee.value (Go.Operand.func 8), args := #[Go.Operand.tmp 101], argTypes := #[27] }, type := 4, pos := "ref.go:58", after := #[{ on := 19, ground := Go.Ground.data }, { on := 18, ground := Go.Ground.chain }, { on := 18, ground := Go.Ground.guard }], guard := some (18, false) }) rfl (fun K hK => ?_)
                go_simp
                try go_wp2_with fail
                refine hK.out _ _ ?_ (fun hHeld => ?_)
                · (try dsimp only); exact hHeld
                clear hK K
                try simp only [Act.put, List.setIfInBounds_toArray, List.set_cons_zero, List.set_cons_succ]
                refine wpL_calm (o := { dst := some 103, op := Go.Op.unOp Go.UnOp.not 4 (Go.Operand.tmp 102), type := 4, pos := "ref.go:58", after := #[{ on := 20, ground := Go.Ground.data }, { on := 18, ground := Go.Ground.guard }], guard := some (18, false) }) (v := undef) rfl (Or.inr ⟨by rfl, rfl⟩) ?_; try simp only [Act.put, List.setIfInBounds_toArray, List.set_cons_zero, List.set_cons_succ]
                refine wpL_calm (o := { dst := some 104, op := Go.Op.pick (Go.Operand.tmp 100) (Go.Operand.const (Go.Value.bool true)) (Go.Operand.tmp 103), type := 4, pos := "ref.go:58", after := #[{ on := 18, ground := Go.Ground.data }, { on := 21, ground := Go.Ground.data }], guard := none }) (v := ?_) rfl (Or.inl ⟨by rfl, ?_⟩) ?_; rotate_left; (focus (intro w hSw; (try dsimp only at hSw); go_simp; (try (with_reducible rfl)); done)); try simp only [Act.put, List.setIfInBounds_toArray, List.set_cons_zero, List.set_cons_succ]
                refine wpL_nil ?_
                refine NoPanic.normal ?_
                have T6 := hHeld
                have hG := T6.r
                unfold RegAt at hG
                go_wp2_with (refine wpList_store_row rfl _ _ _ rfl w.heap.size (rcells R0) rfl rfl 27 _ hG (by rw [rcells_size]; kernel_rfl) (by rw [rcells_size]) (rcells_one _) ?_)
                refine bodyPost_ret_by (results_ct rfl _ _ w.heap.size 27 (rcells R0) (0, 0) _ rfl (setRow_heap _ _ _ (rcells R0) 27 (0, 0) hG) Try.underlying27 rfl (by rw [rcells_size]; kernel_rfl)) rfl ⟨rfl, ?_⟩
                exact below_setRow T6.b (Nat.le_refl _) _
              · have hrt : ¬ Rt X := fun h => by have := HGD.out.2 ⟨rfl, a2, rfl, rfl, h⟩; cases this
                have HRR := HRN.out hrt
                clear HGD HRY HRN hrt
                refine wp_region_lin (S := (fun w' => Two w w' gx X)) [(0, true), (1, true), (2, true), (3, true), (4, true), (5, true), (6, true), (7, true), (8, true), (9, true), (10, true), (11, true), (12, true), (13, true), (14, true), (15, false), (16, true), (17, true), (18, true), (19, true), (20, false), (21, true), (22, true)] (by kernel_rfl) (by kernel_rfl) rfl (by kernel_rfl) ?_ (fun hHeld => ?_)
                · (try dsimp only); exact T5.drew
                refine wpL_calm (o := { dst := some 82, op := Go.Op.move (Go.Operand.tmp 9), type := 28, pos := "ref.go:58", after := #[], guard := none }) (v := ?_) rfl (Or.inl ⟨by rfl, ?_⟩) ?_; rotate_left; (focus (intro w hSw; (try dsimp only at hSw); go_simp; (try (with_reducible rfl)); done)); try simp only [Act.put, List.setIfInBounds_toArray, List.set_cons_zero, List.set_cons_succ]
                refine wpL_calm (o := { dst := some 83, op := Go.Op.binOp Go.BinOp.neq 28 (Go.Operand.tmp 82) (Go.Operand.const (Go.Value.int Go.IntKind.i64 0)) 28, type := 4, pos := "ref.go:58", after := #[{ on := 0, ground := Go.Ground.data }], guard := none }) (v := ?_) rfl (Or.inl ⟨by rfl, ?_⟩) ?_; rotate_left; (focus (intro w hSw; (try dsimp only at hSw); go_simp; (try (with_reducible rfl)); done)); try simp only [Act.put, List.setIfInBounds_toArray, List.set_cons_zero, List.set_cons_succ]
                refine wpL_calm (o := { dst := some 84, op := Go.Op.move (Go.Operand.tmp 83), type := 4, pos := "ref.go:58", after := #[{ on := 1, ground := Go.Ground.data }], guard := none }) (v := ?_) rfl (Or.inl ⟨by rfl, ?_⟩) ?_; rotate_left; (focus (intro w hSw; (try dsimp only at hSw); go_simp; (try (with_reducible rfl)); done)); try simp only [Act.put, List.setIfInBounds_toArray, List.set_cons_zero, List.set_cons_succ]
                refine wpL_calm (o := { dst := some 85, op := Go.Op.move (Go.Operand.tmp 0), type := 9, pos := "ref.go:58", after := #[{ on := 2, ground := Go.Ground.guard }], guard := some (2, false) }) (v := ?_) rfl (Or.inl ⟨by rfl, ?_⟩) ?_; rotate_left; (focus (intro w hSw; (try dsimp only at hSw); go_simp; (try (with_reducible rfl)); done)); try simp only [Act.put, List.setIfInBounds_toArray, List.set_cons_zero, List.set_cons_succ]
                refine wpL_calm (o := { dst := some 86, op := Go.Op.index 9 (Go.Operand.tmp 85) (Go.Operand.const (Go.Value.int Go.IntKind.i64 82)), type := 5, pos := "ref.go:58", after := #[{ on := 3, ground := Go.Ground.data }, { on := 2, ground := Go.Ground.guard }], guard := some (2, false) }) (v := ?_) rfl (Or.inl ⟨by rfl, ?_⟩) ?_; rotate_left; (focus (intro w hSw; (try dsimp only at hSw); go_simp; (try (with_reducible rfl)); done)); try simp only [Act.put, List.setIfInBounds_toArray, List.set_cons_zero, List.set_cons_succ]
                refine wpL_calm (o := { dst := some 87, op := Go.Op.binOp Go.BinOp.gtr 5 (Go.Operand.tmp 86) (Go.Operand.const (Go.Value.int Go.IntKind.u8 1)) 5, type := 4, pos := "ref.go:58", after := #[{ on := 4, ground := Go.Ground.data }, { on := 2, ground := Go.Ground.guard }], guard := some (2, false) }) (v := ?_) rfl (Or.inl ⟨by rfl, ?_⟩) ?_; rotate_left; (focus (intro w hSw; (try dsimp only at hSw); go_simp; (try (with_reducible rfl)); done)); try simp only [Act.put, List.setIfInBounds_toArray, List.set_cons_zero, List.set_cons_succ]
                refine wpL_calm (o := { dst := some 88, op := Go.Op.pick (Go.Operand.tmp 84) (Go.Operand.const (Go.Value.bool true)) (Go.Operand.tmp 87), type := 4, pos := "ref.go:58", after := #[{ on := 2, ground := Go.Ground.data }, { on := 5, ground := Go.Ground.data }], guard := none }) (v := ?_) rfl (Or.inl ⟨by rfl, ?_⟩) ?_; rotate_left; (focus (intro w hSw; (try dsimp only at hSw); go_simp; (try (with_reducible rfl)); done)); try simp only [Act.put, List.setIfInBounds_toArray, List.set_cons_zero, List.set_cons_succ]
                refine wpL_calm (o := { dst := some 89, op := Go.Op.move (Go.Operand.tmp 88), type := 4, pos := "ref.go:58", after := #[{ on := 6, ground := Go.Ground.data }, { on := 2, ground := Go.Ground.chain }], guard := none }) (v := ?_) rfl (Or.inl ⟨by rfl, ?_⟩) ?_; rotate_left; (focus (intro w hSw; (try dsimp only at hSw); go_simp; (try (with_reducible rfl)); done)); try simp only [Act.put, List.setIfInBounds_toArray, List.set_cons_zero, List.set_cons_succ]
                refine wpL_calm (o := { dst := some 90, op := Go.Op.move (Go.Operand.tmp 0), type := 9, pos := "ref.go:58", after := #[{ on := 7, ground := Go.Ground.guard }], guard := some (7, false) }) (v := ?_) rfl (Or.inl ⟨by rfl, ?_⟩) ?_; rotate_left; (focus (intro w hSw; (try dsimp only at hSw); go_simp; (try (with_reducible rfl)); done)); try simp only [Act.put, List.setIfInBounds_toArray, List.set_cons_zero, List.set_cons_succ]
                refine wpL_calm (o := { dst := some 91, op := Go.Op.index 9 (Go.Operand.tmp 90) (Go.Operand.const (Go.Value.int Go.IntKind.i64 83)), type := 5, pos := "ref.go:58", after := #[{ on := 8, ground := Go.Ground.data }, { on := 7, ground := Go.Ground.guard }], guard := some (7, false) }) (v := ?_) rfl (Or.inl ⟨by rfl, ?_⟩) ?_; rotate_left; (focus (intro w hSw; (try dsimp only at hSw); go_simp; (try (with_reducible rfl)); done)); try simp only [Act.put, List.setIfInBounds_toArray, List.set_cons_zero, List.set_cons_succ]
                refine wpL_calm (o := { dst := some 92, op := Go.Op.binOp Go.BinOp.neq 5 (Go.Operand.tmp 91) (Go.Operand.const (Go.Value.int Go.IntKind.u8 103)) 5, type := 4, pos := "ref.go:58", after := #[{ on := 9, ground := Go.Ground.data }, { on := 7, ground := Go.Ground.guard }], guard := some (7, false) }) (v := ?_) rfl (Or.inl ⟨by rfl, ?_⟩) ?_; rotate_left; (focus (intro w hSw; (try dsimp only at hSw); go_simp; (try (with_reducible rfl)); done)); try simp only [Act.put, List.setIfInBounds_toArray, List.set_cons_zero, List.set_cons_succ]
                refine wpL_calm (o := { dst := some 93, op := Go.Op.pick (Go.Operand.tmp 89) (Go.Operand.const (Go.Value.bool true)) (Go.Operand.tmp 92), type := 4, pos := "ref.go:58", after := #[{ on := 7, ground := Go.Ground.data }, { on := 10, ground := Go.Ground.data }], guard := none }) (v := ?_) rfl (Or.inl ⟨by rfl, ?_⟩) ?_; rotate_left; (focus (intro w hSw; (try dsimp only at hSw); go_simp; (try (with_reducible rfl)); done)); try simp only [Act.put, List.setIfInBounds_toArray, List.set_cons_zero, List.set_cons_succ]
                refine wpL_calm (o := { dst := some 94, op := Go.Op.move (Go.Operand.tmp 93), type := 4, pos := "ref.go:58", after := #[{ on := 11, ground := Go.Ground.data }, { on := 7, ground := Go.Ground.chain }], guard := none }) (v := ?_) rfl (Or.inl ⟨by rfl, ?_⟩) ?_; rotate_left; (focus (intro w hSw; (try dsimp only at hSw); go_simp; (try (with_reducible rfl)); done)); try simp only [Act.put, List.setIfInBounds_toArray, List.set_cons_zero, List.set_cons_succ]
                refine wpL_calm (o := { dst := some 95, op := Go.Op.move (Go.Operand.tmp 0), type := 9, pos := "ref.go:58", after := #[{ on := 12, ground := Go.Ground.guard }], guard := some (12, false) }) (v := ?_) rfl (Or.inl ⟨by rfl, ?_⟩) ?_; rotate_left; (focus (intro w hSw; (try dsimp only at hSw); go_simp; (try (with_reducible rfl)); done)); try simp only [Act.put, List.setIfInBounds_toArray, List.set_cons_zero, List.set_cons_succ]
                refine wpL_calm (o := { dst := some 96, op := Go.Op.slice 9 (Go.Operand.tmp 95) (some (Go.Operand.const (Go.Value.int Go.IntKind.i64 84))) none none, type := 9, pos := "ref.go:58", after := #[{ on := 13, ground := Go.Ground.data }, { on := 12, ground := Go.Ground.guard }], guard := some (12, false) }) (v := ?_) rfl (Or.inl ⟨by rfl, ?_⟩) ?_; rotate_left; (focus (intro w hSw; (try dsimp only at hSw); go_simp; (try (with_reducible rfl)); done)); try simp only [Act.put, List.setIfInBounds_toArray, List.set_cons_zero, List.set_cons_succ]
                refine wpL_loud1 (o := { dst := some 97, op := Go.Op.call { callee := Go.Callee.value (Go.Operand.func 15), args := #[Go.Operand.const (Go.Value.int Go.IntKind.i64 12)], argTypes := #[3] }, type := 9, pos := "ref.go:58", after := #[{ on := 12, ground := Go.Ground.chain }, { on := 12, ground := Go.Ground.guard }], guard := some (12, false) }) rfl (fun K hK => ?_)
                (go_simp; refine (HZ12.out _).mono ?_; rintro e w' ⟨rfl, hb⟩)
                try go_wp2_with fail
                refine hK.out _ _ ?_ (fun hHeld => ?_)
                · (try dsimp only); exact hHeld.below hb
                clear hK K
                try simp only [Act.put, List.setIfInBounds_toArray, List.set_cons_zero, List.set_cons_succ]
                refine wpL_calm (o := { dst := some 98, op := Go.Op.binOp Go.BinOp.neq 9 (Go.Operand.tmp 96) (Go.Operand.tmp 97) 9, type := 4, pos := "ref.go:58", after := #[{ on := 14, ground := Go.Ground.data }, { on := 15, ground := Go.Ground.data }, { on := 12, ground := Go.Ground.guard }], guard := some (12, false) }) (v := ?_) rfl (Or.inl ⟨by rfl, ?_⟩) ?_; rotate_left; (focus (intro w hSw; (try dsimp only at hSw); go_simp; (try (with_reducible rfl)); done)); try simp only [Act.put, List.setIfInBounds_toArray, List.set_cons_zero, List.set_cons_succ]
                refine wpL_calm (o := { dst := some 99, op := Go.Op.pick (Go.Operand.tmp 94) (Go.Operand.const (Go.Value.bool true)) (Go.Operand.tmp 98), type := 4, pos := "ref.go:58", after := #[{ on := 12, ground := Go.Ground.data }, { on := 16, ground := Go.Ground.data }], guard := none }) (v := ?_) rfl (Or.inl ⟨by rfl, ?_⟩) ?_; rotate_left; (focus (intro w hSw; (try dsimp only at hSw); go_simp; (try (with_reducible rfl)); done)); try simp only [Act.put, List.setIfInBounds_toArray, List.set_cons_zero, List.set_cons_succ]
                refine wpL_calm (o := { dst := some 100, op := Go.Op.move (Go.Operand.tmp 99), type := 4, pos := "ref.go:58", after := #[{ on := 17, ground := Go.Ground.data }, { on := 15, ground := Go.Ground.chain }], guard := none }) (v := ?_) rfl (Or.inl ⟨by rfl, ?_⟩) ?_; rotate_left; (focus (intro w hSw; (try dsimp only at hSw); go_simp; (try (with_reducible rfl)); done)); try simp only [Act.put, List.setIfInBounds_toArray, List.set_cons_zero, List.set_cons_succ]
                refine wpL_calm (o := { dst := some 101, op := Go.Op.load 27 (Go.Operand.tmp 4), type := 27, pos := "ref.go:58", after := #[{ on := 18, ground := Go.Ground.guard }], guard := some (18, false) }) rfl (yieldsIf_load_mid (by rfl) _ _ rfl gx 0 rfl (rcells X).toList _ (fun _ h => h.x.range) Try.underlying27 rfl (by rw [Array.length_toList, rcells_size]; kernel_rfl)) ?_
                try simp only [Act.put, List.setIfInBounds_toArray, List.set_cons_zero, List.set_cons_succ]
                refine wpL_loud1 (o := { dst := some 102, op := Go.Op.call { callee := Go.Callee.value (Go.Operand.func 8), args := #[Go.Operand.tmp 101], argTypes := #[27] }, type := 4, pos := "ref.go:58", after := #[{ on := 19, ground := Go.Ground.data }, { on := 18, ground := Go.Ground.chain }, { on := 18, ground := Go.Ground.guard }], guard := some (18, false) }) rfl (fun K hK => ?_)
                (go_simp; refine (HRR _).mono ?_; rintro e w' ⟨rfl, hb2⟩)
                try go_wp2_with fail
                refine hK.out _ _ ?_ (fun hHeld => ?_)
                · (try dsimp only); exact hHeld.below hb2
                clear hK K
                try simp only [Act.put, List.setIfInBounds_toArray, List.set_cons_zero, List.set_cons_succ]
                refine wpL_calm (o := { dst := some 103, op := Go.Op.unOp Go.UnOp.not 4 (Go.Operand.tmp 102), type := 4, pos := "ref.go:58", after := #[{ on := 20, ground := Go.Ground.data }, { on := 18, ground := Go.Ground.guard }], guard := some (18, false) }) (v := ?_) rfl (Or.inl ⟨by rfl, ?_⟩) ?_; rotate_left; (focus (intro w hSw; (try dsimp only at hSw); go_simp; (try (with_reducible rfl)); done)); try simp only [Act.put, List.setIfInBounds_toArray, List.set_cons_zero, List.set_cons_succ]
                refine wpL_calm (o := { dst := some 104, op := Go.Op.pick (Go.Operand.tmp 100) (Go.Operand.const (Go.Value.bool true)) (Go.Operand.tmp 103), type := 4, pos := "ref.go:58", after := #[{ on := 18, ground := Go.Ground.data }, { on := 21, ground := Go.Ground.data }], guard := none }) (v := ?_) rfl (Or.inl ⟨by rfl, ?_⟩) ?_; rotate_left; (focus (intro w hSw; (try dsimp only at hSw); go_simp; (try (with_reducible rfl)); done)); try simp only [Act.put, List.setIfInBounds_toArray, List.set_cons_zero, List.set_cons_succ]
                refine wpL_nil ?_
                refine NoPanic.normal ?_
                have T6 := hHeld
                have hG := T6.r
                unfold RegAt at hG
                go_wp2_with (refine wpList_store_row rfl _ _ _ rfl w.heap.size (rcells R0) rfl rfl 27 _ hG (by rw [rcells_size]; kernel_rfl) (by rw [rcells_size]) (rcells_one _) ?_)
                refine bodyPost_ret_by (results_ct rfl _ _ w.heap.size 27 (rcells R0) (0, 0) _ rfl (setRow_heap _ _ _ (rcells R0) 27 (0, 0) hG) Try.underlying27 rfl (by rw [rcells_size]; kernel_rfl)) rfl ⟨rfl, ?_⟩
                exact below_setRow T6.b (Nat.le_refl _) _
            · have a3 : (q83 != 103) = true := by simpa using a3
              clear HGD HRY HRN
              refine wp_region_lin (S := (fun w' => Two w w' gx X)) [(0, true), (1, true), (2, true), (3, true), (4, true), (5, true), (6, true), (7, true), (8, true), (9, true), (10, true), (11, true), (12, true), (13, true), (14, true), (15, false), (16, true), (17, true), (18, true), (19, true), (20, false), (21, true), (22, true)] (by kernel_rfl) (by kernel_rfl) rfl (by kernel_rfl) ?_ (fun hHeld => ?_)
              · (try dsimp only); exact T5.drew
              refine wpL_calm (o := { dst := some 82, op := Go.Op.move (Go.Operand.tmp 9), type := 28, pos := "ref.go:58", after := #[], guard := none }) (v := ?_) rfl (Or.inl ⟨by rfl, ?_⟩) ?_; rotate_left; (focus (intro w hSw; (try dsimp only at hSw); go_simp; (try (with_reducible rfl)); done)); try simp only [Act.put, List.setIfInBounds_toArray, List.set_cons_zero, List.set_cons_succ]
              refine wpL_calm (o := { dst := some 83, op := Go.Op.binOp Go.BinOp.neq 28 (Go.Operand.tmp 82) (Go.Operand.const (Go.Value.int Go.IntKind.i64 0)) 28, type := 4, pos := "ref.go:58", after := #[{ on := 0, ground := Go.Ground.data }], guard := none }) (v := ?_) rfl (Or.inl ⟨by rfl, ?_⟩) ?_; rotate_left; (focus (intro w hSw; (try dsimp only at hSw); go_simp; (try (with_reducible rfl)); done)); try simp only [Act.put, List.setIfInBounds_toArray, List.set_cons_zero, List.set_cons_succ]
              refine wpL_calm (o := { dst := some 84, op := Go.Op.move (Go.Operand.tmp 83), type := 4, pos := "ref.go:58", after := #[{ on := 1, ground := Go.Ground.data }], guard := none }) (v := ?_) rfl (Or.inl ⟨by rfl, ?_⟩) ?_; rotate_left; (focus (intro w hSw; (try dsimp only at hSw); go_simp; (try (with_reducible rfl)); done)); try simp only [Act.put, List.setIfInBounds_toArray, List.set_cons_zero, List.set_cons_succ]
              refine wpL_calm (o := { dst := some 85, op := Go.Op.move (Go.Operand.tmp 0), type := 9, pos := "ref.go:58", after := #[{ on := 2, ground := Go.Ground.guard }], guard := some (2, false) }) (v := ?_) rfl (Or.inl ⟨by rfl, ?_⟩) ?_; rotate_left; (focus (intro w hSw; (try dsimp only at hSw); go_simp; (try (with_reducible rfl)); done)); try simp only [Act.put, List.setIfInBounds_toArray, List.set_cons_zero, List.set_cons_succ]
              refine wpL_calm (o := { dst := some 86, op := Go.Op.index 9 (Go.Operand.tmp 85) (Go.Operand.const (Go.Value.int Go.IntKind.i64 82)), type := 5, pos := "ref.go:58", after := #[{ on := 3, ground := Go.Ground.data }, { on := 2, ground := Go.Ground.guard }], guard := some (2, false) }) (v := ?_) rfl (Or.inl ⟨by rfl, ?_⟩) ?_; rotate_left; (focus (intro w hSw; (try dsimp only at hSw); go_simp; (try (with_reducible rfl)); done)); try simp only [Act.put, List.setIfInBounds_toArray, List.set_cons_zero, List.set_cons_succ]
              refine wpL_calm (o := { dst := some 87, op := Go.Op.binOp Go.BinOp.gtr 5 (Go.Operand.tmp 86) (Go.Operand.const (Go.Value.int Go.IntKind.u8 1)) 5, type := 4, pos := "ref.go:58", after := #[{ on := 4, ground := Go.Ground.data }, { on := 2, ground := Go.Ground.guard }], guard := some (2, false) }) (v := ?_) rfl (Or.inl ⟨by rfl, ?_⟩) ?_; rotate_left; (focus (intro w hSw; (try dsimp only at hSw); go_simp; (try (with_reducible rfl)); done)); try simp only [Act.put, List.setIfInBounds_toArray, List.set_cons_zero, List.set_cons_succ]
              refine wpL_calm (o := { dst := some 88, op := Go.Op.pick (Go.Operand.tmp 84) (Go.Operand.const (Go.Value.bool true)) (Go.Operand.tmp 87), type := 4, pos := "ref.go:58", after := #[{ on := 2, ground := Go.Ground.data }, { on := 5, ground := Go.Ground.data }], guard := none }) (v := ?_) rfl (Or.inl ⟨by rfl, ?_⟩) ?_; rotate_left; (focus (intro w hSw; (try dsimp only at hSw); go_simp; (try (with_reducible rfl)); done)); try simp only [Act.put, List.setIfInBounds_toArray, List.set_cons_zero, List.set_cons_succ]
              refine wpL_calm (o := { dst := some 89, op := Go.Op.move (Go.Operand.tmp 88), type := 4, pos := "ref.go:58", after := #[{ on := 6, ground := Go.Ground.data }, { on := 2, ground := Go.Ground.chain }], guard := none }) (v := ?_) rfl (Or.inl ⟨by rfl, ?_⟩) ?_; rotate_left; (focus (intro w hSw; (try dsimp only at hSw); go_simp; (try (with_reducible rfl)); done)); try simp only [Act.put, List.setIfInBounds_toArray, List.set_cons_zero, List.set_cons_succ]
              refine wpL_calm (o := { dst := some 90, op := Go.Op.move (Go.Operand.tmp 0), type := 9, pos := "ref.go:58", after := #[{ on := 7, ground := Go.Ground.guard }], guard := some (7, false) }) (v := ?_) rfl (Or.inl ⟨by rfl, ?_⟩) ?_; rotate_left; (focus (intro w hSw; (try dsimp only at hSw); go_simp; (try (with_reducible rfl)); done)); try simp only [Act.put, List.setIfInBounds_toArray, List.set_cons_zero, List.set_cons_succ]
              refine wpL_calm (o := { dst := some 91, op := Go.Op.index 9 (Go.Operand.tmp 90) (Go.Operand.const (Go.Value.int Go.IntKind.i64 83)), type := 5, pos := "ref.go:58", after := #[{ on := 8, ground := Go.Ground.data }, { on := 7, ground := Go.Ground.guard }], guard := some (7, false) }) (v := ?_) rfl (Or.inl ⟨by rfl, ?_⟩) ?_; rotate_left; (focus (intro w hSw; (try dsimp only at hSw); go_simp; (try (with_reducible rfl)); done)); try simp only [Act.put, List.setIfInBounds_toArray, List.set_cons_zero, List.set_cons_succ]
              refine wpL_calm (o := { dst := some 92, op := Go.Op.binOp Go.BinOp.neq 5 (Go.Operand.tmp 91) (Go.Operand.const (Go.Value.int Go.IntKind.u8 103)) 5, type := 4, pos := "ref.go:58", after := #[{ on := 9, ground := Go.Ground.data }, { on := 7, ground := Go.Ground.guard }], guard := some (7, false) }) (v := ?_) rfl (Or.inl ⟨by rfl, ?_⟩) ?_; rotate_left; (focus (intro w hSw; (try dsimp only at hSw); go_simp; (try (with_reducible rfl)); done)); try simp only [Act.put, List.setIfInBounds_toArray, List.set_cons_zero, List.set_cons_succ]
              refine wpL_calm (o := { dst := some 93, op := Go.Op.pick (Go.Operand.tmp 89) (Go.Operand.const (Go.Value.bool true)) (Go.Operand.tmp 92), type := 4, pos := "ref.go:58", after := #[{ on := 7, ground := Go.Ground.data }, { on := 10, ground := Go.Ground.data }], guard := none }) (v := ?_) rfl (Or.inl ⟨by rfl, ?_⟩) ?_; rotate_left; (focus (intro w hSw; (try dsimp only at hSw); go_simp; (try (with_reducible rfl)); done)); try simp only [Act.put, List.setIfInBounds_toArray, List.set_cons_zero, List.set_cons_succ]
              refine wpL_calm (o := { dst := some 94, op := Go.Op.move (Go.Operand.tmp 93), type := 4, pos := "ref.go:58", after := #[{ on := 11, ground := Go.Ground.data }, { on := 7, ground := Go.Ground.chain }], guard := none }) (v := ?_) rfl (Or.inl ⟨by rfl, ?_⟩) ?_; rotate_left; (focus (intro w hSw; (try dsimp only at hSw); go_simp; (try (with_reducible rfl)); done)); try simp only [Act.put, List.setIfInBounds_toArray, List.set_cons_zero, List.set_cons_succ]
              refine wpL_calm (o := { dst := some 95, op := Go.Op.move (Go.Operand.tmp 0), type := 9, pos := "ref.go:58", after := #[{ on := 12, ground := Go.Ground.guard }], guard := some (12, false) }) (v := undef) rfl (Or.inr ⟨by rfl, rfl⟩) ?_; try simp only [Act.put, List.setIfInBounds_toArray, List.set_cons_zero, List.set_cons_succ]
              refine wpL_calm (o := { dst := some 96, op := Go.Op.slice 9 (Go.Operand.tmp 95) (some (Go.Operand.const (Go.Value.int Go.IntKind.i64 84))) none none, type := 9, pos := "ref.go:58", after := #[{ on := 13, ground := Go.Ground.data }, { on := 12, ground := Go.Ground.guard }], guard := some (12, false) }) (v := undef) rfl (Or.inr ⟨by rfl, rfl⟩) ?_; try simp only [Act.put, List.setIfInBounds_toArray, List.set_cons_zero, List.set_cons_succ]
              refine wpL_loud1 (o := { dst := some 97, op := Go.Op.call { callee := Go.Callee.value (Go.Operand.func 15), args := #[Go.Operand.const (Go.Value.int Go.IntKind.i64 12)], argTypes := #[3] }, type := 9, pos := "ref.go:58", after := #[{ on := 12, ground := Go.Ground.chain }, { on := 12, ground := Go.Ground.guard }], guard := some (12, false) }) rfl (fun K hK => ?_)
              go_simp
              try go_wp2_with fail
              refine hK.out _ _ ?_ (fun hHeld => ?_)
              · (try dsimp only); exact hHeld
              clear hK K
              try simp only [Act.put, List.setIfInBounds_toArray, List.set_cons_zero, List.set_cons_succ]
              refine wpL_calm (o := { dst := some 98, op := Go.Op.binOp Go.BinOp.neq 9 (Go.Operand.tmp 96) (Go.Operand.tmp 97) 9, type := 4, pos := "ref.go:58", after := #[{ on := 14, ground := Go.Ground.data }, { on := 15, ground := Go.Ground.data }, { on := 12, ground := Go.Ground.guard }], guard := some (12, false) }) (v := undef) rfl (Or.inr ⟨by rfl, rfl⟩) ?_; try simp only [Act.put, List.setIfInBounds_toArray, List.set_cons_zero, List.set_cons_succ]
              refine wpL_calm (o := { dst := some 99, op := Go.Op.pick (Go.Operand.tmp 94) (Go.Operand.const (Go.Value.bool true)) (Go.Operand.tmp 98), type := 4, pos := "ref.go:58", after := #[{ on := 12, ground := Go.Ground.data }, { on := 16, ground := Go.Ground.data }], guard := none }) (v := ?_) rfl (Or.inl ⟨by rfl, ?_⟩) ?_; rotate_left; (focus (intro w hSw; (try dsimp only at hSw); go_simp; (try (with_reducible rfl)); done)); try simp only [Act.put, List.setIfInBounds_toArray, List.set_cons_zero, List.set_cons_succ]
              refine wpL_calm (o := { dst := some 100, op := Go.Op.move (Go.Operand.tmp 99), type := 4, pos := "ref.go:58", after := #[{ on := 17, ground := Go.Ground.data }, { on := 15, ground := Go.Ground.chain }], guard := none }) (v := ?_) rfl (Or.inl ⟨by rfl, ?_⟩) ?_; rotate_left; (focus (intro w hSw; (try dsimp only at hSw); go_simp; (try (with_reducible rfl)); done)); try simp only [Act.put, List.setIfInBounds_toArray, List.set_cons_zero, List.set_cons_succ]
              refine wpL_calm (o := { dst := some 101, op := Go.Op.load 27 (Go.Operand.tmp 4), type := 27, pos := "ref.go:58", after := #[{ on := 18, ground := Go.Ground.guard }], guard := some (18, false) }) (v := undef) rfl (Or.inr ⟨by rfl, rfl⟩) ?_
              try simp only [Act.put, List.setIfInBounds_toArray, List.set_cons_zero, List.set_cons_succ]
              refine wpL_loud1 (o := { dst := some 102, op := Go.Op.call { callee := Go.Callee.value (Go.Operand.func 8), args := #[Go.Operand.tmp 101], argTypes := #[27] }, type := 4, pos := "ref.go:58", after := #[{ on := 19, ground := Go.Ground.data }, { on := 18, ground := Go.Ground.chain }, { on := 18, ground := Go.Ground.guard }], guard := some (18, false) }) rfl (fun K hK => ?_)
              go_simp
              try go_wp2_with fail
              refine hK.out _ _ ?_ (fun hHeld => ?_)
              · (try dsimp only); exact hHeld
              clear hK K
              try simp only [Act.put, List.setIfInBounds_toArray, List.set_cons_zero, List.set_cons_succ]
              refine wpL_calm (o := { dst := some 103, op := Go.Op.unOp Go.UnOp.not 4 (Go.Operand.tmp 102), type := 4, pos := "ref.go:58", after := #[{ on := 20, ground := Go.Ground.data }, { on := 18, ground := Go.Ground.guard }], guard := some (18, false) }) (v := undef) rfl (Or.inr ⟨by rfl, rfl⟩) ?_; try simp only [Act.put, List.setIfInBounds_toArray, List.set_cons_zero, List.set_cons_succ]
              refine wpL_calm (o := { dst := some 104, op := Go.Op.pick (Go.Operand.tmp 100) (Go.Operand.const (Go.Value.bool true)) (Go.Operand.tmp 103), type := 4, pos := "ref.go:58", after := #[{ on := 18, ground := Go.Ground.data }, { on := 21, ground := Go.Ground.data }], guard := none }) (v := ?_) rfl (Or.inl ⟨by rfl, ?_⟩) ?_; rotate_left; (focus (intro w hSw; (try dsimp only at hSw); go_simp; (try (with_reducible rfl)); done)); try simp only [Act.put, List.setIfInBounds_toArray, List.set_cons_zero, List.set_cons_succ]
              refine wpL_nil ?_
              refine NoPanic.normal ?_
              have T6 := hHeld
              have hG := T6.r
              unfold RegAt at hG
              go_wp2_with (refine wpList_store_row rfl _ _ _ rfl w.heap.size (rcells R0) rfl rfl 27 _ hG (by rw [rcells_size]; kernel_rfl) (by rw [rcells_size]) (rcells_one _) ?_)
              refine bodyPost_ret_by (results_ct rfl _ _ w.heap.size 27 (rcells R0) (0, 0) _ rfl (setRow_heap _ _ _ (rcells R0) 27 (0, 0) hG) Try.underlying27 rfl (by rw [rcells_size]; kernel_rfl)) rfl ⟨rfl, ?_⟩
              exact below_setRow T6.b (Nat.le_refl _) _
          · have d82 : decide (1 < q82) = true := by simp; omega
            clear HGD HRY HRN
            refine wp_region_lin (S := (fun w' => Two w w' gx X)) [(0, true), (1, true), (2, true), (3, true), (4, true), (5, true), (6, true), (7, true), (8, true), (9, true), (10, true), (11, true), (12, true), (13, true), (14, true), (15, false), (16, true), (17, true), (18, true), (19, true), (20, false), (21, true), (22, true)] (by kernel_rfl) (by kernel_rfl) rfl (by kernel_rfl) ?_ (fun hHeld => ?_)
            · (try dsimp only); exact T5.drew
            refine wpL_calm (o := { dst := some 82, op := Go.Op.move (Go.Operand.tmp 9), type := 28, pos := "ref.go:58", after := #[], guard := none }) (v := ?_) rfl (Or.inl ⟨by rfl, ?_⟩) ?_; rotate_left; (focus (intro w hSw; (try dsimp only at hSw); go_simp; (try (with_reducible rfl)); done)); try simp only [Act.put, List.setIfInBounds_toArray, List.set_cons_zero, List.set_cons_succ]
            refine wpL_calm (o := { dst := some 83, op := Go.Op.binOp Go.BinOp.neq 28 (Go.Operand.tmp 82) (Go.Operand.const (Go.Value.int Go.IntKind.i64 0)) 28, type := 4, pos := "ref.go:58", after := #[{ on := 0, ground := Go.Ground.data }], guard := none }) (v := ?_) rfl (Or.inl ⟨by rfl, ?_⟩) ?_; rotate_left; (focus (intro w hSw; (try dsimp only at hSw); go_simp; (try (with_reducible rfl)); done)); try simp only [Act.put, List.setIfInBounds_toArray, List.set_cons_zero, List.set_cons_succ]
            refine wpL_calm (o := { dst := some 84, op := Go.Op.move (Go.Operand.tmp 83), type := 4, pos := "ref.go:58", after := #[{ on := 1, ground := Go.Ground.data }], guard := none }) (v := ?_) rfl (Or.inl ⟨by rfl, ?_⟩) ?_; rotate_left; (focus (intro w hSw; (try dsimp only at hSw); go_simp; (try (with_reducible rfl)); done)); try simp only [Act.put, List.setIfInBounds_toArray, List.set_cons_zero, List.set_cons_succ]
            refine wpL_calm (o := { dst := some 85, op := Go.Op.move (Go.Operand.tmp 0), type := 9, pos := "ref.go:58", after := #[{ on := 2, ground := Go.Ground.guard }], guard := some (2, false) }) (v := ?_) rfl (Or.inl ⟨by rfl, ?_⟩) ?_; rotate_left; (focus (intro w hSw; (try dsimp only at hSw); go_simp; (try (with_reducible rfl)); done)); try simp only [Act.put, List.setIfInBounds_toArray, List.set_cons_zero, List.set_cons_succ]
            refine wpL_calm (o := { dst := some 86, op := Go.Op.index 9 (Go.Operand.tmp 85) (Go.Operand.const (Go.Value.int Go.IntKind.i64 82)), type := 5, pos := "ref.go:58", after := #[{ on := 3, ground := Go.Ground.data }, { on := 2, ground := Go.Ground.guard }], guard := some (2, false) }) (v := ?_) rfl (Or.inl ⟨by rfl, ?_⟩) ?_; rotate_left; (focus (intro w hSw; (try dsimp only at hSw); go_simp; (try (with_reducible rfl)); done)); try simp only [Act.put, List.setIfInBounds_toArray, List.set_cons_zero, List.set_cons_succ]
            refine wpL_calm (o := { dst := some 87, op := Go.Op.binOp Go.BinOp.gtr 5 (Go.Operand.tmp 86) (Go.Operand.const (Go.Value.int Go.IntKind.u8 1)) 5, type := 4, pos := "ref.go:58", after := #[{ on := 4, ground := Go.Ground.data }, { on := 2, ground := Go.Ground.guard }], guard := some (2, false) }) (v := ?_) rfl (Or.inl ⟨by rfl, ?_⟩) ?_; rotate_left; (focus (intro w hSw; (try dsimp only at hSw); go_simp; (try (with_reducible rfl)); done)); try simp only [Act.put, List.setIfInBounds_toArray, List.set_cons_zero, List.set_cons_succ]
            refine wpL_calm (o := { dst := some 88, op := Go.Op.pick (Go.Operand.tmp 84) (Go.Operand.const (Go.Value.bool true)) (Go.Operand.tmp 87), type := 4, pos := "ref.go:58", after := #[{ on := 2, ground := Go.Ground.data }, { on := 5, ground := Go.Ground.data }], guard := none }) (v := ?_) rfl (Or.inl ⟨by rfl, ?_⟩) ?_; rotate_left; (focus (intro w hSw; (try dsimp only at hSw); go_simp; (try (with_reducible rfl)); done)); try simp only [Act.put, List.setIfInBounds_toArray, List.set_cons_zero, List.set_cons_succ]
            refine wpL_calm (o := { dst := some 89, op := Go.Op.move (Go.Operand.tmp 88), type := 4, pos := "ref.go:58", after := #[{ on := 6, ground := Go.Ground.data }, { on := 2, ground := Go.Ground.chain }], guard := none }) (v := ?_) rfl (Or.inl ⟨by rfl, ?_⟩) ?_; rotate_left; (focus (intro w hSw; (try dsimp only at hSw); go_simp; (try (with_reducible rfl)); done)); try simp only [Act.put, List.setIfInBounds_toArray, List.set_cons_zero, List.set_cons_succ]
            refine wpL_calm (o := { dst := some 90, op := Go.Op.move (Go.Operand.tmp 0), type := 9, pos := "ref.go:58", after := #[{ on := 7, ground := Go.Ground.guard }], guard := some (7, false) }) (v := undef) rfl (Or.inr ⟨by rfl, rfl⟩) ?_; try simp only [Act.put, List.setIfInBounds_toArray, List.set_cons_zero, List.set_cons_succ]
            refine wpL_calm (o := { dst := some 91, op := Go.Op.index 9 (Go.Operand.tmp 90) (Go.Operand.const (Go.Value.int Go.IntKind.i64 83)), type := 5, pos := "ref.go:58", after := #[{ on := 8, ground := Go.Ground.data }, { on := 7, ground := Go.Ground.guard }], guard := some (7, false) }) (v := undef) rfl (Or.inr ⟨by rfl, rfl⟩) ?_; try simp only [Act.put, List.setIfInBounds_toArray, List.set_cons_zero, List.set_cons_succ]
            refine wpL_calm (o := { dst := some 92, op := Go.Op.binOp Go.BinOp.neq 5 (Go.Operand.tmp 91) (Go.Operand.const (Go.Value.int Go.IntKind.u8 103)) 5, type := 4, pos := "ref.go:58", after := #[{ on := 9, ground := Go.Ground.data }, { on := 7, ground := Go.Ground.guard }], guard := some (7, false) }) (v := undef) rfl (Or.inr ⟨by rfl, rfl⟩) ?_; try simp only [Act.put, List.setIfInBounds_toArray, List.set_cons_zero, List.set_cons_succ]
            refine wpL_calm (o := { dst := some 93, op := Go.Op.pick (Go.Operand.tmp 89) (Go.Operand.const (Go.Value.bool true)) (Go.Operand.tmp 92), type := 4, pos := "ref.go:58", after := #[{ on := 7, ground := Go.Ground.data }, { on := 10, ground := Go.Ground.data }], guard := none }) (v := ?_) rfl (Or.inl ⟨by rfl, ?_⟩) ?_; rotate_left; (focus (intro w hSw; (try dsimp only at hSw); go_simp; (try (with_reducible rfl)); done)); try simp only [Act.put, List.setIfInBounds_toArray, List.set_cons_zero, List.set_cons_succ]
            refine wpL_calm (o := { dst := some 94, op := Go.Op.move (Go.Operand.tmp 93), type := 4, pos := "ref.go:58", after := #[{ on := 11, ground := Go.Ground.data }, { on := 7, ground := Go.Ground.chain }], guard := none }) (v := ?_) rfl (Or.inl ⟨by rfl, ?_⟩) ?_; rotate_left; (focus (intro w hSw; (try dsimp only at hSw); go_simp; (try (with_reducible rfl)); done)); try simp only [Act.put, List.setIfInBounds_toArray, List.set_cons_zero, List.set_cons_succ]
            refine wpL_calm (o := { dst := some 95, op := Go.Op.move (Go.Operand.tmp 0), type := 9, pos := "ref.go:58", after := #[{ on := 12, ground := Go.Ground.guard }], guard := some (12, false) }) (v := undef) rfl (Or.inr ⟨by rfl, rfl⟩) ?_; try simp only [Act.put, List.setIfInBounds_toArray, List.set_cons_zero, List.set_cons_succ]
            refine wpL_calm (o := { dst := some 96, op := Go.Op.slice 9 (Go.Operand.tmp 95) (some (Go.Operand.const (Go.Value.int Go.IntKind.i64 84))) none none, type := 9, pos := "ref.go:58", after := #[{ on := 13, ground := Go.Ground.data }, { on := 12, ground := Go.Ground.guard }], guard := some (12, false) }) (v := undef) rfl (Or.inr ⟨by rfl, rfl⟩) ?_; try simp only [Act.put, List.setIfInBounds_toArray, List.set_cons_zero, List.set_cons_succ]
            refine wpL_loud1 (o := { dst := some 97, op := Go.Op.call { callee := Go.Callee.value (Go.Operand.func 15), args := #[Go.Operand.const (Go.Value.int Go.IntKind.i64 12)], argTypes := #[3] }, type := 9, pos := "ref.go:58", after := #[{ on := 12, ground := Go.Ground.chain }, { on := 12, ground := Go.Ground.guard }], guard := some (12, false) }) rfl (fun K hK => ?_)
            go_simp
            try go_wp2_with fail
            refine hK.out _ _ ?_ (fun hHeld => ?_)
            · (try dsimp only); exact hHeld
            clear hK K
            try simp only [Act.put, List.setIfInBounds_toArray, List.set_cons_zero, List.set_cons_succ]
            refine wpL_calm (o := { dst := some 98, op := Go.Op.binOp Go.BinOp.neq 9 (Go.Operand.tmp 96) (Go.Operand.tmp 97) 9, type := 4, pos := "ref.go:58", after := #[{ on := 14, ground := Go.Ground.data }, { on := 15, ground := Go.Ground.data }, { on := 12, ground := Go.Ground.guard }], guard := some (12, false) }) (v := undef) rfl (Or.inr ⟨by rfl, rfl⟩) ?_; try simp only [Act.put, List.setIfInBounds_toArray, List.set_cons_zero, List.set_cons_succ]
            refine wpL_calm (o := { dst := some 99, op := Go.Op.pick (Go.Operand.tmp 94) (Go.Operand.const (Go.Value.bool true)) (Go.Operand.tmp 98), type := 4, pos := "ref.go:58", after := #[{ on := 12, ground := Go.Ground.data }, { on := 16, ground := Go.Ground.data }], guard := none }) (v := ?_) rfl (Or.inl ⟨by rfl, ?_⟩) ?_; rotate_left; (focus (intro w hSw; (try dsimp only at hSw); go_simp; (try (with_reducible rfl)); done)); try simp only [Act.put, List.setIfInBounds_toArray, List.set_cons_zero, List.set_cons_succ]
            refine wpL_calm (o := { dst := some 100, op := Go.Op.move (Go.Operand.tmp 99), type := 4, pos := "ref.go:58", after := #[{ on := 17, ground := Go.Ground.data }, { on := 15, ground := Go.Ground.chain }], guard := none }) (v := ?_) rfl (Or.inl ⟨by rfl, ?_⟩) ?_; rotate_left; (focus (intro w hSw; (try dsimp only at hSw); go_simp; (try (with_reducible rfl)); done)); try simp only [Act.put, List.setIfInBounds_toArray, List.set_cons_zero, List.set_cons_succ]
            refine wpL_calm (o := { dst := some 101, op := Go.Op.load 27 (Go.Operand.tmp 4), type := 27, pos := "ref.go:58", after := #[{ on := 18, ground := Go.Ground.guard }], guard := some (18, false) }) (v := undef) rfl (Or.inr ⟨by rfl, rfl⟩) ?_
            try simp only [Act.put, List.setIfInBounds_toArray, List.set_cons_zero, List.set_cons_succ]
            refine wpL_loud1 (o := { dst := some 102, op := Go.Op.call { callee := Go.Callee.value (Go.Operand.func 8), args := #[Go.Operand.tmp 101], argTypes := #[27] }, type := 4, pos := "ref.go:58", after := #[{ on := 19, ground := Go.Ground.data }, { on := 18, ground := Go.Ground.chain }, { on := 18, ground := Go.Ground.guard }], guard := some (18, false) }) rfl (fun K hK => ?_)
            go_simp
            try go_wp2_with fail
            refine hK.out _ _ ?_ (fun hHeld => ?_)
            · (try dsimp only); exact hHeld
            clear hK K
            try simp only [Act.put, List.setIfInBounds_toArray, List.set_cons_zero, List.set_cons_succ]
            refine wpL_calm (o := { dst := some 103, op := Go.Op.unOp Go.UnOp.not 4 (Go.Operand.tmp 102), type := 4, pos := "ref.go:58", after := #[{ on := 20, ground := Go.Ground.data }, { on := 18, ground := Go.Ground.guard }], guard := some (18, false) }) (v := undef) rfl (Or.inr ⟨by rfl, rfl⟩) ?_; try simp only [Act.put, List.setIfInBounds_toArray, List.set_cons_zero, List.set_cons_succ]
            refine wpL_calm (o := { dst := some 104, op := Go.Op.pick (Go.Operand.tmp 100) (Go.Operand.const (Go.Value.bool true)) (Go.Operand.tmp 103), type := 4, pos := "ref.go:58", after := #[{ on := 18, ground := Go.Ground.data }, { on := 21, ground := Go.Ground.data }], guard := none }) (v := ?_) rfl (Or.inl ⟨by rfl, ?_⟩) ?_; rotate_left; (focus (intro w hSw; (try dsimp only at hSw); go_simp; (try (with_reducible rfl)); done)); try simp only [Act.put, List.setIfInBounds_toArray, List.set_cons_zero, List.set_cons_succ]
            refine wpL_nil ?_
            refine NoPanic.normal ?_
            have T6 := hHeld
            have hG := T6.r
            unfold RegAt at hG
            go_wp2_with (refine wpList_store_row rfl _ _ _ rfl w.heap.size (rcells R0) rfl rfl 27 _ hG (by rw [rcells_size]; kernel_rfl) (by rw [rcells_size]) (rcells_one _) ?_)
            refine bodyPost_ret_by (results_ct rfl _ _ w.heap.size 27 (rcells R0) (0, 0) _ rfl (setRow_heap _ _ _ (rcells R0) 27 (0, 0) hG) Try.underlying27 rfl (by rw [rcells_size]; kernel_rfl)) rfl ⟨rfl, ?_⟩
            exact below_setRow T6.b (Nat.le_refl _) _
        · have a1 : (ge != 0) = true := by simpa using a1
          clear HGD HRY HRN
          refine wp_region_lin (S := (fun w' => Two w w' gx X)) [(0, true), (1, true), (2, true), (3, true), (4, true), (5, true), (6, true), (7, true), (8, true), (9, true), (10, true), (11, true), (12, true), (13, true), (14, true), (15, false), (16, true), (17, true), (18, true), (19, true), (20, false), (21, true), (22, true)] (by kernel_rfl) (by kernel_rfl) rfl (by kernel_rfl) ?_ (fun hHeld => ?_)
          · (try dsimp only); exact T5.drew
          refine wpL_calm (o := { dst := some 82, op := Go.Op.move (Go.Operand.tmp 9), type := 28, pos := "ref.go:58", after := #[], guard := none }) (v := ?_) rfl (Or.inl ⟨by rfl, ?_⟩) ?_; rotate_left; (focus (intro w hSw; (try dsimp only at hSw); go_simp; (try (with_reducible rfl)); done)); try simp only [Act.put, List.setIfInBounds_toArray, List.set_cons_zero, List.set_cons_succ]
          refine wpL_calm (o := { dst := some 83, op := Go.Op.binOp Go.BinOp.neq 28 (Go.Operand.tmp 82) (Go.Operand.const (Go.Value.int Go.IntKind.i64 0)) 28, type := 4, pos := "ref.go:58", after := #[{ on := 0, ground := Go.Ground.data }], guard := none }) (v := ?_) rfl (Or.inl ⟨by rfl, ?_⟩) ?_; rotate_left; (focus (intro w hSw; (try dsimp only at hSw); go_simp; (try (with_reducible rfl)); done)); try simp only [Act.put, List.setIfInBounds_toArray, List.set_cons_zero, List.set_cons_succ]
          refine wpL_calm (o := { dst := some 84, op := Go.Op.move (Go.Operand.tmp 83), type := 4, pos := "ref.go:58", after := #[{ on := 1, ground := Go.Ground.data }], guard := none }) (v := ?_) rfl (Or.inl ⟨by rfl, ?_⟩) ?_; rotate_left; (focus (intro w hSw; (try dsimp only at hSw); go_simp; (try (with_reducible rfl)); done)); try simp only [Act.put, List.setIfInBounds_toArray, List.set_cons_zero, List.set_cons_succ]
          refine wpL_calm (o := { dst := some 85, op := Go.Op.move (Go.Operand.tmp 0), type := 9, pos := "ref.go:58", after := #[{ on := 2, ground := Go.Ground.guard }], guard := some (2, false) }) (v := undef) rfl (Or.inr ⟨by rfl, rfl⟩) ?_; try simp only [Act.put, List.setIfInBounds_toArray, List.set_cons_zero, List.set_cons_succ]
          refine wpL_calm (o := { dst := some 86, op := Go.Op.index 9 (Go.Operand.tmp 85) (Go.Operand.const (Go.Value.int Go.IntKind.i64 82)), type := 5, pos := "ref.go:58", after := #[{ on := 3, ground := Go.Ground.data }, { on := 2, ground := Go.Ground.guard }], guard := some (2, false) }) (v := undef) rfl (Or.inr ⟨by rfl, rfl⟩) ?_; try simp only [Act.put, List.setIfInBounds_toArray, List.set_cons_zero, List.set_cons_succ]
          refine wpL_calm (o := { dst := some 87, op := Go.Op.binOp Go.BinOp.gtr 5 (Go.Operand.tmp 86) (Go.Operand.const (Go.Value.int Go.IntKind.u8 1)) 5, type := 4, pos := "ref.go:58", after := #[{ on := 4, ground := Go.Ground.data }, { on := 2, ground := Go.Ground.guard }], guard := some (2, false) }) (v := undef) rfl (Or.inr ⟨by rfl, rfl⟩) ?_; try simp only [Act.put, List.setIfInBounds_toArray, List.set_cons_zero, List.set_cons_succ]
          refine wpL_calm (o := { dst := some 88, op := Go.Op.pick (Go.Operand.tmp 84) (Go.Operand.const (Go.Value.bool true)) (Go.Operand.tmp 87), type := 4, pos := "ref.go:58", after := #[{ on := 2, ground := Go.Ground.data }, { on := 5, ground := Go.Ground.data }], guard := none }) (v := ?_) rfl (Or.inl ⟨by rfl, ?_⟩) ?_; rotate_left; (focus (intro w hSw; (try dsimp only at hSw); go_simp; (try (with_reducible rfl)); done)); try simp only [Act.put, List.setIfInBounds_toArray, List.set_cons_zero, List.set_cons_succ]
          refine wpL_calm (o := { dst := some 89, op := Go.Op.move (Go.Operand.tmp 88), type := 4, pos := "ref.go:58", after := #[{ on := 6, ground := Go.Ground.data }, { on := 2, ground := Go.Ground.chain }], guard := none }) (v := ?_) rfl (Or.inl ⟨by rfl, ?_⟩) ?_; rotate_left; (focus (intro w hSw; (try dsimp only at hSw); go_simp; (try (with_reducible rfl)); done)); try simp only [Act.put, List.setIfInBounds_toArray, List.set_cons_zero, List.set_cons_succ]
          refine wpL_calm (o := { dst := some 90, op := Go.Op.move (Go.Operand.tmp 0), type := 9, pos := "ref.go:58", after := #[{ on := 7, ground := Go.Ground.guard }], guard := some (7, false) }) (v := undef) rfl (Or.inr ⟨by rfl, rfl⟩) ?_; try simp only [Act.put, List.setIfInBounds_toArray, List.set_cons_zero, List.set_cons_succ]
          refine wpL_calm (o := { dst := some 91, op := Go.Op.index 9 (Go.Operand.tmp 90) (Go.Operand.const (Go.Value.int Go.IntKind.i64 83)), type := 5, pos := "ref.go:58", after := #[{ on := 8, ground := Go.Ground.data }, { on := 7, ground := Go.Ground.guard }], guard := some (7, false) }) (v := undef) rfl (Or.inr ⟨by rfl, rfl⟩) ?_; try simp only [Act.put, List.setIfInBounds_toArray, List.set_cons_zero, List.set_cons_succ]
          refine wpL_calm (o := { dst := some 92, op := Go.Op.binOp Go.BinOp.neq 5 (Go.Operand.tmp 91) (Go.Operand.const (Go.Value.int Go.IntKind.u8 103)) 5, type := 4, pos := "ref.go:58", after := #[{ on := 9, ground := Go.Ground.data }, { on := 7, ground := Go.Ground.guard }], guard := some (7, false) }) (v := undef) rfl (Or.inr ⟨by rfl, rfl⟩) ?_; try simp only [Act.put, List.setIfInBounds_toArray, List.set_cons_zero, List.set_cons_succ]
          refine wpL_calm (o := { dst := some 93, op := Go.Op.pick (Go.Operand.tmp 89) (Go.Operand.const (Go.Value.bool true)) (Go.Operand.tmp 92), type := 4, pos := "ref.go:58", after := #[{ on := 7, ground := Go.Ground.data }, { on := 10, ground := Go.Ground.data }], guard := none }) (v := ?_) rfl (Or.inl ⟨by rfl, ?_⟩) ?_; rotate_left; (focus (intro w hSw; (try dsimp only at hSw); go_simp; (try (with_reducible rfl)); done)); try simp only [Act.put, List.setIfInBounds_toArray, List.set_cons_zero, List.set_cons_succ]
          refine wpL_calm (o := { dst := some 94, op := Go.Op.move (Go.Operand.tmp 93), type := 4, pos := "ref.go:58", after := #[{ on := 11, ground := Go.Ground.data }, { on := 7, ground := Go.Ground.chain }], guard := none }) (v := ?_) rfl (Or.inl ⟨by rfl, ?_⟩) ?_; rotate_left; (focus (intro w hSw; (try dsimp only at hSw); go_simp; (try (with_reducible rfl)); done)); try simp only [Act.put, List.setIfInBounds_toArray, List.set_cons_zero, List.set_cons_succ]
          refine wpL_calm (o := { dst := some 95, op := Go.Op.move (Go.Operand.tmp 0), type := 9, pos := "ref.go:58", after := #[{ on := 12, ground := Go.Ground.guard }], guard := some (12, false) }) (v := undef) rfl (Or.inr ⟨by rfl, rfl⟩) ?_; try simp only [Act.put, List.setIfInBounds_toArray, List.set_cons_zero, List.set_cons_succ]
          refine wpL_calm (o := { dst := some 96, op := Go.Op.slice 9 (Go.Operand.tmp 95) (some (Go.Operand.const (Go.Value.int Go.IntKind.i64 84))) none none, type := 9, pos := "ref.go:58", after := #[{ on := 13, ground := Go.Ground.data }, { on := 12, ground := Go.Ground.guard }], guard := some (12, false) }) (v := undef) rfl (Or.inr ⟨by rfl, rfl⟩) ?_; try simp only [Act.put, List.setIfInBounds_toArray, List.set_cons_zero, List.set_cons_succ]
          refine wpL_loud1 (o := { dst := some 97, op := Go.Op.call { callee := Go.Callee.value (Go.Operand.func 15), args := #[Go.Operand.const (Go.Value.int Go.IntKind.i64 12)], argTypes := #[3] }, type := 9, pos := "ref.go:58", after := #[{ on := 12, ground := Go.Ground.chain }, { on := 12, ground := Go.Ground.guard }], guard := some (12, false) }) rfl (fun K hK => ?_)
          go_simp
          try go_wp2_with fail
          refine hK.out _ _ ?_ (fun hHeld => ?_)
          · (try dsimp only); exact hHeld
          clear hK K
          try simp only [Act.put, List.setIfInBounds_toArray, List.set_cons_zero, List.set_cons_succ]
          refine wpL_calm (o := { dst := some 98, op := Go.Op.binOp Go.BinOp.neq 9 (Go.Operand.tmp 96) (Go.Operand.tmp 97) 9, type := 4, pos := "ref.go:58", after := #[{ on := 14, ground := Go.Ground.data }, { on := 15, ground := Go.Ground.data }, { on := 12, ground := Go.Ground.guard }], guard := some (12, false) }) (v := undef) rfl (Or.inr ⟨by rfl, rfl⟩) ?_; try simp only [Act.put, List.setIfInBounds_toArray, List.set_cons_zero, List.set_cons_succ]
          refine wpL_calm (o := { dst := some 99, op := Go.Op.pick (Go.Operand.tmp 94) (Go.Operand.const (Go.Value.bool true)) (Go.Operand.tmp 98), type := 4, pos := "ref.go:58", after := #[{ on := 12, ground := Go.Ground.data }, { on := 16, ground := Go.Ground.data }], guard := none }) (v := ?_) rfl (Or.inl ⟨by rfl, ?_⟩) ?_; rotate_left; (focus (intro w hSw; (try dsimp only at hSw); go_simp; (try (with_reducible rfl)); done)); try simp only [Act.put, List.setIfInBounds_toArray, List.set_cons_zero, List.set_cons_succ]
          refine wpL_calm (o := { dst := some 100, op := Go.Op.move (Go.Operand.tmp 99), type := 4, pos := "ref.go:58", after := #[{ on := 17, ground := Go.Ground.data }, { on := 15, ground := Go.Ground.chain }], guard := none }) (v := ?_) rfl (Or.inl ⟨by rfl, ?_⟩) ?_; rotate_left; (focus (intro w hSw; (try dsimp only at hSw); go_simp; (try (with_reducible rfl)); done)); try simp only [Act.put, List.setIfInBounds_toArray, List.set_cons_zero, List.set_cons_succ]
          refine wpL_calm (o := { dst := some 101, op := Go.Op.load 27 (Go.Operand.tmp 4), type := 27, pos := "ref.go:58", after := #[{ on := 18, ground := Go.Ground.guard }], guard := some (18, false) }) (v := undef) rfl (Or.inr ⟨by rfl, rfl⟩) ?_
          try simp only [Act.put, List.setIfInBounds_toArray, List.set_cons_zero, List.set_cons_succ]
          refine wpL_loud1 (o := { dst := some 102, op := Go.Op.call { callee := Go.Callee.value (Go.Operand.func 8), args := #[Go.Operand.tmp 101], argTypes := #[27] }, type := 4, pos := "ref.go:58", after := #[{ on := 19, ground := Go.Ground.data }, { on := 18, ground := Go.Ground.chain }, { on := 18, ground := Go.Ground.guard }], guard := some (18, false) }) rfl (fun K hK => ?_)
          go_simp
          try go_wp2_with fail
          refine hK.out _ _ ?_ (fun hHeld => ?_)
          · (try dsimp only); exact hHeld
          clear hK K
          try simp only [Act.put, List.setIfInBounds_toArray, List.set_cons_zero, List.set_cons_succ]
          refine wpL_calm (o := { dst := some 103, op := Go.Op.unOp Go.UnOp.not 4 (Go.Operand.tmp 102), type := 4, pos := "ref.go:58", after := #[{ on := 20, ground := Go.Ground.data }, { on := 18, ground := Go.Ground.guard }], guard := some (18, false) }) (v := undef) rfl (Or.inr ⟨by rfl, rfl⟩) ?_; try simp only [Act.put, List.setIfInBounds_toArray, List.set_cons_zero, List.set_cons_succ]
          refine wpL_calm (o := { dst := some 104, op := Go.Op.pick (Go.Operand.tmp 100) (Go.Operand.const (Go.Value.bool true)) (Go.Operand.tmp 103), type := 4, pos := "ref.go:58", after := #[{ on := 18, ground := Go.Ground.data }, { on := 21, ground := Go.Ground.data }], guard := none }) (v := ?_) rfl (Or.inl ⟨by rfl, ?_⟩) ?_; rotate_left; (focus (intro w hSw; (try dsimp only at hSw); go_simp; (try (with_reducible rfl)); done)); try simp only [Act.put, List.setIfInBounds_toArray, List.set_cons_zero, List.set_cons_succ]
          refine wpL_nil ?_
          refine NoPanic.normal ?_
          have T6 := hHeld
          have hG := T6.r
          unfold RegAt at hG
          go_wp2_with (refine wpList_store_row rfl _ _ _ rfl w.heap.size (rcells R0) rfl rfl 27 _ hG (by rw [rcells_size]; kernel_rfl) (by rw [rcells_size]) (rcells_one _) ?_)
          refine bodyPost_ret_by (results_ct rfl _ _ w.heap.size 27 (rcells R0) (0, 0) _ rfl (setRow_heap _ _ _ (rcells R0) 27 (0, 0) hG) Try.underlying27 rfl (by rw [rcells_size]; kernel_rfl)) rfl ⟨rfl, ?_⟩
          exact below_setRow T6.b (Nat.le_refl _) _
      · obtain ⟨a1, a2, a3, a4, a5⟩ := HGD.out.1 rfl
        subst a1 a3 a4
        have d82 : decide (1 < q82) = false := by simpa using a2
        have HRR := HRY.out a5
        clear HGD HRY HRN a5
        refine wp_region_lin (S := (fun w' => Two w w' gx X)) [(0, true), (1, true), (2, true), (3, true), (4, true), (5, true), (6, true), (7, true), (8, true), (9, true), (10, true), (11, true), (12, true), (13, true), (14, true), (15, false), (16, true), (17, true), (18, true), (19, true), (20, false), (21, true), (22, true)] (by kernel_rfl) (by kernel_rfl) rfl (by kernel_rfl) ?_ (fun hHeld => ?_)
        · (try dsimp only); exact T5.drew
        refine wpL_calm (o := { dst := some 82, op := Go.Op.move (Go.Operand.tmp 9), type := 28, pos := "ref.go:58", after := #[], guard := none }) (v := ?_) rfl (Or.inl ⟨by rfl, ?_⟩) ?_; rotate_left; (focus (intro w hSw; (try dsimp only at hSw); go_simp; (try (with_reducible rfl)); done)); try simp only [Act.put, List.setIfInBounds_toArray, List.set_cons_zero, List.set_cons_succ]
        refine wpL_calm (o := { dst := some 83, op := Go.Op.binOp Go.BinOp.neq 28 (Go.Operand.tmp 82) (Go.Operand.const (Go.Value.int Go.IntKind.i64 0)) 28, type := 4, pos := "ref.go:58", after := #[{ on := 0, ground := Go.Ground.data }], guard := none }) (v := ?_) rfl (Or.inl ⟨by rfl, ?_⟩) ?_; rotate_left; (focus (intro w hSw; (try dsimp only at hSw); go_simp; (try (with_reducible rfl)); done)); try simp only [Act.put, List.setIfInBounds_toArray, List.set_cons_zero, List.set_cons_succ]
        refine wpL_calm (o := { dst := some 84, op := Go.Op.move (Go.Operand.tmp 83), type := 4, pos := "ref.go:58", after := #[{ on := 1, ground := Go.Ground.data }], guard := none }) (v := ?_) rfl (Or.inl ⟨by rfl, ?_⟩) ?_; rotate_left; (focus (intro w hSw; (try dsimp only at hSw); go_simp; (try (with_reducible rfl)); done)); try simp only [Act.put, List.setIfInBounds_toArray, List.set_cons_zero, List.set_cons_succ]
        refine wpL_calm (o := { dst := some 85, op := Go.Op.move (Go.Operand.tmp 0), type := 9, pos := "ref.go:58", after := #[{ on := 2, ground := Go.Ground.guard }], guard := some (2, false) }) (v := ?_) rfl (Or.inl ⟨by rfl, ?_⟩) ?_; rotate_left; (focus (intro w hSw; (try dsimp only at hSw); go_simp; (try (with_reducible rfl)); done)); try simp only [Act.put, List.setIfInBounds_toArray, List.set_cons_zero, List.set_cons_succ]
        refine wpL_calm (o := { dst := some 86, op := Go.Op.index 9 (Go.Operand.tmp 85) (Go.Operand.const (Go.Value.int Go.IntKind.i64 82)), type := 5, pos := "ref.go:58", after := #[{ on := 3, ground := Go.Ground.data }, { on := 2, ground := Go.Ground.guard }], guard := some (2, false) }) (v := ?_) rfl (Or.inl ⟨by rfl, ?_⟩) ?_; rotate_left; (focus (intro w hSw; (try dsimp only at hSw); go_simp; (try (with_reducible rfl)); done)); try simp only [Act.put, List.setIfInBounds_toArray, List.set_cons_zero, List.set_cons_succ]
        refine wpL_calm (o := { dst := some 87, op := Go.Op.binOp Go.BinOp.gtr 5 (Go.Operand.tmp 86) (Go.Operand.const (Go.Value.int Go.IntKind.u8 1)) 5, type := 4, pos := "ref.go:58", after := #[{ on := 4, ground := Go.Ground.data }, { on := 2, ground := Go.Ground.guard }], guard := some (2, false) }) (v := ?_) rfl (Or.inl ⟨by rfl, ?_⟩) ?_; rotate_left; (focus (intro w hSw; (try dsimp only at hSw); go_simp; (try (with_reducible rfl)); done)); try simp only [Act.put, List.setIfInBounds_toArray, List.set_cons_zero, List.set_cons_succ]
        refine wpL_calm (o := { dst := some 88, op := Go.Op.pick (Go.Operand.tmp 84) (Go.Operand.const (Go.Value.bool true)) (Go.Operand.tmp 87), type := 4, pos := "ref.go:58", after := #[{ on := 2, ground := Go.Ground.data }, { on := 5, ground := Go.Ground.data }], guard := none }) (v := ?_) rfl (Or.inl ⟨by rfl, ?_⟩) ?_; rotate_left; (focus (intro w hSw; (try dsimp only at hSw); go_simp; (try (with_reducible rfl)); done)); try simp only [Act.put, List.setIfInBounds_toArray, List.set_cons_zero, List.set_cons_succ]
        refine wpL_calm (o := { dst := some 89, op := Go.Op.move (Go.Operand.tmp 88), type := 4, pos := "ref.go:58", after := #[{ on := 6, ground := Go.Ground.data }, { on := 2, ground := Go.Ground.chain }], guard := none }) (v := ?_) rfl (Or.inl ⟨by rfl, ?_⟩) ?_; rotate_left; (focus (intro w hSw; (try dsimp only at hSw); go_simp; (try (with_reducible rfl)); done)); try simp only [Act.put, List.setIfInBounds_toArray, List.set_cons_zero, List.set_cons_succ]
        refine wpL_calm (o := { dst := some 90, op := Go.Op.move (Go.Operand.tmp 0), type := 9, pos := "ref.go:58", after := #[{ on := 7, ground := Go.Ground.guard }], guard := some (7, false) }) (v := ?_) rfl (Or.inl ⟨by rfl, ?_⟩) ?_; rotate_left; (focus (intro w hSw; (try dsimp only at hSw); go_simp; (try (with_reducible rfl)); done)); try simp only [Act.put, List.setIfInBounds_toArray, List.set_cons_zero, List.set_cons_succ]
        refine wpL_calm (o := { dst := some 91, op := Go.Op.index 9 (Go.Operand.tmp 90) (Go.Operand.const (Go.Value.int Go.IntKind.i64 83)), type := 5, pos := "ref.go:58", after := #[{ on := 8, ground := Go.Ground.data }, { on := 7, ground := Go.Ground.guard }], guard := some (7, false) }) (v := ?_) rfl (Or.inl ⟨by rfl, ?_⟩) ?_; rotate_left; (focus (intro w hSw; (try dsimp only at hSw); go_simp; (try (with_reducible rfl)); done)); try simp only [Act.put, List.setIfInBounds_toArray, List.set_cons_zero, List.set_cons_succ]
        refine wpL_calm (o := { dst := some 92, op := Go.Op.binOp Go.BinOp.neq 5 (Go.Operand.tmp 91) (Go.Operand.const (Go.Value.int Go.IntKind.u8 103)) 5, type := 4, pos := "ref.go:58", after := #[{ on := 9, ground := Go.Ground.data }, { on := 7, ground := Go.Ground.guard }], guard := some (7, false) }) (v := ?_) rfl (Or.inl ⟨by rfl, ?_⟩) ?_; rotate_left; (focus (intro w hSw; (try dsimp only at hSw); go_simp; (try (with_reducible rfl)); done)); try simp only [Act.put, List.setIfInBounds_toArray, List.set_cons_zero, List.set_cons_succ]
        refine wpL_calm (o := { dst := some 93, op := Go.Op.pick (Go.Operand.tmp 89) (Go.Operand.const (Go.Value.bool true)) (Go.Operand.tmp 92), type := 4, pos := "ref.go:58", after := #[{ on := 7, ground := Go.Ground.data }, { on := 10, ground := Go.Ground.data }], guard := none }) (v := ?_) rfl (Or.inl ⟨by rfl, ?_⟩) ?_; rotate_left; (focus (intro w hSw; (try dsimp only at hSw); go_simp; (try (with_reducible rfl)); done)); try simp only [Act.put, List.setIfInBounds_toArray, List.set_cons_zero, List.set_cons_succ]
        refine wpL_calm (o := { dst := some 94, op := Go.Op.move (Go.Operand.tmp 93), type := 4, pos := "ref.go:58", after := #[{ on := 11, ground := Go.Ground.data }, { on := 7, ground := Go.Ground.chain }], guard := none }) (v := ?_) rfl (Or.inl ⟨by rfl, ?_⟩) ?_; rotate_left; (focus (intro w hSw; (try dsimp only at hSw); go_simp; (try (with_reducible rfl)); done)); try simp only [Act.put, List.setIfInBounds_toArray, List.set_cons_zero, List.set_cons_succ]
        refine wpL_calm (o := { dst := some 95, op := Go.Op.move (Go.Operand.tmp 0), type := 9, pos := "ref.go:58", after := #[{ on := 12, ground := Go.Ground.guard }], guard := some (12, false) }) (v := ?_) rfl (Or.inl ⟨by rfl, ?_⟩) ?_; rotate_left; (focus (intro w hSw; (try dsimp only at hSw); go_simp; (try (with_reducible rfl)); done)); try simp only [Act.put, List.setIfInBounds_toArray, List.set_cons_zero, List.set_cons_succ]
        refine wpL_calm (o := { dst := some 96, op := Go.Op.slice 9 (Go.Operand.tmp 95) (some (Go.Operand.const (Go.Value.int Go.IntKind.i64 84))) none none, type := 9, pos := "ref.go:58", after := #[{ on := 13, ground := Go.Ground.data }, { on := 12, ground := Go.Ground.guard }], guard := some (12, false) }) (v := ?_) rfl (Or.inl ⟨by rfl, ?_⟩) ?_; rotate_left; (focus (intro w hSw; (try dsimp only at hSw); go_simp; (try (with_reducible rfl)); done)); try simp only [Act.put, List.setIfInBounds_toArray, List.set_cons_zero, List.set_cons_succ]
        refine wpL_loud1 (o := { dst := some 97, op := Go.Op.call { callee := Go.Callee.value (Go.Operand.func 15), args := #[Go.Operand.const (Go.Value.int Go.IntKind.i64 12)], argTypes := #[3] }, type := 9, pos := "ref.go:58", after := #[{ on := 12, ground := Go.Ground.chain }, { on := 12, ground := Go.Ground.guard }], guard := some (12, false) }) rfl (fun K hK => ?_)
        (go_simp; refine (HZ12.out _).mono ?_; rintro e w' ⟨rfl, hb⟩)
        try go_wp2_with fail
        refine hK.out _ _ ?_ (fun hHeld => ?_)
        · (try dsimp only); exact hHeld.below hb
        clear hK K
        try simp only [Act.put, List.setIfInBounds_toArray, List.set_cons_zero, List.set_cons_succ]
        refine wpL_calm (o := { dst := some 98, op := Go.Op.binOp Go.BinOp.neq 9 (Go.Operand.tmp 96) (Go.Operand.tmp 97) 9, type := 4, pos := "ref.go:58", after := #[{ on := 14, ground := Go.Ground.data }, { on := 15, ground := Go.Ground.data }, { on := 12, ground := Go.Ground.guard }], guard := some (12, false) }) (v := ?_) rfl (Or.inl ⟨by rfl, ?_⟩) ?_; rotate_left; (focus (intro w hSw; (try dsimp only at hSw); go_simp; (try (with_reducible rfl)); done)); try simp only [Act.put, List.setIfInBounds_toArray, List.set_cons_zero, List.set_cons_succ]
        refine wpL_calm (o := { dst := some 99, op := Go.Op.pick (Go.Operand.tmp 94) (Go.Operand.const (Go.Value.bool true)) (Go.Operand.tmp 98), type := 4, pos := "ref.go:58", after := #[{ on := 12, ground := Go.Ground.data }, { on := 16, ground := Go.Ground.data }], guard := none }) (v := ?_) rfl (Or.inl ⟨by rfl, ?_⟩) ?_; rotate_left; (focus (intro w hSw; (try dsimp only at hSw); go_simp; (try (with_reducible rfl)); done)); try simp only [Act.put, List.setIfInBounds_toArray, List.set_cons_zero, List.set_cons_succ]
        refine wpL_calm (o := { dst := some 100, op := Go.Op.move (Go.Operand.tmp 99), type := 4, pos := "ref.go:58", after := #[{ on := 17, ground := Go.Ground.data }, { on := 15, ground := Go.Ground.chain }], guard := none }) (v := ?_) rfl (Or.inl ⟨by rfl, ?_⟩) ?_; rotate_left; (focus (intro w hSw; (try dsimp only at hSw); go_simp; (try (with_reducible rfl)); done)); try simp only [Act.put, List.setIfInBounds_toArray, List.set_cons_zero, List.set_cons_succ]
        refine wpL_calm (o := { dst := some 101, op := Go.Op.load 27 (Go.Operand.tmp 4), type := 27, pos := "ref.go:58", after := #[{ on := 18, ground := Go.Ground.guard }], guard := some (18, false) }) rfl (yieldsIf_load_mid (by rfl) _ _ rfl gx 0 rfl (rcells X).toList _ (fun _ h => h.x.range) Try.underlying27 rfl (by rw [Array.length_toList, rcells_size]; kernel_rfl)) ?_
        try simp only [Act.put, List.setIfInBounds_toArray, List.set_cons_zero, List.set_cons_succ]
        refine wpL_loud1 (o := { dst := some 102, op := Go.Op.call { callee := Go.Callee.value (Go.Operand.func 8), args := #[Go.Operand.tmp 101], argTypes := #[27] }, type := 4, pos := "ref.go:58", after := #[{ on := 19, ground := Go.Ground.data }, { on := 18, ground := Go.Ground.chain }, { on := 18, ground := Go.Ground.guard }], guard := some (18, false) }) rfl (fun K hK => ?_)
        (go_simp; refine (HRR _).mono ?_; rintro e w' ⟨rfl, hb2⟩)
        try go_wp2_with fail
        refine hK.out _ _ ?_ (fun hHeld => ?_)
        · (try dsimp only); exact hHeld.below hb2
        clear hK K
        try simp only [Act.put, List.setIfInBounds_toArray, List.set_cons_zero, List.set_cons_succ]
        refine wpL_calm (o := { dst := some 103, op := Go.Op.unOp Go.UnOp.not 4 (Go.Operand.tmp 102), type := 4, pos := "ref.go:58", after := #[{ on := 20, ground := Go.Ground.data }, { on := 18, ground := Go.Ground.guard }], guard := some (18, false) }) (v := ?_) rfl (Or.inl ⟨by rfl, ?_⟩) ?_; rotate_left; (focus (intro w hSw; (try dsimp only at hSw); go_simp; (try (with_reducible rfl)); done)); try simp only [Act.put, List.setIfInBounds_toArray, List.set_cons_zero, List.set_cons_succ]
        refine wpL_calm (o := { dst := some 104, op := Go.Op.pick (Go.Operand.tmp 100) (Go.Operand.const (Go.Value.bool true)) (Go.Operand.tmp 103), type := 4, pos := "ref.go:58", after := #[{ on := 18, ground := Go.Ground.data }, { on := 21, ground := Go.Ground.data }], guard := none }) (v := ?_) rfl (Or.inl ⟨by rfl, ?_⟩) ?_; rotate_left; (focus (intro w hSw; (try dsimp only at hSw); go_simp; (try (with_reducible rfl)); done)); try simp only [Act.put, List.setIfInBounds_toArray, List.set_cons_zero, List.set_cons_succ]
        refine wpL_nil ?_
        refine NoPanic.normal ?_
        have T6 := hHeld
        have hG := T6.r
        unfold RegAt at hG
        go_wp2_with (first | (refine wpList_load_row rfl _ _ rfl gx rfl 27 (rcells X) (0, 0) _ T6.x Try.underlying27 rfl (by rw [rcells_size]; kernel_rfl) ?_) | (refine wpList_store_row rfl _ _ _ rfl w.heap.size (rcells X) rfl rfl 27 _ hG (by rw [rcells_size]; kernel_rfl) (by rw [rcells_size, rcells_size]) (rcells_one _) ?_))
        refine bodyPost_ret_by (results_ct rfl _ _ w.heap.size 27 (rcells X) (0, 0) _ rfl (setRow_heap _ _ _ (rcells X) 27 (0, 0) hG) Try.underlying27 rfl (by rw [rcells_size]; kernel_rfl)) rfl ⟨by rw [HX.out]; rfl, ?_⟩
        exact below_setRow T6.b (Nat.le_refl _) _
end Go.Proofs.Ytghnhflomeifmaa
