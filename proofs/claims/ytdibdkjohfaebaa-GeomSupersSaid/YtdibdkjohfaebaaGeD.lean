/- Contracts of package geom (cellaret): the first block, laid and read. -/
import Derived.Test.YtdibdkjohfaebaaGeC
import Derived.Test.YtdibdkjohfaebaaBeF
import Derived.Test.YtdibdkjohfaebaaRefA
import Derived.Outline
namespace Go.Proofs.Ytdibdkjohfaebaa
open Go.RowKit Go.Deep
set_option linter.unusedVariables false

theorem below_grown {B : Nat} {w w1 w2 : World} {g : Nat} (h : Below B w w1) (k : w1.grownBy w2 (some g)) (hs : B ≤ w1.heap.size) (hg : B ≤ g) : Below B w w2 := h.grown k hs (fun j e => by simp at e; omega)
/-- Three numbers in block g, that may be written. -/
structure Tri3 (w : World) (g : Nat) (a b c : Int) : Prop where
  c0 : w.cell? ⟨g, 0, none⟩ = some (.int .i64 a)
  c1 : w.cell? ⟨g, 1, none⟩ = some (.int .i64 b)
  c2 : w.cell? ⟨g, 2, none⟩ = some (.int .i64 c)
  f0 : w.frozen? ⟨g, 0, none⟩ = false
  f1 : w.frozen? ⟨g, 1, none⟩ = false
  f2 : w.frozen? ⟨g, 2, none⟩ = false
  lt : g < w.heap.size
theorem Tri3.same {w w' : World} {g : Nat} {a b c : Int} (h : Tri3 w g a b c) (hb : w'.heap[g]? = w.heap[g]?) (hs : w.heap.size ≤ w'.heap.size) : Tri3 w' g a b c :=
  ⟨(World.cell?_of_block (a := ⟨g, 0, none⟩) hb).trans h.c0, (World.cell?_of_block (a := ⟨g, 1, none⟩) hb).trans h.c1, (World.cell?_of_block (a := ⟨g, 2, none⟩) hb).trans h.c2,
   (World.frozen?_of_block (a := ⟨g, 0, none⟩) hb).trans h.f0, (World.frozen?_of_block (a := ⟨g, 1, none⟩) hb).trans h.f1, (World.frozen?_of_block (a := ⟨g, 2, none⟩) hb).trans h.f2, Nat.lt_of_lt_of_le h.lt hs⟩
theorem Tri3.below {w w' : World} {g : Nat} {a b c : Int} (h : Tri3 w g a b c) (hb : Below w.heap.size w w') : Tri3 w' g a b c := h.same (hb.block g h.lt) hb.size
theorem Tri3.grown {w w' : World} {g r : Nat} {a b c : Int} (h : Tri3 w g a b c) (hb : w.grownBy w' (some r)) (hne : g ≠ r) : Tri3 w' g a b c := h.same (hb.block g h.lt (by simpa using hne)) hb.size
theorem Tri3.new (w : World) (T : TypeId) (a b c : Int) : Tri3 (w.alloc (.cells #[.int .i64 a, .int .i64 b, .int .i64 c] T)) w.heap.size a b c :=
  ⟨by simp, by simp, by simp, by simp, by simp, by simp, by simp⟩
theorem make16 (w : World) : (Instr.makeSlice 47 (.int .i64 16) (.int .i64 16)).run Try.prog w = .ok (.slice (some ⟨w.heap.size, 0, none⟩) 16 16) (w.alloc (.cells (madeCells #[.int .u8 0] 16) 5)) :=
  run_make_row' (P := Try.prog) 47 5 (.int .u8 0) 1 Try.underlying47 Try.info_u8 rfl .i64 .i64 16 (by omega) (by omega) (w := w)
theorem conv16 (w : World) : (convert 47 9 (.slice (some ⟨w.heap.size, 0, none⟩) 16 16)).run Try.prog (w.alloc (.cells (madeCells #[.int .u8 0] 16) 5)) = .ok (.string ⟨#[0, 0, 0, 0, 0, 0, 0, 0, 0, 0, 0, 0, 0, 0, 0, 0]⟩) (w.alloc (.cells (madeCells #[.int .u8 0] 16) 5)) :=
  conv_row (P := Try.prog) (cap := 16) (W := 16) (dst := 9) (f := fun _ => 0) Try.underlying47 Try.underlying5 Try.underlying9 (World.rowIs_made w (.int .u8 0) 16 5) (Nat.le_refl _)
theorem conv16s (w : World) (o : Obj) : (convert 47 9 (.slice (some ⟨w.heap.size + 1, 0, none⟩) 16 16)).run Try.prog ((w.alloc o).alloc (.cells (madeCells #[.int .u8 0] 16) 5)) = .ok (.string ⟨#[0, 0, 0, 0, 0, 0, 0, 0, 0, 0, 0, 0, 0, 0, 0, 0]⟩) ((w.alloc o).alloc (.cells (madeCells #[.int .u8 0] 16) 5)) := by
  have := conv16 (w.alloc o)
  rwa [show (w.alloc o).heap.size = w.heap.size + 1 by simp] at this
def clrt : List UInt8 := [99, 108, 114, 116]
theorem read_short (s : ByteArray) (w : World) (hs : s.size ≠ 64) (hm : s.size ≤ 140737488351232) :
    Calls Try.prog 8 #[.string s] w fun e w' => e = .returned (.tuple #[.agg #[.int .i64 0, .int .i64 0, .int .i64 0], .string ⟨#[]⟩, .int .i64 6]) ∧ Below w.heap.size w w' := by
  have hne : ((s.size : Int) == 64) = false := by simp; omega
  have hne2 : ((s.size : Int) != 64) = true := by simp; omega
  have H := Lib.hid hs
  clear hs
  go_enter Try.func8, Try.ntmps8
  go_wp2
  refine bodyPost_ret (v := .tuple #[.agg #[.int .i64 0, .int .i64 0, .int .i64 0], .string ⟨#[]⟩, .int .i64 6]) (by simp [results, Try.results8, go_sem]) rfl ⟨rfl, ?_⟩
  exact (Below.refl _ _).alloc (Nat.le_refl _) _
/-- What a first block's fields are. -/
structure Fields (s hd tz tc : ByteArray) (B S M E : Int) : Prop where
  size : s.size = 64
  hd : s.extract 0 4 = hd
  tz : s.extract 16 32 = tz
  tc : s.extract 32 64 = tc
  b : getV (s.extract 4 6).data.toList = B
  sl : getV (s.extract 6 8).data.toList = S
  m : getV (s.extract 8 16).data.toList = M
  e : getE (s.extract 8 16).data.toList = E
theorem ext_len (s : ByteArray) (a b : Nat) (h : a ≤ b) (hb : b ≤ s.size) : (s.extract a b).data.toList.length = b - a := by
  rw [← Lib.size_eq, ByteArray.size_extract]; omega
theorem getE_two (l : List UInt8) (h : l.length = 2) : getE l = 0 := by unfold getE; rw [if_neg (by omega), if_neg (by omega), if_neg (by omega)]
set_option maxRecDepth 100000 in
set_option maxHeartbeats 2000000 in
theorem read_noE (s hd tz tc : ByteArray) (B S M E : Int) (w : World) (h : Fields s hd tz tc B S M E) (hE : E ≠ 0) :
    Calls Try.prog 8 #[.string s] w fun e w' => e = .returned (.tuple #[.agg #[.int .i64 0, .int .i64 0, .int .i64 0], .string ⟨#[]⟩, .int .i64 6]) ∧ Below w.heap.size w w' := by
  have hsz := h.size
  have hm : s.size ≤ 1000000000000000 := by omega
  have hb : ∀ w b, Rd w b s 0 → Calls Try.prog 25 #[.pointer (some ⟨b, 0, none⟩), .int .i64 4] w fun e w' => e = .returned (.tuple #[.string hd, .int .i64 0]) ∧ Rd w' b s 4 ∧ w.grownBy w' (some b) := fun w b hr => by
    have := bytes_ok 4 b w s 0 hr hm (by omega) (by omega)
    rw [show s.extract (0 : Int).toNat ((0 : Int) + 4).toNat = hd from h.hd] at this
    exact this
  have hn1 : ∀ w b, Rd w b s 4 → Calls Try.prog 24 #[.pointer (some ⟨b, 0, none⟩), .int .i64 2] w fun e w' => e = .returned (.tuple #[.int .i64 B, .int .i64 0]) ∧ Rd w' b s 6 ∧ w.grownBy w' (some b) := fun w b hr => by
    have := num_ok 2 b w s 4 hr hm (by omega) (by omega) (by omega)
    rw [show s.extract (4 : Int).toNat ((4 : Int) + 2).toNat = s.extract 4 6 from rfl, h.b, getE_two _ (ext_len s 4 6 (by omega) (by omega))] at this
    exact this
  have hn2 : ∀ w b, Rd w b s 6 → Calls Try.prog 24 #[.pointer (some ⟨b, 0, none⟩), .int .i64 2] w fun e w' => e = .returned (.tuple #[.int .i64 S, .int .i64 0]) ∧ Rd w' b s 8 ∧ w.grownBy w' (some b) := fun w b hr => by
    have := num_ok 2 b w s 6 hr hm (by omega) (by omega) (by omega)
    rw [show s.extract (6 : Int).toNat ((6 : Int) + 2).toNat = s.extract 6 8 from rfl, h.sl, getE_two _ (ext_len s 6 8 (by omega) (by omega))] at this
    exact this
  have hn3 : ∀ w b, Rd w b s 8 → Calls Try.prog 24 #[.pointer (some ⟨b, 0, none⟩), .int .i64 8] w fun e w' => e = .returned (.tuple #[.int .i64 M, .int .i64 E]) ∧ Rd w' b s (numAt 8 8 E) ∧ w.grownBy w' (some b) := fun w b hr => by
    have := num_ok 8 b w s 8 hr hm (by omega) (by omega) (by omega)
    rw [show s.extract (8 : Int).toNat ((8 : Int) + 8).toNat = s.extract 8 16 from rfl, h.m, h.e] at this
    exact this
  have HB := Lib.hid hb
  have H1 := Lib.hid hn1
  have H2 := Lib.hid hn2
  have H3 := Lib.hid hn3
  have hne : ((s.size : Int) == 64) = true := by simp; omega
  have hne2 : ((s.size : Int) != 64) = false := by simp; omega
  have hE' : (E != 0) = true := by simpa using hE
  have HE := Lib.hid hE
  have H := Lib.hid h
  clear hb hn1 hn2 hn3 h hE hsz
  go_enter Try.func8, Try.ntmps8
  go_wp2_with fail
  refine (read_any s _).mono ?_
  rintro e w1 ⟨rfl, rfl⟩
  have R0 := Rd.new (w.alloc (.cells #[.int .i64 0, .int .i64 0, .int .i64 0] 23)) s 62
  have T0 := (Tri3.new w 23 0 0 0).below ((Below.refl _ _).alloc (Nat.le_refl _) (.cells #[.string s, .int .i64 0] 62))
  have B0 : Below w.heap.size w ((w.alloc (.cells #[.int .i64 0, .int .i64 0, .int .i64 0] 23)).alloc (.cells #[.string s, .int .i64 0] 62)) := ((Below.refl _ _).alloc (Nat.le_refl _) _).alloc (by simp) _
  have hg : w.heap.size < (w.alloc (.cells #[.int .i64 0, .int .i64 0, .int .i64 0] 23)).heap.size := by simp
  generalize (w.alloc (.cells #[.int .i64 0, .int .i64 0, .int .i64 0] 23)).alloc (.cells #[.string s, .int .i64 0] 62) = w1 at R0 T0 B0 ⊢
  generalize (w.alloc (.cells #[.int .i64 0, .int .i64 0, .int .i64 0] 23)).heap.size = g at R0 hg ⊢
  go_wp2_with fail
  refine (HB.out _ _ R0).mono ?_
  rintro e w2 ⟨rfl, R2, k2⟩
  have T2 := T0.grown k2 (by omega)
  have B2 := below_grown B0 k2 B0.size (by omega)
  go_wp2_with fail
  refine (H1.out _ _ R2).mono ?_
  rintro e w3 ⟨rfl, R3, k3⟩
  have T3 := T2.grown k3 (by omega)
  have B3 := below_grown B2 k3 B2.size (by omega)
  go_wp2_with fail
  refine (H2.out _ _ R3).mono ?_
  rintro e w4 ⟨rfl, R4, k4⟩
  have T4 := T3.grown k4 (by omega)
  have B4 := below_grown B3 k4 B3.size (by omega)
  go_wp2_with fail
  refine (H3.out _ _ R4).mono ?_
  rintro e w5 ⟨rfl, R5, k5⟩
  have T5 := T4.grown k5 (by omega)
  have B5 := below_grown B4 k5 B4.size (by omega)
  have c0 := T5.c0
  have c1 := T5.c1
  have c2 := T5.c2
  have f0 := T5.f0
  have f1 := T5.f1
  have f2 := T5.f2
  clear T0 T2 T3 T4 k2 k3 k4 k5
  go_wp2
  refine bodyPost_ret (v := .tuple #[.agg #[.int .i64 0, .int .i64 0, .int .i64 0], .string ⟨#[]⟩, .int .i64 6]) (by simp [results, Try.results8, go_sem, c0, c1, c2]) rfl ⟨rfl, ?_⟩
  exact ((B5.setCell (p := ⟨w.heap.size, 0, none⟩) (Nat.le_refl _) _).setCell (p := ⟨w.heap.size, 1, none⟩) (Nat.le_refl _) _).setCell (p := ⟨w.heap.size, 2, none⟩) (Nat.le_refl _) _
set_option maxRecDepth 100000 in
set_option maxHeartbeats 4000000 in
theorem read_E0 (s hd tz tc : ByteArray) (B S M : Int) (w : World) (h : Fields s hd tz tc B S M 0) (c1 c2 : Bool) (h1 : (hd.toList == [99, 108, 114, 116]) = c1) (h2 : (tz.toList == [0, 0, 0, 0, 0, 0, 0, 0, 0, 0, 0, 0, 0, 0, 0, 0]) = c2) :
    ((c1 = true ∧ c2 = true ∧ GeomOk B S M) → Calls Try.prog 8 #[.string s] w fun e w' => e = .returned (.tuple #[.agg #[.int .i64 B, .int .i64 S, .int .i64 M], .string tc, .int .i64 0]) ∧ Below w.heap.size w w') ∧
    (¬ (c1 = true ∧ c2 = true ∧ GeomOk B S M) → Calls Try.prog 8 #[.string s] w fun e w' => e = .returned (.tuple #[.agg #[.int .i64 0, .int .i64 0, .int .i64 0], .string ⟨#[]⟩, .int .i64 6]) ∧ Below w.heap.size w w') := by
  have hsz := h.size
  have hm : s.size ≤ 1000000000000000 := by omega
  have hb : ∀ w b, Rd w b s 0 → Calls Try.prog 25 #[.pointer (some ⟨b, 0, none⟩), .int .i64 4] w fun e w' => e = .returned (.tuple #[.string hd, .int .i64 0]) ∧ Rd w' b s 4 ∧ w.grownBy w' (some b) := fun w b hr => by
    have := bytes_ok 4 b w s 0 hr hm (by omega) (by omega)
    rw [show s.extract (0 : Int).toNat ((0 : Int) + 4).toNat = hd from h.hd] at this
    exact this
  have hn1 : ∀ w b, Rd w b s 4 → Calls Try.prog 24 #[.pointer (some ⟨b, 0, none⟩), .int .i64 2] w fun e w' => e = .returned (.tuple #[.int .i64 B, .int .i64 0]) ∧ Rd w' b s 6 ∧ w.grownBy w' (some b) := fun w b hr => by
    have := num_ok 2 b w s 4 hr hm (by omega) (by omega) (by omega)
    rw [show s.extract (4 : Int).toNat ((4 : Int) + 2).toNat = s.extract 4 6 from rfl, h.b, getE_two _ (ext_len s 4 6 (by omega) (by omega))] at this
    exact this
  have hn2 : ∀ w b, Rd w b s 6 → Calls Try.prog 24 #[.pointer (some ⟨b, 0, none⟩), .int .i64 2] w fun e w' => e = .returned (.tuple #[.int .i64 S, .int .i64 0]) ∧ Rd w' b s 8 ∧ w.grownBy w' (some b) := fun w b hr => by
    have := num_ok 2 b w s 6 hr hm (by omega) (by omega) (by omega)
    rw [show s.extract (6 : Int).toNat ((6 : Int) + 2).toNat = s.extract 6 8 from rfl, h.sl, getE_two _ (ext_len s 6 8 (by omega) (by omega))] at this
    exact this
  have hn3 : ∀ w b, Rd w b s 8 → Calls Try.prog 24 #[.pointer (some ⟨b, 0, none⟩), .int .i64 8] w fun e w' => e = .returned (.tuple #[.int .i64 M, .int .i64 0]) ∧ Rd w' b s (16) ∧ w.grownBy w' (some b) := fun w b hr => by
    have := num_ok 8 b w s 8 hr hm (by omega) (by omega) (by omega)
    rw [show s.extract (8 : Int).toNat ((8 : Int) + 8).toNat = s.extract 8 16 from rfl, h.m, h.e] at this
    exact this
  have hb2 : ∀ w b, Rd w b s 16 → Calls Try.prog 25 #[.pointer (some ⟨b, 0, none⟩), .int .i64 16] w fun e w' => e = .returned (.tuple #[.string tz, .int .i64 0]) ∧ Rd w' b s 32 ∧ w.grownBy w' (some b) := fun w b hr => by
    have := bytes_ok 16 b w s 16 hr hm (by omega) (by omega)
    rw [show s.extract (16 : Int).toNat ((16 : Int) + 16).toNat = tz from h.tz] at this
    exact this
  have hb3 : ∀ w b, Rd w b s 32 → Calls Try.prog 25 #[.pointer (some ⟨b, 0, none⟩), .int .i64 32] w fun e w' => e = .returned (.tuple #[.string tc, .int .i64 0]) ∧ Rd w' b s 64 ∧ w.grownBy w' (some b) := fun w b hr => by
    have := bytes_ok 32 b w s 32 hr hm (by omega) (by omega)
    rw [show s.extract (32 : Int).toNat ((32 : Int) + 32).toNat = tc from h.tc] at this
    exact this
  have HB := Lib.hid hb
  have H1 := Lib.hid hn1
  have H2 := Lib.hid hn2
  have H3 := Lib.hid hn3
  have HB2 := Lib.hid hb2
  have HB3 := Lib.hid hb3
  have hne : ((s.size : Int) == 64) = true := by simp; omega
  have hne2 : ((s.size : Int) != 64) = false := by simp; omega
  clear hb hn1 hn2 hn3 hb2 hb3 h hsz
  constructor
  · rintro ⟨rfl, rfl, hok⟩
    have HC := Lib.hid (fun w => check_ok B S M w hok)
    clear hok
    have hmk := make16
    have hcv := conv16s
    go_enter Try.func8, Try.ntmps8
    go_wp2_with fail
    refine (read_any s _).mono ?_
    rintro e w1 ⟨rfl, rfl⟩
    have R0 := Rd.new (w.alloc (.cells #[.int .i64 0, .int .i64 0, .int .i64 0] 23)) s 62
    have T0 := (Tri3.new w 23 0 0 0).below ((Below.refl _ _).alloc (Nat.le_refl _) (.cells #[.string s, .int .i64 0] 62))
    have B0 : Below w.heap.size w ((w.alloc (.cells #[.int .i64 0, .int .i64 0, .int .i64 0] 23)).alloc (.cells #[.string s, .int .i64 0] 62)) := ((Below.refl _ _).alloc (Nat.le_refl _) _).alloc (by simp) _
    have hg : w.heap.size < (w.alloc (.cells #[.int .i64 0, .int .i64 0, .int .i64 0] 23)).heap.size := by simp
    generalize (w.alloc (.cells #[.int .i64 0, .int .i64 0, .int .i64 0] 23)).alloc (.cells #[.string s, .int .i64 0] 62) = w1 at R0 T0 B0 ⊢
    generalize (w.alloc (.cells #[.int .i64 0, .int .i64 0, .int .i64 0] 23)).heap.size = g at R0 hg ⊢
    go_wp2_with fail
    refine (HB.out _ _ R0).mono ?_
    rintro e w2 ⟨rfl, R2, k2⟩
    have T2 := T0.grown k2 (by omega)
    have B2 := below_grown B0 k2 B0.size (by omega)
    go_wp2_with fail
    refine (H1.out _ _ R2).mono ?_
    rintro e w3 ⟨rfl, R3, k3⟩
    have T3 := T2.grown k3 (by omega)
    have B3 := below_grown B2 k3 B2.size (by omega)
    go_wp2_with fail
    refine (H2.out _ _ R3).mono ?_
    rintro e w4 ⟨rfl, R4, k4⟩
    have T4 := T3.grown k4 (by omega)
    have B4 := below_grown B3 k4 B3.size (by omega)
    go_wp2_with fail
    refine (H3.out _ _ R4).mono ?_
    rintro e w5 ⟨rfl, R5, k5⟩
    have T5 := T4.grown k5 (by omega)
    have B5 := below_grown B4 k5 B4.size (by omega)
    clear T0 T2 T3 T4 k2 k3 k4 k5
    go_wp2_with fail
    refine (HB2.out _ _ R5).mono ?_
    rintro e w6 ⟨rfl, R6, k6⟩
    have T6 := T5.grown k6 (by omega)
    have B6 := below_grown B5 k6 B5.size (by omega)
    go_wp2_with fail
    refine (HB3.out _ _ R6).mono ?_
    rintro e w7 ⟨rfl, R7, k7⟩
    have T7 := T6.grown k7 (by omega)
    have B7 := below_grown B6 k7 B6.size (by omega)
    clear T5 T6 k6 k7 R0 R2 R3 R4 R5 R6 R7 B0 B2 B3 B4 B5 B6
    go_wp2_with fail
    refine (HC.out _).mono ?_
    rintro e w8 ⟨rfl, b8⟩
    have A1 : Below w7.heap.size w7 (w7.alloc (.cells #[.int .i64 B, .int .i64 S, .int .i64 M] 23)) := (Below.refl _ _).alloc (Nat.le_refl _) _
    have A2 := A1.alloc A1.size (.cells (madeCells #[.int .u8 0] 16) 5)
    have T8 := (T7.below A2).below b8
    have N8 := ((Tri3.new w7 23 B S M).below ((Below.refl _ _).alloc (Nat.le_refl _) (.cells (madeCells #[.int .u8 0] 16) 5))).below b8
    have B8 := (B7.trans (A2.mono B7.size)).trans (b8.mono (B7.trans (A2.mono B7.size)).size)
    have c0 := T8.c0
    have c1 := T8.c1
    have c2 := T8.c2
    have f0 := T8.f0
    have f1 := T8.f1
    have f2 := T8.f2
    have n0 := N8.c0
    have n1 := N8.c1
    have n2 := N8.c2
    clear b8 A1 A2 T7 B7
    go_wp2
    refine bodyPost_ret (v := .tuple #[.agg #[.int .i64 B, .int .i64 S, .int .i64 M], .string tc, .int .i64 0]) (by simp [results, Try.results8, go_sem, c0, c1, c2]) rfl ⟨rfl, ?_⟩
    exact ((B8.setCell (p := ⟨w.heap.size, 0, none⟩) (Nat.le_refl _) _).setCell (p := ⟨w.heap.size, 1, none⟩) (Nat.le_refl _) _).setCell (p := ⟨w.heap.size, 2, none⟩) (Nat.le_refl _) _
  · intro hno
    have hmk := make16
    have hcv := conv16s
    cases c1
    · clear hno
      go_enter Try.func8, Try.ntmps8
      go_wp2_with fail
      refine (read_any s _).mono ?_
      rintro e w1 ⟨rfl, rfl⟩
      have R0 := Rd.new (w.alloc (.cells #[.int .i64 0, .int .i64 0, .int .i64 0] 23)) s 62
      have T0 := (Tri3.new w 23 0 0 0).below ((Below.refl _ _).alloc (Nat.le_refl _) (.cells #[.string s, .int .i64 0] 62))
      have B0 : Below w.heap.size w ((w.alloc (.cells #[.int .i64 0, .int .i64 0, .int .i64 0] 23)).alloc (.cells #[.string s, .int .i64 0] 62)) := ((Below.refl _ _).alloc (Nat.le_refl _) _).alloc (by simp) _
      have hg : w.heap.size < (w.alloc (.cells #[.int .i64 0, .int .i64 0, .int .i64 0] 23)).heap.size := by simp
      generalize (w.alloc (.cells #[.int .i64 0, .int .i64 0, .int .i64 0] 23)).alloc (.cells #[.string s, .int .i64 0] 62) = w1 at R0 T0 B0 ⊢
      generalize (w.alloc (.cells #[.int .i64 0, .int .i64 0, .int .i64 0] 23)).heap.size = g at R0 hg ⊢
      go_wp2_with fail
      refine (HB.out _ _ R0).mono ?_
      rintro e w2 ⟨rfl, R2, k2⟩
      have T2 := T0.grown k2 (by omega)
      have B2 := below_grown B0 k2 B0.size (by omega)
      go_wp2_with fail
      refine (H1.out _ _ R2).mono ?_
      rintro e w3 ⟨rfl, R3, k3⟩
      have T3 := T2.grown k3 (by omega)
      have B3 := below_grown B2 k3 B2.size (by omega)
      go_wp2_with fail
      refine (H2.out _ _ R3).mono ?_
      rintro e w4 ⟨rfl, R4, k4⟩
      have T4 := T3.grown k4 (by omega)
      have B4 := below_grown B3 k4 B3.size (by omega)
      go_wp2_with fail
      refine (H3.out _ _ R4).mono ?_
      rintro e w5 ⟨rfl, R5, k5⟩
      have T5 := T4.grown k5 (by omega)
      have B5 := below_grown B4 k5 B4.size (by omega)
      clear T0 T2 T3 T4 k2 k3 k4 k5
      go_wp2_with fail
      refine (HB2.out _ _ R5).mono ?_
      rintro e w6 ⟨rfl, R6, k6⟩
      have T6 := T5.grown k6 (by omega)
      have B6 := below_grown B5 k6 B5.size (by omega)
      go_wp2_with fail
      refine (HB3.out _ _ R6).mono ?_
      rintro e w7 ⟨rfl, R7, k7⟩
      have T7 := T6.grown k7 (by omega)
      have B7 := below_grown B6 k7 B6.size (by omega)
      clear T5 T6 k6 k7 R0 R2 R3 R4 R5 R6 R7 B0 B2 B3 B4 B5 B6
      have A1 : Below w7.heap.size w7 (w7.alloc (.cells #[.int .i64 B, .int .i64 S, .int .i64 M] 23)) := (Below.refl _ _).alloc (Nat.le_refl _) _
      have T8 := T7.below A1
      have c0 := T8.c0
      have c1 := T8.c1
      have c2 := T8.c2
      have f0 := T8.f0
      have f1 := T8.f1
      have f2 := T8.f2
      clear A1
      go_wp2
      have B8 := B7.alloc B7.size (.cells #[.int .i64 B, .int .i64 S, .int .i64 M] 23)
      refine bodyPost_ret (v := .tuple #[.agg #[.int .i64 0, .int .i64 0, .int .i64 0], .string ⟨#[]⟩, .int .i64 6]) (by simp [results, Try.results8, go_sem, c0, c1, c2]) rfl ⟨rfl, ?_⟩
      exact ((B8.setCell (p := ⟨w.heap.size, 0, none⟩) (Nat.le_refl _) _).setCell (p := ⟨w.heap.size, 1, none⟩) (Nat.le_refl _) _).setCell (p := ⟨w.heap.size, 2, none⟩) (Nat.le_refl _) _
    cases c2
    · clear hno
      go_enter Try.func8, Try.ntmps8
      go_wp2_with fail
      refine (read_any s _).mono ?_
      rintro e w1 ⟨rfl, rfl⟩
      have R0 := Rd.new (w.alloc (.cells #[.int .i64 0, .int .i64 0, .int .i64 0] 23)) s 62
      have T0 := (Tri3.new w 23 0 0 0).below ((Below.refl _ _).alloc (Nat.le_refl _) (.cells #[.string s, .int .i64 0] 62))
      have B0 : Below w.heap.size w ((w.alloc (.cells #[.int .i64 0, .int .i64 0, .int .i64 0] 23)).alloc (.cells #[.string s, .int .i64 0] 62)) := ((Below.refl _ _).alloc (Nat.le_refl _) _).alloc (by simp) _
      have hg : w.heap.size < (w.alloc (.cells #[.int .i64 0, .int .i64 0, .int .i64 0] 23)).heap.size := by simp
      generalize (w.alloc (.cells #[.int .i64 0, .int .i64 0, .int .i64 0] 23)).alloc (.cells #[.string s, .int .i64 0] 62) = w1 at R0 T0 B0 ⊢
      generalize (w.alloc (.cells #[.int .i64 0, .int .i64 0, .int .i64 0] 23)).heap.size = g at R0 hg ⊢
      go_wp2_with fail
      refine (HB.out _ _ R0).mono ?_
      rintro e w2 ⟨rfl, R2, k2⟩
      have T2 := T0.grown k2 (by omega)
      have B2 := below_grown B0 k2 B0.size (by omega)
      go_wp2_with fail
      refine (H1.out _ _ R2).mono ?_
      rintro e w3 ⟨rfl, R3, k3⟩
      have T3 := T2.grown k3 (by omega)
      have B3 := below_grown B2 k3 B2.size (by omega)
      go_wp2_with fail
      refine (H2.out _ _ R3).mono ?_
      rintro e w4 ⟨rfl, R4, k4⟩
      have T4 := T3.grown k4 (by omega)
      have B4 := below_grown B3 k4 B3.size (by omega)
      go_wp2_with fail
      refine (H3.out _ _ R4).mono ?_
      rintro e w5 ⟨rfl, R5, k5⟩
      have T5 := T4.grown k5 (by omega)
      have B5 := below_grown B4 k5 B4.size (by omega)
      clear T0 T2 T3 T4 k2 k3 k4 k5
      go_wp2_with fail
      refine (HB2.out _ _ R5).mono ?_
      rintro e w6 ⟨rfl, R6, k6⟩
      have T6 := T5.grown k6 (by omega)
      have B6 := below_grown B5 k6 B5.size (by omega)
      go_wp2_with fail
      refine (HB3.out _ _ R6).mono ?_
      rintro e w7 ⟨rfl, R7, k7⟩
      have T7 := T6.grown k7 (by omega)
      have B7 := below_grown B6 k7 B6.size (by omega)
      clear T5 T6 k6 k7 R0 R2 R3 R4 R5 R6 R7 B0 B2 B3 B4 B5 B6
      have A1 : Below w7.heap.size w7 (w7.alloc (.cells #[.int .i64 B, .int .i64 S, .int .i64 M] 23)) := (Below.refl _ _).alloc (Nat.le_refl _) _
      have T8 := T7.below (A1.alloc A1.size (.cells (madeCells #[.int .u8 0] 16) 5))
      have c0 := T8.c0
      have c1 := T8.c1
      have c2 := T8.c2
      have f0 := T8.f0
      have f1 := T8.f1
      have f2 := T8.f2
      clear A1
      go_wp2
      have B8 := (B7.alloc B7.size (.cells #[.int .i64 B, .int .i64 S, .int .i64 M] 23)).alloc (B7.alloc B7.size (.cells #[.int .i64 B, .int .i64 S, .int .i64 M] 23)).size (.cells (madeCells #[.int .u8 0] 16) 5)
      refine bodyPost_ret (v := .tuple #[.agg #[.int .i64 0, .int .i64 0, .int .i64 0], .string ⟨#[]⟩, .int .i64 6]) (by simp [results, Try.results8, go_sem, c0, c1, c2]) rfl ⟨rfl, ?_⟩
      exact ((B8.setCell (p := ⟨w.heap.size, 0, none⟩) (Nat.le_refl _) _).setCell (p := ⟨w.heap.size, 1, none⟩) (Nat.le_refl _) _).setCell (p := ⟨w.heap.size, 2, none⟩) (Nat.le_refl _) _
    · have HC := Lib.hid (fun w => check_no B S M w (fun hh => hno ⟨rfl, rfl, hh⟩))
      clear hno
      go_enter Try.func8, Try.ntmps8
      go_wp2_with fail
      refine (read_any s _).mono ?_
      rintro e w1 ⟨rfl, rfl⟩
      have R0 := Rd.new (w.alloc (.cells #[.int .i64 0, .int .i64 0, .int .i64 0] 23)) s 62
      have T0 := (Tri3.new w 23 0 0 0).below ((Below.refl _ _).alloc (Nat.le_refl _) (.cells #[.string s, .int .i64 0] 62))
      have B0 : Below w.heap.size w ((w.alloc (.cells #[.int .i64 0, .int .i64 0, .int .i64 0] 23)).alloc (.cells #[.string s, .int .i64 0] 62)) := ((Below.refl _ _).alloc (Nat.le_refl _) _).alloc (by simp) _
      have hg : w.heap.size < (w.alloc (.cells #[.int .i64 0, .int .i64 0, .int .i64 0] 23)).heap.size := by simp
      generalize (w.alloc (.cells #[.int .i64 0, .int .i64 0, .int .i64 0] 23)).alloc (.cells #[.string s, .int .i64 0] 62) = w1 at R0 T0 B0 ⊢
      generalize (w.alloc (.cells #[.int .i64 0, .int .i64 0, .int .i64 0] 23)).heap.size = g at R0 hg ⊢
      go_wp2_with fail
      refine (HB.out _ _ R0).mono ?_
      rintro e w2 ⟨rfl, R2, k2⟩
      have T2 := T0.grown k2 (by omega)
      have B2 := below_grown B0 k2 B0.size (by omega)
      go_wp2_with fail
      refine (H1.out _ _ R2).mono ?_
      rintro e w3 ⟨rfl, R3, k3⟩
      have T3 := T2.grown k3 (by omega)
      have B3 := below_grown B2 k3 B2.size (by omega)
      go_wp2_with fail
      refine (H2.out _ _ R3).mono ?_
      rintro e w4 ⟨rfl, R4, k4⟩
      have T4 := T3.grown k4 (by omega)
      have B4 := below_grown B3 k4 B3.size (by omega)
      go_wp2_with fail
      refine (H3.out _ _ R4).mono ?_
      rintro e w5 ⟨rfl, R5, k5⟩
      have T5 := T4.grown k5 (by omega)
      have B5 := below_grown B4 k5 B4.size (by omega)
      clear T0 T2 T3 T4 k2 k3 k4 k5
      go_wp2_with fail
      refine (HB2.out _ _ R5).mono ?_
      rintro e w6 ⟨rfl, R6, k6⟩
      have T6 := T5.grown k6 (by omega)
      have B6 := below_grown B5 k6 B5.size (by omega)
      go_wp2_with fail
      refine (HB3.out _ _ R6).mono ?_
      rintro e w7 ⟨rfl, R7, k7⟩
      have T7 := T6.grown k7 (by omega)
      have B7 := below_grown B6 k7 B6.size (by omega)
      clear T5 T6 k6 k7 R0 R2 R3 R4 R5 R6 R7 B0 B2 B3 B4 B5 B6
      go_wp2_with fail
      refine (HC.out _).mono ?_
      rintro e w8 ⟨rfl, b8⟩
      have A1 : Below w7.heap.size w7 (w7.alloc (.cells #[.int .i64 B, .int .i64 S, .int .i64 M] 23)) := (Below.refl _ _).alloc (Nat.le_refl _) _
      have A2 := A1.alloc A1.size (.cells (madeCells #[.int .u8 0] 16) 5)
      have T8 := (T7.below A2).below b8
      have B8 := (B7.trans (A2.mono B7.size)).trans (b8.mono (B7.trans (A2.mono B7.size)).size)
      have c0 := T8.c0
      have c1 := T8.c1
      have c2 := T8.c2
      have f0 := T8.f0
      have f1 := T8.f1
      have f2 := T8.f2
      clear b8 A1 A2 T7 B7
      go_wp2
      refine bodyPost_ret (v := .tuple #[.agg #[.int .i64 0, .int .i64 0, .int .i64 0], .string ⟨#[]⟩, .int .i64 6]) (by simp [results, Try.results8, go_sem, c0, c1, c2]) rfl ⟨rfl, ?_⟩
      exact ((B8.setCell (p := ⟨w.heap.size, 0, none⟩) (Nat.le_refl _) _).setCell (p := ⟨w.heap.size, 1, none⟩) (Nat.le_refl _) _).setCell (p := ⟨w.heap.size, 2, none⟩) (Nat.le_refl _) _
end Go.Proofs.Ytdibdkjohfaebaa
