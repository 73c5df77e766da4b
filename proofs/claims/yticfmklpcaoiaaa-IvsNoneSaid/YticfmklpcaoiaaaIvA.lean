/- Contracts of package ivs (cellaret). -/
import Derived.Test.YticfmklpcaoiaaaProg
import Derived.Test.YticfmklpcaoiaaaLib
import Derived.WalkLawsBesides
import Derived.Handy
import Derived.Lib.Hide
import Derived.RegionTactic
import Derived.Deep.QuietTactic
import Derived.BigQuiet
import Derived.OpenShut
namespace Go.Proofs.Yticfmklpcaoiaaa
open Go.RowKit Go.Deep
set_option linter.unusedVariables false

theorem below_trans {w w1 w2 : World} (h1 : Below w.heap.size w w1) (h2 : Below w1.heap.size w1 w2) : Below w.heap.size w w2 := h1.trans (h2.mono h1.size)
theorem below_drewN {B : Nat} {a w : World} (h : Below B a w) (n : Nat) : Below B a (w.drewN n) := ⟨h.os, h.tape, h.output, h.size, h.block⟩
theorem only_refl (w : World) (row : Option Nat) : w.grownBy w row := World.grownBy.refl w row
theorem only_drew {a w : World} {row : Option Nat} (h : a.grownBy w row) : a.grownBy w.drew row := ⟨h.os, h.tape, h.output, h.size, h.block⟩
theorem only_drewN {a w : World} {row : Option Nat} (h : a.grownBy w row) (n : Nat) : a.grownBy (w.drewN n) row := ⟨h.os, h.tape, h.output, h.size, h.block⟩
theorem only_alloc {a w : World} {row : Option Nat} (h : a.grownBy w row) (o : Obj) : a.grownBy (w.alloc o) row :=
  ⟨h.os, h.tape, h.output, Nat.le_trans h.size (by simp), fun i hi hne => (Below.heap_alloc w o i (Nat.lt_of_lt_of_le hi h.size)).trans (h.block i hi hne)⟩
theorem only_setCell {a w : World} {g : Nat} (h : a.grownBy w (some g)) {p : Addr} (hp : p.block = g ∨ a.heap.size ≤ p.block) (u : Value) : a.grownBy (w.setCell p u) (some g) :=
  ⟨h.os, h.tape, h.output, by simpa [World.setCell] using h.size, fun i hi hne => (Below.heap_setCell w p u i (by
    rintro rfl
    rcases hp with hp | hp
    · exact hne (by rw [hp])
    · omega)).trans (h.block i hi hne)⟩
theorem only_trans {a b c : World} {row : Option Nat} (h : a.grownBy b row) (k : b.grownBy c row) : a.grownBy c row :=
  ⟨k.os.trans h.os, k.tape.trans h.tape, k.output.trans h.output, Nat.le_trans h.size k.size, fun i hi hne => (k.block i (Nat.lt_of_lt_of_le hi h.size) hne).trans (h.block i hi hne)⟩
theorem only_below {a w : World} (h : Below a.heap.size a w) (row : Option Nat) : a.grownBy w row := ⟨h.os, h.tape, h.output, h.size, fun i hi _ => h.block i hi⟩

/-- A row of numbers in block b: the next one, the top, how many. -/
structure Tri (w : World) (b : Nat) (n t m : Int) : Prop where
  c0 : w.cell? ⟨b, 0, none⟩ = some (.int .i64 n)
  c1 : w.cell? ⟨b, 1, none⟩ = some (.int .i64 t)
  c2 : w.cell? ⟨b, 2, none⟩ = some (.int .i64 m)
  f0 : w.frozen? ⟨b, 0, none⟩ = false
  f1 : w.frozen? ⟨b, 1, none⟩ = false
  lt : b < w.heap.size
  lo : 0 ≤ n
  nt : n ≤ t
  tm : t ≤ m
  hi : m ≤ 1099511627776
theorem Tri.same {w w' : World} {b : Nat} {n t m : Int} (h : Tri w b n t m) (hb : w'.heap[b]? = w.heap[b]?) (hs : w.heap.size ≤ w'.heap.size) : Tri w' b n t m :=
  ⟨(World.cell?_of_block (a := ⟨b, 0, none⟩) hb).trans h.c0, (World.cell?_of_block (a := ⟨b, 1, none⟩) hb).trans h.c1, (World.cell?_of_block (a := ⟨b, 2, none⟩) hb).trans h.c2,
   (World.frozen?_of_block (a := ⟨b, 0, none⟩) hb).trans h.f0, (World.frozen?_of_block (a := ⟨b, 1, none⟩) hb).trans h.f1, Nat.lt_of_lt_of_le h.lt hs, h.lo, h.nt, h.tm, h.hi⟩
theorem Tri.below {w w' : World} {b : Nat} {n t m : Int} (h : Tri w b n t m) (hb : Below w.heap.size w w') : Tri w' b n t m := h.same (hb.block b h.lt) hb.size
theorem Tri.only {w w' : World} {b c : Nat} {n t m : Int} (h : Tri w b n t m) (hb : w.grownBy w' (some c)) (hne : b ≠ c) : Tri w' b n t m := h.same (hb.block b h.lt (by simpa using hne)) hb.size
theorem Tri.drew {w : World} {b : Nat} {n t m : Int} (h : Tri w b n t m) : Tri w.drew b n t m := h.same rfl (Nat.le_refl _)
theorem Tri.drewN {w : World} {b : Nat} {n t m : Int} (h : Tri w b n t m) (k : Nat) : Tri (w.drewN k) b n t m := h.same rfl (Nat.le_refl _)
theorem Tri.next {w : World} {b : Nat} {n t m : Int} (h : Tri w b n t m) (hn : n < t) : Tri (w.setCell ⟨b, 0, none⟩ (.int .i64 (n + 1))) b (n + 1) t m := by
  refine ⟨?_, ?_, ?_, ?_, ?_, ?_, by have := h.lo; omega, by omega, h.tm, h.hi⟩
  · have := h.c0; go_simp
  · have := h.c1; go_simp
  · have := h.c2; go_simp
  · have := h.f0; go_simp
  · have := h.f1; go_simp
  · have := h.lt; simpa [World.setCell] using this
theorem Tri.top {w : World} {b : Nat} {n t m : Int} (h : Tri w b n t m) (u : Int) (hn : t < u) (hm : u ≤ m) : Tri (w.setCell ⟨b, 1, none⟩ (.int .i64 u)) b n u m := by
  refine ⟨?_, ?_, ?_, ?_, ?_, ?_, h.lo, by have := h.nt; omega, hm, h.hi⟩
  · have := h.c0; go_simp
  · have := h.c1; go_simp
  · have := h.c2; go_simp
  · have := h.f0; go_simp
  · have := h.f1; go_simp
  · have := h.lt; simpa [World.setCell] using this
theorem Tri.new (w : World) (T : TypeId) (n t m : Int) (h0 : 0 ≤ n) (h1 : n ≤ t) (h2 : t ≤ m) (h3 : m ≤ 1099511627776) : Tri (w.alloc (.cells #[.int .i64 n, .int .i64 t, .int .i64 m] T)) w.heap.size n t m :=
  ⟨by simp, by simp, by simp, by simp, by simp, by simp, h0, h1, h2, h3⟩

set_option maxRecDepth 100000 in
set_option maxHeartbeats 400000 in
theorem ivsNew_ok (n m : Int) (w : World) (h1 : 1 ≤ m) (h2 : m ≤ 1099511627776) (h3 : 0 ≤ n) (h4 : n ≤ m) :
    Calls Try.prog 7 #[.int .i64 n, .int .i64 m] w fun e w' => e = .returned (.tuple #[.pointer (some ⟨w.heap.size, 0, none⟩), .int .i64 0]) ∧ w.alloc (.cells #[.int .i64 n, .int .i64 n, .int .i64 m] 48) = w' := by
  go_enter Try.func7, Try.ntmps7
  go_wp2
  go_ret2
  exact ⟨rfl, rfl⟩
set_option maxRecDepth 100000 in
set_option maxHeartbeats 400000 in
theorem ivsNew_no (n m : Int) (w : World) (h : ¬ (1 ≤ m ∧ m ≤ 1099511627776 ∧ 0 ≤ n ∧ n ≤ m)) :
    Calls Try.prog 7 #[.int .i64 n, .int .i64 m] w fun e w' => e = .returned (.tuple #[.pointer none, .int .i64 2]) ∧ w = w' := by
  have hor : m < 1 ∨ (1 ≤ m ∧ 1099511627776 < m) ∨ (1 ≤ m ∧ m ≤ 1099511627776 ∧ n < 0) ∨ (1 ≤ m ∧ m ≤ 1099511627776 ∧ 0 ≤ n ∧ m < n) := by omega
  clear h
  rcases hor with h | ⟨h1, h⟩ | ⟨h1, h2, h⟩ | ⟨h1, h2, h3, h⟩
  all_goals
    go_enter Try.func7, Try.ntmps7
    go_wp2
    go_ret2
    exact ⟨rfl, rfl⟩

set_option maxRecDepth 100000 in
set_option maxHeartbeats 400000 in
theorem asker_any (b : Nat) (w : World) (n t m : Int) (h : Tri w b n t m) :
    Calls Try.prog 19 #[.pointer (some ⟨b, 0, none⟩)] w fun e w' => ∃ x y, e = .returned (.func (.func 20) #[] #[.pointer (some ⟨x, 0, none⟩), .pointer (some ⟨y, 0, none⟩)]) ∧
      w'.cell? ⟨x, 0, none⟩ = some (.int .i64 m) ∧ w'.cell? ⟨y, 0, none⟩ = some (.int .i64 t) ∧ Below w.heap.size w w' := by
  have ht := h.c1
  have hm := h.c2
  have hb := h.lt
  go_enter Try.func19, Try.ntmps19
  go_wp2
  go_region
  all_goals
    go_wp2
    go_ret
    refine ⟨_, _, rfl, ?_, ?_, ((((Below.refl _ _).alloc (Nat.le_refl _) _)).alloc (by simp) _).drew⟩
    · simp
    · simp

def askE (n t m : Int) : Int := if m ≤ n then 16 else if t ≤ n then 14 else 0
set_option maxRecDepth 100000 in
set_option maxHeartbeats 400000 in
theorem ask_any (x y : Nat) (w : World) (n t m : Int) (hm : w.cell? ⟨x, 0, none⟩ = some (.int .i64 m)) (ht : w.cell? ⟨y, 0, none⟩ = some (.int .i64 t)) :
    Calls Try.prog 20 #[.int .i64 n, .pointer (some ⟨x, 0, none⟩), .pointer (some ⟨y, 0, none⟩)] w fun e w' => e = .returned (.int .i64 (askE n t m)) ∧ w = w' := by
  by_cases h1 : m ≤ n
  · have : askE n t m = 16 := by unfold askE; rw [if_pos h1]
    rw [this]
    clear this
    go_enter Try.func20, Try.ntmps20
    go_wp2
    go_ret
    exact ⟨rfl, rfl⟩
  by_cases h2 : t ≤ n
  · have : askE n t m = 14 := by unfold askE; rw [if_neg h1, if_pos h2]
    rw [this]
    clear this
    go_enter Try.func20, Try.ntmps20
    go_wp2
    go_ret
    exact ⟨rfl, rfl⟩
  · have : askE n t m = 0 := by unfold askE; rw [if_neg h1, if_neg h2]
    rw [this]
    clear this
    go_enter Try.func20, Try.ntmps20
    go_wp2
    go_ret
    exact ⟨rfl, rfl⟩
theorem askE_end {n t m : Int} (h : m ≤ n) : askE n t m = 16 := by unfold askE; rw [if_pos h]
theorem askE_state {n t m : Int} (h : n < m) (h' : t ≤ n) : askE n t m = 14 := by unfold askE; rw [if_neg (by omega), if_pos h']
theorem askE_ok {n t m : Int} (h : n < m) (h' : n < t) : askE n t m = 0 := by unfold askE; rw [if_neg (by omega), if_neg (by omega)]

set_option maxRecDepth 100000 in
set_option maxHeartbeats 400000 in
theorem need_no (b : Nat) (w : World) (n t m : Int) (h : Tri w b n t m) (hn : n < t ∨ t = m) :
    Calls Try.prog 13 #[.pointer (some ⟨b, 0, none⟩)] w fun e w' => e = .returned (.tuple #[.int .i64 0, .bool false]) ∧ Below w.heap.size w w' := by
  have h0 := h.c0
  have hb := h.lt
  have hE : (askE n t m != 14) = true := by
    have := h.nt; have := h.tm
    by_cases e : n < t
    · rw [askE_ok (by omega) e]; rfl
    · rw [askE_end (by omega)]; rfl
  have hask := fun x y w => ask_any x y w n t m
  generalize askE n t m = E at hE hask
  have HA := Lib.hid hask
  clear hask hn
  go_enter Try.func13, Try.ntmps13
  go_wp2_with fail
  refine (asker_any b _ n t m h).mono ?_
  rintro e w1 ⟨x, y, rfl, hx, hy, hb1⟩
  have k0 := (h.below hb1).c0
  go_wp2_with fail
  refine (HA.out _ _ _ hx hy).mono ?_
  rintro e w' ⟨rfl, rfl⟩
  go_wp2
  go_ret2
  exact ⟨rfl, hb1⟩

def needV (t m : Int) : Int := if t + 16 ≤ m then t + 16 else m
set_option maxRecDepth 100000 in
set_option maxHeartbeats 400000 in
theorem need_yes (b : Nat) (w : World) (n t m : Int) (h : Tri w b n t m) (hn : t ≤ n) (hm : t < m) :
    Calls Try.prog 13 #[.pointer (some ⟨b, 0, none⟩)] w fun e w' => e = .returned (.tuple #[.int .i64 (needV t m), .bool true]) ∧ Below w.heap.size w w' := by
  have h0 := h.c0
  have hb := h.lt
  have l0 := h.lo
  have l1 := h.nt
  have l2 := h.hi
  have hE : askE n t m = 14 := askE_state (by omega) hn
  have hask := fun x y w => ask_any x y w n t m
  rw [hE] at hask
  have HA := Lib.hid hask
  clear hask hE
  go_enter Try.func13, Try.ntmps13
  go_wp2_with fail
  refine (asker_any b _ n t m h).mono ?_
  rintro e w1 ⟨x, y, rfl, hx, hy, hb1⟩
  have k0 := (h.below hb1).c0
  have k1 := (h.below hb1).c1
  have k2 := (h.below hb1).c2
  go_wp2_with fail
  refine (HA.out _ _ _ hx hy).mono ?_
  rintro e w' ⟨rfl, rfl⟩
  go_wp2
  go_region
  all_goals (try go_wp2)
  all_goals
    go_ret2
    refine ⟨?_, by first | exact hb1 | exact hb1.drew⟩
    first
      | (rw [show needV t m = t + 16 from if_pos (by omega)]; rfl)
      | (rw [show needV t m = m from if_neg (by omega)]; rfl)

set_option maxRecDepth 100000 in
set_option maxHeartbeats 400000 in
theorem take_no (b : Nat) (w : World) (n t m : Int) (h : Tri w b n t m) (hn : t ≤ n) (E : Int) (HE : Hid (askE n t m = E)) (h0 : (E != 0) = true) :
    Calls Try.prog 15 #[.pointer (some ⟨b, 0, none⟩)] w fun e w' => e = .returned (.tuple #[.int .i64 0, .int .i64 E]) ∧ Below w.heap.size w w' := by
  have hask := fun x y w => ask_any x y w n t m
  rw [HE.out] at hask
  have HA := Lib.hid hask
  clear hask
  go_enter Try.func15, Try.ntmps15
  go_wp2_with fail
  refine (asker_any b _ n t m h).mono ?_
  rintro e w1 ⟨x, y, rfl, hx, hy, hb1⟩
  have k0 := (h.below hb1).c0
  go_wp2_with fail
  refine (HA.out _ _ _ hx hy).mono ?_
  rintro e w' ⟨rfl, rfl⟩
  go_wp2
  go_ret2
  exact ⟨rfl, hb1⟩

set_option maxRecDepth 100000 in
set_option maxHeartbeats 400000 in
theorem take_ok (b : Nat) (w : World) (n t m : Int) (h : Tri w b n t m) (hn : n < t) :
    Calls Try.prog 15 #[.pointer (some ⟨b, 0, none⟩)] w fun e w' => e = .returned (.tuple #[.int .i64 n, .int .i64 0]) ∧ Tri w' b (n + 1) t m ∧ w.grownBy w' (some b) := by
  have l0 := h.lo
  have l1 := h.nt
  have l2 := h.hi
  have l3 := h.tm
  have hask := fun x y w => ask_any x y w n t m
  rw [askE_ok (by omega) hn] at hask
  have HA := Lib.hid hask
  clear hask
  go_enter Try.func15, Try.ntmps15
  go_wp2_with fail
  refine (asker_any b _ n t m h).mono ?_
  rintro e w1 ⟨x, y, rfl, hx, hy, hb1⟩
  have T1 := h.below hb1
  have k0 := T1.c0
  have k1 := T1.f0
  go_wp2_with fail
  refine (HA.out _ _ _ hx hy).mono ?_
  rintro e w' ⟨rfl, rfl⟩
  go_wp2
  go_ret2
  have B1 : w.grownBy w1 (some b) := only_below hb1 (some b)
  exact ⟨rfl, by first | exact T1.next hn | exact (T1.next hn).drew, by first | exact only_setCell B1 (.inl rfl) _ | exact only_drew (only_setCell B1 (.inl rfl) _)⟩

set_option maxRecDepth 100000 in
set_option maxHeartbeats 400000 in
theorem raise_ok (b : Nat) (w : World) (n t m u : Int) (h : Tri w b n t m) (hn : t < u) (hm : u ≤ m) :
    Calls Try.prog 14 #[.pointer (some ⟨b, 0, none⟩), .int .i64 u] w fun e w' => e = .returned (.int .i64 0) ∧ Tri w' b n u m ∧ w.grownBy w' (some b) := by
  have k1 := h.c1
  have k2 := h.c2
  have k3 := h.f1
  have l1 := h.lt
  go_enter Try.func14, Try.ntmps14
  go_wp2
  try (go_region; go_wp2)
  go_ret
  exact ⟨rfl, by first | exact h.top u hn hm | exact (h.top u hn hm).drew, by first | exact only_setCell (only_refl _ _) (.inl rfl) _ | exact only_drew (only_setCell (only_refl _ _) (.inl rfl) _)⟩
set_option maxRecDepth 100000 in
set_option maxHeartbeats 400000 in
theorem raise_no (b : Nat) (w : World) (n t m u : Int) (h : Tri w b n t m) (hn : ¬ (t < u ∧ u ≤ m)) :
    Calls Try.prog 14 #[.pointer (some ⟨b, 0, none⟩), .int .i64 u] w fun e w' => e = .returned (.int .i64 2) ∧ Below w.heap.size w w' := by
  have k1 := h.c1
  have k2 := h.c2
  have hor : u ≤ t ∨ (t < u ∧ m < u) := by omega
  clear hn
  rcases hor with hh | ⟨hh, hh2⟩
  all_goals
    go_enter Try.func14, Try.ntmps14
    go_wp2
    try (go_region; go_wp2)
    go_ret
    exact ⟨rfl, by first | exact Below.refl _ _ | exact (Below.refl _ _).drew⟩

set_option maxRecDepth 100000 in
set_option maxHeartbeats 400000 in
theorem ivsLeft_any (b : Nat) (w : World) (n t m : Int) (h : Tri w b n t m) :
    Calls Try.prog 11 #[.pointer (some ⟨b, 0, none⟩)] w fun e w' => e = .returned (.int .i64 (m - n)) ∧ w.drew = w' := by
  have k0 := h.c0
  have k2 := h.c2
  have l0 := h.lo
  have l1 := h.nt
  have l2 := h.hi
  have l3 := h.tm
  go_enter Try.func11, Try.ntmps11
  go_wp2
  go_region
  all_goals
    go_wp2
    go_ret
    exact ⟨rfl, rfl⟩
set_option maxRecDepth 100000 in
set_option maxHeartbeats 400000 in
theorem ivsTop_any (b : Nat) (w : World) (n t m : Int) (h : Tri w b n t m) :
    Calls Try.prog 12 #[.pointer (some ⟨b, 0, none⟩)] w fun e w' => e = .returned (.int .i64 t) ∧ w = w' := by
  have k1 := h.c1
  go_enter Try.func12, Try.ntmps12
  go_wp2
  go_ret
  exact ⟨rfl, rfl⟩
end Go.Proofs.Yticfmklpcaoiaaa
