/- The reference of layer 20, and a call of both: contracts. -/
import Derived.Test.YticfmklpcaoiaaaIvC
namespace Go.Proofs.Yticfmklpcaoiaaa
open Go.RowKit Go.Deep
set_option linter.unusedVariables false

/-- Only blocks of S, and new ones, have turned. -/
structure Chg (S : Nat → Prop) (w w' : World) : Prop where
  os : w'.os = w.os
  tape : w'.tape = w.tape
  output : w'.output = w.output
  size : w.heap.size ≤ w'.heap.size
  block : ∀ k, k < w.heap.size → ¬ S k → w'.heap[k]? = w.heap[k]?
theorem Chg.refl (S : Nat → Prop) (w : World) : Chg S w w := ⟨rfl, rfl, rfl, Nat.le_refl _, fun _ _ _ => rfl⟩
theorem Chg.trans {S : Nat → Prop} {a b c : World} (h : Chg S a b) (k : Chg S b c) : Chg S a c :=
  ⟨k.os.trans h.os, k.tape.trans h.tape, k.output.trans h.output, Nat.le_trans h.size k.size, fun i hi hn => (k.block i (Nat.lt_of_lt_of_le hi h.size) hn).trans (h.block i hi hn)⟩
theorem Chg.of_below {S : Nat → Prop} {a b : World} (h : Below a.heap.size a b) : Chg S a b := ⟨h.os, h.tape, h.output, h.size, fun i hi _ => h.block i hi⟩
theorem Chg.of_only {S : Nat → Prop} {a b : World} {g : Nat} (h : a.grownBy b (some g)) (hg : S g) : Chg S a b :=
  ⟨h.os, h.tape, h.output, h.size, fun i hi hn => h.block i hi (fun e => hn (by cases e; exact hg))⟩
theorem Chg.drewN {S : Nat → Prop} {a b : World} (h : Chg S a b) (n : Nat) : Chg S a (b.drewN n) := ⟨h.os, h.tape, h.output, h.size, h.block⟩
theorem Chg.drew {S : Nat → Prop} {a b : World} (h : Chg S a b) : Chg S a b.drew := ⟨h.os, h.tape, h.output, h.size, h.block⟩
theorem Chg.below {S : Nat → Prop} {B : Nat} {o a b : World} (h : Below B o a) (k : Chg S a b) (hB : B ≤ a.heap.size) (hS : ∀ i, S i → B ≤ i) : Below B o b :=
  h.trans ⟨k.os, k.tape, k.output, k.size, fun i hi => k.block i (by omega) (fun hs => by have := hS i hs; omega)⟩
theorem Chg.alloc {S : Nat → Prop} {a b : World} (h : Chg S a b) (o : Obj) : Chg S a (b.alloc o) :=
  h.trans (.of_below ((Below.refl _ _).alloc (Nat.le_refl _) o))
theorem Chg.setCell {S : Nat → Prop} {a b : World} (h : Chg S a b) {p : Addr} (hp : S p.block ∨ a.heap.size ≤ p.block) (u : Value) : Chg S a (b.setCell p u) :=
  ⟨h.os, h.tape, h.output, by simpa [World.setCell] using h.size, fun i hi hn => (Below.heap_setCell b p u i (by
    rintro rfl
    rcases hp with hp | hp
    · exact hn hp
    · omega)).trans (h.block i hi hn)⟩
theorem Tri.setOther {w : World} {b : Nat} {n t m : Int} (h : Tri w b n t m) {p : Addr} (hp : b ≠ p.block) (u : Value) : Tri (w.setCell p u) b n t m :=
  h.same (Below.heap_setCell w p u b hp) (by simp [World.setCell])
theorem Tri.alloc {w : World} {b : Nat} {n t m : Int} (h : Tri w b n t m) (o : Obj) : Tri (w.alloc o) b n t m := h.below ((Below.refl _ _).alloc (Nat.le_refl _) o)
theorem Tri.chg {S : Nat → Prop} {w w' : World} {b : Nat} {n t m : Int} (h : Tri w b n t m) (k : Chg S w w') (hb : ¬ S b) : Tri w' b n t m := h.same (k.block b h.lt hb) k.size

set_option maxRecDepth 100000 in
set_option maxHeartbeats 400000 in
theorem r20need_no (b : Nat) (w : World) (n t m : Int) (h : Tri w b n t m) (hn : n < t ∨ t = m) :
    Calls Try.prog 17 #[.pointer (some ⟨b, 0, none⟩)] w fun e w' => e = .returned (.tuple #[.int .i64 0, .bool false]) ∧ ∃ d, w' = w.drewN d := by
  have k0 := h.c0
  have k1 := h.c1
  have k2 := h.c2
  have hlt := h.nt
  by_cases e : n < t
  · have b1 : (n != t) = true := by rw [bne_iff_ne]; omega
    clear hn
    go_enter Try.func17, Try.ntmps17
    go_wp2
    go_quiet (fail)
    go_wp2
    go_ret2
    first | exact ⟨rfl, _, rfl⟩ | exact ⟨rfl, _, World.drewN_drewN _ _ _⟩
  · have b1 : (n != t) = false := by rw [bne_eq_false_iff_eq]; omega
    have b2 : (t == m) = true := by rw [beq_iff_eq]; omega
    clear hn
    go_enter Try.func17, Try.ntmps17
    go_wp2
    go_quiet (fail)
    go_wp2
    go_ret2
    first | exact ⟨rfl, _, rfl⟩ | exact ⟨rfl, _, World.drewN_drewN _ _ _⟩
theorem needV_a {t m : Int} (h : t + 16 ≤ m) : needV t m = t + 16 := by unfold needV; rw [if_pos h]
theorem needV_b {t m : Int} (h : m < t + 16) : needV t m = m := by unfold needV; rw [if_neg (by omega)]
set_option maxRecDepth 100000 in
set_option maxHeartbeats 400000 in
theorem r20need_yes (b : Nat) (w : World) (n t m : Int) (h : Tri w b n t m) (hn : t ≤ n) (hm : t < m) :
    Calls Try.prog 17 #[.pointer (some ⟨b, 0, none⟩)] w fun e w' => e = .returned (.tuple #[.int .i64 (needV t m), .bool true]) ∧ ∃ d, w' = w.drewN d := by
  have k0 := h.c0
  have k1 := h.c1
  have k2 := h.c2
  have l0 := h.lo
  have l1 := h.nt
  have l2 := h.hi
  have b1 : (n != t) = false := by rw [bne_eq_false_iff_eq]; omega
  have b2 : (t == m) = false := by rw [beq_eq_false_iff_ne]; omega
  by_cases hc : t + 16 ≤ m
  · rw [needV_a hc]
    go_enter Try.func17, Try.ntmps17
    go_wp2
    go_quiet (fail)
    go_wp2
    go_ret2
    first | exact ⟨rfl, _, rfl⟩ | exact ⟨rfl, _, World.drewN_drewN _ _ _⟩
  · rw [needV_b (by omega)]
    go_enter Try.func17, Try.ntmps17
    go_wp2
    go_quiet (fail)
    go_wp2
    go_ret2
    first | exact ⟨rfl, _, rfl⟩ | exact ⟨rfl, _, World.drewN_drewN _ _ _⟩
set_option maxRecDepth 100000 in
set_option maxHeartbeats 400000 in
theorem r20take_end (b : Nat) (w : World) (n t m : Int) (h : Tri w b n t m) (hn : m ≤ n) :
    Calls Try.prog 18 #[.pointer (some ⟨b, 0, none⟩)] w fun e w' => e = .returned (.tuple #[.int .i64 0, .int .i64 16]) ∧ ∃ d, w' = w.drewN d := by
  have k0 := h.c0
  have k1 := h.c1
  have k2 := h.c2
  have l1 := h.nt
  have l2 := h.tm
  have b1 : (n == m) = true := by rw [beq_iff_eq]; omega
  go_enter Try.func18, Try.ntmps18
  go_wp2
  go_quiet (fail)
  go_wp2
  go_ret2
  first | exact ⟨rfl, _, rfl⟩ | exact ⟨rfl, _, World.drewN_drewN _ _ _⟩
set_option maxRecDepth 100000 in
set_option maxHeartbeats 400000 in
theorem r20take_state (b : Nat) (w : World) (n t m : Int) (h : Tri w b n t m) (hn : t ≤ n) (hm : n < m) :
    Calls Try.prog 18 #[.pointer (some ⟨b, 0, none⟩)] w fun e w' => e = .returned (.tuple #[.int .i64 0, .int .i64 14]) ∧ ∃ d, w' = w.drewN d := by
  have k0 := h.c0
  have k1 := h.c1
  have k2 := h.c2
  have l1 := h.nt
  have b1 : (n == m) = false := by rw [beq_eq_false_iff_ne]; omega
  have b2 : (n == t) = true := by rw [beq_iff_eq]; omega
  go_enter Try.func18, Try.ntmps18
  go_wp2
  go_quiet (fail)
  go_wp2
  go_quiet (fail)
  go_wp2
  go_ret2
  first | exact ⟨rfl, _, rfl⟩ | exact ⟨rfl, _, World.drewN_drewN _ _ _⟩
set_option maxRecDepth 100000 in
set_option maxHeartbeats 400000 in
theorem r20take_ok (b : Nat) (w : World) (n t m : Int) (h : Tri w b n t m) (hn : n < t) :
    Calls Try.prog 18 #[.pointer (some ⟨b, 0, none⟩)] w fun e w' => e = .returned (.tuple #[.int .i64 n, .int .i64 0]) ∧ Tri w' b (n + 1) t m ∧ w.grownBy w' (some b) := by
  have k0 := h.c0
  have k1 := h.c1
  have k2 := h.c2
  have k3 := h.f0
  have l0 := h.lo
  have l1 := h.hi
  have l2 := h.tm
  have l3 := h.lt
  have b1 : (n == m) = false := by rw [beq_eq_false_iff_ne]; omega
  have b2 : (n == t) = false := by rw [beq_eq_false_iff_ne]; omega
  go_enter Try.func18, Try.ntmps18
  go_wp2
  go_quiet (fail)
  go_wp2
  go_quiet (fail)
  go_wp2
  go_ret2
  exact ⟨rfl, by first | exact (h.drewN _).next hn | exact ((h.drewN _).next hn).drew | exact (h.next hn).drewN _, by first | exact only_setCell (only_drewN (only_refl _ _) _) (.inl rfl) _ | exact only_drewN (only_setCell (only_refl _ _) (.inl rfl) _) _⟩
end Go.Proofs.Yticfmklpcaoiaaa
