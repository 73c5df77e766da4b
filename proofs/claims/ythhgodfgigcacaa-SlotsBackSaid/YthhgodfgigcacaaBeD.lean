/- Contracts of package be (cellaret): readers that read. -/
import Derived.Test.YthhgodfgigcacaaBeA
import Derived.Test.YthhgodfgigcacaaBeB
import Derived.Test.YthhgodfgigcacaaBeC
namespace Go.Proofs.Ythhgodfgigcacaa
open Go.RowKit Go.Deep

/-- A reader in block b: its bytes, how far it was read. -/
structure Rd (w : World) (b : Nat) (s : ByteArray) (k : Int) : Prop where
  text : w.cell? ⟨b, 0, none⟩ = some (.string s)
  at' : w.cell? ⟨b, 1, none⟩ = some (.int .i64 k)
  free : w.frozen? ⟨b, 1, none⟩ = false
  lt : b < w.heap.size
  lo : 0 ≤ k
  hi : k ≤ s.size
theorem Rd.drew {w : World} {b : Nat} {s : ByteArray} {k : Int} (h : Rd w b s k) : Rd w.drew b s k := ⟨h.text, h.at', h.free, h.lt, h.lo, h.hi⟩
theorem Rd.store {w : World} {b : Nat} {s : ByteArray} {k : Int} (h : Rd w b s k) (j : Int) (h0 : 0 ≤ j) (h1 : j ≤ s.size) : Rd (w.setCell ⟨b, 1, none⟩ (.int .i64 j)) b s j := by
  refine ⟨?_, ?_, ?_, ?_, h0, h1⟩
  · have := h.text; go_simp
  · have := h.at'; go_simp
  · have := h.free; go_simp
  · have := h.lt; simpa [World.setCell] using this
theorem Rd.same {w w' : World} {b : Nat} {s : ByteArray} {k : Int} (h : Rd w b s k) (hb : w'.heap[b]? = w.heap[b]?) (hs : w.heap.size ≤ w'.heap.size) : Rd w' b s k :=
  ⟨(World.cell?_of_block (a := ⟨b, 0, none⟩) hb).trans h.text, (World.cell?_of_block (a := ⟨b, 1, none⟩) hb).trans h.at', (World.frozen?_of_block (a := ⟨b, 1, none⟩) hb).trans h.free, Nat.lt_of_lt_of_le h.lt hs, h.lo, h.hi⟩
theorem Rd.below {w w' : World} {b : Nat} {s : ByteArray} {k : Int} (h : Rd w b s k) (hb : Below w.heap.size w w') : Rd w' b s k :=
  h.same (hb.block b h.lt) hb.size
theorem Rd.new (w : World) (s : ByteArray) (t : TypeId) : Rd (w.alloc (.cells #[.string s, .int .i64 0] t)) w.heap.size s 0 :=
  ⟨by simp, by simp, by simp, by simp, by omega, by omega⟩

theorem only_refl (w : World) (row : Option Nat) : w.grownBy w row := World.grownBy.refl w row
theorem only_drew {a w : World} {row : Option Nat} (h : a.grownBy w row) : a.grownBy w.drew row := ⟨h.os, h.tape, h.output, h.size, h.block⟩
theorem only_alloc {a w : World} {row : Option Nat} (h : a.grownBy w row) (o : Obj) : a.grownBy (w.alloc o) row :=
  ⟨h.os, h.tape, h.output, Nat.le_trans h.size (by simp), fun i hi hne => (Below.heap_alloc w o i (Nat.lt_of_lt_of_le hi h.size)).trans (h.block i hi hne)⟩
theorem only_setCell {a w : World} {g : Nat} (h : a.grownBy w (some g)) {p : Addr} (hp : p.block = g ∨ a.heap.size ≤ p.block) (u : Value) : a.grownBy (w.setCell p u) (some g) :=
  ⟨h.os, h.tape, h.output, by simpa [World.setCell] using h.size, fun i hi hne => (Below.heap_setCell w p u i (by
    rintro rfl
    rcases hp with hp | hp
    · exact hne (by rw [hp])
    · omega)).trans (h.block i hi hne)⟩
theorem only_trans {a b c : World} {row : Option Nat} (h : a.grownBy b row) (k : b.grownBy c row) : a.grownBy c row :=
  ⟨k.os.trans h.os, k.tape.trans h.tape, k.output.trans h.output, Nat.le_trans h.size k.size, fun i hi hne => (k.block i (Nat.lt_of_lt_of_le hi h.size) hne).trans (h.block i hi hne)⟩
theorem only_below {a w : World} (h : Below a.heap.size a w) (row : Option Nat) : a.grownBy w row := ⟨h.os, h.tape, h.output, h.size, fun i hi _ => h.block i hi⟩

theorem left_rd {w : World} {b : Nat} {s : ByteArray} {k : Int} (h : Rd w b s k) (hm : s.size ≤ 1000000000000000) :
    Calls Try.prog 48 #[.pointer (some ⟨b, 0, none⟩)] w fun e w' => e = .returned (.int .i64 (s.size - k)) ∧ w.drew = w' :=
  left_any s k b w h.text h.at' h.lo h.hi hm

set_option maxRecDepth 100000 in
set_option maxHeartbeats 400000 in
theorem bytes_nil (n : Int) (w : World) :
    Calls Try.prog 36 #[.pointer none, .int .i64 n] w fun e w' => e = .returned (.tuple #[.string ⟨#[]⟩, .int .i64 1]) ∧ w = w' := by
  go_enter Try.func36, Try.ntmps36
  go_wp2
  go_ret2
  exact ⟨rfl, rfl⟩
set_option maxRecDepth 100000 in
set_option maxHeartbeats 400000 in
theorem bytes_neg (n : Int) (b : Nat) (w : World) (hn : n < 0) :
    Calls Try.prog 36 #[.pointer (some ⟨b, 0, none⟩), .int .i64 n] w fun e w' => e = .returned (.tuple #[.string ⟨#[]⟩, .int .i64 2]) ∧ w = w' := by
  go_enter Try.func36, Try.ntmps36
  go_wp2
  go_ret2
  exact ⟨rfl, rfl⟩
set_option maxRecDepth 100000 in
set_option maxHeartbeats 400000 in
theorem bytes_short (n : Int) (b : Nat) (w : World) (s : ByteArray) (k : Int) (h : Rd w b s k) (hm : s.size ≤ 1000000000000000) (hn : 0 ≤ n) (hs : s.size - k < n) :
    Calls Try.prog 36 #[.pointer (some ⟨b, 0, none⟩), .int .i64 n] w fun e w' => e = .returned (.tuple #[.string ⟨#[]⟩, .int .i64 5]) ∧ w.drew = w' := by
  go_enter Try.func36, Try.ntmps36
  go_wp2_with (go_at_call 48; refine (left_rd h hm).mono ?_; rintro e w' ⟨rfl, rfl⟩)
  go_ret2
  exact ⟨rfl, rfl⟩
set_option maxRecDepth 100000 in
set_option maxHeartbeats 400000 in
theorem bytes_ok (n : Int) (b : Nat) (w : World) (s : ByteArray) (k : Int) (h : Rd w b s k) (hm : s.size ≤ 1000000000000000) (hn : 0 ≤ n) (hs : n ≤ s.size - k) :
    Calls Try.prog 36 #[.pointer (some ⟨b, 0, none⟩), .int .i64 n] w fun e w' => e = .returned (.tuple #[.string (s.extract k.toNat (k + n).toNat), .int .i64 0]) ∧ Rd w' b s (k + n) ∧ w.grownBy w' (some b) := by
  have c1 := h.text
  have c2 := h.at'
  have c3 := h.free
  have h0 := h.lo
  have h1 := h.hi
  obtain ⟨kk, rfl⟩ := Int.eq_ofNat_of_zero_le h0
  obtain ⟨nn, rfl⟩ := Int.eq_ofNat_of_zero_le hn
  go_enter Try.func36, Try.ntmps36
  go_wp2_with (go_at_call 48; refine (left_rd h hm).mono ?_; rintro e w' ⟨rfl, rfl⟩)
  go_region
  all_goals
    go_wp2
    go_ret2
    exact ⟨rfl, (h.store _ (by omega) (by omega)).drew.drew, only_drew (only_drew (only_setCell (only_refl _ _) (.inl rfl) _))⟩

def numAt (k W e : Int) : Int := if e = 0 then k + W else k
theorem numAt_ok (k W : Int) : numAt k W 0 = k + W := rfl
theorem numAt_no (k W e : Int) (h : e ≠ 0) : numAt k W e = k := by unfold numAt; rw [if_neg h]

set_option maxRecDepth 100000 in
set_option maxHeartbeats 400000 in
theorem num_nil (n : Int) (w : World) :
    Calls Try.prog 47 #[.pointer none, .int .i64 n] w fun e w' => e = .returned (.tuple #[.int .i64 0, .int .i64 1]) ∧ w = w' := by
  go_enter Try.func47, Try.ntmps47
  go_wp2
  go_ret2
  exact ⟨rfl, rfl⟩
theorem widthMayBe_no (n : Int) (w : World) (h : ¬ (1 ≤ n ∧ n ≤ 8)) :
    Calls Try.prog 49 #[.int .i64 n] w fun e w' => e = .returned (.bool false) ∧ w = w' := by
  have := widthMayBe_any n w
  have e : (decide (1 ≤ n) && decide (n ≤ 8)) = false := by simp; omega
  rwa [e] at this
set_option maxRecDepth 100000 in
set_option maxHeartbeats 400000 in
theorem num_arg (n : Int) (b : Nat) (w : World) (hn : ¬ (1 ≤ n ∧ n ≤ 8)) :
    Calls Try.prog 47 #[.pointer (some ⟨b, 0, none⟩), .int .i64 n] w fun e w' => e = .returned (.tuple #[.int .i64 0, .int .i64 2]) ∧ w = w' := by
  have H := Lib.hid hn
  clear hn
  go_enter Try.func47, Try.ntmps47
  go_wp2_with (go_at_call 49; refine (widthMayBe_no _ _ H.out).mono ?_; rintro e w' ⟨rfl, rfl⟩)
  go_ret2
  exact ⟨rfl, rfl⟩
set_option maxRecDepth 100000 in
set_option maxHeartbeats 400000 in
theorem num_short (n : Int) (b : Nat) (w : World) (s : ByteArray) (k : Int) (h : Rd w b s k) (hm : s.size ≤ 1000000000000000) (hn : 1 ≤ n) (hn8 : n ≤ 8) (hs : s.size - k < n) :
    Calls Try.prog 47 #[.pointer (some ⟨b, 0, none⟩), .int .i64 n] w fun e w' => e = .returned (.tuple #[.int .i64 0, .int .i64 5]) ∧ Rd w' b s k ∧ w.grownBy w' (some b) := by
  have c2 := h.at'
  go_enter Try.func47, Try.ntmps47
  go_wp2_with (go_at_call 49; refine (widthMayBe_yes _ _ hn hn8).mono ?_; rintro e w' ⟨rfl, rfl⟩)
  go_region
  all_goals
    go_wp2_with (go_at_call 36; refine (bytes_short n b _ s k h.drew hm (by omega) hs).mono ?_; rintro e w' ⟨rfl, rfl⟩)
    go_ret2
    exact ⟨rfl, h.drew.drew, only_drew (only_drew (only_refl _ _))⟩

set_option maxRecDepth 100000 in
set_option maxHeartbeats 400000 in
theorem num_ok (n : Int) (b : Nat) (w : World) (s : ByteArray) (k : Int) (h : Rd w b s k) (hm : s.size ≤ 1000000000000000) (hn : 1 ≤ n) (hn8 : n ≤ 8) (hs : n ≤ s.size - k) :
    Calls Try.prog 47 #[.pointer (some ⟨b, 0, none⟩), .int .i64 n] w fun e w' => e = .returned (.tuple #[.int .i64 (getV (s.extract k.toNat (k + n).toNat).data.toList), .int .i64 (getE (s.extract k.toNat (k + n).toNat).data.toList)]) ∧ Rd w' b s (numAt k n (getE (s.extract k.toNat (k + n).toNat).data.toList)) ∧ w.grownBy w' (some b) := by
  have c2 := h.at'
  have hg := get_any (s.extract k.toNat (k + n).toNat)
  have hby := fun W (hW : Rd W b s k) => bytes_ok n b W s k hW hm (by omega) hs
  generalize s.extract k.toNat (k + n).toNat = t at hg hby ⊢
  generalize hE : getE t.data.toList = E at hg ⊢
  generalize hV : getV t.data.toList = V at hg ⊢
  have HB := Lib.hid hby
  have HG := Lib.hid hg
  clear hby hg hE hV
  by_cases hE0 : E = 0
  · subst hE0
    go_enter Try.func47, Try.ntmps47
    go_wp2_with (go_at_call 49; refine (widthMayBe_yes _ _ hn hn8).mono ?_; rintro e w' ⟨rfl, rfl⟩)
    go_region
    all_goals
      go_wp2_with (first | (go_at_call 36; refine (HB.out _ h.drew).mono ?_; rintro e w2 ⟨rfl, hr2, hg2⟩) | (go_at_call 51; refine (HG.out _).mono ?_; rintro e w' ⟨rfl, rfl⟩))
      go_ret2
      exact ⟨rfl, hr2, only_trans (only_drew (only_refl _ _)) hg2⟩
  · have hne : (E != 0) = true := by rw [bne_iff_ne]; exact hE0
    have H0 := Lib.hid hE0
    have l0 := h.lo
    have l1 := h.hi
    clear hE0
    go_enter Try.func47, Try.ntmps47
    go_wp2_with (go_at_call 49; refine (widthMayBe_yes _ _ hn hn8).mono ?_; rintro e w' ⟨rfl, rfl⟩)
    go_region
    all_goals
      go_wp2_with (first | (go_at_call 36; refine (HB.out _ h.drew).mono ?_; rintro e w2 ⟨rfl, hr2, hg2⟩; have d1 := hr2.at'; have d2 := hr2.free) | (go_at_call 51; refine (HG.out _).mono ?_; rintro e w' ⟨rfl, rfl⟩))
      go_ret2
      rw [numAt_no _ _ _ H0.out]
      exact ⟨rfl, hr2.store _ l0 l1, only_setCell (only_trans (only_drew (only_refl _ _)) hg2) (.inl rfl) _⟩

end Go.Proofs.Ythhgodfgigcacaa
