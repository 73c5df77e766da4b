/- Package slots: Find, Len, Dirty, refused, Take. -/
import Derived.Test.YthhgodfgigcacaaSlD
namespace Go.Proofs.Ythhgodfgigcacaa
open Go.RowKit Go.Deep
set_option linter.unusedVariables false
set_option linter.unusedSimpArgs false
/-- What lies below B stays; of what was there only block b changes. -/
structure Kt (B b : Nat) (w w' : World) : Prop where
  below : Below B w w'
  other : ∀ k, k < w.heap.size → k ≠ b → w'.heap[k]? = w.heap[k]?
theorem Kt.of_below {B b : Nat} {w w' : World} (h : Below w.heap.size w w') (hB : B ≤ w.heap.size) : Kt B b w w' := ⟨h.mono hB, fun k hk _ => h.block k hk⟩
theorem Kt.trans {B b : Nat} {u v w : World} (h : Kt B b u v) (k : Kt B b v w) : Kt B b u w := ⟨h.below.trans k.below, fun i hi hn => (k.other i (Nat.lt_of_lt_of_le hi h.below.size) hn).trans (h.other i hi hn)⟩
theorem Kt.set {B b : Nat} {w w' : World} (h : Kt B b w w') (k : Nat) (v : Value) (hB : B ≤ b) : Kt B b w (w'.setCell ⟨b, k, none⟩ v) :=
  ⟨h.below.setCell (p := ⟨b, k, none⟩) hB v, fun i hi hn => (Below.heap_setCell w' ⟨b, k, none⟩ v i hn).trans (h.other i hi hn)⟩
theorem Kt.sets {B b : Nat} {w w' : World} (h : Kt B b w w') (k : Nat) (vs : List Value) (hB : B ≤ b) : Kt B b w (w'.setCells b k vs) :=
  ⟨below_sets hB vs k _ h.below, fun i hi hn => (block_sets hn vs k w').trans (h.other i hi hn)⟩
def grpB (g : Int) : Bool := decide (0 ≤ g ∧ g < 16)
def fndO (T : Nat → Sl) (n : Nat) (g : Int) : Option Nat := if grpB g = true then fstO (fun s : Sl => decide (s.g = g)) T n else none
set_option maxRecDepth 100000 in
set_option maxHeartbeats 2000000 in
theorem findT_any (b n : Nat) (T : Nat → Sl) (g : Int) (w : World) (hT : TAt w b n T) (hn : n ≤ 8) : Calls Try.prog 19 #[.pointer (some ⟨b, 0, none⟩), .int .i64 g] w fun e w' => e = .returned (fstV (fndO T n g)) ∧ Below w.heap.size w w' := by
  have HB0 := Lib.hid ((Below.refl w.heap.size w).alloc (Nat.le_refl _) (.cells #[.int .i64 g] 3))
  have q0 : (w.alloc (.cells #[.int .i64 g] 3)).cell? ⟨w.heap.size, 0, none⟩ = some (.int .i64 g) := World.cell?_alloc_at _ _ _ _ rfl
  obtain ⟨w1, hw1⟩ : ∃ w1, Hid (w.alloc (.cells #[.int .i64 g] 3) = w1) := ⟨_, Lib.hid rfl⟩
  obtain ⟨c, hc⟩ : ∃ c, Hid (w.heap.size = c) := ⟨_, Lib.hid rfl⟩
  have HT := Lib.hid (hT.below (by have := HB0.out; rw [hw1.out] at this; exact this : Below w.heap.size w w1))
  rw [hw1.out] at HB0 q0
  rw [hc.out] at q0
  have CG := Lib.hid (isGroup_any g w1)
  have CF := Lib.hid (first_group b n c g T w1 HT.out hn q0)
  clear hT
  obtain ⟨r, hr⟩ : ∃ r, Hid (fndO T n g = r) := ⟨_, Lib.hid rfl⟩
  rw [hr.out]
  go_enter Try.func19, Try.ntmps19
  go_upto_region 1 with fail
  rw [hw1.out, hc.out]
  clear hw1 hc
  go_wp2_with fail
  refine CG.out.mono ?_
  rintro e w' ⟨rfl, rfl⟩
  clear CG
  cases hG : decide (0 ≤ g ∧ g < 16) with
  | true =>
    obtain ⟨v, hv⟩ : ∃ v, Hid (fstO (fun s : Sl => decide (s.g = g)) T n = v) := ⟨_, Lib.hid rfl⟩
    rw [hv.out] at CF
    go_wp2_with fail
    refine CF.out.mono ?_
    rintro e w2 ⟨rfl, b2⟩
    have HB2 := Lib.hid (HB0.out.trans (b2.mono HB0.out.size))
    clear b2 CF
    cases v with
    | none =>
      unfold fstV
      go_wp2_with fail
      go_ret2
      exact ⟨by rw [← hr.out]; unfold fndO grpB; rw [if_pos hG, hv.out]; rfl, HB2.out⟩
    | some i =>
      unfold fstV
      go_wp2_with fail
      go_ret2
      exact ⟨by rw [← hr.out]; unfold fndO grpB; rw [if_pos hG, hv.out]; rfl, HB2.out⟩
  | false =>
    go_wp2_with fail
    go_ret2
    exact ⟨by rw [← hr.out]; unfold fndO grpB; rw [if_neg (by rw [hG]; simp)]; rfl, HB0.out⟩
set_option maxRecDepth 100000 in
set_option maxHeartbeats 2000000 in
theorem lenT_any (b n : Nat) (T : Nat → Sl) (w : World) (hT : TAt w b n T) (hn : n ≤ 8) : Calls Try.prog 24 #[.pointer (some ⟨b, 0, none⟩)] w fun e w' => e = .returned (.int .i64 (cntO (fun s : Sl => !decide (s = frS)) T n : Int)) ∧ Below w.heap.size w w' := by
  have CF := Lib.hid (count_len b n T w hT hn)
  obtain ⟨v, hv⟩ : ∃ v, cntO (fun s : Sl => !decide (s = frS)) T n = v := ⟨_, rfl⟩
  rw [hv] at CF ⊢
  go_enter Try.func24, Try.ntmps24
  go_wp2_with fail
  refine CF.out.mono ?_
  rintro e w2 ⟨rfl, b2⟩
  have HB2 := Lib.hid b2
  clear b2
  go_wp2_with fail
  go_ret
  exact ⟨rfl, HB2.out⟩
set_option maxRecDepth 100000 in
set_option maxHeartbeats 2000000 in
theorem dirtyT_any (b n : Nat) (T : Nat → Sl) (w : World) (hT : TAt w b n T) (hn : n ≤ 8) : Calls Try.prog 23 #[.pointer (some ⟨b, 0, none⟩)] w fun e w' => e = .returned (.int .i64 (cntO (fun s : Sl => s.busy) T n : Int)) ∧ Below w.heap.size w w' := by
  have CF := Lib.hid (count_dirty b n T w hT hn)
  obtain ⟨v, hv⟩ : ∃ v, cntO (fun s : Sl => s.busy) T n = v := ⟨_, rfl⟩
  rw [hv] at CF ⊢
  go_enter Try.func23, Try.ntmps23
  go_wp2_with fail
  refine CF.out.mono ?_
  rintro e w2 ⟨rfl, b2⟩
  have HB2 := Lib.hid b2
  clear b2
  go_wp2_with fail
  go_ret
  exact ⟨rfl, HB2.out⟩
def refE (n : Nat) (T : Nat → Sl) (i : Int) (more : Bool) : Int := if i < 0 ∨ (n : Int) ≤ i ∨ more = true then 3 else if T i.toNat = frS then 7 else 0
set_option maxRecDepth 100000 in
set_option maxHeartbeats 2000000 in
theorem refT_any (b n : Nat) (T : Nat → Sl) (i : Int) (more : Bool) (w : World) (hT : TAt w b n T) (hn : n ≤ 8) : Calls Try.prog 39 #[.pointer (some ⟨b, 0, none⟩), .int .i64 i, .bool more] w fun e w' => e = .returned (.int .i64 (refE n T i more)) ∧ Below w.heap.size w w' := by
  have q0 := hT.n0
  have HR := Lib.hid (Below.refl w.heap.size w)
  obtain ⟨r, hr⟩ : ∃ r, Hid (refE n T i more = r) := ⟨_, Lib.hid rfl⟩
  rw [hr.out]
  by_cases h1 : i < 0
  · have HR2 : Hid (r = 3) := Lib.hid (by rw [← hr.out]; unfold refE; rw [if_pos (Or.inl h1)])
    clear hT
    go_enter Try.func39, Try.ntmps39
    go_wp2_with fail
    go_ret
    exact ⟨by rw [HR2.out]; rfl, HR.out⟩
  by_cases h2 : (n : Int) ≤ i
  · have HR2 : Hid (r = 3) := Lib.hid (by rw [← hr.out]; unfold refE; rw [if_pos (Or.inr (Or.inl h2))])
    clear hT
    have h0 : 0 ≤ i := by omega
    go_enter Try.func39, Try.ntmps39
    go_wp2_with fail
    go_ret
    exact ⟨by rw [HR2.out]; rfl, HR.out⟩
  obtain ⟨k, rfl⟩ : ∃ k : Nat, i = (k : Int) := ⟨i.toNat, by omega⟩
  have hk8 : k < 8 := by omega
  have hki : (k : Int) < 8 := by omega
  have hkn : (k : Int) < (n : Int) := by omega
  cases more with
  | true =>
    have HR2 : Hid (r = 3) := Lib.hid (by rw [← hr.out]; unfold refE; rw [if_pos (Or.inr (Or.inr rfl))])
    clear hT
    go_enter Try.func39, Try.ntmps39
    go_wp2_with fail
    go_ret
    exact ⟨by rw [HR2.out]; rfl, HR.out⟩
  | false =>
    have HR2 : Hid (r = if T k = frS then 7 else 0) := Lib.hid (by rw [← hr.out]; unfold refE; rw [if_neg (by simp; omega), Int.toNat_natCast])
    obtain ⟨c0, c1, c2, c3, c4, c5, c6, c7, c8, c9⟩ := hT.cs hk8
    obtain ⟨s, hs⟩ : ∃ s, T k = s := ⟨_, rfl⟩
    rw [hs] at c0 c1 c2 c3 c4 c5 c6 c7 c8 c9 HR2
    have CF := Lib.hid (isFree_any s w)
    clear hs hT h1 h2
    go_enter Try.func39, Try.ntmps39
    go_wp2_with fail
    refine CF.out.mono ?_
    rintro e w2 ⟨rfl, b2⟩
    have HB2 := Lib.hid b2
    clear b2 CF
    by_cases hf : s = frS
    · rw [decide_eq_true hf]
      have HF := Lib.hid hf
      clear hf
      go_wp2_with fail
      go_ret
      exact ⟨by rw [HR2.out, if_pos HF.out]; rfl, HB2.out⟩
    · rw [decide_eq_false hf]
      have HF := Lib.hid hf
      clear hf
      go_wp2_with fail
      go_ret
      exact ⟨by rw [HR2.out, if_neg HF.out]; rfl, HB2.out⟩
end Go.Proofs.Ythhgodfgigcacaa
