/- Rows of numbers by value; the contracts of tally's Many, Rate, Worst. -/
import Derived.Test.YtnbmpackjgffaaaTaE
import Derived.Deep.MidRow
import Derived.Stop.BytesEq
import Derived.Test.YtnbmpackjgffaaaLin
namespace Go.Proofs.Ytnbmpackjgffaaa
open Go.RowKit Go.Deep
set_option linter.unusedVariables false
attribute [local go_sem] unary_negf run_store_complex run_store_float
def rowL (f : Nat → Int) (n : Nat) : List Value := (List.range n).map fun i => .int .i64 (f i)
theorem rowL_length (f : Nat → Int) (n : Nat) : (rowL f n).length = n := by simp [rowL]
theorem rowL_get (f : Nat → Int) (n i : Nat) (h : i < n) : (rowL f n)[i]? = some (.int .i64 (f i)) := by simp [rowL, h]
/-- An element of a row of numbers that stands by value. -/
theorem index_row {P : Program} {t e : TypeId} {n m : Nat} (f : Nat → Int) (ht : P.underlying t = some (.array n e)) (he : P.underlying e = some (.int .i64)) (hsz : ∀ w, (sizeOf e).run P w = .ok 1 w) (hm : n = m) (i : Nat) (hi : i < m) (w : World) :
    (Instr.index t (.agg (rowL f m).toArray) (.int .i64 (i : Int))).run P w = .ok (.int .i64 (f i)) w := by
  subst hm
  have px : ∀ w, (part e (rowL f n).toArray (i * 1)).run P w = .ok (.int .i64 (f i)) w := fun w => by
    simp [part, isAgg, run_underlying he, rowL, hi]
  have h2 : (0 : Int) ≤ (i : Int) ∧ (i : Int) < (n : Int) := ⟨by omega, by omega⟩
  unfold Instr.index
  simp only [asIntOf, Sem.run_bind, Sem.run_pure, Result.andThen_ok, run_underlying ht, if_pos h2, hsz, Int.toNat_natCast, px]
theorem run_eql_row {P : Program} {t e : TypeId} {n m : Nat} (f g : Nat → Int) (ht : P.underlying t = some (.array n e)) (he : P.underlying e = some (.int .i64)) (hsz : ∀ w, (sizeOf e).run P w = .ok 1 w) (hm : n = m) (w : World) :
    (binOp .eql t (.agg (rowL f m).toArray) (.agg (rowL g m).toArray)).run P w = .ok (.bool ((List.range m).all fun i => f i == g i)) w := by
  subst hm
  rw [run_eql_struct, show (10000 : Nat) = 9998 + 2 from rfl, List.range_eq_range', Op.equalIn]
  simp only [Sem.run_bind, run_underlying ht, Result.andThen_ok, hsz, Std.Legacy.Range.forIn_eq_forIn_range', Std.Legacy.Range.size, Nat.sub_zero, Nat.add_sub_cancel, Nat.div_one]
  have hl : ∀ i ∈ List.range' 0 n 1, i < n := fun i hi => by simpa using (List.mem_range'_1.1 hi).2
  generalize List.range' 0 n 1 = l at hl ⊢
  induction l with
  | nil => simp
  | cons i l ih =>
    have hi : i < n := hl i (by simp)
    have px : ∀ h : Nat → Int, (part e (rowL h n).toArray (i * 1)).run P w = .ok (.int .i64 (h i)) w := fun h => by
      simp [part, isAgg, run_underlying he, rowL, hi]
    have pe : (Op.equalIn (9998 + 1) e (.int .i64 (f i)) (.int .i64 (g i))).run P w = .ok (f i == g i) w := run_equalIn_int w 9998 e .i64 .i64 _ _ he
    simp only [List.forIn_cons, Sem.run_bind, px, pe, Result.andThen_ok, List.all_cons]
    cases hb : (f i == g i)
    · simp
    · simp only [Bool.not_true, Bool.false_eq_true, if_false, Sem.run_pure, Result.andThen_ok, Bool.true_and]
      exact ih fun j hj => hl j (by simp [hj])
theorem TallyAt.ra {w : World} {g : Nat} {T : Tl} (h : TallyAt w g T) : w.rangeAt g 0 (rowL T.a 24) := fun j v hv => by
  have hj : j < 24 := by have := (List.getElem?_eq_some_iff.1 hv).1; rwa [rowL_length] at this
  rw [rowL_get _ _ _ hj] at hv
  rw [Nat.zero_add, h.ca j hj, hv]
theorem TallyAt.re {w : World} {g : Nat} {T : Tl} (h : TallyAt w g T) : w.rangeAt g 24 (rowL T.e 32) := fun j v hv => by
  have hj : j < 32 := by have := (List.getElem?_eq_some_iff.1 hv).1; rwa [rowL_length] at this
  rw [rowL_get _ _ _ hj] at hv
  rw [h.ce j hj, hv]
theorem size_int : ∀ w, (sizeOf 3).run Try.prog w = .ok 1 w := fun w => by kernel_rfl
def sumA (f : Nat → Int) : Nat → Int
  | 0 => 0
  | n + 1 => sumA f n + f n
theorem box_tally (w : World) (T : Tl) : ∃ w0, Hid (w.alloc (.cells (tcells T) 28) = w0) ∧ TallyAt w0 w.heap.size T ∧ Below w.heap.size w w0 :=
  ⟨_, Lib.hid rfl, heap_alloc_new _ _, (Below.refl _ _).alloc (Nat.le_refl _) _⟩
set_option maxRecDepth 100000 in
set_option maxHeartbeats 1000000 in
theorem many_any (T : Tl) (w : World) (hb : ∀ k, k ≤ 24 → 0 ≤ sumA T.a k ∧ sumA T.a k ≤ 9007199254740992) :
    Calls Try.prog 12 #[.agg (tcells T)] w fun e w' => e = .returned (.int .i64 (sumA T.a 24)) ∧ Below w.heap.size w w' := by
  obtain ⟨w0, HE, HT, B0⟩ := box_tally w T
  have HB := Lib.hid hb
  have HI := Lib.hid (fun (i : Nat) (hi : i < 24) (w : World) => index_row (P := Try.prog) T.a Try.underlying24 Try.underlying3 size_int rfl i hi w)
  have hra := HT.ra
  clear hb
  go_enter Try.func12, Try.ntmps12
  go_wp2_with (refine wpList_load_mid rfl _ _ rfl w.heap.size 0 rfl (rowL T.a 24) _ (by rw [HE.out]; exact hra) Try.underlying24 rfl (by rw [rowL_length]; kernel_rfl) ?_)
  rw [HE.out]
  clear HE
  go_loopw [3, 8] (fun s x wi => ∃ i : Nat, x = .int .i64 i ∧ i ≤ 24 ∧ s = .int .i64 (sumA T.a i) ∧ wi = w0) (fun _ x _ => 24 - (intOf x).toNat)
  case atStart => exact ⟨0, rfl, by omega, rfl, rfl⟩
  case round =>
    obtain ⟨i, rfl, hi, rfl, rfl⟩ := hrel
    by_cases hlt : i < 24
    · have hli : (i : Int) < 24 := by omega
      have ix := HI.out i hlt
      have h1 := HB.out i hi
      have h2 := HB.out (i + 1) hlt
      rw [show sumA T.a (i + 1) = sumA T.a i + T.a i from rfl] at h2
      obtain ⟨h1a, h1b⟩ := h1
      obtain ⟨h2a, h2b⟩ := h2
      have e3 : sumA T.a (i + 1) = sumA T.a i + T.a i := rfl
      have E3 := Lib.hid e3
      clear e3
      generalize sumA T.a i = s0 at *
      generalize T.a i = t0 at *
      go_wp2
      go_roundw
      case rel => exact ⟨i + 1, by go_num, by omega, by rw [E3.out], trivial⟩
      case measure => simp [intOf]; omega
    · obtain rfl : i = 24 := by omega
      go_wp2
      go_ret
      exact ⟨rfl, B0⟩
def rateV (s t : Int) : Int := if s = 0 then 0 else 100 * t / s
set_option maxRecDepth 100000 in
set_option maxHeartbeats 1000000 in
theorem rate_any (T : Tl) (w : World) (hb : ∀ k, k ≤ 32 → 0 ≤ sumA T.e k ∧ sumA T.e k ≤ 9007199254740992) (h0 : 0 ≤ T.e 0 ∧ T.e 0 ≤ 9007199254740992) :
    Calls Try.prog 16 #[.agg (tcells T)] w fun e w' => e = .returned (.int .i64 (rateV (sumA T.e 32) (T.e 0))) ∧ Below w.heap.size w w' := by
  obtain ⟨w0, HE, HT, B0⟩ := box_tally w T
  have HB := Lib.hid hb
  have HI := Lib.hid (fun (i : Nat) (hi : i < 32) (w : World) => index_row (P := Try.prog) T.e Try.underlying25 Try.underlying3 size_int rfl i hi w)
  have hra := HT.re
  have hc := HT.ce 0 (by omega)
  clear hb
  go_enter Try.func16, Try.ntmps16
  go_wp2_with (refine wpList_load_mid rfl _ _ rfl w.heap.size 24 rfl (rowL T.e 32) _ (by rw [HE.out]; exact hra) Try.underlying25 rfl (by rw [rowL_length]; kernel_rfl) ?_)
  rw [HE.out]
  clear HE
  go_loopw [3, 8] (fun s x wi => ∃ i : Nat, x = .int .i64 i ∧ i ≤ 32 ∧ s = .int .i64 (sumA T.e i) ∧ wi = w0) (fun _ x _ => 32 - (intOf x).toNat)
  case atStart => exact ⟨0, rfl, by omega, rfl, rfl⟩
  case round =>
    obtain ⟨i, rfl, hi, rfl, rfl⟩ := hrel
    by_cases hlt : i < 32
    · have hli : (i : Int) < 32 := by omega
      have ix := HI.out i hlt
      have h1 := HB.out i hi
      have h2 := HB.out (i + 1) hlt
      rw [show sumA T.e (i + 1) = sumA T.e i + T.e i from rfl] at h2
      obtain ⟨h1a, h1b⟩ := h1
      obtain ⟨h2a, h2b⟩ := h2
      have e3 : sumA T.e (i + 1) = sumA T.e i + T.e i := rfl
      have E3 := Lib.hid e3
      clear e3 hc h0
      generalize sumA T.e i = s0 at *
      generalize T.e i = t0 at *
      go_wp2
      go_roundw
      case rel => exact ⟨i + 1, by go_num, by omega, by rw [E3.out], trivial⟩
      case measure => simp [intOf]; omega
    · obtain rfl : i = 32 := by omega
      have hs := HB.out 32 (by omega)
      clear HB HI hra HT
      generalize hS : sumA T.e 32 = s at hs ⊢
      generalize hT0 : T.e 0 = t at hc h0 ⊢
      have HV : Hid (∀ r, rateV s t = r → rateV (sumA T.e 32) (T.e 0) = r) := Lib.hid (by rintro r rfl; rw [hS, hT0])
      clear hS hT0
      obtain ⟨s1, s2⟩ := hs
      obtain ⟨t1, t2⟩ := h0
      by_cases hz : s = 0
      · subst hz
        go_wp2
        go_ret
        exact ⟨by rw [HV.out _ rfl]; rfl, B0⟩
      · have hz' : (s == 0) = false := by simpa using hz
        have hq : (100 * t).tdiv s = 100 * t / s := Int.tdiv_eq_ediv_of_nonneg (by omega)
        have q1 : 0 ≤ 100 * t / s := Int.ediv_nonneg (by omega) (by omega)
        have q2 : 100 * t / s ≤ 100 * t := Int.ediv_le_self _ (by omega)
        go_wp2
        go_ret
        exact ⟨by rw [HV.out _ rfl]; unfold rateV; rw [if_neg hz]; rfl, B0⟩
/-- The error that comes most, and how often. -/
def wor (f : Nat → Int) : Nat → Int × Int
  | 0 => (0, 0)
  | k + 1 => if k = 0 then (0, 0) else if (wor f k).2 < f k then ((k : Int), f k) else wor f k
set_option maxRecDepth 100000 in
set_option maxHeartbeats 1000000 in
theorem worst_any (T : Tl) (w : World) :
    Calls Try.prog 15 #[.agg (tcells T)] w fun e w' => e = .returned (.tuple #[.int .i64 (wor T.e 32).1, .int .i64 (wor T.e 32).2]) ∧ Below w.heap.size w w' := by
  obtain ⟨w0, HE, HT, B0⟩ := box_tally w T
  have HC := Lib.hid HT
  clear HT
  go_enter Try.func15, Try.ntmps15
  go_wp2
  rw [HE.out]
  clear HE
  go_loopw [4, 5, 6] (fun a b x wi => ∃ i : Nat, x = .int .i64 i ∧ 1 ≤ i ∧ i ≤ 32 ∧ a = .int .i64 (wor T.e i).1 ∧ b = .int .i64 (wor T.e i).2 ∧ ∃ d, wi = w0.drewN d) (fun _ _ x _ => 32 - (intOf x).toNat)
  case atStart => exact ⟨1, rfl, by omega, by omega, rfl, rfl, 0, rfl⟩
  case round =>
    obtain ⟨i, rfl, h1, hi, rfl, rfl, d, rfl⟩ := hrel
    by_cases hlt : i < 32
    · have hli : (i : Int) < 32 := by omega
      have c0 := (HC.out.drewN d).ce i hlt
      have e3 : wor T.e (i + 1) = if (wor T.e i).2 < T.e i then ((i : Int), T.e i) else wor T.e i := if_neg (by omega)
      by_cases hg : (wor T.e i).2 < T.e i
      · rw [if_pos hg] at e3
        have E3 := Lib.hid e3
        clear e3
        generalize (wor T.e i).2 = u at *
        go_wp2
        refine wp_region_lin (S := (fun w' => w'.cell? ⟨w.heap.size, 24 + i, none⟩ = some (.int .i64 (T.e i)))) [(0, true), (1, true), (2, true), (3, true), (4, true), (5, true), (6, true)] (by kernel_rfl) (by kernel_rfl) rfl (by kernel_rfl) ?_ (fun hHeld => ?_)
        · (try dsimp only); exact c0
        (refine wpL_calm (o := { dst := some 17, op := Go.Op.move (Go.Operand.tmp 6), type := 3, pos := "tally.go:95", after := #[], guard := none }) (v := ?_) rfl (Or.inl ⟨by rfl, ?_⟩) ?_; rotate_left; (focus (intro w hSw; (try dsimp only at hSw); go_simp; (try (with_reducible rfl)); done)); try simp only [Act.put, List.setIfInBounds_toArray, List.set_cons_zero, List.set_cons_succ])
        (refine wpL_calm (o := { dst := some 18, op := Go.Op.move (Go.Operand.tmp 6), type := 3, pos := "tally.go:95", after := #[{ on := 5, ground := Go.Ground.gcOnly Go.Departure.lateStores }], guard := none }) (v := ?_) rfl (Or.inl ⟨by rfl, ?_⟩) ?_; rotate_left; (focus (intro w hSw; (try dsimp only at hSw); go_simp; (try (with_reducible rfl)); done)); try simp only [Act.put, List.setIfInBounds_toArray, List.set_cons_zero, List.set_cons_succ])
        (refine wpL_calm (o := { dst := some 19, op := Go.Op.fieldAddr 28 (Go.Operand.tmp 1) 1, type := 0, pos := "tally.go:95", after := #[{ on := 5, ground := Go.Ground.gcOnly Go.Departure.lateStores }], guard := none }) (v := ?_) rfl (Or.inl ⟨by rfl, ?_⟩) ?_; rotate_left; (focus (intro w hSw; (try dsimp only at hSw); go_simp; (try (with_reducible rfl)); done)); try simp only [Act.put, List.setIfInBounds_toArray, List.set_cons_zero, List.set_cons_succ])
        (refine wpL_calm (o := { dst := some 20, op := Go.Op.indexAddr 25 (Go.Operand.tmp 19) (Go.Operand.tmp 18), type := 0, pos := "tally.go:95", after := #[{ on := 2, ground := Go.Ground.data }, { on := 1, ground := Go.Ground.data }, { on := 5, ground := Go.Ground.gcOnly Go.Departure.lateStores }], guard := none }) (v := ?_) rfl (Or.inl ⟨by rfl, ?_⟩) ?_; rotate_left; (focus (intro w hSw; (try dsimp only at hSw); go_simp; (try (with_reducible rfl)); done)); try simp only [Act.put, List.setIfInBounds_toArray, List.set_cons_zero, List.set_cons_succ])
        (refine wpL_calm (o := { dst := some 21, op := Go.Op.load 3 (Go.Operand.tmp 20), type := 3, pos := "tally.go:95", after := #[{ on := 3, ground := Go.Ground.data }, { on := 5, ground := Go.Ground.gcOnly Go.Departure.lateStores }], guard := none }) (v := ?_) rfl (Or.inl ⟨by rfl, ?_⟩) ?_; rotate_left; (focus (intro w hSw; (try dsimp only at hSw); go_simp; (try (with_reducible rfl)); done)); try simp only [Act.put, List.setIfInBounds_toArray, List.set_cons_zero, List.set_cons_succ])
        (refine wpL_calm (o := { dst := some 4, op := Go.Op.assign (Go.Operand.tmp 17), type := 3, pos := "tally.go:95", after := #[{ on := 0, ground := Go.Ground.data }, { on := 0, ground := Go.Ground.phase }, { on := 1, ground := Go.Ground.textOnly Go.Departure.lateStores }, { on := 2, ground := Go.Ground.textOnly Go.Departure.lateStores }, { on := 3, ground := Go.Ground.textOnly Go.Departure.lateStores }, { on := 4, ground := Go.Ground.textOnly Go.Departure.lateStores }], guard := none }) (v := ?_) rfl (Or.inl ⟨by rfl, ?_⟩) ?_; rotate_left; (focus (intro w hSw; (try dsimp only at hSw); go_simp; (try (with_reducible rfl)); done)); try simp only [Act.put, List.setIfInBounds_toArray, List.set_cons_zero, List.set_cons_succ])
        (refine wpL_calm (o := { dst := some 5, op := Go.Op.assign (Go.Operand.tmp 21), type := 3, pos := "tally.go:95", after := #[{ on := 4, ground := Go.Ground.data }, { on := 5, ground := Go.Ground.chain }, { on := 0, ground := Go.Ground.phase }, { on := 1, ground := Go.Ground.phase }, { on := 2, ground := Go.Ground.phase }, { on := 3, ground := Go.Ground.phase }, { on := 4, ground := Go.Ground.phase }, { on := 5, ground := Go.Ground.phase }], guard := none }) (v := ?_) rfl (Or.inl ⟨by rfl, ?_⟩) ?_; rotate_left; (focus (intro w hSw; (try dsimp only at hSw); go_simp; (try (with_reducible rfl)); done)); try simp only [Act.put, List.setIfInBounds_toArray, List.set_cons_zero, List.set_cons_succ])
        refine wpL_nil ?_
        refine NoPanic.normal ?_
        go_wp2
        go_roundw
        case rel => exact ⟨i + 1, by go_num, by omega, by omega, by rw [E3.out], by rw [E3.out], _, rfl⟩
        case measure => simp [intOf]; omega
      · rw [if_neg hg] at e3
        have E3 := Lib.hid e3
        clear e3
        have hg' : T.e i ≤ (wor T.e i).2 := by omega
        go_wp2
        go_roundw
        case rel => exact ⟨i + 1, by go_num, by omega, by omega, by rw [E3.out], by rw [E3.out], _, rfl⟩
        case measure => simp [intOf]; omega
    · obtain rfl : i = 32 := by omega
      go_wp2
      go_ret2
      exact ⟨rfl, below_drewN B0 _⟩
end Go.Proofs.Ytnbmpackjgffaaa
