/- Contracts of package geom (cellaret): Span; the law GeomSpans. -/
import Derived.Test.YtdibdkjohfaebaaGeB
import Derived.Test.YtdibdkjohfaebaaOpen
import Derived.Lib.SmallJoins
namespace Go.Proofs.Ytdibdkjohfaebaa
open Go.RowKit Go.Deep Go.ChangeShapes Go.WideShapes
set_option linter.unusedVariables false

theorem within_any (B S M : Int) (w : World) :
    Calls Try.prog 30 #[.agg #[.int .i64 B, .int .i64 S, .int .i64 M]] w fun e w' => e = .returned (.func (.func 36) #[] #[.pointer (some ⟨w.heap.size, 0, none⟩)]) ∧ w.alloc (.cells #[.int .i64 B, .int .i64 S, .int .i64 M] 23) = w' := by
  go_enter Try.func30, Try.ntmps30
  go_wp2
  go_ret
  exact ⟨rfl, rfl⟩
theorem there_yes (b : Nat) (B at' n : Int) (w : World) (hB : w.cell? ⟨b, 0, none⟩ = some (.int .i64 B)) (hn : 0 ≤ n) (h1 : B ≤ 1000) (h0 : 0 ≤ B) (hn2 : n ≤ 1000) (h : 0 ≤ at' ∧ at' ≤ B - n) :
    Calls Try.prog 36 #[.int .i64 at', .int .i64 n, .pointer (some ⟨b, 0, none⟩)] w fun e w' => e = .returned (.bool true) ∧ w = w' := by
  obtain ⟨g1, g2⟩ := h
  go_enter Try.func36, Try.ntmps36
  go_wp2
  go_ret
  exact ⟨by simp <;> omega, rfl⟩
theorem there_no (b : Nat) (B at' n : Int) (w : World) (hB : w.cell? ⟨b, 0, none⟩ = some (.int .i64 B)) (hn : 0 ≤ n) (h1 : B ≤ 1000) (h0 : 0 ≤ B) (hn2 : n ≤ 1000) (h : ¬ (0 ≤ at' ∧ at' ≤ B - n)) :
    Calls Try.prog 36 #[.int .i64 at', .int .i64 n, .pointer (some ⟨b, 0, none⟩)] w fun e w' => e = .returned (.bool false) ∧ w = w' := by
  have hor : at' < 0 ∨ (0 ≤ at' ∧ B - n < at') := by omega
  clear h
  rcases hor with g | ⟨g, g'⟩
  all_goals
    go_enter Try.func36, Try.ntmps36
    go_wp2
    go_ret
    exact ⟨by simp <;> omega, rfl⟩

theorem span_arg (B S M at' n : Int) (w : World) (h : ¬ (GeomOk B S M ∧ 1 ≤ n ∧ n ≤ 8)) :
    Calls Try.prog 20 #[.agg #[.int .i64 B, .int .i64 S, .int .i64 M], .int .i64 at', .int .i64 n] w fun e w' => e = .returned (.int .i64 2) ∧ Below w.heap.size w w' := by
  have B0 : Below w.heap.size w (w.alloc (.cells #[.int .i64 B, .int .i64 S, .int .i64 M] 23)) := (Below.refl _ _).alloc (Nat.le_refl _) _
  by_cases hg : GeomOk B S M
  · have hor : n < 1 ∨ (1 ≤ n ∧ 8 < n) := by
      by_cases a : n < 1
      · exact .inl a
      · exact .inr ⟨by omega, by
          by_cases b : 8 < n
          · exact b
          · exact absurd ⟨hg, by omega, by omega⟩ h⟩
    have HG := Lib.hid hg
    clear h hg
    rcases hor with a | ⟨a, a'⟩
    all_goals
      go_enter Try.func20, Try.ntmps20
      go_wp2_with fail
      generalize (w.alloc (.cells #[.int .i64 B, .int .i64 S, .int .i64 M] 23)) = w0 at B0 ⊢
      refine (check_ok B S M _ HG.out).mono ?_
      rintro e w1 ⟨rfl, hb1⟩
      go_wp2
      go_ret
      exact ⟨rfl, B0.trans (hb1.mono B0.size)⟩
  · have HG := Lib.hid hg
    clear h hg
    go_enter Try.func20, Try.ntmps20
    go_wp2_with fail
    generalize (w.alloc (.cells #[.int .i64 B, .int .i64 S, .int .i64 M] 23)) = w0 at B0 ⊢
    refine (check_no B S M _ HG.out).mono ?_
    rintro e w1 ⟨rfl, hb1⟩
    go_wp2
    go_ret
    exact ⟨rfl, B0.trans (hb1.mono B0.size)⟩

def spanE (B at' n : Int) : Int := if 0 ≤ at' ∧ at' ≤ B - n then 0 else 3
theorem span_ok (B S M at' n : Int) (w : World) (hg : GeomOk B S M) (h1 : 1 ≤ n) (h8 : n ≤ 8) :
    Calls Try.prog 20 #[.agg #[.int .i64 B, .int .i64 S, .int .i64 M], .int .i64 at', .int .i64 n] w fun e w' => e = .returned (.int .i64 (spanE B at' n)) ∧ Below w.heap.size w w' := by
  have hB0 : 0 ≤ B := by have := hg.1; omega
  have hB1 : B ≤ 1000 := by have := hg.2.1; omega
  have HG := Lib.hid hg
  have B0 : Below w.heap.size w (w.alloc (.cells #[.int .i64 B, .int .i64 S, .int .i64 M] 23)) := (Below.refl _ _).alloc (Nat.le_refl _) _
  have c0 := World.cell?_alloc_new w #[.int .i64 B, .int .i64 S, .int .i64 M] 23 0
  have c1 := World.cell?_alloc_new w #[.int .i64 B, .int .i64 S, .int .i64 M] 23 1
  have c2 := World.cell?_alloc_new w #[.int .i64 B, .int .i64 S, .int .i64 M] 23 2
  have hs : w.heap.size < (w.alloc (.cells #[.int .i64 B, .int .i64 S, .int .i64 M] 23)).heap.size := by simp
  clear hg
  by_cases hr : 0 ≤ at' ∧ at' ≤ B - n
  · rw [show spanE B at' n = 0 from if_pos hr]
    have HR := Lib.hid hr
    clear hr
    go_enter Try.func20, Try.ntmps20
    go_wp2_with fail
    generalize (w.alloc (.cells #[.int .i64 B, .int .i64 S, .int .i64 M] 23)) = w0 at B0 c0 c1 c2 hs ⊢
    refine (check_ok B S M _ HG.out).mono ?_
    rintro e w1 ⟨rfl, hb1⟩
    have d0 := (hb1.cell (p := ⟨w.heap.size, 0, none⟩) hs).trans c0
    have d1 := (hb1.cell (p := ⟨w.heap.size, 1, none⟩) hs).trans c1
    have d2 := (hb1.cell (p := ⟨w.heap.size, 2, none⟩) hs).trans c2
    have B1 := B0.trans (hb1.mono B0.size)
    go_wp2_with fail
    refine (within_any B S M _).mono ?_
    rintro e w' ⟨rfl, rfl⟩
    have B2 := B1.alloc B1.size (.cells #[.int .i64 B, .int .i64 S, .int .i64 M] 23)
    have k0 := World.cell?_alloc_new w1 #[.int .i64 B, .int .i64 S, .int .i64 M] 23 0
    generalize (w1.alloc (.cells #[.int .i64 B, .int .i64 S, .int .i64 M] 23)) = w2 at B2 k0 ⊢
    go_wp2_with fail
    refine (there_yes _ B at' n _ k0 (by omega) hB1 hB0 (by omega) HR.out).mono ?_
    rintro e w' ⟨rfl, rfl⟩
    go_wp2
    go_ret
    exact ⟨rfl, B2⟩
  · rw [show spanE B at' n = 3 from if_neg hr]
    have HR := Lib.hid hr
    clear hr
    go_enter Try.func20, Try.ntmps20
    go_wp2_with fail
    generalize (w.alloc (.cells #[.int .i64 B, .int .i64 S, .int .i64 M] 23)) = w0 at B0 c0 c1 c2 hs ⊢
    refine (check_ok B S M _ HG.out).mono ?_
    rintro e w1 ⟨rfl, hb1⟩
    have d0 := (hb1.cell (p := ⟨w.heap.size, 0, none⟩) hs).trans c0
    have d1 := (hb1.cell (p := ⟨w.heap.size, 1, none⟩) hs).trans c1
    have d2 := (hb1.cell (p := ⟨w.heap.size, 2, none⟩) hs).trans c2
    have B1 := B0.trans (hb1.mono B0.size)
    go_wp2_with fail
    refine (within_any B S M _).mono ?_
    rintro e w' ⟨rfl, rfl⟩
    have B2 := B1.alloc B1.size (.cells #[.int .i64 B, .int .i64 S, .int .i64 M] 23)
    have k0 := World.cell?_alloc_new w1 #[.int .i64 B, .int .i64 S, .int .i64 M] 23 0
    generalize (w1.alloc (.cells #[.int .i64 B, .int .i64 S, .int .i64 M] 23)) = w2 at B2 k0 ⊢
    go_wp2_with fail
    refine (there_no _ B at' n _ k0 (by omega) hB1 hB0 (by omega) HR.out).mono ?_
    rintro e w' ⟨rfl, rfl⟩
    go_wp2
    go_ret
    exact ⟨rfl, B2⟩

theorem r09right_yes (B S M : Int) (w : World) (h : GeomOk B S M) :
    Calls Try.prog 11 #[.agg #[.int .i64 B, .int .i64 S, .int .i64 M]] w fun e w' => e = .returned (.bool true) ∧ Below w.heap.size w w' := by
  obtain ⟨h1, h2, h3, h4, h5, h6, h7⟩ := h
  have b3 : (B % 4 == 0) = true := by rw [beq_iff_eq]; exact h3
  clear h3
  go_enter Try.func11, Try.ntmps11
  go_wp2
  go_ret
  exact ⟨by simp <;> omega, by repeat (first | exact Below.refl _ _ | refine Below.drew ?_ | refine Below.alloc ?_ (by simp) _)⟩
theorem r09right_no (B S M : Int) (w : World) (h : ¬ GeomOk B S M) :
    Calls Try.prog 11 #[.agg #[.int .i64 B, .int .i64 S, .int .i64 M]] w fun e w' => e = .returned (.bool false) ∧ Below w.heap.size w w' := by
  have hor : B < 4 ∨ (4 ≤ B ∧ 64 < B) ∨ (4 ≤ B ∧ B ≤ 64 ∧ (B % 4 == 0) = false) ∨ (4 ≤ B ∧ B ≤ 64 ∧ (B % 4 == 0) = true ∧ S < 1) ∨ (4 ≤ B ∧ B ≤ 64 ∧ (B % 4 == 0) = true ∧ 1 ≤ S ∧ 8 < S) ∨
      (4 ≤ B ∧ B ≤ 64 ∧ (B % 4 == 0) = true ∧ 1 ≤ S ∧ S ≤ 8 ∧ M < 1) ∨ (4 ≤ B ∧ B ≤ 64 ∧ (B % 4 == 0) = true ∧ 1 ≤ S ∧ S ≤ 8 ∧ 1 ≤ M ∧ 1099511627776 < M) := by
    unfold GeomOk at h
    rw [beq_iff_eq, beq_eq_false_iff_ne]
    omega
  clear h
  rcases hor with h | ⟨h1, h⟩ | ⟨h1, h2, h⟩ | ⟨h1, h2, h3, h⟩ | ⟨h1, h2, h3, h4, h⟩ | ⟨h1, h2, h3, h4, h5, h⟩ | ⟨h1, h2, h3, h4, h5, h6, h⟩
  all_goals
    go_enter Try.func11, Try.ntmps11
    go_wp2
    go_ret
    exact ⟨by simp <;> omega, by repeat (first | exact Below.refl _ _ | refine Below.drew ?_ | refine Below.alloc ?_ (by simp) _)⟩

theorem geomSpans_ints (B S M at' n : Int) (w : World) (hlo : -9223372036854775808 ≤ at') (hhi : at' ≤ 9223372036854775807) (nlo : -9223372036854775808 ≤ n) (nhi : n ≤ 9223372036854775807) :
    Calls Try.prog 6 #[.agg #[.int .i64 B, .int .i64 S, .int .i64 M], .int .i64 at', .int .i64 n] w fun e w' => e = .returned (.bool true) ∧ Below w.heap.size w w' := by
  have B0 : Below w.heap.size w (w.alloc (.cells #[.int .i64 B, .int .i64 S, .int .i64 M] 23)) := (Below.refl _ _).alloc (Nat.le_refl _) _
  have c0 := World.cell?_alloc_new w #[.int .i64 B, .int .i64 S, .int .i64 M] 23 0
  have c1 := World.cell?_alloc_new w #[.int .i64 B, .int .i64 S, .int .i64 M] 23 1
  have c2 := World.cell?_alloc_new w #[.int .i64 B, .int .i64 S, .int .i64 M] 23 2
  have hs : w.heap.size < (w.alloc (.cells #[.int .i64 B, .int .i64 S, .int .i64 M] 23)).heap.size := by simp
  by_cases hg : GeomOk B S M
  · have HG := Lib.hid hg
    have g1 := hg.1
    have g2 := hg.2.1
    clear hg
    by_cases hn : 1 ≤ n ∧ n ≤ 8
    · obtain ⟨n1, n8⟩ := hn
      by_cases hr : 0 ≤ at' ∧ at' ≤ B - n
      · have hE : spanE B at' n = 0 := if_pos hr
        have hsp := fun w => span_ok B S M at' n w HG.out n1 n8
        rw [hE] at hsp
        have HS := Lib.hid hsp
        obtain ⟨r1, r2⟩ := hr
        clear hE hsp
        have r3 : at' < B := by omega
        have r4 : n ≤ B - at' := by omega
        go_enter Try.func6, Try.ntmps6
        go_wp2_with fail
        generalize (w.alloc (.cells #[.int .i64 B, .int .i64 S, .int .i64 M] 23)) = w0 at B0 c0 c1 c2 hs ⊢
        refine (HS.out _).mono ?_
        rintro e w1 ⟨rfl, hb1⟩
        have d0 := (hb1.cell (p := ⟨w.heap.size, 0, none⟩) hs).trans c0
        have d1 := (hb1.cell (p := ⟨w.heap.size, 1, none⟩) hs).trans c1
        have d2 := (hb1.cell (p := ⟨w.heap.size, 2, none⟩) hs).trans c2
        have B1 := B0.trans (hb1.mono B0.size)
        have hs1 : w.heap.size < w1.heap.size := Nat.lt_of_lt_of_le hs hb1.size
        go_wp2_with fail
        refine (r09right_yes B S M _ HG.out).mono ?_
        rintro e w2 ⟨rfl, hb2⟩
        have k0 := (hb2.cell (p := ⟨w.heap.size, 0, none⟩) hs1).trans d0
        have B2 := B1.trans (hb2.mono B1.size)
        go_wp2_with fail
        refine (awake09 _).mono ?_
        rintro e w3 ⟨rfl, hb3⟩
        go_wp2
        go_ret
        exact ⟨rfl, B2.trans (hb3.mono B2.size)⟩
      · have hE : spanE B at' n = 3 := if_neg hr
        have hsp := fun w => span_ok B S M at' n w HG.out n1 n8
        rw [hE] at hsp
        have HS := Lib.hid hsp
        have hor : at' < 0 ∨ (0 ≤ at' ∧ B ≤ at') ∨ (0 ≤ at' ∧ at' < B ∧ B - at' < n) := by omega
        clear hE hsp hr
        rcases hor with r1 | ⟨r1, r2⟩ | ⟨r1, r2, r3⟩
        all_goals
          go_enter Try.func6, Try.ntmps6
          go_wp2_with fail
          generalize (w.alloc (.cells #[.int .i64 B, .int .i64 S, .int .i64 M] 23)) = w0 at B0 c0 c1 c2 hs ⊢
          refine (HS.out _).mono ?_
          rintro e w1 ⟨rfl, hb1⟩
          have d0 := (hb1.cell (p := ⟨w.heap.size, 0, none⟩) hs).trans c0
          have d1 := (hb1.cell (p := ⟨w.heap.size, 1, none⟩) hs).trans c1
          have d2 := (hb1.cell (p := ⟨w.heap.size, 2, none⟩) hs).trans c2
          have B1 := B0.trans (hb1.mono B0.size)
          have hs1 : w.heap.size < w1.heap.size := Nat.lt_of_lt_of_le hs hb1.size
          go_wp2_with fail
          refine (r09right_yes B S M _ HG.out).mono ?_
          rintro e w2 ⟨rfl, hb2⟩
          have k0 := (hb2.cell (p := ⟨w.heap.size, 0, none⟩) hs1).trans d0
          have B2 := B1.trans (hb2.mono B1.size)
          go_wp2_with fail
          refine (awake09 _).mono ?_
          rintro e w3 ⟨rfl, hb3⟩
          go_wp2
          go_ret
          exact ⟨rfl, B2.trans (hb3.mono B2.size)⟩
    · have HS := Lib.hid (fun w => span_arg B S M at' n w (fun h => hn h.2))
      have hor : n < 1 ∨ (1 ≤ n ∧ 8 < n) := by omega
      clear hn
      rcases hor with r1 | ⟨r1, r2⟩
      all_goals
        go_enter Try.func6, Try.ntmps6
        go_wp2_with fail
        generalize (w.alloc (.cells #[.int .i64 B, .int .i64 S, .int .i64 M] 23)) = w0 at B0 c0 c1 c2 hs ⊢
        refine (HS.out _).mono ?_
        rintro e w1 ⟨rfl, hb1⟩
        have d0 := (hb1.cell (p := ⟨w.heap.size, 0, none⟩) hs).trans c0
        have d1 := (hb1.cell (p := ⟨w.heap.size, 1, none⟩) hs).trans c1
        have d2 := (hb1.cell (p := ⟨w.heap.size, 2, none⟩) hs).trans c2
        have B1 := B0.trans (hb1.mono B0.size)
        go_wp2_with fail
        refine (r09right_yes B S M _ HG.out).mono ?_
        rintro e w2 ⟨rfl, hb2⟩
        have B2 := B1.trans (hb2.mono B1.size)
        go_wp2_with fail
        refine (awake09 _).mono ?_
        rintro e w3 ⟨rfl, hb3⟩
        go_wp2
        go_ret
        exact ⟨rfl, B2.trans (hb3.mono B2.size)⟩
  · have HS := Lib.hid (fun w => span_arg B S M at' n w (fun h => hg h.1))
    have HG := Lib.hid hg
    clear hg
    go_enter Try.func6, Try.ntmps6
    go_wp2_with fail
    generalize (w.alloc (.cells #[.int .i64 B, .int .i64 S, .int .i64 M] 23)) = w0 at B0 c0 c1 c2 hs ⊢
    refine (HS.out _).mono ?_
    rintro e w1 ⟨rfl, hb1⟩
    have d0 := (hb1.cell (p := ⟨w.heap.size, 0, none⟩) hs).trans c0
    have d1 := (hb1.cell (p := ⟨w.heap.size, 1, none⟩) hs).trans c1
    have d2 := (hb1.cell (p := ⟨w.heap.size, 2, none⟩) hs).trans c2
    have B1 := B0.trans (hb1.mono B0.size)
    go_wp2_with fail
    refine (r09right_no B S M _ HG.out).mono ?_
    rintro e w2 ⟨rfl, hb2⟩
    have B2 := B1.trans (hb2.mono B1.size)
    go_wp2_with fail
    refine (awake09 _).mono ?_
    rintro e w3 ⟨rfl, hb3⟩
    go_wp2
    go_ret
    exact ⟨rfl, B2.trans (hb3.mono B2.size)⟩

section
variable {H : Type} {enc : TypeId × Value → H}
theorem geom_fields : ∃ f0 f1 f2, Try.prog.underlying 23 = some (.struct #[f0, f1, f2]) ∧ oneCellFields Try.prog #[f0, f1, f2] = true ∧ f0.type = 3 ∧ f1.type = 3 ∧ f2.type = 3 :=
  ⟨_, _, _, Try.underlying23, by kernel_rfl, rfl, rfl, rfl⟩
theorem open_geom {w : World} {r : Reach} {b0 : Nat} {v : Value} {d : DataW H} {p : List MemPlace} (hok : Value.okWide Try.prog w r b0 23 v) (h : DataW.Trod enc Try.prog w 0 (fun _ => true) true 23 v d p) :
    ∃ B S M : Int, v = .agg #[.int .i64 B, .int .i64 S, .int .i64 M] ∧ (Lit.int .i64 B).wf = true ∧ (Lit.int .i64 S).wf = true ∧ (Lit.int .i64 M).wf = true := by
  obtain ⟨f0, f1, f2, hs, hone, t0, t1, t2⟩ := geom_fields
  obtain ⟨v0, v1, v2, y0, y1, y2, n, rfl, _, _, h0, h1, h2⟩ := Joins.open_agg3 hs hone (by kernel_rfl) hok h
  rw [t0] at h0
  rw [t1] at h1
  rw [t2] at h2
  obtain ⟨B, rfl, wB⟩ := field_int Try.underlying3 h0
  obtain ⟨S, rfl, wS⟩ := field_int Try.underlying3 h1
  obtain ⟨M, rfl, wM⟩ := field_int Try.underlying3 h2
  exact ⟨B, S, M, rfl, wB, wS, wM⟩
end
theorem geomSpans_walk {H : Type} {enc : TypeId × Value → H} {r : Reach} {b0 : Nat} (v : Value) (d : DataW H) (p : List MemPlace) (at' n : Int) (w : World)
    (hok : Value.okWide Try.prog w r b0 23 v) (h : DataW.Trod enc Try.prog w 0 (fun _ => true) true 23 v d p) (ha : (Lit.int .i64 at').wf = true) (hn : (Lit.int .i64 n).wf = true) :
    Calls Try.prog 6 #[v, .int .i64 at', .int .i64 n] w fun e w' => e = .returned (.bool true) ∧ Below w.heap.size w w' := by
  obtain ⟨B, S, M, rfl, _, _, _⟩ := open_geom hok h
  exact geomSpans_ints B S M at' n w (bounds_i64 ha).1 (bounds_i64 ha).2 (bounds_i64 hn).1 (bounds_i64 hn).2
end Go.Proofs.Ytdibdkjohfaebaa
