/- The law IvsDo: walk. -/
import Derived.Test.YticfmklpcaoiaaaIvE
import Derived.Test.YticfmklpcaoiaaaOpen
namespace Go.Proofs.Yticfmklpcaoiaaa
open Go.RowKit Go.Deep Go.ChangeShapes Go.WideShapes
set_option linter.unusedVariables false

set_option maxRecDepth 100000 in
set_option maxHeartbeats 400000 in
theorem right_yes (n m : Int) (w : World) (h : 1 ≤ m ∧ m ≤ 1099511627776 ∧ 0 ≤ n ∧ n ≤ m) :
    Calls Try.prog 8 #[.int .i64 n, .int .i64 m] w fun e w' => e = .returned (.bool true) ∧ w = w' := by
  obtain ⟨h1, h2, h3, h4⟩ := h
  go_enter Try.func8, Try.ntmps8
  go_wp2
  go_ret
  exact ⟨by simp, rfl⟩
set_option maxRecDepth 100000 in
set_option maxHeartbeats 400000 in
theorem right_no (n m : Int) (w : World) (h : ¬ (1 ≤ m ∧ m ≤ 1099511627776 ∧ 0 ≤ n ∧ n ≤ m)) :
    Calls Try.prog 8 #[.int .i64 n, .int .i64 m] w fun e w' => e = .returned (.bool false) ∧ w = w' := by
  have hor : m < 1 ∨ (1 ≤ m ∧ 1099511627776 < m) ∨ (1 ≤ m ∧ m ≤ 1099511627776 ∧ n < 0) ∨ (1 ≤ m ∧ m ≤ 1099511627776 ∧ 0 ≤ n ∧ m < n) := by omega
  clear h
  rcases hor with h | ⟨h1, h⟩ | ⟨h1, h2, h⟩ | ⟨h1, h2, h3, h⟩
  all_goals
    go_enter Try.func8, Try.ntmps8
    go_wp2
    go_ret
    refine ⟨?_, rfl⟩
    simp
    try omega

/-- A slice of acts that came in: each element's two numbers. -/
def ActRow (w : World) (ao : Option Addr) (len : Nat) : Prop :=
  0 < len → ∃ b off, ao = some ⟨b, off, none⟩ ∧ b < w.heap.size ∧ ∀ i, i < len → ∃ K N : Int, w.cell? ⟨b, off + i * 2, none⟩ = some (.int .i64 K) ∧ w.cell? ⟨b, off + i * 2 + 1, none⟩ = some (.int .i64 N)

set_option maxRecDepth 100000 in
set_option maxHeartbeats 1000000 in
theorem ivsDo_no (n m : Int) (ao : Option Addr) (len cap : Nat) (w : World) (h : ¬ (1 ≤ m ∧ m ≤ 1099511627776 ∧ 0 ≤ n ∧ n ≤ m)) :
    Calls Try.prog 3 #[.int .i64 n, .int .i64 m, .slice ao len cap] w fun e w' => e = .returned (.bool true) ∧ Below w.heap.size w w' := by
  have H := Lib.hid h
  clear h
  go_enter Try.func3, Try.ntmps3
  go_wp2_with fail
  refine (ivsNew_no n m _ H.out).mono ?_
  rintro e w' ⟨rfl, rfl⟩
  go_wp2_with fail
  refine (right_no n m _ H.out).mono ?_
  rintro e w' ⟨rfl, rfl⟩
  go_wp2_with fail
  refine (awake20 _).mono ?_
  rintro e w4 ⟨rfl, hb4⟩
  go_wp2
  go_ret
  exact ⟨rfl, hb4⟩

set_option maxRecDepth 100000 in
set_option maxHeartbeats 1000000 in
theorem ivsDo_yes (n m : Int) (ao : Option Addr) (len cap : Nat) (w : World) (h : 1 ≤ m ∧ m ≤ 1099511627776 ∧ 0 ≤ n ∧ n ≤ m) (hl : len ≤ 9223372036854775807) (hA : Hid (ActRow w ao len)) :
    Calls Try.prog 3 #[.int .i64 n, .int .i64 m, .slice ao len cap] w fun e w' => e = .returned (.bool true) ∧ Below w.heap.size w w' := by
  obtain ⟨h1, h2, h3, h4⟩ := h
  have hm2 : m ≤ 1099511627776 := h2
  go_enter Try.func3, Try.ntmps3
  go_wp2_with fail
  refine (ivsNew_ok n m _ h1 h2 h3 h4).mono ?_
  rintro e w' ⟨rfl, rfl⟩
  have B0 : Below w.heap.size w (w.alloc (.cells #[.int .i64 n, .int .i64 n, .int .i64 m] 48)) := (Below.refl _ _).alloc (Nat.le_refl _) _
  have R0 := Tri.new w 48 n n m h3 (Int.le_refl _) h4 h2
  have hs0 : (w.alloc (.cells #[.int .i64 n, .int .i64 n, .int .i64 m] 48)).heap.size = w.heap.size + 1 := by simp
  generalize w.alloc (.cells #[.int .i64 n, .int .i64 n, .int .i64 m] 48) = w0 at B0 R0 hs0 ⊢
  have HS := Lib.hid hs0
  clear hs0
  go_wp2_with fail
  refine (right_yes n m _ ⟨h1, h2, h3, h4⟩).mono ?_
  rintro e w' ⟨rfl, rfl⟩
  go_wp2_with fail
  have B1 := B0.alloc B0.size (.cells #[.int .i64 n, .int .i64 n, .int .i64 m] 31)
  have R1 := R0.below ((Below.refl _ _).alloc (Nat.le_refl _) (.cells #[.int .i64 n, .int .i64 n, .int .i64 m] 31))
  have X1 := Tri.new w0 31 n n m h3 (Int.le_refl _) h4 h2
  have hne : w.heap.size ≠ w0.heap.size := by rw [HS.out]; omega
  have hle : w.heap.size ≤ w0.heap.size := by rw [HS.out]; omega
  generalize w0.alloc (.cells #[.int .i64 n, .int .i64 n, .int .i64 m] 31) = w1 at B1 R1 X1 ⊢
  clear HS B0 R0
  generalize w0.heap.size = xb at X1 hne hle ⊢
  have HNE := Lib.hid hne
  clear hne
  go_loopw [10] (fun i wr => ∃ (k : Nat) (p t : Int), k ≤ len ∧ i = .int .i64 k ∧ Tri wr w.heap.size p t m ∧ Tri wr xb p t m ∧ Below w.heap.size w wr)
    (fun i _ => len - (intOf i).toNat)
  case atStart => exact ⟨0, n, n, by omega, rfl, R1, X1, B1⟩
  case round =>
    obtain ⟨k, p, t, hk, rfl, R, X, B⟩ := hrel
    by_cases hlt : k < len
    · by_cases h80 : k < 80
      · obtain ⟨b, off, rfl, hb, hcs⟩ := hA.out (by omega)
        obtain ⟨K, N, c0, c1⟩ := hcs k hlt
        have d0 := (B.cell (p := ⟨b, off + k * 2, none⟩) hb).trans c0
        have d1 := (B.cell (p := ⟨b, off + k * 2 + 1, none⟩) hb).trans c1
        clear hcs c0 c1
        go_wp2_with fail
        refine (do_any _ _ HNE.out wr p t m K N R X).mono ?_
        rintro e w2 ⟨kk, p', t', rfl, hor, R2, X2, C2⟩
        have B2 := C2.below B B.size (fun i hi => by rcases hi with rfl | rfl <;> omega)
        have x0 := X2.c0
        have x1 := X2.c1
        have x2 := X2.c2
        have l0 := X2.lo
        have l1 := X2.nt
        have l2 := X2.tm
        go_wp2
        go_quiet ((first | (go_at_call 11; exact Calls.quiet_of ((ivsLeft_any _ _ _ _ _ (R2.drewN _)).mono fun _ _ ⟨a, b⟩ => ⟨a, 1, b.symm⟩)) | (go_at_call 12; exact Calls.quiet_of ((ivsTop_any _ _ _ _ _ (R2.drewN _)).mono fun _ _ ⟨a, b⟩ => ⟨a, 0, b.symm⟩))))
        go_wp2
        go_roundw
        case rel => exact ⟨k + 1, p', t', by omega, by go_num, R2.drewN _, X2.drewN _, below_drewN B2 _⟩
        case measure => simp [intOf]; omega
      · go_wp2_with fail
        refine (awake20 _).mono ?_
        rintro e w4 ⟨rfl, hb4⟩
        go_wp2
        go_ret
        exact ⟨rfl, B.trans (hb4.mono B.size)⟩
    · go_wp2_with fail
      refine (awake20 _).mono ?_
      rintro e w4 ⟨rfl, hb4⟩
      go_wp2
      go_ret
      exact ⟨rfl, B.trans (hb4.mono B.size)⟩

section
variable {H : Type} {enc : TypeId × Value → H}
theorem act_fields : ∃ f0 f1, Try.prog.underlying 35 = some (.struct #[f0, f1]) ∧ oneCellFields Try.prog #[f0, f1] = true ∧ f0.type = 3 ∧ f1.type = 3 := ⟨_, _, Try.underlying35, by kernel_rfl, rfl, rfl⟩
theorem open_acts {w : World} {v : Value} {d : DataW H} {p : List MemPlace} (hok : ∃ a len cap, v = .slice a len cap) (h : DataW.Trod enc Try.prog w 0 (fun _ => true) true 22 v d p) :
    ∃ ao len cap, v = .slice ao len cap ∧ len ≤ maxLen ∧ ActRow w ao len := by
  obtain ⟨f0, f1, hs, hone, t0, t1⟩ := act_fields
  obtain ⟨ao, len, cap, rfl, hl, hrow⟩ := open_structs Try.underlying22 hs hone (by kernel_rfl) (by simp) h hok
  refine ⟨ao, len, cap, rfl, hl, fun hp => ?_⟩
  obtain ⟨b, off, ho, hb, hi⟩ := hrow hp
  refine ⟨b, off, ho, hb, fun i hil => ?_⟩
  obtain ⟨n, hn⟩ := hi i hil
  obtain ⟨v0, y0, c0, h0⟩ := hn 0 f0 rfl
  obtain ⟨v1, y1, c1, h1⟩ := hn 1 f1 rfl
  rw [t0] at h0
  rw [t1] at h1
  obtain ⟨K, rfl, _⟩ := field_int Try.underlying3 h0
  obtain ⟨N, rfl, _⟩ := field_int Try.underlying3 h1
  exact ⟨K, N, by simpa using c0, by simpa [Nat.add_assoc] using c1⟩
end

theorem ivsDo_walk (n m : Int) {H : Type} {enc : TypeId × Value → H} (v : Value) (d : DataW H) (p : List MemPlace) (w : World) (hn : (Lit.int .i64 n).wf = true) (hm : (Lit.int .i64 m).wf = true)
    (hv : ∃ a len cap, v = .slice a len cap) (h : DataW.Trod enc Try.prog w 0 (fun _ => true) true 22 v d p) :
    Calls Try.prog 3 #[.int .i64 n, .int .i64 m, v] w fun e w' => e = .returned (.bool true) ∧ Below w.heap.size w w' := by
  obtain ⟨ao, len, cap, rfl, hl, hA⟩ := open_acts hv h
  by_cases hr : 1 ≤ m ∧ m ≤ 1099511627776 ∧ 0 ≤ n ∧ n ≤ m
  · exact ivsDo_yes n m ao len cap w hr (by unfold maxLen at hl; exact hl) (Lib.hid hA)
  · exact ivsDo_no n m ao len cap w hr
end Go.Proofs.Yticfmklpcaoiaaa
