/- Contracts (cellaret): the reference's reading of a first block. -/
import Derived.Test.YtdibdkjohfaebaaGeE
namespace Go.Proofs.Ytdibdkjohfaebaa
open Go.RowKit Go.Deep
set_option linter.unusedVariables false
attribute [local go_sem ↓] Go.wp_at_zero Go.wp_at_succ

set_option maxRecDepth 100000 in
set_option maxHeartbeats 2000000 in
theorem r09read_short (s : ByteArray) (w : World) (hs : s.size ≠ 64) (hm : s.size ≤ 140737488351232) :
    Calls Try.prog 9 #[.string s] w fun e w' => e = .returned (.tuple #[.agg #[.int .i64 0, .int .i64 0, .int .i64 0], .string ⟨#[]⟩, .bool false]) ∧ Below w.heap.size w w' := by
  have hne : ((s.size : Int) == 64) = false := by simp; omega
  have hne2 : ((s.size : Int) != 64) = true := by simp; omega
  have H := Lib.hid hs
  clear hs
  go_enter Try.func9, Try.ntmps9
  go_wp2
  go_quiet (fail)
  go_wp2
  refine bodyPost_ret (v := .tuple #[.agg #[.int .i64 0, .int .i64 0, .int .i64 0], .string ⟨#[]⟩, .bool false]) (by simp [results, Try.results9, go_sem]) rfl ⟨rfl, ?_⟩
  exact (((below_drewN ((Below.refl _ _).alloc (Nat.le_refl _) _) _).setCell (p := ⟨w.heap.size, 0, none⟩) (Nat.le_refl _) _).setCell (p := ⟨w.heap.size, 1, none⟩) (Nat.le_refl _) _).setCell (p := ⟨w.heap.size, 2, none⟩) (Nat.le_refl _) _
/-- What the reference's reading rests on. -/
structure RFacts (s hd tz tc : ByteArray) (B S M E : Int) : Prop where
  h0 : ((s.size : Int) != 64) = false
  h0' : ((s.size : Int) == 64) = true
  b4 : (4 : Int) ≤ s.size
  b6 : (6 : Int) ≤ s.size
  b8 : (8 : Int) ≤ s.size
  b16 : (16 : Int) ≤ s.size
  b32 : (32 : Int) ≤ s.size
  e1 : s.extract 0 4 = hd
  e2 : s.extract 16 32 = tz
  e3 : s.extract 32 s.size = tc
theorem Fields.rfacts {s hd tz tc : ByteArray} {B S M E : Int} (h : Fields s hd tz tc B S M E) : RFacts s hd tz tc B S M E :=
  ⟨by have := h.size; simp; omega, by have := h.size; simp; omega, by have := h.size; omega, by have := h.size; omega, by have := h.size; omega, by have := h.size; omega, by have := h.size; omega, h.hd, h.tz, by rw [h.size]; exact h.tc⟩
set_option maxRecDepth 100000 in
set_option maxHeartbeats 4000000 in
theorem r09read_64 (s hd tz tc : ByteArray) (B S M E : Int) (w : World) (h : Fields s hd tz tc B S M E) (c1 c2 : Bool) (h1 : (hd.toList == [99, 108, 114, 116]) = c1) (h2 : (tz.toList == [0, 0, 0, 0, 0, 0, 0, 0, 0, 0, 0, 0, 0, 0, 0, 0]) = c2) :
    ((c1 = true ∧ c2 = true ∧ E = 0 ∧ GeomOk B S M) → Calls Try.prog 9 #[.string s] w fun e w' => e = .returned (.tuple #[.agg #[.int .i64 B, .int .i64 S, .int .i64 M], .string tc, .bool true]) ∧ Below w.heap.size w w') ∧
    (¬ (c1 = true ∧ c2 = true ∧ E = 0 ∧ GeomOk B S M) → Calls Try.prog 9 #[.string s] w fun e w' => e = .returned (.tuple #[.agg #[.int .i64 0, .int .i64 0, .int .i64 0], .string ⟨#[]⟩, .bool false]) ∧ Below w.heap.size w w') := by
  obtain ⟨k0, k0', b4, b6, b8, b16, b32, e1, e2, e3⟩ := h.rfacts
  have HZ : Hid (∀ w, Calls Try.prog 26 #[.int .i64 16] w fun e w' => e = .returned (.string ⟨#[0, 0, 0, 0, 0, 0, 0, 0, 0, 0, 0, 0, 0, 0, 0, 0]⟩) ∧ Below w.heap.size w w') := Lib.hid (fun w => zeros_any 16 w (by omega))
  have hg1 : ∀ w, Calls Try.prog 27 #[.string (s.extract 4 6)] w fun e w' => e = .returned (.tuple #[.int .i64 B, .int .i64 0]) ∧ w = w' := fun w => by
    have := r01get_any (s.extract 4 6) w
    rwa [h.b, getE_two _ (ext_len s 4 6 (by omega) (by have := h.size; omega))] at this
  have hg2 : ∀ w, Calls Try.prog 27 #[.string (s.extract 6 8)] w fun e w' => e = .returned (.tuple #[.int .i64 S, .int .i64 0]) ∧ w = w' := fun w => by
    have := r01get_any (s.extract 6 8) w
    rwa [h.sl, getE_two _ (ext_len s 6 8 (by omega) (by have := h.size; omega))] at this
  have hg3 : ∀ w, Calls Try.prog 27 #[.string (s.extract 8 16)] w fun e w' => e = .returned (.tuple #[.int .i64 M, .int .i64 E]) ∧ w = w' := fun w => by
    have := r01get_any (s.extract 8 16) w
    rwa [h.m, h.e] at this
  have H1 := Lib.hid hg1
  have H2 := Lib.hid hg2
  have H3 := Lib.hid hg3
  have HF := Lib.hid h
  clear hg1 hg2 hg3 h
  constructor
  · rintro ⟨rfl, rfl, rfl, hok⟩
    have HC := Lib.hid (fun w => r09right_yes B S M w hok)
    clear hok
    obtain ⟨w0, HE, T0, B0⟩ : ∃ w0, Hid (w.alloc (.cells #[.int .i64 0, .int .i64 0, .int .i64 0] 23) = w0) ∧ Tri3 w0 w.heap.size 0 0 0 ∧ Below w.heap.size w w0 := ⟨_, Lib.hid rfl, Tri3.new _ _ _ _ _, (Below.refl _ _).alloc (Nat.le_refl _) _⟩
    have HT0 := Lib.hid T0
    clear T0
    go_enter Try.func9, Try.ntmps9
    go_wp2
    rw [HE.out]
    clear HE
    go_region_held3 (fun w' => True) (trivial) (first | (go_simp; go_at_call 26; refine (HZ.out _).mono ?_; rintro e w' ⟨rfl, hb⟩))
    have T1 := Lib.hid ((HT0.out.same (w' := w0.drew) rfl (Nat.le_refl _)).below hb)
    have B1 := B0.drew.trans (hb.mono B0.size)
    clear hb
    go_wp2_with fail
    refine (H1.out _).mono ?_
    rintro e w2 ⟨rfl, rfl⟩
    go_wp2_with fail
    refine (H2.out _).mono ?_
    rintro e w2 ⟨rfl, rfl⟩
    go_wp2_with fail
    refine (H3.out _).mono ?_
    rintro e w2 ⟨rfl, rfl⟩
    go_wp2_with fail
    refine (HC.out _).mono ?_
    rintro e w8 ⟨rfl, b8⟩
    have A1 : Below w'.heap.size w' (w'.alloc (.cells #[.int .i64 B, .int .i64 S, .int .i64 M] 23)) := (Below.refl _ _).alloc (Nat.le_refl _) _
    have TX := Lib.hid ((T1.out.below A1).below b8)
    have N8 := (Tri3.new w' 23 B S M).below b8
    have BX := (B1.trans (A1.mono B1.size)).trans (b8.mono (B1.trans (A1.mono B1.size)).size)
    have c0 := TX.out.c0
    have c1 := TX.out.c1
    have c2 := TX.out.c2
    have f0 := TX.out.f0
    have f1 := TX.out.f1
    have f2 := TX.out.f2
    have n0 := N8.c0
    have n1 := N8.c1
    have n2 := N8.c2
    clear b8 A1 N8
    go_wp2
    go_region
    all_goals
      go_wp2
      refine bodyPost_ret (v := .tuple #[.agg #[.int .i64 B, .int .i64 S, .int .i64 M], .string tc, .bool true]) (by simp [results, Try.results9, go_sem, c0, c1, c2]) rfl ⟨rfl, ?_⟩
      first
        | exact (((BX.setCell (p := ⟨w.heap.size, 0, none⟩) (Nat.le_refl _) _).setCell (p := ⟨w.heap.size, 1, none⟩) (Nat.le_refl _) _).setCell (p := ⟨w.heap.size, 2, none⟩) (Nat.le_refl _) _).drew
        | exact ((BX.setCell (p := ⟨w.heap.size, 0, none⟩) (Nat.le_refl _) _).setCell (p := ⟨w.heap.size, 1, none⟩) (Nat.le_refl _) _).setCell (p := ⟨w.heap.size, 2, none⟩) (Nat.le_refl _) _
  · intro hno
    cases c1
    · clear hno
      obtain ⟨w0, HE, T0, B0⟩ : ∃ w0, Hid (w.alloc (.cells #[.int .i64 0, .int .i64 0, .int .i64 0] 23) = w0) ∧ Tri3 w0 w.heap.size 0 0 0 ∧ Below w.heap.size w w0 := ⟨_, Lib.hid rfl, Tri3.new _ _ _ _ _, (Below.refl _ _).alloc (Nat.le_refl _) _⟩
      have HT0 := Lib.hid T0
      clear T0
      go_enter Try.func9, Try.ntmps9
      go_wp2
      rw [HE.out]
      clear HE
      go_quiet (fail)
      have TX := Lib.hid (HT0.out.same (w' := w0.drewN nq) rfl (Nat.le_refl _))
      have BX := below_drewN B0 nq
      have c0 := TX.out.c0
      have c1 := TX.out.c1
      have c2 := TX.out.c2
      have f0 := TX.out.f0
      have f1 := TX.out.f1
      have f2 := TX.out.f2
      go_wp2
      refine bodyPost_ret (v := .tuple #[.agg #[.int .i64 0, .int .i64 0, .int .i64 0], .string ⟨#[]⟩, .bool false]) (by simp [results, Try.results9, go_sem, c0, c1, c2]) rfl ⟨rfl, ?_⟩
      exact ((BX.setCell (p := ⟨w.heap.size, 0, none⟩) (Nat.le_refl _) _).setCell (p := ⟨w.heap.size, 1, none⟩) (Nat.le_refl _) _).setCell (p := ⟨w.heap.size, 2, none⟩) (Nat.le_refl _) _
    cases c2
    · clear hno
      obtain ⟨w0, HE, T0, B0⟩ : ∃ w0, Hid (w.alloc (.cells #[.int .i64 0, .int .i64 0, .int .i64 0] 23) = w0) ∧ Tri3 w0 w.heap.size 0 0 0 ∧ Below w.heap.size w w0 := ⟨_, Lib.hid rfl, Tri3.new _ _ _ _ _, (Below.refl _ _).alloc (Nat.le_refl _) _⟩
      have HT0 := Lib.hid T0
      clear T0
      go_enter Try.func9, Try.ntmps9
      go_wp2
      rw [HE.out]
      clear HE
      go_region_held3 (fun w' => True) (trivial) (first | (go_simp; go_at_call 26; refine (HZ.out _).mono ?_; rintro e w' ⟨rfl, hb⟩))
      have TX := Lib.hid ((HT0.out.same (w' := w0.drew) rfl (Nat.le_refl _)).below hb)
      have BX := B0.drew.trans (hb.mono B0.size)
      clear hb
      have c0 := TX.out.c0
      have c1 := TX.out.c1
      have c2 := TX.out.c2
      have f0 := TX.out.f0
      have f1 := TX.out.f1
      have f2 := TX.out.f2
      go_wp2
      refine bodyPost_ret (v := .tuple #[.agg #[.int .i64 0, .int .i64 0, .int .i64 0], .string ⟨#[]⟩, .bool false]) (by simp [results, Try.results9, go_sem, c0, c1, c2]) rfl ⟨rfl, ?_⟩
      exact ((BX.setCell (p := ⟨w.heap.size, 0, none⟩) (Nat.le_refl _) _).setCell (p := ⟨w.heap.size, 1, none⟩) (Nat.le_refl _) _).setCell (p := ⟨w.heap.size, 2, none⟩) (Nat.le_refl _) _
    by_cases hE : E = 0
    · subst hE
      have HC := Lib.hid (fun w => r09right_no B S M w (fun hh => hno ⟨rfl, rfl, rfl, hh⟩))
      clear hno
      obtain ⟨w0, HE, T0, B0⟩ : ∃ w0, Hid (w.alloc (.cells #[.int .i64 0, .int .i64 0, .int .i64 0] 23) = w0) ∧ Tri3 w0 w.heap.size 0 0 0 ∧ Below w.heap.size w w0 := ⟨_, Lib.hid rfl, Tri3.new _ _ _ _ _, (Below.refl _ _).alloc (Nat.le_refl _) _⟩
      have HT0 := Lib.hid T0
      clear T0
      go_enter Try.func9, Try.ntmps9
      go_wp2
      rw [HE.out]
      clear HE
      go_region_held3 (fun w' => True) (trivial) (first | (go_simp; go_at_call 26; refine (HZ.out _).mono ?_; rintro e w' ⟨rfl, hb⟩))
      have T1 := Lib.hid ((HT0.out.same (w' := w0.drew) rfl (Nat.le_refl _)).below hb)
      have B1 := B0.drew.trans (hb.mono B0.size)
      clear hb
      go_wp2_with fail
      refine (H1.out _).mono ?_
      rintro e w2 ⟨rfl, rfl⟩
      go_wp2_with fail
      refine (H2.out _).mono ?_
      rintro e w2 ⟨rfl, rfl⟩
      go_wp2_with fail
      refine (H3.out _).mono ?_
      rintro e w2 ⟨rfl, rfl⟩
      go_wp2_with fail
      refine (HC.out _).mono ?_
      rintro e w8 ⟨rfl, b8⟩
      have A1 : Below w'.heap.size w' (w'.alloc (.cells #[.int .i64 B, .int .i64 S, .int .i64 M] 23)) := (Below.refl _ _).alloc (Nat.le_refl _) _
      have TX := Lib.hid ((T1.out.below A1).below b8)
      have BX := (B1.trans (A1.mono B1.size)).trans (b8.mono (B1.trans (A1.mono B1.size)).size)
      have c0 := TX.out.c0
      have c1 := TX.out.c1
      have c2 := TX.out.c2
      have f0 := TX.out.f0
      have f1 := TX.out.f1
      have f2 := TX.out.f2
      clear b8 A1
      go_wp2
      refine bodyPost_ret (v := .tuple #[.agg #[.int .i64 0, .int .i64 0, .int .i64 0], .string ⟨#[]⟩, .bool false]) (by simp [results, Try.results9, go_sem, c0, c1, c2]) rfl ⟨rfl, ?_⟩
      exact ((BX.setCell (p := ⟨w.heap.size, 0, none⟩) (Nat.le_refl _) _).setCell (p := ⟨w.heap.size, 1, none⟩) (Nat.le_refl _) _).setCell (p := ⟨w.heap.size, 2, none⟩) (Nat.le_refl _) _
    · have hE' : (E != 0) = true := by simpa using hE
      have HNE := Lib.hid hE
      clear hno hE
      obtain ⟨w0, HE, T0, B0⟩ : ∃ w0, Hid (w.alloc (.cells #[.int .i64 0, .int .i64 0, .int .i64 0] 23) = w0) ∧ Tri3 w0 w.heap.size 0 0 0 ∧ Below w.heap.size w w0 := ⟨_, Lib.hid rfl, Tri3.new _ _ _ _ _, (Below.refl _ _).alloc (Nat.le_refl _) _⟩
      have HT0 := Lib.hid T0
      clear T0
      go_enter Try.func9, Try.ntmps9
      go_wp2
      rw [HE.out]
      clear HE
      go_region_held3 (fun w' => True) (trivial) (first | (go_simp; go_at_call 26; refine (HZ.out _).mono ?_; rintro e w' ⟨rfl, hb⟩))
      have T1 := Lib.hid ((HT0.out.same (w' := w0.drew) rfl (Nat.le_refl _)).below hb)
      have B1 := B0.drew.trans (hb.mono B0.size)
      clear hb
      go_wp2_with fail
      refine (H1.out _).mono ?_
      rintro e w2 ⟨rfl, rfl⟩
      go_wp2_with fail
      refine (H2.out _).mono ?_
      rintro e w2 ⟨rfl, rfl⟩
      go_wp2_with fail
      refine (H3.out _).mono ?_
      rintro e w2 ⟨rfl, rfl⟩
      have A1 : Below w'.heap.size w' (w'.alloc (.cells #[.int .i64 B, .int .i64 S, .int .i64 M] 23)) := (Below.refl _ _).alloc (Nat.le_refl _) _
      have TX := Lib.hid (T1.out.below A1)
      have BX := B1.trans (A1.mono B1.size)
      have c0 := TX.out.c0
      have c1 := TX.out.c1
      have c2 := TX.out.c2
      have f0 := TX.out.f0
      have f1 := TX.out.f1
      have f2 := TX.out.f2
      clear A1
      go_wp2
      refine bodyPost_ret (v := .tuple #[.agg #[.int .i64 0, .int .i64 0, .int .i64 0], .string ⟨#[]⟩, .bool false]) (by simp [results, Try.results9, go_sem, c0, c1, c2]) rfl ⟨rfl, ?_⟩
      exact ((BX.setCell (p := ⟨w.heap.size, 0, none⟩) (Nat.le_refl _) _).setCell (p := ⟨w.heap.size, 1, none⟩) (Nat.le_refl _) _).setCell (p := ⟨w.heap.size, 2, none⟩) (Nat.le_refl _) _
end Go.Proofs.Ytdibdkjohfaebaa
