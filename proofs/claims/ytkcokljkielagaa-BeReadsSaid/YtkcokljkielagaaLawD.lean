/- The law BeReads: walk. -/
import Derived.Test.YtkcokljkielagaaLawA
import Derived.Test.YtkcokljkielagaaBeD
import Derived.Test.YtkcokljkielagaaOpen
namespace Go.Proofs.Ytkcokljkielagaa
open Go.RowKit Go.Deep Go.ChangeShapes Go.WideShapes
set_option linter.unusedVariables false

/-- A slice of parts that came in. -/
def PartRow (w : World) (ao : Option Addr) (len : Nat) : Prop :=
  0 < len → ∃ b off, ao = some ⟨b, off, none⟩ ∧ b < w.heap.size ∧ ∀ i, i < len → ∃ (N : Int) (M : Bool), w.cell? ⟨b, off + i * 2, none⟩ = some (.int .i64 N) ∧ w.cell? ⟨b, off + i * 2 + 1, none⟩ = some (.bool M) ∧ N ≤ 9223372036854775807 ∧ -9223372036854775808 ≤ N

def endOf (s : ByteArray) (k : Int) : Int := numAt 6 (-6) (s.size - k)
theorem endOf_eq (s : ByteArray) (k : Int) : (endOf s k == 0) = (k == (s.size : Int)) := by
  unfold endOf
  rw [Bool.eq_iff_iff, beq_iff_eq, beq_iff_eq]
  by_cases e : k = s.size
  · subst e; simp [numAt]
  · rw [numAt_no _ _ _ (by omega)]; omega

set_option maxRecDepth 100000 in
set_option maxHeartbeats 4000000 in
theorem beReads_parts (s : ByteArray) (ao : Option Addr) (len cap : Nat) (w : World) (hs : s.size ≤ 140737488351232) (hl : len ≤ 9223372036854775807) (hA : Hid (PartRow w ao len)) :
    Calls Try.prog 6 #[.string s, .slice ao len cap] w fun e w' => e = .returned (.bool true) ∧ Below w.heap.size w w' := by
  have hm : s.size ≤ 1000000000000000 := by omega
  go_enter Try.func6, Try.ntmps6
  go_wp2_with fail
  refine (read_any _ _).mono ?_
  rintro e w' ⟨rfl, rfl⟩
  have B0 : Below w.heap.size w (w.alloc (.cells #[.string s, .int .i64 0] 58)) := (Below.refl _ _).alloc (Nat.le_refl _) _
  have R0 := Rd.new w s 58
  generalize w.alloc (.cells #[.string s, .int .i64 0] 58) = w0 at B0 R0 ⊢
  go_wp2_with fail
  go_loopw [6, 7] (fun a i wr => ∃ (k at' : Nat), k ≤ len ∧ i = .int .i64 k ∧ a = .int .i64 at' ∧ Rd wr w.heap.size s at' ∧ Below w.heap.size w wr)
    (fun _ i _ => len - (intOf i).toNat)
  case atStart => exact ⟨0, 0, by omega, rfl, rfl, R0, B0⟩
  case round =>
    obtain ⟨k, q, hk, rfl, rfl, R, B⟩ := hrel
    by_cases hlt : k < len ∧ k < 50
    · obtain ⟨hlt, h50⟩ := hlt
      obtain ⟨b, off, rfl, hb, hcs⟩ := hA.out (by omega)
      obtain ⟨n, M, c0, c1, nhi, nlo⟩ := hcs k hlt
      have d0 := (B.cell (p := ⟨b, off + k * 2, none⟩) hb).trans c0
      have d1 := (B.cell (p := ⟨b, off + k * 2 + 1, none⟩) hb).trans c1
      clear hcs c0 c1
      have q1 := R.hi
      cases M with
      | true =>
        by_cases h18 : 1 ≤ n ∧ n ≤ 8
        · obtain ⟨g1, g8⟩ := h18
          by_cases hsh : s.size - q < n
          · go_wp2_with fail
            refine (num_short n _ wr s q R hm g1 g8 hsh).mono ?_
            rintro e w2 ⟨rfl, R2, G2⟩
            have B2 := B.grown G2 B.size (fun j e => by cases e; exact Nat.le_refl _)
            have HE := endOf_eq s q
            have HL := end_rd _ _ s q R2.drew hm
            rw [show numAt 6 (-6) (s.size - q) = endOf s q from rfl] at HL
            generalize endOf s q = E at HE HL
            have HL' := Lib.hid HL
            clear HL
            go_wp2_with (first | (go_at_call 23; refine (left_rd R2 hm).mono ?_; rintro e w' ⟨rfl, rfl⟩) | (go_at_call 24; refine HL'.out.mono ?_; rintro e w' ⟨rfl, rfl⟩))
            go_roundw
            case rel => exact ⟨k + 1, q, by omega, by go_num, by go_num, by simpa using R2.drew.drew, B2.drew.drew⟩
            case measure => simp [intOf]; omega
          · obtain ⟨nn, rfl⟩ := Int.eq_ofNat_of_zero_le (show 0 ≤ n by omega)
            have HNM := num_ok nn w.heap.size wr s q R hm g1 g8 (by omega)
            rw [show (q : Int).toNat = q from by omega, show ((q : Int) + (nn : Int)).toNat = q + nn from by omega] at HNM
            have HG := fun w => r01get_any (w := w) (s.extract q (q + nn))
            generalize hT : s.extract q (q + nn) = T at HNM HG
            generalize getV T.data.toList = V at HNM HG
            generalize getE T.data.toList = F at HNM HG
            have HT := Lib.hid hT
            have HN' := Lib.hid HNM
            have HG' := Lib.hid HG
            clear hT HNM HG
            by_cases hF : F = 0
            · subst hF
              rw [numAt_ok] at HN'
              go_wp2_with fail
              refine HN'.out.mono ?_
              rintro e w2 ⟨rfl, R2, G2⟩
              have B2 := B.grown G2 B.size (fun j e => by cases e; exact Nat.le_refl _)
              go_wp2_with fail
              rw [HT.out]
              refine (HG'.out _).mono ?_
              rintro e w' ⟨rfl, rfl⟩
              have HE := endOf_eq s ((q : Int) + (nn : Int))
              have HL := end_rd _ _ s ((q : Int) + (nn : Int)) R2.drew hm
              rw [show numAt 6 (-6) (s.size - ((q : Int) + (nn : Int))) = endOf s ((q : Int) + (nn : Int)) from rfl] at HL
              generalize endOf s ((q : Int) + (nn : Int)) = E at HE HL
              have HL' := Lib.hid HL
              clear HL
              go_wp2_with (first | (go_at_call 23; refine (left_rd R2 hm).mono ?_; rintro e w' ⟨rfl, rfl⟩) | (go_at_call 24; refine HL'.out.mono ?_; rintro e w' ⟨rfl, rfl⟩))
              go_roundw
              case rel => exact ⟨k + 1, q + nn, by omega, by go_num, by go_num, by simpa using R2.drew.drew, B2.drew.drew⟩
              case measure => simp [intOf]; omega
            · rw [numAt_no _ _ _ hF] at HN'
              have hF1 : (F == 0) = false := by rw [beq_eq_false_iff_ne]; exact hF
              clear hF
              go_wp2_with fail
              refine HN'.out.mono ?_
              rintro e w2 ⟨rfl, R2, G2⟩
              have B2 := B.grown G2 B.size (fun j e => by cases e; exact Nat.le_refl _)
              go_wp2_with fail
              rw [HT.out]
              refine (HG'.out _).mono ?_
              rintro e w' ⟨rfl, rfl⟩
              have HE := endOf_eq s q
              have HL := end_rd _ _ s q R2.drew hm
              rw [show numAt 6 (-6) (s.size - q) = endOf s q from rfl] at HL
              generalize endOf s q = E at HE HL
              have HL' := Lib.hid HL
              clear HL
              go_wp2_with (first | (go_at_call 23; refine (left_rd R2 hm).mono ?_; rintro e w' ⟨rfl, rfl⟩) | (go_at_call 24; refine HL'.out.mono ?_; rintro e w' ⟨rfl, rfl⟩))
              go_roundw
              case rel => exact ⟨k + 1, q, by omega, by go_num, by go_num, by simpa using R2.drew.drew, B2.drew.drew⟩
              case measure => simp [intOf]; omega
        · have H18 := Lib.hid h18
          clear h18
          have hor : n < 1 ∨ (1 ≤ n ∧ 8 < n) := by have := H18.out; omega
          rcases hor with hx | ⟨hx, hy⟩
          all_goals
            go_wp2_with fail
            refine (num_arg n _ wr H18.out).mono ?_
            rintro e w' ⟨rfl, rfl⟩
            have R2 := R
            have B2 := B
            have HE := endOf_eq s q
            have HL := end_rd _ _ s q R2.drew hm
            rw [show numAt 6 (-6) (s.size - q) = endOf s q from rfl] at HL
            generalize endOf s q = E at HE HL
            have HL' := Lib.hid HL
            clear HL
            go_wp2_with (first | (go_at_call 23; refine (left_rd R2 hm).mono ?_; rintro e w' ⟨rfl, rfl⟩) | (go_at_call 24; refine HL'.out.mono ?_; rintro e w' ⟨rfl, rfl⟩))
            go_roundw
            case rel => exact ⟨k + 1, q, by omega, by go_num, by go_num, by simpa using R2.drew.drew, B2.drew.drew⟩
            case measure => simp [intOf]; omega
      | false =>
        by_cases hn : n < 0
        · go_wp2_with fail
          refine (bytes_neg n _ wr hn).mono ?_
          rintro e w' ⟨rfl, rfl⟩
          have R2 := R
          have B2 := B
          have HE := endOf_eq s q
          have HL := end_rd _ _ s q R2.drew hm
          rw [show numAt 6 (-6) (s.size - q) = endOf s q from rfl] at HL
          generalize endOf s q = E at HE HL
          have HL' := Lib.hid HL
          clear HL
          go_wp2_with (first | (go_at_call 23; refine (left_rd R2 hm).mono ?_; rintro e w' ⟨rfl, rfl⟩) | (go_at_call 24; refine HL'.out.mono ?_; rintro e w' ⟨rfl, rfl⟩))
          go_roundw
          case rel => exact ⟨k + 1, q, by omega, by go_num, by go_num, by simpa using R2.drew.drew, B2.drew.drew⟩
          case measure => simp [intOf]; omega
        by_cases hsh : s.size - q < n
        · go_wp2_with fail
          refine (bytes_short n _ wr s q R hm (by omega) hsh).mono ?_
          rintro e w' ⟨rfl, rfl⟩
          have R2 := R.drew
          have B2 := B.drew
          have HE := endOf_eq s q
          have HL := end_rd _ _ s q R2.drew hm
          rw [show numAt 6 (-6) (s.size - q) = endOf s q from rfl] at HL
          generalize endOf s q = E at HE HL
          have HL' := Lib.hid HL
          clear HL
          go_wp2_with (first | (go_at_call 23; refine (left_rd R2 hm).mono ?_; rintro e w' ⟨rfl, rfl⟩) | (go_at_call 24; refine HL'.out.mono ?_; rintro e w' ⟨rfl, rfl⟩))
          go_roundw
          case rel => exact ⟨k + 1, q, by omega, by go_num, by go_num, by simpa using R2.drew.drew, B2.drew.drew⟩
          case measure => simp [intOf]; omega
        · obtain ⟨nn, rfl⟩ := Int.eq_ofNat_of_zero_le (show 0 ≤ n by omega)
          have HB := bytes_ok nn w.heap.size wr s q R hm (by omega) (by omega)
          rw [show (q : Int).toNat = q from by omega, show ((q : Int) + (nn : Int)).toNat = q + nn from by omega] at HB
          have HB' := Lib.hid HB
          clear HB
          go_wp2_with fail
          refine HB'.out.mono ?_
          rintro e w2 ⟨rfl, R2, G2⟩
          have B2 := B.grown G2 B.size (fun j e => by cases e; exact Nat.le_refl _)
          have HE := endOf_eq s ((q : Int) + (nn : Int))
          have HL := end_rd _ _ s ((q : Int) + (nn : Int)) R2.drew hm
          rw [show numAt 6 (-6) (s.size - ((q : Int) + (nn : Int))) = endOf s ((q : Int) + (nn : Int)) from rfl] at HL
          generalize endOf s ((q : Int) + (nn : Int)) = E at HE HL
          have HL' := Lib.hid HL
          clear HL
          go_wp2_with (first | (go_at_call 23; refine (left_rd R2 hm).mono ?_; rintro e w' ⟨rfl, rfl⟩) | (go_at_call 24; refine HL'.out.mono ?_; rintro e w' ⟨rfl, rfl⟩))
          go_roundw
          case rel => exact ⟨k + 1, q + nn, by omega, by go_num, by go_num, by simpa using R2.drew.drew, B2.drew.drew⟩
          case measure => simp [intOf]; omega
    · by_cases hx : k < len
      · have h50 : ¬ k < 50 := fun h => hlt ⟨hx, h⟩
        clear hlt
        go_wp2_with fail
        refine (awake01 _).mono ?_
        rintro e w3 ⟨rfl, hb3⟩
        go_wp2
        go_ret
        exact ⟨rfl, B.trans (hb3.mono B.size)⟩
      · clear hlt
        go_wp2_with fail
        refine (awake01 _).mono ?_
        rintro e w3 ⟨rfl, hb3⟩
        go_wp2
        go_ret
        exact ⟨rfl, B.trans (hb3.mono B.size)⟩

section
variable {H : Type} {enc : TypeId × Value → H}
theorem part_fields : ∃ f0 f1, Try.prog.underlying 41 = some (.struct #[f0, f1]) ∧ oneCellFields Try.prog #[f0, f1] = true ∧ f0.type = 3 ∧ f1.type = 4 := ⟨_, _, Try.underlying41, by kernel_rfl, rfl, rfl⟩
theorem open_parts {w : World} {v : Value} {d : DataW H} {p : List MemPlace} (hok : ∃ a len cap, v = .slice a len cap) (h : DataW.Trod enc Try.prog w 0 (fun _ => true) true 37 v d p) :
    ∃ ao len cap, v = .slice ao len cap ∧ len ≤ maxLen ∧ PartRow w ao len := by
  obtain ⟨f0, f1, hs, hone, t0, t1⟩ := part_fields
  obtain ⟨ao, len, cap, rfl, hl, hrow⟩ := open_structs Try.underlying37 hs hone (by kernel_rfl) (by simp) h hok
  refine ⟨ao, len, cap, rfl, hl, fun hp => ?_⟩
  obtain ⟨b, off, ho, hb, hi⟩ := hrow hp
  refine ⟨b, off, ho, hb, fun i hil => ?_⟩
  obtain ⟨n, hn⟩ := hi i hil
  obtain ⟨v0, y0, c0, h0⟩ := hn 0 f0 rfl
  obtain ⟨v1, y1, c1, h1⟩ := hn 1 f1 rfl
  rw [t0] at h0
  rw [t1] at h1
  obtain ⟨N, rfl, hw⟩ := field_int Try.underlying3 h0
  obtain ⟨M, rfl⟩ := field_bool Try.underlying4 h1
  exact ⟨N, M, by simpa using c0, by simpa [Nat.add_assoc] using c1, (bounds_i64 hw).2, (bounds_i64 hw).1⟩
end
theorem beReads_walk (s : ByteArray) {H : Type} {enc : TypeId × Value → H} (v : Value) (d : DataW H) (p : List MemPlace) (w : World) (hs : s.size ≤ 140737488351232)
    (hv : ∃ a len cap, v = .slice a len cap) (h : DataW.Trod enc Try.prog w 0 (fun _ => true) true 37 v d p) :
    Calls Try.prog 6 #[.string s, v] w fun e w' => e = .returned (.bool true) ∧ Below w.heap.size w w' := by
  obtain ⟨ao, len, cap, rfl, hl, hA⟩ := open_parts hv h
  exact beReads_parts s ao len cap w hs (by unfold maxLen at hl; exact hl) (Lib.hid hA)
end Go.Proofs.Ytkcokljkielagaa
