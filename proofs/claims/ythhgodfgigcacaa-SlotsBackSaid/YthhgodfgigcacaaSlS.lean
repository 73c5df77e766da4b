/- Slots: SlotsOne. -/
import Derived.Test.YthhgodfgigcacaaSlR
namespace Go.Proofs.Ythhgodfgigcacaa
open Go.RowKit Go.Deep Go.ChangeShapes Go.WideShapes
set_option linter.unusedVariables false
set_option linter.unusedSimpArgs false
def ActRow (w : World) (ao : Option Addr) (len : Nat) : Prop :=
  0 < len → ∃ b off, ao = some ⟨b, off, none⟩ ∧ b < w.heap.size ∧ ∀ i, i < len → ∃ (k g t m : Int) (v d : Bool), w.cell? ⟨b, off + i * 6, none⟩ = some (.int .i64 k) ∧ w.cell? ⟨b, off + i * 6 + 1, none⟩ = some (.int .i64 g) ∧ w.cell? ⟨b, off + i * 6 + 2, none⟩ = some (.int .i64 t) ∧ w.cell? ⟨b, off + i * 6 + 3, none⟩ = some (.int .i64 m) ∧ w.cell? ⟨b, off + i * 6 + 4, none⟩ = some (.bool v) ∧ w.cell? ⟨b, off + i * 6 + 5, none⟩ = some (.bool d)
section
variable {H : Type} {enc : TypeId × Value → H}
theorem act_fields22 : ∃ f0 f1 f2 f3 f4 f5, Try.prog.underlying 33 = some (.struct #[f0, f1, f2, f3, f4, f5]) ∧ oneCellFields Try.prog #[f0, f1, f2, f3, f4, f5] = true ∧ f0.type = 3 ∧ f1.type = 3 ∧ f2.type = 3 ∧ f3.type = 3 ∧ f4.type = 4 ∧ f5.type = 4 := ⟨_, _, _, _, _, _, Try.underlying33, by kernel_rfl, rfl, rfl, rfl, rfl, rfl, rfl⟩
theorem open_acts22 {w : World} {v : Value} {d : DataW H} {p : List MemPlace} (hok : ∃ a len cap, v = .slice a len cap) (h : DataW.Trod enc Try.prog w 0 (fun _ => true) true 22 v d p) :
    ∃ ao len cap, v = .slice ao len cap ∧ len ≤ maxLen ∧ ActRow w ao len := by
  obtain ⟨f0, f1, f2, f3, f4, f5, hs, hone, t0, t1, t2, t3, t4, t5⟩ := act_fields22
  obtain ⟨ao, len, cap, rfl, hl, hrow⟩ := open_structs Try.underlying22 hs hone (by kernel_rfl) (by simp) h hok
  refine ⟨ao, len, cap, rfl, hl, fun hp => ?_⟩
  obtain ⟨b, off, ho, hb, hi⟩ := hrow hp
  refine ⟨b, off, ho, hb, fun i hil => ?_⟩
  obtain ⟨n, hn⟩ := hi i hil
  obtain ⟨v0, y0, c0, h0⟩ := hn 0 f0 rfl
  obtain ⟨v1, y1, c1, h1⟩ := hn 1 f1 rfl
  obtain ⟨v2, y2, c2, h2⟩ := hn 2 f2 rfl
  obtain ⟨v3, y3, c3, h3⟩ := hn 3 f3 rfl
  obtain ⟨v4, y4, c4, h4⟩ := hn 4 f4 rfl
  obtain ⟨v5, y5, c5, h5⟩ := hn 5 f5 rfl
  rw [t0] at h0
  rw [t1] at h1
  rw [t2] at h2
  rw [t3] at h3
  rw [t4] at h4
  rw [t5] at h5
  obtain ⟨K, rfl, _⟩ := field_int Try.underlying3 h0
  obtain ⟨G, rfl, _⟩ := field_int Try.underlying3 h1
  obtain ⟨I, rfl, _⟩ := field_int Try.underlying3 h2
  obtain ⟨M, rfl, _⟩ := field_int Try.underlying3 h3
  obtain ⟨V, rfl⟩ := field_bool Try.underlying4 h4
  obtain ⟨D, rfl⟩ := field_bool Try.underlying4 h5
  exact ⟨K, G, I, M, V, D, by simpa using c0, by simpa [Nat.add_assoc] using c1, by simpa [Nat.add_assoc] using c2, by simpa [Nat.add_assoc] using c3, by simpa [Nat.add_assoc] using c4, by simpa [Nat.add_assoc] using c5⟩
end
theorem u8_in {a : Int} (h : (Lit.int .u8 a).wf = true) : 0 ≤ a ∧ a ≤ 255 := by
  have : decide (0 ≤ a) && decide (a ≤ 255) := h
  simpa using this
theorem at_in {n : Nat} (T : Nat → Sl) {i : Nat} (hi : i < n) : atS n T (i : Int) = T i ∧ atE n T (i : Int) = 0 := by
  have h : refE n T (i : Int) false ≠ 3 := by
    unfold refE
    rw [if_neg (by simp; omega)]
    split <;> decide
  unfold atS atE
  rw [if_neg h, if_neg h, Int.toNat_natCast]
  exact ⟨rfl, rfl⟩
set_option maxRecDepth 100000 in
set_option maxHeartbeats 16000000 in
theorem one_law (z : Nat) (ao : Option Addr) (len cap : Nat) (w : World) (hz : z < 256) (hl : len ≤ 9223372036854775807) (hA : ActRow w ao len) : Calls Try.prog 6 #[.int .u8 (z : Int), .slice ao len cap] w fun e w' => e = .returned (.bool true) ∧ Below w.heap.size w w' := by
  obtain ⟨n, hn⟩ : ∃ n, z % 8 + 1 = n := ⟨_, rfl⟩
  have h1 : 1 ≤ n := by omega
  have h8 : n ≤ 8 := by omega
  have CN := Lib.hid (newT_ok n w h1 h8)
  have HA := Lib.hid hA
  clear hA
  go_enter Try.func6, Try.ntmps6
  go_upto_region 1 with fail
  go_cut [5] from 17 to 20 (fun s5 wx => s5 = .int .i64 (n : Int) ∧ w = wx)
  case first =>
    go_wp2_with fail
    go_meet
    exact ⟨by congr 1; omega, rfl⟩
  case rest =>
  obtain ⟨rfl, rfl⟩ := hcut
  clear hn
  go_wp2_with fail
  refine CN.out.mono ?_
  rintro e w1 ⟨g, rfl, q1, hg, b1⟩
  have HT1 := Lib.hid q1
  have HB1 := Lib.hid b1
  have CA := Lib.hid (awake22 w1)
  clear q1 b1 CN
  go_wp2_with fail
  refine CA.out.mono ?_
  rintro e w2 ⟨rfl, b2⟩
  have HT2 := Lib.hid (HT1.out.below b2)
  have HB2 := Lib.hid (HB1.out.trans (b2.mono HB1.out.size))
  have CR := Lib.hid (rnew_any n w2 h8)
  clear b2 CA HT1 HB1
  go_wp2_with fail
  refine CR.out.mono ?_
  rintro e w3 ⟨v3, rfl, l3, b3⟩
  have HT3 := Lib.hid (HT2.out.below b3)
  have HL3 : Hid (LAt w3 w.heap.size v3 n (fun _ => frS)) := Lib.hid (own_base22 l3 HB2.out.size)
  have HB3 := Lib.hid (HB2.out.trans (b3.mono HB2.out.size))
  have HI3 := Lib.hid (Inv.new n)
  clear b3 l3 CR HT2 HB2
  go_wp2_with fail
  go_loopw [8, 9, 10, 11, 12, 13, 14, 15, 16] (fun s8 s9 _ _ _ _ _ _ _ wi => ∃ (k : Nat) (T : Nat → Sl), s9 = .int .i64 (k : Int) ∧ k ≤ len ∧ Hid (TAt wi g n T) ∧ Hid (LAt wi w.heap.size s8 n T) ∧ Hid (Inv n T) ∧ Hid (Below w.heap.size w wi)) (fun _ s9 _ _ _ _ _ _ _ _ => len - (intOf s9).toNat)
  case atStart => exact ⟨0, _, rfl, by omega, HT3, HL3, HI3, HB3⟩
  case round =>
    obtain ⟨k, T, rfl, hk, HT, HL, HI, HB⟩ := hrel
    clear HT3 HL3 HI3 HB3
    by_cases hgo : k < len ∧ k < 50
    · have hlt' : (k : Int) < (len : Int) := by omega
      have h50' : (k : Int) < 50 := by omega
      have hlt := hgo.1
      obtain ⟨b, off, rfl, hb, hcs⟩ := HA.out (by omega)
      obtain ⟨x, gr, t, m, v, d, c0, c1, c2, c3, c4, c5⟩ := hcs k hlt
      have d0 := (HB.out.cell (p := ⟨b, off + k * 6, none⟩) hb).trans c0
      have d1 := (HB.out.cell (p := ⟨b, off + k * 6 + 1, none⟩) hb).trans c1
      have d2 := (HB.out.cell (p := ⟨b, off + k * 6 + 2, none⟩) hb).trans c2
      have d3 := (HB.out.cell (p := ⟨b, off + k * 6 + 3, none⟩) hb).trans c3
      have d4 := (HB.out.cell (p := ⟨b, off + k * 6 + 4, none⟩) hb).trans c4
      have d5 := (HB.out.cell (p := ⟨b, off + k * 6 + 5, none⟩) hb).trans c5
      obtain ⟨al, cl, hv⟩ := own_form HL.out
      subst hv
      have CD := Lib.hid (ldo_any w.heap.size g n (.slice al n cl) T T x gr t m v d wr HT.out HL.out h8 hg HI.out)
      have HI2 := Lib.hid (HI.out.act x gr t m v d)
      clear hcs c0 c1 c2 c3 c4 c5
      go_wp2_with fail
      refine CD.out.mono ?_
      rintro e w5 ⟨v', bb, rfl, hbb, t5, l5, k5⟩
      obtain ⟨T', hT'⟩ : ∃ T', actT n T x gr t m v d = T' := ⟨_, rfl⟩
      rw [hT'] at t5 l5 HI2
      have HT5 := Lib.hid t5
      have HL5 := Lib.hid l5
      have HB5 := Lib.hid (HB.out.trans k5.below)
      obtain ⟨a5, c5, rfl⟩ := own_form l5
      clear t5 l5 k5 hT' CD HT HL HI HB hbb d0 d1 d2 d3 d4 d5
      have hs5 := HB5.out.size
      go_wp2_with fail
      go_loopw [10, 11, 12, 13, 14, 15, 16] (fun s10 _ _ _ _ _ _ wi => ∃ a : Nat, s10 = .int .i64 (a : Int) ∧ a ≤ n ∧ Hid (Below w5.heap.size w5 wi)) (fun s10 _ _ _ _ _ _ _ => n - (intOf s10).toNat)
      case atStart => exact ⟨0, rfl, by omega, Lib.hid (Below.refl _ _)⟩
      case round =>
        obtain ⟨a, rfl, ha, HD⟩ := hrel
        by_cases han : a < n
        · have han' : (a : Int) < (n : Int) := by omega
          have CAT := Lib.hid (atT_any g n T' (a : Int) wr (HT5.out.below HD.out) h8)
          rw [(at_in T' han).1, (at_in T' han).2] at CAT
          have HSI : Hid ((∀ j, (T' a).d j = true → (T' a).v j = true) ∧ ((T' a).g < 0 → T' a = frS) ∧ (0 ≤ (T' a).g → ∀ i, i < a → (T' i).g ≠ (T' a).g)) := Lib.hid ⟨HI2.out.dv a, HI2.out.fr a, fun h0 i hi e => by have := HI2.out.one i a e (by rw [e]; exact h0); omega⟩
          obtain ⟨s, hs⟩ : ∃ s, T' a = s := ⟨_, rfl⟩
          rw [hs] at CAT HSI
          clear hs
          unfold slA at CAT
          go_wp2_with fail
          refine CAT.out.mono ?_
          rintro e w6 ⟨rfl, b6⟩
          have HD6 := Lib.hid (HD.out.trans (b6.mono HD.out.size))
          clear b6 CAT HD
          have hrow : (w6.alloc (.cells #[.int .i64 s.g, .bool s.v0, .bool s.v1, .bool s.v2, .bool s.v3, .bool s.d0, .bool s.d1, .bool s.d2, .bool s.d3, .int .i64 s.l] 44)).heap[w6.heap.size]? = some (.cells #[.int .i64 s.g, .bool s.v0, .bool s.v1, .bool s.v2, .bool s.v3, .bool s.d0, .bool s.d1, .bool s.d2, .bool s.d3, .int .i64 s.l] 44 (0, 0)) := heap_alloc_new _ _
          have HD7 := Lib.hid (HD6.out.alloc HD6.out.size (.cells #[.int .i64 s.g, .bool s.v0, .bool s.v1, .bool s.v2, .bool s.v3, .bool s.d0, .bool s.d1, .bool s.d2, .bool s.d3, .int .i64 s.l] 44))
          go_upto_region 14 with fail
          obtain ⟨w7, hw7⟩ : ∃ w7, w6.alloc (.cells #[.int .i64 s.g, .bool s.v0, .bool s.v1, .bool s.v2, .bool s.v3, .bool s.d0, .bool s.d1, .bool s.d2, .bool s.d3, .int .i64 s.l] 44) = w7 := ⟨_, rfl⟩
          rw [hw7] at hrow HD7 ⊢
          obtain ⟨c, hc⟩ : ∃ c, w6.heap.size = c := ⟨_, rfl⟩
          rw [hc] at hrow ⊢
          clear hw7 hc HD6
          have x0 : w7.cell? ⟨c, 0, none⟩ = some (.int .i64 s.g) := row_cell22 hrow 0 _ rfl
          have x1 : w7.cell? ⟨c, 1, none⟩ = some (.bool s.v0) := row_cell22 hrow 1 _ rfl
          have x2 : w7.cell? ⟨c, 2, none⟩ = some (.bool s.v1) := row_cell22 hrow 2 _ rfl
          have x3 : w7.cell? ⟨c, 3, none⟩ = some (.bool s.v2) := row_cell22 hrow 3 _ rfl
          have x4 : w7.cell? ⟨c, 4, none⟩ = some (.bool s.v3) := row_cell22 hrow 4 _ rfl
          have x5 : w7.cell? ⟨c, 5, none⟩ = some (.bool s.d0) := row_cell22 hrow 5 _ rfl
          have x6 : w7.cell? ⟨c, 6, none⟩ = some (.bool s.d1) := row_cell22 hrow 6 _ rfl
          have x7 : w7.cell? ⟨c, 7, none⟩ = some (.bool s.d2) := row_cell22 hrow 7 _ rfl
          have x8 : w7.cell? ⟨c, 8, none⟩ = some (.bool s.d3) := row_cell22 hrow 8 _ rfl
          have hcl : c < w7.heap.size := (Array.getElem?_eq_some_iff.1 hrow).1
          clear hrow
          go_wp2_with fail
          go_loopw [13] (fun s13 wi => ∃ p : Nat, s13 = .int .i64 (p : Int) ∧ p ≤ 4 ∧ w7 = wi) (fun s13 _ => 4 - (intOf s13).toNat)
          case atStart => exact ⟨0, rfl, by omega, rfl⟩
          case round =>
            obtain ⟨p, rfl, hp, rfl⟩ := hrel
            by_cases hp4 : p < 4
            · rcases (show p = 0 ∨ p = 1 ∨ p = 2 ∨ p = 3 by omega) with rfl | rfl | rfl | rfl
              · rw [show ((0 : Nat) : Int) = 0 from rfl]
                have hdv : (s.d0 = false ∧ s.v0 = false ∧ s.g < 0) ∨ (s.d0 = false ∧ s.v0 = false ∧ ¬ s.g < 0) ∨ (s.d0 = false ∧ s.v0 = true ∧ ¬ s.g < 0) ∨ (s.d0 = true ∧ s.v0 = true ∧ ¬ s.g < 0) := by
                  have h1 : s.d0 = true → s.v0 = true := HSI.out.1 0
                  have h2 : s.g < 0 → s.v0 = false := fun h => by rw [HSI.out.2.1 h]; rfl
                  cases hd : s.d0 <;> cases hv : s.v0 <;> by_cases hg : s.g < 0 <;> simp_all
                rcases hdv with ⟨e1, e2, e3⟩ | ⟨e1, e2, e3⟩ | ⟨e1, e2, e3⟩ | ⟨e1, e2, e3⟩
                all_goals
                  have r0 := x0
                  have rv := x1
                  have rd := x5
                  rw [e2] at rv
                  rw [e1] at rd
                  go_wp2_with fail
                  go_roundw
                  case rel => exact ⟨0 + 1, rfl, by omega, by first | rfl | trivial⟩
                  case measure => simp [intOf]
              · rw [show ((1 : Nat) : Int) = 1 from rfl]
                have hdv : (s.d1 = false ∧ s.v1 = false ∧ s.g < 0) ∨ (s.d1 = false ∧ s.v1 = false ∧ ¬ s.g < 0) ∨ (s.d1 = false ∧ s.v1 = true ∧ ¬ s.g < 0) ∨ (s.d1 = true ∧ s.v1 = true ∧ ¬ s.g < 0) := by
                  have h1 : s.d1 = true → s.v1 = true := HSI.out.1 1
                  have h2 : s.g < 0 → s.v1 = false := fun h => by rw [HSI.out.2.1 h]; rfl
                  cases hd : s.d1 <;> cases hv : s.v1 <;> by_cases hg : s.g < 0 <;> simp_all
                rcases hdv with ⟨e1, e2, e3⟩ | ⟨e1, e2, e3⟩ | ⟨e1, e2, e3⟩ | ⟨e1, e2, e3⟩
                all_goals
                  have r0 := x0
                  have rv := x2
                  have rd := x6
                  rw [e2] at rv
                  rw [e1] at rd
                  go_wp2_with fail
                  go_roundw
                  case rel => exact ⟨1 + 1, rfl, by omega, by first | rfl | trivial⟩
                  case measure => simp [intOf]
              · rw [show ((2 : Nat) : Int) = 2 from rfl]
                have hdv : (s.d2 = false ∧ s.v2 = false ∧ s.g < 0) ∨ (s.d2 = false ∧ s.v2 = false ∧ ¬ s.g < 0) ∨ (s.d2 = false ∧ s.v2 = true ∧ ¬ s.g < 0) ∨ (s.d2 = true ∧ s.v2 = true ∧ ¬ s.g < 0) := by
                  have h1 : s.d2 = true → s.v2 = true := HSI.out.1 2
                  have h2 : s.g < 0 → s.v2 = false := fun h => by rw [HSI.out.2.1 h]; rfl
                  cases hd : s.d2 <;> cases hv : s.v2 <;> by_cases hg : s.g < 0 <;> simp_all
                rcases hdv with ⟨e1, e2, e3⟩ | ⟨e1, e2, e3⟩ | ⟨e1, e2, e3⟩ | ⟨e1, e2, e3⟩
                all_goals
                  have r0 := x0
                  have rv := x3
                  have rd := x7
                  rw [e2] at rv
                  rw [e1] at rd
                  go_wp2_with fail
                  go_roundw
                  case rel => exact ⟨2 + 1, rfl, by omega, by first | rfl | trivial⟩
                  case measure => simp [intOf]
              · rw [show ((3 : Nat) : Int) = 3 from rfl]
                have hdv : (s.d3 = false ∧ s.v3 = false ∧ s.g < 0) ∨ (s.d3 = false ∧ s.v3 = false ∧ ¬ s.g < 0) ∨ (s.d3 = false ∧ s.v3 = true ∧ ¬ s.g < 0) ∨ (s.d3 = true ∧ s.v3 = true ∧ ¬ s.g < 0) := by
                  have h1 : s.d3 = true → s.v3 = true := HSI.out.1 3
                  have h2 : s.g < 0 → s.v3 = false := fun h => by rw [HSI.out.2.1 h]; rfl
                  cases hd : s.d3 <;> cases hv : s.v3 <;> by_cases hg : s.g < 0 <;> simp_all
                rcases hdv with ⟨e1, e2, e3⟩ | ⟨e1, e2, e3⟩ | ⟨e1, e2, e3⟩ | ⟨e1, e2, e3⟩
                all_goals
                  have r0 := x0
                  have rv := x4
                  have rd := x8
                  rw [e2] at rv
                  rw [e1] at rd
                  go_wp2_with fail
                  go_roundw
                  case rel => exact ⟨3 + 1, rfl, by omega, by first | rfl | trivial⟩
                  case measure => simp [intOf]
            · obtain rfl : p = 4 := by omega
              rw [show ((4 : Nat) : Int) = 4 from rfl]
              go_wp2_with fail
              go_loopw [14, 15, 16] (fun s14 _ _ wi => ∃ i : Nat, s14 = .int .i64 (i : Int) ∧ i ≤ a ∧ Hid (Below w7.heap.size w7 wi)) (fun s14 _ _ _ => a - (intOf s14).toNat)
              case atStart => exact ⟨0, rfl, by omega, Lib.hid (Below.refl _ _)⟩
              case round =>
                obtain ⟨i, rfl, hi, HF⟩ := hrel
                by_cases hia : i < a
                · have hia' : (i : Int) < (a : Int) := by omega
                  have hBi := HD7.out.trans (HF.out.mono HD7.out.size)
                  have CAT := Lib.hid (atT_any g n T' (i : Int) wr (HT5.out.below hBi) h8)
                  rw [(at_in T' (show i < n by omega)).1, (at_in T' (show i < n by omega)).2] at CAT
                  have HNE := Lib.hid (fun h0 => HSI.out.2.2 h0 i hia)
                  obtain ⟨u, hu⟩ : ∃ u, T' i = u := ⟨_, rfl⟩
                  rw [hu] at CAT HNE
                  clear hu hBi
                  unfold slA at CAT
                  go_wp2_with fail
                  refine CAT.out.mono ?_
                  rintro e w8 ⟨rfl, b8⟩
                  have HF8 := Lib.hid (HF.out.trans (b8.mono HF.out.size))
                  clear b8 CAT HF
                  have hrow : (w8.alloc (.cells #[.int .i64 u.g, .bool u.v0, .bool u.v1, .bool u.v2, .bool u.v3, .bool u.d0, .bool u.d1, .bool u.d2, .bool u.d3, .int .i64 u.l] 44)).heap[w8.heap.size]? = some (.cells #[.int .i64 u.g, .bool u.v0, .bool u.v1, .bool u.v2, .bool u.v3, .bool u.d0, .bool u.d1, .bool u.d2, .bool u.d3, .int .i64 u.l] 44 (0, 0)) := heap_alloc_new _ _
                  have HF9 := Lib.hid (HF8.out.alloc HF8.out.size (.cells #[.int .i64 u.g, .bool u.v0, .bool u.v1, .bool u.v2, .bool u.v3, .bool u.d0, .bool u.d1, .bool u.d2, .bool u.d3, .int .i64 u.l] 44))
                  go_upto_region 23 with fail
                  obtain ⟨w9, hw9⟩ : ∃ w9, w8.alloc (.cells #[.int .i64 u.g, .bool u.v0, .bool u.v1, .bool u.v2, .bool u.v3, .bool u.d0, .bool u.d1, .bool u.d2, .bool u.d3, .int .i64 u.l] 44) = w9 := ⟨_, rfl⟩
                  rw [hw9] at hrow HF9 ⊢
                  obtain ⟨c2, hc2⟩ : ∃ c, w8.heap.size = c := ⟨_, rfl⟩
                  rw [hc2] at hrow ⊢
                  clear hw9 hc2 HF8
                  have y0 : w9.cell? ⟨c2, 0, none⟩ = some (.int .i64 u.g) := row_cell22 hrow 0 _ rfl
                  have z0 := (HF9.out.cell (p := ⟨c, 0, none⟩) hcl).trans x0
                  clear hrow
                  by_cases h0 : 0 ≤ s.g
                  · have hne : ¬ u.g = s.g := HNE.out h0
                    go_wp2_with fail
                    go_roundw
                    case rel => exact ⟨i + 1, by go_num, by omega, HF9⟩
                    case measure => simp [intOf]; omega
                  · go_wp2_with fail
                    go_roundw
                    case rel => exact ⟨i + 1, by go_num, by omega, HF9⟩
                    case measure => simp [intOf]; omega
                · obtain rfl : i = a := by omega
                  have hia' : ¬ (i : Int) < (i : Int) := by omega
                  have HDE := Lib.hid (HD7.out.trans (HF.out.mono HD7.out.size))
                  go_wp2_with fail
                  go_roundw
                  case rel => exact ⟨i + 1, by go_num, by omega, HDE⟩
                  case measure => simp [intOf]; omega
        · obtain rfl : a = n := by omega
          have han' : ¬ (a : Int) < (a : Int) := by omega
          have HTE := Lib.hid (HT5.out.below HD.out)
          have HLE := Lib.hid (HL5.out.below HD.out)
          have HBE := Lib.hid (HB5.out.trans (HD.out.mono hs5))
          go_wp2_with fail
          go_roundw
          case rel => exact ⟨k + 1, T', by go_num, by omega, HTE, HLE, HI2, HBE⟩
          case measure => simp [intOf]; omega
    · rcases (show ¬ (k : Int) < (len : Int) ∨ ((k : Int) < (len : Int) ∧ ¬ (k : Int) < 50) by omega) with hx | ⟨hx, hy⟩
      all_goals
        go_wp2_with fail
        go_ret
        exact ⟨rfl, HB.out⟩
section
variable {H : Type} {enc : TypeId × Value → H}
theorem slotsOne_walk (n : Int) (v : Value) (d : DataW H) (p : List MemPlace) (w : World) (hn : (Lit.int .u8 n).wf = true) (hv : ∃ a len cap, v = .slice a len cap) (h : DataW.Trod enc Try.prog w 0 (fun _ => true) true 22 v d p) :
    Calls Try.prog 6 #[.int .u8 n, v] w fun e w' => e = .returned (.bool true) ∧ Below w.heap.size w w' := by
  obtain ⟨ao, len, cap, rfl, hl, hA⟩ := open_acts22 hv h
  have hb := u8_in hn
  obtain ⟨z, rfl⟩ : ∃ z : Nat, n = (z : Int) := ⟨n.toNat, by omega⟩
  exact one_law z ao len cap w (by omega) (by unfold maxLen at hl; exact hl) hA
end
end Go.Proofs.Ythhgodfgigcacaa
