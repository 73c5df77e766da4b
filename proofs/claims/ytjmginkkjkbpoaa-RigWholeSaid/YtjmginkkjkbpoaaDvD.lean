/- Package dev (cellaret): Flush, Crash. -/
import Derived.Test.YtjmginkkjkbpoaaDvC
namespace Go.Proofs.Ytjmginkkjkbpoaa
open Go.RowKit Go.Deep
set_option linter.unusedVariables false
set_option linter.unusedSimpArgs false
/-- What was written among the first k blocks becomes what t says, for good. -/
def stB (bs : Nat → Bk) (t : Nat → ByteArray) (k i : Nat) : Bk := if i < k ∧ (bs i).wr = true then ⟨t i, t i, false⟩ else bs i
theorem stB_zero (bs : Nat → Bk) (t : Nat → ByteArray) : stB bs t 0 = bs := by
  funext i
  unfold stB
  rw [if_neg (fun h => Nat.not_lt_zero i h.1)]
theorem stB_at (bs : Nat → Bk) (t : Nat → ByteArray) (k : Nat) : stB bs t k k = bs k := by
  unfold stB
  rw [if_neg (fun h => Nat.lt_irrefl k h.1)]
theorem stB_step (bs : Nat → Bk) (t : Nat → ByteArray) (k : Nat) (hw : (bs k).wr = true) : stB bs t (k + 1) = upB (stB bs t k) k ⟨t k, t k, false⟩ := by
  funext i
  unfold stB upB
  by_cases e : i = k
  · subst e
    rw [if_pos ⟨Nat.lt_succ_self i, hw⟩, if_pos rfl]
  · rw [if_neg e]
    show _ = if i < k ∧ (bs i).wr = true then _ else _
    by_cases h : i < k ∧ (bs i).wr = true
    · rw [if_pos h, if_pos ⟨by omega, h.2⟩]
    · rw [if_neg h, if_neg (fun q => h ⟨by omega, q.2⟩)]
theorem stB_skip (bs : Nat → Bk) (t : Nat → ByteArray) (k : Nat) (hw : (bs k).wr = false) : stB bs t (k + 1) = stB bs t k := by
  funext i
  unfold stB
  by_cases e : i = k
  · subst e
    rw [if_neg (fun h => by rw [hw] at h; cases h.2), if_neg (fun h => Nat.lt_irrefl i h.1)]
  · by_cases h : i < k ∧ (bs i).wr = true
    · rw [if_pos h, if_pos ⟨by omega, h.2⟩]
    · rw [if_neg h, if_neg (fun q => h ⟨by omega, q.2⟩)]
theorem flush1_any (g rb n i : Nat) (bs : Nat → Bk) (w : World) (hD : DvAt w g rb n bs) (hi : i < n) : Calls Try.prog 67 #[.int .i64 (i : Int), .pointer (some ⟨rb, i * 3, none⟩)] w fun e w' => e = .returned (.tuple #[]) ∧ DvAt w' g rb n (upB bs i ⟨(bs i).now, (bs i).now, false⟩) ∧ Kp rb w w' := by
  have c0 := hD.now i hi
  have CS := Lib.hid (settle_any g rb n i bs (bs i).now w hD hi)
  clear hD
  generalize (bs i).now = s at *
  go_enter Try.func67, Try.ntmps67
  go_wp2_with fail
  refine (CS.out).mono ?_
  rintro e w1 ⟨rfl, d1, k1⟩
  have HD1 := Lib.hid d1
  have HK1 := Lib.hid k1
  clear d1 k1
  go_wp2_with fail
  go_end0
  exact ⟨rfl, HD1.out, HK1.out⟩
theorem flush1_enter (args : Array Value) (w : World) : (callFunc 67 args).run Try.prog w = .ok (.enter 67 args) w := by go_simp
theorem flush_nilD (w : World) : Calls Try.prog 49 #[.pointer none] w fun e w' => e = .returned (.int .i64 1) ∧ w = w' := by
  go_enter Try.func49, Try.ntmps49
  go_wp2_with fail
  go_ret
  exact ⟨rfl, rfl⟩
set_option maxRecDepth 100000 in
set_option maxHeartbeats 2000000 in
theorem flush_okD (g rb n : Nat) (bs : Nat → Bk) (w : World) (hD : DvAt w g rb n bs) (hn : n ≤ 512) : Calls Try.prog 49 #[.pointer (some ⟨g, 0, none⟩)] w fun e w' => e = .returned (.int .i64 0) ∧ DvAt w' g rb n (stB bs (fun i => (bs i).now) n) ∧ Kp rb w w' := by
  have HD := Lib.hid hD
  have hrl := World.rowIs.lt hD.row
  clear hD
  go_enter Try.func49, Try.ntmps49
  go_wp2_with fail
  refine (walker_any g _).mono ?_
  rintro e w1 ⟨rfl, hp, b1⟩
  have HD1 : Hid (DvAt w1 g rb n (stB bs (fun i => (bs i).now) 0)) := Lib.hid (by rw [stB_zero]; exact HD.out.below b1)
  have HP1 := Lib.hid hp
  have HK1 := Lib.hid (Kp.of_below b1 hrl)
  have hpr : w.heap.size ≠ rb := Nat.ne_of_gt hrl
  clear hp b1 HD
  generalize w.heap.size = p at *
  have CW := Lib.hid (walk0 g rb n p 67 (fun k => stB bs (fun i => (bs i).now) k) (fun _ w' => Kp rb w w') w1 hn HD1 HP1 HK1 flush1_enter
    (Lib.hid (fun i hi hw w' hD' hp' hK' => (flush1_any g rb n i _ w' hD' hi).mono (fun e w'' h => ⟨h.1, by
      have hw' : (bs i).wr = true := by rw [stB_at] at hw; exact hw
      rw [stB_step bs _ i hw']
      have := h.2.1
      rw [stB_at] at this
      exact this, h.2.2.cell hpr hp', hK'.trans h.2.2⟩)))
    (Lib.hid (fun i hi hw => ⟨stB_skip bs _ i (by rw [stB_at] at hw; exact hw), fun w' h => h⟩)))
  go_wp2_with fail
  refine (CW.out).mono ?_
  rintro e w2 ⟨rfl, d2, k2⟩
  have HD2 := Lib.hid d2
  have HK2 := Lib.hid k2
  clear d2 k2 CW
  go_wp2_with fail
  go_ret
  exact ⟨rfl, HD2.out, HK2.out⟩
/-! A crash that keeps nothing, and tears nothing but block 0. -/
def lossV : Value := .agg #[.slice none 0 0, .int .i64 0, .int .i64 0]
set_option maxRecDepth 100000 in
set_option maxHeartbeats 2000000 in
theorem left_safe (g rb n i : Nat) (bs : Nat → Bk) (w : World) (hD : DvAt w g rb n bs) (hi : i < n) (h0 : 0 < i) (h64 : i < 64) : Calls Try.prog 63 #[.agg #[.slice none 0 0, .int .i64 0, .int .i64 0], .int .i64 (i : Int), .pointer (some ⟨rb, i * 3, none⟩)] w fun e w' => e = .returned (.string (bs i).safe) ∧ Below w.heap.size w w' := by
  have hlt := World.rowIs.lt hD.row
  have c1 := (((Below.refl w.heap.size w).alloc (Nat.le_refl _) (.cells #[.slice none 0 0, .int .i64 0, .int .i64 0] 32)).cell (p := ⟨rb, i * 3 + 1, none⟩) hlt).trans (hD.safe i hi)
  have hm : ((i : Int)).tmod 64 = (i : Int) := by rw [Int.tmod_eq_emod_of_nonneg (by omega)]; omega
  have hm2 : ((i : Int)) % 64 = (i : Int) := by omega
  have hl : ¬ (i : Int) < 0 := by omega
  have hne : ((i : Int) == 0) = false := beq_eq_false_iff_ne.2 (by omega)
  have hne2 : ¬ (i : Int) = 0 := by omega
  have hi0 : ¬ i = 0 := by omega
  generalize (bs i).safe = s at *
  clear hD
  go_enter Try.func63, Try.ntmps63
  go_wp2_with fail
  go_ret
  exact ⟨rfl, (Below.refl _ _).alloc (Nat.le_refl _) _⟩
set_option maxRecDepth 100000 in
set_option maxHeartbeats 2000000 in
theorem crash1_any (g rb n i x : Nat) (bs : Nat → Bk) (w : World) (hD : DvAt w g rb n bs) (hi : i < n) (h0 : 0 < i) (h64 : i < 64) (hx : w.heap[x]? = some (.cells #[.slice none 0 0, .int .i64 0, .int .i64 0] 32 (0, 0))) : Calls Try.prog 61 #[.int .i64 (i : Int), .pointer (some ⟨rb, i * 3, none⟩), .pointer (some ⟨x, 0, none⟩)] w fun e w' => e = .returned (.tuple #[]) ∧ DvAt w' g rb n (upB bs i ⟨(bs i).safe, (bs i).safe, false⟩) ∧ Kp rb w w' := by
  have CL := Lib.hid (left_safe g rb n i bs w hD hi h0 h64)
  have CS := Lib.hid (fun w hD => settle_any g rb n i bs (bs i).safe w hD hi)
  have x0 := cell_of_row _ _ 0 _ _ _ hx
  have x1 := cell_of_row _ _ 1 _ _ _ hx
  have x2 := cell_of_row _ _ 2 _ _ _ hx
  have hlt := World.rowIs.lt hD.row
  have HD := Lib.hid hD
  clear hD hx
  generalize (bs i).safe = s at *
  go_enter Try.func61, Try.ntmps61
  go_wp2_with fail
  refine (CL.out).mono ?_
  rintro e w1 ⟨rfl, b1⟩
  have HD1 := Lib.hid (HD.out.below b1)
  have HK1 := Lib.hid (Kp.of_below b1 hlt)
  clear b1 HD CL
  go_wp2_with fail
  refine (CS.out _ HD1.out).mono ?_
  rintro e w2 ⟨rfl, d2, k2⟩
  have HD2 := Lib.hid d2
  have HK2 := Lib.hid (HK1.out.trans k2)
  clear d2 k2 HK1 HD1
  go_wp2_with fail
  go_end0
  exact ⟨rfl, HD2.out, HK2.out⟩
theorem crash1_enter (args : Array Value) (w : World) : (callFunc 61 args).run Try.prog w = .ok (.enter 61 args) w := by go_simp
set_option maxRecDepth 100000 in
set_option maxHeartbeats 2000000 in
theorem crash_zero (g rb n : Nat) (bs : Nat → Bk) (w : World) (hD : DvAt w g rb n bs) (hn : n ≤ 64) (h0 : (bs 0).wr = false) : Calls Try.prog 41 #[.pointer (some ⟨g, 0, none⟩), .agg #[.slice none 0 0, .int .i64 0, .int .i64 0]] w fun e w' => e = .returned (.int .i64 0) ∧ DvAt w' g rb n (stB bs (fun i => (bs i).safe) n) ∧ Kp rb w w' := by
  have hrl := World.rowIs.lt hD.row
  obtain ⟨w0, HW0, HX0, B0⟩ : ∃ w0, Hid (w.alloc (.cells #[.slice none 0 0, .int .i64 0, .int .i64 0] 32) = w0) ∧ Hid (w0.heap[w.heap.size]? = some (.cells #[.slice none 0 0, .int .i64 0, .int .i64 0] 32 (0, 0))) ∧ Hid (Below w.heap.size w w0) := ⟨_, Lib.hid rfl, Lib.hid (heap_alloc_new _ _), Lib.hid ((Below.refl _ _).alloc (Nat.le_refl _) _)⟩
  have HD0 := Lib.hid (hD.below B0.out)
  have HK0 := Lib.hid (Kp.of_below B0.out hrl)
  have hxr : w.heap.size ≠ rb := Nat.ne_of_gt hrl
  have hrl0 := World.rowIs.lt HD0.out.row
  have hlx0 : w.heap.size < w0.heap.size := (Array.getElem?_eq_some_iff.1 HX0.out).1
  clear hD B0
  go_enter Try.func41, Try.ntmps41
  go_upto_region 1 with fail
  rw [HW0.out]
  clear HW0
  generalize hx : w.heap.size = x at *
  clear hx
  go_wp2_with fail
  refine (walker_any g _).mono ?_
  rintro e w1 ⟨rfl, hp, b1⟩
  have HD1 : Hid (DvAt w1 g rb n (stB bs (fun i => (bs i).safe) 0)) := Lib.hid (by rw [stB_zero]; exact HD0.out.below b1)
  have HP1 := Lib.hid hp
  have HX1 := Lib.hid ((b1.block x hlx0).trans HX0.out)
  have HK1 := Lib.hid (HK0.out.trans (Kp.of_below b1 hrl0))
  have hpr : w0.heap.size ≠ rb := Nat.ne_of_gt hrl0
  clear hp b1 HD0 HK0 HX0
  generalize w0.heap.size = p at *
  have CW := Lib.hid (walk1 g rb n p 61 (.pointer (some ⟨x, 0, none⟩)) (fun k => stB bs (fun i => (bs i).safe) k) (fun _ w' => Kp rb w w' ∧ w'.heap[x]? = some (.cells #[.slice none 0 0, .int .i64 0, .int .i64 0] 32 (0, 0))) w1 (by omega) HD1 HP1 (Lib.hid ⟨HK1.out, HX1.out⟩) crash1_enter
    (Lib.hid (fun i hi hw w' hD' hp' hJ' => by
      have hw' : (bs i).wr = true := by rw [stB_at] at hw; exact hw
      have hi0 : 0 < i := by
        rcases Nat.eq_zero_or_pos i with e | e
        · subst e; rw [h0] at hw'; cases hw'
        · exact e
      exact (crash1_any g rb n i x _ w' hD' hi hi0 (by omega) hJ'.2).mono (fun e w'' h => ⟨h.1, by
        rw [stB_step bs _ i hw']
        have := h.2.1
        rw [stB_at] at this
        exact this, h.2.2.cell hpr hp', hJ'.1.trans h.2.2, h.2.2.row hxr hJ'.2⟩)))
    (Lib.hid (fun i hi hw => ⟨stB_skip bs _ i (by rw [stB_at] at hw; exact hw), fun w' h => h⟩)))
  go_wp2_with fail
  refine (CW.out).mono ?_
  rintro e w2 ⟨rfl, d2, k2, -⟩
  have HD2 := Lib.hid d2
  have HK2 := Lib.hid k2
  clear d2 k2 CW
  go_wp2_with fail
  go_ret
  exact ⟨rfl, HD2.out, HK2.out⟩
end Go.Proofs.Ytjmginkkjkbpoaa
