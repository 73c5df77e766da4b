/- Package view: Count. -/
import Derived.Test.YtapmnacggpcffaaVwO
import Derived.Laws.ResultCell
namespace Go.Proofs.Ytapmnacggpcffaa
open Go.RowKit Go.Deep
set_option linter.unusedVariables false
set_option linter.unusedSimpArgs false
/-- How many of the first n blocks are not 0, by what they are. -/
def cntF (s : ByteArray) (n : Nat) (k : Nat) : Int := (((List.range n).filter fun i => !zerV s i && decide (whatK (i : Int) = (k : Int))).length : Int)
theorem cntF_zero (s : ByteArray) (k : Nat) : cntF s 0 k = 0 := rfl
theorem cntF_succ (s : ByteArray) (n k : Nat) : cntF s (n + 1) k = cntF s n k + (if zerV s n = false ∧ whatK (n : Int) = (k : Int) then 1 else 0) := by
  unfold cntF
  rw [List.range_succ, List.filter_append, List.length_append]
  by_cases h : zerV s n = false ∧ whatK (n : Int) = (k : Int)
  · rw [if_pos h, List.filter_cons_of_pos (by simp [h.1, h.2])]; simp
  · rw [if_neg h, List.filter_cons_of_neg (by
      intro h2
      simp only [Bool.and_eq_true, Bool.not_eq_true', decide_eq_true_eq] at h2
      exact h h2)]; simp
theorem cntF_bd (s : ByteArray) (n k : Nat) : 0 ≤ cntF s n k ∧ cntF s n k ≤ (n : Int) := by
  unfold cntF
  have := List.length_filter_le (fun i => !zerV s i && decide (whatK (i : Int) = (k : Int))) (List.range n)
  rw [List.length_range] at this
  omega
theorem whatK_bd (i : Nat) (hi : i < 288) : 0 ≤ whatK (i : Int) ∧ whatK (i : Int) ≤ 4 := by
  unfold whatK
  split
  · omega
  · split
    · omega
    · split
      · omega
      · split <;> omega
def cntA (s : ByteArray) (n : Nat) : Array Value := #[.int .i64 (cntF s n 0), .int .i64 (cntF s n 1), .int .i64 (cntF s n 2), .int .i64 (cntF s n 3), .int .i64 (cntF s n 4)]
def C5 (w : World) (g : Nat) (F : Nat → Int) : Prop := w.rowIs g 28 5 (fun j => .int .i64 (F j))
theorem results_ct {P : Program} {fn : Func} {p u : Tmp} {ty : TypeId} (h : fn.results = #[.cell p ty, .tmp u]) (tmps : Array Value) (w : World) (g : Nat) (t : TypeId) (cs : Array Value) (fr : Nat × Nat) (d : TypeDesc)
    (hp : tmps.getD p undef = .pointer (some ⟨g, 0, none⟩)) (hg : w.heap[g]? = some (.cells cs t fr))
    (hu : P.underlying ty = some d) (hd : (match d with | .struct _ | .array _ _ => true | _ => false) = true) (hi : (P.info? ty).map (·.size) = some cs.size) :
    (results fn tmps).run P w = .ok (.tuple #[.agg cs, tmps.getD u undef]) w := by
  have hp' : tmps[p]?.getD undef = .pointer (some ⟨g, 0, none⟩) := by simpa using hp
  rw [results_cell_tmp h]
  simp [hp', asAddr, run_loadVar_row w g t ty cs fr d hg hu hd hi, Result.andThen]
theorem one_5 (a b c d e : Int) : (#[.int .i64 a, .int .i64 b, .int .i64 c, .int .i64 d, .int .i64 e] : Array Value).all (·.oneCell') = true := by simp [Value.oneCell']
theorem info_5 : (Try.prog.info? 28).map (·.size) = some 5 := by kernel_rfl
theorem size_5 (a b c d e : Int) : (Try.prog.info? 28).map (·.size) = some (#[.int .i64 a, .int .i64 b, .int .i64 c, .int .i64 d, .int .i64 e] : Array Value).size := info_5
theorem C5.step {w : World} {g : Nat} {s : ByteArray} {i k : Nat} (h : C5 w g (cntF s i)) (hz : zerV s i = false) (hk : whatK (i : Int) = (k : Int)) : C5 (w.setCell ⟨g, k, none⟩ (.int .i64 (cntF s i k + 1))) g (cntF s (i + 1)) := by
  unfold C5 at h ⊢
  refine World.rowIs.congr (World.rowIs.set h k _) (fun j _ => ?_)
  by_cases e : j = k
  · rw [if_pos e, e, cntF_succ, if_pos ⟨hz, hk⟩]
  · rw [if_neg e, cntF_succ, if_neg (fun h => e (by have := h.2; omega)), Int.add_zero]
theorem C5.skip {w : World} {g : Nat} {s : ByteArray} {i : Nat} (h : C5 w g (cntF s i)) (hz : zerV s i = true) : C5 w g (cntF s (i + 1)) := by
  unfold C5 at h ⊢
  exact World.rowIs.congr h (fun j _ => by rw [cntF_succ, if_neg (fun h => by rw [hz] at h; cases h.1), Int.add_zero])
set_option maxRecDepth 100000 in
set_option maxHeartbeats 8000000 in
theorem count_any (s : ByteArray) (w : World) (hs : s.size = 18432) : Calls Try.prog 8 #[.string s] w fun e w' => e = .returned (.tuple #[.agg (cntA s 288), .int .i64 0]) ∧ Below w.heap.size w w' := by
  obtain ⟨w1, hw1⟩ : ∃ w1, w.alloc (.cells #[.int .i64 0, .int .i64 0, .int .i64 0, .int .i64 0, .int .i64 0] 28) = w1 := ⟨_, rfl⟩
  have B1 : Below w.heap.size w w1 := by rw [← hw1]; exact (Below.refl _ _).alloc (Nat.le_refl _) _
  have r1 : w1.heap[w.heap.size]? = some (.cells #[.int .i64 0, .int .i64 0, .int .i64 0, .int .i64 0, .int .i64 0] 28 (0, 0)) := by rw [← hw1]; exact heap_alloc_new _ _
  have CL := Lib.hid (look_any s w1 hs)
  unfold LookR at CL
  have HB1 := Lib.hid B1
  have HW1 := Lib.hid hw1
  clear hw1 B1
  go_enter Try.func8, Try.ntmps8
  go_upto_region 1 with fail
  rw [HW1.out]
  clear HW1
  go_wp2_with fail
  refine CL.out.mono ?_
  rintro e w2 ⟨pm, cm, rfl, hom, b2⟩
  have HB2 := Lib.hid (HB1.out.trans (b2.mono HB1.out.size))
  have r2 := (b2.block w.heap.size (Array.getElem?_eq_some_iff.1 r1).1).trans r1
  have hl2 := (Array.getElem?_eq_some_iff.1 r2).1
  rcases hom.2 with ⟨e9, h0⟩ | ⟨ga, cap, cur, e9, _, hga, _⟩
  · omega
  injection e9 with e1 _ e3
  subst e1 e3
  have hgl := (Array.getElem?_eq_some_iff.1 hga).1
  have HOM := Lib.hid hom
  obtain ⟨w3, hw3⟩ : ∃ w3, w2.alloc (.cells #[.int .i64 0, .int .i64 0, .int .i64 0, .int .i64 0, .int .i64 0] 28) = w3 := ⟨_, rfl⟩
  have B3 : Below w2.heap.size w2 w3 := by rw [← hw3]; exact (Below.refl _ _).alloc (Nat.le_refl _) _
  have HC3 : Hid (C5 w3 w2.heap.size (cntF s 0)) := Lib.hid ⟨#[.int .i64 0, .int .i64 0, .int .i64 0, .int .i64 0, .int .i64 0], by rw [← hw3]; exact heap_alloc_new _ _, rfl, fun j hj => by
    rcases j with _ | _ | _ | _ | _ | j
    · rfl
    · rfl
    · rfl
    · rfl
    · rfl
    · omega⟩
  have HB3 := Lib.hid B3
  have HW3 := Lib.hid hw3
  obtain ⟨g6, hg6⟩ : ∃ g6, Hid (w2.heap.size = g6) := ⟨_, Lib.hid rfl⟩
  rw [hg6.out] at HC3 HB3 hl2 hgl
  clear hw3 B3 CL HB1 r1 b2 hom hga
  go_upto_region 3 with fail
  rw [HW3.out, hg6.out]
  clear HW3
  go_wp2_with fail
  go_loopw [16] (fun s16 wi => ∃ i : Nat, s16 = .int .i64 (i : Int) ∧ i ≤ 288 ∧ Hid (C5 wi g6 (cntF s i)) ∧ Hid (Below g6 w2 wi)) (fun s16 _ => 288 - (intOf s16).toNat)
  case atStart => exact ⟨0, rfl, by omega, HC3, HB3⟩
  case round =>
    obtain ⟨i, rfl, hi, HC, HB⟩ := hrel
    by_cases hlt : i < 288
    · as_aux_lemma =>
      have hli : (i : Int) < 288 := by omega
      obtain ⟨q0, q1, q2, q3⟩ := seenC_get s i 288 hlt
      have k0 := HOM.out.cells (g := ga) rfl _ _ q0
      have k1 := HOM.out.cells (g := ga) rfl _ _ q1
      have k2 := HOM.out.cells (g := ga) rfl _ _ q2
      have k3 := HOM.out.cells (g := ga) rfl _ _ q3
      rw [Addr.add_lit, Nat.zero_add] at k0 k1 k2 k3
      have k0 := (HB.out.cell (p := ⟨ga, i * 4, none⟩) hgl).trans k0
      have k1 := (HB.out.cell (p := ⟨ga, i * 4 + 1, none⟩) hgl).trans k1
      have k2 := (HB.out.cell (p := ⟨ga, i * 4 + 2, none⟩) hgl).trans k2
      have k3 := (HB.out.cell (p := ⟨ga, i * 4 + 3, none⟩) hgl).trans k3
      obtain ⟨kb0, kb4⟩ := whatK_bd i hlt
      have HST := Lib.hid (fun w' k h hz hk => C5.step (w := w') (g := g6) (s := s) (i := i) (k := k) h hz hk)
      have HSK := Lib.hid (fun w' h hz => C5.skip (w := w') (g := g6) (s := s) (i := i) h hz)
      generalize whatI (i : Int) = I at *
      generalize numV s i = N at *
      obtain ⟨K, hK⟩ : ∃ K, whatK (i : Int) = K := ⟨_, rfl⟩
      obtain ⟨Z, hZ⟩ : ∃ Z, zerV s i = Z := ⟨_, rfl⟩
      rw [hK] at k0 kb0 kb4
      rw [hZ] at k3
      obtain ⟨k, rfl⟩ : ∃ k : Nat, K = (k : Int) := ⟨K.toNat, by omega⟩
      have hk5 : k < 5 := by omega
      obtain ⟨w5, hw5⟩ : ∃ w5, wr.alloc (.cells #[.int .i64 (k : Int), .int .i64 I, .int .i64 N, .bool Z] 33) = w5 := ⟨_, rfl⟩
      have hbs := HB.out.size
      have hg6l := World.rowIs.lt HC.out
      have HB5 : Hid (Below g6 w2 w5) := Lib.hid (by rw [← hw5]; exact HB.out.alloc (Nat.le_of_lt hg6l) _)
      have HC5 : Hid (C5 w5 g6 (cntF s i)) := Lib.hid (by rw [← hw5]; exact World.rowIs.alloc HC.out _)
      have r5 : w5.heap[wr.heap.size]? = some (.cells #[.int .i64 (k : Int), .int .i64 I, .int .i64 N, .bool Z] 33 (0, 0)) := by rw [← hw5]; exact heap_alloc_new _ _
      obtain ⟨gx, hgx⟩ : ∃ gx, Hid (wr.heap.size = gx) := ⟨_, Lib.hid rfl⟩
      rw [hgx.out] at r5
      obtain ⟨y0, y1, y2, y3⟩ := four_cells r5
      have HW5 := Lib.hid hw5
      clear hw5 q0 q1 q2 q3 r5
      go_upto_region 6 with fail
      rw [HW5.out, hgx.out]
      clear HW5 k0 k1 k2 k3
      cases Z
      · as_aux_lemma =>
        have cb := cntF_bd s i k
        have HC6 := Lib.hid (HST.out w5 k HC5.out hZ hK)
        have HB6 : Hid (∀ u, Below g6 w2 (w5.setCell ⟨g6, k, none⟩ u)) := Lib.hid (fun u => HB5.out.setCell (p := ⟨g6, k, none⟩) (Nat.le_refl _) u)
        have hcell := World.rowIs.cell HC5.out hk5
        have hf := World.rowIs.frozen HC5.out k
        have hki : (k : Int) < 5 := by omega
        generalize cntF s i k = c at *
        go_wp2_with fail
        go_roundw
        case rel => exact ⟨i + 1, by go_num, by omega, HC6, Lib.hid (HB6.out _)⟩
        case measure => simp [intOf]; omega
      · as_aux_lemma =>
        have HC6 := Lib.hid (HSK.out w5 HC5.out hZ)
        go_wp2_with fail
        go_roundw
        case rel => exact ⟨i + 1, by go_num, by omega, HC6, HB5⟩
        case measure => simp [intOf]; omega
    · as_aux_lemma =>
      have hli : ¬ (i : Int) < 288 := by omega
      obtain rfl : i = 288 := by omega
      have k0 := World.rowIs.cell HC.out (i := 0) (by omega)
      have k1 := World.rowIs.cell HC.out (i := 1) (by omega)
      have k2 := World.rowIs.cell HC.out (i := 2) (by omega)
      have k3 := World.rowIs.cell HC.out (i := 3) (by omega)
      have k4 := World.rowIs.cell HC.out (i := 4) (by omega)
      have q9 := (HB.out.block w.heap.size hl2).trans r2
      have HB9 := Lib.hid (HB2.out.trans (HB.out.mono (by omega)))
      have HCA : Hid (cntA s 288 = #[.int .i64 (cntF s 288 0), .int .i64 (cntF s 288 1), .int .i64 (cntF s 288 2), .int .i64 (cntF s 288 3), .int .i64 (cntF s 288 4)]) := Lib.hid rfl
      generalize cntF s 288 0 = c0 at *
      generalize cntF s 288 1 = c1 at *
      generalize cntF s 288 2 = c2 at *
      generalize cntF s 288 3 = c3 at *
      generalize cntF s 288 4 = c4 at *
      clear HC HB HB2
      go_wp2_with (refine wpList_store_new rfl 28 _ _ rfl w.heap.size #[.int .i64 c0, .int .i64 c1, .int .i64 c2, .int .i64 c3, .int .i64 c4] rfl rfl 28 _ q9 (size_5 c0 c1 c2 c3 c4) rfl (one_5 c0 c1 c2 c3 c4) ?_; intro w4 hrow4 hbel4 hs4)
      refine bodyPost_ret_by (results_ct rfl _ _ w.heap.size 28 #[.int .i64 c0, .int .i64 c1, .int .i64 c2, .int .i64 c3, .int .i64 c4] (0, 0) _ rfl hrow4 Try.underlying28 rfl (size_5 c0 c1 c2 c3 c4)) rfl ⟨by rw [HCA.out]; rfl, HB9.out.trans hbel4⟩
end Go.Proofs.Ytapmnacggpcffaa
