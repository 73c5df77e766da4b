/- Slots: the law's mark. -/
import Derived.Test.YthhgodfgigcacaaSlP
namespace Go.Proofs.Ythhgodfgigcacaa
open Go.RowKit Go.Deep
set_option linter.unusedVariables false
set_option linter.unusedSimpArgs false
theorem refE_out {n : Nat} {X : Nat → Sl} {i p : Int} (h : ¬ (0 ≤ i ∧ i < (n : Int) ∧ 0 ≤ p ∧ p < 4)) : refE n X i (outB p) = 3 := by
  unfold refE
  rw [if_pos]
  by_cases h1 : i < 0
  · exact Or.inl h1
  · by_cases h2 : (n : Int) ≤ i
    · exact Or.inr (Or.inl h2)
    · refine Or.inr (Or.inr ?_)
      unfold outB
      exact decide_eq_true (by omega)
theorem refE_in {n : Nat} {X : Nat → Sl} {i p : Nat} (hi : i < n) (hp : p < 4) : refE n X (i : Int) (outB (p : Int)) = if X i = frS then 7 else 0 := by
  unfold refE
  rw [if_neg, Int.toNat_natCast]
  rintro (h | h | h)
  · omega
  · omega
  · unfold outB at h
    have := of_decide_eq_true h
    omega
theorem Inv.raised {n : Nat} {T : Nat → Sl} (h : Inv n T) (i m : Int) : Inv n (raiT n T i m (refE n T i (outB m))) := by
  unfold raiT
  by_cases e : refE n T i (outB m) = 0
  · rw [if_pos e]
    obtain ⟨k, rfl, hk, ho, hne⟩ := ref_zero e
    rw [Int.toNat_natCast]
    have hm : ¬ (m < 0 ∨ 4 ≤ m) := by unfold outB at ho; exact of_decide_eq_false ho
    have hg : ¬ (T k).g < 0 := fun hh => hne (h.fr k hh)
    refine h.upd hk ⟨(h.ok k).g1, (h.ok k).g2, ?_, ?_⟩ ?_ (h.dv k) ?_
    · show 0 ≤ m; omega
    · show m ≤ 3; omega
    · intro hh; exact absurd hh hg
    · intro hh i hi he; exact hi (h.one i k he (by show 0 ≤ (T i).g; rw [he]; exact hh))
  · rw [if_neg e]; exact h
theorem marS_g (s : Sl) (p : Nat) (v d : Bool) : (marS s p v d).g = s.g ∧ (marS s p v d).l = s.l := by
  unfold marS Sl.setV Sl.setD
  split <;> split <;> exact ⟨rfl, rfl⟩
theorem marS_dv (s : Sl) (p : Nat) (v d : Bool) (hp : p < 4) (h : ∀ j, s.d j = true → s.v j = true) (hvd : (d && !v) = false) : ∀ j, (marS s p v d).d j = true → (marS s p v d).v j = true := by
  have h0 : s.d0 = true → s.v0 = true := h 0
  have h1 : s.d1 = true → s.v1 = true := h 1
  have h2 : s.d2 = true → s.v2 = true := h 2
  have h3 : s.d3 = true → s.v3 = true := h 3
  have hv : d = true → v = true := fun e => by subst e; simpa using hvd
  intro j
  rcases (show p = 0 ∨ p = 1 ∨ p = 2 ∨ p = 3 by omega) with rfl | rfl | rfl | rfl <;> rcases j with _ | _ | _ | j <;> assumption
theorem Inv.marked {n : Nat} {T : Nat → Sl} (h : Inv n T) (i m : Int) (v d : Bool) : Inv n (marT n T i m v d) := by
  unfold marT
  by_cases e : marE n T i m v d = 0
  · rw [if_pos e]
    have e' := e
    unfold marE at e'
    by_cases hr : refE n T i (outB m) = 0
    · rw [if_pos hr] at e'
      obtain ⟨k, rfl, hk, ho, hne⟩ := ref_zero hr
      rw [Int.toNat_natCast]
      have hm : ¬ (m < 0 ∨ 4 ≤ m) := by unfold outB at ho; exact of_decide_eq_false ho
      have hg : ¬ (T k).g < 0 := fun hh => hne (h.fr k hh)
      have hvd : (d && !v) = false := by
        cases hq : (d && !v)
        · rfl
        · rw [hq] at e'; exact absurd e' (by decide)
      obtain ⟨g1, l1⟩ := marS_g (T k) m.toNat v d
      refine h.upd hk ⟨by rw [g1]; exact (h.ok k).g1, by rw [g1]; exact (h.ok k).g2, by rw [l1]; exact (h.ok k).l1, by rw [l1]; exact (h.ok k).l2⟩ (fun hh => absurd (g1 ▸ hh) hg) (marS_dv (T k) m.toNat v d (by omega) (h.dv k) hvd) ?_
      intro hh i hi he
      rw [g1] at hh he
      exact hi (h.one i k he (by rw [he]; exact hh))
    · rw [if_neg hr] at e'; exact absurd e' hr
  · rw [if_neg e]; exact h
set_option maxRecDepth 100000 in
set_option maxHeartbeats 16000000 in
theorem lmark7_any (B b n : Nat) (vv : Value) (T X : Nat → Sl) (gr i m : Int) (v d : Bool) (w : World) (hT : TAt w b n T) (hL : LAt w B vv n X) (h8 : n ≤ 8) (hB : B ≤ b) (hI : Inv n X) : Calls Try.prog 28 #[.pointer (some ⟨b, 0, none⟩), vv, .agg #[.int .i64 7, .int .i64 gr, .int .i64 i, .int .i64 m, .bool v, .bool d]] w (LawP B b n w T X (raiT n T i m (refE n T i (outB m))) (raiT n X i m (refE n X i (outB m)))) := by
  obtain ⟨ao, c, rfl⟩ := own_form hL
  obtain ⟨w1, hw1⟩ : ∃ w1, Hid (w.alloc (.cells #[.int .i64 7, .int .i64 gr, .int .i64 i, .int .i64 m, .bool v, .bool d] 33) = w1) := ⟨_, Lib.hid rfl⟩
  obtain ⟨a, ha⟩ : ∃ a, Hid (w.heap.size = a) := ⟨_, Lib.hid rfl⟩
  have hb1 : Below w.heap.size w w1 := by rw [← hw1.out]; exact (Below.refl _ _).alloc (Nat.le_refl _) _
  have HR1 : Hid (w1.heap[a]? = some (.cells #[.int .i64 7, .int .i64 gr, .int .i64 i, .int .i64 m, .bool v, .bool d] 33 (0, 0))) := Lib.hid (by rw [← hw1.out, ← ha.out]; exact heap_alloc_new _ _)
  have hba : a ≠ b := by have := hT.lt; have := ha.out; omega
  have hBw : B ≤ w.heap.size := Nat.le_trans hB (Nat.le_of_lt hT.lt)
  have hT1 := hT.below hb1
  have hL1 := hL.below hb1
  have HK1 : Hid (Kt B b w w1) := Lib.hid (Kt.of_below hb1 hBw)
  have CT := Lib.hid (raiseT_any B b n T i m w1 hT1 h8 hB)
  have HI := Lib.hid hI
  obtain ⟨z, hz⟩ : ∃ z, refE n T i (outB m) = z := ⟨_, rfl⟩
  rw [hz] at CT ⊢
  have HZ : Hid (T = X → refE n X i (outB m) = z) := Lib.hid (fun e => by rw [← e]; exact hz)
  obtain ⟨T2, hT2⟩ : ∃ T2, raiT n T i m z = T2 := ⟨_, rfl⟩
  rw [hT2] at CT ⊢
  clear hz hT2 hI hT hb1 hL
  have q0 : w1.cell? ⟨a, 0, none⟩ = some (.int .i64 7) := row_cell22 HR1.out 0 _ rfl
  have q2 : w1.cell? ⟨a, 2, none⟩ = some (.int .i64 i) := row_cell22 HR1.out 2 _ rfl
  have q3 : w1.cell? ⟨a, 3, none⟩ = some (.int .i64 m) := row_cell22 HR1.out 3 _ rfl
  have q4 : w1.cell? ⟨a, 4, none⟩ = some (.bool v) := row_cell22 HR1.out 4 _ rfl
  have q5 : w1.cell? ⟨a, 5, none⟩ = some (.bool d) := row_cell22 HR1.out 5 _ rfl
  have hcase : (¬ 0 ≤ i ∨ (0 ≤ i ∧ ¬ i < (n : Int)) ∨ (0 ≤ i ∧ i < (n : Int) ∧ ¬ 0 ≤ m) ∨ (0 ≤ i ∧ i < (n : Int) ∧ 0 ≤ m ∧ ¬ m < 4)) ∨ (0 ≤ i ∧ i < (n : Int) ∧ 0 ≤ m ∧ m < 4) := by omega
  go_enter Try.func28, Try.ntmps28
  go_upto_region 1 with fail
  rw [hw1.out, ha.out]
  clear hw1 ha
  rcases hcase with hout | ⟨hi0, hin, hm0, hm4⟩
  · have hE : refE n X i (outB m) = 3 := refE_out (by omega)
    have HE : Hid (refE n X i (outB m) = 3 ∧ raiT n X i m (refE n X i (outB m)) = X) := Lib.hid (⟨hE, by unfold raiT; rw [hE]; rfl⟩)
    rw [HE.out.1] at HZ
    clear hE
    rcases hout with u1 | ⟨u1, u2⟩ | ⟨u1, u2, u3⟩ | ⟨u1, u2, u3, u4⟩
    all_goals
      go_wp2_with fail
      refine CT.out.mono ?_
      rintro e w2 ⟨rfl, t2, k2⟩
      have HT2 := Lib.hid t2
      have HL2 := Lib.hid (hL1.kt k2 hT1)
      have HK2 := Lib.hid (HK1.out.trans k2)
      clear t2 k2
      go_wp2_with fail
      go_ret2
      exact ⟨_, _, rfl, fun e => by have h := HZ.out e; subst h; rfl, HT2.out, by rw [HE.out.2]; exact HL2.out, HK2.out⟩
  · obtain ⟨j, rfl⟩ : ∃ j : Nat, i = (j : Int) := ⟨i.toNat, by omega⟩
    obtain ⟨p, rfl⟩ : ∃ p : Nat, m = (p : Int) := ⟨m.toNat, by omega⟩
    have hjn : j < n := by omega
    have hp4 : p < 4 := by omega
    have HRE : Hid (refE n X (j : Int) (outB (p : Int)) = if X j = frS then 7 else 0) := Lib.hid (refE_in hjn hp4)
    have hneg := HI.out.neg j
    rcases (show p = 0 ∨ p = 1 ∨ p = 2 ∨ p = 3 by omega) with rfl | rfl | rfl | rfl
    · rw [show ((0 : Nat) : Int) = 0 from rfl] at *
      go_wp2_with fail
      refine CT.out.mono ?_
      rintro e w2 ⟨rfl, t2, k2⟩
      have HT2 := Lib.hid t2
      have HL2 := Lib.hid (hL1.kt k2 hT1)
      have HK2 := Lib.hid (HK1.out.trans k2)
      have hr2 := (k2.other a (Array.getElem?_eq_some_iff.1 HR1.out).1 hba).trans HR1.out
      have hBw2 : B ≤ w2.heap.size := Nat.le_trans hB (Nat.le_of_lt t2.lt)
      clear t2 k2 CT q0 q2 q3 q4 q5
      have q0 : w2.cell? ⟨a, 0, none⟩ = some (.int .i64 7) := row_cell22 hr2 0 _ rfl
      have q2 : w2.cell? ⟨a, 2, none⟩ = some (.int .i64 (j : Int)) := row_cell22 hr2 2 _ rfl
      have q3 : w2.cell? ⟨a, 3, none⟩ = some (.int .i64 0) := row_cell22 hr2 3 _ rfl
      have q4 : w2.cell? ⟨a, 4, none⟩ = some (.bool v) := row_cell22 hr2 4 _ rfl
      have q5 : w2.cell? ⟨a, 5, none⟩ = some (.bool d) := row_cell22 hr2 5 _ rfl
      obtain ⟨r, rfl, hb, hBr, hc⟩ := HL2.out.at_ (by omega)
      have c0 : w2.cell? ⟨r, j * 10, none⟩ = some (.int .i64 (X j).g) := hc j hjn 0 (by omega)
      by_cases hx : (X j).g < 0
      · rw [decide_eq_true hx] at hneg
        have hxf : X j = frS := of_decide_eq_true hneg
        have hR : refE n X (j : Int) (outB 0) = 7 := by rw [HRE.out, if_pos hxf]
        have HE : Hid (refE n X (j : Int) (outB 0) = 7 ∧ raiT n X (j : Int) 0 (refE n X (j : Int) (outB 0)) = X) := Lib.hid (⟨hR, by unfold raiT; rw [hR]; rfl⟩)
        rw [HE.out.1] at HZ
        obtain ⟨x, hxx⟩ : ∃ x, (X j).g = x := ⟨_, rfl⟩
        rw [hxx] at c0 hx
        clear hxx hc hneg hxf
        go_wp2_with fail
        go_ret2
        exact ⟨_, _, rfl, fun e => by have h := HZ.out e; subst h; rfl, HT2.out, by rw [HE.out.2]; exact HL2.out, HK2.out⟩
      · rw [decide_eq_false hx] at hneg
        have hxf : X j ≠ frS := of_decide_eq_false hneg
        have hR : refE n X (j : Int) (outB 0) = 0 := by rw [HRE.out, if_neg hxf]
        have HE : Hid (refE n X (j : Int) (outB 0) = 0 ∧ raiT n X (j : Int) 0 (refE n X (j : Int) (outB 0)) = upd X j ({ X j with l := 0 })) := Lib.hid (⟨hR, by unfold raiT; rw [hR, if_pos rfl, Int.toNat_natCast]⟩)
        rw [HE.out.1] at HZ
        have CS := Lib.hid (fun w' (hb : Below w2.heap.size w2 w') => rset_any B n j (.slice (some ⟨r, 0, none⟩) n c) X ({ X j with l := 0 }) w' (HL2.out.below hb) h8 hjn)
        have c1 : w2.cell? ⟨r, j * 10 + 1, none⟩ = some (.bool (X j).v0) := hc j hjn 1 (by omega)
        have c2 : w2.cell? ⟨r, j * 10 + 2, none⟩ = some (.bool (X j).v1) := hc j hjn 2 (by omega)
        have c3 : w2.cell? ⟨r, j * 10 + 3, none⟩ = some (.bool (X j).v2) := hc j hjn 3 (by omega)
        have c4 : w2.cell? ⟨r, j * 10 + 4, none⟩ = some (.bool (X j).v3) := hc j hjn 4 (by omega)
        have c5 : w2.cell? ⟨r, j * 10 + 5, none⟩ = some (.bool (X j).d0) := hc j hjn 5 (by omega)
        have c6 : w2.cell? ⟨r, j * 10 + 6, none⟩ = some (.bool (X j).d1) := hc j hjn 6 (by omega)
        have c7 : w2.cell? ⟨r, j * 10 + 7, none⟩ = some (.bool (X j).d2) := hc j hjn 7 (by omega)
        have c8 : w2.cell? ⟨r, j * 10 + 8, none⟩ = some (.bool (X j).d3) := hc j hjn 8 (by omega)
        have c9 : w2.cell? ⟨r, j * 10 + 9, none⟩ = some (.int .i64 (X j).l) := hc j hjn 9 (by omega)
        obtain ⟨s, hs⟩ : ∃ s, X j = s := ⟨_, rfl⟩
        rw [hs] at c0 c1 c2 c3 c4 c5 c6 c7 c8 c9 CS HE hx
        clear hs hc hneg hxf
        have haw2 : a < w2.heap.size := (Array.getElem?_eq_some_iff.1 hr2).1
        have HAC : Hid (∀ (o : Obj) (jj : Nat) (u : Value), w2.cell? ⟨a, jj, none⟩ = some u → (w2.alloc o).cell? ⟨a, jj, none⟩ = some u) := Lib.hid (fun o jj u h => (((Below.refl _ _).alloc (Nat.le_refl _) o : Below w2.heap.size w2 (w2.alloc o)).cell (p := ⟨a, jj, none⟩) haw2).trans h)
        have hg0 : ¬ s.g < 0 := hx
        go_wp2_with fail
        refine (CS.out _ ((Below.refl _ _).alloc (Nat.le_refl _) _)).mono ?_
        rintro e w3 ⟨v', rfl, l3, b3⟩
        have B3 := ((Below.refl w2.heap.size w2).alloc (Nat.le_refl _) _).trans (b3.mono (by simp))
        have HL3 := Lib.hid (own_base22 l3 (by simp; omega : B ≤ _))
        have HT3 := Lib.hid (HT2.out.below B3)
        have HK3 := Lib.hid (HK2.out.trans (Kt.of_below B3 hBw2))
        clear l3 b3 CS B3
        go_wp2_with fail
        go_ret2
        exact ⟨_, _, rfl, fun e => by have h := HZ.out e; subst h; rfl, HT3.out, by rw [HE.out.2]; exact HL3.out, HK3.out⟩
    · rw [show ((1 : Nat) : Int) = 1 from rfl] at *
      go_wp2_with fail
      refine CT.out.mono ?_
      rintro e w2 ⟨rfl, t2, k2⟩
      have HT2 := Lib.hid t2
      have HL2 := Lib.hid (hL1.kt k2 hT1)
      have HK2 := Lib.hid (HK1.out.trans k2)
      have hr2 := (k2.other a (Array.getElem?_eq_some_iff.1 HR1.out).1 hba).trans HR1.out
      have hBw2 : B ≤ w2.heap.size := Nat.le_trans hB (Nat.le_of_lt t2.lt)
      clear t2 k2 CT q0 q2 q3 q4 q5
      have q0 : w2.cell? ⟨a, 0, none⟩ = some (.int .i64 7) := row_cell22 hr2 0 _ rfl
      have q2 : w2.cell? ⟨a, 2, none⟩ = some (.int .i64 (j : Int)) := row_cell22 hr2 2 _ rfl
      have q3 : w2.cell? ⟨a, 3, none⟩ = some (.int .i64 1) := row_cell22 hr2 3 _ rfl
      have q4 : w2.cell? ⟨a, 4, none⟩ = some (.bool v) := row_cell22 hr2 4 _ rfl
      have q5 : w2.cell? ⟨a, 5, none⟩ = some (.bool d) := row_cell22 hr2 5 _ rfl
      obtain ⟨r, rfl, hb, hBr, hc⟩ := HL2.out.at_ (by omega)
      have c0 : w2.cell? ⟨r, j * 10, none⟩ = some (.int .i64 (X j).g) := hc j hjn 0 (by omega)
      by_cases hx : (X j).g < 0
      · rw [decide_eq_true hx] at hneg
        have hxf : X j = frS := of_decide_eq_true hneg
        have hR : refE n X (j : Int) (outB 1) = 7 := by rw [HRE.out, if_pos hxf]
        have HE : Hid (refE n X (j : Int) (outB 1) = 7 ∧ raiT n X (j : Int) 1 (refE n X (j : Int) (outB 1)) = X) := Lib.hid (⟨hR, by unfold raiT; rw [hR]; rfl⟩)
        rw [HE.out.1] at HZ
        obtain ⟨x, hxx⟩ : ∃ x, (X j).g = x := ⟨_, rfl⟩
        rw [hxx] at c0 hx
        clear hxx hc hneg hxf
        go_wp2_with fail
        go_ret2
        exact ⟨_, _, rfl, fun e => by have h := HZ.out e; subst h; rfl, HT2.out, by rw [HE.out.2]; exact HL2.out, HK2.out⟩
      · rw [decide_eq_false hx] at hneg
        have hxf : X j ≠ frS := of_decide_eq_false hneg
        have hR : refE n X (j : Int) (outB 1) = 0 := by rw [HRE.out, if_neg hxf]
        have HE : Hid (refE n X (j : Int) (outB 1) = 0 ∧ raiT n X (j : Int) 1 (refE n X (j : Int) (outB 1)) = upd X j ({ X j with l := 1 })) := Lib.hid (⟨hR, by unfold raiT; rw [hR, if_pos rfl, Int.toNat_natCast]⟩)
        rw [HE.out.1] at HZ
        have CS := Lib.hid (fun w' (hb : Below w2.heap.size w2 w') => rset_any B n j (.slice (some ⟨r, 0, none⟩) n c) X ({ X j with l := 1 }) w' (HL2.out.below hb) h8 hjn)
        have c1 : w2.cell? ⟨r, j * 10 + 1, none⟩ = some (.bool (X j).v0) := hc j hjn 1 (by omega)
        have c2 : w2.cell? ⟨r, j * 10 + 2, none⟩ = some (.bool (X j).v1) := hc j hjn 2 (by omega)
        have c3 : w2.cell? ⟨r, j * 10 + 3, none⟩ = some (.bool (X j).v2) := hc j hjn 3 (by omega)
        have c4 : w2.cell? ⟨r, j * 10 + 4, none⟩ = some (.bool (X j).v3) := hc j hjn 4 (by omega)
        have c5 : w2.cell? ⟨r, j * 10 + 5, none⟩ = some (.bool (X j).d0) := hc j hjn 5 (by omega)
        have c6 : w2.cell? ⟨r, j * 10 + 6, none⟩ = some (.bool (X j).d1) := hc j hjn 6 (by omega)
        have c7 : w2.cell? ⟨r, j * 10 + 7, none⟩ = some (.bool (X j).d2) := hc j hjn 7 (by omega)
        have c8 : w2.cell? ⟨r, j * 10 + 8, none⟩ = some (.bool (X j).d3) := hc j hjn 8 (by omega)
        have c9 : w2.cell? ⟨r, j * 10 + 9, none⟩ = some (.int .i64 (X j).l) := hc j hjn 9 (by omega)
        obtain ⟨s, hs⟩ : ∃ s, X j = s := ⟨_, rfl⟩
        rw [hs] at c0 c1 c2 c3 c4 c5 c6 c7 c8 c9 CS HE hx
        clear hs hc hneg hxf
        have haw2 : a < w2.heap.size := (Array.getElem?_eq_some_iff.1 hr2).1
        have HAC : Hid (∀ (o : Obj) (jj : Nat) (u : Value), w2.cell? ⟨a, jj, none⟩ = some u → (w2.alloc o).cell? ⟨a, jj, none⟩ = some u) := Lib.hid (fun o jj u h => (((Below.refl _ _).alloc (Nat.le_refl _) o : Below w2.heap.size w2 (w2.alloc o)).cell (p := ⟨a, jj, none⟩) haw2).trans h)
        have hg0 : ¬ s.g < 0 := hx
        go_wp2_with fail
        refine (CS.out _ ((Below.refl _ _).alloc (Nat.le_refl _) _)).mono ?_
        rintro e w3 ⟨v', rfl, l3, b3⟩
        have B3 := ((Below.refl w2.heap.size w2).alloc (Nat.le_refl _) _).trans (b3.mono (by simp))
        have HL3 := Lib.hid (own_base22 l3 (by simp; omega : B ≤ _))
        have HT3 := Lib.hid (HT2.out.below B3)
        have HK3 := Lib.hid (HK2.out.trans (Kt.of_below B3 hBw2))
        clear l3 b3 CS B3
        go_wp2_with fail
        go_ret2
        exact ⟨_, _, rfl, fun e => by have h := HZ.out e; subst h; rfl, HT3.out, by rw [HE.out.2]; exact HL3.out, HK3.out⟩
    · rw [show ((2 : Nat) : Int) = 2 from rfl] at *
      go_wp2_with fail
      refine CT.out.mono ?_
      rintro e w2 ⟨rfl, t2, k2⟩
      have HT2 := Lib.hid t2
      have HL2 := Lib.hid (hL1.kt k2 hT1)
      have HK2 := Lib.hid (HK1.out.trans k2)
      have hr2 := (k2.other a (Array.getElem?_eq_some_iff.1 HR1.out).1 hba).trans HR1.out
      have hBw2 : B ≤ w2.heap.size := Nat.le_trans hB (Nat.le_of_lt t2.lt)
      clear t2 k2 CT q0 q2 q3 q4 q5
      have q0 : w2.cell? ⟨a, 0, none⟩ = some (.int .i64 7) := row_cell22 hr2 0 _ rfl
      have q2 : w2.cell? ⟨a, 2, none⟩ = some (.int .i64 (j : Int)) := row_cell22 hr2 2 _ rfl
      have q3 : w2.cell? ⟨a, 3, none⟩ = some (.int .i64 2) := row_cell22 hr2 3 _ rfl
      have q4 : w2.cell? ⟨a, 4, none⟩ = some (.bool v) := row_cell22 hr2 4 _ rfl
      have q5 : w2.cell? ⟨a, 5, none⟩ = some (.bool d) := row_cell22 hr2 5 _ rfl
      obtain ⟨r, rfl, hb, hBr, hc⟩ := HL2.out.at_ (by omega)
      have c0 : w2.cell? ⟨r, j * 10, none⟩ = some (.int .i64 (X j).g) := hc j hjn 0 (by omega)
      by_cases hx : (X j).g < 0
      · rw [decide_eq_true hx] at hneg
        have hxf : X j = frS := of_decide_eq_true hneg
        have hR : refE n X (j : Int) (outB 2) = 7 := by rw [HRE.out, if_pos hxf]
        have HE : Hid (refE n X (j : Int) (outB 2) = 7 ∧ raiT n X (j : Int) 2 (refE n X (j : Int) (outB 2)) = X) := Lib.hid (⟨hR, by unfold raiT; rw [hR]; rfl⟩)
        rw [HE.out.1] at HZ
        obtain ⟨x, hxx⟩ : ∃ x, (X j).g = x := ⟨_, rfl⟩
        rw [hxx] at c0 hx
        clear hxx hc hneg hxf
        go_wp2_with fail
        go_ret2
        exact ⟨_, _, rfl, fun e => by have h := HZ.out e; subst h; rfl, HT2.out, by rw [HE.out.2]; exact HL2.out, HK2.out⟩
      · rw [decide_eq_false hx] at hneg
        have hxf : X j ≠ frS := of_decide_eq_false hneg
        have hR : refE n X (j : Int) (outB 2) = 0 := by rw [HRE.out, if_neg hxf]
        have HE : Hid (refE n X (j : Int) (outB 2) = 0 ∧ raiT n X (j : Int) 2 (refE n X (j : Int) (outB 2)) = upd X j ({ X j with l := 2 })) := Lib.hid (⟨hR, by unfold raiT; rw [hR, if_pos rfl, Int.toNat_natCast]⟩)
        rw [HE.out.1] at HZ
        have CS := Lib.hid (fun w' (hb : Below w2.heap.size w2 w') => rset_any B n j (.slice (some ⟨r, 0, none⟩) n c) X ({ X j with l := 2 }) w' (HL2.out.below hb) h8 hjn)
        have c1 : w2.cell? ⟨r, j * 10 + 1, none⟩ = some (.bool (X j).v0) := hc j hjn 1 (by omega)
        have c2 : w2.cell? ⟨r, j * 10 + 2, none⟩ = some (.bool (X j).v1) := hc j hjn 2 (by omega)
        have c3 : w2.cell? ⟨r, j * 10 + 3, none⟩ = some (.bool (X j).v2) := hc j hjn 3 (by omega)
        have c4 : w2.cell? ⟨r, j * 10 + 4, none⟩ = some (.bool (X j).v3) := hc j hjn 4 (by omega)
        have c5 : w2.cell? ⟨r, j * 10 + 5, none⟩ = some (.bool (X j).d0) := hc j hjn 5 (by omega)
        have c6 : w2.cell? ⟨r, j * 10 + 6, none⟩ = some (.bool (X j).d1) := hc j hjn 6 (by omega)
        have c7 : w2.cell? ⟨r, j * 10 + 7, none⟩ = some (.bool (X j).d2) := hc j hjn 7 (by omega)
        have c8 : w2.cell? ⟨r, j * 10 + 8, none⟩ = some (.bool (X j).d3) := hc j hjn 8 (by omega)
        have c9 : w2.cell? ⟨r, j * 10 + 9, none⟩ = some (.int .i64 (X j).l) := hc j hjn 9 (by omega)
        obtain ⟨s, hs⟩ : ∃ s, X j = s := ⟨_, rfl⟩
        rw [hs] at c0 c1 c2 c3 c4 c5 c6 c7 c8 c9 CS HE hx
        clear hs hc hneg hxf
        have haw2 : a < w2.heap.size := (Array.getElem?_eq_some_iff.1 hr2).1
        have HAC : Hid (∀ (o : Obj) (jj : Nat) (u : Value), w2.cell? ⟨a, jj, none⟩ = some u → (w2.alloc o).cell? ⟨a, jj, none⟩ = some u) := Lib.hid (fun o jj u h => (((Below.refl _ _).alloc (Nat.le_refl _) o : Below w2.heap.size w2 (w2.alloc o)).cell (p := ⟨a, jj, none⟩) haw2).trans h)
        have hg0 : ¬ s.g < 0 := hx
        go_wp2_with fail
        refine (CS.out _ ((Below.refl _ _).alloc (Nat.le_refl _) _)).mono ?_
        rintro e w3 ⟨v', rfl, l3, b3⟩
        have B3 := ((Below.refl w2.heap.size w2).alloc (Nat.le_refl _) _).trans (b3.mono (by simp))
        have HL3 := Lib.hid (own_base22 l3 (by simp; omega : B ≤ _))
        have HT3 := Lib.hid (HT2.out.below B3)
        have HK3 := Lib.hid (HK2.out.trans (Kt.of_below B3 hBw2))
        clear l3 b3 CS B3
        go_wp2_with fail
        go_ret2
        exact ⟨_, _, rfl, fun e => by have h := HZ.out e; subst h; rfl, HT3.out, by rw [HE.out.2]; exact HL3.out, HK3.out⟩
    · rw [show ((3 : Nat) : Int) = 3 from rfl] at *
      go_wp2_with fail
      refine CT.out.mono ?_
      rintro e w2 ⟨rfl, t2, k2⟩
      have HT2 := Lib.hid t2
      have HL2 := Lib.hid (hL1.kt k2 hT1)
      have HK2 := Lib.hid (HK1.out.trans k2)
      have hr2 := (k2.other a (Array.getElem?_eq_some_iff.1 HR1.out).1 hba).trans HR1.out
      have hBw2 : B ≤ w2.heap.size := Nat.le_trans hB (Nat.le_of_lt t2.lt)
      clear t2 k2 CT q0 q2 q3 q4 q5
      have q0 : w2.cell? ⟨a, 0, none⟩ = some (.int .i64 7) := row_cell22 hr2 0 _ rfl
      have q2 : w2.cell? ⟨a, 2, none⟩ = some (.int .i64 (j : Int)) := row_cell22 hr2 2 _ rfl
      have q3 : w2.cell? ⟨a, 3, none⟩ = some (.int .i64 3) := row_cell22 hr2 3 _ rfl
      have q4 : w2.cell? ⟨a, 4, none⟩ = some (.bool v) := row_cell22 hr2 4 _ rfl
      have q5 : w2.cell? ⟨a, 5, none⟩ = some (.bool d) := row_cell22 hr2 5 _ rfl
      obtain ⟨r, rfl, hb, hBr, hc⟩ := HL2.out.at_ (by omega)
      have c0 : w2.cell? ⟨r, j * 10, none⟩ = some (.int .i64 (X j).g) := hc j hjn 0 (by omega)
      by_cases hx : (X j).g < 0
      · rw [decide_eq_true hx] at hneg
        have hxf : X j = frS := of_decide_eq_true hneg
        have hR : refE n X (j : Int) (outB 3) = 7 := by rw [HRE.out, if_pos hxf]
        have HE : Hid (refE n X (j : Int) (outB 3) = 7 ∧ raiT n X (j : Int) 3 (refE n X (j : Int) (outB 3)) = X) := Lib.hid (⟨hR, by unfold raiT; rw [hR]; rfl⟩)
        rw [HE.out.1] at HZ
        obtain ⟨x, hxx⟩ : ∃ x, (X j).g = x := ⟨_, rfl⟩
        rw [hxx] at c0 hx
        clear hxx hc hneg hxf
        go_wp2_with fail
        go_ret2
        exact ⟨_, _, rfl, fun e => by have h := HZ.out e; subst h; rfl, HT2.out, by rw [HE.out.2]; exact HL2.out, HK2.out⟩
      · rw [decide_eq_false hx] at hneg
        have hxf : X j ≠ frS := of_decide_eq_false hneg
        have hR : refE n X (j : Int) (outB 3) = 0 := by rw [HRE.out, if_neg hxf]
        have HE : Hid (refE n X (j : Int) (outB 3) = 0 ∧ raiT n X (j : Int) 3 (refE n X (j : Int) (outB 3)) = upd X j ({ X j with l := 3 })) := Lib.hid (⟨hR, by unfold raiT; rw [hR, if_pos rfl, Int.toNat_natCast]⟩)
        rw [HE.out.1] at HZ
        have CS := Lib.hid (fun w' (hb : Below w2.heap.size w2 w') => rset_any B n j (.slice (some ⟨r, 0, none⟩) n c) X ({ X j with l := 3 }) w' (HL2.out.below hb) h8 hjn)
        have c1 : w2.cell? ⟨r, j * 10 + 1, none⟩ = some (.bool (X j).v0) := hc j hjn 1 (by omega)
        have c2 : w2.cell? ⟨r, j * 10 + 2, none⟩ = some (.bool (X j).v1) := hc j hjn 2 (by omega)
        have c3 : w2.cell? ⟨r, j * 10 + 3, none⟩ = some (.bool (X j).v2) := hc j hjn 3 (by omega)
        have c4 : w2.cell? ⟨r, j * 10 + 4, none⟩ = some (.bool (X j).v3) := hc j hjn 4 (by omega)
        have c5 : w2.cell? ⟨r, j * 10 + 5, none⟩ = some (.bool (X j).d0) := hc j hjn 5 (by omega)
        have c6 : w2.cell? ⟨r, j * 10 + 6, none⟩ = some (.bool (X j).d1) := hc j hjn 6 (by omega)
        have c7 : w2.cell? ⟨r, j * 10 + 7, none⟩ = some (.bool (X j).d2) := hc j hjn 7 (by omega)
        have c8 : w2.cell? ⟨r, j * 10 + 8, none⟩ = some (.bool (X j).d3) := hc j hjn 8 (by omega)
        have c9 : w2.cell? ⟨r, j * 10 + 9, none⟩ = some (.int .i64 (X j).l) := hc j hjn 9 (by omega)
        obtain ⟨s, hs⟩ : ∃ s, X j = s := ⟨_, rfl⟩
        rw [hs] at c0 c1 c2 c3 c4 c5 c6 c7 c8 c9 CS HE hx
        clear hs hc hneg hxf
        have haw2 : a < w2.heap.size := (Array.getElem?_eq_some_iff.1 hr2).1
        have HAC : Hid (∀ (o : Obj) (jj : Nat) (u : Value), w2.cell? ⟨a, jj, none⟩ = some u → (w2.alloc o).cell? ⟨a, jj, none⟩ = some u) := Lib.hid (fun o jj u h => (((Below.refl _ _).alloc (Nat.le_refl _) o : Below w2.heap.size w2 (w2.alloc o)).cell (p := ⟨a, jj, none⟩) haw2).trans h)
        have hg0 : ¬ s.g < 0 := hx
        go_wp2_with fail
        refine (CS.out _ ((Below.refl _ _).alloc (Nat.le_refl _) _)).mono ?_
        rintro e w3 ⟨v', rfl, l3, b3⟩
        have B3 := ((Below.refl w2.heap.size w2).alloc (Nat.le_refl _) _).trans (b3.mono (by simp))
        have HL3 := Lib.hid (own_base22 l3 (by simp; omega : B ≤ _))
        have HT3 := Lib.hid (HT2.out.below B3)
        have HK3 := Lib.hid (HK2.out.trans (Kt.of_below B3 hBw2))
        clear l3 b3 CS B3
        go_wp2_with fail
        go_ret2
        exact ⟨_, _, rfl, fun e => by have h := HZ.out e; subst h; rfl, HT3.out, by rw [HE.out.2]; exact HL3.out, HK3.out⟩
set_option maxRecDepth 100000 in
set_option maxHeartbeats 16000000 in
theorem lmark0_any (B b n : Nat) (vv : Value) (T X : Nat → Sl) (k gr i m : Int) (v d : Bool) (w : World) (hT : TAt w b n T) (hL : LAt w B vv n X) (h8 : n ≤ 8) (hB : B ≤ b) (hI : Inv n X) (hk7 : ¬ k = 7) : Calls Try.prog 28 #[.pointer (some ⟨b, 0, none⟩), vv, .agg #[.int .i64 k, .int .i64 gr, .int .i64 i, .int .i64 m, .bool v, .bool d]] w (LawP B b n w T X (marT n T i m v d) (marT n X i m v d)) := by
  obtain ⟨ao, c, rfl⟩ := own_form hL
  obtain ⟨w1, hw1⟩ : ∃ w1, Hid (w.alloc (.cells #[.int .i64 k, .int .i64 gr, .int .i64 i, .int .i64 m, .bool v, .bool d] 33) = w1) := ⟨_, Lib.hid rfl⟩
  obtain ⟨a, ha⟩ : ∃ a, Hid (w.heap.size = a) := ⟨_, Lib.hid rfl⟩
  have hb1 : Below w.heap.size w w1 := by rw [← hw1.out]; exact (Below.refl _ _).alloc (Nat.le_refl _) _
  have HR1 : Hid (w1.heap[a]? = some (.cells #[.int .i64 k, .int .i64 gr, .int .i64 i, .int .i64 m, .bool v, .bool d] 33 (0, 0))) := Lib.hid (by rw [← hw1.out, ← ha.out]; exact heap_alloc_new _ _)
  have hba : a ≠ b := by have := hT.lt; have := ha.out; omega
  have hBw : B ≤ w.heap.size := Nat.le_trans hB (Nat.le_of_lt hT.lt)
  have hT1 := hT.below hb1
  have hL1 := hL.below hb1
  have HK1 : Hid (Kt B b w w1) := Lib.hid (Kt.of_below hb1 hBw)
  have CT := Lib.hid (markT_any B b n T i m v d w1 hT1 h8 hB)
  have HI := Lib.hid hI
  obtain ⟨z, hz⟩ : ∃ z, marE n T i m v d = z := ⟨_, rfl⟩
  rw [hz] at CT
  have HZ : Hid (T = X → marE n X i m v d = z) := Lib.hid (fun e => by rw [← e]; exact hz)
  obtain ⟨T2, hT2⟩ : ∃ T2, marT n T i m v d = T2 := ⟨_, rfl⟩
  rw [hT2] at CT ⊢
  clear hz hT2 hI hT hb1 hL
  have q0 : w1.cell? ⟨a, 0, none⟩ = some (.int .i64 k) := row_cell22 HR1.out 0 _ rfl
  have q2 : w1.cell? ⟨a, 2, none⟩ = some (.int .i64 i) := row_cell22 HR1.out 2 _ rfl
  have q3 : w1.cell? ⟨a, 3, none⟩ = some (.int .i64 m) := row_cell22 HR1.out 3 _ rfl
  have q4 : w1.cell? ⟨a, 4, none⟩ = some (.bool v) := row_cell22 HR1.out 4 _ rfl
  have q5 : w1.cell? ⟨a, 5, none⟩ = some (.bool d) := row_cell22 HR1.out 5 _ rfl
  have hcase : (¬ 0 ≤ i ∨ (0 ≤ i ∧ ¬ i < (n : Int)) ∨ (0 ≤ i ∧ i < (n : Int) ∧ ¬ 0 ≤ m) ∨ (0 ≤ i ∧ i < (n : Int) ∧ 0 ≤ m ∧ ¬ m < 4)) ∨ (0 ≤ i ∧ i < (n : Int) ∧ 0 ≤ m ∧ m < 4) := by omega
  go_enter Try.func28, Try.ntmps28
  go_upto_region 1 with fail
  rw [hw1.out, ha.out]
  clear hw1 ha
  rcases hcase with hout | ⟨hi0, hin, hm0, hm4⟩
  · have hE : refE n X i (outB m) = 3 := refE_out (by omega)
    have HE : Hid (marE n X i m v d = 3 ∧ marT n X i m v d = X) := Lib.hid (⟨by unfold marE; rw [hE]; rfl, by unfold marT marE; rw [hE]; rfl⟩)
    rw [HE.out.1] at HZ
    clear hE
    rcases hout with u1 | ⟨u1, u2⟩ | ⟨u1, u2, u3⟩ | ⟨u1, u2, u3, u4⟩
    all_goals
      go_wp2_with fail
      refine CT.out.mono ?_
      rintro e w2 ⟨rfl, t2, k2⟩
      have HT2 := Lib.hid t2
      have HL2 := Lib.hid (hL1.kt k2 hT1)
      have HK2 := Lib.hid (HK1.out.trans k2)
      clear t2 k2
      go_wp2_with fail
      go_ret2
      exact ⟨_, _, rfl, fun e => by have h := HZ.out e; subst h; rfl, HT2.out, by rw [HE.out.2]; exact HL2.out, HK2.out⟩
  · obtain ⟨j, rfl⟩ : ∃ j : Nat, i = (j : Int) := ⟨i.toNat, by omega⟩
    obtain ⟨p, rfl⟩ : ∃ p : Nat, m = (p : Int) := ⟨m.toNat, by omega⟩
    have hjn : j < n := by omega
    have hp4 : p < 4 := by omega
    have HRE : Hid (refE n X (j : Int) (outB (p : Int)) = if X j = frS then 7 else 0) := Lib.hid (refE_in hjn hp4)
    have hneg := HI.out.neg j
    rcases (show p = 0 ∨ p = 1 ∨ p = 2 ∨ p = 3 by omega) with rfl | rfl | rfl | rfl
    · rw [show ((0 : Nat) : Int) = 0 from rfl] at *
      go_wp2_with fail
      refine CT.out.mono ?_
      rintro e w2 ⟨rfl, t2, k2⟩
      have HT2 := Lib.hid t2
      have HL2 := Lib.hid (hL1.kt k2 hT1)
      have HK2 := Lib.hid (HK1.out.trans k2)
      have hr2 := (k2.other a (Array.getElem?_eq_some_iff.1 HR1.out).1 hba).trans HR1.out
      have hBw2 : B ≤ w2.heap.size := Nat.le_trans hB (Nat.le_of_lt t2.lt)
      clear t2 k2 CT q0 q2 q3 q4 q5
      have q0 : w2.cell? ⟨a, 0, none⟩ = some (.int .i64 k) := row_cell22 hr2 0 _ rfl
      have q2 : w2.cell? ⟨a, 2, none⟩ = some (.int .i64 (j : Int)) := row_cell22 hr2 2 _ rfl
      have q3 : w2.cell? ⟨a, 3, none⟩ = some (.int .i64 0) := row_cell22 hr2 3 _ rfl
      have q4 : w2.cell? ⟨a, 4, none⟩ = some (.bool v) := row_cell22 hr2 4 _ rfl
      have q5 : w2.cell? ⟨a, 5, none⟩ = some (.bool d) := row_cell22 hr2 5 _ rfl
      obtain ⟨r, rfl, hb, hBr, hc⟩ := HL2.out.at_ (by omega)
      have c0 : w2.cell? ⟨r, j * 10, none⟩ = some (.int .i64 (X j).g) := hc j hjn 0 (by omega)
      by_cases hx : (X j).g < 0
      · rw [decide_eq_true hx] at hneg
        have hxf : X j = frS := of_decide_eq_true hneg
        have hR : refE n X (j : Int) (outB 0) = 7 := by rw [HRE.out, if_pos hxf]
        have hM : marE n X (j : Int) 0 v d = 7 := by unfold marE; rw [hR]; rfl
        have HE : Hid (marE n X (j : Int) 0 v d = 7 ∧ marT n X (j : Int) 0 v d = X) := Lib.hid (⟨hM, by unfold marT; rw [hM]; rfl⟩)
        rw [HE.out.1] at HZ
        obtain ⟨x, hxx⟩ : ∃ x, (X j).g = x := ⟨_, rfl⟩
        rw [hxx] at c0 hx
        clear hxx hc hneg hxf
        go_wp2_with fail
        go_ret2
        exact ⟨_, _, rfl, fun e => by have h := HZ.out e; subst h; rfl, HT2.out, by rw [HE.out.2]; exact HL2.out, HK2.out⟩
      · rw [decide_eq_false hx] at hneg
        have hxf : X j ≠ frS := of_decide_eq_false hneg
        have hR : refE n X (j : Int) (outB 0) = 0 := by rw [HRE.out, if_neg hxf]
        have hM : marE n X (j : Int) 0 v d = if (d && !v) = true then 2 else 0 := by unfold marE; rw [hR, if_pos rfl]
        have HM := Lib.hid hM
        clear hM hR
        cases d <;> cases v
        · have HE : Hid (marE n X (j : Int) 0 false false = 0 ∧ marT n X (j : Int) 0 false false = upd X j (marS (X j) 0 false false)) := Lib.hid (⟨HM.out, by unfold marT; rw [HM.out, if_pos (by decide), Int.toNat_natCast]; rfl⟩)
          rw [HE.out.1] at HZ
          have CS := Lib.hid (fun w' (hb : Below w2.heap.size w2 w') => rset_any B n j (.slice (some ⟨r, 0, none⟩) n c) X (marS (X j) 0 false false) w' (HL2.out.below hb) h8 hjn)
          have c1 : w2.cell? ⟨r, j * 10 + 1, none⟩ = some (.bool (X j).v0) := hc j hjn 1 (by omega)
          have c2 : w2.cell? ⟨r, j * 10 + 2, none⟩ = some (.bool (X j).v1) := hc j hjn 2 (by omega)
          have c3 : w2.cell? ⟨r, j * 10 + 3, none⟩ = some (.bool (X j).v2) := hc j hjn 3 (by omega)
          have c4 : w2.cell? ⟨r, j * 10 + 4, none⟩ = some (.bool (X j).v3) := hc j hjn 4 (by omega)
          have c5 : w2.cell? ⟨r, j * 10 + 5, none⟩ = some (.bool (X j).d0) := hc j hjn 5 (by omega)
          have c6 : w2.cell? ⟨r, j * 10 + 6, none⟩ = some (.bool (X j).d1) := hc j hjn 6 (by omega)
          have c7 : w2.cell? ⟨r, j * 10 + 7, none⟩ = some (.bool (X j).d2) := hc j hjn 7 (by omega)
          have c8 : w2.cell? ⟨r, j * 10 + 8, none⟩ = some (.bool (X j).d3) := hc j hjn 8 (by omega)
          have c9 : w2.cell? ⟨r, j * 10 + 9, none⟩ = some (.int .i64 (X j).l) := hc j hjn 9 (by omega)
          obtain ⟨s, hs⟩ : ∃ s, X j = s := ⟨_, rfl⟩
          rw [hs] at c0 c1 c2 c3 c4 c5 c6 c7 c8 c9 CS HE hx
          clear hs hc hneg hxf
          have haw2 : a < w2.heap.size := (Array.getElem?_eq_some_iff.1 hr2).1
          have HAC : Hid (∀ (o : Obj) (jj : Nat) (u : Value), w2.cell? ⟨a, jj, none⟩ = some u → (w2.alloc o).cell? ⟨a, jj, none⟩ = some u) := Lib.hid (fun o jj u h => (((Below.refl _ _).alloc (Nat.le_refl _) o : Below w2.heap.size w2 (w2.alloc o)).cell (p := ⟨a, jj, none⟩) haw2).trans h)
          have hg0 : ¬ s.g < 0 := hx
          go_wp2_with fail
          refine (CS.out _ ((Below.refl _ _).alloc (Nat.le_refl _) _)).mono ?_
          rintro e w3 ⟨v', rfl, l3, b3⟩
          have B3 := ((Below.refl w2.heap.size w2).alloc (Nat.le_refl _) _).trans (b3.mono (by simp))
          have HL3 := Lib.hid (own_base22 l3 (by simp; omega : B ≤ _))
          have HT3 := Lib.hid (HT2.out.below B3)
          have HK3 := Lib.hid (HK2.out.trans (Kt.of_below B3 hBw2))
          clear l3 b3 CS B3
          go_wp2_with fail
          go_ret2
          exact ⟨_, _, rfl, fun e => by have h := HZ.out e; subst h; rfl, HT3.out, by rw [HE.out.2]; exact HL3.out, HK3.out⟩
        · have HE : Hid (marE n X (j : Int) 0 true false = 0 ∧ marT n X (j : Int) 0 true false = upd X j (marS (X j) 0 true false)) := Lib.hid (⟨HM.out, by unfold marT; rw [HM.out, if_pos (by decide), Int.toNat_natCast]; rfl⟩)
          rw [HE.out.1] at HZ
          have CS := Lib.hid (fun w' (hb : Below w2.heap.size w2 w') => rset_any B n j (.slice (some ⟨r, 0, none⟩) n c) X (marS (X j) 0 true false) w' (HL2.out.below hb) h8 hjn)
          have c1 : w2.cell? ⟨r, j * 10 + 1, none⟩ = some (.bool (X j).v0) := hc j hjn 1 (by omega)
          have c2 : w2.cell? ⟨r, j * 10 + 2, none⟩ = some (.bool (X j).v1) := hc j hjn 2 (by omega)
          have c3 : w2.cell? ⟨r, j * 10 + 3, none⟩ = some (.bool (X j).v2) := hc j hjn 3 (by omega)
          have c4 : w2.cell? ⟨r, j * 10 + 4, none⟩ = some (.bool (X j).v3) := hc j hjn 4 (by omega)
          have c5 : w2.cell? ⟨r, j * 10 + 5, none⟩ = some (.bool (X j).d0) := hc j hjn 5 (by omega)
          have c6 : w2.cell? ⟨r, j * 10 + 6, none⟩ = some (.bool (X j).d1) := hc j hjn 6 (by omega)
          have c7 : w2.cell? ⟨r, j * 10 + 7, none⟩ = some (.bool (X j).d2) := hc j hjn 7 (by omega)
          have c8 : w2.cell? ⟨r, j * 10 + 8, none⟩ = some (.bool (X j).d3) := hc j hjn 8 (by omega)
          have c9 : w2.cell? ⟨r, j * 10 + 9, none⟩ = some (.int .i64 (X j).l) := hc j hjn 9 (by omega)
          obtain ⟨s, hs⟩ : ∃ s, X j = s := ⟨_, rfl⟩
          rw [hs] at c0 c1 c2 c3 c4 c5 c6 c7 c8 c9 CS HE hx
          clear hs hc hneg hxf
          have haw2 : a < w2.heap.size := (Array.getElem?_eq_some_iff.1 hr2).1
          have HAC : Hid (∀ (o : Obj) (jj : Nat) (u : Value), w2.cell? ⟨a, jj, none⟩ = some u → (w2.alloc o).cell? ⟨a, jj, none⟩ = some u) := Lib.hid (fun o jj u h => (((Below.refl _ _).alloc (Nat.le_refl _) o : Below w2.heap.size w2 (w2.alloc o)).cell (p := ⟨a, jj, none⟩) haw2).trans h)
          have hg0 : ¬ s.g < 0 := hx
          go_wp2_with fail
          refine (CS.out _ ((Below.refl _ _).alloc (Nat.le_refl _) _)).mono ?_
          rintro e w3 ⟨v', rfl, l3, b3⟩
          have B3 := ((Below.refl w2.heap.size w2).alloc (Nat.le_refl _) _).trans (b3.mono (by simp))
          have HL3 := Lib.hid (own_base22 l3 (by simp; omega : B ≤ _))
          have HT3 := Lib.hid (HT2.out.below B3)
          have HK3 := Lib.hid (HK2.out.trans (Kt.of_below B3 hBw2))
          clear l3 b3 CS B3
          go_wp2_with fail
          go_ret2
          exact ⟨_, _, rfl, fun e => by have h := HZ.out e; subst h; rfl, HT3.out, by rw [HE.out.2]; exact HL3.out, HK3.out⟩
        · have HE : Hid (marE n X (j : Int) 0 false true = 2 ∧ marT n X (j : Int) 0 false true = X) := Lib.hid ⟨HM.out, by unfold marT; rw [HM.out]; rfl⟩
          rw [HE.out.1] at HZ
          obtain ⟨x, hxx⟩ : ∃ x, (X j).g = x := ⟨_, rfl⟩
          rw [hxx] at c0 hx
          clear hxx hc hneg hxf HM
          go_wp2_with fail
          go_ret2
          exact ⟨_, _, rfl, fun e => by have h := HZ.out e; subst h; rfl, HT2.out, by rw [HE.out.2]; exact HL2.out, HK2.out⟩
        · have HE : Hid (marE n X (j : Int) 0 true true = 0 ∧ marT n X (j : Int) 0 true true = upd X j (marS (X j) 0 true true)) := Lib.hid (⟨HM.out, by unfold marT; rw [HM.out, if_pos (by decide), Int.toNat_natCast]; rfl⟩)
          rw [HE.out.1] at HZ
          have CS := Lib.hid (fun w' (hb : Below w2.heap.size w2 w') => rset_any B n j (.slice (some ⟨r, 0, none⟩) n c) X (marS (X j) 0 true true) w' (HL2.out.below hb) h8 hjn)
          have c1 : w2.cell? ⟨r, j * 10 + 1, none⟩ = some (.bool (X j).v0) := hc j hjn 1 (by omega)
          have c2 : w2.cell? ⟨r, j * 10 + 2, none⟩ = some (.bool (X j).v1) := hc j hjn 2 (by omega)
          have c3 : w2.cell? ⟨r, j * 10 + 3, none⟩ = some (.bool (X j).v2) := hc j hjn 3 (by omega)
          have c4 : w2.cell? ⟨r, j * 10 + 4, none⟩ = some (.bool (X j).v3) := hc j hjn 4 (by omega)
          have c5 : w2.cell? ⟨r, j * 10 + 5, none⟩ = some (.bool (X j).d0) := hc j hjn 5 (by omega)
          have c6 : w2.cell? ⟨r, j * 10 + 6, none⟩ = some (.bool (X j).d1) := hc j hjn 6 (by omega)
          have c7 : w2.cell? ⟨r, j * 10 + 7, none⟩ = some (.bool (X j).d2) := hc j hjn 7 (by omega)
          have c8 : w2.cell? ⟨r, j * 10 + 8, none⟩ = some (.bool (X j).d3) := hc j hjn 8 (by omega)
          have c9 : w2.cell? ⟨r, j * 10 + 9, none⟩ = some (.int .i64 (X j).l) := hc j hjn 9 (by omega)
          obtain ⟨s, hs⟩ : ∃ s, X j = s := ⟨_, rfl⟩
          rw [hs] at c0 c1 c2 c3 c4 c5 c6 c7 c8 c9 CS HE hx
          clear hs hc hneg hxf
          have haw2 : a < w2.heap.size := (Array.getElem?_eq_some_iff.1 hr2).1
          have HAC : Hid (∀ (o : Obj) (jj : Nat) (u : Value), w2.cell? ⟨a, jj, none⟩ = some u → (w2.alloc o).cell? ⟨a, jj, none⟩ = some u) := Lib.hid (fun o jj u h => (((Below.refl _ _).alloc (Nat.le_refl _) o : Below w2.heap.size w2 (w2.alloc o)).cell (p := ⟨a, jj, none⟩) haw2).trans h)
          have hg0 : ¬ s.g < 0 := hx
          go_wp2_with fail
          refine (CS.out _ ((Below.refl _ _).alloc (Nat.le_refl _) _)).mono ?_
          rintro e w3 ⟨v', rfl, l3, b3⟩
          have B3 := ((Below.refl w2.heap.size w2).alloc (Nat.le_refl _) _).trans (b3.mono (by simp))
          have HL3 := Lib.hid (own_base22 l3 (by simp; omega : B ≤ _))
          have HT3 := Lib.hid (HT2.out.below B3)
          have HK3 := Lib.hid (HK2.out.trans (Kt.of_below B3 hBw2))
          clear l3 b3 CS B3
          go_wp2_with fail
          go_ret2
          exact ⟨_, _, rfl, fun e => by have h := HZ.out e; subst h; rfl, HT3.out, by rw [HE.out.2]; exact HL3.out, HK3.out⟩
    · rw [show ((1 : Nat) : Int) = 1 from rfl] at *
      go_wp2_with fail
      refine CT.out.mono ?_
      rintro e w2 ⟨rfl, t2, k2⟩
      have HT2 := Lib.hid t2
      have HL2 := Lib.hid (hL1.kt k2 hT1)
      have HK2 := Lib.hid (HK1.out.trans k2)
      have hr2 := (k2.other a (Array.getElem?_eq_some_iff.1 HR1.out).1 hba).trans HR1.out
      have hBw2 : B ≤ w2.heap.size := Nat.le_trans hB (Nat.le_of_lt t2.lt)
      clear t2 k2 CT q0 q2 q3 q4 q5
      have q0 : w2.cell? ⟨a, 0, none⟩ = some (.int .i64 k) := row_cell22 hr2 0 _ rfl
      have q2 : w2.cell? ⟨a, 2, none⟩ = some (.int .i64 (j : Int)) := row_cell22 hr2 2 _ rfl
      have q3 : w2.cell? ⟨a, 3, none⟩ = some (.int .i64 1) := row_cell22 hr2 3 _ rfl
      have q4 : w2.cell? ⟨a, 4, none⟩ = some (.bool v) := row_cell22 hr2 4 _ rfl
      have q5 : w2.cell? ⟨a, 5, none⟩ = some (.bool d) := row_cell22 hr2 5 _ rfl
      obtain ⟨r, rfl, hb, hBr, hc⟩ := HL2.out.at_ (by omega)
      have c0 : w2.cell? ⟨r, j * 10, none⟩ = some (.int .i64 (X j).g) := hc j hjn 0 (by omega)
      by_cases hx : (X j).g < 0
      · rw [decide_eq_true hx] at hneg
        have hxf : X j = frS := of_decide_eq_true hneg
        have hR : refE n X (j : Int) (outB 1) = 7 := by rw [HRE.out, if_pos hxf]
        have hM : marE n X (j : Int) 1 v d = 7 := by unfold marE; rw [hR]; rfl
        have HE : Hid (marE n X (j : Int) 1 v d = 7 ∧ marT n X (j : Int) 1 v d = X) := Lib.hid (⟨hM, by unfold marT; rw [hM]; rfl⟩)
        rw [HE.out.1] at HZ
        obtain ⟨x, hxx⟩ : ∃ x, (X j).g = x := ⟨_, rfl⟩
        rw [hxx] at c0 hx
        clear hxx hc hneg hxf
        go_wp2_with fail
        go_ret2
        exact ⟨_, _, rfl, fun e => by have h := HZ.out e; subst h; rfl, HT2.out, by rw [HE.out.2]; exact HL2.out, HK2.out⟩
      · rw [decide_eq_false hx] at hneg
        have hxf : X j ≠ frS := of_decide_eq_false hneg
        have hR : refE n X (j : Int) (outB 1) = 0 := by rw [HRE.out, if_neg hxf]
        have hM : marE n X (j : Int) 1 v d = if (d && !v) = true then 2 else 0 := by unfold marE; rw [hR, if_pos rfl]
        have HM := Lib.hid hM
        clear hM hR
        cases d <;> cases v
        · have HE : Hid (marE n X (j : Int) 1 false false = 0 ∧ marT n X (j : Int) 1 false false = upd X j (marS (X j) 1 false false)) := Lib.hid (⟨HM.out, by unfold marT; rw [HM.out, if_pos (by decide), Int.toNat_natCast]; rfl⟩)
          rw [HE.out.1] at HZ
          have CS := Lib.hid (fun w' (hb : Below w2.heap.size w2 w') => rset_any B n j (.slice (some ⟨r, 0, none⟩) n c) X (marS (X j) 1 false false) w' (HL2.out.below hb) h8 hjn)
          have c1 : w2.cell? ⟨r, j * 10 + 1, none⟩ = some (.bool (X j).v0) := hc j hjn 1 (by omega)
          have c2 : w2.cell? ⟨r, j * 10 + 2, none⟩ = some (.bool (X j).v1) := hc j hjn 2 (by omega)
          have c3 : w2.cell? ⟨r, j * 10 + 3, none⟩ = some (.bool (X j).v2) := hc j hjn 3 (by omega)
          have c4 : w2.cell? ⟨r, j * 10 + 4, none⟩ = some (.bool (X j).v3) := hc j hjn 4 (by omega)
          have c5 : w2.cell? ⟨r, j * 10 + 5, none⟩ = some (.bool (X j).d0) := hc j hjn 5 (by omega)
          have c6 : w2.cell? ⟨r, j * 10 + 6, none⟩ = some (.bool (X j).d1) := hc j hjn 6 (by omega)
          have c7 : w2.cell? ⟨r, j * 10 + 7, none⟩ = some (.bool (X j).d2) := hc j hjn 7 (by omega)
          have c8 : w2.cell? ⟨r, j * 10 + 8, none⟩ = some (.bool (X j).d3) := hc j hjn 8 (by omega)
          have c9 : w2.cell? ⟨r, j * 10 + 9, none⟩ = some (.int .i64 (X j).l) := hc j hjn 9 (by omega)
          obtain ⟨s, hs⟩ : ∃ s, X j = s := ⟨_, rfl⟩
          rw [hs] at c0 c1 c2 c3 c4 c5 c6 c7 c8 c9 CS HE hx
          clear hs hc hneg hxf
          have haw2 : a < w2.heap.size := (Array.getElem?_eq_some_iff.1 hr2).1
          have HAC : Hid (∀ (o : Obj) (jj : Nat) (u : Value), w2.cell? ⟨a, jj, none⟩ = some u → (w2.alloc o).cell? ⟨a, jj, none⟩ = some u) := Lib.hid (fun o jj u h => (((Below.refl _ _).alloc (Nat.le_refl _) o : Below w2.heap.size w2 (w2.alloc o)).cell (p := ⟨a, jj, none⟩) haw2).trans h)
          have hg0 : ¬ s.g < 0 := hx
          go_wp2_with fail
          refine (CS.out _ ((Below.refl _ _).alloc (Nat.le_refl _) _)).mono ?_
          rintro e w3 ⟨v', rfl, l3, b3⟩
          have B3 := ((Below.refl w2.heap.size w2).alloc (Nat.le_refl _) _).trans (b3.mono (by simp))
          have HL3 := Lib.hid (own_base22 l3 (by simp; omega : B ≤ _))
          have HT3 := Lib.hid (HT2.out.below B3)
          have HK3 := Lib.hid (HK2.out.trans (Kt.of_below B3 hBw2))
          clear l3 b3 CS B3
          go_wp2_with fail
          go_ret2
          exact ⟨_, _, rfl, fun e => by have h := HZ.out e; subst h; rfl, HT3.out, by rw [HE.out.2]; exact HL3.out, HK3.out⟩
        · have HE : Hid (marE n X (j : Int) 1 true false = 0 ∧ marT n X (j : Int) 1 true false = upd X j (marS (X j) 1 true false)) := Lib.hid (⟨HM.out, by unfold marT; rw [HM.out, if_pos (by decide), Int.toNat_natCast]; rfl⟩)
          rw [HE.out.1] at HZ
          have CS := Lib.hid (fun w' (hb : Below w2.heap.size w2 w') => rset_any B n j (.slice (some ⟨r, 0, none⟩) n c) X (marS (X j) 1 true false) w' (HL2.out.below hb) h8 hjn)
          have c1 : w2.cell? ⟨r, j * 10 + 1, none⟩ = some (.bool (X j).v0) := hc j hjn 1 (by omega)
          have c2 : w2.cell? ⟨r, j * 10 + 2, none⟩ = some (.bool (X j).v1) := hc j hjn 2 (by omega)
          have c3 : w2.cell? ⟨r, j * 10 + 3, none⟩ = some (.bool (X j).v2) := hc j hjn 3 (by omega)
          have c4 : w2.cell? ⟨r, j * 10 + 4, none⟩ = some (.bool (X j).v3) := hc j hjn 4 (by omega)
          have c5 : w2.cell? ⟨r, j * 10 + 5, none⟩ = some (.bool (X j).d0) := hc j hjn 5 (by omega)
          have c6 : w2.cell? ⟨r, j * 10 + 6, none⟩ = some (.bool (X j).d1) := hc j hjn 6 (by omega)
          have c7 : w2.cell? ⟨r, j * 10 + 7, none⟩ = some (.bool (X j).d2) := hc j hjn 7 (by omega)
          have c8 : w2.cell? ⟨r, j * 10 + 8, none⟩ = some (.bool (X j).d3) := hc j hjn 8 (by omega)
          have c9 : w2.cell? ⟨r, j * 10 + 9, none⟩ = some (.int .i64 (X j).l) := hc j hjn 9 (by omega)
          obtain ⟨s, hs⟩ : ∃ s, X j = s := ⟨_, rfl⟩
          rw [hs] at c0 c1 c2 c3 c4 c5 c6 c7 c8 c9 CS HE hx
          clear hs hc hneg hxf
          have haw2 : a < w2.heap.size := (Array.getElem?_eq_some_iff.1 hr2).1
          have HAC : Hid (∀ (o : Obj) (jj : Nat) (u : Value), w2.cell? ⟨a, jj, none⟩ = some u → (w2.alloc o).cell? ⟨a, jj, none⟩ = some u) := Lib.hid (fun o jj u h => (((Below.refl _ _).alloc (Nat.le_refl _) o : Below w2.heap.size w2 (w2.alloc o)).cell (p := ⟨a, jj, none⟩) haw2).trans h)
          have hg0 : ¬ s.g < 0 := hx
          go_wp2_with fail
          refine (CS.out _ ((Below.refl _ _).alloc (Nat.le_refl _) _)).mono ?_
          rintro e w3 ⟨v', rfl, l3, b3⟩
          have B3 := ((Below.refl w2.heap.size w2).alloc (Nat.le_refl _) _).trans (b3.mono (by simp))
          have HL3 := Lib.hid (own_base22 l3 (by simp; omega : B ≤ _))
          have HT3 := Lib.hid (HT2.out.below B3)
          have HK3 := Lib.hid (HK2.out.trans (Kt.of_below B3 hBw2))
          clear l3 b3 CS B3
          go_wp2_with fail
          go_ret2
          exact ⟨_, _, rfl, fun e => by have h := HZ.out e; subst h; rfl, HT3.out, by rw [HE.out.2]; exact HL3.out, HK3.out⟩
        · have HE : Hid (marE n X (j : Int) 1 false true = 2 ∧ marT n X (j : Int) 1 false true = X) := Lib.hid ⟨HM.out, by unfold marT; rw [HM.out]; rfl⟩
          rw [HE.out.1] at HZ
          obtain ⟨x, hxx⟩ : ∃ x, (X j).g = x := ⟨_, rfl⟩
          rw [hxx] at c0 hx
          clear hxx hc hneg hxf HM
          go_wp2_with fail
          go_ret2
          exact ⟨_, _, rfl, fun e => by have h := HZ.out e; subst h; rfl, HT2.out, by rw [HE.out.2]; exact HL2.out, HK2.out⟩
        · have HE : Hid (marE n X (j : Int) 1 true true = 0 ∧ marT n X (j : Int) 1 true true = upd X j (marS (X j) 1 true true)) := Lib.hid (⟨HM.out, by unfold marT; rw [HM.out, if_pos (by decide), Int.toNat_natCast]; rfl⟩)
          rw [HE.out.1] at HZ
          have CS := Lib.hid (fun w' (hb : Below w2.heap.size w2 w') => rset_any B n j (.slice (some ⟨r, 0, none⟩) n c) X (marS (X j) 1 true true) w' (HL2.out.below hb) h8 hjn)
          have c1 : w2.cell? ⟨r, j * 10 + 1, none⟩ = some (.bool (X j).v0) := hc j hjn 1 (by omega)
          have c2 : w2.cell? ⟨r, j * 10 + 2, none⟩ = some (.bool (X j).v1) := hc j hjn 2 (by omega)
          have c3 : w2.cell? ⟨r, j * 10 + 3, none⟩ = some (.bool (X j).v2) := hc j hjn 3 (by omega)
          have c4 : w2.cell? ⟨r, j * 10 + 4, none⟩ = some (.bool (X j).v3) := hc j hjn 4 (by omega)
          have c5 : w2.cell? ⟨r, j * 10 + 5, none⟩ = some (.bool (X j).d0) := hc j hjn 5 (by omega)
          have c6 : w2.cell? ⟨r, j * 10 + 6, none⟩ = some (.bool (X j).d1) := hc j hjn 6 (by omega)
          have c7 : w2.cell? ⟨r, j * 10 + 7, none⟩ = some (.bool (X j).d2) := hc j hjn 7 (by omega)
          have c8 : w2.cell? ⟨r, j * 10 + 8, none⟩ = some (.bool (X j).d3) := hc j hjn 8 (by omega)
          have c9 : w2.cell? ⟨r, j * 10 + 9, none⟩ = some (.int .i64 (X j).l) := hc j hjn 9 (by omega)
          obtain ⟨s, hs⟩ : ∃ s, X j = s := ⟨_, rfl⟩
          rw [hs] at c0 c1 c2 c3 c4 c5 c6 c7 c8 c9 CS HE hx
          clear hs hc hneg hxf
          have haw2 : a < w2.heap.size := (Array.getElem?_eq_some_iff.1 hr2).1
          have HAC : Hid (∀ (o : Obj) (jj : Nat) (u : Value), w2.cell? ⟨a, jj, none⟩ = some u → (w2.alloc o).cell? ⟨a, jj, none⟩ = some u) := Lib.hid (fun o jj u h => (((Below.refl _ _).alloc (Nat.le_refl _) o : Below w2.heap.size w2 (w2.alloc o)).cell (p := ⟨a, jj, none⟩) haw2).trans h)
          have hg0 : ¬ s.g < 0 := hx
          go_wp2_with fail
          refine (CS.out _ ((Below.refl _ _).alloc (Nat.le_refl _) _)).mono ?_
          rintro e w3 ⟨v', rfl, l3, b3⟩
          have B3 := ((Below.refl w2.heap.size w2).alloc (Nat.le_refl _) _).trans (b3.mono (by simp))
          have HL3 := Lib.hid (own_base22 l3 (by simp; omega : B ≤ _))
          have HT3 := Lib.hid (HT2.out.below B3)
          have HK3 := Lib.hid (HK2.out.trans (Kt.of_below B3 hBw2))
          clear l3 b3 CS B3
          go_wp2_with fail
          go_ret2
          exact ⟨_, _, rfl, fun e => by have h := HZ.out e; subst h; rfl, HT3.out, by rw [HE.out.2]; exact HL3.out, HK3.out⟩
    · rw [show ((2 : Nat) : Int) = 2 from rfl] at *
      go_wp2_with fail
      refine CT.out.mono ?_
      rintro e w2 ⟨rfl, t2, k2⟩
      have HT2 := Lib.hid t2
      have HL2 := Lib.hid (hL1.kt k2 hT1)
      have HK2 := Lib.hid (HK1.out.trans k2)
      have hr2 := (k2.other a (Array.getElem?_eq_some_iff.1 HR1.out).1 hba).trans HR1.out
      have hBw2 : B ≤ w2.heap.size := Nat.le_trans hB (Nat.le_of_lt t2.lt)
      clear t2 k2 CT q0 q2 q3 q4 q5
      have q0 : w2.cell? ⟨a, 0, none⟩ = some (.int .i64 k) := row_cell22 hr2 0 _ rfl
      have q2 : w2.cell? ⟨a, 2, none⟩ = some (.int .i64 (j : Int)) := row_cell22 hr2 2 _ rfl
      have q3 : w2.cell? ⟨a, 3, none⟩ = some (.int .i64 2) := row_cell22 hr2 3 _ rfl
      have q4 : w2.cell? ⟨a, 4, none⟩ = some (.bool v) := row_cell22 hr2 4 _ rfl
      have q5 : w2.cell? ⟨a, 5, none⟩ = some (.bool d) := row_cell22 hr2 5 _ rfl
      obtain ⟨r, rfl, hb, hBr, hc⟩ := HL2.out.at_ (by omega)
      have c0 : w2.cell? ⟨r, j * 10, none⟩ = some (.int .i64 (X j).g) := hc j hjn 0 (by omega)
      by_cases hx : (X j).g < 0
      · rw [decide_eq_true hx] at hneg
        have hxf : X j = frS := of_decide_eq_true hneg
        have hR : refE n X (j : Int) (outB 2) = 7 := by rw [HRE.out, if_pos hxf]
        have hM : marE n X (j : Int) 2 v d = 7 := by unfold marE; rw [hR]; rfl
        have HE : Hid (marE n X (j : Int) 2 v d = 7 ∧ marT n X (j : Int) 2 v d = X) := Lib.hid (⟨hM, by unfold marT; rw [hM]; rfl⟩)
        rw [HE.out.1] at HZ
        obtain ⟨x, hxx⟩ : ∃ x, (X j).g = x := ⟨_, rfl⟩
        rw [hxx] at c0 hx
        clear hxx hc hneg hxf
        go_wp2_with fail
        go_ret2
        exact ⟨_, _, rfl, fun e => by have h := HZ.out e; subst h; rfl, HT2.out, by rw [HE.out.2]; exact HL2.out, HK2.out⟩
      · rw [decide_eq_false hx] at hneg
        have hxf : X j ≠ frS := of_decide_eq_false hneg
        have hR : refE n X (j : Int) (outB 2) = 0 := by rw [HRE.out, if_neg hxf]
        have hM : marE n X (j : Int) 2 v d = if (d && !v) = true then 2 else 0 := by unfold marE; rw [hR, if_pos rfl]
        have HM := Lib.hid hM
        clear hM hR
        cases d <;> cases v
        · have HE : Hid (marE n X (j : Int) 2 false false = 0 ∧ marT n X (j : Int) 2 false false = upd X j (marS (X j) 2 false false)) := Lib.hid (⟨HM.out, by unfold marT; rw [HM.out, if_pos (by decide), Int.toNat_natCast]; rfl⟩)
          rw [HE.out.1] at HZ
          have CS := Lib.hid (fun w' (hb : Below w2.heap.size w2 w') => rset_any B n j (.slice (some ⟨r, 0, none⟩) n c) X (marS (X j) 2 false false) w' (HL2.out.below hb) h8 hjn)
          have c1 : w2.cell? ⟨r, j * 10 + 1, none⟩ = some (.bool (X j).v0) := hc j hjn 1 (by omega)
          have c2 : w2.cell? ⟨r, j * 10 + 2, none⟩ = some (.bool (X j).v1) := hc j hjn 2 (by omega)
          have c3 : w2.cell? ⟨r, j * 10 + 3, none⟩ = some (.bool (X j).v2) := hc j hjn 3 (by omega)
          have c4 : w2.cell? ⟨r, j * 10 + 4, none⟩ = some (.bool (X j).v3) := hc j hjn 4 (by omega)
          have c5 : w2.cell? ⟨r, j * 10 + 5, none⟩ = some (.bool (X j).d0) := hc j hjn 5 (by omega)
          have c6 : w2.cell? ⟨r, j * 10 + 6, none⟩ = some (.bool (X j).d1) := hc j hjn 6 (by omega)
          have c7 : w2.cell? ⟨r, j * 10 + 7, none⟩ = some (.bool (X j).d2) := hc j hjn 7 (by omega)
          have c8 : w2.cell? ⟨r, j * 10 + 8, none⟩ = some (.bool (X j).d3) := hc j hjn 8 (by omega)
          have c9 : w2.cell? ⟨r, j * 10 + 9, none⟩ = some (.int .i64 (X j).l) := hc j hjn 9 (by omega)
          obtain ⟨s, hs⟩ : ∃ s, X j = s := ⟨_, rfl⟩
          rw [hs] at c0 c1 c2 c3 c4 c5 c6 c7 c8 c9 CS HE hx
          clear hs hc hneg hxf
          have haw2 : a < w2.heap.size := (Array.getElem?_eq_some_iff.1 hr2).1
          have HAC : Hid (∀ (o : Obj) (jj : Nat) (u : Value), w2.cell? ⟨a, jj, none⟩ = some u → (w2.alloc o).cell? ⟨a, jj, none⟩ = some u) := Lib.hid (fun o jj u h => (((Below.refl _ _).alloc (Nat.le_refl _) o : Below w2.heap.size w2 (w2.alloc o)).cell (p := ⟨a, jj, none⟩) haw2).trans h)
          have hg0 : ¬ s.g < 0 := hx
          go_wp2_with fail
          refine (CS.out _ ((Below.refl _ _).alloc (Nat.le_refl _) _)).mono ?_
          rintro e w3 ⟨v', rfl, l3, b3⟩
          have B3 := ((Below.refl w2.heap.size w2).alloc (Nat.le_refl _) _).trans (b3.mono (by simp))
          have HL3 := Lib.hid (own_base22 l3 (by simp; omega : B ≤ _))
          have HT3 := Lib.hid (HT2.out.below B3)
          have HK3 := Lib.hid (HK2.out.trans (Kt.of_below B3 hBw2))
          clear l3 b3 CS B3
          go_wp2_with fail
          go_ret2
          exact ⟨_, _, rfl, fun e => by have h := HZ.out e; subst h; rfl, HT3.out, by rw [HE.out.2]; exact HL3.out, HK3.out⟩
        · have HE : Hid (marE n X (j : Int) 2 true false = 0 ∧ marT n X (j : Int) 2 true false = upd X j (marS (X j) 2 true false)) := Lib.hid (⟨HM.out, by unfold marT; rw [HM.out, if_pos (by decide), Int.toNat_natCast]; rfl⟩)
          rw [HE.out.1] at HZ
          have CS := Lib.hid (fun w' (hb : Below w2.heap.size w2 w') => rset_any B n j (.slice (some ⟨r, 0, none⟩) n c) X (marS (X j) 2 true false) w' (HL2.out.below hb) h8 hjn)
          have c1 : w2.cell? ⟨r, j * 10 + 1, none⟩ = some (.bool (X j).v0) := hc j hjn 1 (by omega)
          have c2 : w2.cell? ⟨r, j * 10 + 2, none⟩ = some (.bool (X j).v1) := hc j hjn 2 (by omega)
          have c3 : w2.cell? ⟨r, j * 10 + 3, none⟩ = some (.bool (X j).v2) := hc j hjn 3 (by omega)
          have c4 : w2.cell? ⟨r, j * 10 + 4, none⟩ = some (.bool (X j).v3) := hc j hjn 4 (by omega)
          have c5 : w2.cell? ⟨r, j * 10 + 5, none⟩ = some (.bool (X j).d0) := hc j hjn 5 (by omega)
          have c6 : w2.cell? ⟨r, j * 10 + 6, none⟩ = some (.bool (X j).d1) := hc j hjn 6 (by omega)
          have c7 : w2.cell? ⟨r, j * 10 + 7, none⟩ = some (.bool (X j).d2) := hc j hjn 7 (by omega)
          have c8 : w2.cell? ⟨r, j * 10 + 8, none⟩ = some (.bool (X j).d3) := hc j hjn 8 (by omega)
          have c9 : w2.cell? ⟨r, j * 10 + 9, none⟩ = some (.int .i64 (X j).l) := hc j hjn 9 (by omega)
          obtain ⟨s, hs⟩ : ∃ s, X j = s := ⟨_, rfl⟩
          rw [hs] at c0 c1 c2 c3 c4 c5 c6 c7 c8 c9 CS HE hx
          clear hs hc hneg hxf
          have haw2 : a < w2.heap.size := (Array.getElem?_eq_some_iff.1 hr2).1
          have HAC : Hid (∀ (o : Obj) (jj : Nat) (u : Value), w2.cell? ⟨a, jj, none⟩ = some u → (w2.alloc o).cell? ⟨a, jj, none⟩ = some u) := Lib.hid (fun o jj u h => (((Below.refl _ _).alloc (Nat.le_refl _) o : Below w2.heap.size w2 (w2.alloc o)).cell (p := ⟨a, jj, none⟩) haw2).trans h)
          have hg0 : ¬ s.g < 0 := hx
          go_wp2_with fail
          refine (CS.out _ ((Below.refl _ _).alloc (Nat.le_refl _) _)).mono ?_
          rintro e w3 ⟨v', rfl, l3, b3⟩
          have B3 := ((Below.refl w2.heap.size w2).alloc (Nat.le_refl _) _).trans (b3.mono (by simp))
          have HL3 := Lib.hid (own_base22 l3 (by simp; omega : B ≤ _))
          have HT3 := Lib.hid (HT2.out.below B3)
          have HK3 := Lib.hid (HK2.out.trans (Kt.of_below B3 hBw2))
          clear l3 b3 CS B3
          go_wp2_with fail
          go_ret2
          exact ⟨_, _, rfl, fun e => by have h := HZ.out e; subst h; rfl, HT3.out, by rw [HE.out.2]; exact HL3.out, HK3.out⟩
        · have HE : Hid (marE n X (j : Int) 2 false true = 2 ∧ marT n X (j : Int) 2 false true = X) := Lib.hid ⟨HM.out, by unfold marT; rw [HM.out]; rfl⟩
          rw [HE.out.1] at HZ
          obtain ⟨x, hxx⟩ : ∃ x, (X j).g = x := ⟨_, rfl⟩
          rw [hxx] at c0 hx
          clear hxx hc hneg hxf HM
          go_wp2_with fail
          go_ret2
          exact ⟨_, _, rfl, fun e => by have h := HZ.out e; subst h; rfl, HT2.out, by rw [HE.out.2]; exact HL2.out, HK2.out⟩
        · have HE : Hid (marE n X (j : Int) 2 true true = 0 ∧ marT n X (j : Int) 2 true true = upd X j (marS (X j) 2 true true)) := Lib.hid (⟨HM.out, by unfold marT; rw [HM.out, if_pos (by decide), Int.toNat_natCast]; rfl⟩)
          rw [HE.out.1] at HZ
          have CS := Lib.hid (fun w' (hb : Below w2.heap.size w2 w') => rset_any B n j (.slice (some ⟨r, 0, none⟩) n c) X (marS (X j) 2 true true) w' (HL2.out.below hb) h8 hjn)
          have c1 : w2.cell? ⟨r, j * 10 + 1, none⟩ = some (.bool (X j).v0) := hc j hjn 1 (by omega)
          have c2 : w2.cell? ⟨r, j * 10 + 2, none⟩ = some (.bool (X j).v1) := hc j hjn 2 (by omega)
          have c3 : w2.cell? ⟨r, j * 10 + 3, none⟩ = some (.bool (X j).v2) := hc j hjn 3 (by omega)
          have c4 : w2.cell? ⟨r, j * 10 + 4, none⟩ = some (.bool (X j).v3) := hc j hjn 4 (by omega)
          have c5 : w2.cell? ⟨r, j * 10 + 5, none⟩ = some (.bool (X j).d0) := hc j hjn 5 (by omega)
          have c6 : w2.cell? ⟨r, j * 10 + 6, none⟩ = some (.bool (X j).d1) := hc j hjn 6 (by omega)
          have c7 : w2.cell? ⟨r, j * 10 + 7, none⟩ = some (.bool (X j).d2) := hc j hjn 7 (by omega)
          have c8 : w2.cell? ⟨r, j * 10 + 8, none⟩ = some (.bool (X j).d3) := hc j hjn 8 (by omega)
          have c9 : w2.cell? ⟨r, j * 10 + 9, none⟩ = some (.int .i64 (X j).l) := hc j hjn 9 (by omega)
          obtain ⟨s, hs⟩ : ∃ s, X j = s := ⟨_, rfl⟩
          rw [hs] at c0 c1 c2 c3 c4 c5 c6 c7 c8 c9 CS HE hx
          clear hs hc hneg hxf
          have haw2 : a < w2.heap.size := (Array.getElem?_eq_some_iff.1 hr2).1
          have HAC : Hid (∀ (o : Obj) (jj : Nat) (u : Value), w2.cell? ⟨a, jj, none⟩ = some u → (w2.alloc o).cell? ⟨a, jj, none⟩ = some u) := Lib.hid (fun o jj u h => (((Below.refl _ _).alloc (Nat.le_refl _) o : Below w2.heap.size w2 (w2.alloc o)).cell (p := ⟨a, jj, none⟩) haw2).trans h)
          have hg0 : ¬ s.g < 0 := hx
          go_wp2_with fail
          refine (CS.out _ ((Below.refl _ _).alloc (Nat.le_refl _) _)).mono ?_
          rintro e w3 ⟨v', rfl, l3, b3⟩
          have B3 := ((Below.refl w2.heap.size w2).alloc (Nat.le_refl _) _).trans (b3.mono (by simp))
          have HL3 := Lib.hid (own_base22 l3 (by simp; omega : B ≤ _))
          have HT3 := Lib.hid (HT2.out.below B3)
          have HK3 := Lib.hid (HK2.out.trans (Kt.of_below B3 hBw2))
          clear l3 b3 CS B3
          go_wp2_with fail
          go_ret2
          exact ⟨_, _, rfl, fun e => by have h := HZ.out e; subst h; rfl, HT3.out, by rw [HE.out.2]; exact HL3.out, HK3.out⟩
    · rw [show ((3 : Nat) : Int) = 3 from rfl] at *
      go_wp2_with fail
      refine CT.out.mono ?_
      rintro e w2 ⟨rfl, t2, k2⟩
      have HT2 := Lib.hid t2
      have HL2 := Lib.hid (hL1.kt k2 hT1)
      have HK2 := Lib.hid (HK1.out.trans k2)
      have hr2 := (k2.other a (Array.getElem?_eq_some_iff.1 HR1.out).1 hba).trans HR1.out
      have hBw2 : B ≤ w2.heap.size := Nat.le_trans hB (Nat.le_of_lt t2.lt)
      clear t2 k2 CT q0 q2 q3 q4 q5
      have q0 : w2.cell? ⟨a, 0, none⟩ = some (.int .i64 k) := row_cell22 hr2 0 _ rfl
      have q2 : w2.cell? ⟨a, 2, none⟩ = some (.int .i64 (j : Int)) := row_cell22 hr2 2 _ rfl
      have q3 : w2.cell? ⟨a, 3, none⟩ = some (.int .i64 3) := row_cell22 hr2 3 _ rfl
      have q4 : w2.cell? ⟨a, 4, none⟩ = some (.bool v) := row_cell22 hr2 4 _ rfl
      have q5 : w2.cell? ⟨a, 5, none⟩ = some (.bool d) := row_cell22 hr2 5 _ rfl
      obtain ⟨r, rfl, hb, hBr, hc⟩ := HL2.out.at_ (by omega)
      have c0 : w2.cell? ⟨r, j * 10, none⟩ = some (.int .i64 (X j).g) := hc j hjn 0 (by omega)
      by_cases hx : (X j).g < 0
      · rw [decide_eq_true hx] at hneg
        have hxf : X j = frS := of_decide_eq_true hneg
        have hR : refE n X (j : Int) (outB 3) = 7 := by rw [HRE.out, if_pos hxf]
        have hM : marE n X (j : Int) 3 v d = 7 := by unfold marE; rw [hR]; rfl
        have HE : Hid (marE n X (j : Int) 3 v d = 7 ∧ marT n X (j : Int) 3 v d = X) := Lib.hid (⟨hM, by unfold marT; rw [hM]; rfl⟩)
        rw [HE.out.1] at HZ
        obtain ⟨x, hxx⟩ : ∃ x, (X j).g = x := ⟨_, rfl⟩
        rw [hxx] at c0 hx
        clear hxx hc hneg hxf
        go_wp2_with fail
        go_ret2
        exact ⟨_, _, rfl, fun e => by have h := HZ.out e; subst h; rfl, HT2.out, by rw [HE.out.2]; exact HL2.out, HK2.out⟩
      · rw [decide_eq_false hx] at hneg
        have hxf : X j ≠ frS := of_decide_eq_false hneg
        have hR : refE n X (j : Int) (outB 3) = 0 := by rw [HRE.out, if_neg hxf]
        have hM : marE n X (j : Int) 3 v d = if (d && !v) = true then 2 else 0 := by unfold marE; rw [hR, if_pos rfl]
        have HM := Lib.hid hM
        clear hM hR
        cases d <;> cases v
        · have HE : Hid (marE n X (j : Int) 3 false false = 0 ∧ marT n X (j : Int) 3 false false = upd X j (marS (X j) 3 false false)) := Lib.hid (⟨HM.out, by unfold marT; rw [HM.out, if_pos (by decide), Int.toNat_natCast]; rfl⟩)
          rw [HE.out.1] at HZ
          have CS := Lib.hid (fun w' (hb : Below w2.heap.size w2 w') => rset_any B n j (.slice (some ⟨r, 0, none⟩) n c) X (marS (X j) 3 false false) w' (HL2.out.below hb) h8 hjn)
          have c1 : w2.cell? ⟨r, j * 10 + 1, none⟩ = some (.bool (X j).v0) := hc j hjn 1 (by omega)
          have c2 : w2.cell? ⟨r, j * 10 + 2, none⟩ = some (.bool (X j).v1) := hc j hjn 2 (by omega)
          have c3 : w2.cell? ⟨r, j * 10 + 3, none⟩ = some (.bool (X j).v2) := hc j hjn 3 (by omega)
          have c4 : w2.cell? ⟨r, j * 10 + 4, none⟩ = some (.bool (X j).v3) := hc j hjn 4 (by omega)
          have c5 : w2.cell? ⟨r, j * 10 + 5, none⟩ = some (.bool (X j).d0) := hc j hjn 5 (by omega)
          have c6 : w2.cell? ⟨r, j * 10 + 6, none⟩ = some (.bool (X j).d1) := hc j hjn 6 (by omega)
          have c7 : w2.cell? ⟨r, j * 10 + 7, none⟩ = some (.bool (X j).d2) := hc j hjn 7 (by omega)
          have c8 : w2.cell? ⟨r, j * 10 + 8, none⟩ = some (.bool (X j).d3) := hc j hjn 8 (by omega)
          have c9 : w2.cell? ⟨r, j * 10 + 9, none⟩ = some (.int .i64 (X j).l) := hc j hjn 9 (by omega)
          obtain ⟨s, hs⟩ : ∃ s, X j = s := ⟨_, rfl⟩
          rw [hs] at c0 c1 c2 c3 c4 c5 c6 c7 c8 c9 CS HE hx
          clear hs hc hneg hxf
          have haw2 : a < w2.heap.size := (Array.getElem?_eq_some_iff.1 hr2).1
          have HAC : Hid (∀ (o : Obj) (jj : Nat) (u : Value), w2.cell? ⟨a, jj, none⟩ = some u → (w2.alloc o).cell? ⟨a, jj, none⟩ = some u) := Lib.hid (fun o jj u h => (((Below.refl _ _).alloc (Nat.le_refl _) o : Below w2.heap.size w2 (w2.alloc o)).cell (p := ⟨a, jj, none⟩) haw2).trans h)
          have hg0 : ¬ s.g < 0 := hx
          go_wp2_with fail
          refine (CS.out _ ((Below.refl _ _).alloc (Nat.le_refl _) _)).mono ?_
          rintro e w3 ⟨v', rfl, l3, b3⟩
          have B3 := ((Below.refl w2.heap.size w2).alloc (Nat.le_refl _) _).trans (b3.mono (by simp))
          have HL3 := Lib.hid (own_base22 l3 (by simp; omega : B ≤ _))
          have HT3 := Lib.hid (HT2.out.below B3)
          have HK3 := Lib.hid (HK2.out.trans (Kt.of_below B3 hBw2))
          clear l3 b3 CS B3
          go_wp2_with fail
          go_ret2
          exact ⟨_, _, rfl, fun e => by have h := HZ.out e; subst h; rfl, HT3.out, by rw [HE.out.2]; exact HL3.out, HK3.out⟩
        · have HE : Hid (marE n X (j : Int) 3 true false = 0 ∧ marT n X (j : Int) 3 true false = upd X j (marS (X j) 3 true false)) := Lib.hid (⟨HM.out, by unfold marT; rw [HM.out, if_pos (by decide), Int.toNat_natCast]; rfl⟩)
          rw [HE.out.1] at HZ
          have CS := Lib.hid (fun w' (hb : Below w2.heap.size w2 w') => rset_any B n j (.slice (some ⟨r, 0, none⟩) n c) X (marS (X j) 3 true false) w' (HL2.out.below hb) h8 hjn)
          have c1 : w2.cell? ⟨r, j * 10 + 1, none⟩ = some (.bool (X j).v0) := hc j hjn 1 (by omega)
          have c2 : w2.cell? ⟨r, j * 10 + 2, none⟩ = some (.bool (X j).v1) := hc j hjn 2 (by omega)
          have c3 : w2.cell? ⟨r, j * 10 + 3, none⟩ = some (.bool (X j).v2) := hc j hjn 3 (by omega)
          have c4 : w2.cell? ⟨r, j * 10 + 4, none⟩ = some (.bool (X j).v3) := hc j hjn 4 (by omega)
          have c5 : w2.cell? ⟨r, j * 10 + 5, none⟩ = some (.bool (X j).d0) := hc j hjn 5 (by omega)
          have c6 : w2.cell? ⟨r, j * 10 + 6, none⟩ = some (.bool (X j).d1) := hc j hjn 6 (by omega)
          have c7 : w2.cell? ⟨r, j * 10 + 7, none⟩ = some (.bool (X j).d2) := hc j hjn 7 (by omega)
          have c8 : w2.cell? ⟨r, j * 10 + 8, none⟩ = some (.bool (X j).d3) := hc j hjn 8 (by omega)
          have c9 : w2.cell? ⟨r, j * 10 + 9, none⟩ = some (.int .i64 (X j).l) := hc j hjn 9 (by omega)
          obtain ⟨s, hs⟩ : ∃ s, X j = s := ⟨_, rfl⟩
          rw [hs] at c0 c1 c2 c3 c4 c5 c6 c7 c8 c9 CS HE hx
          clear hs hc hneg hxf
          have haw2 : a < w2.heap.size := (Array.getElem?_eq_some_iff.1 hr2).1
          have HAC : Hid (∀ (o : Obj) (jj : Nat) (u : Value), w2.cell? ⟨a, jj, none⟩ = some u → (w2.alloc o).cell? ⟨a, jj, none⟩ = some u) := Lib.hid (fun o jj u h => (((Below.refl _ _).alloc (Nat.le_refl _) o : Below w2.heap.size w2 (w2.alloc o)).cell (p := ⟨a, jj, none⟩) haw2).trans h)
          have hg0 : ¬ s.g < 0 := hx
          go_wp2_with fail
          refine (CS.out _ ((Below.refl _ _).alloc (Nat.le_refl _) _)).mono ?_
          rintro e w3 ⟨v', rfl, l3, b3⟩
          have B3 := ((Below.refl w2.heap.size w2).alloc (Nat.le_refl _) _).trans (b3.mono (by simp))
          have HL3 := Lib.hid (own_base22 l3 (by simp; omega : B ≤ _))
          have HT3 := Lib.hid (HT2.out.below B3)
          have HK3 := Lib.hid (HK2.out.trans (Kt.of_below B3 hBw2))
          clear l3 b3 CS B3
          go_wp2_with fail
          go_ret2
          exact ⟨_, _, rfl, fun e => by have h := HZ.out e; subst h; rfl, HT3.out, by rw [HE.out.2]; exact HL3.out, HK3.out⟩
        · have HE : Hid (marE n X (j : Int) 3 false true = 2 ∧ marT n X (j : Int) 3 false true = X) := Lib.hid ⟨HM.out, by unfold marT; rw [HM.out]; rfl⟩
          rw [HE.out.1] at HZ
          obtain ⟨x, hxx⟩ : ∃ x, (X j).g = x := ⟨_, rfl⟩
          rw [hxx] at c0 hx
          clear hxx hc hneg hxf HM
          go_wp2_with fail
          go_ret2
          exact ⟨_, _, rfl, fun e => by have h := HZ.out e; subst h; rfl, HT2.out, by rw [HE.out.2]; exact HL2.out, HK2.out⟩
        · have HE : Hid (marE n X (j : Int) 3 true true = 0 ∧ marT n X (j : Int) 3 true true = upd X j (marS (X j) 3 true true)) := Lib.hid (⟨HM.out, by unfold marT; rw [HM.out, if_pos (by decide), Int.toNat_natCast]; rfl⟩)
          rw [HE.out.1] at HZ
          have CS := Lib.hid (fun w' (hb : Below w2.heap.size w2 w') => rset_any B n j (.slice (some ⟨r, 0, none⟩) n c) X (marS (X j) 3 true true) w' (HL2.out.below hb) h8 hjn)
          have c1 : w2.cell? ⟨r, j * 10 + 1, none⟩ = some (.bool (X j).v0) := hc j hjn 1 (by omega)
          have c2 : w2.cell? ⟨r, j * 10 + 2, none⟩ = some (.bool (X j).v1) := hc j hjn 2 (by omega)
          have c3 : w2.cell? ⟨r, j * 10 + 3, none⟩ = some (.bool (X j).v2) := hc j hjn 3 (by omega)
          have c4 : w2.cell? ⟨r, j * 10 + 4, none⟩ = some (.bool (X j).v3) := hc j hjn 4 (by omega)
          have c5 : w2.cell? ⟨r, j * 10 + 5, none⟩ = some (.bool (X j).d0) := hc j hjn 5 (by omega)
          have c6 : w2.cell? ⟨r, j * 10 + 6, none⟩ = some (.bool (X j).d1) := hc j hjn 6 (by omega)
          have c7 : w2.cell? ⟨r, j * 10 + 7, none⟩ = some (.bool (X j).d2) := hc j hjn 7 (by omega)
          have c8 : w2.cell? ⟨r, j * 10 + 8, none⟩ = some (.bool (X j).d3) := hc j hjn 8 (by omega)
          have c9 : w2.cell? ⟨r, j * 10 + 9, none⟩ = some (.int .i64 (X j).l) := hc j hjn 9 (by omega)
          obtain ⟨s, hs⟩ : ∃ s, X j = s := ⟨_, rfl⟩
          rw [hs] at c0 c1 c2 c3 c4 c5 c6 c7 c8 c9 CS HE hx
          clear hs hc hneg hxf
          have haw2 : a < w2.heap.size := (Array.getElem?_eq_some_iff.1 hr2).1
          have HAC : Hid (∀ (o : Obj) (jj : Nat) (u : Value), w2.cell? ⟨a, jj, none⟩ = some u → (w2.alloc o).cell? ⟨a, jj, none⟩ = some u) := Lib.hid (fun o jj u h => (((Below.refl _ _).alloc (Nat.le_refl _) o : Below w2.heap.size w2 (w2.alloc o)).cell (p := ⟨a, jj, none⟩) haw2).trans h)
          have hg0 : ¬ s.g < 0 := hx
          go_wp2_with fail
          refine (CS.out _ ((Below.refl _ _).alloc (Nat.le_refl _) _)).mono ?_
          rintro e w3 ⟨v', rfl, l3, b3⟩
          have B3 := ((Below.refl w2.heap.size w2).alloc (Nat.le_refl _) _).trans (b3.mono (by simp))
          have HL3 := Lib.hid (own_base22 l3 (by simp; omega : B ≤ _))
          have HT3 := Lib.hid (HT2.out.below B3)
          have HK3 := Lib.hid (HK2.out.trans (Kt.of_below B3 hBw2))
          clear l3 b3 CS B3
          go_wp2_with fail
          go_ret2
          exact ⟨_, _, rfl, fun e => by have h := HZ.out e; subst h; rfl, HT3.out, by rw [HE.out.2]; exact HL3.out, HK3.out⟩
end Go.Proofs.Ythhgodfgigcacaa
