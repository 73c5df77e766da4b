/- Package over: OverBoth. -/
import Derived.Test.YtbjlmpcbjppfdaaOvM
namespace Go.Proofs.Ytbjlmpcbjppfdaa
open Go.RowKit Go.Deep Go.ChangeShapes Go.WideShapes
set_option linter.unusedVariables false
set_option linter.unusedSimpArgs false
/-- Blocks behind a slice that lie apart from four blocks. -/
structure PuF (w : World) (p b p2 b2 : Nat) (ao : Option Addr) (L : List Pu) : Prop where
  pu : PuAt w ao L
  far : ∀ g o s, ao = some ⟨g, o, s⟩ → g ≠ p ∧ g ≠ b ∧ g ≠ p2 ∧ g ≠ b2
/-- Two sheets. -/
structure Sh2 (w : World) (B p b : Nat) (L : List Pu) (p2 b2 : Nat) (L2 : List Pu) : Prop where
  s1 : ShAt w B p b L
  s2 : ShAt w B p2 b2 L2
  pp : p ≠ p2
  pb : p ≠ b2
  bp : b ≠ p2
  bb : b ≠ b2
section
variable {w w' : World} {B p b p2 b2 : Nat} {a7 a8 a9 ao : Option Addr} {L L2 L9 : List Pu}
theorem PuF.below (h : PuF w p b p2 b2 ao L) (k : Below w.heap.size w w') : PuF w' p b p2 b2 ao L := ⟨h.pu.below k, h.far⟩
theorem PuF.kq1 (h : PuF w p b p2 b2 ao L) (k : Kq B [p, b] w w') : PuF w' p b p2 b2 ao L := ⟨h.pu.kq k (fun g o s e => by have := h.far g o s e; simp; omega), h.far⟩
theorem PuF.kq2 (h : PuF w p b p2 b2 ao L) (k : Kq B [p2, b2] w w') : PuF w' p b p2 b2 ao L := ⟨h.pu.kq k (fun g o s e => by have := h.far g o s e; simp; omega), h.far⟩
theorem PuF.own {v : Value} {N : Nat} (h : PuO N w v L) (hp : p < N) (hb : b < N) (hp2 : p2 < N) (hb2 : b2 < N) : ∃ ao c, v = .slice ao L.length c ∧ Hid (PuF w p b p2 b2 ao L) := by
  obtain ⟨ao, c, e, _, _, hpu, hf⟩ := own_puN h
  exact ⟨ao, c, e, Lib.hid ⟨hpu, fun g o s e => by have := (hf g o s e).1; omega⟩⟩
theorem Sh2.below (h : Sh2 w B p b L p2 b2 L2) (k : Below w.heap.size w w') : Sh2 w' B p b L p2 b2 L2 := { h with s1 := h.s1.below k, s2 := h.s2.below k }
theorem Sh2.set2 {M : List Pu} (h : Sh2 w B p b L p2 b2 L2) (q : ShAt w' B p2 b2 M) (k : Kq B [p2, b2] w w') : Sh2 w' B p b L p2 b2 M :=
  { h with s1 := h.s1.kq k (by have := h.pp; have := h.pb; simp; omega) (by have := h.bp; have := h.bb; simp; omega), s2 := q }
theorem Sh2.set1 {M : List Pu} (h : Sh2 w B p b L p2 b2 L2) (q : ShAt w' B p b M) (k : Kq B [p, b] w w') : Sh2 w' B p b M p2 b2 L2 :=
  { h with s2 := h.s2.kq k (by have := h.pp; have := h.bp; simp; omega) (by have := h.pb; have := h.bb; simp; omega), s1 := q }
theorem Sh2.lts (h : Sh2 w B p b L p2 b2 L2) : p < w.heap.size ∧ b < w.heap.size ∧ p2 < w.heap.size ∧ b2 < w.heap.size := ⟨h.s1.lt, h.s1.blt, h.s2.lt, h.s2.blt⟩
theorem PuF.nil : PuF w p b p2 b2 none [] := ⟨fun h => by simp at h, fun g o s e => by cases e⟩
end
theorem src_at {w0 : World} {ax : Option Addr} {ps : List Pu} (h : PuAt w0 ax ps) {w : World} (k : Below w0.heap.size w0 w) {i : Nat} (hi : i < ps.length) : ∃ (g o : Nat), ax = some ⟨g, o, none⟩ ∧ g < w0.heap.size ∧ w.cell? ⟨g, o + i * 2, none⟩ = some (.int .i64 ps[i].1) ∧ w.cell? ⟨g, o + i * 2 + 1, none⟩ = some (.string ps[i].2) := by
  obtain ⟨g, o, rfl, hg, hc⟩ := h (by omega)
  exact ⟨g, o, rfl, hg, (k.cell (p := ⟨g, o + i * 2, none⟩) hg).trans (hc i hi).1, (k.cell (p := ⟨g, o + i * 2 + 1, none⟩) hg).trans (hc i hi).2⟩
set_option maxRecDepth 100000 in
set_option maxHeartbeats 32000000 in
theorem overBoth_any (w : World) (ax ay : Option Addr) (n m cap cap2 : Nat) (As Bs : List Pu) (hn : n ≤ 9223372036854775807) (hm : m ≤ 9223372036854775807) (hla : As.length = n) (hlb : Bs.length = m) (hA : PuAt w ax As) (hB : PuAt w ay Bs) (hwa : Wf As) (hwb : Wf Bs) : Calls Try.prog 5 #[.slice ax n cap, .slice ay m cap2] w fun e w' => e = .returned (.bool true) ∧ Below w.heap.size w w' := by
  have CN := Lib.hid (onew_any w)
  have HA := Lib.hid hA
  have HB0 := Lib.hid hB
  have HWA := Lib.hid hwa
  have HWB := Lib.hid hwb
  have HLA := Lib.hid hla
  have HLB := Lib.hid hlb
  clear hA hB hwa hwb hla hlb
  go_enter Try.func5, Try.ntmps5
  go_wp2_with fail
  refine CN.out.mono ?_
  rintro e w1 ⟨p, b, rfl, q1, b1⟩
  have HB1 := Lib.hid b1
  have HQ1 := Lib.hid q1
  have CN := Lib.hid (onew_any w1)
  clear q1 b1
  go_wp2_with fail
  refine CN.out.mono ?_
  rintro e w2 ⟨p2, b2, rfl, q2, k2⟩
  have HB2 := Lib.hid (HB1.out.trans (k2.mono HB1.out.size))
  have HS2 : Hid (Sh2 w2 w.heap.size p b [] p2 b2 []) := Lib.hid (by
    have e1 := HQ1.out.lt
    have e2 := HQ1.out.blt
    have e3 := q2.bp
    have e4 := q2.bb
    exact ⟨HQ1.out.below k2, q2.baseO HB1.out.size, by omega, by omega, by omega, by omega⟩)
  clear q2 k2 CN HQ1 HB1
  go_wp2_with fail
  go_loopw [8, 9, 10] (fun s8 s9 s10 wi => ∃ (i : Nat) (a8 a9 : Option Addr) (c8 c9 : Nat) (L2 : List Pu), s10 = .int .i64 (i : Int) ∧ i ≤ 30 ∧ s8 = .slice a8 L2.length c8 ∧ s9 = .slice a9 L2.length c9 ∧ L2.length ≤ i ∧ Hid (Sh2 wi w.heap.size p b [] p2 b2 L2) ∧ Hid (PuF wi p b p2 b2 a8 L2) ∧ Hid (PuF wi p b p2 b2 a9 L2) ∧ Hid (Below w.heap.size w wi)) (fun _ _ s10 _ => 30 - (intOf s10).toNat)
  case atStart => exact ⟨0, none, none, 0, 0, [], rfl, by omega, rfl, rfl, by simp, HS2, Lib.hid PuF.nil, Lib.hid PuF.nil, HB2⟩
  case round =>
    obtain ⟨i, a8, a9, c8, c9, L2, rfl, hi, rfl, rfl, hL2, HS, HU8, HU9, HB⟩ := hrel
    clear HS2 HB2
    rcases (show ((i : Int) < (m : Int) ∧ (i : Int) < 30) ∨ ((i : Int) < (m : Int) ∧ ¬ (i : Int) < 30) ∨ ¬ (i : Int) < (m : Int) by omega) with ⟨hli, h6i⟩ | ⟨hli, h6i⟩ | hli
    · as_aux_lemma =>
      have him : i < Bs.length := by rw [HLB.out]; omega
      obtain ⟨g, o, rfl, hg, c0, c1⟩ := src_at HB0.out HB.out him
      have ha := HWB.out _ (List.getElem_mem him)
      generalize Bs[i] = z at *
      obtain ⟨a, s⟩ := z
      have c0 : wr.cell? ⟨g, o + i * 2, none⟩ = some (.int .i64 a) := c0
      have c1 : wr.cell? ⟨g, o + i * 2 + 1, none⟩ = some (.string s) := c1
      have B1d : Below wr.heap.size wr wr.drew := (Below.refl _ _).drew
      have HS1 := Lib.hid (HS.out.below B1d)
      have HV8 := Lib.hid (HU8.out.below B1d)
      have HV9 := Lib.hid (HU9.out.below B1d)
      have CS := Lib.hid (oset_any (a, s) HS1.out.s2 ha (by omega))
      have hgn : g ≠ p2 ∧ g ≠ b2 := by have e1 := HS.out.s2.bp; have e2 := HS.out.s2.bb; omega
      have hgw : g < wr.drew.heap.size := Nat.lt_of_lt_of_le hg HB.out.size
      have HBd := Lib.hid (HB.out.trans (B1d.mono HB.out.size))
      have hll := setL_len L2 (a, s)
      clear ha B1d HS HU8 HU9 HB
      go_upto_region 6 with fail
      refine wp_region_lin (S := (fun w' => w'.cell? ⟨g, o + i * 2, none⟩ = some (.int .i64 a) ∧ w'.cell? ⟨g, o + i * 2 + 1, none⟩ = some (.string s))) [(0, true), (1, true), (2, true), (3, true), (4, true), (5, true), (6, true), (7, true), (8, true), (9, true), (10, true), (11, false)] (by kernel_rfl) (by kernel_rfl) rfl (by kernel_rfl) ?_ (fun hHeld => ?_)
      · (try dsimp only); exact ⟨c0, c1⟩
      refine wpL_calm (o := { dst := some 26, op := Go.Op.move (Go.Operand.tmp 6), type := 23, pos := "law.go:83", after := #[], guard := none }) (v := ?_) rfl (Or.inl ⟨by rfl, ?_⟩) ?_; rotate_left; (focus (intro w hSw; (try dsimp only at hSw); go_simp; (try (with_reducible rfl)); done)); try simp only [Act.put, List.setIfInBounds_toArray, List.set_cons_zero, List.set_cons_succ]
      refine wpL_calm (o := { dst := some 27, op := Go.Op.move (Go.Operand.tmp 1), type := 25, pos := "law.go:83", after := #[], guard := none }) (v := ?_) rfl (Or.inl ⟨by rfl, ?_⟩) ?_; rotate_left; (focus (intro w hSw; (try dsimp only at hSw); go_simp; (try (with_reducible rfl)); done)); try simp only [Act.put, List.setIfInBounds_toArray, List.set_cons_zero, List.set_cons_succ]
      refine wpL_calm (o := { dst := some 28, op := Go.Op.move (Go.Operand.tmp 10), type := 3, pos := "law.go:83", after := #[], guard := none }) (v := ?_) rfl (Or.inl ⟨by rfl, ?_⟩) ?_; rotate_left; (focus (intro w hSw; (try dsimp only at hSw); go_simp; (try (with_reducible rfl)); done)); try simp only [Act.put, List.setIfInBounds_toArray, List.set_cons_zero, List.set_cons_succ]
      refine wpL_calm (o := { dst := some 29, op := Go.Op.indexAddr 25 (Go.Operand.tmp 27) (Go.Operand.tmp 28), type := 0, pos := "law.go:83", after := #[{ on := 1, ground := Go.Ground.data }, { on := 2, ground := Go.Ground.data }], guard := none }) (v := ?_) rfl (Or.inl ⟨by rfl, ?_⟩) ?_; rotate_left; (focus (intro w hSw; (try dsimp only at hSw); go_simp; (try (with_reducible rfl)); done)); try simp only [Act.put, List.setIfInBounds_toArray, List.set_cons_zero, List.set_cons_succ]
      refine wpL_calm (o := { dst := some 30, op := Go.Op.fieldAddr 29 (Go.Operand.tmp 29) 0, type := 0, pos := "law.go:83", after := #[{ on := 3, ground := Go.Ground.data }], guard := none }) (v := ?_) rfl (Or.inl ⟨by rfl, ?_⟩) ?_; rotate_left; (focus (intro w hSw; (try dsimp only at hSw); go_simp; (try (with_reducible rfl)); done)); try simp only [Act.put, List.setIfInBounds_toArray, List.set_cons_zero, List.set_cons_succ]
      refine wpL_calm (o := { dst := some 31, op := Go.Op.load 3 (Go.Operand.tmp 30), type := 3, pos := "law.go:83", after := #[{ on := 4, ground := Go.Ground.data }], guard := none }) (v := ?_) rfl (Or.inl ⟨by rfl, ?_⟩) ?_; rotate_left; (focus (intro w hSw; (try dsimp only at hSw); go_simp; (try (with_reducible rfl)); done)); try simp only [Act.put, List.setIfInBounds_toArray, List.set_cons_zero, List.set_cons_succ]
      refine wpL_calm (o := { dst := some 32, op := Go.Op.move (Go.Operand.tmp 1), type := 25, pos := "law.go:83", after := #[], guard := none }) (v := ?_) rfl (Or.inl ⟨by rfl, ?_⟩) ?_; rotate_left; (focus (intro w hSw; (try dsimp only at hSw); go_simp; (try (with_reducible rfl)); done)); try simp only [Act.put, List.setIfInBounds_toArray, List.set_cons_zero, List.set_cons_succ]
      refine wpL_calm (o := { dst := some 33, op := Go.Op.move (Go.Operand.tmp 10), type := 3, pos := "law.go:83", after := #[], guard := none }) (v := ?_) rfl (Or.inl ⟨by rfl, ?_⟩) ?_; rotate_left; (focus (intro w hSw; (try dsimp only at hSw); go_simp; (try (with_reducible rfl)); done)); try simp only [Act.put, List.setIfInBounds_toArray, List.set_cons_zero, List.set_cons_succ]
      refine wpL_calm (o := { dst := some 34, op := Go.Op.indexAddr 25 (Go.Operand.tmp 32) (Go.Operand.tmp 33), type := 0, pos := "law.go:83", after := #[{ on := 6, ground := Go.Ground.data }, { on := 7, ground := Go.Ground.data }], guard := none }) (v := ?_) rfl (Or.inl ⟨by rfl, ?_⟩) ?_; rotate_left; (focus (intro w hSw; (try dsimp only at hSw); go_simp; (try (with_reducible rfl)); done)); try simp only [Act.put, List.setIfInBounds_toArray, List.set_cons_zero, List.set_cons_succ]
      refine wpL_calm (o := { dst := some 35, op := Go.Op.fieldAddr 29 (Go.Operand.tmp 34) 1, type := 0, pos := "law.go:83", after := #[{ on := 8, ground := Go.Ground.data }], guard := none }) (v := ?_) rfl (Or.inl ⟨by rfl, ?_⟩) ?_; rotate_left; (focus (intro w hSw; (try dsimp only at hSw); go_simp; (try (with_reducible rfl)); done)); try simp only [Act.put, List.setIfInBounds_toArray, List.set_cons_zero, List.set_cons_succ]
      refine wpL_calm (o := { dst := some 36, op := Go.Op.load 9 (Go.Operand.tmp 35), type := 9, pos := "law.go:83", after := #[{ on := 9, ground := Go.Ground.data }], guard := none }) (v := ?_) rfl (Or.inl ⟨by rfl, ?_⟩) ?_; rotate_left; (focus (intro w hSw; (try dsimp only at hSw); go_simp; (try (with_reducible rfl)); done)); try simp only [Act.put, List.setIfInBounds_toArray, List.set_cons_zero, List.set_cons_succ]
      refine wpL_loud0 (o := { dst := some 37, op := Go.Op.call { callee := Go.Callee.value (Go.Operand.func 14), args := #[Go.Operand.tmp 26, Go.Operand.tmp 31, Go.Operand.tmp 36], argTypes := #[23, 3, 9] }, type := 4, pos := "law.go:83", after := #[{ on := 0, ground := Go.Ground.data }, { on := 5, ground := Go.Ground.data }, { on := 10, ground := Go.Ground.data }], guard := none }) rfl (by kernel_rfl) (fun K hK => ?_)
      (go_simp; go_at_call 14; refine CS.out.mono ?_; rintro e w3 ⟨rfl, q3, k3⟩)
      try go_wp2_with fail
      refine hK.out _ _ ?_
      clear hK K
      try simp only [Act.put, List.setIfInBounds_toArray, List.set_cons_zero, List.set_cons_succ]
      refine wpL_nil ?_
      refine NoPanic.normal ?_
      have c0 := k3.cell (by simp; omega) c0
      have c1 := k3.cell (by simp; omega) c1
      have hg3 := Nat.lt_of_lt_of_le hgw k3.below.size
      have HS3 := Lib.hid (HS1.out.set2 q3 k3)
      have HV8 := Lib.hid (HV8.out.kq2 k3)
      have HV9 := Lib.hid (HV9.out.kq2 k3)
      have HB3 := Lib.hid (HBd.out.trans k3.below)
      have CR := Lib.hid (rset_any a8 c8 L2 (a, s) w3 HV8.out.pu (by omega))
      unfold putV at CR
      obtain ⟨M, hM⟩ : ∃ M, setL L2 (a, s) = M := ⟨_, rfl⟩
      have HSM := Lib.hid hM
      rw [hM] at HS3 CR hll
      clear hM
      clear hHeld q3 k3 CS HS1 HBd
      go_wp2_with fail
      refine CR.out.mono ?_
      rintro e w4 ⟨v, rfl, hO, k4⟩
      obtain ⟨x8, d8, rfl, HW8⟩ := PuF.own hO HS3.out.lts.1 HS3.out.lts.2.1 HS3.out.lts.2.2.1 HS3.out.lts.2.2.2
      have c0 := (k4.cell (p := ⟨g, o + i * 2, none⟩) hg3).trans c0
      have c1 := (k4.cell (p := ⟨g, o + i * 2 + 1, none⟩) hg3).trans c1
      have hg4 := Nat.lt_of_lt_of_le hg3 k4.size
      have HS4 := Lib.hid (HS3.out.below k4)
      have HV9 := Lib.hid (HV9.out.below k4)
      have HB4 := Lib.hid (HB3.out.trans (k4.mono HB3.out.size))
      have CR := Lib.hid (rset_any a9 c9 L2 (a, s) w4 HV9.out.pu (by omega))
      unfold putV at CR
      rw [HSM.out] at CR
      clear hO k4 HS3 HB3 HV8
      go_wp2_with fail
      refine CR.out.mono ?_
      rintro e w5 ⟨v, rfl, hO, k5⟩
      obtain ⟨x9, d9, rfl, HW9⟩ := PuF.own hO HS4.out.lts.1 HS4.out.lts.2.1 HS4.out.lts.2.2.1 HS4.out.lts.2.2.2
      have HS5 := Lib.hid (HS4.out.below k5)
      have HW8 := Lib.hid (HW8.out.below k5)
      have HB5 := Lib.hid (HB4.out.trans (k5.mono HB4.out.size))
      clear hO k5 HS4 HB4 HV9 CR c0 c1
      go_wp2_with fail
      go_roundw
      case rel => exact ⟨i + 1, x8, x9, d8, d9, M, by go_num, by omega, rfl, rfl, by omega, HS5, HW8, HW9, HB5⟩
      case measure => simp [intOf]; omega
    all_goals
      as_aux_lemma =>
      go_wp2_with fail
      clear hli
      try clear h6i
      go_loopw [7, 11] (fun s7 s11 wi => ∃ (j : Nat) (a7 : Option Addr) (c7 : Nat) (L : List Pu), s11 = .int .i64 (j : Int) ∧ j ≤ 30 ∧ s7 = .slice a7 L.length c7 ∧ L.length ≤ j ∧ Hid (Sh2 wi w.heap.size p b L p2 b2 L2) ∧ Hid (PuF wi p b p2 b2 a7 L) ∧ Hid (PuF wi p b p2 b2 a8 L2) ∧ Hid (PuF wi p b p2 b2 a9 L2) ∧ Hid (Below w.heap.size w wi)) (fun _ s11 _ => 30 - (intOf s11).toNat)
      case atStart => exact ⟨0, none, 0, [], rfl, by omega, rfl, by simp, HS, Lib.hid PuF.nil, HU8, HU9, HB⟩
      case round =>
        obtain ⟨j, a7, c7, L, rfl, hj, rfl, hL, HS', HU7, HU8', HU9', HB'⟩ := hrel
        clear HS HU8 HU9 HB
        rcases (show ((j : Int) < (n : Int) ∧ (j : Int) < 30) ∨ ((j : Int) < (n : Int) ∧ ¬ (j : Int) < 30) ∨ ¬ (j : Int) < (n : Int) by omega) with ⟨hli, h6i⟩ | ⟨hli, h6i⟩ | hli
        · as_aux_lemma =>
          have him : j < As.length := by rw [HLA.out]; omega
          obtain ⟨g, o, rfl, hg, c0, c1⟩ := src_at HA.out HB'.out him
          have ha := HWA.out _ (List.getElem_mem him)
          generalize As[j] = z at *
          obtain ⟨a, s⟩ := z
          have c0 : wr.cell? ⟨g, o + j * 2, none⟩ = some (.int .i64 a) := c0
          have c1 : wr.cell? ⟨g, o + j * 2 + 1, none⟩ = some (.string s) := c1
          have B1d : Below wr.heap.size wr wr.drew := (Below.refl _ _).drew
          have HS1 := Lib.hid (HS'.out.below B1d)
          have HV7 := Lib.hid (HU7.out.below B1d)
          have HV8 := Lib.hid (HU8'.out.below B1d)
          have HV9 := Lib.hid (HU9'.out.below B1d)
          have CS := Lib.hid (oset_any (a, s) HS1.out.s1 ha (by omega))
          have hgn : g ≠ p ∧ g ≠ b := by have e1 := HS'.out.s1.bp; have e2 := HS'.out.s1.bb; omega
          have hgw : g < wr.drew.heap.size := Nat.lt_of_lt_of_le hg HB'.out.size
          have HBd := Lib.hid (HB'.out.trans (B1d.mono HB'.out.size))
          have hll := setL_len L (a, s)
          clear ha B1d HS' HU7 HU8' HU9' HB'
          go_upto_region 12 with fail
          refine wp_region_lin (S := (fun w' => w'.cell? ⟨g, o + j * 2, none⟩ = some (.int .i64 a) ∧ w'.cell? ⟨g, o + j * 2 + 1, none⟩ = some (.string s))) [(0, true), (1, true), (2, true), (3, true), (4, true), (5, true), (6, true), (7, true), (8, true), (9, true), (10, true), (11, false)] (by kernel_rfl) (by kernel_rfl) rfl (by kernel_rfl) ?_ (fun hHeld => ?_)
          · (try dsimp only); exact ⟨c0, c1⟩
          refine wpL_calm (o := { dst := some 60, op := Go.Op.move (Go.Operand.tmp 5), type := 23, pos := "law.go:88", after := #[], guard := none }) (v := ?_) rfl (Or.inl ⟨by rfl, ?_⟩) ?_; rotate_left; (focus (intro w hSw; (try dsimp only at hSw); go_simp; (try (with_reducible rfl)); done)); try simp only [Act.put, List.setIfInBounds_toArray, List.set_cons_zero, List.set_cons_succ]
          refine wpL_calm (o := { dst := some 61, op := Go.Op.move (Go.Operand.tmp 0), type := 25, pos := "law.go:88", after := #[], guard := none }) (v := ?_) rfl (Or.inl ⟨by rfl, ?_⟩) ?_; rotate_left; (focus (intro w hSw; (try dsimp only at hSw); go_simp; (try (with_reducible rfl)); done)); try simp only [Act.put, List.setIfInBounds_toArray, List.set_cons_zero, List.set_cons_succ]
          refine wpL_calm (o := { dst := some 62, op := Go.Op.move (Go.Operand.tmp 11), type := 3, pos := "law.go:88", after := #[], guard := none }) (v := ?_) rfl (Or.inl ⟨by rfl, ?_⟩) ?_; rotate_left; (focus (intro w hSw; (try dsimp only at hSw); go_simp; (try (with_reducible rfl)); done)); try simp only [Act.put, List.setIfInBounds_toArray, List.set_cons_zero, List.set_cons_succ]
          refine wpL_calm (o := { dst := some 63, op := Go.Op.indexAddr 25 (Go.Operand.tmp 61) (Go.Operand.tmp 62), type := 0, pos := "law.go:88", after := #[{ on := 1, ground := Go.Ground.data }, { on := 2, ground := Go.Ground.data }], guard := none }) (v := ?_) rfl (Or.inl ⟨by rfl, ?_⟩) ?_; rotate_left; (focus (intro w hSw; (try dsimp only at hSw); go_simp; (try (with_reducible rfl)); done)); try simp only [Act.put, List.setIfInBounds_toArray, List.set_cons_zero, List.set_cons_succ]
          refine wpL_calm (o := { dst := some 64, op := Go.Op.fieldAddr 29 (Go.Operand.tmp 63) 0, type := 0, pos := "law.go:88", after := #[{ on := 3, ground := Go.Ground.data }], guard := none }) (v := ?_) rfl (Or.inl ⟨by rfl, ?_⟩) ?_; rotate_left; (focus (intro w hSw; (try dsimp only at hSw); go_simp; (try (with_reducible rfl)); done)); try simp only [Act.put, List.setIfInBounds_toArray, List.set_cons_zero, List.set_cons_succ]
          refine wpL_calm (o := { dst := some 65, op := Go.Op.load 3 (Go.Operand.tmp 64), type := 3, pos := "law.go:88", after := #[{ on := 4, ground := Go.Ground.data }], guard := none }) (v := ?_) rfl (Or.inl ⟨by rfl, ?_⟩) ?_; rotate_left; (focus (intro w hSw; (try dsimp only at hSw); go_simp; (try (with_reducible rfl)); done)); try simp only [Act.put, List.setIfInBounds_toArray, List.set_cons_zero, List.set_cons_succ]
          refine wpL_calm (o := { dst := some 66, op := Go.Op.move (Go.Operand.tmp 0), type := 25, pos := "law.go:88", after := #[], guard := none }) (v := ?_) rfl (Or.inl ⟨by rfl, ?_⟩) ?_; rotate_left; (focus (intro w hSw; (try dsimp only at hSw); go_simp; (try (with_reducible rfl)); done)); try simp only [Act.put, List.setIfInBounds_toArray, List.set_cons_zero, List.set_cons_succ]
          refine wpL_calm (o := { dst := some 67, op := Go.Op.move (Go.Operand.tmp 11), type := 3, pos := "law.go:88", after := #[], guard := none }) (v := ?_) rfl (Or.inl ⟨by rfl, ?_⟩) ?_; rotate_left; (focus (intro w hSw; (try dsimp only at hSw); go_simp; (try (with_reducible rfl)); done)); try simp only [Act.put, List.setIfInBounds_toArray, List.set_cons_zero, List.set_cons_succ]
          refine wpL_calm (o := { dst := some 68, op := Go.Op.indexAddr 25 (Go.Operand.tmp 66) (Go.Operand.tmp 67), type := 0, pos := "law.go:88", after := #[{ on := 6, ground := Go.Ground.data }, { on := 7, ground := Go.Ground.data }], guard := none }) (v := ?_) rfl (Or.inl ⟨by rfl, ?_⟩) ?_; rotate_left; (focus (intro w hSw; (try dsimp only at hSw); go_simp; (try (with_reducible rfl)); done)); try simp only [Act.put, List.setIfInBounds_toArray, List.set_cons_zero, List.set_cons_succ]
          refine wpL_calm (o := { dst := some 69, op := Go.Op.fieldAddr 29 (Go.Operand.tmp 68) 1, type := 0, pos := "law.go:88", after := #[{ on := 8, ground := Go.Ground.data }], guard := none }) (v := ?_) rfl (Or.inl ⟨by rfl, ?_⟩) ?_; rotate_left; (focus (intro w hSw; (try dsimp only at hSw); go_simp; (try (with_reducible rfl)); done)); try simp only [Act.put, List.setIfInBounds_toArray, List.set_cons_zero, List.set_cons_succ]
          refine wpL_calm (o := { dst := some 70, op := Go.Op.load 9 (Go.Operand.tmp 69), type := 9, pos := "law.go:88", after := #[{ on := 9, ground := Go.Ground.data }], guard := none }) (v := ?_) rfl (Or.inl ⟨by rfl, ?_⟩) ?_; rotate_left; (focus (intro w hSw; (try dsimp only at hSw); go_simp; (try (with_reducible rfl)); done)); try simp only [Act.put, List.setIfInBounds_toArray, List.set_cons_zero, List.set_cons_succ]
          refine wpL_loud0 (o := { dst := some 71, op := Go.Op.call { callee := Go.Callee.value (Go.Operand.func 14), args := #[Go.Operand.tmp 60, Go.Operand.tmp 65, Go.Operand.tmp 70], argTypes := #[23, 3, 9] }, type := 4, pos := "law.go:88", after := #[{ on := 0, ground := Go.Ground.data }, { on := 5, ground := Go.Ground.data }, { on := 10, ground := Go.Ground.data }], guard := none }) rfl (by kernel_rfl) (fun K hK => ?_)
          (go_simp; go_at_call 14; refine CS.out.mono ?_; rintro e w3 ⟨rfl, q3, k3⟩)
          try go_wp2_with fail
          refine hK.out _ _ ?_
          clear hK K
          try simp only [Act.put, List.setIfInBounds_toArray, List.set_cons_zero, List.set_cons_succ]
          refine wpL_nil ?_
          refine NoPanic.normal ?_
          have c0 := k3.cell (by simp; omega) c0
          have c1 := k3.cell (by simp; omega) c1
          have HS3 := Lib.hid (HS1.out.set1 q3 k3)
          have HV7 := Lib.hid (HV7.out.kq1 k3)
          have HV8 := Lib.hid (HV8.out.kq1 k3)
          have HV9 := Lib.hid (HV9.out.kq1 k3)
          have HB3 := Lib.hid (HBd.out.trans k3.below)
          have CR := Lib.hid (rset_any a7 c7 L (a, s) w3 HV7.out.pu (by omega))
          unfold putV at CR
          generalize setL L (a, s) = M at *
          clear hHeld q3 k3 CS HS1 HBd
          go_wp2_with fail
          refine CR.out.mono ?_
          rintro e w4 ⟨v, rfl, hO, k4⟩
          obtain ⟨x7, d7, rfl, HW7⟩ := PuF.own hO HS3.out.lts.1 HS3.out.lts.2.1 HS3.out.lts.2.2.1 HS3.out.lts.2.2.2
          have HS4 := Lib.hid (HS3.out.below k4)
          have HV8 := Lib.hid (HV8.out.below k4)
          have HV9 := Lib.hid (HV9.out.below k4)
          have HB4 := Lib.hid (HB3.out.trans (k4.mono HB3.out.size))
          clear hO k4 HS3 HB3 HV7 CR c0 c1
          go_wp2_with fail
          go_roundw
          case rel => exact ⟨j + 1, x7, d7, M, by go_num, by omega, rfl, by omega, HS4, HW7, HV8, HV9, HB4⟩
          case measure => simp [intOf]; omega
        all_goals
          as_aux_lemma =>
          go_wp2_with fail
          clear hli
          try clear h6i
          go_loopw [9, 12] (fun s9 s12 wi => ∃ (k : Nat) (a9 : Option Addr) (c9 : Nat) (L9 : List Pu), s12 = .int .i64 (k : Int) ∧ k ≤ L.length ∧ s9 = .slice a9 L9.length c9 ∧ L9.length ≤ 30 + k ∧ Hid (setAll L2 (L.take k) = L9) ∧ Hid (Sh2 wi w.heap.size p b L p2 b2 L2) ∧ Hid (PuF wi p b p2 b2 a7 L) ∧ Hid (PuF wi p b p2 b2 a8 L2) ∧ Hid (PuF wi p b p2 b2 a9 L9) ∧ Hid (Below w.heap.size w wi)) (fun _ s12 _ => 30 - (intOf s12).toNat)
          case atStart => exact ⟨0, a9, c9, L2, rfl, by omega, rfl, by omega, Lib.hid rfl, HS', HU7, HU8', HU9', HB'⟩
          case round =>
            obtain ⟨k, a9, c9, L9, rfl, hk, rfl, hL9, HE, HS, HU7', HU8, HU9, HB⟩ := hrel
            clear HS' HU7 HU8' HU9' HB'
            by_cases hlt : k < L.length
            · as_aux_lemma =>
              have hli : (k : Int) < (L.length : Int) := by omega
              obtain ⟨g, o, rfl, hg, c0, c1⟩ := src_at HU7'.out.pu (Below.refl _ _) hlt
              have HE2 : Hid (setAll L2 (L.take (k + 1)) = setL L9 L[k]) := Lib.hid (by rw [take_snoc L k hlt, setAll_snoc, HE.out])
              have hll := setL_len L9 L[k]
              generalize L[k] = z at *
              obtain ⟨a, s⟩ := z
              have c0 : wr.cell? ⟨g, o + k * 2, none⟩ = some (.int .i64 a) := c0
              have c1 : wr.cell? ⟨g, o + k * 2 + 1, none⟩ = some (.string s) := c1
              have CR := Lib.hid (rset_any a9 c9 L9 (a, s) wr HU9.out.pu (by omega))
              unfold putV at CR
              generalize setL L9 (a, s) = M at *
              clear HE
              go_wp2_with fail
              refine CR.out.mono ?_
              rintro e w4 ⟨v, rfl, hO, k4⟩
              obtain ⟨x9, d9, rfl, HW9⟩ := PuF.own hO HS.out.lts.1 HS.out.lts.2.1 HS.out.lts.2.2.1 HS.out.lts.2.2.2
              have HS4 := Lib.hid (HS.out.below k4)
              have HV7 := Lib.hid (HU7'.out.below k4)
              have HV8 := Lib.hid (HU8.out.below k4)
              have HB4 := Lib.hid (HB.out.trans (k4.mono HB.out.size))
              clear hO k4 HS HB HU7' HU8 HU9 CR c0 c1
              go_wp2_with fail
              go_roundw
              case rel => exact ⟨k + 1, x9, d9, M, by go_num, by omega, rfl, by omega, HE2, HS4, HV7, HV8, HW9, HB4⟩
              case measure => simp [intOf]; omega
            · as_aux_lemma =>
              have hkl : k = L.length := by omega
              have hli : ¬ (k : Int) < (L.length : Int) := by omega
              have HEA : Hid (setAll L2 L = L9) := Lib.hid (by have := HE.out; rw [hkl, List.take_length] at this; exact this)
              have CO := Lib.hid (oover_any w.heap.size b w.heap.size b2 (some ⟨p, 0, none⟩) (some ⟨p2, 0, none⟩) L L2 wr (Or.inr ⟨p, rfl, HS.out.s1⟩) (Or.inr ⟨p2, rfl, HS.out.s2⟩) (by omega) (by omega) HS.out.s1.wf HS.out.s2.srt HS.out.s2.wf)
              rw [HEA.out] at CO
              have CA : Hid (∀ w', Calls Try.prog 12 #[] w' fun e w'' => e = .returned (.bool true) ∧ Below w'.heap.size w' w'') := Lib.hid awake16
              clear HE HEA
              go_wp2_with fail
              refine CO.out.mono ?_
              rintro e w3 ⟨pc, bc, rfl, q3, k3⟩
              have HQ3 := Lib.hid q3
              have HK3 := Lib.hid k3
              have HV9 := Lib.hid (HU9.out.below k3)
              have CP := Lib.hid (oputs_any wr.heap.size bc (some ⟨pc, 0, none⟩) L9 w3 (Or.inr ⟨pc, rfl, q3⟩) (by omega))
              clear q3 k3 CO
              go_wp2_with fail
              refine CP.out.mono ?_
              rintro e w4 ⟨v, rfl, hO, k4⟩
              obtain ⟨a1, c1, rfl, _, _, hpu⟩ := own_pu hO
              have HK4 := Lib.hid (HK3.out.trans (k4.mono HK3.out.size))
              have HQ4 := Lib.hid (HQ3.out.below k4)
              have CE := Lib.hid (osame_any L9 L9 a1 a9 L9.length c1 L9.length c9 w4 rfl rfl (by omega) (by omega) hpu (HV9.out.below k4).pu)
              rw [decide_eq_true rfl] at CE
              clear hpu hO k4 CP HQ3 HK3 HV9
              go_wp2_with fail
              refine CE.out.mono ?_
              rintro e w5 ⟨rfl, k5⟩
              have HK5 := Lib.hid (HK4.out.trans (k5.mono HK4.out.size))
              have CC := Lib.hid (oclear_any (HQ4.out.below k5))
              clear k5 CE HQ4 HK4
              go_wp2_with fail
              refine CC.out.mono ?_
              rintro e w6 ⟨_, _, rfl, _, k6⟩
              have HK6 := Lib.hid (HK5.out.trans k6.below)
              clear k6 CC HK5
              go_wp2_with fail
              refine (CA.out _).mono ?_
              rintro e w7 ⟨rfl, k7⟩
              have HK7 := Lib.hid (HK6.out.trans (k7.mono HK6.out.size))
              have HS7 := Lib.hid (HS.out.below HK7.out)
              have HV7 := Lib.hid (HU7'.out.below HK7.out)
              have HV8 := Lib.hid (HU8.out.below HK7.out)
              have HB7 := Lib.hid (HB.out.trans (HK7.out.mono HB.out.size))
              have CP := Lib.hid (oputs_any w.heap.size b (some ⟨p, 0, none⟩) L w7 (Or.inr ⟨p, rfl, HS7.out.s1⟩) (by omega))
              clear k7 CA HK6 HK7 HS HB HU7' HU8 HU9
              go_wp2_with fail
              refine CP.out.mono ?_
              rintro e w8 ⟨v, rfl, hO, k8⟩
              obtain ⟨a1, c1, rfl, _, _, hpu⟩ := own_pu hO
              have HS8 := Lib.hid (HS7.out.below k8)
              have HV8 := Lib.hid (HV8.out.below k8)
              have HB8 := Lib.hid (HB7.out.trans (k8.mono HB7.out.size))
              have CE := Lib.hid (osame_any L L a1 a7 L.length c1 L.length c7 w8 rfl rfl (by omega) (by omega) hpu (HV7.out.below k8).pu)
              rw [decide_eq_true rfl] at CE
              clear hpu hO k8 CP HV7 HS7 HB7
              go_wp2_with fail
              refine CE.out.mono ?_
              rintro e w9 ⟨rfl, k9⟩
              have HS9 := Lib.hid (HS8.out.below k9)
              have HV8 := Lib.hid (HV8.out.below k9)
              have HB9 := Lib.hid (HB8.out.trans (k9.mono HB8.out.size))
              have CP := Lib.hid (oputs_any w.heap.size b2 (some ⟨p2, 0, none⟩) L2 w9 (Or.inr ⟨p2, rfl, HS9.out.s2⟩) (by omega))
              clear k9 CE HS8 HB8
              go_wp2_with fail
              refine CP.out.mono ?_
              rintro e w10 ⟨v, rfl, hO, k10⟩
              obtain ⟨a1, c1, rfl, _, _, hpu⟩ := own_pu hO
              have HB10 := Lib.hid (HB9.out.trans (k10.mono HB9.out.size))
              have CE := Lib.hid (osame_any L2 L2 a1 a8 L2.length c1 L2.length c8 w10 rfl rfl (by omega) (by omega) hpu (HV8.out.below k10).pu)
              rw [decide_eq_true rfl] at CE
              clear hpu hO k10 CP HV8 HS9 HB9
              go_wp2_with fail
              refine CE.out.mono ?_
              rintro e w11 ⟨rfl, k11⟩
              have HB11 := Lib.hid (HB10.out.trans (k11.mono HB10.out.size))
              clear k11 CE HB10
              go_wp2_with fail
              go_ret
              exact ⟨rfl, HB11.out⟩
section
variable {H : Type} {enc : TypeId × Value → H}
theorem overBoth_walk (v : Value) (d : DataW H) (p : List MemPlace) (v2 : Value) (d2 : DataW H) (p2 : List MemPlace) (w : World) (hv : ∃ a len cap, v = .slice a len cap) (h : DataW.Trod enc Try.prog w 0 (fun _ => true) true 25 v d p) (hv2 : ∃ a len cap, v2 = .slice a len cap) (h2 : DataW.Trod enc Try.prog w 0 (fun _ => true) true 25 v2 d2 p2) :
    Calls Try.prog 5 #[v, v2] w fun e w' => e = .returned (.bool true) ∧ Below w.heap.size w w' := by
  obtain ⟨ao, len, cap, As, rfl, hl, hm, hla, hA, hwa⟩ := open_puO hv h
  obtain ⟨ay, len2, cap2, Bs, rfl, hl2, hm2, hlb, hB, hwb⟩ := open_puO hv2 h2
  exact overBoth_any w ao ay len len2 cap cap2 As Bs (by unfold maxLen at hm; omega) (by unfold maxLen at hm2; omega) hla hlb hA hB hwa hwb
end
end Go.Proofs.Ytbjlmpcbjppfdaa
