/- Package over: OverApart. -/
import Derived.Test.YtbjlmpcbjppfdaaOvL
namespace Go.Proofs.Ytbjlmpcbjppfdaa
open Go.RowKit Go.Deep Go.ChangeShapes Go.WideShapes
set_option linter.unusedVariables false
set_option linter.unusedSimpArgs false
theorem Dw.kq {w w' : World} {B p b A : Nat} {M : List Nat} {ao : Option Addr} {L : List Pu} (h : Dw w B p b ao L) (k : Kq A M w w') (h1 : p ∉ M) (h2 : b ∉ M) (h3 : ∀ g o s, ao = some ⟨g, o, s⟩ → g ∉ M) : Dw w' B p b ao L :=
  ⟨h.sh.kq k h1 h2, h.pu.kq k h3, fun g o s e => by obtain ⟨q1, q2, q3, q4⟩ := h.far g o s e; exact ⟨q1, q2, q3, Nat.lt_of_lt_of_le q4 k.below.size⟩⟩
/-- Two sheets, apart. -/
structure Two (w : World) (B p b : Nat) (ao : Option Addr) (L : List Pu) (p2 b2 : Nat) (ao2 : Option Addr) (L2 : List Pu) : Prop where
  d1 : Dw w B p b ao L
  d2 : Dw w B p2 b2 ao2 L2
  pp : p ≠ p2
  pb : p ≠ b2
  bp : b ≠ p2
  bb : b ≠ b2
  f1 : ∀ g o s, ao = some ⟨g, o, s⟩ → g ≠ p2 ∧ g ≠ b2
  f2 : ∀ g o s, ao2 = some ⟨g, o, s⟩ → g ≠ p ∧ g ≠ b
section
variable {w w' : World} {B p b p2 b2 : Nat} {ao ao2 : Option Addr} {L L2 : List Pu}
theorem Two.swap (t : Two w B p b ao L p2 b2 ao2 L2) : Two w B p2 b2 ao2 L2 p b ao L :=
  ⟨t.d2, t.d1, fun e => t.pp e.symm, fun e => t.bp e.symm, fun e => t.pb e.symm, fun e => t.bb e.symm, t.f2, t.f1⟩
theorem Two.below (t : Two w B p b ao L p2 b2 ao2 L2) (k : Below w.heap.size w w') : Two w' B p b ao L p2 b2 ao2 L2 := { t with d1 := t.d1.below k, d2 := t.d2.below k }
theorem Two.step (t : Two w B p b ao L p2 b2 ao2 L2) {b' : Nat} {ao' : Option Addr} {L' : List Pu} (q : Dw w' B p b' ao' L') (hb : b' = b ∨ w.heap.size ≤ b') (k : Kq B [p, b] w w') (ha : ao' = ao ∨ ∀ g o s, ao' = some ⟨g, o, s⟩ → w.heap.size ≤ g) : Two w' B p b' ao' L' p2 b2 ao2 L2 := by
  have h1 := t.d2.sh.lt
  have h2 := t.d2.sh.blt
  have h3 := t.pp
  have h4 := t.pb
  have h5 := t.bp
  have h6 := t.bb
  refine ⟨q, t.d2.kq k (by simp; omega) (by simp; omega) (fun g o s e => by have := t.f2 g o s e; simp; omega), h3, h4, ?_, ?_, fun g o s e => ?_, fun g o s e => ?_⟩
  · rcases hb with rfl | hb <;> omega
  · rcases hb with rfl | hb <;> omega
  · rcases ha with rfl | ha
    · exact t.f1 g o s e
    · have := ha g o s e; omega
  · have h7 := (t.d2.far g o s e).2.2.2
    have h8 := t.f2 g o s e
    rcases hb with rfl | hb <;> omega
theorem ShAt.baseO {C : Nat} (q : ShAt w B p b L) (h : C ≤ B) : ShAt w C p b L := { q with bp := Nat.le_trans h q.bp, bb := Nat.le_trans h q.bb }
/-- A copy, and the first. -/
theorem Two.start {pc bc : Nat} (d : Dw w B p b ao L) (q : ShAt w' w.heap.size pc bc L) (k : Below w.heap.size w w') : Two w' B p b ao L pc bc ao L := by
  have h1 := d.sh.lt
  have h2 := d.sh.blt
  have h3 := q.bp
  have h4 := q.bb
  have hf : ∀ g o s, ao = some ⟨g, o, s⟩ → g ≠ pc ∧ g ≠ bc := fun g o s e => by have := (d.far g o s e).2.2.2; omega
  refine ⟨d.below k, ⟨q.baseO d.sh.bw, d.pu.below k, fun g o s e => ?_⟩, by omega, by omega, by omega, by omega, hf, fun g o s e => ?_⟩
  · have h5 := d.far g o s e
    have h6 := hf g o s e
    have h7 := k.size
    exact ⟨h6.1, h6.2, h5.2.2.1, by omega⟩
  · have h5 := d.far g o s e
    exact ⟨h5.1, h5.2.1⟩
end
section
variable {w0 : World} {ax : Option Addr} {n : Nat} {As : List (Int × Pu)}
/-- An act at its place. -/
theorem act_at (h : AcAt w0 ax n As) {w : World} (k : Below w0.heap.size w0 w) {i : Nat} (hi : i < n) : ∃ (g o : Nat) (kd a : Int) (s : ByteArray), ax = some ⟨g, o, none⟩ ∧ InI a ∧ w.cell? ⟨g, o + i * 3, none⟩ = some (.int .i64 kd) ∧ w.cell? ⟨g, o + i * 3 + 1, none⟩ = some (.int .i64 a) ∧ w.cell? ⟨g, o + i * 3 + 2, none⟩ = some (.string s) := by
  have hil : i < As.length := by rw [h.1]; exact hi
  obtain ⟨g, o, rfl, hg, hc⟩ := h.2.2 (by omega)
  exact ⟨g, o, As[i].1, As[i].2.1, As[i].2.2, rfl, h.2.1 _ (List.getElem_mem hil), (k.cell (p := ⟨g, o + i * 3, none⟩) hg).trans (hc i hil).1, (k.cell (p := ⟨g, o + i * 3 + 1, none⟩) hg).trans (hc i hil).2.1, (k.cell (p := ⟨g, o + i * 3 + 2, none⟩) hg).trans (hc i hil).2.2⟩
end
set_option maxRecDepth 100000 in
set_option maxHeartbeats 16000000 in
theorem overApart_any (w : World) (ax ay : Option Addr) (n m cap cap2 : Nat) (As Bs : List (Int × Pu)) (hn : n ≤ 9223372036854775807) (hm : m ≤ 9223372036854775807) (hA : AcAt w ax n As) (hB : AcAt w ay m Bs) : Calls Try.prog 4 #[.slice ax n cap, .slice ay m cap2] w fun e w' => e = .returned (.bool true) ∧ Below w.heap.size w w' := by
  have CN := Lib.hid (onew_any w)
  have HA := Lib.hid hA
  have HA2 := Lib.hid hB
  clear hA hB
  go_enter Try.func4, Try.ntmps4
  go_wp2_with fail
  refine CN.out.mono ?_
  rintro e w1 ⟨p, b, rfl, q1, b1⟩
  have HB1 := Lib.hid b1
  have HQ1 := Lib.hid q1
  clear q1 b1 CN
  go_wp2_with fail
  go_loopw [6, 7] (fun s4 s5 wi => ∃ (i b : Nat) (ao : Option Addr) (c : Nat) (L : List Pu), s5 = .int .i64 (i : Int) ∧ i ≤ 40 ∧ s4 = .slice ao L.length c ∧ L.length ≤ i ∧ Hid (Dw wi w.heap.size p b ao L) ∧ Hid (Below w.heap.size w wi)) (fun _ s5 _ => 40 - (intOf s5).toNat)
  case atStart => exact ⟨0, b, none, 0, [], rfl, by omega, rfl, by simp, Lib.hid ⟨HQ1.out, fun h => absurd h (by simp), fun g o s e => by cases e⟩, HB1⟩
  case round =>
    obtain ⟨i, b, ao, c, L, rfl, hi, rfl, hL, HD, HB⟩ := hrel
    clear HQ1 HB1
    rcases (show ((i : Int) < (n : Int) ∧ (i : Int) < 40) ∨ ((i : Int) < (n : Int) ∧ ¬ (i : Int) < 40) ∨ ¬ (i : Int) < (n : Int) by omega) with ⟨hli, h6i⟩ | ⟨hli, h6i⟩ | hli
    · as_aux_lemma =>
      obtain ⟨g, o, k, a, s, rfl, ha, c0, c1, c2⟩ := act_at HA.out HB.out (i := i) (by omega)
      have CD := Lib.hid (do_any (c := c) HD.out k a s ha (by omega))
      have hll := doL_len L k (a, s)
      generalize doL L k (a, s) = L' at *
      go_wp2_with fail
      refine CD.out.mono ?_
      rintro e w2 ⟨b', ao', c', rfl, q2, hb', k2, _⟩
      have HB2 := Lib.hid (HB.out.trans k2.below)
      have HQ2 := Lib.hid q2
      clear q2 k2 CD c0 c1 c2 hb'
      go_wp2_with fail
      go_roundw
      case rel => exact ⟨i + 1, b', ao', c', L', by go_num, by omega, rfl, by omega, HQ2, HB2⟩
      case measure => simp [intOf]; omega
    all_goals
      as_aux_lemma =>
      have CC := Lib.hid (ocopy_any w.heap.size b (some ⟨p, 0, none⟩) L wr (Or.inr ⟨p, rfl, HD.out.sh⟩) (by omega) HD.out.sh.srt HD.out.sh.wf)
      go_wp2_with fail
      refine CC.out.mono ?_
      rintro e w2 ⟨pc, bc, rfl, q2, k2⟩
      have HT2 := Lib.hid (Two.start HD.out q2 k2)
      have HB2 := Lib.hid (HB.out.trans (k2.mono HB.out.size))
      clear q2 k2 CC HB HD hli
      go_wp2_with fail
      go_loopw [6, 9, 10] (fun s6 s9 s10 wi => ∃ (j b b2 : Nat) (ao ao2 : Option Addr) (c c2 : Nat) (L L2 : List Pu), s10 = .int .i64 (j : Int) ∧ j ≤ 40 ∧ s6 = .slice ao L.length c ∧ s9 = .slice ao2 L2.length c2 ∧ L.length ≤ 40 + j ∧ L2.length ≤ 40 + j ∧ Hid (Two wi w.heap.size p b ao L pc b2 ao2 L2) ∧ Hid (Below w.heap.size w wi)) (fun _ _ s10 _ => 40 - (intOf s10).toNat)
      case atStart => exact ⟨0, b, bc, ao, ao, c, c, L, L, rfl, by omega, rfl, rfl, by omega, by omega, HT2, HB2⟩
      case round =>
        obtain ⟨j, b, b2, ao, ao2, c, c2, L, L2, rfl, hj, rfl, rfl, hL, hL2, HT, HB⟩ := hrel
        clear HT2 HB2
        rcases (show ((j : Int) < (m : Int) ∧ (j : Int) < 40) ∨ ((j : Int) < (m : Int) ∧ ¬ (j : Int) < 40) ∨ ¬ (j : Int) < (m : Int) by omega) with ⟨hli, h6i⟩ | ⟨hli, h6i⟩ | hli
        · as_aux_lemma =>
          obtain ⟨g, o, k, a, s, rfl, ha, c0, c1, c2⟩ := act_at HA2.out HB.out (i := j) (by omega)
          have CD1 := Lib.hid (fun c => do_any (c := c) HT.out.d1 k a s ha (by omega))
          have CD2 := Lib.hid (fun c => do_any (c := c) HT.out.d2 k a s ha (by omega))
          have hll := doL_len L k (a, s)
          have hll2 := doL_len L2 k (a, s)
          have hjm : ((j : Int)).tmod 2 = (j : Int) % 2 := Int.tmod_eq_emod_of_nonneg (by omega)
          rcases (show (j : Int) % 2 = 0 ∨ (j : Int) % 2 = 1 by omega) with hm0 | hm0
          · rw [hm0] at hjm
            clear CD1
            generalize doL L2 k (a, s) = L' at *
            go_wp2_with fail
            refine (CD2.out _).mono ?_
            rintro e w2 ⟨b', ao', c', rfl, q2, hb', k2, ha'⟩
            have HB2 := Lib.hid (HB.out.trans k2.below)
            have HT2 := Lib.hid (HT.out.swap.step q2 hb' k2 ha').swap
            clear q2 k2 CD2 c0 c1 c2 hb' ha'
            go_wp2_with fail
            go_roundw
            case rel => exact ⟨j + 1, b, b', ao, ao', _, c', L, L', by go_num, by omega, rfl, rfl, by omega, by omega, HT2, HB2⟩
            case measure => simp [intOf]; omega
          · rw [hm0] at hjm
            clear CD2
            generalize doL L k (a, s) = L' at *
            go_wp2_with fail
            refine (CD1.out _).mono ?_
            rintro e w2 ⟨b', ao', c', rfl, q2, hb', k2, ha'⟩
            have HB2 := Lib.hid (HB.out.trans k2.below)
            have HT2 := Lib.hid (HT.out.step q2 hb' k2 ha')
            clear q2 k2 CD1 c0 c1 c2 hb' ha'
            go_wp2_with fail
            go_roundw
            case rel => exact ⟨j + 1, b', b2, ao', ao2, c', _, L', L2, by go_num, by omega, rfl, rfl, by omega, by omega, HT2, HB2⟩
            case measure => simp [intOf]; omega
        all_goals
          as_aux_lemma =>
          have CA := Lib.hid (awake16 wr)
          go_wp2_with fail
          refine CA.out.mono ?_
          rintro e w3 ⟨rfl, k3⟩
          have HB3 := Lib.hid (HB.out.trans (k3.mono HB.out.size))
          have HT3 := Lib.hid (HT.out.below k3)
          have CP := Lib.hid (oputs_any w.heap.size b (some ⟨p, 0, none⟩) L w3 (Or.inr ⟨p, rfl, HT3.out.d1.sh⟩) (by omega))
          clear k3 CA HB HT
          go_wp2_with fail
          refine CP.out.mono ?_
          rintro e w4 ⟨v, rfl, hO, k4⟩
          obtain ⟨a1, c1, rfl, _, _, hpu⟩ := own_pu hO
          have HB4 := Lib.hid (HB3.out.trans (k4.mono HB3.out.size))
          have HT4 := Lib.hid (HT3.out.below k4)
          have CE := Lib.hid (osame_any L L a1 ao L.length c1 L.length c w4 rfl rfl (by omega) (by omega) hpu HT4.out.d1.pu)
          rw [decide_eq_true rfl] at CE
          clear hpu hO k4 CP HT3 HB3
          go_wp2_with fail
          refine CE.out.mono ?_
          rintro e w5 ⟨rfl, k5⟩
          have HB5 := Lib.hid (HB4.out.trans (k5.mono HB4.out.size))
          have HT5 := Lib.hid (HT4.out.below k5)
          have CP := Lib.hid (oputs_any w.heap.size b2 (some ⟨pc, 0, none⟩) L2 w5 (Or.inr ⟨pc, rfl, HT5.out.d2.sh⟩) (by omega))
          clear k5 CE HB4 HT4
          go_wp2_with fail
          refine CP.out.mono ?_
          rintro e w6 ⟨v, rfl, hO, k6⟩
          obtain ⟨a2, c3, rfl, _, _, hpu⟩ := own_pu hO
          have HB6 := Lib.hid (HB5.out.trans (k6.mono HB5.out.size))
          have HT6 := Lib.hid (HT5.out.below k6)
          have CE := Lib.hid (osame_any L2 L2 a2 ao2 L2.length c3 L2.length c2 w6 rfl rfl (by omega) (by omega) hpu HT6.out.d2.pu)
          rw [decide_eq_true rfl] at CE
          clear hpu hO k6 CP HT5 HB5
          go_wp2_with fail
          refine CE.out.mono ?_
          rintro e w7 ⟨rfl, k7⟩
          have HB7 := Lib.hid (HB6.out.trans (k7.mono HB6.out.size))
          clear k7 CE HB6 HT6
          go_wp2_with fail
          go_ret
          exact ⟨rfl, HB7.out⟩
section
variable {H : Type} {enc : TypeId × Value → H}
theorem overApart_walk (v : Value) (d : DataW H) (p : List MemPlace) (v2 : Value) (d2 : DataW H) (p2 : List MemPlace) (w : World) (hv : ∃ a len cap, v = .slice a len cap) (h : DataW.Trod enc Try.prog w 0 (fun _ => true) true 22 v d p) (hv2 : ∃ a len cap, v2 = .slice a len cap) (h2 : DataW.Trod enc Try.prog w 0 (fun _ => true) true 22 v2 d2 p2) :
    Calls Try.prog 4 #[v, v2] w fun e w' => e = .returned (.bool true) ∧ Below w.heap.size w w' := by
  obtain ⟨ao, len, cap, As, rfl, hl, hm, hA⟩ := open_actsO hv h
  obtain ⟨ay, len2, cap2, Bs, rfl, hl2, hm2, hB⟩ := open_actsO hv2 h2
  exact overApart_any w ao ay len len2 cap cap2 As Bs (by unfold maxLen at hm; omega) (by unfold maxLen at hm2; omega) hA hB
end
end Go.Proofs.Ytbjlmpcbjppfdaa
