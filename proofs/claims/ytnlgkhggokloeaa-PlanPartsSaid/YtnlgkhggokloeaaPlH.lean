/- Package plan: slices.Grow and slices.Concat of rows of blocks; Behind. -/
import Derived.Test.YtnlgkhggokloeaaPlG
import Derived.Lib.AppendZerosOnto
namespace Go.Proofs.Ytnlgkhggokloeaa
open Go.RowKit Go.Deep
set_option linter.unusedVariables false
set_option linter.unusedSimpArgs false
theorem src_pu {w : World} {ao : Option Addr} {c : Nat} {L : List Pu} (h : PuAt w ao L) : Src Try.prog 2 25 (.slice ao L.length c) L.length (puC L) w := by
  by_cases hp : 0 < L.length
  · obtain ⟨g, o, rfl, hg, hc⟩ := h hp
    refine Src.ofSlice _ Try.underlying25 ⟨g, o, none⟩ L.length c (puC L) (puC_len L) (fun j v hv => ?_) (one_pu L)
    rw [Addr.add_lit]
    have hj := (List.getElem?_eq_some_iff.1 hv).1
    rw [puC_len] at hj
    have hi : j / 2 < L.length := by omega
    obtain ⟨c0, c1⟩ := hc (j / 2) hi
    obtain ⟨p0, p1⟩ := puC_get L (j / 2) hi
    rcases Nat.mod_two_eq_zero_or_one j with e | e
    · have ej : j / 2 * 2 = j := by omega
      rw [ej] at c0 p0
      rw [hv] at p0
      injection p0 with p0
      rw [p0]; exact c0
    · have ej : j / 2 * 2 + 1 = j := by omega
      have eo : o + j / 2 * 2 + 1 = o + j := by omega
      rw [eo] at c1
      rw [ej, hv] at p1
      injection p1 with p1
      rw [p1]; exact c1
  · obtain rfl : L = [] := List.eq_nil_of_length_eq_zero (by omega)
    cases ao with
    | none => exact Src.ofNil _ Try.underlying25 _
    | some a => exact Src.ofSlice _ Try.underlying25 a 0 c [] rfl (fun j v hv => by simp at hv) (fun u hu => by simp at hu)
theorem size_zc (z : Array Value) (n : Nat) : (Builtin.zeroCells z n).size = n * z.size := by unfold Builtin.zeroCells; simp
set_option maxRecDepth 100000 in
set_option maxHeartbeats 4000000 in
theorem grow_any (n : Nat) (w : World) (hn : n ≤ 1000000) : Calls Try.prog 37 #[.slice none 0 0, .int .i64 (n : Int)] w fun e w' => ∃ v, e = .returned v ∧ PuO w.heap.size w' v [] ∧ Below w.heap.size w w' := by
  obtain ⟨i1, hi1, hy0, hy1, hy2⟩ := info_partsO info_putO
  by_cases h0 : n = 0
  · subst h0
    go_enter Try.func37, Try.ntmps37
    go_wp2_with fail
    go_ret
    exact ⟨_, rfl, World.ownsRow_nil _ _ _ _, Below.refl _ _⟩
  · have hrz := fun ty => Lib.run_append_grow_zeros w 25 3 ty 48 i1 (.agg #[.int .i64 0, .string ⟨#[]⟩]) .i64 .i64 Try.underlying25 Try.underlying3 hi1 hy0 none 0 0 [] (run_firstCells_none w.drew i1.size 0 0 0) n (by omega) (by omega) (by omega) (by omega) (by rw [hy2]; omega)
      (growslice_fits (by omega) (by rw [hy2]; omega))
    have hge := grownCap_ge w (0 + n) 0 48
    have hle := grownCap_le_maxLen w (0 + n) 0 48 (by unfold maxLen; omega)
    simp only [Nat.zero_add] at hrz hge hle
    obtain ⟨G, hG⟩ : ∃ G, grownCap w n 0 48 = G := ⟨_, rfl⟩
    rw [hG] at hge hle
    simp only [hG] at hrz
    have hle2 : G ≤ 9223372036854775807 := by unfold maxLen at hle; omega
    have hsz : (Builtin.zeroCells (Value.agg #[.int .i64 0, .string ⟨#[]⟩]).cells n ++ Builtin.zeroCells (Value.agg #[.int .i64 0, .string ⟨#[]⟩]).cells (G - n)).size = G * 2 := by
      rw [Array.size_append, size_zc, size_zc]
      show n * 2 + (G - n) * 2 = G * 2
      omega
    have hrz2 : ∀ ty, (Builtin.append_ #[25, 3] ty #[.slice none 0 0, .int .i64 (n : Int)]).run Try.prog w = .ok (.slice (some ⟨w.heap.size, 0, none⟩) n G) (w.drew.alloc (.cells (Builtin.zeroCells (Value.agg #[.int .i64 0, .string ⟨#[]⟩]).cells n ++ Builtin.zeroCells (Value.agg #[.int .i64 0, .string ⟨#[]⟩]).cells (G - n)) 48)) := fun ty => by
      rw [hrz ty]; simp
    generalize Builtin.zeroCells (Value.agg #[.int .i64 0, .string ⟨#[]⟩]).cells n ++ Builtin.zeroCells (Value.agg #[.int .i64 0, .string ⟨#[]⟩]).cells (G - n) = Z at hsz hrz2
    have h1 : (0 : Int) < (n : Int) := by omega
    have HF : Hid (∀ v, v = Value.slice (some ⟨w.heap.size, 0, none⟩) 0 G → ∃ v', Ending.returned v = .returned v' ∧ PuO w.heap.size (w.drew.alloc (.cells Z 48)) v' [] ∧ Below w.heap.size w (w.drew.alloc (.cells Z 48))) := Lib.hid (fun v e => by
      subst e
      exact ⟨_, rfl, ⟨rfl, .inr ⟨w.heap.size, G, Z, rfl, Nat.le_refl _, heap_alloc_new w.drew _, Nat.zero_le _, hle, hsz, rfl⟩⟩, (Below.refl _ _).drew.alloc (Nat.le_refl _) _⟩)
    clear hrz hsz hle hG hge
    go_enter Try.func37, Try.ntmps37
    go_wp2_with (at_builtin; refine Lib.wpList_append_run _ rfl _ _ _ _ rfl _ _ rfl rfl _ _ (hrz2 _) ?_)
    all_goals (go_ret; exact HF.out _ rfl)
set_option maxRecDepth 100000 in
set_option maxHeartbeats 4000000 in
theorem concat_any (b : Nat) (aa ab : Option Addr) (ca cb : Nat) (A B : List Pu) (w : World) (h0 : w.cell? ⟨b, 0, none⟩ = some (.slice aa A.length ca)) (h1 : w.cell? ⟨b, 1, none⟩ = some (.slice ab B.length cb)) (hA : PuAt w aa A) (hB : PuAt w ab B) (hb : b < w.heap.size) (hna : A.length ≤ 20000) (hnb : B.length ≤ 20000) : Calls Try.prog 30 #[.slice (some ⟨b, 0, none⟩) 2 2] w (PuR (A ++ B) w) := by
  obtain ⟨i1, hi1, hy0, hy1, hy2⟩ := info_partsO info_putO
  have HA := Lib.hid hA
  have HB := Lib.hid hB
  obtain ⟨na, hla⟩ : ∃ n, Hid (A.length = n) := ⟨_, Lib.hid rfl⟩
  obtain ⟨nb, hlb⟩ : ∃ n, Hid (B.length = n) := ⟨_, Lib.hid rfl⟩
  rw [hla.out] at hna h0
  rw [hlb.out] at hnb h1
  have CG := Lib.hid (grow_any (na + nb) w (by omega))
  rw [Int.natCast_add] at CG
  have hp : ¬ ((na : Int) + (nb : Int) < 0) := by omega
  have hp1 : ¬ ((na : Int) < 0) := by omega
  clear hA hB
  go_enter Try.func30, Try.ntmps30
  go_wp2_with fail
  go_loopw [3, 11] (fun s3 s11 wi => ((s11 = .int .i64 0 ∧ s3 = .int .i64 0) ∨ (s11 = .int .i64 1 ∧ s3 = .int .i64 (na : Int)) ∨ (s11 = .int .i64 2 ∧ s3 = .int .i64 ((na : Int) + (nb : Int)))) ∧ w = wi) (fun _ s11 _ => 2 - (intOf s11).toNat)
  case atStart => exact ⟨Or.inl ⟨rfl, rfl⟩, rfl⟩
  case round =>
    obtain ⟨⟨rfl, rfl⟩ | ⟨rfl, rfl⟩ | ⟨rfl, rfl⟩, rfl⟩ := hrel
    · as_aux_lemma =>
      go_wp2_with fail
      go_roundw
      case rel => exact ⟨Or.inr (Or.inl ⟨rfl, rfl⟩), trivial⟩
      case measure => simp [intOf]
    · as_aux_lemma =>
      go_wp2_with fail
      go_roundw
      case rel => exact ⟨Or.inr (Or.inr ⟨rfl, rfl⟩), trivial⟩
      case measure => simp [intOf]
    · as_aux_lemma =>
      go_wp2_with fail
      refine CG.out.mono ?_
      rintro e w2 ⟨v, rfl, hO, hb2⟩
      obtain ⟨a2, c2, rfl, _, _, _⟩ := own_puM hO
      have HO2 := Lib.hid hO
      have HB2 := Lib.hid hb2
      clear hO hb2 CG
      go_wp2_with fail
      go_loopw [6, 27] (fun s6 s27 wi => ∃ (D : List Pu) (a6 : Option Addr) (c6 : Nat), s6 = .slice a6 D.length c6 ∧ Hid (PuO w.heap.size wi s6 D) ∧ Hid (Below w.heap.size w wi) ∧ ((s27 = .int .i64 0 ∧ D = []) ∨ (s27 = .int .i64 1 ∧ D = A) ∨ (s27 = .int .i64 2 ∧ D = A ++ B))) (fun _ s27 _ => 2 - (intOf s27).toNat)
      case atStart => exact ⟨[], _, _, rfl, HO2, HB2, Or.inl ⟨rfl, rfl⟩⟩
      case round =>
        obtain ⟨D, a6, c6, rfl, HO, HBw, hcase⟩ := hrel
        have k0 := (HBw.out.cell (p := ⟨b, 0, none⟩) hb).trans h0
        have k1 := (HBw.out.cell (p := ⟨b, 1, none⟩) hb).trans h1
        have hbs := HBw.out.size
        rcases hcase with ⟨rfl, rfl⟩ | ⟨rfl, rfl⟩ | ⟨rfl, rfl⟩
        · as_aux_lemma =>
          have HS := Lib.hid (src_pu (c := ca) (HA.out.below HBw.out))
          rw [hla.out] at HS
          have HQ : Hid (wr.ownsRow w.heap.size 48 2 (.slice a6 ([] : List Pu).length c6) 0 []) := Lib.hid HO.out
          go_wp2_with (at_builtin; refine wpList_append_src _ rfl _ _ 25 25 rfl w.heap.size 48 i1 (.agg #[.int .i64 0, .string ⟨#[]⟩]) Try.underlying25 hi1 hy0 (by rw [hy1]; rfl) _ 0 [] rfl (by rw [hy1]; exact HQ.out) _ na (puC A) rfl (by rw [hy1]; exact HS.out) (by unfold maxLen; omega) (by rw [hy2]; omega) hbs ?_)
          intro v' w5 hown hg5
          try rw [hy1] at hown
          have HO5 : Hid (PuO w.heap.size w5 v' A) := Lib.hid (by unfold PuO; rw [hla.out]; first | exact hown | simpa using hown)
          have HB5 := Lib.hid (HBw.out.grown hg5 hbs (fun j e => (HQ.out.lt j e).1))
          obtain ⟨a', c', rfl, _, _, _⟩ := own_puM HO5.out
          clear hown hg5 HO HBw HQ HS
          go_wp2_with fail
          go_roundw
          case rel => exact ⟨A, _, _, rfl, HO5, HB5, Or.inr (Or.inl ⟨rfl, rfl⟩)⟩
          case measure => simp [intOf]
        · as_aux_lemma =>
          have HS := Lib.hid (src_pu (c := cb) (HB.out.below HBw.out))
          rw [hlb.out] at HS
          have HQ : Hid (wr.ownsRow w.heap.size 48 2 (.slice a6 D.length c6) na (puC D)) := Lib.hid (by rw [← hla.out]; exact HO.out)
          go_wp2_with (at_builtin; refine wpList_append_src _ rfl _ _ 25 25 rfl w.heap.size 48 i1 (.agg #[.int .i64 0, .string ⟨#[]⟩]) Try.underlying25 hi1 hy0 (by rw [hy1]; rfl) _ na (puC D) rfl (by rw [hy1]; exact HQ.out) _ nb (puC B) rfl (by rw [hy1]; exact HS.out) (by unfold maxLen; omega) (by rw [hy2]; omega) hbs ?_)
          intro v' w5 hown hg5
          try rw [hy1] at hown
          have HO5 : Hid (PuO w.heap.size w5 v' (D ++ B)) := Lib.hid (by unfold PuO; rw [List.length_append, hla.out, hlb.out, puC_app]; exact hown)
          have HB5 := Lib.hid (HBw.out.grown hg5 hbs (fun j e => (HQ.out.lt j e).1))
          obtain ⟨a', c', rfl, _, _, _⟩ := own_puM HO5.out
          clear hown hg5 HO HBw HQ HS
          go_wp2_with fail
          go_roundw
          case rel => exact ⟨D ++ B, _, _, rfl, HO5, HB5, Or.inr (Or.inr ⟨rfl, rfl⟩)⟩
          case measure => simp [intOf]
        · as_aux_lemma =>
          obtain ⟨a', c', e9, _, _, hpu⟩ := own_puM HO.out
          injection e9 with e1 e2 e3
          subst e1 e3
          clear HO
          go_wp2_with fail
          go_ret
          unfold PuR
          rw [List.length_append]
          exact ⟨_, _, rfl, hpu.out, HBw.out⟩
set_option maxRecDepth 100000 in
set_option maxHeartbeats 4000000 in
theorem behind_any (aa ab : Option Addr) (ca cb : Nat) (A B : List Pu) (w : World) (hA : PuAt w aa A) (hB : PuAt w ab B) (hna : A.length ≤ 20000) (hnb : B.length ≤ 20000) (hwa : Wf A) (hwb : Wf B) : Calls Try.prog 22 #[.slice aa A.length ca, .slice ab B.length cb] w (PuR (setAll [] (A ++ B)) w) := by
  obtain ⟨w1, hw1⟩ : ∃ w1, w.alloc (.cells #[.slice aa A.length ca, .slice ab B.length cb] 25) = w1 := ⟨_, rfl⟩
  have b1 : Below w.heap.size w w1 := by rw [← hw1]; exact (Below.refl _ _).alloc (Nat.le_refl _) _
  have h0 : w1.cell? ⟨w.heap.size, 0, none⟩ = some (.slice aa A.length ca) := by rw [← hw1]; exact World.cell?_alloc_at _ _ _ _ rfl
  have h1 : w1.cell? ⟨w.heap.size, 1, none⟩ = some (.slice ab B.length cb) := by rw [← hw1]; exact World.cell?_alloc_at _ _ _ _ rfl
  have hs1 : w.heap.size < w1.heap.size := by rw [← hw1]; simp
  have CC := Lib.hid (concat_any w.heap.size aa ab ca cb A B w1 h0 h1 (hA.below b1) (hB.below b1) hs1 hna hnb)
  have HW := Lib.hid (show Wf (A ++ B) from fun p hp => (List.mem_append.1 hp).elim (hwa p) (hwb p))
  have HB1 := Lib.hid b1
  have HL : Hid ((A ++ B).length ≤ 50000) := Lib.hid (by rw [List.length_append]; omega)
  have HW1 := Lib.hid hw1
  clear hA hB hwa hwb h0 h1 b1 hw1 hna hnb
  generalize A.length = na at *
  generalize B.length = nb at *
  generalize A ++ B = D at *
  go_enter Try.func22, Try.ntmps22
  go_wp2_with fail
  rw [HW1.out]
  refine CC.out.mono ?_
  rintro e w2 ⟨a2, c2, rfl, hpu, hb2⟩
  have CL := Lib.hid (last_any a2 c2 D w2 hpu HL.out HW.out)
  have HB2 := Lib.hid (HB1.out.trans (hb2.mono (Nat.le_of_lt hs1)))
  clear hpu hb2 CC
  generalize D.length = nd at *
  go_wp2_with fail
  refine CL.out.mono ?_
  rintro e w3 ⟨a3, c3, rfl, hpu, hb3⟩
  have HP := Lib.hid hpu
  have HB3 := Lib.hid (HB2.out.trans (hb3.mono HB2.out.size))
  clear hpu hb3 CL
  go_wp2_with fail
  go_ret
  exact ⟨_, _, rfl, HP.out, HB3.out⟩
end Go.Proofs.Ytnlgkhggokloeaa
