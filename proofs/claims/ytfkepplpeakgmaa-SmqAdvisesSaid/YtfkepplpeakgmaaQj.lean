/- Package smq: the reference's Weights, Sum, Place. -/
import Derived.Test.YtfkepplpeakgmaaQi
import Derived.OpenShut
import Derived.ChangeArms
import Derived.Test.YtfkepplpeakgmaaOpenR
namespace Go.Proofs.Ytfkepplpeakgmaa
open Go.RowKit Go.Deep
set_option linter.unusedVariables false
set_option linter.unusedSimpArgs false
set_option maxRecDepth 100000 in
set_option maxHeartbeats 2000000 in
theorem rsum_any (ao : Option Addr) (len cap : Nat) (ws : List Int) (w : World) (h : len ≤ 64) (hat : IntsAt w ao len ws) (hf : ∀ j, j < len → fits (ws.getD j 0)) :
    Calls Try.prog 13 #[.slice ao len cap] w fun e w' => e = .returned (.int .i64 (wsum ws len)) ∧ w = w' := by
  have HAT := Lib.hid hat
  have HF := Lib.hid hf
  clear hat hf
  go_enter Try.func13, Try.ntmps13
  go_wp2_with fail
  go_loopw [3, 4] (fun x y wi => ∃ (i : Nat) (s : Int), x = .int .i64 s ∧ y = .int .i64 i ∧ i ≤ len ∧ 0 ≤ s ∧ s ≤ i * 1048576 ∧ Hid (wsum ws i = s) ∧ w = wi) (fun _ y _ => len - (intOf y).toNat)
  case atStart => exact ⟨0, 0, rfl, rfl, by omega, by omega, by omega, Lib.hid rfl, rfl⟩
  case round =>
    obtain ⟨i, s, rfl, rfl, hi, hs0, hs1, HS, rfl⟩ := hrel
    by_cases hlt : i < len
    · have hlti : (i : Int) < (len : Int) := by omega
      obtain ⟨b, off, rfl, hb, hc⟩ := HAT.out (by omega)
      have c0 := hc i hlt
      clear hc
      have hw := Lib.hid (show wsum ws (i + 1) = s + ws.getD i 0 from by unfold wsum; rw [HS.out])
      have hf := HF.out i hlt
      generalize ws.getD i 0 = z at hw c0 hf
      obtain ⟨f1, f2⟩ := hf
      have f3 : ¬ z < 0 := by omega
      have f4 : ¬ 1048576 < z := by omega
      go_wp2_with fail
      go_roundw
      case rel => exact ⟨i + 1, s + z, by go_num, by go_num, by omega, by omega, by omega, Lib.hid hw.out, by first | rfl | trivial⟩
      case measure => simp [intOf]; omega
    · obtain rfl : i = len := by omega
      have hlti : ¬ (i : Int) < (i : Int) := by omega
      go_wp2_with fail
      go_ret
      exact ⟨by rw [HS.out]; rfl, rfl⟩
set_option maxRecDepth 100000 in
set_option maxHeartbeats 2000000 in
theorem rplace_any (k i : Nat) (ao : Option Addr) (len cap : Nat) (ws : List Int) (w : World) (h : len ≤ 64) (hat : IntsAt w ao len ws) (hf : ∀ j, j < len → fits (ws.getD j 0)) (hi : i < len) (hp : wsum ws i ≤ k ∧ (k : Int) < wsum ws (i + 1)) :
    Calls Try.prog 14 #[.int .i64 (k : Int), .slice ao len cap] w fun e w' => e = .returned (.int .i64 (i : Int)) ∧ w = w' := by
  have HAT := Lib.hid hat
  have HF := Lib.hid hf
  have HP := Lib.hid hp
  have hlen0 : (i : Int) < (len : Int) := by omega
  clear hat hf hp
  go_enter Try.func14, Try.ntmps14
  go_wp2_with fail
  go_loopw [5, 6] (fun x y wi => ∃ (j : Nat) (s : Int), x = .int .i64 s ∧ y = .int .i64 j ∧ j ≤ i ∧ 0 ≤ s ∧ s ≤ j * 1048576 ∧ Hid (wsum ws j = s) ∧ w = wi) (fun _ y _ => len - (intOf y).toNat)
  case atStart => exact ⟨0, 0, rfl, rfl, by omega, by omega, by omega, Lib.hid rfl, rfl⟩
  case round =>
    obtain ⟨j, s, rfl, rfl, hj, hs0, hs1, HS, rfl⟩ := hrel
    have hlt : j < len := by omega
    have hlti : (j : Int) < (len : Int) := by omega
    obtain ⟨b, off, rfl, hb, hc⟩ := HAT.out (by omega)
    have c0 := hc j hlt
    clear hc
    have hw := Lib.hid (show wsum ws (j + 1) = s + ws.getD j 0 from by unfold wsum; rw [HS.out])
    have hf := HF.out j hlt
    have hm : Hid (j < i → wsum ws (j + 1) ≤ wsum ws i) := Lib.hid (fun q => wsum_mono ws (j + 1) i (by omega) (fun t ht => HF.out t (by omega)))
    generalize ws.getD j 0 = z at hw c0 hf
    obtain ⟨f1, f2⟩ := hf
    by_cases e : j < i
    · have f3 : ¬ (k : Int) < s + z := by
        have h1 := hm.out e
        have h2 := HP.out.1
        rw [hw.out] at h1
        omega
      clear hm
      go_wp2_with fail
      go_roundw
      case rel => exact ⟨j + 1, s + z, by go_num, by go_num, by omega, by omega, by omega, Lib.hid hw.out, by first | rfl | trivial⟩
      case measure => simp [intOf]; omega
    · obtain rfl : j = i := by omega
      have f3 : (k : Int) < s + z := by
        have h2 := HP.out.2
        rw [hw.out] at h2
        exact h2
      clear hm
      go_wp2_with fail
      go_ret
      exact ⟨rfl, rfl⟩
section
variable {w : World} {B p ho e k : Nat} {R S : Nat → List Nat} {C : Nat → Int} {U : Nat → Bool}
set_option maxRecDepth 100000 in
set_option maxHeartbeats 8000000 in
theorem rweights_any (K : Nat → Bool) (q : PxAt w B p ho e R S C U k) (ok : RowsOk 16 R) : Calls Try.prog 12 #[.pointer (some ⟨p, 0, none⟩), .agg #[.bool (K 0), .bool (K 1), .bool (K 2), .bool (K 3), .bool (K 4), .bool (K 5), .bool (K 6), .bool (K 7), .bool (K 8), .bool (K 9), .bool (K 10), .bool (K 11), .bool (K 12), .bool (K 13), .bool (K 14), .bool (K 15)]] w fun x w' => ∃ ao c, x = .returned (.slice ao 16 c) ∧ IntsAt w' ao 16 (weiL R K) ∧ Below w.heap.size w w' := by
  obtain ⟨w1, hw1⟩ : ∃ w1, w.alloc (.cells #[.bool (K 0), .bool (K 1), .bool (K 2), .bool (K 3), .bool (K 4), .bool (K 5), .bool (K 6), .bool (K 7), .bool (K 8), .bool (K 9), .bool (K 10), .bool (K 11), .bool (K 12), .bool (K 13), .bool (K 14), .bool (K 15)] 33) = w1 := ⟨_, rfl⟩
  have HR : Hid (w1.rowIs w.heap.size 33 16 (fun j => .bool (K j))) := Lib.hid (by rw [← hw1]; exact kap_row w K)
  have B1 : Below w.heap.size w w1 := by rw [← hw1]; exact (Below.refl _ _).alloc (Nat.le_refl _) _
  have HS1 : w.heap.size < w1.heap.size := by rw [← hw1]; simp
  have HQ1 := Lib.hid (q.below B1)
  have HB1 := Lib.hid B1
  have HW := Lib.hid hw1
  have HOK := Lib.hid ok
  obtain ⟨i0, hi0, hz0, hz1, hz2⟩ := info_partsD info_i64D
  clear hw1 B1 q ok
  go_enter Try.func12, Try.ntmps12
  go_upto_region 1 with fail
  rw [HW.out]
  clear HW
  obtain ⟨bx, hbx⟩ : ∃ bx, w.heap.size = bx := ⟨_, rfl⟩
  have HBX := Lib.hid hbx
  rw [hbx] at HR HS1 ⊢
  clear hbx
  go_wp2_with fail
  go_loopw [5, 6, 7] (fun s5 s6 _ wi => ∃ g : Nat, s6 = .int .i64 (g : Int) ∧ g ≤ 16 ∧ (∃ a m c, s5 = .slice a m c) ∧ Hid (wi.ownsRow w1.heap.size 3 1 s5 (weiV R K g).length (weiV R K g)) ∧ Hid (Below w1.heap.size w1 wi)) (fun _ s6 _ _ => 16 - (intOf s6).toNat)
  case atStart => exact ⟨0, rfl, by omega, ⟨_, _, _, rfl⟩, Lib.hid (World.ownsRow_nil _ _ _ _), Lib.hid (Below.refl _ _)⟩
  case round =>
    obtain ⟨g, rfl, hg, ⟨a, m, c, rfl⟩, HO, HB⟩ := hrel
    by_cases hlt : g < 16
    · have hli : (g : Int) < 16 := by omega
      have q2 := HQ1.out.below HB.out
      have d0 := q2.c0
      have CW := where_any B ho g R wr q2.hot (HOK.out.len (by omega))
      have ck : wr.cell? ⟨bx, g, none⟩ = some (.bool (K g)) := (HR.out.of_block (HB.out.block _ HS1)).cell hlt
      have hsz := HB.out.size
      have HT := Lib.hid (weiV_next R K g)
      have HLN := Lib.hid (weiV_len R K g)
      obtain ⟨cc, hcc⟩ : ∃ c, K g = c := ⟨_, rfl⟩
      obtain ⟨l, hl⟩ : ∃ l, lvl R g = l := ⟨_, rfl⟩
      have hb := lvl_le R g
      have HV : Hid (weiK R K g = if l = -1 ∨ cc = true then 0 else l * l) := Lib.hid (by unfold weiK; rw [hl, hcc])
      rw [hl] at CW hb
      rw [hcc] at ck
      have CW := Lib.hid CW
      have HTT := HT
      clear hcc hl q2 HT
      rcases (show l = -1 ∨ l = 0 ∨ l = 1 ∨ l = 2 ∨ l = 3 by omega) with rfl | rfl | rfl | rfl | rfl <;> cases cc
      · have hxv := HV.out
        simp at hxv
        have ht := HTT.out
        rw [hxv] at ht
        have HT := Lib.hid ht
        clear hxv ht HTT HV hb
        as_aux_lemma =>
        go_wp2_with fail
        refine CW.out.mono ?_
        rintro y w3 ⟨rfl, rfl⟩
        clear CW
        go_wp2_with (at_builtin; refine wpList_append_own _ rfl _ _ 39 rfl w1.heap.size 3 i0 (.int .i64 0) 1 8 Try.underlying39 hi0 hz0 hz1 hz2 rfl (by decide) _ _ _ rfl (HO.out.alloc _) ⟨wr.heap.size, 0, none⟩ 1 1 [.int .i64 0] rfl rfl ?c1 ?c2 ?c3 ?c4 ?c5 ?_)
        case c1 =>
          intro q u hq
          match q, hq with
          | 0, hq => simp at hq; subst hq; exact World.cell?_alloc_at (w := wr) _ _ _ _ rfl
        case c2 => intro u hu; simp at hu; subst hu; rfl
        case c3 => have := HLN.out; unfold maxLen; omega
        case c4 => have := HLN.out; omega
        case c5 => simp; omega
        · intro v' w4 hown' hgrow _
          have hb1 := Lib.hid ((HB.out.alloc hsz _).grown hgrow (by simp; omega) (fun j e => (HO.out.lt j e).1))
          have HO2 : Hid (w4.ownsRow w1.heap.size 3 1 v' (weiV R K (g + 1)).length (weiV R K (g + 1))) := Lib.hid (by rw [HT.out, List.length_append]; exact hown')
          obtain ⟨a2, l2, c2, rfl⟩ := own_slice hown'
          clear hown' hgrow HO HB HT
          go_wp2_with fail
          go_roundw
          case rel => exact ⟨g + 1, by go_num, by omega, ⟨_, _, _, rfl⟩, HO2, hb1⟩
          case measure => simp [intOf]; omega
      · have hxv := HV.out
        simp at hxv
        have ht := HTT.out
        rw [hxv] at ht
        have HT := Lib.hid ht
        clear hxv ht HTT HV hb
        as_aux_lemma =>
        go_wp2_with fail
        refine CW.out.mono ?_
        rintro y w3 ⟨rfl, rfl⟩
        clear CW
        go_wp2_with (at_builtin; refine wpList_append_own _ rfl _ _ 39 rfl w1.heap.size 3 i0 (.int .i64 0) 1 8 Try.underlying39 hi0 hz0 hz1 hz2 rfl (by decide) _ _ _ rfl (HO.out.alloc _) ⟨wr.heap.size, 0, none⟩ 1 1 [.int .i64 0] rfl rfl ?c1 ?c2 ?c3 ?c4 ?c5 ?_)
        case c1 =>
          intro q u hq
          match q, hq with
          | 0, hq => simp at hq; subst hq; exact World.cell?_alloc_at (w := wr) _ _ _ _ rfl
        case c2 => intro u hu; simp at hu; subst hu; rfl
        case c3 => have := HLN.out; unfold maxLen; omega
        case c4 => have := HLN.out; omega
        case c5 => simp; omega
        · intro v' w4 hown' hgrow _
          have hb1 := Lib.hid ((HB.out.alloc hsz _).grown hgrow (by simp; omega) (fun j e => (HO.out.lt j e).1))
          have HO2 : Hid (w4.ownsRow w1.heap.size 3 1 v' (weiV R K (g + 1)).length (weiV R K (g + 1))) := Lib.hid (by rw [HT.out, List.length_append]; exact hown')
          obtain ⟨a2, l2, c2, rfl⟩ := own_slice hown'
          clear hown' hgrow HO HB HT
          go_wp2_with fail
          go_roundw
          case rel => exact ⟨g + 1, by go_num, by omega, ⟨_, _, _, rfl⟩, HO2, hb1⟩
          case measure => simp [intOf]; omega
      · have hxv := HV.out
        simp at hxv
        have ht := HTT.out
        rw [hxv] at ht
        have HT := Lib.hid ht
        clear hxv ht HTT HV hb
        as_aux_lemma =>
        go_wp2_with fail
        refine CW.out.mono ?_
        rintro y w3 ⟨rfl, rfl⟩
        clear CW
        go_wp2_with (at_builtin; refine wpList_append_own _ rfl _ _ 39 rfl w1.heap.size 3 i0 (.int .i64 0) 1 8 Try.underlying39 hi0 hz0 hz1 hz2 rfl (by decide) _ _ _ rfl (HO.out.alloc _) ⟨wr.heap.size, 0, none⟩ 1 1 [.int .i64 0] rfl rfl ?c1 ?c2 ?c3 ?c4 ?c5 ?_)
        case c1 =>
          intro q u hq
          match q, hq with
          | 0, hq => simp at hq; subst hq; exact World.cell?_alloc_at (w := wr) _ _ _ _ rfl
        case c2 => intro u hu; simp at hu; subst hu; rfl
        case c3 => have := HLN.out; unfold maxLen; omega
        case c4 => have := HLN.out; omega
        case c5 => simp; omega
        · intro v' w4 hown' hgrow _
          have hb1 := Lib.hid ((HB.out.alloc hsz _).grown hgrow (by simp; omega) (fun j e => (HO.out.lt j e).1))
          have HO2 : Hid (w4.ownsRow w1.heap.size 3 1 v' (weiV R K (g + 1)).length (weiV R K (g + 1))) := Lib.hid (by rw [HT.out, List.length_append]; exact hown')
          obtain ⟨a2, l2, c2, rfl⟩ := own_slice hown'
          clear hown' hgrow HO HB HT
          go_wp2_with fail
          go_roundw
          case rel => exact ⟨g + 1, by go_num, by omega, ⟨_, _, _, rfl⟩, HO2, hb1⟩
          case measure => simp [intOf]; omega
      · have hxv := HV.out
        simp at hxv
        have ht := HTT.out
        rw [hxv] at ht
        have HT := Lib.hid ht
        clear hxv ht HTT HV hb
        as_aux_lemma =>
        go_wp2_with fail
        refine CW.out.mono ?_
        rintro y w3 ⟨rfl, rfl⟩
        clear CW
        go_wp2_with (at_builtin; refine wpList_append_own _ rfl _ _ 39 rfl w1.heap.size 3 i0 (.int .i64 0) 1 8 Try.underlying39 hi0 hz0 hz1 hz2 rfl (by decide) _ _ _ rfl (HO.out.alloc _) ⟨wr.heap.size, 0, none⟩ 1 1 [.int .i64 0] rfl rfl ?c1 ?c2 ?c3 ?c4 ?c5 ?_)
        case c1 =>
          intro q u hq
          match q, hq with
          | 0, hq => simp at hq; subst hq; exact World.cell?_alloc_at (w := wr) _ _ _ _ rfl
        case c2 => intro u hu; simp at hu; subst hu; rfl
        case c3 => have := HLN.out; unfold maxLen; omega
        case c4 => have := HLN.out; omega
        case c5 => simp; omega
        · intro v' w4 hown' hgrow _
          have hb1 := Lib.hid ((HB.out.alloc hsz _).grown hgrow (by simp; omega) (fun j e => (HO.out.lt j e).1))
          have HO2 : Hid (w4.ownsRow w1.heap.size 3 1 v' (weiV R K (g + 1)).length (weiV R K (g + 1))) := Lib.hid (by rw [HT.out, List.length_append]; exact hown')
          obtain ⟨a2, l2, c2, rfl⟩ := own_slice hown'
          clear hown' hgrow HO HB HT
          go_wp2_with fail
          go_roundw
          case rel => exact ⟨g + 1, by go_num, by omega, ⟨_, _, _, rfl⟩, HO2, hb1⟩
          case measure => simp [intOf]; omega
      · have hxv := HV.out
        simp at hxv
        have ht := HTT.out
        rw [hxv] at ht
        have HT := Lib.hid ht
        clear hxv ht HTT HV hb
        as_aux_lemma =>
        go_wp2_with fail
        refine CW.out.mono ?_
        rintro y w3 ⟨rfl, rfl⟩
        clear CW
        go_wp2_with (at_builtin; refine wpList_append_own _ rfl _ _ 39 rfl w1.heap.size 3 i0 (.int .i64 0) 1 8 Try.underlying39 hi0 hz0 hz1 hz2 rfl (by decide) _ _ _ rfl (HO.out.alloc _) ⟨wr.heap.size, 0, none⟩ 1 1 [.int .i64 1] rfl rfl ?c1 ?c2 ?c3 ?c4 ?c5 ?_)
        case c1 =>
          intro q u hq
          match q, hq with
          | 0, hq => simp at hq; subst hq; exact World.cell?_alloc_at (w := wr) _ _ _ _ rfl
        case c2 => intro u hu; simp at hu; subst hu; rfl
        case c3 => have := HLN.out; unfold maxLen; omega
        case c4 => have := HLN.out; omega
        case c5 => simp; omega
        · intro v' w4 hown' hgrow _
          have hb1 := Lib.hid ((HB.out.alloc hsz _).grown hgrow (by simp; omega) (fun j e => (HO.out.lt j e).1))
          have HO2 : Hid (w4.ownsRow w1.heap.size 3 1 v' (weiV R K (g + 1)).length (weiV R K (g + 1))) := Lib.hid (by rw [HT.out, List.length_append]; exact hown')
          obtain ⟨a2, l2, c2, rfl⟩ := own_slice hown'
          clear hown' hgrow HO HB HT
          go_wp2_with fail
          go_roundw
          case rel => exact ⟨g + 1, by go_num, by omega, ⟨_, _, _, rfl⟩, HO2, hb1⟩
          case measure => simp [intOf]; omega
      · have hxv := HV.out
        simp at hxv
        have ht := HTT.out
        rw [hxv] at ht
        have HT := Lib.hid ht
        clear hxv ht HTT HV hb
        as_aux_lemma =>
        go_wp2_with fail
        refine CW.out.mono ?_
        rintro y w3 ⟨rfl, rfl⟩
        clear CW
        go_wp2_with (at_builtin; refine wpList_append_own _ rfl _ _ 39 rfl w1.heap.size 3 i0 (.int .i64 0) 1 8 Try.underlying39 hi0 hz0 hz1 hz2 rfl (by decide) _ _ _ rfl (HO.out.alloc _) ⟨wr.heap.size, 0, none⟩ 1 1 [.int .i64 0] rfl rfl ?c1 ?c2 ?c3 ?c4 ?c5 ?_)
        case c1 =>
          intro q u hq
          match q, hq with
          | 0, hq => simp at hq; subst hq; exact World.cell?_alloc_at (w := wr) _ _ _ _ rfl
        case c2 => intro u hu; simp at hu; subst hu; rfl
        case c3 => have := HLN.out; unfold maxLen; omega
        case c4 => have := HLN.out; omega
        case c5 => simp; omega
        · intro v' w4 hown' hgrow _
          have hb1 := Lib.hid ((HB.out.alloc hsz _).grown hgrow (by simp; omega) (fun j e => (HO.out.lt j e).1))
          have HO2 : Hid (w4.ownsRow w1.heap.size 3 1 v' (weiV R K (g + 1)).length (weiV R K (g + 1))) := Lib.hid (by rw [HT.out, List.length_append]; exact hown')
          obtain ⟨a2, l2, c2, rfl⟩ := own_slice hown'
          clear hown' hgrow HO HB HT
          go_wp2_with fail
          go_roundw
          case rel => exact ⟨g + 1, by go_num, by omega, ⟨_, _, _, rfl⟩, HO2, hb1⟩
          case measure => simp [intOf]; omega
      · have hxv := HV.out
        simp at hxv
        have ht := HTT.out
        rw [hxv] at ht
        have HT := Lib.hid ht
        clear hxv ht HTT HV hb
        as_aux_lemma =>
        go_wp2_with fail
        refine CW.out.mono ?_
        rintro y w3 ⟨rfl, rfl⟩
        clear CW
        go_wp2_with (at_builtin; refine wpList_append_own _ rfl _ _ 39 rfl w1.heap.size 3 i0 (.int .i64 0) 1 8 Try.underlying39 hi0 hz0 hz1 hz2 rfl (by decide) _ _ _ rfl (HO.out.alloc _) ⟨wr.heap.size, 0, none⟩ 1 1 [.int .i64 4] rfl rfl ?c1 ?c2 ?c3 ?c4 ?c5 ?_)
        case c1 =>
          intro q u hq
          match q, hq with
          | 0, hq => simp at hq; subst hq; exact World.cell?_alloc_at (w := wr) _ _ _ _ rfl
        case c2 => intro u hu; simp at hu; subst hu; rfl
        case c3 => have := HLN.out; unfold maxLen; omega
        case c4 => have := HLN.out; omega
        case c5 => simp; omega
        · intro v' w4 hown' hgrow _
          have hb1 := Lib.hid ((HB.out.alloc hsz _).grown hgrow (by simp; omega) (fun j e => (HO.out.lt j e).1))
          have HO2 : Hid (w4.ownsRow w1.heap.size 3 1 v' (weiV R K (g + 1)).length (weiV R K (g + 1))) := Lib.hid (by rw [HT.out, List.length_append]; exact hown')
          obtain ⟨a2, l2, c2, rfl⟩ := own_slice hown'
          clear hown' hgrow HO HB HT
          go_wp2_with fail
          go_roundw
          case rel => exact ⟨g + 1, by go_num, by omega, ⟨_, _, _, rfl⟩, HO2, hb1⟩
          case measure => simp [intOf]; omega
      · have hxv := HV.out
        simp at hxv
        have ht := HTT.out
        rw [hxv] at ht
        have HT := Lib.hid ht
        clear hxv ht HTT HV hb
        as_aux_lemma =>
        go_wp2_with fail
        refine CW.out.mono ?_
        rintro y w3 ⟨rfl, rfl⟩
        clear CW
        go_wp2_with (at_builtin; refine wpList_append_own _ rfl _ _ 39 rfl w1.heap.size 3 i0 (.int .i64 0) 1 8 Try.underlying39 hi0 hz0 hz1 hz2 rfl (by decide) _ _ _ rfl (HO.out.alloc _) ⟨wr.heap.size, 0, none⟩ 1 1 [.int .i64 0] rfl rfl ?c1 ?c2 ?c3 ?c4 ?c5 ?_)
        case c1 =>
          intro q u hq
          match q, hq with
          | 0, hq => simp at hq; subst hq; exact World.cell?_alloc_at (w := wr) _ _ _ _ rfl
        case c2 => intro u hu; simp at hu; subst hu; rfl
        case c3 => have := HLN.out; unfold maxLen; omega
        case c4 => have := HLN.out; omega
        case c5 => simp; omega
        · intro v' w4 hown' hgrow _
          have hb1 := Lib.hid ((HB.out.alloc hsz _).grown hgrow (by simp; omega) (fun j e => (HO.out.lt j e).1))
          have HO2 : Hid (w4.ownsRow w1.heap.size 3 1 v' (weiV R K (g + 1)).length (weiV R K (g + 1))) := Lib.hid (by rw [HT.out, List.length_append]; exact hown')
          obtain ⟨a2, l2, c2, rfl⟩ := own_slice hown'
          clear hown' hgrow HO HB HT
          go_wp2_with fail
          go_roundw
          case rel => exact ⟨g + 1, by go_num, by omega, ⟨_, _, _, rfl⟩, HO2, hb1⟩
          case measure => simp [intOf]; omega
      · have hxv := HV.out
        simp at hxv
        have ht := HTT.out
        rw [hxv] at ht
        have HT := Lib.hid ht
        clear hxv ht HTT HV hb
        as_aux_lemma =>
        go_wp2_with fail
        refine CW.out.mono ?_
        rintro y w3 ⟨rfl, rfl⟩
        clear CW
        go_wp2_with (at_builtin; refine wpList_append_own _ rfl _ _ 39 rfl w1.heap.size 3 i0 (.int .i64 0) 1 8 Try.underlying39 hi0 hz0 hz1 hz2 rfl (by decide) _ _ _ rfl (HO.out.alloc _) ⟨wr.heap.size, 0, none⟩ 1 1 [.int .i64 9] rfl rfl ?c1 ?c2 ?c3 ?c4 ?c5 ?_)
        case c1 =>
          intro q u hq
          match q, hq with
          | 0, hq => simp at hq; subst hq; exact World.cell?_alloc_at (w := wr) _ _ _ _ rfl
        case c2 => intro u hu; simp at hu; subst hu; rfl
        case c3 => have := HLN.out; unfold maxLen; omega
        case c4 => have := HLN.out; omega
        case c5 => simp; omega
        · intro v' w4 hown' hgrow _
          have hb1 := Lib.hid ((HB.out.alloc hsz _).grown hgrow (by simp; omega) (fun j e => (HO.out.lt j e).1))
          have HO2 : Hid (w4.ownsRow w1.heap.size 3 1 v' (weiV R K (g + 1)).length (weiV R K (g + 1))) := Lib.hid (by rw [HT.out, List.length_append]; exact hown')
          obtain ⟨a2, l2, c2, rfl⟩ := own_slice hown'
          clear hown' hgrow HO HB HT
          go_wp2_with fail
          go_roundw
          case rel => exact ⟨g + 1, by go_num, by omega, ⟨_, _, _, rfl⟩, HO2, hb1⟩
          case measure => simp [intOf]; omega
      · have hxv := HV.out
        simp at hxv
        have ht := HTT.out
        rw [hxv] at ht
        have HT := Lib.hid ht
        clear hxv ht HTT HV hb
        as_aux_lemma =>
        go_wp2_with fail
        refine CW.out.mono ?_
        rintro y w3 ⟨rfl, rfl⟩
        clear CW
        go_wp2_with (at_builtin; refine wpList_append_own _ rfl _ _ 39 rfl w1.heap.size 3 i0 (.int .i64 0) 1 8 Try.underlying39 hi0 hz0 hz1 hz2 rfl (by decide) _ _ _ rfl (HO.out.alloc _) ⟨wr.heap.size, 0, none⟩ 1 1 [.int .i64 0] rfl rfl ?c1 ?c2 ?c3 ?c4 ?c5 ?_)
        case c1 =>
          intro q u hq
          match q, hq with
          | 0, hq => simp at hq; subst hq; exact World.cell?_alloc_at (w := wr) _ _ _ _ rfl
        case c2 => intro u hu; simp at hu; subst hu; rfl
        case c3 => have := HLN.out; unfold maxLen; omega
        case c4 => have := HLN.out; omega
        case c5 => simp; omega
        · intro v' w4 hown' hgrow _
          have hb1 := Lib.hid ((HB.out.alloc hsz _).grown hgrow (by simp; omega) (fun j e => (HO.out.lt j e).1))
          have HO2 : Hid (w4.ownsRow w1.heap.size 3 1 v' (weiV R K (g + 1)).length (weiV R K (g + 1))) := Lib.hid (by rw [HT.out, List.length_append]; exact hown')
          obtain ⟨a2, l2, c2, rfl⟩ := own_slice hown'
          clear hown' hgrow HO HB HT
          go_wp2_with fail
          go_roundw
          case rel => exact ⟨g + 1, by go_num, by omega, ⟨_, _, _, rfl⟩, HO2, hb1⟩
          case measure => simp [intOf]; omega
    · obtain rfl : g = 16 := by omega
      rw [show ((16 : Nat) : Int) = 16 from rfl]
      have ho' := HO.out
      rw [weiV_all, List.length_map] at ho'
      obtain ⟨hle, hat⟩ := IntsAt.own ho'
      obtain rfl : m = 16 := by rw [hle, weiL_len]
      have HB3 := Lib.hid (HB1.out.trans (HB.out.mono HB1.out.size))
      have HAT := Lib.hid hat
      clear ho' hle hat HO
      go_wp2_with fail
      go_ret
      exact ⟨a, c, rfl, HAT.out, HB3.out⟩
end
end Go.Proofs.Ytfkepplpeakgmaa

/- Package smq: Demote, the program's and the reference's. -/
namespace Go.Proofs.Ytfkepplpeakgmaa
open Go.RowKit Go.Deep
set_option linter.unusedVariables false
set_option linter.unusedSimpArgs false
def demO (S : Nat → List Nat) (M : Nat → Bool) : Option Nat := match (S 0 ++ (S 1 ++ (S 2 ++ S 3))).find? M with | some x => some x | none => (List.range 8).find? M
theorem find_at {M : Nat → Bool} : ∀ {L : List Nat} {j : Nat} (hj : j < L.length), (∀ i, i < j → M (L.getD i 0) = false) → M L[j] = true → L.find? M = some L[j]
  | x :: L, 0, _, _, h => by
    have h : M x = true := h
    simp [List.find?, h]
  | x :: L, j + 1, hj, h0, h => by
    have h1 : M x = false := h0 0 (by omega)
    have h2 := find_at (L := L) (j := j) (by simpa using hj) (fun i hi => by have := h0 (i + 1) (by omega); simpa using this) (by simpa using h)
    simp only [List.find?, h1]
    simpa using h2
theorem find_no {M : Nat → Bool} {L : List Nat} (h : ∀ x ∈ L, M x = false) : L.find? M = none := by
  rw [List.find?_eq_none]
  intro x hx
  rw [h x hx]; decide
theorem dem_row {S : Nat → List Nat} {M : Nat → Bool} {l j : Nat} (hl : l < 4) (h0 : ∀ m, m < l → ∀ x ∈ S m, M x = false) (hj : j < (S l).length) (h1 : ∀ i, i < j → M ((S l).getD i 0) = false) (h : M (S l)[j] = true) : demO S M = some (S l)[j] := by
  have hf := find_at hj h1 h
  have e : (S 0 ++ (S 1 ++ (S 2 ++ S 3))).find? M = some (S l)[j] := by
    rw [List.find?_append, List.find?_append, List.find?_append]
    rcases (show l = 0 ∨ l = 1 ∨ l = 2 ∨ l = 3 by omega) with rfl | rfl | rfl | rfl
    · rw [hf]; rfl
    · rw [find_no (h0 0 (by omega)), hf]; rfl
    · rw [find_no (h0 0 (by omega)), find_no (h0 1 (by omega)), hf]; rfl
    · rw [find_no (h0 0 (by omega)), find_no (h0 1 (by omega)), find_no (h0 2 (by omega)), hf]; rfl
  unfold demO
  rw [e]
theorem dem_all {S : Nat → List Nat} {M : Nat → Bool} (h0 : ∀ m, m < 4 → ∀ x ∈ S m, M x = false) : demO S M = (List.range 8).find? M := by
  have e : (S 0 ++ (S 1 ++ (S 2 ++ S 3))).find? M = none := by
    rw [List.find?_append, List.find?_append, List.find?_append, find_no (h0 0 (by omega)), find_no (h0 1 (by omega)), find_no (h0 2 (by omega)), find_no (h0 3 (by omega))]; rfl
  unfold demO
  rw [e]
theorem dem_range {S : Nat → List Nat} {M : Nat → Bool} {s : Nat} (h0 : ∀ m, m < 4 → ∀ x ∈ S m, M x = false) (hs : s < 8) (h1 : ∀ i, i < s → M i = false) (h : M s = true) : demO S M = some s := by
  rw [dem_all h0]
  have hj : s < (List.range 8).length := by simpa using hs
  have e : (List.range 8)[s] = s := List.getElem_range _
  have := find_at (M := M) hj (fun i hi => by rw [List.getD_eq_getElem?_getD, List.getElem?_range (by omega)]; exact h1 i hi) (by rw [e]; exact h)
  rw [this, e]
theorem dem_none {S : Nat → List Nat} {M : Nat → Bool} (h0 : ∀ m, m < 4 → ∀ x ∈ S m, M x = false) (h1 : ∀ i, i < 8 → M i = false) : demO S M = none := by
  rw [dem_all h0]
  exact find_no fun x hx => h1 x (by simpa using hx)
theorem dem_may {S : Nat → List Nat} {M : Nat → Bool} {s : Nat} (h : demO S M = some s) : M s = true := by
  unfold demO at h
  split at h
  · rename_i x hx
    injection h with h
    subst h
    exact List.find?_some hx
  · exact List.find?_some h
theorem dem_lt {S : Nat → List Nat} {M : Nat → Bool} {s : Nat} (ok : RowsOk 8 S) (h : demO S M = some s) : s < 8 := by
  unfold demO at h
  split at h
  · rename_i x hx
    injection h with h
    subst h
    have := List.mem_of_find?_eq_some hx
    simp only [List.mem_append] at this
    rcases this with q | q | q | q
    · exact ok.lt 0 (by omega) _ q
    · exact ok.lt 1 (by omega) _ q
    · exact ok.lt 2 (by omega) _ q
    · exact ok.lt 3 (by omega) _ q
  · have := List.mem_of_find?_eq_some h
    simpa using this
theorem may_row (w : World) (M : Nat → Bool) : (w.alloc (.cells #[.bool (M 0), .bool (M 1), .bool (M 2), .bool (M 3), .bool (M 4), .bool (M 5), .bool (M 6), .bool (M 7)] 34)).rowIs w.heap.size 34 8 (fun j => .bool (M j)) := by
  have hs : (#[.bool (M 0), .bool (M 1), .bool (M 2), .bool (M 3), .bool (M 4), .bool (M 5), .bool (M 6), .bool (M 7)] : Array Value).size = 8 := rfl
  have := World.rowIs_alloc w #[.bool (M 0), .bool (M 1), .bool (M 2), .bool (M 3), .bool (M 4), .bool (M 5), .bool (M 6), .bool (M 7)] 34 (fun j => .bool (M j)) (fun i hi => by
    rw [hs] at hi
    rcases (show i = 0 ∨ i = 1 ∨ i = 2 ∨ i = 3 ∨ i = 4 ∨ i = 5 ∨ i = 6 ∨ i = 7 by omega) with rfl | rfl | rfl | rfl | rfl | rfl | rfl | rfl <;> rfl)
  rw [hs] at this
  exact this
def demV (r : Option Nat) : Value := match r with | some s => .tuple #[.int .i64 (s : Int), .bool true] | none => .tuple #[.int .i64 0, .bool false]
def demX (r : Option Nat) : Value := match r with | some s => .int .i64 (s : Int) | none => .int .i64 (-1)
section
variable {w : World} {B p ho e k : Nat} {R S : Nat → List Nat} {C : Nat → Int} {U : Nat → Bool}
set_option maxRecDepth 100000 in
set_option maxHeartbeats 8000000 in
theorem demote_any (M : Nat → Bool) (q : PoAt w B p ho e R S C U k) (ok : RowsOk 8 S) : Calls Try.prog 15 #[.pointer (some ⟨p, 0, none⟩), .agg #[.bool (M 0), .bool (M 1), .bool (M 2), .bool (M 3), .bool (M 4), .bool (M 5), .bool (M 6), .bool (M 7)]] w fun x w' => x = .returned (demV (demO S M)) ∧ Below w.heap.size w w' := by
  obtain ⟨w1, hw1⟩ : ∃ w1, w.alloc (.cells #[.bool (M 0), .bool (M 1), .bool (M 2), .bool (M 3), .bool (M 4), .bool (M 5), .bool (M 6), .bool (M 7)] 34) = w1 := ⟨_, rfl⟩
  have HR : Hid (w1.rowIs w.heap.size 34 8 (fun j => .bool (M j))) := Lib.hid (by rw [← hw1]; exact may_row w M)
  have B1 : Below w.heap.size w w1 := by rw [← hw1]; exact (Below.refl _ _).alloc (Nat.le_refl _) _
  have HS1 : w.heap.size < w1.heap.size := by rw [← hw1]; simp
  have HQ1 := Lib.hid (q.below B1)
  have HB1 := Lib.hid B1
  have HW := Lib.hid hw1
  have HOK := Lib.hid ok
  clear hw1 B1 q ok
  obtain ⟨V, hV⟩ : ∃ V, Hid (demV (demO S M) = V) := ⟨_, Lib.hid rfl⟩
  rw [hV.out]
  go_enter Try.func15, Try.ntmps15
  go_upto_region 1 with fail
  rw [HW.out]
  clear HW
  obtain ⟨bx, hbx⟩ : ∃ bx, w.heap.size = bx := ⟨_, rfl⟩
  rw [hbx] at HR HS1 ⊢
  clear hbx
  go_wp2_with fail
  go_loopw [13, 6, 8] (fun s13 _ _ wi => ∃ l : Nat, s13 = .int .i64 (l : Int) ∧ l ≤ 4 ∧ Hid (∀ m, m < l → ∀ x ∈ S m, M x = false) ∧ Hid (Below w1.heap.size w1 wi)) (fun s13 _ _ _ => 4 - (intOf s13).toNat)
  case atStart => exact ⟨0, rfl, by omega, Lib.hid (fun m hm => absurd hm (by omega)), Lib.hid (Below.refl _ _)⟩
  case round =>
    obtain ⟨l, rfl, hl, HN, HB⟩ := hrel
    have HRr := Lib.hid (HR.out.of_block (HB.out.block _ HS1))
    by_cases hlt : l < 4
    · have hli : (l : Int) < 4 := by omega
      have q2 := HQ1.out.below HB.out
      have d1 := q2.c1
      have CL := list_any e 8 S (l : Int) wr q2.held
      rw [show rowL S (l : Int) = S l by unfold rowL; rw [if_pos (by omega), Int.toNat_natCast]] at CL
      have CL := Lib.hid CL
      have HLT := Lib.hid (HOK.out.lt l hlt)
      have HNX := Lib.hid (fun (h : ∀ x ∈ S l, M x = false) (m : Nat) (hm : m < l + 1) (x : Nat) (hx : x ∈ S m) => (show M x = false by
        by_cases c : m = l
        · subst c; exact h x hx
        · exact HN.out m (by omega) x hx))
      have HFD := Lib.hid (fun (j : Nat) (hj : j < (S l).length) (h1 : ∀ i, i < j → M ((S l).getD i 0) = false) (h : M (S l)[j] = true) => dem_row hlt HN.out hj h1 h)
      have hlen : (S l).length ≤ 16 := HOK.out.len (by omega) l hlt
      clear q2 HN
      generalize S l = L at *
      obtain ⟨n, hn⟩ : ∃ n, Hid (L.length = n) := ⟨_, Lib.hid rfl⟩
      rw [hn.out] at hlen
      as_aux_lemma =>
      go_wp2_with fail
      refine CL.out.mono ?_
      rintro x w2 ⟨v, base, rfl, hb2, ho2, b2⟩
      obtain ⟨al, cl, rfl, hat⟩ := own_zi ho2
      have HAT := Lib.hid hat
      rw [hn.out] at HAT ⊢
      have HB2 := Lib.hid (HB.out.trans (b2.mono HB.out.size))
      have HR2 := Lib.hid (HRr.out.of_block (b2.block bx (Nat.lt_of_lt_of_le HS1 HB.out.size)))
      clear ho2 hat b2 CL hb2 d1
      go_wp2_with fail
      go_loopw [23, 8] (fun s23 _ wi => ∃ j : Nat, s23 = .int .i64 (j : Int) ∧ j ≤ n ∧ Hid (∀ i, i < j → M (L.getD i 0) = false) ∧ w2 = wi) (fun s23 _ _ => n - (intOf s23).toNat)
      case atStart => exact ⟨0, rfl, by omega, Lib.hid (fun i hi => absurd hi (by omega)), rfl⟩
      case round =>
        obtain ⟨j, rfl, hj, HJ, rfl⟩ := hrel
        by_cases hlt2 : j < n
        · have hli2 : (j : Int) < (n : Int) := by omega
          obtain ⟨b, off, rfl, hb, hall⟩ := HAT.out (by omega)
          have c1 := hall j hlt2
          have hjl : j < L.length := by rw [hn.out]; exact hlt2
          rw [zi_get hjl] at c1
          have hx8 : L[j] < 8 := HLT.out _ (List.getElem_mem hjl)
          have cm := HR2.out.cell hx8
          have HF := Lib.hid (HFD.out j hjl HJ.out)
          have HG : Hid (L.getD j 0 = L[j]) := Lib.hid (by rw [List.getD_eq_getElem?_getD, List.getElem?_eq_getElem hjl]; rfl)
          clear hall
          generalize L[j] = x at *
          have hxi : (x : Int) < 8 := by omega
          obtain ⟨c, hc⟩ : ∃ c, M x = c := ⟨_, rfl⟩
          rw [hc] at cm HF
          have HC := Lib.hid hc
          clear hc
          cases c
          · have HJ2 : Hid (∀ i, i < j + 1 → M (L.getD i 0) = false) := Lib.hid (fun i hi => by
              by_cases c : i = j
              · rw [c, HG.out]; exact HC.out
              · exact HJ.out i (by omega))
            go_wp2_with fail
            go_roundw
            case rel => exact ⟨j + 1, by go_num, by omega, HJ2, by first | rfl | trivial⟩
            case measure => simp [intOf]; omega
          · have HV2 : Hid (V = .tuple #[.int .i64 (x : Int), .bool true]) := Lib.hid (by rw [← hV.out, HF.out rfl]; rfl)
            have HB3 := Lib.hid (HB1.out.trans (HB2.out.mono HB1.out.size))
            go_wp2_with fail
            go_ret2
            exact ⟨by rw [HV2.out]; rfl, HB3.out⟩
        · have HNN : Hid (∀ m, m < l + 1 → ∀ x ∈ S m, M x = false) := Lib.hid (HNX.out (fun x hx => by
            obtain ⟨i, hi, rfl⟩ := List.getElem_of_mem hx
            have := HJ.out i (by have := hn.out; omega)
            rwa [List.getD_eq_getElem?_getD, List.getElem?_eq_getElem hi] at this))
          have hli2 : ¬ (j : Int) < (n : Int) := by omega
          go_wp2_with fail
          go_roundw
          case rel => exact ⟨l + 1, by go_num, by omega, HNN, HB2⟩
          case measure => simp [intOf]; omega
    · obtain rfl : l = 4 := by omega
      rw [show ((4 : Nat) : Int) = 4 from rfl]
      have k0 : wr.cell? ⟨bx, 0, none⟩ = some (.bool (M 0)) := HRr.out.cell (i := 0) (by omega)
      have k1 : wr.cell? ⟨bx, 1, none⟩ = some (.bool (M 1)) := HRr.out.cell (i := 1) (by omega)
      have k2 : wr.cell? ⟨bx, 2, none⟩ = some (.bool (M 2)) := HRr.out.cell (i := 2) (by omega)
      have k3 : wr.cell? ⟨bx, 3, none⟩ = some (.bool (M 3)) := HRr.out.cell (i := 3) (by omega)
      have k4 : wr.cell? ⟨bx, 4, none⟩ = some (.bool (M 4)) := HRr.out.cell (i := 4) (by omega)
      have k5 : wr.cell? ⟨bx, 5, none⟩ = some (.bool (M 5)) := HRr.out.cell (i := 5) (by omega)
      have k6 : wr.cell? ⟨bx, 6, none⟩ = some (.bool (M 6)) := HRr.out.cell (i := 6) (by omega)
      have k7 : wr.cell? ⟨bx, 7, none⟩ = some (.bool (M 7)) := HRr.out.cell (i := 7) (by omega)
      have HB3 := Lib.hid (HB1.out.trans (HB.out.mono HB1.out.size))
      as_aux_lemma =>
      go_wp2_with fail
      go_loopw [34, 9, 10] (fun s34 _ _ wi => ∃ i : Nat, s34 = .int .i64 (i : Int) ∧ i ≤ 8 ∧ Hid (∀ t, t < i → M t = false) ∧ wr = wi) (fun s34 _ _ _ => 8 - (intOf s34).toNat)
      case atStart => exact ⟨0, rfl, by omega, Lib.hid (fun i hi => absurd hi (by omega)), rfl⟩
      case round =>
        clear k0 k1 k2 k3 k4 k5 k6 k7
        obtain ⟨i, rfl, hi, HI, rfl⟩ := hrel
        by_cases hlt2 : i < 8
        · have hli2 : (i : Int) < 8 := by omega
          have hix := index8b M i hlt2
          obtain ⟨c, hc⟩ : ∃ c, M i = c := ⟨_, rfl⟩
          rw [hc] at hix
          have HC := Lib.hid hc
          clear hc
          cases c
          · have HI2 : Hid (∀ t, t < i + 1 → M t = false) := Lib.hid (fun t ht => by
              by_cases c : t = i
              · rw [c]; exact HC.out
              · exact HI.out t (by omega))
            go_wp2_with fail
            go_roundw
            case rel => exact ⟨i + 1, by go_num, by omega, HI2, by first | rfl | trivial⟩
            case measure => simp [intOf]; omega
          · have HV2 : Hid (V = .tuple #[.int .i64 (i : Int), .bool true]) := Lib.hid (by rw [← hV.out, dem_range HN.out hlt2 HI.out HC.out]; rfl)
            go_wp2_with fail
            go_ret2
            exact ⟨by rw [HV2.out]; rfl, HB3.out⟩
        · obtain rfl : i = 8 := by omega
          rw [show ((8 : Nat) : Int) = 8 from rfl]
          have HV2 : Hid (V = .tuple #[.int .i64 0, .bool false]) := Lib.hid (by rw [← hV.out, dem_none HN.out HI.out]; rfl)
          go_wp2_with fail
          go_ret2
          exact ⟨by rw [HV2.out]; rfl, HB3.out⟩
end
end Go.Proofs.Ytfkepplpeakgmaa

/- Package smq: the reference's Demote; SmqAdvises' argument. -/
namespace Go.Proofs.Ytfkepplpeakgmaa
open Go.RowKit Go.Deep Go.ChangeShapes Go.WideShapes
set_option linter.unusedVariables false
set_option linter.unusedSimpArgs false
section
variable {w : World} {B p ho e k : Nat} {R S : Nat → List Nat} {C : Nat → Int} {U : Nat → Bool}
set_option maxRecDepth 100000 in
set_option maxHeartbeats 8000000 in
theorem rdemote_any (M : Nat → Bool) (q : PxAt w B p ho e R S C U k) (ok : RowsOk 8 S) : Calls Try.prog 16 #[.pointer (some ⟨p, 0, none⟩), .agg #[.bool (M 0), .bool (M 1), .bool (M 2), .bool (M 3), .bool (M 4), .bool (M 5), .bool (M 6), .bool (M 7)]] w fun x w' => x = .returned (demX (demO S M)) ∧ Below w.heap.size w w' := by
  obtain ⟨w1, hw1⟩ : ∃ w1, w.alloc (.cells #[.bool (M 0), .bool (M 1), .bool (M 2), .bool (M 3), .bool (M 4), .bool (M 5), .bool (M 6), .bool (M 7)] 34) = w1 := ⟨_, rfl⟩
  have HR : Hid (w1.rowIs w.heap.size 34 8 (fun j => .bool (M j))) := Lib.hid (by rw [← hw1]; exact may_row w M)
  have B1 : Below w.heap.size w w1 := by rw [← hw1]; exact (Below.refl _ _).alloc (Nat.le_refl _) _
  have q1 := q.below B1
  have d1 := q1.c1
  obtain ⟨_, sx, hs, ho⟩ := q1.held
  have HS := Lib.hid hs
  have HO := Lib.hid (fun l hl' => own_zi (ho l hl'))
  have HB1 := Lib.hid B1
  have HW := Lib.hid hw1
  have HOK := Lib.hid ok
  clear hw1 B1 q ok q1 hs ho
  obtain ⟨V, hV⟩ : ∃ V, Hid (demX (demO S M) = V) := ⟨_, Lib.hid rfl⟩
  rw [hV.out]
  go_enter Try.func16, Try.ntmps16
  go_upto_region 1 with fail
  rw [HW.out]
  clear HW
  obtain ⟨bx, hbx⟩ : ∃ bx, w.heap.size = bx := ⟨_, rfl⟩
  rw [hbx] at HR ⊢
  clear hbx
  go_wp2_with fail
  go_loopw [5, 6] (fun s5 _ wi => ∃ l : Nat, s5 = .int .i64 (l : Int) ∧ l ≤ 4 ∧ Hid (∀ m, m < l → ∀ x ∈ S m, M x = false) ∧ w1 = wi) (fun s5 _ _ => 4 - (intOf s5).toNat)
  case atStart => exact ⟨0, rfl, by omega, Lib.hid (fun m hm => absurd hm (by omega)), rfl⟩
  case round =>
    obtain ⟨l, rfl, hl, HN, rfl⟩ := hrel
    by_cases hlt : l < 4
    · have hli : (l : Int) < 4 := by omega
      have c0 := World.rowIs.cell HS.out (i := l) (by omega)
      obtain ⟨al, cl, ex, hat⟩ := HO.out l hlt
      rw [ex] at c0
      have HLT := Lib.hid (HOK.out.lt l hlt)
      have HNX := Lib.hid (fun (h : ∀ x ∈ S l, M x = false) (m : Nat) (hm : m < l + 1) (x : Nat) (hx : x ∈ S m) => (show M x = false by
        by_cases c : m = l
        · subst c; exact h x hx
        · exact HN.out m (by omega) x hx))
      have HFD := Lib.hid (fun (j : Nat) (hj : j < (S l).length) (h1 : ∀ i, i < j → M ((S l).getD i 0) = false) (h : M (S l)[j] = true) => dem_row hlt HN.out hj h1 h)
      have hlen : (S l).length ≤ 16 := HOK.out.len (by omega) l hlt
      have HAT := Lib.hid hat
      clear HN ex hat
      generalize S l = L at *
      obtain ⟨n, hn⟩ : ∃ n, Hid (L.length = n) := ⟨_, Lib.hid rfl⟩
      rw [hn.out] at hlen HAT c0
      as_aux_lemma =>
      go_wp2_with fail
      go_loopw [6] (fun s6 wi => ∃ j : Nat, s6 = .int .i64 (j : Int) ∧ j ≤ n ∧ Hid (∀ i, i < j → M (L.getD i 0) = false) ∧ w1 = wi) (fun s6 _ => n - (intOf s6).toNat)
      case atStart => exact ⟨0, rfl, by omega, Lib.hid (fun i hi => absurd hi (by omega)), rfl⟩
      case round =>
        obtain ⟨j, rfl, hj, HJ, rfl⟩ := hrel
        by_cases hlt2 : j < n
        · have hli2 : (j : Int) < (n : Int) := by omega
          obtain ⟨b, off, rfl, hb, hall⟩ := HAT.out (by omega)
          have c1 := hall j hlt2
          have hjl : j < L.length := by rw [hn.out]; exact hlt2
          rw [zi_get hjl] at c1
          have hx8 : L[j] < 8 := HLT.out _ (List.getElem_mem hjl)
          have cm := HR.out.cell hx8
          have HF := Lib.hid (HFD.out j hjl HJ.out)
          have HG : Hid (L.getD j 0 = L[j]) := Lib.hid (by rw [List.getD_eq_getElem?_getD, List.getElem?_eq_getElem hjl]; rfl)
          clear hall
          generalize L[j] = x at *
          have hxi : (x : Int) < 8 := by omega
          obtain ⟨c, hc⟩ : ∃ c, M x = c := ⟨_, rfl⟩
          rw [hc] at cm HF
          have HC := Lib.hid hc
          clear hc
          cases c
          · have HJ2 : Hid (∀ i, i < j + 1 → M (L.getD i 0) = false) := Lib.hid (fun i hi => by
              by_cases c : i = j
              · rw [c, HG.out]; exact HC.out
              · exact HJ.out i (by omega))
            go_wp2_with fail
            go_roundw
            case rel => exact ⟨j + 1, by go_num, by omega, HJ2, by first | rfl | trivial⟩
            case measure => simp [intOf]; omega
          · have HV2 : Hid (V = .int .i64 (x : Int)) := Lib.hid (by rw [← hV.out, HF.out rfl]; rfl)
            go_wp2_with fail
            go_ret
            exact ⟨by rw [HV2.out]; rfl, HB1.out⟩
        · have HNN : Hid (∀ m, m < l + 1 → ∀ x ∈ S m, M x = false) := Lib.hid (HNX.out (fun x hx => by
            obtain ⟨i, hi, rfl⟩ := List.getElem_of_mem hx
            have := HJ.out i (by have := hn.out; omega)
            rwa [List.getD_eq_getElem?_getD, List.getElem?_eq_getElem hi] at this))
          have hli2 : ¬ (j : Int) < (n : Int) := by omega
          go_wp2_with fail
          go_roundw
          case rel => exact ⟨l + 1, by go_num, by omega, HNN, by first | rfl | trivial⟩
          case measure => simp [intOf]; omega
    · obtain rfl : l = 4 := by omega
      rw [show ((4 : Nat) : Int) = 4 from rfl]
      as_aux_lemma =>
      go_wp2_with fail
      go_loopw [7] (fun s7 wi => ∃ i : Nat, s7 = .int .i64 (i : Int) ∧ i ≤ 8 ∧ Hid (∀ t, t < i → M t = false) ∧ w1 = wi) (fun s7 _ => 8 - (intOf s7).toNat)
      case atStart => exact ⟨0, rfl, by omega, Lib.hid (fun i hi => absurd hi (by omega)), rfl⟩
      case round =>
        obtain ⟨i, rfl, hi, HI, rfl⟩ := hrel
        by_cases hlt2 : i < 8
        · have hli2 : (i : Int) < 8 := by omega
          have cm := HR.out.cell hlt2
          obtain ⟨c, hc⟩ : ∃ c, M i = c := ⟨_, rfl⟩
          rw [hc] at cm
          have HC := Lib.hid hc
          clear hc
          cases c
          · have HI2 : Hid (∀ t, t < i + 1 → M t = false) := Lib.hid (fun t ht => by
              by_cases c : t = i
              · rw [c]; exact HC.out
              · exact HI.out t (by omega))
            go_wp2_with fail
            go_roundw
            case rel => exact ⟨i + 1, by go_num, by omega, HI2, by first | rfl | trivial⟩
            case measure => simp [intOf]; omega
          · have HV2 : Hid (V = .int .i64 (i : Int)) := Lib.hid (by rw [← hV.out, dem_range HN.out hlt2 HI.out HC.out]; rfl)
            go_wp2_with fail
            go_ret
            exact ⟨by rw [HV2.out]; rfl, HB1.out⟩
        · obtain rfl : i = 8 := by omega
          rw [show ((8 : Nat) : Int) = 8 from rfl]
          have HV2 : Hid (V = .int .i64 (-1)) := Lib.hid (by rw [← hV.out, dem_none HN.out HI.out]; rfl)
          go_wp2_with fail
          go_ret
          exact ⟨by rw [HV2.out]; rfl, HB1.out⟩
end
theorem take_get25 {α : Type} (l : List α) (o n j : Nat) (hj : j < n) : ((l.drop o).take n)[j]? = l[o + j]? := by
  rw [List.getElem?_take, if_pos hj, List.getElem?_drop]
theorem arr_bools {H : Type} {enc : TypeId × Value → H} {P : Program} {w : World} {t e : TypeId} {n fuel : Nat} {cs : List Value} {x : DataW H × List MemPlace} (ht : P.underlying t = some (.array n e)) (he : P.underlying e = some .bool) (hc : P.cellsOf e = 1)
    (h : DataW.trod enc P w 0 (fun _ => true) true fuel t cs = some x) : ∀ j, j < n → ∃ z, cs[j]? = some (.bool z) := by
  obtain ⟨xs, m, _, _, _, hxl, hi⟩ := DataW.trod_array ht h
  intro j hj
  have h1 := hi j hj
  rw [hc, Nat.mul_one, List.getElem?_eq_getElem (by omega)] at h1
  obtain ⟨z, hz, _⟩ := DataW.trod_bool he h1
  refine ⟨z, ?_⟩
  have := congrArg (fun l => l[0]?) hz
  simpa [List.getElem?_take, List.getElem?_drop] using this
def boolAt25 (l : List Value) (j : Nat) : Bool := match l[j]? with | some (.bool b) => b | _ => false
theorem boolAt_of {l : List Value} {j : Nat} {z : Bool} (h : l[j]? = some (.bool z)) : l[j]? = some (.bool (boolAt25 l j)) := by
  rw [h]
  unfold boolAt25
  rw [h]
theorem four_fields25 : ∃ f0 f1 f2 f3, Try.prog.underlying 36 = some (.struct #[f0, f1, f2, f3]) ∧ (f0.type = 22 ∧ f0.offset = 0) ∧ (f1.type = 33 ∧ f1.offset = 1) ∧ (f2.type = 34 ∧ f2.offset = 17) ∧ (f3.type = 3 ∧ f3.offset = 25) :=
  ⟨_, _, _, _, Try.underlying36, ⟨rfl, rfl⟩, ⟨rfl, rfl⟩, ⟨rfl, rfl⟩, ⟨rfl, rfl⟩⟩
section
variable {H : Type} {enc : TypeId × Value → H} {w : World}
theorem acts_field25 {n : Nat} {v : Value} {y : DataW H × List MemPlace} (h : DataW.trod enc Try.prog w 0 (fun _ => true) true n 22 [v] = some y) : ∃ ao len cap, v = .slice ao len cap ∧ len ≤ maxLen ∧ ActQ w ao len := by
  have hs : ∃ a len cap, v = .slice a len cap := by
    rcases open_slice Try.underlying22 h with ⟨hcs, _⟩ | ⟨a, len, cap, m, n', D, Pl, hcs, _⟩
    · exact ⟨none, 0, 0, by simpa using hcs⟩
    · exact ⟨some a, len, cap, by simpa using hcs⟩
  refine open_acts25 (enc := enc) hs (d := y.1) (p := y.2) ?_
  obtain ⟨a, len, cap, rfl⟩ := hs
  exact ⟨n, h⟩
theorem take_one25 {α : Type} (l : List α) (o : Nat) (h : o < l.length) : (l.drop o).take 1 = [l[o]] := by
  rw [List.drop_eq_getElem_cons h]; rfl
theorem open_four25 {r : Reach} {b0 : Nat} {v : Value} {d : DataW H} {p : List MemPlace} (hok : Value.okWide Try.prog w r b0 36 v) (h : DataW.Trod enc Try.prog w 0 (fun _ => true) true 36 v d p) :
    ∃ (ao : Option Addr) (len cap : Nat) (K M : Nat → Bool) (draw : Int), v = .agg #[.slice ao len cap, .bool (K 0), .bool (K 1), .bool (K 2), .bool (K 3), .bool (K 4), .bool (K 5), .bool (K 6), .bool (K 7), .bool (K 8), .bool (K 9), .bool (K 10), .bool (K 11), .bool (K 12), .bool (K 13), .bool (K 14), .bool (K 15), .bool (M 0), .bool (M 1), .bool (M 2), .bool (M 3), .bool (M 4), .bool (M 5), .bool (M 6), .bool (M 7), .int .i64 draw] ∧ len ≤ maxLen ∧ ActQ w ao len ∧ -9223372036854775808 ≤ draw ∧ draw ≤ 9223372036854775807 := by
  obtain ⟨f0, f1, f2, f3, hs, ⟨t0, o0⟩, ⟨t1, o1⟩, ⟨t2, o2⟩, ⟨t3, o3⟩⟩ := four_fields25
  obtain ⟨cs, rfl, hsz⟩ := okWide_struct hs hok
  obtain ⟨l⟩ := cs
  have hl : l.length = 26 := hsz.trans (by kernel_rfl)
  obtain ⟨fuel, hf⟩ := h
  obtain ⟨ys, n', hn', hy, hlen, hyl, hf'⟩ := DataW.trod_struct hs hf
  have e0 : (Value.agg ⟨l⟩).cells.toList = l := by simp [Value.cells]
  rw [e0] at hf'
  have hyl4 : ys.length = 4 := hyl
  obtain ⟨y0, g0⟩ : ∃ y, ys[0]? = some y := ⟨_, List.getElem?_eq_getElem (by omega)⟩
  obtain ⟨y1, g1⟩ : ∃ y, ys[1]? = some y := ⟨_, List.getElem?_eq_getElem (by omega)⟩
  obtain ⟨y2, g2⟩ : ∃ y, ys[2]? = some y := ⟨_, List.getElem?_eq_getElem (by omega)⟩
  obtain ⟨y3, g3⟩ : ∃ y, ys[3]? = some y := ⟨_, List.getElem?_eq_getElem (by omega)⟩
  have h0 := hf' 0 f0 rfl
  have h1 := hf' 1 f1 rfl
  have h2 := hf' 2 f2 rfl
  have h3 := hf' 3 f3 rfl
  rw [t0, o0, g0, show Try.prog.cellsOf 22 = 1 from by kernel_rfl, take_one25 _ _ (by omega)] at h0
  rw [t1, o1, g1, show Try.prog.cellsOf 33 = 16 from by kernel_rfl] at h1
  rw [t2, o2, g2, show Try.prog.cellsOf 34 = 8 from by kernel_rfl] at h2
  rw [t3, o3, g3, show Try.prog.cellsOf 3 = 1 from by kernel_rfl, take_one25 _ _ (by omega)] at h3
  obtain ⟨ao, len, cap, hv, hm, hr⟩ := acts_field25 h0
  have hk : ∀ j, j < 16 → l[1 + j]? = some (.bool (boolAt25 l (1 + j))) := fun j hj => by
    obtain ⟨z, hz⟩ := arr_bools Try.underlying33 Try.underlying4 (by kernel_rfl) h1 j hj
    rw [take_get25 _ _ _ _ hj] at hz
    exact boolAt_of hz
  have hmm : ∀ j, j < 8 → l[17 + j]? = some (.bool (boolAt25 l (17 + j))) := fun j hj => by
    obtain ⟨z, hz⟩ := arr_bools Try.underlying34 Try.underlying4 (by kernel_rfl) h2 j hj
    rw [take_get25 _ _ _ _ hj] at hz
    exact boolAt_of hz
  obtain ⟨draw, hd, hdw⟩ := field_int Try.underlying3 h3
  refine ⟨ao, len, cap, fun j => boolAt25 l (1 + j), fun j => boolAt25 l (17 + j), draw, ?_, hm, hr, (i64_in25 hdw).1, (i64_in25 hdw).2⟩
  congr 1
  apply Array.ext'
  show l = _
  apply List.ext_getElem?
  intro j
  by_cases hj : j < 26
  · rcases (show j = 0 ∨ (1 ≤ j ∧ j < 17) ∨ (17 ≤ j ∧ j < 25) ∨ j = 25 by omega) with rfl | hj2 | hj2 | rfl
    · rw [List.getElem?_eq_getElem (by omega), hv]; rfl
    · have := hk (j - 1) (by omega)
      rw [show 1 + (j - 1) = j by omega] at this
      rw [this]
      rcases (show j = 1 ∨ j = 2 ∨ j = 3 ∨ j = 4 ∨ j = 5 ∨ j = 6 ∨ j = 7 ∨ j = 8 ∨ j = 9 ∨ j = 10 ∨ j = 11 ∨ j = 12 ∨ j = 13 ∨ j = 14 ∨ j = 15 ∨ j = 16 by omega) with rfl | rfl | rfl | rfl | rfl | rfl | rfl | rfl | rfl | rfl | rfl | rfl | rfl | rfl | rfl | rfl <;> rfl
    · have := hmm (j - 17) (by omega)
      rw [show 17 + (j - 17) = j by omega] at this
      rw [this]
      rcases (show j = 17 ∨ j = 18 ∨ j = 19 ∨ j = 20 ∨ j = 21 ∨ j = 22 ∨ j = 23 ∨ j = 24 by omega) with rfl | rfl | rfl | rfl | rfl | rfl | rfl | rfl <;> rfl
    · rw [List.getElem?_eq_getElem (by omega), hd]; rfl
  · rw [List.getElem?_eq_none (by omega), List.getElem?_eq_none (by simp; omega)]
end
end Go.Proofs.Ytfkepplpeakgmaa
