/- The reference's constants (layer 3): Constants. -/
import Derived.Test.YtndhegdhkoileaaDoorShW
import Derived.Test.YtndhegdhkoileaaDoorShJ
namespace Go.Proofs.YtndhegdhkoileaaDoor
open Go.RowKit Go.Deep
set_option linter.unusedVariables false
set_option linter.unusedSimpArgs false
def nv (l : List Nat) : List Value := l.map fun (x : Nat) => Value.int .i64 (x : Int)
theorem nv_app (a b : List Nat) : nv (a ++ b) = nv a ++ nv b := List.map_append
theorem own_sl {w : World} {base n size : Nat} {e : TypeId} {v : Value} {xs : List Value} (h : w.ownsRow base e size v n xs) : ∃ a c, v = .slice a n c ∧ n ≤ c ∧ c ≤ 9223372036854775807 := by
  rcases h.2 with ⟨rfl, rfl⟩ | ⟨g, cap, cur, rfl, hb, hg, hnc, hcm, _⟩
  · exact ⟨none, 0, rfl, Nat.le_refl _, by omega⟩
  · exact ⟨some ⟨g, 0, none⟩, cap, rfl, hnc, by unfold maxLen at hcm; omega⟩
theorem own_below' {w w' : World} {base n size : Nat} {e : TypeId} {v : Value} {xs : List Value} (h3 : w.ownsRow base e size v n xs) (hb : Below w.heap.size w w') : w'.ownsRow base e size v n xs := by
  refine ⟨h3.1, ?_⟩
  rcases h3.2 with h | ⟨g2, cap, cur, rfl, q1, q2, q3⟩
  · exact Or.inl h
  · exact Or.inr ⟨g2, cap, cur, rfl, q1, (hb.block g2 (Array.getElem?_eq_some_iff.1 q2).1).trans q2, q3⟩
theorem csL_yes (p : Nat) (h : primeB p = true) : csL (p + 1) = csL p ++ [csV p] := by rw [csL_succ, if_pos h]
theorem csL_no (p : Nat) (h : primeB p = false) : csL (p + 1) = csL p := by rw [csL_succ, if_neg (by rw [h]; simp), List.append_nil]
theorem one_cell_at (w : World) (t : TypeId) (v : Value) : ∀ j u, [v][j]? = some u → (w.alloc (.cells #[v] t)).cell? ((⟨w.heap.size, 0, none⟩ : Addr).add j) = some u := by
  intro j u hj
  match j, hj with
  | 0, hj => simp at hj; subst hj; exact World.cell?_alloc_at (w := w) _ _ _ _ rfl
attribute [local irreducible] grdX belowB csL csV npr bitN primeB
set_option maxRecDepth 100000 in
set_option maxHeartbeats 2000000 in
theorem constants_any (w : World) : Calls Tryd.prog 15 #[] w fun e w' => ∃ v, e = .returned v ∧ w'.ownsRow w.heap.size 3 1 v 64 (nv (klist.map (·.toNat))) ∧ Below w.heap.size w w' := by
  obtain ⟨i0, hi, hz0, hz1, hz2⟩ := info_parts' info_i64'
  have HEND := Lib.hid csL_312
  have HLEN := Lib.hid csL_len
  generalize klist.map (·.toNat) = KN at *
  go_enter Tryd.func15, Tryd.ntmps15
  go_wp2_with fail
  go_loopw [1, 2] (fun s x wi => ∃ (p : Nat), x = .int .i64 p ∧ 2 ≤ p ∧ p ≤ 312 ∧ Hid (wi.ownsRow w.heap.size 3 1 s (npr p) (nv (csL p))) ∧ Hid (Below w.heap.size w wi)) (fun _ x _ => 400 - (intOf x).toNat)
  case atStart => exact ⟨2, rfl, by omega, by omega, Lib.hid (by rw [← csL_len, csL_2]; exact World.ownsRow_nil _ _ _ _), Lib.hid (Below.refl _ _)⟩
  case round =>
    obtain ⟨p, rfl, hp, hp2, HO, HB⟩ := hrel
    obtain ⟨a, c, rfl, hc1, hc2⟩ := own_sl HO.out
    have HLT := Lib.hid (npr_lt p)
    have HGE := Lib.hid (npr_ge p)
    have HSC := Lib.hid (npr_succ p)
    generalize hNP : npr p = np at *
    have HNP := Lib.hid hNP
    clear hNP
    have hnp64 : np ≤ 64 := by
      rw [← HNP.out]
      have := npr_mono (312 - p) p
      rw [show p + (312 - p) = 312 from by omega, npr_312] at this
      exact this
    by_cases hlt : np < 64
    · have hli : (np : Int) < 64 := by omega
      have hp3 := HLT.out hlt
      have HPA := Lib.hid (fun w => prime_any p (by omega) w)
      have HY := Lib.hid (csL_yes p)
      have HN := Lib.hid (csL_no p)
      go_wp2_with fail
      refine (HPA.out wr).mono ?_
      rintro e w1 ⟨rfl, rfl⟩
      generalize primeB p = pb at *
      cases pb
      · go_wp2_with fail
        go_roundw
        case rel => exact ⟨p + 1, by go_num, by omega, by omega, Lib.hid (by rw [HSC.out, HN.out trivial, if_neg (by simp)]; exact HO.out), HB⟩
        case measure => simp [intOf]; omega
      · have HSZ := HB.out.size
        go_wp2_with fail
        go_loopw [3, 4] (fun x b wi => ∃ k : Nat, x = .int .i64 (grdX p k : Int) ∧ b = .int .i64 (bitN k : Int) ∧ k ≤ 36 ∧ Hid (wi.ownsRow w.heap.size 3 1 (.slice a np c) np (nv (csL p))) ∧ Hid (Below w.heap.size w wi)) (fun _ b _ => (intOf b).toNat)
        case atStart => exact ⟨0, by with_unfolding_all rfl, by with_unfolding_all rfl, by omega, HO, HB⟩
        clear HO HB HSZ
        case round =>
          obtain ⟨k, rfl, rfl, hk, HO, HB⟩ := hrel
          have hbd := grd_bound p k
          by_cases hlk : k < 36
          · have hbp := bitN_pos k hlk
            have HBS := Lib.hid (bitN_succ k)
            have HGS := Lib.hid (grd_succ p k)
            have HBA := Lib.hid (fun w => below_any (grdX p k + bitN k) p (by omega) (by omega) w)
            generalize hX : grdX p k = X at *
            generalize hBT : bitN k = bt at *
            have hb1 : 0 < (bt : Int) := by omega
            have hb2 : (X : Int) + (bt : Int) ≤ 68719476736 := by omega
            go_wp2_with fail
            have HBA2 := HBA.out wr
            rw [show ((X + bt : Nat) : Int) = (X : Int) + (bt : Int) from by push_cast; rfl] at HBA2
            refine HBA2.mono ?_
            rintro e w1 ⟨rfl, b1⟩
            have HO1 := Lib.hid (own_below' HO.out b1)
            have HB1 := Lib.hid (HB.out.trans (b1.mono HB.out.size))
            have HE2 : Hid ((bt : Int) / 2 = ((bitN (k + 1) : Nat) : Int)) := Lib.hid (by rw [← HBS.out]; omega)
            clear b1 HO HB HBA2 HBA
            generalize belowB (X + bt) p = bb at *
            cases bb
            · go_wp2_with fail
              go_roundw
              case rel => exact ⟨k + 1, by rw [HGS.out, if_neg (by simp)], by rw [HE2.out], by omega, HO1, HB1⟩
              case measure => simp [intOf]; omega
            · go_wp2_with fail
              go_roundw
              case rel => exact ⟨k + 1, by rw [HGS.out, if_pos trivial]; go_num, by rw [HE2.out], by omega, HO1, HB1⟩
              case measure => simp [intOf]; omega
          · obtain rfl : k = 36 := by omega
            have HCV : Hid (((grdX p 36 : Nat) : Int) % 4294967296 = ((csV p : Nat) : Int)) := Lib.hid (by with_unfolding_all (show ((grdX p 36 : Nat) : Int) % 4294967296 = ((grdX p 36 % 4294967296 : Nat) : Int)); omega)
            rw [bitN_36]
            have hx0 : (grdX p 36 : Int) ≤ 68719476736 := by omega
            have HSZ := HB.out.size
            generalize grdX p 36 = X at *
            go_wp2_with (at_builtin; rw [HCV.out]; refine wpList_append_own _ rfl _ _ 33 rfl w.heap.size 3 i0 (.int .i64 0) 1 8 Tryd.underlying33 hi hz0 hz1 hz2 rfl (by decide) _ _ _ rfl (HO.out.alloc _) ⟨wr.heap.size, 0, none⟩ 1 1 [.int .i64 (csV p : Int)] rfl rfl (one_cell_at wr _ _) (by intro u hu; simp at hu; subst hu; rfl) (by unfold maxLen; omega) (by omega) (by simp; omega) ?_; intro v' w1 O1 G1 _; obtain ⟨a1, c1, rfl, _, _⟩ := own_sl O1)
            have B1 : Below w.heap.size w w1 := (HB.out.alloc HSZ _).grown G1 (by simp; omega) (fun j e => (HO.out.lt j e).1)
            go_wp2_with fail
            go_roundw
            case rel => exact ⟨p + 1, by go_num, by omega, by omega, Lib.hid (by rw [HSC.out, HY.out trivial, if_pos trivial, nv_app]; exact O1), Lib.hid B1⟩
            case measure => simp [intOf]; omega
    · have hge : ¬ ((np : Int) < 64) := by omega
      go_wp2_with fail
      go_ret
      have hp4 := HGE.out (by omega) hp2
      subst hp4
      have h64 : np = 64 := by omega
      subst h64
      exact ⟨_, rfl, by rw [← HEND.out]; exact HO.out, HB.out⟩
end Go.Proofs.YtndhegdhkoileaaDoor
