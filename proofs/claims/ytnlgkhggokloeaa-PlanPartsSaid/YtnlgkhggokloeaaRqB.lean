/- Package record (cellaret): Check; the law's light and short. -/
import Derived.Test.YtnlgkhggokloeaaRqA
namespace Go.Proofs.Ytnlgkhggokloeaa
open Go.RowKit Go.Deep
set_option linter.unusedVariables false
set_option linter.unusedSimpArgs false
attribute [local irreducible] rcA
set_option maxRecDepth 100000 in
set_option maxHeartbeats 2000000 in
theorem check_any (R : Rc) (ao : Option Addr) (n cap : Nat) (w : World) (hr : R.root.length = 32) (hn : R.ps.length = n) (hnm : n ≤ 9223372036854775807) (hP : PtAt w ao R.ps) :
    Calls Try.prog 24 #[.agg (rcA R (.slice ao n cap))] w fun e w' => e = .returned (.int .i64 (chkE R)) ∧ Below w.heap.size w w' := by
  obtain ⟨w1, HW, hR, HB⟩ := box_rc w R (.slice ao n cap) hr
  have HP := Lib.hid (hP.below HB.out)
  have c0 := hR.seq
  have c33 := hR.ps
  have hlt := hR.lt
  have HN := Lib.hid hn
  clear hR hP hr hn
  by_cases hb : 64 < n
  · rw [chkE_big (by rw [HN.out]; exact hb)]
    have hb' : (64 : Int) < (n : Int) := by omega
    clear hb
    go_enter Try.func24, Try.ntmps24
    go_upto_region 1 with fail
    rw [HW.out]
    go_wp2_with fail
    go_ret
    exact ⟨rfl, HB.out⟩
  · have hb' : ¬ (64 : Int) < (n : Int) := by omega
    by_cases hs : R.seq < 0 ∨ 4294967295 < R.seq
    · rw [chkE_seq (by rw [HN.out]; exact hb) hs]
      clear hb
      by_cases h0 : R.seq < 0
      · clear hs
        go_enter Try.func24, Try.ntmps24
        go_upto_region 1 with fail
        rw [HW.out]
        go_wp2_with fail
        go_ret
        exact ⟨rfl, HB.out⟩
      · have h1 : 4294967295 < R.seq := by omega
        clear hs
        go_enter Try.func24, Try.ntmps24
        go_upto_region 1 with fail
        rw [HW.out]
        go_wp2_with fail
        go_ret
        exact ⟨rfl, HB.out⟩
    · have h0 : ¬ R.seq < 0 := by omega
      have h1 : ¬ 4294967295 < R.seq := by omega
      have HC : Hid ((okPs R.ps → chkE R = 0) ∧ (¬ okPs R.ps → chkE R = 2)) := Lib.hid ⟨fun h => chkE_ok (by rw [HN.out]; exact hb) hs h, fun h => chkE_no (by rw [HN.out]; exact hb) h⟩
      clear hs hb
      generalize R.seq = sq at *
      obtain ⟨ps, hps⟩ : ∃ ps, Hid (R.ps = ps) := ⟨_, Lib.hid rfl⟩
      rw [hps.out] at HP HN HC
      have HCE : Hid (∀ z, chkE R = z → chkE R = z) := Lib.hid (fun z h => h)
      go_enter Try.func24, Try.ntmps24
      go_upto_region 1 with fail
      rw [HW.out]
      go_wp2_with fail
      clear HW c0
      have C33 := Lib.hid c33
      clear c33
      go_loopw [3, 5, 21] (fun x3 x5 x21 wi => ∃ k : Nat, x21 = .int .i64 (k : Int) ∧ x3 = .int .i64 (pPrev ps k) ∧ k ≤ n ∧ Hid (∀ j, j < k → okAt ps j) ∧ Hid (Below w1.heap.size w1 wi)) (fun _ _ x _ => n - (intOf x).toNat)
      case atStart => exact ⟨0, rfl, rfl, by omega, Lib.hid (fun j hj => absurd hj (by omega)), Lib.hid (Below.refl _ _)⟩
      case round =>
        obtain ⟨k, rfl, rfl, hk, HO, HBi⟩ := hrel
        by_cases hkn : k < n
        · have hki : (k : Int) < (n : Int) := by omega
          obtain ⟨g, o, rfl, hg, hc⟩ := HP.out (by rw [HN.out]; omega)
          obtain ⟨d0, d1⟩ := hc k (by rw [HN.out]; exact hkn)
          have d0 := (HBi.out.cell (p := ⟨g, o + k * 2, none⟩) hg).trans d0
          have d1 := (HBi.out.cell (p := ⟨g, o + k * 2 + 1, none⟩) hg).trans d1
          have HAT : Hid (∀ a b q, pAt ps k = a → pB ps k = b → pPrev ps k = q → (okAt ps k ↔ (q < a ∧ a ≤ 287 ∧ b.size = 64)) ∧ pPrev ps (k + 1) = a) := Lib.hid (fun a b q h1 h2 h3 => by subst h1 h2 h3; exact ⟨Iff.rfl, rfl⟩)
          clear hc
          obtain ⟨a, ha⟩ : ∃ a, Hid (pAt ps k = a) := ⟨_, Lib.hid rfl⟩
          obtain ⟨b, hbb⟩ : ∃ b, Hid (pB ps k = b) := ⟨_, Lib.hid rfl⟩
          obtain ⟨q, hq⟩ : ∃ q, Hid (pPrev ps k = q) := ⟨_, Lib.hid rfl⟩
          rw [ha.out] at d0
          rw [hbb.out] at d1
          rw [hq.out]
          have HAT2 := Lib.hid (HAT.out a b q ha.out hbb.out hq.out)
          clear HAT ha hbb hq
          by_cases hok : q < a ∧ a ≤ 287 ∧ b.size = 64
          · have n1 : ¬ a ≤ q := by omega
            have n2 : ¬ 287 < a := by omega
            have n3 : ((b.size : Int) != 64) = false := by simp; omega
            have HOK := Lib.hid hok
            clear hok
            go_wp2_with fail
            go_roundw
            case rel =>
              refine ⟨k + 1, by go_num, by rw [HAT2.out.2], by omega, Lib.hid (fun j hj => ?_), Lib.hid (HBi.out.alloc HBi.out.size _)⟩
              by_cases e : j = k
              · subst e; exact HAT2.out.1.2 HOK.out
              · exact HO.out j (by omega)
            case measure => simp [intOf]; omega
          · have HNO : Hid (chkE R = 2) := Lib.hid (HC.out.2 (fun h => hok (HAT2.out.1.1 (h k (by rw [HN.out]; exact hkn)))))
            by_cases n1 : a ≤ q
            · clear hok
              go_wp2_with fail
              go_ret
              exact ⟨by rw [HNO.out]; rfl, HB.out.trans ((HBi.out.alloc HBi.out.size _).mono HB.out.size)⟩
            · by_cases n2 : 287 < a
              · clear hok
                go_wp2_with fail
                go_ret
                exact ⟨by rw [HNO.out]; rfl, HB.out.trans ((HBi.out.alloc HBi.out.size _).mono HB.out.size)⟩
              · have n3 : ((b.size : Int) != 64) = true := by simp; omega
                clear hok
                go_wp2_with fail
                go_ret
                exact ⟨by rw [HNO.out]; rfl, HB.out.trans ((HBi.out.alloc HBi.out.size _).mono HB.out.size)⟩
        · obtain rfl : k = n := by omega
          have HYES : Hid (chkE R = 0) := Lib.hid (HC.out.1 (fun j hj => HO.out j (by rw [HN.out] at hj; exact hj)))
          go_wp2_with fail
          go_ret
          exact ⟨by rw [HYES.out]; rfl, HB.out.trans (HBi.out.mono HB.out.size)⟩
end Go.Proofs.Ytnlgkhggokloeaa
