/- Package plan: refused. -/
import Derived.Test.YtnlgkhggokloeaaPlC
namespace Go.Proofs.Ytnlgkhggokloeaa
open Go.RowKit Go.Deep
set_option linter.unusedVariables false
set_option linter.unusedSimpArgs false
set_option maxRecDepth 100000 in
set_option maxHeartbeats 4000000 in
theorem refused_any (s : ByteArray) (ao : Option Addr) (c : Nat) (L : List Pu) (w : World) (hs : s.size ≤ 9223372036854775807) (hat : PuAt w ao L) (hn : L.length ≤ 50000) : Calls Try.prog 27 #[.string s, .slice ao L.length c] w fun e w' => e = .returned (.int .i64 (errA s L)) ∧ Below w.heap.size w w' := by
  have HAT := Lib.hid hat
  obtain ⟨n, hnn⟩ : ∃ n, Hid (L.length = n) := ⟨_, Lib.hid rfl⟩
  rw [hnn.out] at hn ⊢
  clear hat
  by_cases h64 : s.size = 18432
  · have hsz : ((s.size : Int) != 18432) = false := by simp; omega
    rw [errA_ok h64]
    clear h64
    go_enter Try.func27, Try.ntmps27
    go_wp2_with fail
    go_loopw [12] (fun s5 wi => ∃ i : Nat, s5 = .int .i64 (i : Int) ∧ i ≤ n ∧ Hid (errP L = errP (L.drop i)) ∧ Hid (Below w.heap.size w wi)) (fun s5 _ => n - (intOf s5).toNat)
    case atStart => exact ⟨0, rfl, by omega, Lib.hid rfl, Lib.hid (Below.refl _ _)⟩
    case round =>
      obtain ⟨i, rfl, hi, HE, HB⟩ := hrel
      by_cases hlt : i < n
      · have hli : (i : Int) < (n : Int) := by omega
        have hil : i < L.length := by rw [hnn.out]; exact hlt
        obtain ⟨g, o, rfl, hg, hc⟩ := HAT.out (by omega)
        have c0 := (HB.out.cell (p := ⟨g, o + i * 2, none⟩) hg).trans (hc i hil).1
        have c1 := (HB.out.cell (p := ⟨g, o + i * 2 + 1, none⟩) hg).trans (hc i hil).2
        have H1 := Lib.hid (errP_at HE.out hil).1
        have H2 := Lib.hid (errP_at HE.out hil).2
        clear hc HE
        generalize L[i] = z at *
        obtain ⟨x, t⟩ := z
        have c0 : wr.cell? ⟨g, o + i * 2, none⟩ = some (.int .i64 x) := c0
        have c1 : wr.cell? ⟨g, o + i * 2 + 1, none⟩ = some (.string t) := c1
        by_cases n1 : x < 0
        · have HV : Hid (errP L = 3) := Lib.hid (by have e : okP (x, t) = 3 := by unfold okP; rw [if_pos (Or.inl n1)]
                                                    rw [H1.out (by rw [e]; decide), e])
          clear H1 H2
          go_wp2_with fail
          go_ret
          exact ⟨by rw [HV.out]; rfl, by first | exact HB.out | exact HB.out.alloc HB.out.size _⟩
        · by_cases n2 : 288 ≤ x
          · have HV : Hid (errP L = 3) := Lib.hid (by have e : okP (x, t) = 3 := by unfold okP; rw [if_pos (Or.inr (by simp; omega))]
                                                      rw [H1.out (by rw [e]; decide), e])
            clear H1 H2
            go_wp2_with fail
            go_ret
            exact ⟨by rw [HV.out]; rfl, by first | exact HB.out | exact HB.out.alloc HB.out.size _⟩
          · by_cases n3 : t.size = 64
            · have HV : Hid (errP L = errP (L.drop (i + 1))) := Lib.hid (H2.out (by unfold okP; rw [if_neg (by simp; omega), if_neg (by simpa using n3)]))
              have h3 : ((t.size : Int) != 64) = false := by simp; omega
              clear H1 H2 n3
              go_wp2_with fail
              go_roundw
              case rel => exact ⟨i + 1, by go_num, by omega, HV, by first | exact Lib.hid (HB.out.alloc HB.out.size _)⟩
              case measure => simp [intOf]; omega
            · have HV : Hid (errP L = 6) := Lib.hid (by have e : okP (x, t) = 6 := by unfold okP; rw [if_neg (by simp; omega), if_pos n3]
                                                        rw [H1.out (by rw [e]; decide), e])
              have h3 : ((t.size : Int) != 64) = true := by simp; omega
              clear H1 H2 n3
              go_wp2_with fail
              go_ret
              exact ⟨by rw [HV.out]; rfl, by first | exact HB.out | exact HB.out.alloc HB.out.size _⟩
      · have hli : ¬ (i : Int) < (n : Int) := by omega
        have HV : Hid (errP L = 0) := Lib.hid (errP_end HE.out (by have := hnn.out; omega))
        go_wp2_with fail
        go_ret
        exact ⟨by rw [HV.out]; rfl, by first | exact HB.out | exact HB.out.alloc HB.out.size _⟩
  · have hsz : ((s.size : Int) != 18432) = true := by simp; omega
    rw [errA_bad h64]
    clear h64
    go_enter Try.func27, Try.ntmps27
    go_wp2_with fail
    go_ret
    exact ⟨rfl, Below.refl _ _⟩
end Go.Proofs.Ytnlgkhggokloeaa
