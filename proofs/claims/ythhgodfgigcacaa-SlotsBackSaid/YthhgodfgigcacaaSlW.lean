/- Slots: SlotsDo. -/
import Derived.Test.YthhgodfgigcacaaSlV
namespace Go.Proofs.Ythhgodfgigcacaa
open Go.RowKit Go.Deep Go.ChangeShapes Go.WideShapes
set_option linter.unusedVariables false
set_option linter.unusedSimpArgs false
set_option maxRecDepth 100000 in
set_option maxHeartbeats 8000000 in
theorem sdo_no (n : Int) (ao : Option Addr) (len cap : Nat) (w : World) (hn : n < 1 ∨ 8 < n) : Calls Try.prog 3 #[.int .i64 n, .slice ao len cap] w fun e w' => e = .returned (.bool true) ∧ Below w.heap.size w w' := by
  have CN := Lib.hid (newT_no n w hn)
  have CA := Lib.hid (awake22 w)
  rcases (show n < 1 ∨ (¬ n < 1 ∧ 8 < n) by omega) with h1 | ⟨h1, h2⟩
  all_goals
    clear hn
    go_enter Try.func3, Try.ntmps3
    go_wp2_with fail
    refine CN.out.mono ?_
    rintro e w' ⟨rfl, rfl⟩
    go_wp2_with fail
    refine CA.out.mono ?_
    rintro e w1 ⟨rfl, b1⟩
    have HB := Lib.hid b1
    clear b1 CA CN
    go_wp2_with fail
    go_ret
    exact ⟨rfl, HB.out⟩
set_option maxRecDepth 100000 in
set_option maxHeartbeats 16000000 in
theorem sdo_yes (n : Nat) (ao : Option Addr) (len cap : Nat) (w : World) (h1 : 1 ≤ n) (h8 : n ≤ 8) (hl : len ≤ 9223372036854775807) (hA : ActRow w ao len) : Calls Try.prog 3 #[.int .i64 (n : Int), .slice ao len cap] w fun e w' => e = .returned (.bool true) ∧ Below w.heap.size w w' := by
  have CN := Lib.hid (newT_ok n w h1 h8)
  have HA := Lib.hid hA
  clear hA
  have hn1 : ¬ (n : Int) < 1 := by omega
  have hn2 : ¬ (8 : Int) < (n : Int) := by omega
  go_enter Try.func3, Try.ntmps3
  go_wp2_with fail
  refine CN.out.mono ?_
  rintro e w1 ⟨g, rfl, q1, hg, b1⟩
  have HT1 := Lib.hid q1
  have HB1 := Lib.hid b1
  have CA := Lib.hid (awake22 w1)
  clear q1 b1 CN
  go_wp2_with fail
  refine CA.out.mono ?_
  rintro e w2 ⟨rfl, b2⟩
  have HT2 := Lib.hid (HT1.out.below b2)
  have HB2 := Lib.hid (HB1.out.trans (b2.mono HB1.out.size))
  have CR := Lib.hid (rnew_any n w2 h8)
  clear b2 CA HT1 HB1
  go_wp2_with fail
  refine CR.out.mono ?_
  rintro e w3 ⟨v3, rfl, l3, b3⟩
  have HT3 := Lib.hid (HT2.out.below b3)
  have HL3 : Hid (LAt w3 w.heap.size v3 n (fun _ => frS)) := Lib.hid (own_base22 l3 HB2.out.size)
  have HB3 := Lib.hid (HB2.out.trans (b3.mono HB2.out.size))
  have HI3 := Lib.hid (Inv.new n)
  clear b3 l3 CR HT2 HB2
  go_wp2_with fail
  go_loopw [7, 8, 9] (fun s7 s8 _ wi => ∃ (k : Nat) (T : Nat → Sl), s8 = .int .i64 (k : Int) ∧ k ≤ len ∧ Hid (TAt wi g n T) ∧ Hid (LAt wi w.heap.size s7 n T) ∧ Hid (Inv n T) ∧ Hid (Below w.heap.size w wi)) (fun _ s8 _ _ => len - (intOf s8).toNat)
  case atStart => exact ⟨0, _, rfl, by omega, HT3, HL3, HI3, HB3⟩
  case round =>
    obtain ⟨k, T, rfl, hk, HT, HL, HI, HB⟩ := hrel
    clear HT3 HL3 HI3 HB3
    by_cases hgo : k < len ∧ k < 50
    · have hlt' : (k : Int) < (len : Int) := by omega
      have h50' : (k : Int) < 50 := by omega
      have hlt := hgo.1
      obtain ⟨b, off, rfl, hb, hcs⟩ := HA.out (by omega)
      obtain ⟨x, gr, t, m, v, d, c0, c1, c2, c3, c4, c5⟩ := hcs k hlt
      have d0 := (HB.out.cell (p := ⟨b, off + k * 6, none⟩) hb).trans c0
      have d1 := (HB.out.cell (p := ⟨b, off + k * 6 + 1, none⟩) hb).trans c1
      have d2 := (HB.out.cell (p := ⟨b, off + k * 6 + 2, none⟩) hb).trans c2
      have d3 := (HB.out.cell (p := ⟨b, off + k * 6 + 3, none⟩) hb).trans c3
      have d4 := (HB.out.cell (p := ⟨b, off + k * 6 + 4, none⟩) hb).trans c4
      have d5 := (HB.out.cell (p := ⟨b, off + k * 6 + 5, none⟩) hb).trans c5
      obtain ⟨al, cl, hv⟩ := own_form HL.out
      subst hv
      have CD := Lib.hid (ldo_any w.heap.size g n (.slice al n cl) T T x gr t m v d wr HT.out HL.out h8 hg HI.out)
      have HI2 := Lib.hid (HI.out.act x gr t m v d)
      clear hcs c0 c1 c2 c3 c4 c5
      go_wp2_with fail
      refine CD.out.mono ?_
      rintro e w5 ⟨v', bb, rfl, hbb, t5, l5, k5⟩
      obtain rfl : bb = true := hbb rfl
      obtain ⟨T', hT'⟩ : ∃ T', actT n T x gr t m v d = T' := ⟨_, rfl⟩
      rw [hT'] at t5 l5 HI2
      have HT5 := Lib.hid t5
      have HL5 := Lib.hid l5
      have HB5 := Lib.hid (HB.out.trans k5.below)
      have CS := Lib.hid (lsame_any w.heap.size g n v' T' w5 t5 l5 h8 HI2.out)
      obtain ⟨a5, c5, rfl⟩ := own_form l5
      clear t5 l5 k5 hT' CD HT HL HI HB hbb d0 d1 d2 d3 d4 d5
      go_wp2_with fail
      refine CS.out.mono ?_
      rintro e w6 ⟨rfl, b6⟩
      have HT6 := Lib.hid (HT5.out.below b6)
      have HL6 := Lib.hid (HL5.out.below b6)
      have HB6 := Lib.hid (HB5.out.trans (b6.mono HB5.out.size))
      clear b6 CS HT5 HL5 HB5
      go_wp2_with fail
      go_roundw
      case rel => exact ⟨k + 1, T', by go_num, by omega, HT6, HL6, HI2, HB6⟩
      case measure => simp [intOf]; omega
    · rcases (show ¬ (k : Int) < (len : Int) ∨ ((k : Int) < (len : Int) ∧ ¬ (k : Int) < 50) by omega) with hx | ⟨hx, hy⟩
      all_goals
        go_wp2_with fail
        go_ret
        exact ⟨rfl, HB.out⟩
section
variable {H : Type} {enc : TypeId × Value → H}
theorem slotsDo_walk (n : Int) (v : Value) (d : DataW H) (p : List MemPlace) (w : World) (hn : (Lit.int .i64 n).wf = true) (hv : ∃ a len cap, v = .slice a len cap) (h : DataW.Trod enc Try.prog w 0 (fun _ => true) true 22 v d p) :
    Calls Try.prog 3 #[.int .i64 n, v] w fun e w' => e = .returned (.bool true) ∧ Below w.heap.size w w' := by
  obtain ⟨ao, len, cap, rfl, hl, hA⟩ := open_acts22 hv h
  by_cases hr : n < 1 ∨ 8 < n
  · exact sdo_no n ao len cap w hr
  · obtain ⟨m, rfl⟩ : ∃ m : Nat, n = (m : Int) := ⟨n.toNat, by omega⟩
    exact sdo_yes m ao len cap w (by omega) (by omega) (by unfold maxLen at hl; exact hl) hA
end
end Go.Proofs.Ythhgodfgigcacaa
