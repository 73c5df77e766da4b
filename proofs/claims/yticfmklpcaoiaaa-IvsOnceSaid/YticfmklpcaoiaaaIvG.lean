/- The law IvsOnce: walk. -/
import Derived.Test.YticfmklpcaoiaaaIvF
namespace Go.Proofs.Yticfmklpcaoiaaa
open Go.RowKit Go.Deep Go.ChangeShapes Go.WideShapes
set_option linter.unusedVariables false

theorem Tri.put0 {w : World} {b : Nat} {n t m : Int} (h : Tri w b n t m) (u : Int) (h0 : 0 ≤ u) (h1 : u ≤ t) : Tri (w.setCell ⟨b, 0, none⟩ (.int .i64 u)) b u t m := by
  refine ⟨?_, ?_, ?_, ?_, ?_, ?_, h0, h1, h.tm, h.hi⟩
  · have := h.c0; go_simp
  · have := h.c1; go_simp
  · have := h.c2; go_simp
  · have := h.f0; go_simp
  · have := h.f1; go_simp
  · have := h.lt; simpa [World.setCell] using this
def zeros : Array Value := Array.replicate 256 (.bool false)
theorem zeros_run (w : World) : (zeroValue 38).run Try.prog w = .ok (.agg zeros) w := by kernel_rfl
theorem zeros_size : zeros.size = 256 := by unfold zeros; simp
theorem zeros_at (i : Nat) (h : i < 256) : zeros[i]? = some (.bool false) := by unfold zeros; simp [h]

set_option maxRecDepth 100000 in
set_option maxHeartbeats 2000000 in
theorem ivsOnce_acts (a : Int) (ao : Option Addr) (len cap : Nat) (w : World) (h0 : 0 ≤ a) (h1 : a ≤ 255) (hl : len ≤ 9223372036854775807) (hA : Hid (ActRow w ao len)) :
    Calls Try.prog 4 #[.int .u8 a, .slice ao len cap] w fun e w' => e = .returned (.bool true) ∧ Below w.heap.size w w' := by
  obtain ⟨m, hm⟩ : ∃ m : Nat, a + 1 = (m : Int) := ⟨(a + 1).toNat, by omega⟩
  have hm1 : 1 ≤ m := by omega
  have hm2 : m ≤ 256 := by omega
  have HM := Lib.hid hm
  clear hm
  go_enter Try.func4, Try.ntmps4
  go_wp2_with fail
  rw [HM.out]
  refine (ivsNew_ok 0 m w (by omega) (by omega) (by omega) (by omega)).mono ?_
  rintro e w' ⟨rfl, rfl⟩
  have B0 : Below w.heap.size w (w.alloc (.cells #[.int .i64 0, .int .i64 0, .int .i64 m] 48)) := (Below.refl _ _).alloc (Nat.le_refl _) _
  have R0 := Tri.new w 48 0 0 m (by omega) (by omega) (by omega) (by omega)
  have hs0 : (w.alloc (.cells #[.int .i64 0, .int .i64 0, .int .i64 m] 48)).heap.size = w.heap.size + 1 := by simp
  generalize w.alloc (.cells #[.int .i64 0, .int .i64 0, .int .i64 m] 48) = w0 at B0 R0 hs0 ⊢
  have HS := Lib.hid hs0
  clear hs0
  go_wp2_with fail
  have B1 := B0.alloc B0.size (.cells #[.int .i64 0, .int .i64 0, .int .i64 m] 31)
  have R1 := R0.below ((Below.refl _ _).alloc (Nat.le_refl _) (.cells #[.int .i64 0, .int .i64 0, .int .i64 m] 31))
  have X1 := Tri.new w0 31 0 0 m (by omega) (by omega) (by omega) (by omega)
  have hne : w.heap.size ≠ w0.heap.size := by rw [HS.out]; omega
  have hle : w.heap.size ≤ w0.heap.size := by rw [HS.out]; omega
  generalize w0.alloc (.cells #[.int .i64 0, .int .i64 0, .int .i64 m] 31) = w1 at B1 R1 X1 ⊢
  clear HS B0 R0
  generalize w0.heap.size = xb at X1 hne hle ⊢
  have HNE := Lib.hid hne
  clear hne
  refine (awake20 _).mono ?_
  rintro e w4 ⟨rfl, hb4⟩
  have R4 := R1.below hb4
  have X4 := X1.below hb4
  have B4 := B1.trans (hb4.mono B1.size)
  have hz := zeros_run
  have hrow0 : (w4.alloc (.cells zeros 38)).rowIs w4.heap.size 38 256 (fun _ => .bool false) := by
    have := World.rowIs_alloc w4 zeros 38 (fun _ => .bool false) (fun i hi => by rw [zeros_size] at hi; exact zeros_at i hi)
    rw [zeros_size] at this
    exact this
  have R5 := R4.alloc (.cells zeros 38)
  have X5 := X4.alloc (.cells zeros 38)
  have B5 := B4.alloc B4.size (.cells zeros 38)
  have hlr := R4.lt
  have hlx := X4.lt
  have hls := B4.size
  go_wp2_with fail
  generalize w4.alloc (.cells zeros 38) = w5 at hrow0 R5 X5 B5 ⊢
  generalize w4.heap.size = sb at hrow0 hlr hlx hls ⊢
  clear hz R4 X4 B4 R1 X1 B1 hb4
  have HR0 := Lib.hid hrow0
  clear hrow0
  go_loopw [6, 7, 10] (fun rp ee i wr => ∃ (k rb : Nat) (p : Nat) (t : Int) (S : Nat → Bool), k ≤ len ∧ i = .int .i64 k ∧ rp = .pointer (some ⟨rb, 0, none⟩) ∧ ee = .int .i64 0 ∧ Tri wr rb p t m ∧ Tri wr xb p t m ∧ w.heap.size ≤ rb ∧ rb ≠ xb ∧ rb ≠ sb ∧
      wr.rowIs sb 38 256 (fun j => .bool (S j)) ∧ (∀ j, S j = true → j < p) ∧ Below w.heap.size w wr)
    (fun _ _ i _ => len - (intOf i).toNat)
  case atStart => exact ⟨0, w.heap.size, 0, 0, fun _ => false, by omega, rfl, rfl, rfl, R5, X5, Nat.le_refl _, HNE.out, by omega, HR0.out, by simp, B5⟩
  case round =>
    obtain ⟨k, rb, p, t, S, hk, rfl, rfl, rfl, R, X, hrb, hrx, hrs, hrow, hS, B⟩ := hrel
    have HX1 := Lib.hid hrx
    have HX2 := Lib.hid hrs
    have HRW := Lib.hid hrow
    have HSS := Lib.hid hS
    clear hrx hrs hrow hS
    by_cases hlt : k < len
    · by_cases h120 : k < 120
      · obtain ⟨b, off, rfl, hb, hcs⟩ := hA.out (by omega)
        obtain ⟨K, N, c0, c1⟩ := hcs k hlt
        have d0 := (B.cell (p := ⟨b, off + k * 2, none⟩) hb).trans c0
        have d1 := (B.cell (p := ⟨b, off + k * 2 + 1, none⟩) hb).trans c1
        clear hcs c0 c1
        by_cases h5 : K = 5
        · have h5' : (K == 5) = true := by rw [beq_iff_eq]; exact h5
          have H5 := Lib.hid h5
          clear h5
          have x1 := X.c1
          have t0 : 0 ≤ t := by have := R.lo; have := R.nt; omega
          have t1 := R.tm
          have t2 := R.nt
          obtain ⟨tn, rfl⟩ := Int.eq_ofNat_of_zero_le t0
          go_wp2_with fail
          refine (ivsTop_any _ _ _ _ _ R).mono ?_
          rintro e w' ⟨rfl, rfl⟩
          go_wp2_with fail
          refine (ivsNew_ok (tn : Int) m _ (by omega) (by omega) t0 t1).mono ?_
          rintro e w' ⟨rfl, rfl⟩
          have x2 := (X.alloc (.cells #[.int .i64 tn, .int .i64 tn, .int .i64 m] 48)).c1
          have x3 := (X.alloc (.cells #[.int .i64 tn, .int .i64 tn, .int .i64 m] 48)).f0
          have x4 := (X.alloc (.cells #[.int .i64 tn, .int .i64 tn, .int .i64 m] 48)).c0
          have N1 := Tri.new wr 48 tn tn m t0 (Int.le_refl _) t1 (by omega)
          have X1 := X.alloc (.cells #[.int .i64 tn, .int .i64 tn, .int .i64 m] 48)
          have B1 := B.alloc B.size (.cells #[.int .i64 tn, .int .i64 tn, .int .i64 m] 48)
          have HW1 := Lib.hid ((HRW.out).alloc (.cells #[.int .i64 tn, .int .i64 tn, .int .i64 m] 48))
          have hxl := X.lt
          have hsl := HRW.out.lt
          have hwl := B.size
          generalize wr.alloc (.cells #[.int .i64 tn, .int .i64 tn, .int .i64 m] 48) = w2 at x2 x3 x4 N1 X1 B1 HW1 ⊢
          generalize wr.heap.size = nb at N1 hxl hsl hwl ⊢
          go_wp2
          go_roundw
          case rel =>
            refine ⟨k + 1, nb, tn, tn, S, by omega, by go_num, rfl, rfl, N1.setOther (p := ⟨xb, 0, none⟩) (by show nb ≠ xb; omega) _, X1.put0 tn (by omega) (Int.le_refl _), hwl, by omega, by omega, HW1.out.setOther (a := ⟨xb, 0, none⟩) (by show sb ≠ xb; omega) _, fun j hj => ?_, B1.setCell (p := ⟨xb, 0, none⟩) hle _⟩
            have := HSS.out j hj
            omega
          case measure => simp [intOf]; omega
        · have h5' : (K == 5) = false := by rw [beq_eq_false_iff_ne]; exact h5
          have H5 := Lib.hid h5
          clear h5
          go_wp2_with fail
          refine (do_any _ _ HX1.out wr p t m K N R X).mono ?_
          rintro e w2 ⟨kk, p', t', rfl, hor, R2, X2, C2⟩
          have B2 := C2.below B B.size (fun i hi => by rcases hi with rfl | rfl <;> omega)
          have hW2 : w2.rowIs sb 38 256 (fun j => .bool (S j)) := HRW.out.of_block (C2.block sb HRW.out.lt (fun hi => by
            rcases hi with e | e
            · exact HX2.out e.symm
            · omega))
          have HW2 := Lib.hid hW2
          clear hW2 HRW
          have hnt := R.nt
          have htm := R.tm
          rcases hor with ⟨rfl, rfl⟩ | ⟨rfl, rfl, hnm⟩
          · go_wp2
            go_roundw
            case rel => exact ⟨k + 1, rb, p, t', S, by omega, by go_num, rfl, rfl, R2, X2, hrb, HX1.out, HX2.out, HW2.out, HSS.out, B2⟩
            case measure => simp [intOf]; omega
          · have hp : p < 256 := by omega
            have hSp : S p = false := by
              by_cases e : S p = true
              · exact absurd (HSS.out p e) (by omega)
              · simpa using e
            have hcell := HW2.out.cell (i := p) hp
            rw [hSp] at hcell
            have hfz := HW2.out.frozen p
            clear hSp
            go_wp2
            go_roundw
            case rel =>
              refine ⟨k + 1, rb, p + 1, t', fun j => if j = p then true else S j, by omega, by go_num, rfl, rfl, ?_, ?_, hrb, HX1.out, HX2.out, ?_, fun j hj => ?_, B2.setCell (p := ⟨sb, p, none⟩) hls _⟩
              · exact R2.setOther (p := ⟨sb, p, none⟩) HX2.out _
              · exact X2.setOther (p := ⟨sb, p, none⟩) (by show xb ≠ sb; omega) _
              · refine (HW2.out.set p _).congr (fun j hj => ?_)
                by_cases e : j = p
                · simp [e]
                · simp [e]
              · by_cases e : j = p
                · omega
                · simp [e] at hj
                  have := HSS.out j hj
                  omega
            case measure => simp [intOf]; omega
      · go_wp2
        go_ret
        exact ⟨rfl, B⟩
    · go_wp2
      go_ret
      exact ⟨rfl, B⟩

theorem ivsOnce_walk (a : Int) {H : Type} {enc : TypeId × Value → H} (v : Value) (d : DataW H) (p : List MemPlace) (w : World) (ha : (Lit.int .u8 a).wf = true)
    (hv : ∃ a len cap, v = .slice a len cap) (h : DataW.Trod enc Try.prog w 0 (fun _ => true) true 22 v d p) :
    Calls Try.prog 4 #[.int .u8 a, v] w fun e w' => e = .returned (.bool true) ∧ Below w.heap.size w w' := by
  obtain ⟨ao, len, cap, rfl, hl, hA⟩ := open_acts hv h
  exact ivsOnce_acts a ao len cap w (bounds_u8 ha).1 (bounds_u8 ha).2 (by unfold maxLen at hl; exact hl) (Lib.hid hA)
end Go.Proofs.Yticfmklpcaoiaaa
