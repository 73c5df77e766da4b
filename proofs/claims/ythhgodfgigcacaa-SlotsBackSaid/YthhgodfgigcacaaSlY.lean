/- Package slots: slot, its walk. -/
import Derived.Test.YthhgodfgigcacaaSlX
namespace Go.Proofs.Ythhgodfgigcacaa
open Go.RowKit Go.Deep
set_option linter.unusedVariables false
set_option linter.unusedSimpArgs false
theorem only_setRow {a w : World} {g r : Nat} (h : a.grownBy w (some g)) (hr : a.heap.size ≤ r) (cs : Array Value) : a.grownBy (w.setRow r cs) (some g) :=
  ⟨h.os, h.tape, h.output, by have := h.size; simpa [World.setRow] using this, fun k hk hn => (setRow_other w r k cs (by omega)).trans (h.block k hk hn)⟩
theorem ten_block {w w' : World} {a o0 o1 o2 o3 o4 o5 o6 o7 o8 o9 : Nat} {v0 v1 v2 v3 v4 v5 v6 v7 v8 v9 : Value} (b : w'.heap[a]? = w.heap[a]?) (h : w.cell? ⟨a, o0, none⟩ = some v0 ∧ w.cell? ⟨a, o1, none⟩ = some v1 ∧ w.cell? ⟨a, o2, none⟩ = some v2 ∧ w.cell? ⟨a, o3, none⟩ = some v3 ∧ w.cell? ⟨a, o4, none⟩ = some v4 ∧ w.cell? ⟨a, o5, none⟩ = some v5 ∧ w.cell? ⟨a, o6, none⟩ = some v6 ∧ w.cell? ⟨a, o7, none⟩ = some v7 ∧ w.cell? ⟨a, o8, none⟩ = some v8 ∧ w.cell? ⟨a, o9, none⟩ = some v9) : w'.cell? ⟨a, o0, none⟩ = some v0 ∧ w'.cell? ⟨a, o1, none⟩ = some v1 ∧ w'.cell? ⟨a, o2, none⟩ = some v2 ∧ w'.cell? ⟨a, o3, none⟩ = some v3 ∧ w'.cell? ⟨a, o4, none⟩ = some v4 ∧ w'.cell? ⟨a, o5, none⟩ = some v5 ∧ w'.cell? ⟨a, o6, none⟩ = some v6 ∧ w'.cell? ⟨a, o7, none⟩ = some v7 ∧ w'.cell? ⟨a, o8, none⟩ = some v8 ∧ w'.cell? ⟨a, o9, none⟩ = some v9 := by
  have key : ∀ o v, w.cell? ⟨a, o, none⟩ = some v → w'.cell? ⟨a, o, none⟩ = some v := fun o v e => (World.cell?_of_block (a := ⟨a, o, none⟩) b).trans e
  obtain ⟨h0, h1, h2, h3, h4, h5, h6, h7, h8, h9⟩ := h
  exact ⟨key _ _ h0, key _ _ h1, key _ _ h2, key _ _ h3, key _ _ h4, key _ _ h5, key _ _ h6, key _ _ h7, key _ _ h8, key _ _ h9⟩
set_option maxRecDepth 100000 in
set_option maxHeartbeats 16000000 in
theorem slot_any (rb k : Nat) (s : ByteArray) (w : World) (h : Rd w rb s ((4 * k : Nat) : Int)) (hs : s.size = 48) (hk : k < 8) : Calls Try.prog 34 #[.pointer (some ⟨rb, 0, none⟩)] w fun e w' => ∃ x, e = .returned (.tuple #[.agg (slA x), .bool (okP (bt s (4 * k)) (bt s (4 * k + 1)) (bt s (4 * k + 2)) (bt s (4 * k + 3)))]) ∧ (okP (bt s (4 * k)) (bt s (4 * k + 1)) (bt s (4 * k + 2)) (bt s (4 * k + 3)) = true → x = pS (bt s (4 * k)) (bt s (4 * k + 1)) (bt s (4 * k + 2)) ∧ Rd w' rb s ((4 * k + 4 : Nat) : Int)) ∧ w.grownBy w' (some rb) := by
  have h0 := bt_lt s (4 * k)
  have h1 := bt_lt s (4 * k + 1)
  have h2 := bt_lt s (4 * k + 2)
  have h3 := bt_lt s (4 * k + 3)
  obtain ⟨w1, hw1⟩ : ∃ w1, Hid (w.alloc (.cells #[.int .i64 0, .bool false, .bool false, .bool false, .bool false, .bool false, .bool false, .bool false, .bool false, .int .i64 0] 44) = w1) := ⟨_, Lib.hid rfl⟩
  obtain ⟨a, ha⟩ : ∃ a, Hid (w.heap.size = a) := ⟨_, Lib.hid rfl⟩
  have hb1 : Below w.heap.size w w1 := by rw [← hw1.out]; exact (Below.refl _ _).alloc (Nat.le_refl _) _
  have HA1 : Hid (w1.heap[a]? = some (.cells #[.int .i64 0, .bool false, .bool false, .bool false, .bool false, .bool false, .bool false, .bool false, .bool false, .int .i64 0] 44 (0, 0))) := Lib.hid (by rw [← hw1.out, ← ha.out]; exact heap_alloc_new _ _)
  have haw : w.heap.size ≤ a := Nat.le_of_eq ha.out
  have hrl := h.lt
  have har : a ≠ rb := by omega
  have HR1 := Lib.hid (h.below hb1)
  have HG1 := Lib.hid (only_below hb1 (some rb))
  have CN0 := Lib.hid (fun w' (hh : Rd w' rb s ((4 * k : Nat) : Int)) => num1_any rb (4 * k) w' s hh hs (by omega))
  have CN1 := Lib.hid (fun w' (hh : Rd w' rb s ((4 * k + 1 : Nat) : Int)) => num1_any rb (4 * k + 1) w' s hh hs (by omega))
  have CN2 := Lib.hid (fun w' (hh : Rd w' rb s ((4 * k + 1 + 1 : Nat) : Int)) => num1_any rb (4 * k + 1 + 1) w' s hh hs (by omega))
  have CN3 := Lib.hid (fun w' (hh : Rd w' rb s ((4 * k + 1 + 1 + 1 : Nat) : Int)) => num1_any rb (4 * k + 1 + 1 + 1) w' s hh hs (by omega))
  obtain ⟨b0, hb0⟩ : ∃ b, bt s (4 * k) = b := ⟨_, rfl⟩
  obtain ⟨b1, hb1'⟩ : ∃ b, bt s (4 * k + 1) = b := ⟨_, rfl⟩
  obtain ⟨b2, hb2⟩ : ∃ b, bt s (4 * k + 2) = b := ⟨_, rfl⟩
  obtain ⟨b3, hb3⟩ : ∃ b, bt s (4 * k + 3) = b := ⟨_, rfl⟩
  rw [hb0] at h0 CN0 ⊢
  rw [hb1'] at h1 CN1 ⊢
  rw [hb2] at h2 ⊢
  rw [hb3] at h3 ⊢
  rw [show bt s (4 * k + 1 + 1) = b2 from hb2] at CN2
  rw [show bt s (4 * k + 1 + 1 + 1) = b3 from hb3] at CN3
  obtain ⟨o, ho⟩ : ∃ o, Hid (okP b0 b1 b2 b3 = o) := ⟨_, Lib.hid rfl⟩
  rw [ho.out]
  clear hb0 hb1' hb2 hb3 h hb1
  go_enter Try.func34, Try.ntmps34
  go_upto_region 1 with fail
  rw [hw1.out, ha.out]
  clear hw1 ha
  go_wp2_with fail
  refine (CN0.out w1 HR1.out).mono ?_
  rintro e w2 ⟨rfl, r2, k2⟩
  have hs2 := k2.size
  have HG2 := Lib.hid (only_trans HG1.out k2)
  have HA2 := Lib.hid ((k2.block a (Array.getElem?_eq_some_iff.1 HA1.out).1 (by simpa using har)).trans HA1.out)
  have C1 := Lib.hid (CN1.out w2 r2)
  clear r2 k2 HR1 HG1 HA1 CN0 CN1
  go_wp2_with fail
  refine C1.out.mono ?_
  rintro e w3 ⟨rfl, r3, k3⟩
  have HG3 := Lib.hid (only_trans HG2.out k3)
  have HA3 := Lib.hid ((k3.block a (Array.getElem?_eq_some_iff.1 HA2.out).1 (by simpa using har)).trans HA2.out)
  have C2 := Lib.hid (CN2.out w3 r3)
  clear r3 k3 HG2 HA2 C1 CN2
  go_wp2_with fail
  refine C2.out.mono ?_
  rintro e w4 ⟨rfl, r4, k4⟩
  have HG4 := Lib.hid (only_trans HG3.out k4)
  have HA4 := Lib.hid ((k4.block a (Array.getElem?_eq_some_iff.1 HA3.out).1 (by simpa using har)).trans HA3.out)
  have HR4 := Lib.hid r4
  clear r4 k4 HG3 HA3 C2
  have e1 : IntKind.i64.wrap ((b0 : Int) - 1) = (b0 : Int) - 1 := IntWalk.i64_in _ (by omega)
  have hba : Below w4.heap.size w4 (w4.alloc (.cells #[.int .i64 (pSi b0 b1 b2 0).g, .bool (pSi b0 b1 b2 0).v0, .bool (pSi b0 b1 b2 0).v1, .bool (pSi b0 b1 b2 0).v2, .bool (pSi b0 b1 b2 0).v3, .bool (pSi b0 b1 b2 0).d0, .bool (pSi b0 b1 b2 0).d1, .bool (pSi b0 b1 b2 0).d2, .bool (pSi b0 b1 b2 0).d3, .int .i64 (pSi b0 b1 b2 0).l] 44)) := (Below.refl _ _).alloc (Nat.le_refl _) _
  have HX5 : Hid ((w4.alloc (.cells #[.int .i64 (pSi b0 b1 b2 0).g, .bool (pSi b0 b1 b2 0).v0, .bool (pSi b0 b1 b2 0).v1, .bool (pSi b0 b1 b2 0).v2, .bool (pSi b0 b1 b2 0).v3, .bool (pSi b0 b1 b2 0).d0, .bool (pSi b0 b1 b2 0).d1, .bool (pSi b0 b1 b2 0).d2, .bool (pSi b0 b1 b2 0).d3, .int .i64 (pSi b0 b1 b2 0).l] 44)).rowIs w4.heap.size 44 10 (slC (pSi b0 b1 b2 0))) := Lib.hid (World.rowIs_alloc w4 (slA (pSi b0 b1 b2 0)) 44 (slC (pSi b0 b1 b2 0)) (fun j hj => by
    have hj : j < 10 := hj
    rcases (show j = 0 ∨ j = 1 ∨ j = 2 ∨ j = 3 ∨ j = 4 ∨ j = 5 ∨ j = 6 ∨ j = 7 ∨ j = 8 ∨ j = 9 by omega) with rfl | rfl | rfl | rfl | rfl | rfl | rfl | rfl | rfl | rfl <;> rfl))
  have HR5 := Lib.hid (HR4.out.below hba)
  have HA5 := Lib.hid ((hba.block a (Array.getElem?_eq_some_iff.1 HA4.out).1).trans HA4.out)
  have HG5 := Lib.hid (only_alloc HG4.out (.cells #[.int .i64 (pSi b0 b1 b2 0).g, .bool (pSi b0 b1 b2 0).v0, .bool (pSi b0 b1 b2 0).v1, .bool (pSi b0 b1 b2 0).v2, .bool (pSi b0 b1 b2 0).v3, .bool (pSi b0 b1 b2 0).d0, .bool (pSi b0 b1 b2 0).d1, .bool (pSi b0 b1 b2 0).d2, .bool (pSi b0 b1 b2 0).d3, .int .i64 (pSi b0 b1 b2 0).l] 44))
  have hcw : w.heap.size ≤ w4.heap.size := HG4.out.size
  have hac : a ≠ w4.heap.size := by have := (Array.getElem?_eq_some_iff.1 HA4.out).1; omega
  have hrc : rb ≠ w4.heap.size := by have := HR4.out.lt; omega
  have hlit : (w4.alloc (.cells #[.int .i64 (pSi b0 b1 b2 0).g, .bool (pSi b0 b1 b2 0).v0, .bool (pSi b0 b1 b2 0).v1, .bool (pSi b0 b1 b2 0).v2, .bool (pSi b0 b1 b2 0).v3, .bool (pSi b0 b1 b2 0).d0, .bool (pSi b0 b1 b2 0).d1, .bool (pSi b0 b1 b2 0).d2, .bool (pSi b0 b1 b2 0).d3, .int .i64 (pSi b0 b1 b2 0).l] 44)) = (w4.alloc (.cells #[.int .i64 ((b0 : Int) - 1), .bool false, .bool false, .bool false, .bool false, .bool false, .bool false, .bool false, .bool false, .int .i64 (b2 : Int)] 44)) := rfl
  obtain ⟨w5, hw5⟩ : ∃ w5, Hid ((w4.alloc (.cells #[.int .i64 ((b0 : Int) - 1), .bool false, .bool false, .bool false, .bool false, .bool false, .bool false, .bool false, .bool false, .int .i64 (b2 : Int)] 44)) = w5) := ⟨_, Lib.hid rfl⟩
  rw [hlit, hw5.out] at HX5 HR5 HA5 HG5
  obtain ⟨c, hc⟩ : ∃ c, Hid (w4.heap.size = c) := ⟨_, Lib.hid rfl⟩
  rw [hc.out] at HX5 hcw hac hrc
  clear hba hlit HR4 HG4 HA4
  go_upto_region 5 with fail
  rw [hw5.out, hc.out]
  clear hw5 hc
  go_wp2_with fail
  go_loopw [33, 11] (fun s33 _ wi => ∃ i : Nat, s33 = .int .i64 (i : Int) ∧ i ≤ 4 ∧ Hid (wi.rowIs c 44 10 (slC (pSi b0 b1 b2 i))) ∧ Hid (Rd wi rb s ((4 * k + 1 + 1 + 1 : Nat) : Int)) ∧ Hid (wi.heap[a]? = some (.cells #[.int .i64 0, .bool false, .bool false, .bool false, .bool false, .bool false, .bool false, .bool false, .bool false, .int .i64 0] 44 (0, 0))) ∧ Hid (w.grownBy wi (some rb)) ∧ Hid (∀ j, j < i → tb b1 j = true → tb b1 (4 + j) = true)) (fun s33 _ _ => 4 - (intOf s33).toNat)
  case atStart => exact ⟨0, rfl, by omega, HX5, HR5, HA5, HG5, Lib.hid (fun j h => absurd h (by omega))⟩
  case round =>
    obtain ⟨i, rfl, hi, HX, HR, HA, HG, HJ⟩ := hrel
    clear HX5 HR5 HA5 HG5
    by_cases hi4 : i < 4
    · rcases (show i = 0 ∨ i = 1 ∨ i = 2 ∨ i = 3 by omega) with rfl | rfl | rfl | rfl
      · rw [show ((0 : Nat) : Int) = 0 from rfl]
        obtain ⟨vv, hvv⟩ : ∃ vv, tb b1 4 = vv := ⟨_, rfl⟩
        obtain ⟨dd, hdd⟩ : ∃ dd, tb b1 0 = dd := ⟨_, rfl⟩
        have hv : (bits BinOp.and IntKind.i64 (b1 : Int) 16 != 0) = vv := by rw [← hvv]; exact and_tb b1 4 h1 (by omega)
        have hd : (bits BinOp.and IntKind.i64 (b1 : Int) 1 != 0) = dd := by rw [← hdd]; exact and_tb b1 0 h1 (by omega)
        have cv : wr.cell? ⟨c, 1, none⟩ = some (.bool false) := HX.out.cell (i := 1) (by omega)
        have fv := World.rowIs.frozen HX.out 1
        have hx1 := World.rowIs.set HX.out 1 (.bool vv)
        have cd : (wr.setCell ⟨c, 1, none⟩ (.bool vv)).cell? ⟨c, 5, none⟩ = some (.bool false) := hx1.cell (i := 5) (by omega)
        have fd := World.rowIs.frozen hx1 5
        have hx2 := World.rowIs.set hx1 5 (.bool dd)
        have HX2 : Hid (((wr.setCell ⟨c, 1, none⟩ (.bool vv)).setCell ⟨c, 5, none⟩ (.bool dd)).rowIs c 44 10 (slC (pSi b0 b1 b2 (0 + 1)))) := Lib.hid (hx2.congr fun j hj => by
          rcases (show j = 0 ∨ j = 1 ∨ j = 2 ∨ j = 3 ∨ j = 4 ∨ j = 5 ∨ j = 6 ∨ j = 7 ∨ j = 8 ∨ j = 9 by omega) with rfl | rfl | rfl | rfl | rfl | rfl | rfl | rfl | rfl | rfl <;> first | rfl | (rw [← hvv]; rfl) | (rw [← hdd]; rfl))
        have e1' : ((wr.setCell ⟨c, 1, none⟩ (.bool vv)).setCell ⟨c, 5, none⟩ (.bool dd)).cell? ⟨c, 1, none⟩ = some (.bool vv) := (HX2.out.cell (i := 1) (by omega)).trans (by rw [← hvv]; rfl)
        have e2' : ((wr.setCell ⟨c, 1, none⟩ (.bool vv)).setCell ⟨c, 5, none⟩ (.bool dd)).cell? ⟨c, 5, none⟩ = some (.bool dd) := (HX2.out.cell (i := 5) (by omega)).trans (by rw [← hdd]; rfl)
        have hoth : ∀ q, q ≠ c → ((wr.setCell ⟨c, 1, none⟩ (.bool vv)).setCell ⟨c, 5, none⟩ (.bool dd)).heap[q]? = wr.heap[q]? := fun q hq => (Below.heap_setCell _ ⟨c, 5, none⟩ _ q hq).trans (Below.heap_setCell wr ⟨c, 1, none⟩ _ q hq)
        have HR2 := Lib.hid (HR.out.same (hoth rb hrc) (by simp))
        have hra2 := (hoth a hac).trans HA.out
        have HG2 := Lib.hid (only_setCell (only_setCell HG.out (p := ⟨c, 1, none⟩) (Or.inr hcw) (.bool vv)) (p := ⟨c, 5, none⟩) (Or.inr hcw) (.bool dd))
        have HJ2 : Hid (dd = true → vv = true → ∀ j, j < 0 + 1 → tb b1 j = true → tb b1 (4 + j) = true) := Lib.hid (fun h1 h2 j hj hh => by
          by_cases e : j = 0
          · subst e; rw [← hvv] at h2; exact h2
          · exact HJ.out j (by omega) hh)
        have HJ3 : Hid (dd = false → ∀ j, j < 0 + 1 → tb b1 j = true → tb b1 (4 + j) = true) := Lib.hid (fun h1 j hj hh => by
          by_cases e : j = 0
          · subst e; rw [hdd, h1] at hh; exact absurd hh (by simp)
          · exact HJ.out j (by omega) hh)
        have HOKF : Hid (dd = true → vv = false → okP b0 b1 b2 b3 = false) := Lib.hid (fun h1 h2 => by
          rw [← hdd] at h1
          rw [← hvv] at h2
          unfold okP dvB
          rw [h1, h2]
          simp)
        clear hx1 hx2 hoth hvv hdd HX HR HA HG HJ
        generalize hw2 : ((wr.setCell ⟨c, 1, none⟩ (.bool vv)).setCell ⟨c, 5, none⟩ (.bool dd)) = w9 at *
        have hcase : (dd = true ∧ vv = false) ∨ (dd = true ∧ vv = true) ∨ dd = false := by cases dd <;> cases vv <;> simp
        rcases hcase with ⟨rfl, rfl⟩ | ⟨rfl, rfl⟩ | rfl
        · have hof := HOKF.out rfl rfl
          rw [ho.out] at hof
          have HOF := Lib.hid hof
          have HF2 := Lib.hid (only_setRow HG2.out haw #[.int .i64 0, .bool false, .bool false, .bool false, .bool false, .bool false, .bool false, .bool false, .bool false, .int .i64 0])
          clear hof
          go_upto_region 10 with fail
          try rw [hw2]
          go_wp2_with (refine wpList_store_row rfl _ _ _ rfl a #[.int .i64 0, .bool false, .bool false, .bool false, .bool false, .bool false, .bool false, .bool false, .bool false, .int .i64 0] rfl rfl 44 #[.int .i64 0, .bool false, .bool false, .bool false, .bool false, .bool false, .bool false, .bool false, .bool false, .int .i64 0] hra2 (by kernel_rfl) (by rfl) (by simp [Value.oneCell']) ?_)
          refine bodyPost_ret_by (results_ct rfl _ _ a 44 #[.int .i64 0, .bool false, .bool false, .bool false, .bool false, .bool false, .bool false, .bool false, .bool false, .int .i64 0] (0, 0) _ rfl (setRow_heap _ _ _ _ 44 (0, 0) hra2) Try.underlying44 rfl (by kernel_rfl)) rfl ⟨zeS, by rw [HOF.out]; rfl, fun h => absurd (HOF.out.symm.trans h) (by simp), HF2.out⟩
        · have HJ4 := Lib.hid (HJ2.out rfl rfl)
          go_upto_region 10 with fail
          try rw [hw2]
          go_wp2_with fail
          go_roundw
          case rel => exact ⟨0 + 1, rfl, by omega, HX2, HR2, Lib.hid hra2, HG2, HJ4⟩
          case measure => simp [intOf]
        · have HJ4 := Lib.hid (HJ3.out rfl)
          go_upto_region 10 with fail
          try rw [hw2]
          go_wp2_with fail
          go_roundw
          case rel => exact ⟨0 + 1, rfl, by omega, HX2, HR2, Lib.hid hra2, HG2, HJ4⟩
          case measure => simp [intOf]
      · rw [show ((1 : Nat) : Int) = 1 from rfl]
        obtain ⟨vv, hvv⟩ : ∃ vv, tb b1 5 = vv := ⟨_, rfl⟩
        obtain ⟨dd, hdd⟩ : ∃ dd, tb b1 1 = dd := ⟨_, rfl⟩
        have hv : (bits BinOp.and IntKind.i64 (b1 : Int) 32 != 0) = vv := by rw [← hvv]; exact and_tb b1 5 h1 (by omega)
        have hd : (bits BinOp.and IntKind.i64 (b1 : Int) 2 != 0) = dd := by rw [← hdd]; exact and_tb b1 1 h1 (by omega)
        have cv : wr.cell? ⟨c, 2, none⟩ = some (.bool false) := HX.out.cell (i := 2) (by omega)
        have fv := World.rowIs.frozen HX.out 2
        have hx1 := World.rowIs.set HX.out 2 (.bool vv)
        have cd : (wr.setCell ⟨c, 2, none⟩ (.bool vv)).cell? ⟨c, 6, none⟩ = some (.bool false) := hx1.cell (i := 6) (by omega)
        have fd := World.rowIs.frozen hx1 6
        have hx2 := World.rowIs.set hx1 6 (.bool dd)
        have HX2 : Hid (((wr.setCell ⟨c, 2, none⟩ (.bool vv)).setCell ⟨c, 6, none⟩ (.bool dd)).rowIs c 44 10 (slC (pSi b0 b1 b2 (1 + 1)))) := Lib.hid (hx2.congr fun j hj => by
          rcases (show j = 0 ∨ j = 1 ∨ j = 2 ∨ j = 3 ∨ j = 4 ∨ j = 5 ∨ j = 6 ∨ j = 7 ∨ j = 8 ∨ j = 9 by omega) with rfl | rfl | rfl | rfl | rfl | rfl | rfl | rfl | rfl | rfl <;> first | rfl | (rw [← hvv]; rfl) | (rw [← hdd]; rfl))
        have e1' : ((wr.setCell ⟨c, 2, none⟩ (.bool vv)).setCell ⟨c, 6, none⟩ (.bool dd)).cell? ⟨c, 2, none⟩ = some (.bool vv) := (HX2.out.cell (i := 2) (by omega)).trans (by rw [← hvv]; rfl)
        have e2' : ((wr.setCell ⟨c, 2, none⟩ (.bool vv)).setCell ⟨c, 6, none⟩ (.bool dd)).cell? ⟨c, 6, none⟩ = some (.bool dd) := (HX2.out.cell (i := 6) (by omega)).trans (by rw [← hdd]; rfl)
        have hoth : ∀ q, q ≠ c → ((wr.setCell ⟨c, 2, none⟩ (.bool vv)).setCell ⟨c, 6, none⟩ (.bool dd)).heap[q]? = wr.heap[q]? := fun q hq => (Below.heap_setCell _ ⟨c, 6, none⟩ _ q hq).trans (Below.heap_setCell wr ⟨c, 2, none⟩ _ q hq)
        have HR2 := Lib.hid (HR.out.same (hoth rb hrc) (by simp))
        have hra2 := (hoth a hac).trans HA.out
        have HG2 := Lib.hid (only_setCell (only_setCell HG.out (p := ⟨c, 2, none⟩) (Or.inr hcw) (.bool vv)) (p := ⟨c, 6, none⟩) (Or.inr hcw) (.bool dd))
        have HJ2 : Hid (dd = true → vv = true → ∀ j, j < 1 + 1 → tb b1 j = true → tb b1 (4 + j) = true) := Lib.hid (fun h1 h2 j hj hh => by
          by_cases e : j = 1
          · subst e; rw [← hvv] at h2; exact h2
          · exact HJ.out j (by omega) hh)
        have HJ3 : Hid (dd = false → ∀ j, j < 1 + 1 → tb b1 j = true → tb b1 (4 + j) = true) := Lib.hid (fun h1 j hj hh => by
          by_cases e : j = 1
          · subst e; rw [hdd, h1] at hh; exact absurd hh (by simp)
          · exact HJ.out j (by omega) hh)
        have HOKF : Hid (dd = true → vv = false → okP b0 b1 b2 b3 = false) := Lib.hid (fun h1 h2 => by
          rw [← hdd] at h1
          rw [← hvv] at h2
          unfold okP dvB
          rw [h1, h2]
          simp)
        clear hx1 hx2 hoth hvv hdd HX HR HA HG HJ
        generalize hw2 : ((wr.setCell ⟨c, 2, none⟩ (.bool vv)).setCell ⟨c, 6, none⟩ (.bool dd)) = w9 at *
        have hcase : (dd = true ∧ vv = false) ∨ (dd = true ∧ vv = true) ∨ dd = false := by cases dd <;> cases vv <;> simp
        rcases hcase with ⟨rfl, rfl⟩ | ⟨rfl, rfl⟩ | rfl
        · have hof := HOKF.out rfl rfl
          rw [ho.out] at hof
          have HOF := Lib.hid hof
          have HF2 := Lib.hid (only_setRow HG2.out haw #[.int .i64 0, .bool false, .bool false, .bool false, .bool false, .bool false, .bool false, .bool false, .bool false, .int .i64 0])
          clear hof
          go_upto_region 10 with fail
          try rw [hw2]
          go_wp2_with (refine wpList_store_row rfl _ _ _ rfl a #[.int .i64 0, .bool false, .bool false, .bool false, .bool false, .bool false, .bool false, .bool false, .bool false, .int .i64 0] rfl rfl 44 #[.int .i64 0, .bool false, .bool false, .bool false, .bool false, .bool false, .bool false, .bool false, .bool false, .int .i64 0] hra2 (by kernel_rfl) (by rfl) (by simp [Value.oneCell']) ?_)
          refine bodyPost_ret_by (results_ct rfl _ _ a 44 #[.int .i64 0, .bool false, .bool false, .bool false, .bool false, .bool false, .bool false, .bool false, .bool false, .int .i64 0] (0, 0) _ rfl (setRow_heap _ _ _ _ 44 (0, 0) hra2) Try.underlying44 rfl (by kernel_rfl)) rfl ⟨zeS, by rw [HOF.out]; rfl, fun h => absurd (HOF.out.symm.trans h) (by simp), HF2.out⟩
        · have HJ4 := Lib.hid (HJ2.out rfl rfl)
          go_upto_region 10 with fail
          try rw [hw2]
          go_wp2_with fail
          go_roundw
          case rel => exact ⟨1 + 1, rfl, by omega, HX2, HR2, Lib.hid hra2, HG2, HJ4⟩
          case measure => simp [intOf]
        · have HJ4 := Lib.hid (HJ3.out rfl)
          go_upto_region 10 with fail
          try rw [hw2]
          go_wp2_with fail
          go_roundw
          case rel => exact ⟨1 + 1, rfl, by omega, HX2, HR2, Lib.hid hra2, HG2, HJ4⟩
          case measure => simp [intOf]
      · rw [show ((2 : Nat) : Int) = 2 from rfl]
        obtain ⟨vv, hvv⟩ : ∃ vv, tb b1 6 = vv := ⟨_, rfl⟩
        obtain ⟨dd, hdd⟩ : ∃ dd, tb b1 2 = dd := ⟨_, rfl⟩
        have hv : (bits BinOp.and IntKind.i64 (b1 : Int) 64 != 0) = vv := by rw [← hvv]; exact and_tb b1 6 h1 (by omega)
        have hd : (bits BinOp.and IntKind.i64 (b1 : Int) 4 != 0) = dd := by rw [← hdd]; exact and_tb b1 2 h1 (by omega)
        have cv : wr.cell? ⟨c, 3, none⟩ = some (.bool false) := HX.out.cell (i := 3) (by omega)
        have fv := World.rowIs.frozen HX.out 3
        have hx1 := World.rowIs.set HX.out 3 (.bool vv)
        have cd : (wr.setCell ⟨c, 3, none⟩ (.bool vv)).cell? ⟨c, 7, none⟩ = some (.bool false) := hx1.cell (i := 7) (by omega)
        have fd := World.rowIs.frozen hx1 7
        have hx2 := World.rowIs.set hx1 7 (.bool dd)
        have HX2 : Hid (((wr.setCell ⟨c, 3, none⟩ (.bool vv)).setCell ⟨c, 7, none⟩ (.bool dd)).rowIs c 44 10 (slC (pSi b0 b1 b2 (2 + 1)))) := Lib.hid (hx2.congr fun j hj => by
          rcases (show j = 0 ∨ j = 1 ∨ j = 2 ∨ j = 3 ∨ j = 4 ∨ j = 5 ∨ j = 6 ∨ j = 7 ∨ j = 8 ∨ j = 9 by omega) with rfl | rfl | rfl | rfl | rfl | rfl | rfl | rfl | rfl | rfl <;> first | rfl | (rw [← hvv]; rfl) | (rw [← hdd]; rfl))
        have e1' : ((wr.setCell ⟨c, 3, none⟩ (.bool vv)).setCell ⟨c, 7, none⟩ (.bool dd)).cell? ⟨c, 3, none⟩ = some (.bool vv) := (HX2.out.cell (i := 3) (by omega)).trans (by rw [← hvv]; rfl)
        have e2' : ((wr.setCell ⟨c, 3, none⟩ (.bool vv)).setCell ⟨c, 7, none⟩ (.bool dd)).cell? ⟨c, 7, none⟩ = some (.bool dd) := (HX2.out.cell (i := 7) (by omega)).trans (by rw [← hdd]; rfl)
        have hoth : ∀ q, q ≠ c → ((wr.setCell ⟨c, 3, none⟩ (.bool vv)).setCell ⟨c, 7, none⟩ (.bool dd)).heap[q]? = wr.heap[q]? := fun q hq => (Below.heap_setCell _ ⟨c, 7, none⟩ _ q hq).trans (Below.heap_setCell wr ⟨c, 3, none⟩ _ q hq)
        have HR2 := Lib.hid (HR.out.same (hoth rb hrc) (by simp))
        have hra2 := (hoth a hac).trans HA.out
        have HG2 := Lib.hid (only_setCell (only_setCell HG.out (p := ⟨c, 3, none⟩) (Or.inr hcw) (.bool vv)) (p := ⟨c, 7, none⟩) (Or.inr hcw) (.bool dd))
        have HJ2 : Hid (dd = true → vv = true → ∀ j, j < 2 + 1 → tb b1 j = true → tb b1 (4 + j) = true) := Lib.hid (fun h1 h2 j hj hh => by
          by_cases e : j = 2
          · subst e; rw [← hvv] at h2; exact h2
          · exact HJ.out j (by omega) hh)
        have HJ3 : Hid (dd = false → ∀ j, j < 2 + 1 → tb b1 j = true → tb b1 (4 + j) = true) := Lib.hid (fun h1 j hj hh => by
          by_cases e : j = 2
          · subst e; rw [hdd, h1] at hh; exact absurd hh (by simp)
          · exact HJ.out j (by omega) hh)
        have HOKF : Hid (dd = true → vv = false → okP b0 b1 b2 b3 = false) := Lib.hid (fun h1 h2 => by
          rw [← hdd] at h1
          rw [← hvv] at h2
          unfold okP dvB
          rw [h1, h2]
          simp)
        clear hx1 hx2 hoth hvv hdd HX HR HA HG HJ
        generalize hw2 : ((wr.setCell ⟨c, 3, none⟩ (.bool vv)).setCell ⟨c, 7, none⟩ (.bool dd)) = w9 at *
        have hcase : (dd = true ∧ vv = false) ∨ (dd = true ∧ vv = true) ∨ dd = false := by cases dd <;> cases vv <;> simp
        rcases hcase with ⟨rfl, rfl⟩ | ⟨rfl, rfl⟩ | rfl
        · have hof := HOKF.out rfl rfl
          rw [ho.out] at hof
          have HOF := Lib.hid hof
          have HF2 := Lib.hid (only_setRow HG2.out haw #[.int .i64 0, .bool false, .bool false, .bool false, .bool false, .bool false, .bool false, .bool false, .bool false, .int .i64 0])
          clear hof
          go_upto_region 10 with fail
          try rw [hw2]
          go_wp2_with (refine wpList_store_row rfl _ _ _ rfl a #[.int .i64 0, .bool false, .bool false, .bool false, .bool false, .bool false, .bool false, .bool false, .bool false, .int .i64 0] rfl rfl 44 #[.int .i64 0, .bool false, .bool false, .bool false, .bool false, .bool false, .bool false, .bool false, .bool false, .int .i64 0] hra2 (by kernel_rfl) (by rfl) (by simp [Value.oneCell']) ?_)
          refine bodyPost_ret_by (results_ct rfl _ _ a 44 #[.int .i64 0, .bool false, .bool false, .bool false, .bool false, .bool false, .bool false, .bool false, .bool false, .int .i64 0] (0, 0) _ rfl (setRow_heap _ _ _ _ 44 (0, 0) hra2) Try.underlying44 rfl (by kernel_rfl)) rfl ⟨zeS, by rw [HOF.out]; rfl, fun h => absurd (HOF.out.symm.trans h) (by simp), HF2.out⟩
        · have HJ4 := Lib.hid (HJ2.out rfl rfl)
          go_upto_region 10 with fail
          try rw [hw2]
          go_wp2_with fail
          go_roundw
          case rel => exact ⟨2 + 1, rfl, by omega, HX2, HR2, Lib.hid hra2, HG2, HJ4⟩
          case measure => simp [intOf]
        · have HJ4 := Lib.hid (HJ3.out rfl)
          go_upto_region 10 with fail
          try rw [hw2]
          go_wp2_with fail
          go_roundw
          case rel => exact ⟨2 + 1, rfl, by omega, HX2, HR2, Lib.hid hra2, HG2, HJ4⟩
          case measure => simp [intOf]
      · rw [show ((3 : Nat) : Int) = 3 from rfl]
        obtain ⟨vv, hvv⟩ : ∃ vv, tb b1 7 = vv := ⟨_, rfl⟩
        obtain ⟨dd, hdd⟩ : ∃ dd, tb b1 3 = dd := ⟨_, rfl⟩
        have hv : (bits BinOp.and IntKind.i64 (b1 : Int) 128 != 0) = vv := by rw [← hvv]; exact and_tb b1 7 h1 (by omega)
        have hd : (bits BinOp.and IntKind.i64 (b1 : Int) 8 != 0) = dd := by rw [← hdd]; exact and_tb b1 3 h1 (by omega)
        have cv : wr.cell? ⟨c, 4, none⟩ = some (.bool false) := HX.out.cell (i := 4) (by omega)
        have fv := World.rowIs.frozen HX.out 4
        have hx1 := World.rowIs.set HX.out 4 (.bool vv)
        have cd : (wr.setCell ⟨c, 4, none⟩ (.bool vv)).cell? ⟨c, 8, none⟩ = some (.bool false) := hx1.cell (i := 8) (by omega)
        have fd := World.rowIs.frozen hx1 8
        have hx2 := World.rowIs.set hx1 8 (.bool dd)
        have HX2 : Hid (((wr.setCell ⟨c, 4, none⟩ (.bool vv)).setCell ⟨c, 8, none⟩ (.bool dd)).rowIs c 44 10 (slC (pSi b0 b1 b2 (3 + 1)))) := Lib.hid (hx2.congr fun j hj => by
          rcases (show j = 0 ∨ j = 1 ∨ j = 2 ∨ j = 3 ∨ j = 4 ∨ j = 5 ∨ j = 6 ∨ j = 7 ∨ j = 8 ∨ j = 9 by omega) with rfl | rfl | rfl | rfl | rfl | rfl | rfl | rfl | rfl | rfl <;> first | rfl | (rw [← hvv]; rfl) | (rw [← hdd]; rfl))
        have e1' : ((wr.setCell ⟨c, 4, none⟩ (.bool vv)).setCell ⟨c, 8, none⟩ (.bool dd)).cell? ⟨c, 4, none⟩ = some (.bool vv) := (HX2.out.cell (i := 4) (by omega)).trans (by rw [← hvv]; rfl)
        have e2' : ((wr.setCell ⟨c, 4, none⟩ (.bool vv)).setCell ⟨c, 8, none⟩ (.bool dd)).cell? ⟨c, 8, none⟩ = some (.bool dd) := (HX2.out.cell (i := 8) (by omega)).trans (by rw [← hdd]; rfl)
        have hoth : ∀ q, q ≠ c → ((wr.setCell ⟨c, 4, none⟩ (.bool vv)).setCell ⟨c, 8, none⟩ (.bool dd)).heap[q]? = wr.heap[q]? := fun q hq => (Below.heap_setCell _ ⟨c, 8, none⟩ _ q hq).trans (Below.heap_setCell wr ⟨c, 4, none⟩ _ q hq)
        have HR2 := Lib.hid (HR.out.same (hoth rb hrc) (by simp))
        have hra2 := (hoth a hac).trans HA.out
        have HG2 := Lib.hid (only_setCell (only_setCell HG.out (p := ⟨c, 4, none⟩) (Or.inr hcw) (.bool vv)) (p := ⟨c, 8, none⟩) (Or.inr hcw) (.bool dd))
        have HJ2 : Hid (dd = true → vv = true → ∀ j, j < 3 + 1 → tb b1 j = true → tb b1 (4 + j) = true) := Lib.hid (fun h1 h2 j hj hh => by
          by_cases e : j = 3
          · subst e; rw [← hvv] at h2; exact h2
          · exact HJ.out j (by omega) hh)
        have HJ3 : Hid (dd = false → ∀ j, j < 3 + 1 → tb b1 j = true → tb b1 (4 + j) = true) := Lib.hid (fun h1 j hj hh => by
          by_cases e : j = 3
          · subst e; rw [hdd, h1] at hh; exact absurd hh (by simp)
          · exact HJ.out j (by omega) hh)
        have HOKF : Hid (dd = true → vv = false → okP b0 b1 b2 b3 = false) := Lib.hid (fun h1 h2 => by
          rw [← hdd] at h1
          rw [← hvv] at h2
          unfold okP dvB
          rw [h1, h2]
          simp)
        clear hx1 hx2 hoth hvv hdd HX HR HA HG HJ
        generalize hw2 : ((wr.setCell ⟨c, 4, none⟩ (.bool vv)).setCell ⟨c, 8, none⟩ (.bool dd)) = w9 at *
        have hcase : (dd = true ∧ vv = false) ∨ (dd = true ∧ vv = true) ∨ dd = false := by cases dd <;> cases vv <;> simp
        rcases hcase with ⟨rfl, rfl⟩ | ⟨rfl, rfl⟩ | rfl
        · have hof := HOKF.out rfl rfl
          rw [ho.out] at hof
          have HOF := Lib.hid hof
          have HF2 := Lib.hid (only_setRow HG2.out haw #[.int .i64 0, .bool false, .bool false, .bool false, .bool false, .bool false, .bool false, .bool false, .bool false, .int .i64 0])
          clear hof
          go_upto_region 10 with fail
          try rw [hw2]
          go_wp2_with (refine wpList_store_row rfl _ _ _ rfl a #[.int .i64 0, .bool false, .bool false, .bool false, .bool false, .bool false, .bool false, .bool false, .bool false, .int .i64 0] rfl rfl 44 #[.int .i64 0, .bool false, .bool false, .bool false, .bool false, .bool false, .bool false, .bool false, .bool false, .int .i64 0] hra2 (by kernel_rfl) (by rfl) (by simp [Value.oneCell']) ?_)
          refine bodyPost_ret_by (results_ct rfl _ _ a 44 #[.int .i64 0, .bool false, .bool false, .bool false, .bool false, .bool false, .bool false, .bool false, .bool false, .int .i64 0] (0, 0) _ rfl (setRow_heap _ _ _ _ 44 (0, 0) hra2) Try.underlying44 rfl (by kernel_rfl)) rfl ⟨zeS, by rw [HOF.out]; rfl, fun h => absurd (HOF.out.symm.trans h) (by simp), HF2.out⟩
        · have HJ4 := Lib.hid (HJ2.out rfl rfl)
          go_upto_region 10 with fail
          try rw [hw2]
          go_wp2_with fail
          go_roundw
          case rel => exact ⟨3 + 1, rfl, by omega, HX2, HR2, Lib.hid hra2, HG2, HJ4⟩
          case measure => simp [intOf]
        · have HJ4 := Lib.hid (HJ3.out rfl)
          go_upto_region 10 with fail
          try rw [hw2]
          go_wp2_with fail
          go_roundw
          case rel => exact ⟨3 + 1, rfl, by omega, HX2, HR2, Lib.hid hra2, HG2, HJ4⟩
          case measure => simp [intOf]
    · obtain rfl : i = 4 := by omega
      rw [show ((4 : Nat) : Int) = 4 from rfl]
      have hdv : dvB b1 = true := by
        have j0 := HJ.out 0 (by omega)
        have j1 := HJ.out 1 (by omega)
        have j2 := HJ.out 2 (by omega)
        have j3 := HJ.out 3 (by omega)
        unfold dvB
        cases hq0 : tb b1 0 <;> cases hq1 : tb b1 1 <;> cases hq2 : tb b1 2 <;> cases hq3 : tb b1 3 <;> simp_all
      obtain ⟨P, hP⟩ : ∃ P, pS b0 b1 b2 = P := ⟨_, rfl⟩
      have hX : wr.rowIs c 44 10 (slC P) := by rw [← hP]; exact HX.out
      have x10 : wr.cell? ⟨c, 0, none⟩ = some (.int .i64 P.g) ∧ wr.cell? ⟨c, 1, none⟩ = some (.bool P.v0) ∧ wr.cell? ⟨c, 2, none⟩ = some (.bool P.v1) ∧ wr.cell? ⟨c, 3, none⟩ = some (.bool P.v2) ∧ wr.cell? ⟨c, 4, none⟩ = some (.bool P.v3) ∧ wr.cell? ⟨c, 5, none⟩ = some (.bool P.d0) ∧ wr.cell? ⟨c, 6, none⟩ = some (.bool P.d1) ∧ wr.cell? ⟨c, 7, none⟩ = some (.bool P.d2) ∧ wr.cell? ⟨c, 8, none⟩ = some (.bool P.d3) ∧ wr.cell? ⟨c, 9, none⟩ = some (.int .i64 P.l) := ⟨hX.cell (i := 0) (by omega), hX.cell (i := 1) (by omega), hX.cell (i := 2) (by omega), hX.cell (i := 3) (by omega), hX.cell (i := 4) (by omega), hX.cell (i := 5) (by omega), hX.cell (i := 6) (by omega), hX.cell (i := 7) (by omega), hX.cell (i := 8) (by omega), hX.cell (i := 9) (by omega)⟩
      have hcl := World.rowIs.lt hX
      have C3 := Lib.hid (CN3.out wr HR.out)
      have hOK : okP b0 b1 b2 b3 = (decide (b3 = 0) && decide (b0 ≤ 16) && decide (b2 < 4) && (decide (b0 ≠ 0) || decide (P = frS))) := by unfold okP; rw [hdv, hP]; simp
      rw [ho.out] at hOK
      have HP := Lib.hid hP
      clear hX HX hP CN3
      go_wp2_with fail
      refine C3.out.mono ?_
      rintro e w2 ⟨rfl, r2, k2⟩
      have HRF : Hid (Rd w2 rb s ((4 * k + 4 : Nat) : Int)) := Lib.hid r2
      have HGF := Lib.hid (only_trans HG.out k2)
      have hra := (k2.block a (Array.getElem?_eq_some_iff.1 HA.out).1 (by simpa using har)).trans HA.out
      replace x10 : w2.cell? ⟨c, 0, none⟩ = some (.int .i64 P.g) ∧ w2.cell? ⟨c, 1, none⟩ = some (.bool P.v0) ∧ w2.cell? ⟨c, 2, none⟩ = some (.bool P.v1) ∧ w2.cell? ⟨c, 3, none⟩ = some (.bool P.v2) ∧ w2.cell? ⟨c, 4, none⟩ = some (.bool P.v3) ∧ w2.cell? ⟨c, 5, none⟩ = some (.bool P.d0) ∧ w2.cell? ⟨c, 6, none⟩ = some (.bool P.d1) ∧ w2.cell? ⟨c, 7, none⟩ = some (.bool P.d2) ∧ w2.cell? ⟨c, 8, none⟩ = some (.bool P.d3) ∧ w2.cell? ⟨c, 9, none⟩ = some (.int .i64 P.l) := ten_block (k2.block c hcl (by simpa using fun e => hrc e.symm)) x10
      clear r2 k2 HG HA HR C3 hcl
      have hc4 : (b3 ≠ 0) ∨ (b3 = 0 ∧ 16 < b0) ∨ (b3 = 0 ∧ b0 ≤ 16 ∧ 4 ≤ b2) ∨ (b3 = 0 ∧ b0 ≤ 16 ∧ b2 < 4) := by omega
      rcases hc4 with u1 | ⟨rfl, u2⟩ | ⟨rfl, u2, u3⟩ | ⟨rfl, u2, u3⟩
      · have t1 : ¬ (b3 : Int) = 0 := by omega
        have HOF : Hid (o = false) := Lib.hid (by rw [hOK]; simp [u1])
        have HF2 := Lib.hid (only_setRow HGF.out haw #[.int .i64 0, .bool false, .bool false, .bool false, .bool false, .bool false, .bool false, .bool false, .bool false, .int .i64 0])
        clear hOK
        go_wp2_with (refine wpList_store_row rfl _ _ _ rfl a #[.int .i64 0, .bool false, .bool false, .bool false, .bool false, .bool false, .bool false, .bool false, .bool false, .int .i64 0] rfl rfl 44 #[.int .i64 0, .bool false, .bool false, .bool false, .bool false, .bool false, .bool false, .bool false, .bool false, .int .i64 0] hra (by kernel_rfl) (by rfl) (by simp [Value.oneCell']) ?_)
        refine bodyPost_ret_by (results_ct rfl _ _ a 44 #[.int .i64 0, .bool false, .bool false, .bool false, .bool false, .bool false, .bool false, .bool false, .bool false, .int .i64 0] (0, 0) _ rfl (setRow_heap _ _ _ _ 44 (0, 0) hra) Try.underlying44 rfl (by kernel_rfl)) rfl ⟨zeS, by rw [HOF.out]; rfl, fun h => absurd (HOF.out.symm.trans h) (by simp), HF2.out⟩
      · have t2 : (16 : Int) < (b0 : Int) := by omega
        have HOF : Hid (o = false) := Lib.hid (by rw [hOK]; simp; omega)
        have HF2 := Lib.hid (only_setRow HGF.out haw #[.int .i64 0, .bool false, .bool false, .bool false, .bool false, .bool false, .bool false, .bool false, .bool false, .int .i64 0])
        clear hOK
        rw [show ((0 : Nat) : Int) = 0 from rfl]
        go_wp2_with (refine wpList_store_row rfl _ _ _ rfl a #[.int .i64 0, .bool false, .bool false, .bool false, .bool false, .bool false, .bool false, .bool false, .bool false, .int .i64 0] rfl rfl 44 #[.int .i64 0, .bool false, .bool false, .bool false, .bool false, .bool false, .bool false, .bool false, .bool false, .int .i64 0] hra (by kernel_rfl) (by rfl) (by simp [Value.oneCell']) ?_)
        refine bodyPost_ret_by (results_ct rfl _ _ a 44 #[.int .i64 0, .bool false, .bool false, .bool false, .bool false, .bool false, .bool false, .bool false, .bool false, .int .i64 0] (0, 0) _ rfl (setRow_heap _ _ _ _ 44 (0, 0) hra) Try.underlying44 rfl (by kernel_rfl)) rfl ⟨zeS, by rw [HOF.out]; rfl, fun h => absurd (HOF.out.symm.trans h) (by simp), HF2.out⟩
      · have t2 : ¬ (16 : Int) < (b0 : Int) := by omega
        have t3 : (4 : Int) ≤ (b2 : Int) := by omega
        have HOF : Hid (o = false) := Lib.hid (by rw [hOK]; simp; omega)
        have HF2 := Lib.hid (only_setRow HGF.out haw #[.int .i64 0, .bool false, .bool false, .bool false, .bool false, .bool false, .bool false, .bool false, .bool false, .int .i64 0])
        clear hOK
        rw [show ((0 : Nat) : Int) = 0 from rfl]
        go_wp2_with (refine wpList_store_row rfl _ _ _ rfl a #[.int .i64 0, .bool false, .bool false, .bool false, .bool false, .bool false, .bool false, .bool false, .bool false, .int .i64 0] rfl rfl 44 #[.int .i64 0, .bool false, .bool false, .bool false, .bool false, .bool false, .bool false, .bool false, .bool false, .int .i64 0] hra (by kernel_rfl) (by rfl) (by simp [Value.oneCell']) ?_)
        refine bodyPost_ret_by (results_ct rfl _ _ a 44 #[.int .i64 0, .bool false, .bool false, .bool false, .bool false, .bool false, .bool false, .bool false, .bool false, .int .i64 0] (0, 0) _ rfl (setRow_heap _ _ _ _ 44 (0, 0) hra) Try.underlying44 rfl (by kernel_rfl)) rfl ⟨zeS, by rw [HOF.out]; rfl, fun h => absurd (HOF.out.symm.trans h) (by simp), HF2.out⟩
      · have t2 : ¬ (16 : Int) < (b0 : Int) := by omega
        have t3 : ¬ (4 : Int) ≤ (b2 : Int) := by omega
        rw [show ((0 : Nat) : Int) = 0 from rfl]
        by_cases hb00 : b0 = 0
        · subst hb00
          rw [show ((0 : Nat) : Int) = 0 from rfl]
          have HOT : Hid (o = decide (P = frS)) := Lib.hid (by rw [hOK]; simp [u3])
          clear hOK
          go_upto_region 16 with fail
          refine wp_region_lin (S := (fun w' => w'.cell? ⟨c, 0, none⟩ = some (.int .i64 P.g) ∧ w'.cell? ⟨c, 1, none⟩ = some (.bool P.v0) ∧ w'.cell? ⟨c, 2, none⟩ = some (.bool P.v1) ∧ w'.cell? ⟨c, 3, none⟩ = some (.bool P.v2) ∧ w'.cell? ⟨c, 4, none⟩ = some (.bool P.v3) ∧ w'.cell? ⟨c, 5, none⟩ = some (.bool P.d0) ∧ w'.cell? ⟨c, 6, none⟩ = some (.bool P.d1) ∧ w'.cell? ⟨c, 7, none⟩ = some (.bool P.d2) ∧ w'.cell? ⟨c, 8, none⟩ = some (.bool P.d3) ∧ w'.cell? ⟨c, 9, none⟩ = some (.int .i64 P.l))) [(0, true), (1, true), (2, true), (3, true), (4, true), (5, false), (6, true), (7, false), (8, true)] (by kernel_rfl) (by kernel_rfl) rfl (by kernel_rfl) ?_ (fun hHeld => ?_)
          · (try dsimp only); exact x10
          have HGD : Hid (w.grownBy w2.drew (some rb)) := Lib.hid (only_drew HGF.out)
          have hrD : w2.drew.heap[a]? = some (.cells #[.int .i64 0, .bool false, .bool false, .bool false, .bool false, .bool false, .bool false, .bool false, .bool false, .int .i64 0] 44 (0, 0)) := hra
          have HRD := Lib.hid HRF.out.drew
          clear x10 hra HGF HRF
          generalize World.drew w2 = w6 at hHeld HGD hrD HRD ⊢
          refine wpL_calm (o := { dst := some 85, op := Go.Op.load 44 (Go.Operand.tmp 10), type := 44, pos := "slots.go:82", after := #[], guard := none }) (v := ?_) rfl (Or.inl ⟨by rfl, ?_⟩) ?_; rotate_left; (focus (intro w hSw; (try dsimp only at hSw); go_simp; (try (with_reducible rfl)); done)); try simp only [Act.put, List.setIfInBounds_toArray, List.set_cons_zero, List.set_cons_succ]
          refine wpL_calm (o := { dst := some 86, op := Go.Op.move (Go.Operand.tmp 4), type := 3, pos := "slots.go:82", after := #[], guard := none }) (v := ?_) rfl (Or.inl ⟨by rfl, ?_⟩) ?_; rotate_left; (focus (intro w hSw; (try dsimp only at hSw); go_simp; (try (with_reducible rfl)); done)); try simp only [Act.put, List.setIfInBounds_toArray, List.set_cons_zero, List.set_cons_succ]
          refine wpL_calm (o := { dst := some 87, op := Go.Op.binOp Go.BinOp.neq 3 (Go.Operand.tmp 86) (Go.Operand.const (Go.Value.int Go.IntKind.i64 0)) 3, type := 4, pos := "slots.go:82", after := #[{ on := 1, ground := Go.Ground.data }], guard := none }) (v := ?_) rfl (Or.inl ⟨by rfl, ?_⟩) ?_; rotate_left; (focus (intro w hSw; (try dsimp only at hSw); go_simp; (try (with_reducible rfl)); done)); try simp only [Act.put, List.setIfInBounds_toArray, List.set_cons_zero, List.set_cons_succ]
          refine wpL_calm (o := { dst := some 88, op := Go.Op.move (Go.Operand.tmp 87), type := 4, pos := "slots.go:82", after := #[{ on := 2, ground := Go.Ground.data }], guard := none }) (v := ?_) rfl (Or.inl ⟨by rfl, ?_⟩) ?_; rotate_left; (focus (intro w hSw; (try dsimp only at hSw); go_simp; (try (with_reducible rfl)); done)); try simp only [Act.put, List.setIfInBounds_toArray, List.set_cons_zero, List.set_cons_succ]
          refine wpL_calm (o := { dst := some 89, op := Go.Op.load 44 (Go.Operand.tmp 10), type := 44, pos := "slots.go:82", after := #[{ on := 3, ground := Go.Ground.guard }], guard := some (3, false) }) (v := ?_) rfl (Or.inl ⟨by rfl, ?_⟩) ?_; rotate_left; (focus (intro w hSw; (try dsimp only at hSw); go_simp; (try (with_reducible rfl)); done)); try simp only [Act.put, List.setIfInBounds_toArray, List.set_cons_zero, List.set_cons_succ]
          refine wpL_loud1 (o := { dst := some 90, op := Go.Op.call { callee := Go.Callee.value (Go.Operand.func 35), args := #[Go.Operand.tmp 89], argTypes := #[44] }, type := 4, pos := "slots.go:82", after := #[{ on := 4, ground := Go.Ground.data }, { on := 3, ground := Go.Ground.chain }, { on := 3, ground := Go.Ground.guard }], guard := some (3, false) }) rfl (fun K hK => ?_)
          (go_simp; go_at_call 35; refine (isFree_any P w6).mono ?_; rintro e w7 ⟨rfl, b7⟩; have x7 := ten_below b7 hHeld; have hr7 := (b7.block a (Array.getElem?_eq_some_iff.1 hrD).1).trans hrD; have HG7 := Lib.hid (only_trans HGD.out (only_below b7 (some rb))); have HR7 := Lib.hid (HRD.out.below b7))
          try go_wp2_with fail
          refine hK.out _ _ ?_ (fun hHeld => ?_)
          · (try dsimp only); exact x7
          clear hK K
          try simp only [Act.put, List.setIfInBounds_toArray, List.set_cons_zero, List.set_cons_succ]
          refine wpL_calm (o := { dst := some 91, op := Go.Op.pick (Go.Operand.tmp 88) (Go.Operand.const (Go.Value.bool true)) (Go.Operand.tmp 90), type := 4, pos := "slots.go:82", after := #[{ on := 3, ground := Go.Ground.data }, { on := 5, ground := Go.Ground.data }, { on := 7, ground := Go.Ground.gcOnly Go.Departure.lateStores }], guard := none }) (v := ?_) rfl (Or.inl ⟨by rfl, ?_⟩) ?_; rotate_left; (focus (intro w hSw; (try dsimp only at hSw); go_simp; (try (with_reducible rfl)); done)); try simp only [Act.put, List.setIfInBounds_toArray, List.set_cons_zero, List.set_cons_succ]
          refine wpL_loud1 (o := { dst := none, op := Go.Op.store 44 (Go.Operand.tmp 2) (Go.Operand.tmp 85), type := 0, pos := "slots.go:82", after := #[{ on := 0, ground := Go.Ground.data }, { on := 5, ground := Go.Ground.chain }, { on := 0, ground := Go.Ground.phase }, { on := 1, ground := Go.Ground.textOnly Go.Departure.lateStores }, { on := 2, ground := Go.Ground.textOnly Go.Departure.lateStores }, { on := 3, ground := Go.Ground.textOnly Go.Departure.lateStores }, { on := 4, ground := Go.Ground.textOnly Go.Departure.lateStores }, { on := 5, ground := Go.Ground.textOnly Go.Departure.lateStoresUnsure }, { on := 6, ground := Go.Ground.textOnly Go.Departure.lateStores }], guard := none }) rfl (fun K hK => ?_)
          (rw [if_pos (by rfl)]; refine wp_store_row 44 _ _ rfl a #[.int .i64 P.g, .bool P.v0, .bool P.v1, .bool P.v2, .bool P.v3, .bool P.d0, .bool P.d1, .bool P.d2, .bool P.d3, .int .i64 P.l] rfl rfl 44 #[.int .i64 0, .bool false, .bool false, .bool false, .bool false, .bool false, .bool false, .bool false, .bool false, .int .i64 0] hr7 (by kernel_rfl) (by rfl) (by simp [Value.oneCell']) ?_; have y10 := ten_block (setRow_other w7 a c #[.int .i64 P.g, .bool P.v0, .bool P.v1, .bool P.v2, .bool P.v3, .bool P.d0, .bool P.d1, .bool P.d2, .bool P.d3, .int .i64 P.l] (fun e => hac e.symm)) x7)
          refine hK.out _ _ ?_ (fun hHeld => ?_)
          · (try dsimp only); exact y10
          clear hK K
          try simp only [Act.put, List.setIfInBounds_toArray, List.set_cons_zero, List.set_cons_succ]
          refine wpL_calm (o := { dst := some 3, op := Go.Op.assign (Go.Operand.tmp 91), type := 4, pos := "slots.go:82", after := #[{ on := 6, ground := Go.Ground.data }, { on := 7, ground := Go.Ground.chain }, { on := 0, ground := Go.Ground.phase }, { on := 1, ground := Go.Ground.phase }, { on := 2, ground := Go.Ground.phase }, { on := 3, ground := Go.Ground.phase }, { on := 4, ground := Go.Ground.phase }, { on := 5, ground := Go.Ground.phase }, { on := 6, ground := Go.Ground.phase }, { on := 7, ground := Go.Ground.phase }], guard := none }) (v := ?_) rfl (Or.inl ⟨by rfl, ?_⟩) ?_; rotate_left; (focus (intro w hSw; (try dsimp only at hSw); go_simp; (try (with_reducible rfl)); done)); try simp only [Act.put, List.setIfInBounds_toArray, List.set_cons_zero, List.set_cons_succ]
          refine wpL_nil ?_
          refine NoPanic.normal ?_
          have HF2 := Lib.hid (only_setRow HG7.out haw #[.int .i64 P.g, .bool P.v0, .bool P.v1, .bool P.v2, .bool P.v3, .bool P.d0, .bool P.d1, .bool P.d2, .bool P.d3, .int .i64 P.l])
          have HR8 := Lib.hid (HR7.out.same (setRow_other w7 a rb #[.int .i64 P.g, .bool P.v0, .bool P.v1, .bool P.v2, .bool P.v3, .bool P.d0, .bool P.d1, .bool P.d2, .bool P.d3, .int .i64 P.l] (fun e => har e.symm)) (by simp [World.setRow]))
          have hr8 := setRow_heap w7 a _ #[.int .i64 P.g, .bool P.v0, .bool P.v1, .bool P.v2, .bool P.v3, .bool P.d0, .bool P.d1, .bool P.d2, .bool P.d3, .int .i64 P.l] 44 (0, 0) hr7
          go_wp2_with fail
          refine bodyPost_ret_by (results_ct rfl _ _ a 44 #[.int .i64 P.g, .bool P.v0, .bool P.v1, .bool P.v2, .bool P.v3, .bool P.d0, .bool P.d1, .bool P.d2, .bool P.d3, .int .i64 P.l] (0, 0) _ rfl hr8 Try.underlying44 rfl (by kernel_rfl)) rfl ⟨P, by rw [HOT.out]; rfl, fun _ => ⟨HP.out.symm, HR8.out⟩, HF2.out⟩
        · have t4 : ¬ (b0 : Int) = 0 := by omega
          have HOT : Hid (o = true) := Lib.hid (by rw [hOK]; simp [u2, u3, hb00])
          clear hOK
          go_upto_region 16 with fail
          refine wp_region_lin (S := (fun w' => w'.cell? ⟨c, 0, none⟩ = some (.int .i64 P.g) ∧ w'.cell? ⟨c, 1, none⟩ = some (.bool P.v0) ∧ w'.cell? ⟨c, 2, none⟩ = some (.bool P.v1) ∧ w'.cell? ⟨c, 3, none⟩ = some (.bool P.v2) ∧ w'.cell? ⟨c, 4, none⟩ = some (.bool P.v3) ∧ w'.cell? ⟨c, 5, none⟩ = some (.bool P.d0) ∧ w'.cell? ⟨c, 6, none⟩ = some (.bool P.d1) ∧ w'.cell? ⟨c, 7, none⟩ = some (.bool P.d2) ∧ w'.cell? ⟨c, 8, none⟩ = some (.bool P.d3) ∧ w'.cell? ⟨c, 9, none⟩ = some (.int .i64 P.l))) [(0, true), (1, true), (2, true), (3, true), (4, true), (5, false), (6, true), (7, false), (8, true)] (by kernel_rfl) (by kernel_rfl) rfl (by kernel_rfl) ?_ (fun hHeld => ?_)
          · (try dsimp only); exact x10
          have HGD : Hid (w.grownBy w2.drew (some rb)) := Lib.hid (only_drew HGF.out)
          have hrD : w2.drew.heap[a]? = some (.cells #[.int .i64 0, .bool false, .bool false, .bool false, .bool false, .bool false, .bool false, .bool false, .bool false, .int .i64 0] 44 (0, 0)) := hra
          have HRD := Lib.hid HRF.out.drew
          clear x10 hra HGF HRF
          generalize World.drew w2 = w6 at hHeld HGD hrD HRD ⊢
          refine wpL_calm (o := { dst := some 85, op := Go.Op.load 44 (Go.Operand.tmp 10), type := 44, pos := "slots.go:82", after := #[], guard := none }) (v := ?_) rfl (Or.inl ⟨by rfl, ?_⟩) ?_; rotate_left; (focus (intro w hSw; (try dsimp only at hSw); go_simp; (try (with_reducible rfl)); done)); try simp only [Act.put, List.setIfInBounds_toArray, List.set_cons_zero, List.set_cons_succ]
          refine wpL_calm (o := { dst := some 86, op := Go.Op.move (Go.Operand.tmp 4), type := 3, pos := "slots.go:82", after := #[], guard := none }) (v := ?_) rfl (Or.inl ⟨by rfl, ?_⟩) ?_; rotate_left; (focus (intro w hSw; (try dsimp only at hSw); go_simp; (try (with_reducible rfl)); done)); try simp only [Act.put, List.setIfInBounds_toArray, List.set_cons_zero, List.set_cons_succ]
          refine wpL_calm (o := { dst := some 87, op := Go.Op.binOp Go.BinOp.neq 3 (Go.Operand.tmp 86) (Go.Operand.const (Go.Value.int Go.IntKind.i64 0)) 3, type := 4, pos := "slots.go:82", after := #[{ on := 1, ground := Go.Ground.data }], guard := none }) (v := .bool true) rfl (Or.inl ⟨by rfl, ?_⟩) ?_; (focus (intro w' hSw; (try dsimp only at hSw); go_simp; (first | done | (simp [t4]; done) | (trace_state; fail))))
          try simp only [Act.put, List.setIfInBounds_toArray, List.set_cons_zero, List.set_cons_succ]
          refine wpL_calm (o := { dst := some 88, op := Go.Op.move (Go.Operand.tmp 87), type := 4, pos := "slots.go:82", after := #[{ on := 2, ground := Go.Ground.data }], guard := none }) (v := ?_) rfl (Or.inl ⟨by rfl, ?_⟩) ?_; rotate_left; (focus (intro w hSw; (try dsimp only at hSw); go_simp; (try (with_reducible rfl)); done)); try simp only [Act.put, List.setIfInBounds_toArray, List.set_cons_zero, List.set_cons_succ]
          refine wpL_calm (o := { dst := some 89, op := Go.Op.load 44 (Go.Operand.tmp 10), type := 44, pos := "slots.go:82", after := #[{ on := 3, ground := Go.Ground.guard }], guard := some (3, false) }) (v := undef) rfl (Or.inr ⟨by rfl, rfl⟩) ?_; try simp only [Act.put, List.setIfInBounds_toArray, List.set_cons_zero, List.set_cons_succ]
          refine wpL_loud1 (o := { dst := some 90, op := Go.Op.call { callee := Go.Callee.value (Go.Operand.func 35), args := #[Go.Operand.tmp 89], argTypes := #[44] }, type := 4, pos := "slots.go:82", after := #[{ on := 4, ground := Go.Ground.data }, { on := 3, ground := Go.Ground.chain }, { on := 3, ground := Go.Ground.guard }], guard := some (3, false) }) rfl (fun K hK => ?_)
          (go_simp; have x7 := hHeld; have hr7 := hrD; have HG7 := HGD; have HR7 := HRD; generalize w6 = w7 at *)
          try go_wp2_with fail
          refine hK.out _ _ ?_ (fun hHeld => ?_)
          · (try dsimp only); exact x7
          clear hK K
          try simp only [Act.put, List.setIfInBounds_toArray, List.set_cons_zero, List.set_cons_succ]
          refine wpL_calm (o := { dst := some 91, op := Go.Op.pick (Go.Operand.tmp 88) (Go.Operand.const (Go.Value.bool true)) (Go.Operand.tmp 90), type := 4, pos := "slots.go:82", after := #[{ on := 3, ground := Go.Ground.data }, { on := 5, ground := Go.Ground.data }, { on := 7, ground := Go.Ground.gcOnly Go.Departure.lateStores }], guard := none }) (v := ?_) rfl (Or.inl ⟨by rfl, ?_⟩) ?_; rotate_left; (focus (intro w hSw; (try dsimp only at hSw); go_simp; (try (with_reducible rfl)); done)); try simp only [Act.put, List.setIfInBounds_toArray, List.set_cons_zero, List.set_cons_succ]
          refine wpL_loud1 (o := { dst := none, op := Go.Op.store 44 (Go.Operand.tmp 2) (Go.Operand.tmp 85), type := 0, pos := "slots.go:82", after := #[{ on := 0, ground := Go.Ground.data }, { on := 5, ground := Go.Ground.chain }, { on := 0, ground := Go.Ground.phase }, { on := 1, ground := Go.Ground.textOnly Go.Departure.lateStores }, { on := 2, ground := Go.Ground.textOnly Go.Departure.lateStores }, { on := 3, ground := Go.Ground.textOnly Go.Departure.lateStores }, { on := 4, ground := Go.Ground.textOnly Go.Departure.lateStores }, { on := 5, ground := Go.Ground.textOnly Go.Departure.lateStoresUnsure }, { on := 6, ground := Go.Ground.textOnly Go.Departure.lateStores }], guard := none }) rfl (fun K hK => ?_)
          (rw [if_pos (by rfl)]; refine wp_store_row 44 _ _ rfl a #[.int .i64 P.g, .bool P.v0, .bool P.v1, .bool P.v2, .bool P.v3, .bool P.d0, .bool P.d1, .bool P.d2, .bool P.d3, .int .i64 P.l] rfl rfl 44 #[.int .i64 0, .bool false, .bool false, .bool false, .bool false, .bool false, .bool false, .bool false, .bool false, .int .i64 0] hr7 (by kernel_rfl) (by rfl) (by simp [Value.oneCell']) ?_; have y10 := ten_block (setRow_other w7 a c #[.int .i64 P.g, .bool P.v0, .bool P.v1, .bool P.v2, .bool P.v3, .bool P.d0, .bool P.d1, .bool P.d2, .bool P.d3, .int .i64 P.l] (fun e => hac e.symm)) x7)
          refine hK.out _ _ ?_ (fun hHeld => ?_)
          · (try dsimp only); exact y10
          clear hK K
          try simp only [Act.put, List.setIfInBounds_toArray, List.set_cons_zero, List.set_cons_succ]
          refine wpL_calm (o := { dst := some 3, op := Go.Op.assign (Go.Operand.tmp 91), type := 4, pos := "slots.go:82", after := #[{ on := 6, ground := Go.Ground.data }, { on := 7, ground := Go.Ground.chain }, { on := 0, ground := Go.Ground.phase }, { on := 1, ground := Go.Ground.phase }, { on := 2, ground := Go.Ground.phase }, { on := 3, ground := Go.Ground.phase }, { on := 4, ground := Go.Ground.phase }, { on := 5, ground := Go.Ground.phase }, { on := 6, ground := Go.Ground.phase }, { on := 7, ground := Go.Ground.phase }], guard := none }) (v := ?_) rfl (Or.inl ⟨by rfl, ?_⟩) ?_; rotate_left; (focus (intro w hSw; (try dsimp only at hSw); go_simp; (try (with_reducible rfl)); done)); try simp only [Act.put, List.setIfInBounds_toArray, List.set_cons_zero, List.set_cons_succ]
          refine wpL_nil ?_
          refine NoPanic.normal ?_
          have HF2 := Lib.hid (only_setRow HG7.out haw #[.int .i64 P.g, .bool P.v0, .bool P.v1, .bool P.v2, .bool P.v3, .bool P.d0, .bool P.d1, .bool P.d2, .bool P.d3, .int .i64 P.l])
          have HR8 := Lib.hid (HR7.out.same (setRow_other w7 a rb #[.int .i64 P.g, .bool P.v0, .bool P.v1, .bool P.v2, .bool P.v3, .bool P.d0, .bool P.d1, .bool P.d2, .bool P.d3, .int .i64 P.l] (fun e => har e.symm)) (by simp [World.setRow]))
          have hr8 := setRow_heap w7 a _ #[.int .i64 P.g, .bool P.v0, .bool P.v1, .bool P.v2, .bool P.v3, .bool P.d0, .bool P.d1, .bool P.d2, .bool P.d3, .int .i64 P.l] 44 (0, 0) hr7
          go_wp2_with fail
          refine bodyPost_ret_by (results_ct rfl _ _ a 44 #[.int .i64 P.g, .bool P.v0, .bool P.v1, .bool P.v2, .bool P.v3, .bool P.d0, .bool P.d1, .bool P.d2, .bool P.d3, .int .i64 P.l] (0, 0) _ rfl hr8 Try.underlying44 rfl (by kernel_rfl)) rfl ⟨P, by rw [HOT.out]; rfl, fun _ => ⟨HP.out.symm, HR8.out⟩, HF2.out⟩
end Go.Proofs.Ythhgodfgigcacaa
