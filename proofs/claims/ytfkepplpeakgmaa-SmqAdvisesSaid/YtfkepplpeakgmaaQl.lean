/- Package smq: SmqAdvises. -/
import Derived.Test.YtfkepplpeakgmaaQj
import Derived.Deep.MidRow
import Derived.Deep.CutRange
import Derived.Deep.RegionHeld3
import Derived.OrdersHeld
import Derived.Laws.Tables
namespace Go.Proofs.Ytfkepplpeakgmaa
open Go.RowKit Go.Deep
set_option linter.unusedVariables false
set_option linter.unusedSimpArgs false
theorem alloc_step25 {kf X : Act → World → Prop} {S : World → Prop} {a : Act} {W : World} {o : Obj} (hK : Shut (∀ a w, S w → (S w → X a w) → kf a w)) (hS : S (W.alloc o)) (h : ∀ W' : World, Hid (W' = W.alloc o) → W'.heap[W.heap.size]? = some o → S W' → X a W') : kf a (W.alloc o) :=
  hK.out _ _ hS (fun h1 => h _ (Lib.hid rfl) (heap_alloc_new _ _) h1)
theorem any_step25 {kf X : Act → World → Prop} {S : World → Prop} {a : Act} {W : World} (hK : Shut (∀ a w, S w → (S w → X a w) → kf a w)) (hS : S W) (h : ∀ W' : World, Hid (W' = W) → S W' → X a W') : kf a W :=
  hK.out _ _ hS (fun h1 => h _ (Lib.hid rfl) h1)
theorem blk_below25 {w w' : World} {b : Nat} {o : Obj} (hb : Below w.heap.size w w') (hz : w.heap[b]? = some o) : w'.heap[b]? = some o := (hb.block b (Array.getElem?_eq_some_iff.1 hz).1).trans hz
theorem blk_lt25 {w : World} {b : Nat} {o : Obj} (hz : w.heap[b]? = some o) : b < w.heap.size := (Array.getElem?_eq_some_iff.1 hz).1
theorem below_of_alloc25 {W W' : World} {o : Obj} (h : Hid (W' = W.alloc o)) : Below W.heap.size W W' := by rw [h.out]; exact (Below.refl _ _).alloc (Nat.le_refl _) _
theorem below_setRow25 {B g : Nat} {a w : World} (h : Below B a w) (hg : B ≤ g) (cs : Array Value) : Below B a (w.setRow g cs) :=
  ⟨h.os, h.tape, h.output, by simpa [World.setRow] using h.size, fun b hb => (setRow_other w g b cs (by omega)).trans (h.block b hb)⟩
theorem size_setRow25 (w : World) (g : Nat) (cs : Array Value) : (w.setRow g cs).heap.size = w.heap.size := by simp [World.setRow]
/-- The argument's block. -/
def FourS (bx : Nat) (ao : Option Addr) (len cap : Nat) (kf mf : Nat → Bool) (draw : Int) (w : World) : Prop := w.heap[bx]? = some (.cells #[.slice ao len cap, .bool (kf 0), .bool (kf 1), .bool (kf 2), .bool (kf 3), .bool (kf 4), .bool (kf 5), .bool (kf 6), .bool (kf 7), .bool (kf 8), .bool (kf 9), .bool (kf 10), .bool (kf 11), .bool (kf 12), .bool (kf 13), .bool (kf 14), .bool (kf 15), .bool (mf 0), .bool (mf 1), .bool (mf 2), .bool (mf 3), .bool (mf 4), .bool (mf 5), .bool (mf 6), .bool (mf 7), .int .i64 draw] 36 (0, 0)) ∧ w.cell? ⟨bx, 0, none⟩ = some (.slice ao len cap) ∧ w.cell? ⟨bx, 25, none⟩ = some (.int .i64 draw)
theorem FourS.of {bx : Nat} {ao : Option Addr} {len cap : Nat} {kf mf : Nat → Bool} {draw : Int} {w : World} (h : w.heap[bx]? = some (.cells #[.slice ao len cap, .bool (kf 0), .bool (kf 1), .bool (kf 2), .bool (kf 3), .bool (kf 4), .bool (kf 5), .bool (kf 6), .bool (kf 7), .bool (kf 8), .bool (kf 9), .bool (kf 10), .bool (kf 11), .bool (kf 12), .bool (kf 13), .bool (kf 14), .bool (kf 15), .bool (mf 0), .bool (mf 1), .bool (mf 2), .bool (mf 3), .bool (mf 4), .bool (mf 5), .bool (mf 6), .bool (mf 7), .int .i64 draw] 36 (0, 0))) : FourS bx ao len cap kf mf draw w := ⟨h, row_cell25 h 0 _ rfl, row_cell25 h 25 _ rfl⟩
theorem FourS.kr {bx : Nat} {ao : Option Addr} {len cap : Nat} {kf mf : Nat → Bool} {draw : Int} {w : World} (h : FourS bx ao len cap kf mf draw w) : w.rangeAt bx 1 [.bool (kf 0), .bool (kf 1), .bool (kf 2), .bool (kf 3), .bool (kf 4), .bool (kf 5), .bool (kf 6), .bool (kf 7), .bool (kf 8), .bool (kf 9), .bool (kf 10), .bool (kf 11), .bool (kf 12), .bool (kf 13), .bool (kf 14), .bool (kf 15)] := fun j v hv => by
  have hj : j < 16 := by
    have := (List.getElem?_eq_some_iff.1 hv).1
    simpa using this
  refine row_cell25 h.1 (1 + j) v ?_
  rcases (show j = 0 ∨ j = 1 ∨ j = 2 ∨ j = 3 ∨ j = 4 ∨ j = 5 ∨ j = 6 ∨ j = 7 ∨ j = 8 ∨ j = 9 ∨ j = 10 ∨ j = 11 ∨ j = 12 ∨ j = 13 ∨ j = 14 ∨ j = 15 by omega) with rfl | rfl | rfl | rfl | rfl | rfl | rfl | rfl | rfl | rfl | rfl | rfl | rfl | rfl | rfl | rfl <;> exact hv
theorem FourS.mr {bx : Nat} {ao : Option Addr} {len cap : Nat} {kf mf : Nat → Bool} {draw : Int} {w : World} (h : FourS bx ao len cap kf mf draw w) : w.rangeAt bx 17 [.bool (mf 0), .bool (mf 1), .bool (mf 2), .bool (mf 3), .bool (mf 4), .bool (mf 5), .bool (mf 6), .bool (mf 7)] := fun j v hv => by
  have hj : j < 8 := by
    have := (List.getElem?_eq_some_iff.1 hv).1
    simpa using this
  refine row_cell25 h.1 (17 + j) v ?_
  rcases (show j = 0 ∨ j = 1 ∨ j = 2 ∨ j = 3 ∨ j = 4 ∨ j = 5 ∨ j = 6 ∨ j = 7 by omega) with rfl | rfl | rfl | rfl | rfl | rfl | rfl | rfl <;> exact hv
theorem FourS.lt {bx : Nat} {ao : Option Addr} {len cap : Nat} {kf mf : Nat → Bool} {draw : Int} {w : World} (h : FourS bx ao len cap kf mf draw w) : bx < w.heap.size := blk_lt25 h.1
theorem FourS.below {bx : Nat} {ao : Option Addr} {len cap : Nat} {kf mf : Nat → Bool} {draw : Int} {w w' : World} (h : FourS bx ao len cap kf mf draw w) (b : Below w.heap.size w w') : FourS bx ao len cap kf mf draw w' := FourS.of (blk_below25 b h.1)
theorem FourS.setRow {bx z : Nat} {ao : Option Addr} {len cap : Nat} {kf mf : Nat → Bool} {draw : Int} {w : World} {cs : Array Value} (h : FourS bx ao len cap kf mf draw w) (hz : bx ≠ z) : FourS bx ao len cap kf mf draw (w.setRow z cs) := FourS.of ((setRow_other _ _ _ _ hz).trans h.1)
theorem kap_cell {w : World} {z i : Nat} {kf : Nat → Bool} (h : w.heap[z]? = some (.cells #[.bool (kf 0), .bool (kf 1), .bool (kf 2), .bool (kf 3), .bool (kf 4), .bool (kf 5), .bool (kf 6), .bool (kf 7), .bool (kf 8), .bool (kf 9), .bool (kf 10), .bool (kf 11), .bool (kf 12), .bool (kf 13), .bool (kf 14), .bool (kf 15)] 33 (0, 0))) (hi : i < 16) : w.cell? ⟨z, i, none⟩ = some (.bool (kf i)) := by
  refine row_cell25 h i _ ?_
  rcases (show i = 0 ∨ i = 1 ∨ i = 2 ∨ i = 3 ∨ i = 4 ∨ i = 5 ∨ i = 6 ∨ i = 7 ∨ i = 8 ∨ i = 9 ∨ i = 10 ∨ i = 11 ∨ i = 12 ∨ i = 13 ∨ i = 14 ∨ i = 15 by omega) with rfl | rfl | rfl | rfl | rfl | rfl | rfl | rfl | rfl | rfl | rfl | rfl | rfl | rfl | rfl | rfl <;> rfl
theorem may_cell {w : World} {z i : Nat} {mf : Nat → Bool} (h : w.heap[z]? = some (.cells #[.bool (mf 0), .bool (mf 1), .bool (mf 2), .bool (mf 3), .bool (mf 4), .bool (mf 5), .bool (mf 6), .bool (mf 7)] 34 (0, 0))) (hi : i < 8) : w.cell? ⟨z, i, none⟩ = some (.bool (mf i)) := by
  refine row_cell25 h i _ ?_
  rcases (show i = 0 ∨ i = 1 ∨ i = 2 ∨ i = 3 ∨ i = 4 ∨ i = 5 ∨ i = 6 ∨ i = 7 by omega) with rfl | rfl | rfl | rfl | rfl | rfl | rfl | rfl <;> rfl
/-- Pick, as Promote asks it: what it comes to. -/
def PickP (R : Nat → List Nat) (kf : Nat → Bool) (draw G y E : Int) : Prop := ∀ wx ao c, IntsAt wx ao 16 (weiL R kf) → Calls Try.prog 28 #[.int .i64 draw, .slice ao 16 c] wx fun x w' => x = .returned (.tuple #[.int .i64 G, .int .i64 y, .int .i64 E]) ∧ Below wx.heap.size wx w'
theorem pick_low {R : Nat → List Nat} {kf : Nat → Bool} {draw : Int} (h : draw < 0) : PickP R kf draw 0 0 3 := fun wx ao c _ => (pick_range draw ao 16 c wx h).mono fun x w' hx => ⟨hx.1, hx.2 ▸ Below.refl _ _⟩
theorem pick_nil {R : Nat → List Nat} {kf : Nat → Bool} {draw : Int} (h : 0 ≤ draw) (hs : wsum (weiL R kf) 16 = 0) : PickP R kf draw 0 0 7 := fun wx ao c hi => pick_none hs draw h wx ao c hi
theorem pick_one {R : Nat → List Nat} {kf : Nat → Bool} {draw : Nat} (hd : draw ≤ 9223372036854775807) (hs : wsum (weiL R kf) 16 ≠ 0) : ∃ S i : Nat, wsum (weiL R kf) 16 = (S : Int) ∧ 1 ≤ S ∧ S ≤ 67108864 ∧ i < 16 ∧ PickP R kf draw i ((draw / S : Nat) : Int) 0 ∧ (wsum (weiL R kf) i ≤ ((draw % S : Nat) : Int) ∧ ((draw % S : Nat) : Int) < wsum (weiL R kf) (i + 1)) ∧ kf i = false ∧ weiK R kf i ≠ 0 := by
  have hb := wsum_bound (weiL R kf) 16 (wei_fits R kf)
  obtain ⟨S, hS⟩ : ∃ S : Nat, wsum (weiL R kf) 16 = (S : Int) := ⟨(wsum (weiL R kf) 16).toNat, by omega⟩
  have h1 : 1 ≤ S := by omega
  have hm : draw % S < S := Nat.mod_lt _ h1
  obtain ⟨i, hi, p1, p2⟩ := wsum_place (weiL R kf) 16 ((draw % S : Nat) : Int) (by omega) (by rw [hS]; omega)
  have hw : weiK R kf i ≠ 0 := by
    have e : wsum (weiL R kf) (i + 1) = wsum (weiL R kf) i + (weiL R kf).getD i 0 := rfl
    rw [weiL_get R kf hi] at e
    omega
  have hk : kf i = false := by
    cases c : kf i
    · rfl
    · exact absurd (by unfold weiK; rw [if_pos (Or.inr c)]) hw
  refine ⟨S, i, hS, h1, by omega, hi, fun wx ao c hat => ?_, ⟨p1, p2⟩, hk, hw⟩
  exact pick_ok draw S (draw % S) (draw / S) i ao 16 c (weiL R kf) wx hd (by omega) hat (Lib.hid (wei_fits R kf)) (Lib.hid hS) h1 (by omega) (Lib.hid rfl) (Lib.hid rfl) hi (Lib.hid ⟨p1, p2⟩)
set_option maxRecDepth 100000 in
set_option maxHeartbeats 16000000 in
theorem smqAdvises_any (ao : Option Addr) (len cap : Nat) (kf mf : Nat → Bool) (draw : Int) (w : World) (hl : len ≤ 9223372036854775807) (hA : ActQ w ao len) (hd1 : -9223372036854775808 ≤ draw) (hd2 : draw ≤ 9223372036854775807) : Calls Try.prog 4 #[.agg #[.slice ao len cap, .bool (kf 0), .bool (kf 1), .bool (kf 2), .bool (kf 3), .bool (kf 4), .bool (kf 5), .bool (kf 6), .bool (kf 7), .bool (kf 8), .bool (kf 9), .bool (kf 10), .bool (kf 11), .bool (kf 12), .bool (kf 13), .bool (kf 14), .bool (kf 15), .bool (mf 0), .bool (mf 1), .bool (mf 2), .bool (mf 3), .bool (mf 4), .bool (mf 5), .bool (mf 6), .bool (mf 7), .int .i64 draw]] w fun e w' => e = .returned (.bool true) ∧ Below w.heap.size w w' := by
  have HA := Lib.hid hA
  obtain ⟨w1, hw1⟩ : ∃ w1, w.alloc (.cells #[.slice ao len cap, .bool (kf 0), .bool (kf 1), .bool (kf 2), .bool (kf 3), .bool (kf 4), .bool (kf 5), .bool (kf 6), .bool (kf 7), .bool (kf 8), .bool (kf 9), .bool (kf 10), .bool (kf 11), .bool (kf 12), .bool (kf 13), .bool (kf 14), .bool (kf 15), .bool (mf 0), .bool (mf 1), .bool (mf 2), .bool (mf 3), .bool (mf 4), .bool (mf 5), .bool (mf 6), .bool (mf 7), .int .i64 draw] 36) = w1 := ⟨_, rfl⟩
  have HF1 : Hid (FourS w.heap.size ao len cap kf mf draw w1) := Lib.hid (FourS.of (by rw [← hw1]; exact heap_alloc_new _ _))
  have HB1 : Hid (Below w.heap.size w w1) := Lib.hid (by rw [← hw1]; exact (Below.refl _ _).alloc (Nat.le_refl _) _)
  have HW := Lib.hid hw1
  clear hw1 hA
  go_enter Try.func4, Try.ntmps4
  go_upto_region 1 with fail
  rw [HW.out]
  clear HW
  obtain ⟨bx, hbx⟩ : ∃ bx, Hid (w.heap.size = bx) := ⟨_, Lib.hid rfl⟩
  rw [hbx.out] at HF1 ⊢
  go_cut [3, 4, 5, 6] from 17 to 24 (fun s3 s4 s5 s6 wx => ∃ z4 z5, s3 = .slice ao len cap ∧ s4 = .pointer (some ⟨z4, 0, none⟩) ∧ s5 = .pointer (some ⟨z5, 0, none⟩) ∧ s6 = .int .i64 draw ∧ Hid (wx.heap[z4]? = some (.cells #[.bool (kf 0), .bool (kf 1), .bool (kf 2), .bool (kf 3), .bool (kf 4), .bool (kf 5), .bool (kf 6), .bool (kf 7), .bool (kf 8), .bool (kf 9), .bool (kf 10), .bool (kf 11), .bool (kf 12), .bool (kf 13), .bool (kf 14), .bool (kf 15)] 33 (0, 0))) ∧ Hid (wx.heap[z5]? = some (.cells #[.bool (mf 0), .bool (mf 1), .bool (mf 2), .bool (mf 3), .bool (mf 4), .bool (mf 5), .bool (mf 6), .bool (mf 7)] 34 (0, 0))) ∧ Hid (Below w1.heap.size w1 wx))
  case first =>
    have HL1 := Lib.hid HF1.out.lt
    refine wp_region_noPanic ?_
    refine wp_region_held_drew (S := (FourS bx ao len cap kf mf draw)) (by kernel_rfl) ?_ (fun hHeld => ?_)
    · (try dsimp only); exact HF1.out.below (Below.refl _ _).drew
    have HB : Hid (Below w1.heap.size w1 w1.drew) := Lib.hid (Below.refl _ _).drew
    generalize World.drew w1 = wd at hHeld HB ⊢
    refine wpAnyH_take (i := 0) (oi := { dst := some 17, op := Go.Op.fieldAddr 36 (Go.Operand.tmp 1) 0, type := 0, pos := "law.go:130", after := #[], guard := none }) (v := ?_) rfl (by kernel_rfl) (by kernel_rfl) (by kernel_rfl) (fun _ _ _ h => h) (Or.inl ⟨by rfl, ?_⟩) (by assumption) ?_
    rotate_left
    · (intro w hSw; (try dsimp only at hSw); go_simp; (try (with_reducible rfl)); done)
    try simp only [Act.put, List.setIfInBounds_toArray, List.set_cons_zero, List.set_cons_succ]
    refine wpAnyH_take (i := 1) (oi := { dst := some 18, op := Go.Op.load 22 (Go.Operand.tmp 17), type := 22, pos := "law.go:130", after := #[{ on := 0, ground := Go.Ground.data }], guard := none }) rfl (by kernel_rfl) (by kernel_rfl) (by kernel_rfl) (fun _ _ _ h => h) (Or.inl ⟨by rfl, fun w hSw => by have h0 := hSw.2.1; go_simp; rfl⟩) (by assumption) ?_
    try simp only [Act.put, List.setIfInBounds_toArray, List.set_cons_zero, List.set_cons_succ]
    refine wpAnyH_take (i := 2) (oi := { dst := some 19, op := Go.Op.fieldAddr 36 (Go.Operand.tmp 1) 1, type := 0, pos := "law.go:130", after := #[{ on := 10, ground := Go.Ground.gcOnly Go.Departure.lateStores }], guard := none }) (v := ?_) rfl (by kernel_rfl) (by kernel_rfl) (by kernel_rfl) (fun _ _ _ h => h) (Or.inl ⟨by rfl, ?_⟩) (by assumption) ?_
    rotate_left
    · (intro w hSw; (try dsimp only at hSw); go_simp; (try (with_reducible rfl)); done)
    try simp only [Act.put, List.setIfInBounds_toArray, List.set_cons_zero, List.set_cons_succ]
    refine wpAnyH_take (i := 3) (oi := { dst := some 20, op := Go.Op.load 33 (Go.Operand.tmp 19), type := 33, pos := "law.go:130", after := #[{ on := 2, ground := Go.Ground.data }, { on := 10, ground := Go.Ground.gcOnly Go.Departure.lateStores }], guard := none }) rfl (by kernel_rfl) (by kernel_rfl) (by kernel_rfl) (fun _ _ _ h => h) (yieldsIf_load_mid (by rfl) _ _ rfl bx 1 rfl [.bool (kf 0), .bool (kf 1), .bool (kf 2), .bool (kf 3), .bool (kf 4), .bool (kf 5), .bool (kf 6), .bool (kf 7), .bool (kf 8), .bool (kf 9), .bool (kf 10), .bool (kf 11), .bool (kf 12), .bool (kf 13), .bool (kf 14), .bool (kf 15)] _ (fun _ h => h.kr) Try.underlying33 rfl (by kernel_rfl)) (by assumption) ?_
    try simp only [Act.put, List.setIfInBounds_toArray, List.set_cons_zero, List.set_cons_succ]
    refine wpAnyH_take (i := 4) (oi := { dst := some 21, op := Go.Op.fieldAddr 36 (Go.Operand.tmp 1) 2, type := 0, pos := "law.go:130", after := #[{ on := 11, ground := Go.Ground.gcOnly Go.Departure.lateStores }], guard := none }) (v := ?_) rfl (by kernel_rfl) (by kernel_rfl) (by kernel_rfl) (fun _ _ _ h => h) (Or.inl ⟨by rfl, ?_⟩) (by assumption) ?_
    rotate_left
    · (intro w hSw; (try dsimp only at hSw); go_simp; (try (with_reducible rfl)); done)
    try simp only [Act.put, List.setIfInBounds_toArray, List.set_cons_zero, List.set_cons_succ]
    refine wpAnyH_take (i := 5) (oi := { dst := some 22, op := Go.Op.load 34 (Go.Operand.tmp 21), type := 34, pos := "law.go:130", after := #[{ on := 4, ground := Go.Ground.data }, { on := 11, ground := Go.Ground.gcOnly Go.Departure.lateStores }], guard := none }) rfl (by kernel_rfl) (by kernel_rfl) (by kernel_rfl) (fun _ _ _ h => h) (yieldsIf_load_mid (by rfl) _ _ rfl bx 17 rfl [.bool (mf 0), .bool (mf 1), .bool (mf 2), .bool (mf 3), .bool (mf 4), .bool (mf 5), .bool (mf 6), .bool (mf 7)] _ (fun _ h => h.mr) Try.underlying34 rfl (by kernel_rfl)) (by assumption) ?_
    try simp only [Act.put, List.setIfInBounds_toArray, List.set_cons_zero, List.set_cons_succ]
    refine wpAnyH_take (i := 6) (oi := { dst := some 23, op := Go.Op.fieldAddr 36 (Go.Operand.tmp 1) 3, type := 0, pos := "law.go:130", after := #[{ on := 12, ground := Go.Ground.gcOnly Go.Departure.lateStores }], guard := none }) (v := ?_) rfl (by kernel_rfl) (by kernel_rfl) (by kernel_rfl) (fun _ _ _ h => h) (Or.inl ⟨by rfl, ?_⟩) (by assumption) ?_
    rotate_left
    · (intro w hSw; (try dsimp only at hSw); go_simp; (try (with_reducible rfl)); done)
    try simp only [Act.put, List.setIfInBounds_toArray, List.set_cons_zero, List.set_cons_succ]
    refine wpAnyH_take (i := 7) (oi := { dst := some 24, op := Go.Op.load 3 (Go.Operand.tmp 23), type := 3, pos := "law.go:130", after := #[{ on := 6, ground := Go.Ground.data }, { on := 12, ground := Go.Ground.gcOnly Go.Departure.lateStores }], guard := none }) rfl (by kernel_rfl) (by kernel_rfl) (by kernel_rfl) (fun _ _ _ h => h) (Or.inl ⟨by rfl, fun w hSw => by have h0 := hSw.2.2; go_simp; rfl⟩) (by assumption) ?_
    try simp only [Act.put, List.setIfInBounds_toArray, List.set_cons_zero, List.set_cons_succ]
    refine wpAnyH_ready (rs := [8, 9]) (by kernel_rfl) (by simp) ?_
    refine AllReadyH.cons (o := { dst := some 4, op := Go.Op.alloc 33, type := 0, pos := "law.go:130", after := #[], guard := none }) rfl (fun K hK => ?_) (AllReadyH.cons (o := { dst := some 5, op := Go.Op.alloc 34, type := 0, pos := "law.go:130", after := #[], guard := none }) rfl (fun K hK => ?_) AllReadyH.nil)
    ·
      go_simp
      refine alloc_step25 hK (hHeld.below ((Below.refl _ _).alloc (Nat.le_refl _) _)) (fun W' hW' hz hHeld => ?_); have hbz := below_of_alloc25 hW'; (try have HNE := Lib.hid (Ne.symm (Nat.ne_of_lt (blk_lt25 HZ5.out)))); (try have HZ5 := Lib.hid (blk_below25 hbz HZ5.out)); have HG4 := Lib.hid HB.out.size; have HB := Lib.hid (HB.out.trans (hbz.mono HB.out.size)); have HZ4 := Lib.hid hz; clear hz hbz hW'
      clear hK K
      try simp only [Act.put, List.setIfInBounds_toArray, List.set_cons_zero, List.set_cons_succ]
      refine wpAnyH_ready (rs := [9]) (by kernel_rfl) (by simp) ?_
      refine AllReadyH.cons (o := { dst := some 5, op := Go.Op.alloc 34, type := 0, pos := "law.go:130", after := #[], guard := none }) rfl (fun K hK => ?_) AllReadyH.nil
      go_simp
      refine alloc_step25 hK (hHeld.below ((Below.refl _ _).alloc (Nat.le_refl _) _)) (fun W' hW' hz hHeld => ?_); have hbz := below_of_alloc25 hW'; (try have HNE := Lib.hid (Nat.ne_of_lt (blk_lt25 HZ4.out))); (try have HZ4 := Lib.hid (blk_below25 hbz HZ4.out)); have HG5 := Lib.hid HB.out.size; have HB := Lib.hid (HB.out.trans (hbz.mono HB.out.size)); have HZ5 := Lib.hid hz; clear hz hbz hW'
      clear hK K
      try simp only [Act.put, List.setIfInBounds_toArray, List.set_cons_zero, List.set_cons_succ]
      refine wpAnyH_take (i := 10) (oi := { dst := some 3, op := Go.Op.assign (Go.Operand.tmp 18), type := 22, pos := "law.go:130", after := #[{ on := 1, ground := Go.Ground.data }, { on := 0, ground := Go.Ground.phase }, { on := 1, ground := Go.Ground.phase }, { on := 2, ground := Go.Ground.textOnly Go.Departure.lateStores }, { on := 3, ground := Go.Ground.textOnly Go.Departure.lateStores }, { on := 4, ground := Go.Ground.textOnly Go.Departure.lateStores }, { on := 5, ground := Go.Ground.textOnly Go.Departure.lateStores }, { on := 6, ground := Go.Ground.textOnly Go.Departure.lateStores }, { on := 7, ground := Go.Ground.textOnly Go.Departure.lateStores }, { on := 8, ground := Go.Ground.phase }, { on := 9, ground := Go.Ground.phase }], guard := none }) (v := ?_) rfl (by kernel_rfl) (by kernel_rfl) (by kernel_rfl) (fun _ _ _ h => h) (Or.inl ⟨by rfl, ?_⟩) (by assumption) ?_
      rotate_left
      · (intro w hSw; (try dsimp only at hSw); go_simp; (try (with_reducible rfl)); done)
      try simp only [Act.put, List.setIfInBounds_toArray, List.set_cons_zero, List.set_cons_succ]
      refine wpAnyH_ready (rs := [11]) (by kernel_rfl) (by simp) ?_
      refine AllReadyH.cons (o := { dst := none, op := Go.Op.store 33 (Go.Operand.tmp 4) (Go.Operand.tmp 20), type := 0, pos := "law.go:130", after := #[{ on := 8, ground := Go.Ground.data }, { on := 3, ground := Go.Ground.data }, { on := 10, ground := Go.Ground.chain }, { on := 0, ground := Go.Ground.phase }, { on := 1, ground := Go.Ground.phase }, { on := 2, ground := Go.Ground.phase }, { on := 3, ground := Go.Ground.phase }, { on := 4, ground := Go.Ground.textOnly Go.Departure.lateStores }, { on := 5, ground := Go.Ground.textOnly Go.Departure.lateStores }, { on := 6, ground := Go.Ground.textOnly Go.Departure.lateStores }, { on := 7, ground := Go.Ground.textOnly Go.Departure.lateStores }, { on := 8, ground := Go.Ground.phase }, { on := 9, ground := Go.Ground.phase }, { on := 10, ground := Go.Ground.phase }], guard := none }) rfl (fun K hK => ?_) AllReadyH.nil
      (rw [if_pos (by rfl)]; refine wp_store_row _ _ _ rfl _ #[.bool (kf 0), .bool (kf 1), .bool (kf 2), .bool (kf 3), .bool (kf 4), .bool (kf 5), .bool (kf 6), .bool (kf 7), .bool (kf 8), .bool (kf 9), .bool (kf 10), .bool (kf 11), .bool (kf 12), .bool (kf 13), .bool (kf 14), .bool (kf 15)] rfl rfl 33 _ HZ4.out (by kernel_rfl) (by rfl) (by simp [Value.oneCell']) ?_)
      refine any_step25 hK (hHeld.setRow (Nat.ne_of_lt (Nat.lt_of_lt_of_le HL1.out HG4.out))) (fun W' hW' hHeld => ?_); have HB := Lib.hid (hW'.out ▸ below_setRow25 HB.out HG4.out _); have HZ5 := Lib.hid (hW'.out ▸ (setRow_other _ _ _ _ (Ne.symm HNE.out)).trans HZ5.out); have HZ4 := Lib.hid (hW'.out ▸ setRow_heap _ _ _ _ _ _ HZ4.out); clear hW'
      clear hK K
      try simp only [Act.put, List.setIfInBounds_toArray, List.set_cons_zero, List.set_cons_succ]
      refine wpAnyH_ready (rs := [12]) (by kernel_rfl) (by simp) ?_
      refine AllReadyH.cons (o := { dst := none, op := Go.Op.store 34 (Go.Operand.tmp 5) (Go.Operand.tmp 22), type := 0, pos := "law.go:130", after := #[{ on := 9, ground := Go.Ground.data }, { on := 5, ground := Go.Ground.data }, { on := 11, ground := Go.Ground.chain }, { on := 0, ground := Go.Ground.phase }, { on := 1, ground := Go.Ground.phase }, { on := 2, ground := Go.Ground.phase }, { on := 3, ground := Go.Ground.phase }, { on := 4, ground := Go.Ground.phase }, { on := 5, ground := Go.Ground.phase }, { on := 6, ground := Go.Ground.textOnly Go.Departure.lateStores }, { on := 7, ground := Go.Ground.textOnly Go.Departure.lateStores }, { on := 8, ground := Go.Ground.phase }, { on := 9, ground := Go.Ground.phase }, { on := 10, ground := Go.Ground.phase }, { on := 11, ground := Go.Ground.phase }], guard := none }) rfl (fun K hK => ?_) AllReadyH.nil
      (rw [if_pos (by rfl)]; refine wp_store_row _ _ _ rfl _ #[.bool (mf 0), .bool (mf 1), .bool (mf 2), .bool (mf 3), .bool (mf 4), .bool (mf 5), .bool (mf 6), .bool (mf 7)] rfl rfl 34 _ HZ5.out (by kernel_rfl) (by rfl) (by simp [Value.oneCell']) ?_)
      refine any_step25 hK (hHeld.setRow (Nat.ne_of_lt (Nat.lt_of_lt_of_le HL1.out HG5.out))) (fun W' hW' hHeld => ?_); have HB := Lib.hid (hW'.out ▸ below_setRow25 HB.out HG5.out _); have HZ4 := Lib.hid (hW'.out ▸ (setRow_other _ _ _ _ HNE.out).trans HZ4.out); have HZ5 := Lib.hid (hW'.out ▸ setRow_heap _ _ _ _ _ _ HZ5.out); clear hW'
      clear hK K
      try simp only [Act.put, List.setIfInBounds_toArray, List.set_cons_zero, List.set_cons_succ]
      refine wpAnyH_take (i := 13) (oi := { dst := some 6, op := Go.Op.assign (Go.Operand.tmp 24), type := 3, pos := "law.go:130", after := #[{ on := 7, ground := Go.Ground.data }, { on := 12, ground := Go.Ground.chain }, { on := 0, ground := Go.Ground.phase }, { on := 1, ground := Go.Ground.phase }, { on := 2, ground := Go.Ground.phase }, { on := 3, ground := Go.Ground.phase }, { on := 4, ground := Go.Ground.phase }, { on := 5, ground := Go.Ground.phase }, { on := 6, ground := Go.Ground.phase }, { on := 7, ground := Go.Ground.phase }, { on := 8, ground := Go.Ground.phase }, { on := 9, ground := Go.Ground.phase }, { on := 10, ground := Go.Ground.phase }, { on := 11, ground := Go.Ground.phase }, { on := 12, ground := Go.Ground.phase }], guard := none }) (v := ?_) rfl (by kernel_rfl) (by kernel_rfl) (by kernel_rfl) (fun _ _ _ h => h) (Or.inl ⟨by rfl, ?_⟩) (by assumption) ?_
      rotate_left
      · (intro w hSw; (try dsimp only at hSw); go_simp; (try (with_reducible rfl)); done)
      try simp only [Act.put, List.setIfInBounds_toArray, List.set_cons_zero, List.set_cons_succ]
      refine wpAnyH_done (by kernel_rfl) ?_ _
      refine NoPanic.normal ?_
      go_wp2_with fail
      go_meet
      exact ⟨_, _, rfl, rfl, rfl, rfl, HZ4, HZ5, HB⟩
    ·
      go_simp
      refine alloc_step25 hK (hHeld.below ((Below.refl _ _).alloc (Nat.le_refl _) _)) (fun W' hW' hz hHeld => ?_); have hbz := below_of_alloc25 hW'; (try have HNE := Lib.hid (Nat.ne_of_lt (blk_lt25 HZ4.out))); (try have HZ4 := Lib.hid (blk_below25 hbz HZ4.out)); have HG5 := Lib.hid HB.out.size; have HB := Lib.hid (HB.out.trans (hbz.mono HB.out.size)); have HZ5 := Lib.hid hz; clear hz hbz hW'
      clear hK K
      try simp only [Act.put, List.setIfInBounds_toArray, List.set_cons_zero, List.set_cons_succ]
      refine wpAnyH_ready (rs := [8]) (by kernel_rfl) (by simp) ?_
      refine AllReadyH.cons (o := { dst := some 4, op := Go.Op.alloc 33, type := 0, pos := "law.go:130", after := #[], guard := none }) rfl (fun K hK => ?_) AllReadyH.nil
      go_simp
      refine alloc_step25 hK (hHeld.below ((Below.refl _ _).alloc (Nat.le_refl _) _)) (fun W' hW' hz hHeld => ?_); have hbz := below_of_alloc25 hW'; (try have HNE := Lib.hid (Ne.symm (Nat.ne_of_lt (blk_lt25 HZ5.out)))); (try have HZ5 := Lib.hid (blk_below25 hbz HZ5.out)); have HG4 := Lib.hid HB.out.size; have HB := Lib.hid (HB.out.trans (hbz.mono HB.out.size)); have HZ4 := Lib.hid hz; clear hz hbz hW'
      clear hK K
      try simp only [Act.put, List.setIfInBounds_toArray, List.set_cons_zero, List.set_cons_succ]
      refine wpAnyH_take (i := 10) (oi := { dst := some 3, op := Go.Op.assign (Go.Operand.tmp 18), type := 22, pos := "law.go:130", after := #[{ on := 1, ground := Go.Ground.data }, { on := 0, ground := Go.Ground.phase }, { on := 1, ground := Go.Ground.phase }, { on := 2, ground := Go.Ground.textOnly Go.Departure.lateStores }, { on := 3, ground := Go.Ground.textOnly Go.Departure.lateStores }, { on := 4, ground := Go.Ground.textOnly Go.Departure.lateStores }, { on := 5, ground := Go.Ground.textOnly Go.Departure.lateStores }, { on := 6, ground := Go.Ground.textOnly Go.Departure.lateStores }, { on := 7, ground := Go.Ground.textOnly Go.Departure.lateStores }, { on := 8, ground := Go.Ground.phase }, { on := 9, ground := Go.Ground.phase }], guard := none }) (v := ?_) rfl (by kernel_rfl) (by kernel_rfl) (by kernel_rfl) (fun _ _ _ h => h) (Or.inl ⟨by rfl, ?_⟩) (by assumption) ?_
      rotate_left
      · (intro w hSw; (try dsimp only at hSw); go_simp; (try (with_reducible rfl)); done)
      try simp only [Act.put, List.setIfInBounds_toArray, List.set_cons_zero, List.set_cons_succ]
      refine wpAnyH_ready (rs := [11]) (by kernel_rfl) (by simp) ?_
      refine AllReadyH.cons (o := { dst := none, op := Go.Op.store 33 (Go.Operand.tmp 4) (Go.Operand.tmp 20), type := 0, pos := "law.go:130", after := #[{ on := 8, ground := Go.Ground.data }, { on := 3, ground := Go.Ground.data }, { on := 10, ground := Go.Ground.chain }, { on := 0, ground := Go.Ground.phase }, { on := 1, ground := Go.Ground.phase }, { on := 2, ground := Go.Ground.phase }, { on := 3, ground := Go.Ground.phase }, { on := 4, ground := Go.Ground.textOnly Go.Departure.lateStores }, { on := 5, ground := Go.Ground.textOnly Go.Departure.lateStores }, { on := 6, ground := Go.Ground.textOnly Go.Departure.lateStores }, { on := 7, ground := Go.Ground.textOnly Go.Departure.lateStores }, { on := 8, ground := Go.Ground.phase }, { on := 9, ground := Go.Ground.phase }, { on := 10, ground := Go.Ground.phase }], guard := none }) rfl (fun K hK => ?_) AllReadyH.nil
      (rw [if_pos (by rfl)]; refine wp_store_row _ _ _ rfl _ #[.bool (kf 0), .bool (kf 1), .bool (kf 2), .bool (kf 3), .bool (kf 4), .bool (kf 5), .bool (kf 6), .bool (kf 7), .bool (kf 8), .bool (kf 9), .bool (kf 10), .bool (kf 11), .bool (kf 12), .bool (kf 13), .bool (kf 14), .bool (kf 15)] rfl rfl 33 _ HZ4.out (by kernel_rfl) (by rfl) (by simp [Value.oneCell']) ?_)
      refine any_step25 hK (hHeld.setRow (Nat.ne_of_lt (Nat.lt_of_lt_of_le HL1.out HG4.out))) (fun W' hW' hHeld => ?_); have HB := Lib.hid (hW'.out ▸ below_setRow25 HB.out HG4.out _); have HZ5 := Lib.hid (hW'.out ▸ (setRow_other _ _ _ _ (Ne.symm HNE.out)).trans HZ5.out); have HZ4 := Lib.hid (hW'.out ▸ setRow_heap _ _ _ _ _ _ HZ4.out); clear hW'
      clear hK K
      try simp only [Act.put, List.setIfInBounds_toArray, List.set_cons_zero, List.set_cons_succ]
      refine wpAnyH_ready (rs := [12]) (by kernel_rfl) (by simp) ?_
      refine AllReadyH.cons (o := { dst := none, op := Go.Op.store 34 (Go.Operand.tmp 5) (Go.Operand.tmp 22), type := 0, pos := "law.go:130", after := #[{ on := 9, ground := Go.Ground.data }, { on := 5, ground := Go.Ground.data }, { on := 11, ground := Go.Ground.chain }, { on := 0, ground := Go.Ground.phase }, { on := 1, ground := Go.Ground.phase }, { on := 2, ground := Go.Ground.phase }, { on := 3, ground := Go.Ground.phase }, { on := 4, ground := Go.Ground.phase }, { on := 5, ground := Go.Ground.phase }, { on := 6, ground := Go.Ground.textOnly Go.Departure.lateStores }, { on := 7, ground := Go.Ground.textOnly Go.Departure.lateStores }, { on := 8, ground := Go.Ground.phase }, { on := 9, ground := Go.Ground.phase }, { on := 10, ground := Go.Ground.phase }, { on := 11, ground := Go.Ground.phase }], guard := none }) rfl (fun K hK => ?_) AllReadyH.nil
      (rw [if_pos (by rfl)]; refine wp_store_row _ _ _ rfl _ #[.bool (mf 0), .bool (mf 1), .bool (mf 2), .bool (mf 3), .bool (mf 4), .bool (mf 5), .bool (mf 6), .bool (mf 7)] rfl rfl 34 _ HZ5.out (by kernel_rfl) (by rfl) (by simp [Value.oneCell']) ?_)
      refine any_step25 hK (hHeld.setRow (Nat.ne_of_lt (Nat.lt_of_lt_of_le HL1.out HG5.out))) (fun W' hW' hHeld => ?_); have HB := Lib.hid (hW'.out ▸ below_setRow25 HB.out HG5.out _); have HZ4 := Lib.hid (hW'.out ▸ (setRow_other _ _ _ _ HNE.out).trans HZ4.out); have HZ5 := Lib.hid (hW'.out ▸ setRow_heap _ _ _ _ _ _ HZ5.out); clear hW'
      clear hK K
      try simp only [Act.put, List.setIfInBounds_toArray, List.set_cons_zero, List.set_cons_succ]
      refine wpAnyH_take (i := 13) (oi := { dst := some 6, op := Go.Op.assign (Go.Operand.tmp 24), type := 3, pos := "law.go:130", after := #[{ on := 7, ground := Go.Ground.data }, { on := 12, ground := Go.Ground.chain }, { on := 0, ground := Go.Ground.phase }, { on := 1, ground := Go.Ground.phase }, { on := 2, ground := Go.Ground.phase }, { on := 3, ground := Go.Ground.phase }, { on := 4, ground := Go.Ground.phase }, { on := 5, ground := Go.Ground.phase }, { on := 6, ground := Go.Ground.phase }, { on := 7, ground := Go.Ground.phase }, { on := 8, ground := Go.Ground.phase }, { on := 9, ground := Go.Ground.phase }, { on := 10, ground := Go.Ground.phase }, { on := 11, ground := Go.Ground.phase }, { on := 12, ground := Go.Ground.phase }], guard := none }) (v := ?_) rfl (by kernel_rfl) (by kernel_rfl) (by kernel_rfl) (fun _ _ _ h => h) (Or.inl ⟨by rfl, ?_⟩) (by assumption) ?_
      rotate_left
      · (intro w hSw; (try dsimp only at hSw); go_simp; (try (with_reducible rfl)); done)
      try simp only [Act.put, List.setIfInBounds_toArray, List.set_cons_zero, List.set_cons_succ]
      refine wpAnyH_done (by kernel_rfl) ?_ _
      refine NoPanic.normal ?_
      go_wp2_with fail
      go_meet
      exact ⟨_, _, rfl, rfl, rfl, rfl, HZ4, HZ5, HB⟩
  case rest =>
    obtain ⟨z4, z5, rfl, rfl, rfl, rfl, HZ4, HZ5, HBc⟩ := hcut
    have HBW := Lib.hid (HB1.out.trans (HBc.out.mono HB1.out.size))
    have hz4 := blk_lt25 HZ4.out
    have hz5 := blk_lt25 HZ5.out
    clear HBc HF1 hbx HB1
    have CN := Lib.hid (newP_any wc)
    go_wp2_with fail
    refine CN.out.mono ?_
    rintro x w1 ⟨p, h, e, rfl, q1, b1⟩
    have HQ1 := Lib.hid q1
    have HB1 := Lib.hid b1
    clear q1 b1 CN
    have CX := Lib.hid (newX_any w1)
    go_wp2_with fail
    refine CX.out.mono ?_
    rintro x w2 ⟨P, H, E, rfl, q2, b2⟩
    have HS2 := Lib.hid (sb_start HQ1.out q2 HB1.out b2)
    have HB2 := Lib.hid (HB1.out.trans (b2.mono HB1.out.size))
    clear q2 b2 CX HQ1 HB1
    have CA := Lib.hid (awake25 w2)
    go_wp2_with fail
    refine CA.out.mono ?_
    rintro x w3 ⟨rfl, b3⟩
    have HS3 := Lib.hid (HS2.out.below b3)
    have HB3 := Lib.hid (HB2.out.trans (b3.mono HB2.out.size))
    clear b3 CA HS2 HB2
    go_upto_block 0 with fail
    go_cut [9] from 33 to 49 (fun s9 wx => (∃ v, s9 = v) ∧ ∃ s : St, Hid (Sb wc.heap.size wx p h e P H E s s) ∧ Hid (Below wc.heap.size wc wx))
    case first =>
     go_wp2_with fail
     go_loopw [9] (fun s9 wi => ∃ (k : Nat) (s : St), s9 = .int .i64 (k : Int) ∧ k ≤ len ∧ k ≤ 120 ∧ Hid (s.k ≤ k) ∧ Hid (Sb wc.heap.size wi p h e P H E s s) ∧ Hid (Below wc.heap.size wc wi)) (fun s9 _ => len - (intOf s9).toNat)
     case atStart => exact ⟨0, s0, rfl, by omega, by omega, Lib.hid (Nat.le_refl _), HS3, HB3⟩
     case round =>
       obtain ⟨k, s, rfl, hk, hk2, HKS, HS, HB⟩ := hrel
       clear HS3 HB3
       by_cases hc : k < len ∧ k < 120
       · have hlt := hc.1
         have hlt' : (k : Int) < (len : Int) := by omega
         have h60' : (k : Int) < 120 := by omega
         obtain ⟨b, off, rfl, hb, hcs⟩ := HA.out (by omega)
         obtain ⟨x, t, m1, m2, c0, c1⟩ := hcs k hlt
         have hbb := HBW.out.trans (HB.out.mono HBW.out.size)
         have d0 := (hbb.cell (p := ⟨b, off + k * 2, none⟩) hb).trans c0
         have d1 := (hbb.cell (p := ⟨b, off + k * 2 + 1, none⟩) hb).trans c1
         have CD := Lib.hid (do_any x t (by have := HKS.out; omega) HS.out)
         clear hcs c0 c1 hc hbb
         as_aux_lemma =>
         go_wp2_with fail
         refine CD.out.mono ?_
         intro y w5 hd
         obtain ⟨rfl, HD⟩ := hd.post
         obtain ⟨s', hk', b5, k5⟩ := HD.out
         have HS5 := Lib.hid b5
         have HB5 := Lib.hid (HB.out.trans k5.below)
         have HKS5 : Hid (s'.k ≤ k + 1) := Lib.hid (by have := HKS.out; omega)
         clear b5 k5 hk' HD hd CD HS HB HKS d0 d1
         go_wp2_with fail
         go_roundw
         case rel => exact ⟨k + 1, s', by go_num, by omega, by omega, HKS5, HS5, HB5⟩
         case measure => simp [intOf]; omega
       · have hc2 : (((k : Int) < (len : Int)) ∧ ¬ (k : Int) < 120) ∨ ¬ (k : Int) < (len : Int) := by omega
         clear hc HKS
         rcases hc2 with ⟨t1, t2⟩ | t1
         all_goals
           go_wp2_with fail
           go_meet
           exact ⟨⟨_, rfl⟩, s, HS, HB⟩
    case rest =>
        obtain ⟨⟨v9, rfl⟩, s, HS, HB⟩ := hcut
        clear HS3 HB3
        have HR4 := Lib.hid ((HB.out.block z4 hz4).trans HZ4.out)
        have HR5 := Lib.hid ((HB.out.block z5 hz5).trans HZ5.out)
        have hz4r : z4 < wc.heap.size := Nat.lt_of_lt_of_le hz4 HB.out.size
        have hz5r : z5 < wc.heap.size := Nat.lt_of_lt_of_le hz5 HB.out.size
        have HBR := Lib.hid (HBW.out.trans (HB.out.mono HBW.out.size))
        clear HZ4 HZ5 HB HBW HA hz4 hz5
        rcases (show draw < 0 ∨ (0 ≤ draw ∧ wsum (weiL s.R kf) 16 = 0) ∨ (0 ≤ draw ∧ wsum (weiL s.R kf) 16 ≠ 0) by omega) with c | ⟨c, cs⟩ | ⟨c, cs⟩
        · have HP := pick_low (R := s.R) (kf := kf) c
          have CP := promote_any kf draw 0 0 3 false (Lib.hid rfl) HS.out.po (Lib.hid HP)
          clear HP
          have CP := Lib.hid CP
          have k0 := row_cell25 HR4.out 0 (.bool (kf 0)) rfl
          have k1 := row_cell25 HR4.out 1 (.bool (kf 1)) rfl
          have k2 := row_cell25 HR4.out 2 (.bool (kf 2)) rfl
          have k3 := row_cell25 HR4.out 3 (.bool (kf 3)) rfl
          have k4 := row_cell25 HR4.out 4 (.bool (kf 4)) rfl
          have k5 := row_cell25 HR4.out 5 (.bool (kf 5)) rfl
          have k6 := row_cell25 HR4.out 6 (.bool (kf 6)) rfl
          have k7 := row_cell25 HR4.out 7 (.bool (kf 7)) rfl
          have k8 := row_cell25 HR4.out 8 (.bool (kf 8)) rfl
          have k9 := row_cell25 HR4.out 9 (.bool (kf 9)) rfl
          have k10 := row_cell25 HR4.out 10 (.bool (kf 10)) rfl
          have k11 := row_cell25 HR4.out 11 (.bool (kf 11)) rfl
          have k12 := row_cell25 HR4.out 12 (.bool (kf 12)) rfl
          have k13 := row_cell25 HR4.out 13 (.bool (kf 13)) rfl
          have k14 := row_cell25 HR4.out 14 (.bool (kf 14)) rfl
          have k15 := row_cell25 HR4.out 15 (.bool (kf 15)) rfl
          as_aux_lemma =>
          go_wp2_with fail
          refine CP.out.mono ?_
          rintro x w2 ⟨rfl, b2⟩
          have HS2 := Lib.hid (HS.out.below b2)
          have HB2 := Lib.hid (HBR.out.trans (b2.mono HBR.out.size))
          have HR42 := Lib.hid ((b2.block z4 hz4r).trans HR4.out)
          have HR52 := Lib.hid ((b2.block z5 hz5r).trans HR5.out)
          have hz42 : z4 < w2.heap.size := Nat.lt_of_lt_of_le hz4r b2.size
          have hz52 : z5 < w2.heap.size := Nat.lt_of_lt_of_le hz5r b2.size
          clear k0 k1 k2 k3 k4 k5 k6 k7 k8 k9 k10 k11 k12 k13 k14 k15 b2 CP HS HBR HR4 HR5 hz4r hz5r
          have k0 := row_cell25 HR42.out 0 (.bool (kf 0)) rfl
          have k1 := row_cell25 HR42.out 1 (.bool (kf 1)) rfl
          have k2 := row_cell25 HR42.out 2 (.bool (kf 2)) rfl
          have k3 := row_cell25 HR42.out 3 (.bool (kf 3)) rfl
          have k4 := row_cell25 HR42.out 4 (.bool (kf 4)) rfl
          have k5 := row_cell25 HR42.out 5 (.bool (kf 5)) rfl
          have k6 := row_cell25 HR42.out 6 (.bool (kf 6)) rfl
          have k7 := row_cell25 HR42.out 7 (.bool (kf 7)) rfl
          have k8 := row_cell25 HR42.out 8 (.bool (kf 8)) rfl
          have k9 := row_cell25 HR42.out 9 (.bool (kf 9)) rfl
          have k10 := row_cell25 HR42.out 10 (.bool (kf 10)) rfl
          have k11 := row_cell25 HR42.out 11 (.bool (kf 11)) rfl
          have k12 := row_cell25 HR42.out 12 (.bool (kf 12)) rfl
          have k13 := row_cell25 HR42.out 13 (.bool (kf 13)) rfl
          have k14 := row_cell25 HR42.out 14 (.bool (kf 14)) rfl
          have k15 := row_cell25 HR42.out 15 (.bool (kf 15)) rfl
          have CW := Lib.hid (rweights_any kf HS2.out.px HS2.out.okR)
          go_wp2_with fail
          refine CW.out.mono ?_
          rintro x w3 ⟨ax, cx, rfl, hat, b3⟩
          have HAT := Lib.hid hat
          have HS3 := Lib.hid (HS2.out.below b3)
          have HB3 := Lib.hid (HB2.out.trans (b3.mono HB2.out.size))
          have HR43 := Lib.hid ((b3.block z4 hz42).trans HR42.out)
          have HR53 := Lib.hid ((b3.block z5 hz52).trans HR52.out)
          have hz53 : z5 < w3.heap.size := Nat.lt_of_lt_of_le hz52 b3.size
          clear k0 k1 k2 k3 k4 k5 k6 k7 k8 k9 k10 k11 k12 k13 k14 k15 hat b3 CW HS2 HB2 HR42 HR52 hz42 hz52
          have CS := rsum_any ax 16 cx (weiL s.R kf) w3 (by omega) HAT.out (wei_fits _ _)
          generalize wsum (weiL s.R kf) 16 = nn at CS
          have CS := Lib.hid CS
          have m0 := row_cell25 HR53.out 0 (.bool (mf 0)) rfl
          have m1 := row_cell25 HR53.out 1 (.bool (mf 1)) rfl
          have m2 := row_cell25 HR53.out 2 (.bool (mf 2)) rfl
          have m3 := row_cell25 HR53.out 3 (.bool (mf 3)) rfl
          have m4 := row_cell25 HR53.out 4 (.bool (mf 4)) rfl
          have m5 := row_cell25 HR53.out 5 (.bool (mf 5)) rfl
          have m6 := row_cell25 HR53.out 6 (.bool (mf 6)) rfl
          have m7 := row_cell25 HR53.out 7 (.bool (mf 7)) rfl
          have CD := demote_any mf HS3.out.po HS3.out.okS
          obtain ⟨q, hq⟩ : ∃ q, demO s.S mf = q := ⟨_, rfl⟩
          rw [hq] at CD
          have HQ := Lib.hid hq
          have CD := Lib.hid CD
          clear hq
          go_wp2_with fail
          refine CS.out.mono ?_
          rintro x w4 ⟨rfl, rfl⟩
          clear CS
          go_wp2_with fail
          refine CD.out.mono ?_
          rintro x w4 ⟨rfl, b4⟩
          have HS4 := Lib.hid (HS3.out.below b4)
          have HB4 := Lib.hid (HB3.out.trans (b4.mono HB3.out.size))
          have HR54 := Lib.hid ((b4.block z5 hz53).trans HR53.out)
          have hz54 : z5 < w4.heap.size := Nat.lt_of_lt_of_le hz53 b4.size
          clear m0 m1 m2 m3 m4 m5 m6 m7 b4 CD
          have m0 := row_cell25 HR54.out 0 (.bool (mf 0)) rfl
          have m1 := row_cell25 HR54.out 1 (.bool (mf 1)) rfl
          have m2 := row_cell25 HR54.out 2 (.bool (mf 2)) rfl
          have m3 := row_cell25 HR54.out 3 (.bool (mf 3)) rfl
          have m4 := row_cell25 HR54.out 4 (.bool (mf 4)) rfl
          have m5 := row_cell25 HR54.out 5 (.bool (mf 5)) rfl
          have m6 := row_cell25 HR54.out 6 (.bool (mf 6)) rfl
          have m7 := row_cell25 HR54.out 7 (.bool (mf 7)) rfl
          have CX := rdemote_any mf HS4.out.px HS4.out.okS
          rw [HQ.out] at CX
          have CX := Lib.hid CX
          rcases q with _ | sl
          · unfold demV
            go_wp2_with fail
            refine CX.out.mono ?_
            rintro x w5 ⟨rfl, b5⟩
            have HB5 := Lib.hid (HB4.out.trans (b5.mono HB4.out.size))
            clear m0 m1 m2 m3 m4 m5 m6 m7 b5 CX
            unfold demX
            go_wp2_with fail
            go_ret
            exact ⟨rfl, HB5.out⟩
          · have hsl := dem_lt HS4.out.okS HQ.out
            have hsli : (sl : Int) < 8 := by omega
            have HMY := Lib.hid (dem_may HQ.out)
            unfold demV
            go_wp2_with fail
            refine CX.out.mono ?_
            rintro x w5 ⟨rfl, b5⟩
            have HB5 := Lib.hid (HB4.out.trans (b5.mono HB4.out.size))
            have ms : w5.cell? ⟨z5, sl, none⟩ = some (.bool true) := by rw [← HMY.out]; exact may_cell ((b5.block z5 hz54).trans HR54.out) hsl
            clear m0 m1 m2 m3 m4 m5 m6 m7 b5 CX
            unfold demX
            go_wp2_with fail
            go_ret
            exact ⟨rfl, HB5.out⟩
        · have HP := pick_nil (R := s.R) (kf := kf) c cs
          have CP := promote_any kf draw 0 0 7 false (Lib.hid rfl) HS.out.po (Lib.hid HP)
          have hdl : ¬ draw < 0 := by omega
          have HCS := Lib.hid cs
          clear HP cs
          have CP := Lib.hid CP
          have k0 := row_cell25 HR4.out 0 (.bool (kf 0)) rfl
          have k1 := row_cell25 HR4.out 1 (.bool (kf 1)) rfl
          have k2 := row_cell25 HR4.out 2 (.bool (kf 2)) rfl
          have k3 := row_cell25 HR4.out 3 (.bool (kf 3)) rfl
          have k4 := row_cell25 HR4.out 4 (.bool (kf 4)) rfl
          have k5 := row_cell25 HR4.out 5 (.bool (kf 5)) rfl
          have k6 := row_cell25 HR4.out 6 (.bool (kf 6)) rfl
          have k7 := row_cell25 HR4.out 7 (.bool (kf 7)) rfl
          have k8 := row_cell25 HR4.out 8 (.bool (kf 8)) rfl
          have k9 := row_cell25 HR4.out 9 (.bool (kf 9)) rfl
          have k10 := row_cell25 HR4.out 10 (.bool (kf 10)) rfl
          have k11 := row_cell25 HR4.out 11 (.bool (kf 11)) rfl
          have k12 := row_cell25 HR4.out 12 (.bool (kf 12)) rfl
          have k13 := row_cell25 HR4.out 13 (.bool (kf 13)) rfl
          have k14 := row_cell25 HR4.out 14 (.bool (kf 14)) rfl
          have k15 := row_cell25 HR4.out 15 (.bool (kf 15)) rfl
          as_aux_lemma =>
          go_wp2_with fail
          refine CP.out.mono ?_
          rintro x w2 ⟨rfl, b2⟩
          have HS2 := Lib.hid (HS.out.below b2)
          have HB2 := Lib.hid (HBR.out.trans (b2.mono HBR.out.size))
          have HR42 := Lib.hid ((b2.block z4 hz4r).trans HR4.out)
          have HR52 := Lib.hid ((b2.block z5 hz5r).trans HR5.out)
          have hz42 : z4 < w2.heap.size := Nat.lt_of_lt_of_le hz4r b2.size
          have hz52 : z5 < w2.heap.size := Nat.lt_of_lt_of_le hz5r b2.size
          clear k0 k1 k2 k3 k4 k5 k6 k7 k8 k9 k10 k11 k12 k13 k14 k15 b2 CP HS HBR HR4 HR5 hz4r hz5r
          have k0 := row_cell25 HR42.out 0 (.bool (kf 0)) rfl
          have k1 := row_cell25 HR42.out 1 (.bool (kf 1)) rfl
          have k2 := row_cell25 HR42.out 2 (.bool (kf 2)) rfl
          have k3 := row_cell25 HR42.out 3 (.bool (kf 3)) rfl
          have k4 := row_cell25 HR42.out 4 (.bool (kf 4)) rfl
          have k5 := row_cell25 HR42.out 5 (.bool (kf 5)) rfl
          have k6 := row_cell25 HR42.out 6 (.bool (kf 6)) rfl
          have k7 := row_cell25 HR42.out 7 (.bool (kf 7)) rfl
          have k8 := row_cell25 HR42.out 8 (.bool (kf 8)) rfl
          have k9 := row_cell25 HR42.out 9 (.bool (kf 9)) rfl
          have k10 := row_cell25 HR42.out 10 (.bool (kf 10)) rfl
          have k11 := row_cell25 HR42.out 11 (.bool (kf 11)) rfl
          have k12 := row_cell25 HR42.out 12 (.bool (kf 12)) rfl
          have k13 := row_cell25 HR42.out 13 (.bool (kf 13)) rfl
          have k14 := row_cell25 HR42.out 14 (.bool (kf 14)) rfl
          have k15 := row_cell25 HR42.out 15 (.bool (kf 15)) rfl
          have CW := Lib.hid (rweights_any kf HS2.out.px HS2.out.okR)
          go_wp2_with fail
          refine CW.out.mono ?_
          rintro x w3 ⟨ax, cx, rfl, hat, b3⟩
          have HAT := Lib.hid hat
          have HS3 := Lib.hid (HS2.out.below b3)
          have HB3 := Lib.hid (HB2.out.trans (b3.mono HB2.out.size))
          have HR43 := Lib.hid ((b3.block z4 hz42).trans HR42.out)
          have HR53 := Lib.hid ((b3.block z5 hz52).trans HR52.out)
          have hz53 : z5 < w3.heap.size := Nat.lt_of_lt_of_le hz52 b3.size
          clear k0 k1 k2 k3 k4 k5 k6 k7 k8 k9 k10 k11 k12 k13 k14 k15 hat b3 CW HS2 HB2 HR42 HR52 hz42 hz52
          have CS := rsum_any ax 16 cx (weiL s.R kf) w3 (by omega) HAT.out (wei_fits _ _)
          rw [HCS.out] at CS
          have CS := Lib.hid CS
          have m0 := row_cell25 HR53.out 0 (.bool (mf 0)) rfl
          have m1 := row_cell25 HR53.out 1 (.bool (mf 1)) rfl
          have m2 := row_cell25 HR53.out 2 (.bool (mf 2)) rfl
          have m3 := row_cell25 HR53.out 3 (.bool (mf 3)) rfl
          have m4 := row_cell25 HR53.out 4 (.bool (mf 4)) rfl
          have m5 := row_cell25 HR53.out 5 (.bool (mf 5)) rfl
          have m6 := row_cell25 HR53.out 6 (.bool (mf 6)) rfl
          have m7 := row_cell25 HR53.out 7 (.bool (mf 7)) rfl
          have CD := demote_any mf HS3.out.po HS3.out.okS
          obtain ⟨q, hq⟩ : ∃ q, demO s.S mf = q := ⟨_, rfl⟩
          rw [hq] at CD
          have HQ := Lib.hid hq
          have CD := Lib.hid CD
          clear hq
          go_wp2_with fail
          refine CS.out.mono ?_
          rintro x w4 ⟨rfl, rfl⟩
          clear CS
          go_wp2_with fail
          refine CD.out.mono ?_
          rintro x w4 ⟨rfl, b4⟩
          have HS4 := Lib.hid (HS3.out.below b4)
          have HB4 := Lib.hid (HB3.out.trans (b4.mono HB3.out.size))
          have HR54 := Lib.hid ((b4.block z5 hz53).trans HR53.out)
          have hz54 : z5 < w4.heap.size := Nat.lt_of_lt_of_le hz53 b4.size
          clear m0 m1 m2 m3 m4 m5 m6 m7 b4 CD
          have m0 := row_cell25 HR54.out 0 (.bool (mf 0)) rfl
          have m1 := row_cell25 HR54.out 1 (.bool (mf 1)) rfl
          have m2 := row_cell25 HR54.out 2 (.bool (mf 2)) rfl
          have m3 := row_cell25 HR54.out 3 (.bool (mf 3)) rfl
          have m4 := row_cell25 HR54.out 4 (.bool (mf 4)) rfl
          have m5 := row_cell25 HR54.out 5 (.bool (mf 5)) rfl
          have m6 := row_cell25 HR54.out 6 (.bool (mf 6)) rfl
          have m7 := row_cell25 HR54.out 7 (.bool (mf 7)) rfl
          have CX := rdemote_any mf HS4.out.px HS4.out.okS
          rw [HQ.out] at CX
          have CX := Lib.hid CX
          rcases q with _ | sl
          · unfold demV
            go_wp2_with fail
            refine CX.out.mono ?_
            rintro x w5 ⟨rfl, b5⟩
            have HB5 := Lib.hid (HB4.out.trans (b5.mono HB4.out.size))
            clear m0 m1 m2 m3 m4 m5 m6 m7 b5 CX
            unfold demX
            go_wp2_with fail
            go_ret
            exact ⟨rfl, HB5.out⟩
          · have hsl := dem_lt HS4.out.okS HQ.out
            have hsli : (sl : Int) < 8 := by omega
            have HMY := Lib.hid (dem_may HQ.out)
            unfold demV
            go_wp2_with fail
            refine CX.out.mono ?_
            rintro x w5 ⟨rfl, b5⟩
            have HB5 := Lib.hid (HB4.out.trans (b5.mono HB4.out.size))
            have ms : w5.cell? ⟨z5, sl, none⟩ = some (.bool true) := by rw [← HMY.out]; exact may_cell ((b5.block z5 hz54).trans HR54.out) hsl
            clear m0 m1 m2 m3 m4 m5 m6 m7 b5 CX
            unfold demX
            go_wp2_with fail
            go_ret
            exact ⟨rfl, HB5.out⟩
        · obtain ⟨d, rfl⟩ : ∃ d : Nat, draw = (d : Int) := ⟨draw.toNat, by omega⟩
          have hd3 : d ≤ 9223372036854775807 := by omega
          obtain ⟨S, i, hS, hS1, hS2, hi, HP, hpl, hki, hwi⟩ := pick_one (R := s.R) (kf := kf) hd3 cs
          have CP := promote_any kf (d : Int) i ((d / S : Nat) : Int) 0 true (Lib.hid rfl) HS.out.po (Lib.hid HP)
          have hdl : ¬ (d : Int) < 0 := by omega
          have HCS := Lib.hid hS
          obtain ⟨r, hr⟩ : ∃ r, d % S = r := ⟨_, rfl⟩
          have a1 : (d : Int).tmod (S : Int) = (r : Int) := by rw [← hr, Int.tmod_eq_emod_of_nonneg (by omega)]; omega
          have a1' : (d : Int) % (S : Int) = (r : Int) := by omega
          have hrS : r < S := by rw [← hr]; exact Nat.mod_lt _ hS1
          have z1 : IntKind.i64.wrap (r : Int) = r := IntWalk.i64_in _ (by omega)
          have hS0 : ((S : Int) == 0) = false := by simp; omega
          have hS3 : ¬ (S : Int) = 0 := by omega
          have hi16 : (i : Int) < 16 := by omega
          rw [hr] at hpl
          have HPL := Lib.hid hpl
          have HKI := Lib.hid hki
          have HWI := Lib.hid hwi
          clear HP hpl hki hwi hS cs hr
          have CP := Lib.hid CP
          have k0 := row_cell25 HR4.out 0 (.bool (kf 0)) rfl
          have k1 := row_cell25 HR4.out 1 (.bool (kf 1)) rfl
          have k2 := row_cell25 HR4.out 2 (.bool (kf 2)) rfl
          have k3 := row_cell25 HR4.out 3 (.bool (kf 3)) rfl
          have k4 := row_cell25 HR4.out 4 (.bool (kf 4)) rfl
          have k5 := row_cell25 HR4.out 5 (.bool (kf 5)) rfl
          have k6 := row_cell25 HR4.out 6 (.bool (kf 6)) rfl
          have k7 := row_cell25 HR4.out 7 (.bool (kf 7)) rfl
          have k8 := row_cell25 HR4.out 8 (.bool (kf 8)) rfl
          have k9 := row_cell25 HR4.out 9 (.bool (kf 9)) rfl
          have k10 := row_cell25 HR4.out 10 (.bool (kf 10)) rfl
          have k11 := row_cell25 HR4.out 11 (.bool (kf 11)) rfl
          have k12 := row_cell25 HR4.out 12 (.bool (kf 12)) rfl
          have k13 := row_cell25 HR4.out 13 (.bool (kf 13)) rfl
          have k14 := row_cell25 HR4.out 14 (.bool (kf 14)) rfl
          have k15 := row_cell25 HR4.out 15 (.bool (kf 15)) rfl
          as_aux_lemma =>
          go_wp2_with fail
          refine CP.out.mono ?_
          rintro x w2 ⟨rfl, b2⟩
          have HS2 := Lib.hid (HS.out.below b2)
          have HB2 := Lib.hid (HBR.out.trans (b2.mono HBR.out.size))
          have HR42 := Lib.hid ((b2.block z4 hz4r).trans HR4.out)
          have HR52 := Lib.hid ((b2.block z5 hz5r).trans HR5.out)
          have hz42 : z4 < w2.heap.size := Nat.lt_of_lt_of_le hz4r b2.size
          have hz52 : z5 < w2.heap.size := Nat.lt_of_lt_of_le hz5r b2.size
          clear k0 k1 k2 k3 k4 k5 k6 k7 k8 k9 k10 k11 k12 k13 k14 k15 b2 CP HS HBR HR4 HR5 hz4r hz5r
          have k0 := row_cell25 HR42.out 0 (.bool (kf 0)) rfl
          have k1 := row_cell25 HR42.out 1 (.bool (kf 1)) rfl
          have k2 := row_cell25 HR42.out 2 (.bool (kf 2)) rfl
          have k3 := row_cell25 HR42.out 3 (.bool (kf 3)) rfl
          have k4 := row_cell25 HR42.out 4 (.bool (kf 4)) rfl
          have k5 := row_cell25 HR42.out 5 (.bool (kf 5)) rfl
          have k6 := row_cell25 HR42.out 6 (.bool (kf 6)) rfl
          have k7 := row_cell25 HR42.out 7 (.bool (kf 7)) rfl
          have k8 := row_cell25 HR42.out 8 (.bool (kf 8)) rfl
          have k9 := row_cell25 HR42.out 9 (.bool (kf 9)) rfl
          have k10 := row_cell25 HR42.out 10 (.bool (kf 10)) rfl
          have k11 := row_cell25 HR42.out 11 (.bool (kf 11)) rfl
          have k12 := row_cell25 HR42.out 12 (.bool (kf 12)) rfl
          have k13 := row_cell25 HR42.out 13 (.bool (kf 13)) rfl
          have k14 := row_cell25 HR42.out 14 (.bool (kf 14)) rfl
          have k15 := row_cell25 HR42.out 15 (.bool (kf 15)) rfl
          have CW := Lib.hid (rweights_any kf HS2.out.px HS2.out.okR)
          go_wp2_with fail
          refine CW.out.mono ?_
          rintro x w3 ⟨ax, cx, rfl, hat, b3⟩
          have HAT := Lib.hid hat
          have HS3 := Lib.hid (HS2.out.below b3)
          have HB3 := Lib.hid (HB2.out.trans (b3.mono HB2.out.size))
          have HR43 := Lib.hid ((b3.block z4 hz42).trans HR42.out)
          have HR53 := Lib.hid ((b3.block z5 hz52).trans HR52.out)
          have hz53 : z5 < w3.heap.size := Nat.lt_of_lt_of_le hz52 b3.size
          clear k0 k1 k2 k3 k4 k5 k6 k7 k8 k9 k10 k11 k12 k13 k14 k15 hat b3 CW HS2 HB2 HR42 HR52 hz42 hz52
          have CS := rsum_any ax 16 cx (weiL s.R kf) w3 (by omega) HAT.out (wei_fits _ _)
          rw [HCS.out] at CS
          have CS := Lib.hid CS
          have m0 := row_cell25 HR53.out 0 (.bool (mf 0)) rfl
          have m1 := row_cell25 HR53.out 1 (.bool (mf 1)) rfl
          have m2 := row_cell25 HR53.out 2 (.bool (mf 2)) rfl
          have m3 := row_cell25 HR53.out 3 (.bool (mf 3)) rfl
          have m4 := row_cell25 HR53.out 4 (.bool (mf 4)) rfl
          have m5 := row_cell25 HR53.out 5 (.bool (mf 5)) rfl
          have m6 := row_cell25 HR53.out 6 (.bool (mf 6)) rfl
          have m7 := row_cell25 HR53.out 7 (.bool (mf 7)) rfl
          have CD := demote_any mf HS3.out.po HS3.out.okS
          obtain ⟨q, hq⟩ : ∃ q, demO s.S mf = q := ⟨_, rfl⟩
          rw [hq] at CD
          have HQ := Lib.hid hq
          have CD := Lib.hid CD
          clear hq
          go_wp2_with fail
          refine CS.out.mono ?_
          rintro x w4 ⟨rfl, rfl⟩
          clear CS
          have CL := Lib.hid (rplace_any r i ax 16 cx (weiL s.R kf) w3 (by omega) HAT.out (wei_fits _ _) hi HPL.out)
          have ki : w3.cell? ⟨z4, i, none⟩ = some (.bool false) := by rw [← HKI.out]; exact kap_cell HR43.out hi
          obtain ⟨bb, off, rfl, hbb, hall⟩ := HAT.out (by omega)
          have wi := hall i hi
          rw [weiL_get _ _ hi] at wi
          obtain ⟨x, hx⟩ : ∃ x, weiK s.R kf i = x := ⟨_, rfl⟩
          rw [hx] at wi
          have hx0 : (x == 0) = false := by have := HWI.out; rw [hx] at this; simpa using this
          clear hall hx
          go_wp2_with fail
          refine CL.out.mono ?_
          rintro y w4 ⟨rfl, rfl⟩
          clear CL
          go_wp2_with fail
          refine CD.out.mono ?_
          rintro x w4 ⟨rfl, b4⟩
          have HS4 := Lib.hid (HS3.out.below b4)
          have HB4 := Lib.hid (HB3.out.trans (b4.mono HB3.out.size))
          have HR54 := Lib.hid ((b4.block z5 hz53).trans HR53.out)
          have hz54 : z5 < w4.heap.size := Nat.lt_of_lt_of_le hz53 b4.size
          clear m0 m1 m2 m3 m4 m5 m6 m7 b4 CD
          have m0 := row_cell25 HR54.out 0 (.bool (mf 0)) rfl
          have m1 := row_cell25 HR54.out 1 (.bool (mf 1)) rfl
          have m2 := row_cell25 HR54.out 2 (.bool (mf 2)) rfl
          have m3 := row_cell25 HR54.out 3 (.bool (mf 3)) rfl
          have m4 := row_cell25 HR54.out 4 (.bool (mf 4)) rfl
          have m5 := row_cell25 HR54.out 5 (.bool (mf 5)) rfl
          have m6 := row_cell25 HR54.out 6 (.bool (mf 6)) rfl
          have m7 := row_cell25 HR54.out 7 (.bool (mf 7)) rfl
          have CX := rdemote_any mf HS4.out.px HS4.out.okS
          rw [HQ.out] at CX
          have CX := Lib.hid CX
          rcases q with _ | sl
          · unfold demV
            go_wp2_with fail
            refine CX.out.mono ?_
            rintro x w5 ⟨rfl, b5⟩
            have HB5 := Lib.hid (HB4.out.trans (b5.mono HB4.out.size))
            clear m0 m1 m2 m3 m4 m5 m6 m7 b5 CX
            unfold demX
            go_wp2_with fail
            go_ret
            exact ⟨rfl, HB5.out⟩
          · have hsl := dem_lt HS4.out.okS HQ.out
            have hsli : (sl : Int) < 8 := by omega
            have HMY := Lib.hid (dem_may HQ.out)
            unfold demV
            go_wp2_with fail
            refine CX.out.mono ?_
            rintro x w5 ⟨rfl, b5⟩
            have HB5 := Lib.hid (HB4.out.trans (b5.mono HB4.out.size))
            have ms : w5.cell? ⟨z5, sl, none⟩ = some (.bool true) := by rw [← HMY.out]; exact may_cell ((b5.block z5 hz54).trans HR54.out) hsl
            clear m0 m1 m2 m3 m4 m5 m6 m7 b5 CX
            unfold demX
            go_wp2_with fail
            go_ret
            exact ⟨rfl, HB5.out⟩
section
variable {H : Type} {enc : TypeId × Value → H}
theorem smqAdvises_walk {r : Reach} {b0 : Nat} (v : Value) (d : DataW H) (p : List MemPlace) (w : World) (hok : Value.okWide Try.prog w r b0 36 v) (h : DataW.Trod enc Try.prog w 0 (fun _ => true) true 36 v d p) :
    Calls Try.prog 4 #[v] w fun e w' => e = .returned (.bool true) ∧ Below w.heap.size w w' := by
  obtain ⟨ao, len, cap, kf, mf, draw, rfl, hl, hA, h1, h2⟩ := open_four25 hok h
  exact smqAdvises_any ao len cap kf mf draw w (by unfold maxLen at hl; exact hl) hA h1 h2
end
end Go.Proofs.Ytfkepplpeakgmaa
