/- Package rig (cellaret): Read, Write. -/
import Derived.Test.YtjmginkkjkbpoaaRiG
import Derived.RegionTactic
import Derived.ChangeAlike
import Derived.BigRegion
namespace Go.Proofs.Ytjmginkkjkbpoaa
open Go.RowKit Go.Deep
set_option linter.unusedVariables false
set_option linter.unusedSimpArgs false
theorem cellA {w : World} {a : Addr} {v : Value} {o : Obj} (h : w.cell? a = some v) : (w.alloc o).cell? a = some v := ((Below.refl w.heap.size w).alloc (Nat.le_refl _) o).cell (cell_lt h) |>.trans h
theorem cellS {w : World} {b o g k : Nat} {v u : Value} (h : w.cell? ⟨b, o, none⟩ = some v) (hn : b ≠ g) : (w.setCell ⟨g, k, none⟩ u).cell? ⟨b, o, none⟩ = some v := by
  rw [World.cell?_setCell_other _ _ _ _ (by intro e; simp only [Addr.mk.injEq] at e; exact hn e.1.symm)]
  exact h
theorem keepRd {w1 w' : World} {R k : Nat} {v : Value} (q : w1.cell? ⟨R, k, none⟩ = some v) (h : R < w1.heap.size) (b : Below w1.heap.size w1 w') : w'.cell? ⟨R, k, none⟩ = some v ∧ Below w1.heap.size w1 w' := ⟨(b.cell (p := ⟨R, k, none⟩) h).trans q, b⟩
theorem bel1 (w : World) (o : Obj) : Below w.heap.size w (w.alloc o).drew := ((Below.refl _ _).alloc (Nat.le_refl _) _).drew
theorem bel2 (w : World) (o o' : Obj) : Below w.heap.size w ((w.alloc o).alloc o').drew := (((Below.refl _ _).alloc (Nat.le_refl _) _).alloc (by simp) _).drew
theorem RgAt.far {B : Nat} {w : World} {p : RgP} {S : RgS} {c0 c1 : Nat → Bk} (h : RgAt B w p S c0 c1) {x k : Nat} {v : Value} (hx : p.g1 < x) : RgAt B (w.setCell ⟨x, k, none⟩ v) p S c0 c1 := by
  have o := h.ok
  have q : ∀ b, b ≤ p.g1 → (w.setCell ⟨x, k, none⟩ v).heap[b]? = w.heap[b]? := fun b hb => Below.heap_setCell w ⟨x, k, none⟩ v b (show b ≠ x by omega)
  exact ⟨(q _ (by have := o.b0; have := o.b1; have := o.b2; have := o.b3; omega)).trans h.row, h.d0.off (q _ (by have := o.b2; have := o.b3; omega)) (q _ (by have := o.b1; have := o.b2; have := o.b3; omega)), h.d1.off (q _ (Nat.le_refl _)) (q _ (Nat.le_of_lt o.b3)), o⟩
theorem RgP.Ok.not {p : RgP} {B x : Nat} (o : p.Ok B) (hx : p.g1 < x) : x ∉ p.l := by
  unfold RgP.l
  have := o.b0; have := o.b1; have := o.b2; have := o.b3
  simp
  omega
theorem RgS.go0 {S : RgS} (h : S.out = 0) (c : Nat → Bk) : S.c0 c = S.hit0 c ∧ S.c1 c = S.hit1 c := by
  unfold RgS.out at h
  unfold RgS.c0 RgS.c1
  split at h
  · cases h
  · rename_i hn
    rw [if_neg hn, if_neg hn]
    exact ⟨rfl, rfl⟩
/-- Which of two. -/
def sel {α : Type} (d : Int) (x y : α) : α := if d = 0 then x else y
/-- What Read's way to the step has laid. -/
structure RdF (wx : World) (g i x5 x9 x10 : Nat) : Prop where
  h10 : wx.cell? ⟨x10, 0, none⟩ = some (.func (.func 43) #[.pointer (some ⟨g, 0, none⟩)] #[])
  h5 : wx.cell? ⟨x5, 0, none⟩ = some (.int .i64 (i : Int))
  h9 : wx.cell? ⟨x9, 0, none⟩ = some (.string ⟨#[]⟩)
  f9 : wx.frozen? ⟨x9, 0, none⟩ = false
set_option maxRecDepth 100000 in
set_option maxHeartbeats 2000000 in
theorem rigRead_no (p : RgP) (d i : Int) (w : World) (h : rbE d i ≠ 0) : Calls Try.prog 15 #[.pointer (some ⟨p.R, 0, none⟩), .int .i64 d, .int .i64 i] w fun e w' => e = .returned (.tuple #[.string ⟨#[]⟩, .int .i64 (rbE d i)]) ∧ Below w.heap.size w w' := by
  have CI := Lib.hid (fun w => rigBlock_any p.R d i w)
  have h1 : (rbE d i != 0) = true := by simpa using h
  clear h
  generalize rbE d i = z at *
  go_enter Try.func15, Try.ntmps15
  go_wp2_with fail
  refine (CI.out _).mono ?_
  rintro e w' ⟨rfl, rfl⟩
  go_wp2_with fail
  go_ret2
  exact ⟨rfl, (Below.refl _ _).alloc (Nat.le_refl _) _⟩
theorem rigRead_ok (B : Nat) (p : RgP) (S : RgS) (c0 c1 : Nat → Bk) (d : Int) (i : Nat) (w : World) (hR : RgAt B w p S c0 c1) (hS : S.d = 0 ∨ S.d = 1) (hB : B ≤ w.heap.size) (hd : d = 0 ∨ d = 1) (hi : i < 288) :
    Calls Try.prog 15 #[.pointer (some ⟨p.R, 0, none⟩), .int .i64 d, .int .i64 (i : Int)] w fun e w' => e = .returned (.tuple #[.string (if S.out = 0 then (sel d (S.c0 c0) (S.c1 c1) i).now else ⟨#[]⟩), .int .i64 S.out]) ∧ RgAt B w' p S.aft (S.c0 c0) (S.c1 c1) ∧ Kq B p.l w w' := by
  have CI := Lib.hid (fun w => rigBlock_any p.R d (i : Int) w)
  have h1 : rbE d (i : Int) = 0 := by unfold rbE; rw [if_pos hd, if_neg (by omega)]
  rw [h1] at CI
  clear h1
  obtain ⟨w1, HW, HB1, h5, hz⟩ : ∃ w1, Hid (w.alloc (.cells #[.int .i64 (i : Int)] 3) = w1) ∧ Hid (Below w.heap.size w w1) ∧ w1.cell? ⟨w.heap.size, 0, none⟩ = some (.int .i64 (i : Int)) ∧ w.heap.size < w1.heap.size := ⟨_, Lib.hid rfl, Lib.hid ((Below.refl _ _).alloc (Nat.le_refl _) _), cell_of_row _ _ 0 _ _ _ (heap_alloc_new _ _), by simp⟩
  have HR1 := Lib.hid (hR.below HB1.out)
  have HR := Lib.hid hR
  obtain ⟨q0, q1, -⟩ := HR1.out.cells
  have hpl : p.R < w.heap.size := hR.lt
  clear hR
  rcases hd with rfl | rfl
  · go_enter Try.func15, Try.ntmps15
    go_upto_region 1 with fail
    rw [HW.out]
    go_wp2_with fail
    refine (CI.out _).mono ?_
    rintro e w' ⟨rfl, rfl⟩
    go_upto_region 4 with fail
    go_cut [9, 10] from 19 to 25 (fun s9 s10 wx => ∃ x9 x10, s9 = .pointer (some ⟨x9, 0, none⟩) ∧ s10 = .pointer (some ⟨x10, 0, none⟩) ∧ Hid (RdF wx p.g0 i w.heap.size x9 x10) ∧ Hid (Below w1.heap.size w1 wx) ∧ Hid (w1.heap.size ≤ x9 ∧ w1.heap.size ≤ x10))
    case first =>
      have hpw : p.R < w1.heap.size := by omega
      refine wp_region_noPanic ?_
      refine wp_region_held_drew (S := (fun w' => w'.cell? ⟨p.R, 0, none⟩ = some (.pointer (some ⟨p.g0, 0, none⟩)) ∧ Below w1.heap.size w1 w')) (by kernel_rfl) ?_ (fun hHeld => ?_)
      · (try dsimp only); exact ⟨q0, (Below.refl _ _).drew⟩
      refine wpAnyH_take (i := 0) (oi := { dst := some 19, op := Go.Op.move (Go.Operand.tmp 0), type := 23, pos := "rig.go:94", after := #[], guard := none }) (v := ?_) rfl (by kernel_rfl) (by kernel_rfl) (by kernel_rfl) (fun _ _ _ h => h) (Or.inl ⟨by rfl, ?_⟩) (by assumption) ?_
      rotate_left
      · (intro w hSw; (try dsimp only at hSw); go_simp; (try (with_reducible rfl)); done)
      try simp only [Act.put, List.setIfInBounds_toArray, List.set_cons_zero, List.set_cons_succ]
      refine wpAnyH_take (i := 1) (oi := { dst := some 20, op := Go.Op.move (Go.Operand.tmp 1), type := 3, pos := "rig.go:94", after := #[], guard := none }) (v := ?_) rfl (by kernel_rfl) (by kernel_rfl) (by kernel_rfl) (fun _ _ _ h => h) (Or.inl ⟨by rfl, ?_⟩) (by assumption) ?_
      rotate_left
      · (intro w hSw; (try dsimp only at hSw); go_simp; (try (with_reducible rfl)); done)
      try simp only [Act.put, List.setIfInBounds_toArray, List.set_cons_zero, List.set_cons_succ]
      refine wpAnyH_take (i := 2) (oi := { dst := some 21, op := Go.Op.nilCheck (Go.Operand.tmp 19), type := 0, pos := "rig.go:94", after := #[{ on := 0, ground := Go.Ground.data }], guard := none }) (v := ?_) rfl (by kernel_rfl) (by kernel_rfl) (by kernel_rfl) (fun _ _ _ h => h) (Or.inl ⟨by rfl, ?_⟩) (by assumption) ?_
      rotate_left
      · (intro w hSw; (try dsimp only at hSw); go_simp; (try (with_reducible rfl)); done)
      try simp only [Act.put, List.setIfInBounds_toArray, List.set_cons_zero, List.set_cons_succ]
      refine wpAnyH_take (i := 3) (oi := { dst := some 22, op := Go.Op.fieldAddr 55 (Go.Operand.tmp 21) 0, type := 0, pos := "rig.go:94", after := #[{ on := 2, ground := Go.Ground.data }], guard := none }) (v := ?_) rfl (by kernel_rfl) (by kernel_rfl) (by kernel_rfl) (fun _ _ _ h => h) (Or.inl ⟨by rfl, ?_⟩) (by assumption) ?_
      rotate_left
      · (intro w hSw; (try dsimp only at hSw); go_simp; (try (with_reducible rfl)); done)
      try simp only [Act.put, List.setIfInBounds_toArray, List.set_cons_zero, List.set_cons_succ]
      refine wpAnyH_take (i := 4) (oi := { dst := some 23, op := Go.Op.indexAddr 51 (Go.Operand.tmp 22) (Go.Operand.tmp 20), type := 0, pos := "rig.go:94", after := #[{ on := 3, ground := Go.Ground.data }, { on := 1, ground := Go.Ground.data }], guard := none }) (v := ?_) rfl (by kernel_rfl) (by kernel_rfl) (by kernel_rfl) (fun _ _ _ h => h) (Or.inl ⟨by rfl, ?_⟩) (by assumption) ?_
      rotate_left
      · (intro w hSw; (try dsimp only at hSw); go_simp; (try (with_reducible rfl)); done)
      try simp only [Act.put, List.setIfInBounds_toArray, List.set_cons_zero, List.set_cons_succ]
      refine wpAnyH_take (i := 5) (oi := { dst := some 24, op := Go.Op.load 44 (Go.Operand.tmp 23), type := 44, pos := "rig.go:94", after := #[{ on := 4, ground := Go.Ground.data }], guard := none }) (v := ?_) rfl (by kernel_rfl) (by kernel_rfl) (by kernel_rfl) (fun _ _ _ h => h) (Or.inl ⟨by rfl, ?_⟩) (by assumption) ?_
      rotate_left
      · (intro w hSw; (try dsimp only at hSw); go_simp; (try (with_reducible rfl)); done)
      try simp only [Act.put, List.setIfInBounds_toArray, List.set_cons_zero, List.set_cons_succ]
      refine wpAnyH_take (i := 6) (oi := { dst := some 25, op := Go.Op.makeFunc (Go.Fn.func 43) #[Go.Operand.tmp 24] #[], type := 72, pos := "rig.go:94", after := #[{ on := 5, ground := Go.Ground.data }], guard := none }) (v := ?_) rfl (by kernel_rfl) (by kernel_rfl) (by kernel_rfl) (fun _ _ _ h => h) (Or.inl ⟨by rfl, ?_⟩) (by assumption) ?_
      rotate_left
      · (intro w hSw; (try dsimp only at hSw); go_simp; (try (with_reducible rfl)); done)
      try simp only [Act.put, List.setIfInBounds_toArray, List.set_cons_zero, List.set_cons_succ]
      refine wpAnyH_ready (rs := [7, 8]) (by kernel_rfl) (by simp) ?_
      refine AllReadyH.cons (o := { dst := some 9, op := Go.Op.alloc 9, type := 0, pos := "rig.go:94", after := #[], guard := none }) rfl (fun K hK => ?_) (AllReadyH.cons (o := { dst := some 10, op := Go.Op.alloc 72, type := 0, pos := "rig.go:94", after := #[], guard := none }) rfl (fun K hK => ?_) AllReadyH.nil)
      ·
        go_simp
        refine hK.out _ _ ?_ (fun hHeld => ?_)
        · (try dsimp only); exact keepRd q0 hpw (by first | exact bel1 _ _ | exact bel2 _ _ _)
        clear hK K
        try simp only [Act.put, List.setIfInBounds_toArray, List.set_cons_zero, List.set_cons_succ]
        refine wpAnyH_ready (rs := [8]) (by kernel_rfl) (by simp) ?_
        refine AllReadyH.cons (o := { dst := some 10, op := Go.Op.alloc 72, type := 0, pos := "rig.go:94", after := #[], guard := none }) rfl (fun K hK => ?_) AllReadyH.nil
        go_simp
        refine hK.out _ _ ?_ (fun hHeld => ?_)
        · (try dsimp only); exact keepRd q0 hpw (by first | exact bel1 _ _ | exact bel2 _ _ _)
        clear hK K
        try simp only [Act.put, List.setIfInBounds_toArray, List.set_cons_zero, List.set_cons_succ]
        refine wpAnyH_ready (rs := [9]) (by kernel_rfl) (by simp) ?_
        refine AllReadyH.cons (o := { dst := none, op := Go.Op.store 9 (Go.Operand.tmp 9) (Go.Operand.const (Go.Value.string { data := #[] })), type := 0, pos := "rig.go:94", after := #[{ on := 7, ground := Go.Ground.data }, { on := 0, ground := Go.Ground.textOnly Go.Departure.lateStores }, { on := 1, ground := Go.Ground.textOnly Go.Departure.lateStores }, { on := 2, ground := Go.Ground.textOnly Go.Departure.inlinedCapture }, { on := 3, ground := Go.Ground.textOnly Go.Departure.inlinedCapture }, { on := 4, ground := Go.Ground.textOnly Go.Departure.inlinedCapture }, { on := 5, ground := Go.Ground.textOnly Go.Departure.inlinedCapture }, { on := 6, ground := Go.Ground.textOnly Go.Departure.inlinedCapture }, { on := 7, ground := Go.Ground.phase }, { on := 8, ground := Go.Ground.phase }], guard := none }) rfl (fun K hK => ?_) AllReadyH.nil
        go_simp
        refine hK.out _ _ ?_ (fun hHeld => ?_)
        · (try dsimp only); exact keepRd q0 hpw (by first | exact bel1 _ _ | exact bel2 _ _ _)
        clear hK K
        try simp only [Act.put, List.setIfInBounds_toArray, List.set_cons_zero, List.set_cons_succ]
        refine wpAnyH_ready (rs := [10]) (by kernel_rfl) (by simp) ?_
        refine AllReadyH.cons (o := { dst := none, op := Go.Op.store 72 (Go.Operand.tmp 10) (Go.Operand.tmp 25), type := 0, pos := "rig.go:94", after := #[{ on := 8, ground := Go.Ground.data }, { on := 6, ground := Go.Ground.data }, { on := 9, ground := Go.Ground.chain }, { on := 0, ground := Go.Ground.phase }, { on := 1, ground := Go.Ground.phase }, { on := 2, ground := Go.Ground.phase }, { on := 3, ground := Go.Ground.phase }, { on := 4, ground := Go.Ground.phase }, { on := 5, ground := Go.Ground.phase }, { on := 6, ground := Go.Ground.phase }, { on := 7, ground := Go.Ground.phase }, { on := 8, ground := Go.Ground.phase }, { on := 9, ground := Go.Ground.phase }], guard := none }) rfl (fun K hK => ?_) AllReadyH.nil
        go_simp
        refine hK.out _ _ ?_ (fun hHeld => ?_)
        · (try dsimp only); exact keepRd q0 hpw (by first | exact bel1 _ _ | exact bel2 _ _ _)
        clear hK K
        try simp only [Act.put, List.setIfInBounds_toArray, List.set_cons_zero, List.set_cons_succ]
        refine wpAnyH_done (by kernel_rfl) ?_ _
        refine NoPanic.normal ?_
        go_wp2_with fail
        go_meet
        refine ⟨_, _, rfl, rfl, Lib.hid ⟨?_, ?_, ?_, ?_⟩, Lib.hid hHeld.2, Lib.hid (by constructor <;> simp)⟩
        all_goals clear hHeld
        · go_simp
        · exact (((bel2 _ _ _).cell (p := ⟨w.heap.size, 0, none⟩) hz).trans h5)
        · go_simp
        · go_simp
      ·
        go_simp
        refine hK.out _ _ ?_ (fun hHeld => ?_)
        · (try dsimp only); exact keepRd q0 hpw (by first | exact bel1 _ _ | exact bel2 _ _ _)
        clear hK K
        try simp only [Act.put, List.setIfInBounds_toArray, List.set_cons_zero, List.set_cons_succ]
        refine wpAnyH_ready (rs := [7]) (by kernel_rfl) (by simp) ?_
        refine AllReadyH.cons (o := { dst := some 9, op := Go.Op.alloc 9, type := 0, pos := "rig.go:94", after := #[], guard := none }) rfl (fun K hK => ?_) AllReadyH.nil
        go_simp
        refine hK.out _ _ ?_ (fun hHeld => ?_)
        · (try dsimp only); exact keepRd q0 hpw (by first | exact bel1 _ _ | exact bel2 _ _ _)
        clear hK K
        try simp only [Act.put, List.setIfInBounds_toArray, List.set_cons_zero, List.set_cons_succ]
        refine wpAnyH_ready (rs := [9]) (by kernel_rfl) (by simp) ?_
        refine AllReadyH.cons (o := { dst := none, op := Go.Op.store 9 (Go.Operand.tmp 9) (Go.Operand.const (Go.Value.string { data := #[] })), type := 0, pos := "rig.go:94", after := #[{ on := 7, ground := Go.Ground.data }, { on := 0, ground := Go.Ground.textOnly Go.Departure.lateStores }, { on := 1, ground := Go.Ground.textOnly Go.Departure.lateStores }, { on := 2, ground := Go.Ground.textOnly Go.Departure.inlinedCapture }, { on := 3, ground := Go.Ground.textOnly Go.Departure.inlinedCapture }, { on := 4, ground := Go.Ground.textOnly Go.Departure.inlinedCapture }, { on := 5, ground := Go.Ground.textOnly Go.Departure.inlinedCapture }, { on := 6, ground := Go.Ground.textOnly Go.Departure.inlinedCapture }, { on := 7, ground := Go.Ground.phase }, { on := 8, ground := Go.Ground.phase }], guard := none }) rfl (fun K hK => ?_) AllReadyH.nil
        go_simp
        refine hK.out _ _ ?_ (fun hHeld => ?_)
        · (try dsimp only); exact keepRd q0 hpw (by first | exact bel1 _ _ | exact bel2 _ _ _)
        clear hK K
        try simp only [Act.put, List.setIfInBounds_toArray, List.set_cons_zero, List.set_cons_succ]
        refine wpAnyH_ready (rs := [10]) (by kernel_rfl) (by simp) ?_
        refine AllReadyH.cons (o := { dst := none, op := Go.Op.store 72 (Go.Operand.tmp 10) (Go.Operand.tmp 25), type := 0, pos := "rig.go:94", after := #[{ on := 8, ground := Go.Ground.data }, { on := 6, ground := Go.Ground.data }, { on := 9, ground := Go.Ground.chain }, { on := 0, ground := Go.Ground.phase }, { on := 1, ground := Go.Ground.phase }, { on := 2, ground := Go.Ground.phase }, { on := 3, ground := Go.Ground.phase }, { on := 4, ground := Go.Ground.phase }, { on := 5, ground := Go.Ground.phase }, { on := 6, ground := Go.Ground.phase }, { on := 7, ground := Go.Ground.phase }, { on := 8, ground := Go.Ground.phase }, { on := 9, ground := Go.Ground.phase }], guard := none }) rfl (fun K hK => ?_) AllReadyH.nil
        go_simp
        refine hK.out _ _ ?_ (fun hHeld => ?_)
        · (try dsimp only); exact keepRd q0 hpw (by first | exact bel1 _ _ | exact bel2 _ _ _)
        clear hK K
        try simp only [Act.put, List.setIfInBounds_toArray, List.set_cons_zero, List.set_cons_succ]
        refine wpAnyH_done (by kernel_rfl) ?_ _
        refine NoPanic.normal ?_
        go_wp2_with fail
        go_meet
        refine ⟨_, _, rfl, rfl, Lib.hid ⟨?_, ?_, ?_, ?_⟩, Lib.hid hHeld.2, Lib.hid (by constructor <;> simp)⟩
        all_goals clear hHeld
        · go_simp
        · exact (((bel2 _ _ _).cell (p := ⟨w.heap.size, 0, none⟩) hz).trans h5)
        · go_simp
        · go_simp
    case rest =>
      obtain ⟨x9, x10, rfl, rfl, HF, HBx, HX⟩ := hcut
      have HRx := Lib.hid (HR1.out.below HBx.out)
      have hg1 : p.g1 < w.heap.size := HR.out.bound
      have n9 : p.g1 < x9 := by have := HX.out.1; omega
      have HN : Hid (x9 ∉ p.l ∧ x10 ∉ p.l ∧ w.heap.size ∉ p.l) := Lib.hid ⟨HR.out.ok.not n9, HR.out.ok.not (by have := HX.out.2; omega), HR.out.ok.not hg1⟩
      have HKx : Hid (Kq B p.l w wc) := Lib.hid ((Kq.of_below HB1.out hB).trans (Kq.of_below HBx.out (by omega)))
      have CD : Hid (Calls Try.prog 29 #[.pointer (some ⟨p.R, 0, none⟩), .func (.func 44) #[] #[.pointer (some ⟨x10, 0, none⟩), .pointer (some ⟨w.heap.size, 0, none⟩), .pointer (some ⟨x9, 0, none⟩)]] wc (StepP B p S c0 c1 (fun w2 k w' => k = 0 ∧ w2.setCell ⟨x9, 0, none⟩ (.string (S.hit0 c0 i).now) = w') wc)) := Lib.hid
        (step_any B p S c0 c1 _ _ #[] _ wc HRx.out hS read1_enter (Lib.hid (fun w2 h2 k2 => (read1_any p.g0 p.r0 i w.heap.size x9 x10 (S.hit0 c0) _ w2 h2.d0 hi (k2.cell HN.out.2.1 HF.out.h10) (k2.cell HN.out.2.2 HF.out.h5) (k2.cell HN.out.1 HF.out.h9) ((k2.frozen HN.out.1 (block_lt_of_cell HF.out.h9)).trans HF.out.f9)).mono (fun e w' h => ⟨0, h.1, rfl, h.2⟩))))
      clear q0 q1 h5
      go_wp2_with fail
      refine (CD.out).mono ?_
      rintro e w3 hst
      obtain ⟨k, rfl, h | h⟩ := hst.two HRx.out
      · obtain ⟨ho, rfl, hr, hk⟩ := h
        have c9 := hk.cell HN.out.1 HF.out.h9
        have HO := Lib.hid ho
        have HR3 := Lib.hid hr
        have HK3 := Lib.hid (HKx.out.trans hk)
        clear hr hk ho hst
        go_wp2_with fail
        go_ret2
        exact ⟨by first | rfl | (rw [if_neg HO.out]; rfl), HR3.out, HK3.out⟩
      · obtain ⟨ho, w2, hr, hk, rfl, rfl⟩ := h
        have c9 := World.cell?_setCell_same w2 ⟨x9, 0, none⟩ (.string (S.hit0 c0 i).now) (hk.cell HN.out.1 HF.out.h9)
        have HR3 := Lib.hid (hr.far (k := 0) (v := .string (S.hit0 c0 i).now) n9)
        have HK3 := Lib.hid ((HKx.out.trans hk).newCell (g := x9) 0 (.string (S.hit0 c0 i).now) (by have := HX.out.1; omega) (by have := HX.out.1; omega))
        have HO := Lib.hid ho
        have hsel : (sel (0 : Int) (S.c0 c0) (S.c1 c1) i).now = (S.hit0 c0 i).now := by rw [show sel (0 : Int) (S.c0 c0) (S.c1 c1) = S.c0 c0 from rfl, (RgS.go0 ho c0).1]
        have HE := Lib.hid hsel
        clear hr hk ho hst hsel
        generalize (S.hit0 c0 i).now = z at *
        generalize w2.setCell ⟨x9, 0, none⟩ (.string z) = w4 at *
        go_wp2_with fail
        go_ret2
        exact ⟨by first | (rw [HE.out]; rfl) | (rw [if_pos HO.out, HO.out, HE.out]; rfl), HR3.out, HK3.out⟩
  · go_enter Try.func15, Try.ntmps15
    go_upto_region 1 with fail
    rw [HW.out]
    go_wp2_with fail
    refine (CI.out _).mono ?_
    rintro e w' ⟨rfl, rfl⟩
    go_upto_region 4 with fail
    go_cut [9, 10] from 19 to 25 (fun s9 s10 wx => ∃ x9 x10, s9 = .pointer (some ⟨x9, 0, none⟩) ∧ s10 = .pointer (some ⟨x10, 0, none⟩) ∧ Hid (RdF wx p.g1 i w.heap.size x9 x10) ∧ Hid (Below w1.heap.size w1 wx) ∧ Hid (w1.heap.size ≤ x9 ∧ w1.heap.size ≤ x10))
    case first =>
      have hpw : p.R < w1.heap.size := by omega
      refine wp_region_noPanic ?_
      refine wp_region_held_drew (S := (fun w' => w'.cell? ⟨p.R, 1, none⟩ = some (.pointer (some ⟨p.g1, 0, none⟩)) ∧ Below w1.heap.size w1 w')) (by kernel_rfl) ?_ (fun hHeld => ?_)
      · (try dsimp only); exact ⟨q1, (Below.refl _ _).drew⟩
      refine wpAnyH_take (i := 0) (oi := { dst := some 19, op := Go.Op.move (Go.Operand.tmp 0), type := 23, pos := "rig.go:94", after := #[], guard := none }) (v := ?_) rfl (by kernel_rfl) (by kernel_rfl) (by kernel_rfl) (fun _ _ _ h => h) (Or.inl ⟨by rfl, ?_⟩) (by assumption) ?_
      rotate_left
      · (intro w hSw; (try dsimp only at hSw); go_simp; (try (with_reducible rfl)); done)
      try simp only [Act.put, List.setIfInBounds_toArray, List.set_cons_zero, List.set_cons_succ]
      refine wpAnyH_take (i := 1) (oi := { dst := some 20, op := Go.Op.move (Go.Operand.tmp 1), type := 3, pos := "rig.go:94", after := #[], guard := none }) (v := ?_) rfl (by kernel_rfl) (by kernel_rfl) (by kernel_rfl) (fun _ _ _ h => h) (Or.inl ⟨by rfl, ?_⟩) (by assumption) ?_
      rotate_left
      · (intro w hSw; (try dsimp only at hSw); go_simp; (try (with_reducible rfl)); done)
      try simp only [Act.put, List.setIfInBounds_toArray, List.set_cons_zero, List.set_cons_succ]
      refine wpAnyH_take (i := 2) (oi := { dst := some 21, op := Go.Op.nilCheck (Go.Operand.tmp 19), type := 0, pos := "rig.go:94", after := #[{ on := 0, ground := Go.Ground.data }], guard := none }) (v := ?_) rfl (by kernel_rfl) (by kernel_rfl) (by kernel_rfl) (fun _ _ _ h => h) (Or.inl ⟨by rfl, ?_⟩) (by assumption) ?_
      rotate_left
      · (intro w hSw; (try dsimp only at hSw); go_simp; (try (with_reducible rfl)); done)
      try simp only [Act.put, List.setIfInBounds_toArray, List.set_cons_zero, List.set_cons_succ]
      refine wpAnyH_take (i := 3) (oi := { dst := some 22, op := Go.Op.fieldAddr 55 (Go.Operand.tmp 21) 0, type := 0, pos := "rig.go:94", after := #[{ on := 2, ground := Go.Ground.data }], guard := none }) (v := ?_) rfl (by kernel_rfl) (by kernel_rfl) (by kernel_rfl) (fun _ _ _ h => h) (Or.inl ⟨by rfl, ?_⟩) (by assumption) ?_
      rotate_left
      · (intro w hSw; (try dsimp only at hSw); go_simp; (try (with_reducible rfl)); done)
      try simp only [Act.put, List.setIfInBounds_toArray, List.set_cons_zero, List.set_cons_succ]
      refine wpAnyH_take (i := 4) (oi := { dst := some 23, op := Go.Op.indexAddr 51 (Go.Operand.tmp 22) (Go.Operand.tmp 20), type := 0, pos := "rig.go:94", after := #[{ on := 3, ground := Go.Ground.data }, { on := 1, ground := Go.Ground.data }], guard := none }) (v := ?_) rfl (by kernel_rfl) (by kernel_rfl) (by kernel_rfl) (fun _ _ _ h => h) (Or.inl ⟨by rfl, ?_⟩) (by assumption) ?_
      rotate_left
      · (intro w hSw; (try dsimp only at hSw); go_simp; (try (with_reducible rfl)); done)
      try simp only [Act.put, List.setIfInBounds_toArray, List.set_cons_zero, List.set_cons_succ]
      refine wpAnyH_take (i := 5) (oi := { dst := some 24, op := Go.Op.load 44 (Go.Operand.tmp 23), type := 44, pos := "rig.go:94", after := #[{ on := 4, ground := Go.Ground.data }], guard := none }) (v := ?_) rfl (by kernel_rfl) (by kernel_rfl) (by kernel_rfl) (fun _ _ _ h => h) (Or.inl ⟨by rfl, ?_⟩) (by assumption) ?_
      rotate_left
      · (intro w hSw; (try dsimp only at hSw); go_simp; (try (with_reducible rfl)); done)
      try simp only [Act.put, List.setIfInBounds_toArray, List.set_cons_zero, List.set_cons_succ]
      refine wpAnyH_take (i := 6) (oi := { dst := some 25, op := Go.Op.makeFunc (Go.Fn.func 43) #[Go.Operand.tmp 24] #[], type := 72, pos := "rig.go:94", after := #[{ on := 5, ground := Go.Ground.data }], guard := none }) (v := ?_) rfl (by kernel_rfl) (by kernel_rfl) (by kernel_rfl) (fun _ _ _ h => h) (Or.inl ⟨by rfl, ?_⟩) (by assumption) ?_
      rotate_left
      · (intro w hSw; (try dsimp only at hSw); go_simp; (try (with_reducible rfl)); done)
      try simp only [Act.put, List.setIfInBounds_toArray, List.set_cons_zero, List.set_cons_succ]
      refine wpAnyH_ready (rs := [7, 8]) (by kernel_rfl) (by simp) ?_
      refine AllReadyH.cons (o := { dst := some 9, op := Go.Op.alloc 9, type := 0, pos := "rig.go:94", after := #[], guard := none }) rfl (fun K hK => ?_) (AllReadyH.cons (o := { dst := some 10, op := Go.Op.alloc 72, type := 0, pos := "rig.go:94", after := #[], guard := none }) rfl (fun K hK => ?_) AllReadyH.nil)
      ·
        go_simp
        refine hK.out _ _ ?_ (fun hHeld => ?_)
        · (try dsimp only); exact keepRd q1 hpw (by first | exact bel1 _ _ | exact bel2 _ _ _)
        clear hK K
        try simp only [Act.put, List.setIfInBounds_toArray, List.set_cons_zero, List.set_cons_succ]
        refine wpAnyH_ready (rs := [8]) (by kernel_rfl) (by simp) ?_
        refine AllReadyH.cons (o := { dst := some 10, op := Go.Op.alloc 72, type := 0, pos := "rig.go:94", after := #[], guard := none }) rfl (fun K hK => ?_) AllReadyH.nil
        go_simp
        refine hK.out _ _ ?_ (fun hHeld => ?_)
        · (try dsimp only); exact keepRd q1 hpw (by first | exact bel1 _ _ | exact bel2 _ _ _)
        clear hK K
        try simp only [Act.put, List.setIfInBounds_toArray, List.set_cons_zero, List.set_cons_succ]
        refine wpAnyH_ready (rs := [9]) (by kernel_rfl) (by simp) ?_
        refine AllReadyH.cons (o := { dst := none, op := Go.Op.store 9 (Go.Operand.tmp 9) (Go.Operand.const (Go.Value.string { data := #[] })), type := 0, pos := "rig.go:94", after := #[{ on := 7, ground := Go.Ground.data }, { on := 0, ground := Go.Ground.textOnly Go.Departure.lateStores }, { on := 1, ground := Go.Ground.textOnly Go.Departure.lateStores }, { on := 2, ground := Go.Ground.textOnly Go.Departure.inlinedCapture }, { on := 3, ground := Go.Ground.textOnly Go.Departure.inlinedCapture }, { on := 4, ground := Go.Ground.textOnly Go.Departure.inlinedCapture }, { on := 5, ground := Go.Ground.textOnly Go.Departure.inlinedCapture }, { on := 6, ground := Go.Ground.textOnly Go.Departure.inlinedCapture }, { on := 7, ground := Go.Ground.phase }, { on := 8, ground := Go.Ground.phase }], guard := none }) rfl (fun K hK => ?_) AllReadyH.nil
        go_simp
        refine hK.out _ _ ?_ (fun hHeld => ?_)
        · (try dsimp only); exact keepRd q1 hpw (by first | exact bel1 _ _ | exact bel2 _ _ _)
        clear hK K
        try simp only [Act.put, List.setIfInBounds_toArray, List.set_cons_zero, List.set_cons_succ]
        refine wpAnyH_ready (rs := [10]) (by kernel_rfl) (by simp) ?_
        refine AllReadyH.cons (o := { dst := none, op := Go.Op.store 72 (Go.Operand.tmp 10) (Go.Operand.tmp 25), type := 0, pos := "rig.go:94", after := #[{ on := 8, ground := Go.Ground.data }, { on := 6, ground := Go.Ground.data }, { on := 9, ground := Go.Ground.chain }, { on := 0, ground := Go.Ground.phase }, { on := 1, ground := Go.Ground.phase }, { on := 2, ground := Go.Ground.phase }, { on := 3, ground := Go.Ground.phase }, { on := 4, ground := Go.Ground.phase }, { on := 5, ground := Go.Ground.phase }, { on := 6, ground := Go.Ground.phase }, { on := 7, ground := Go.Ground.phase }, { on := 8, ground := Go.Ground.phase }, { on := 9, ground := Go.Ground.phase }], guard := none }) rfl (fun K hK => ?_) AllReadyH.nil
        go_simp
        refine hK.out _ _ ?_ (fun hHeld => ?_)
        · (try dsimp only); exact keepRd q1 hpw (by first | exact bel1 _ _ | exact bel2 _ _ _)
        clear hK K
        try simp only [Act.put, List.setIfInBounds_toArray, List.set_cons_zero, List.set_cons_succ]
        refine wpAnyH_done (by kernel_rfl) ?_ _
        refine NoPanic.normal ?_
        go_wp2_with fail
        go_meet
        refine ⟨_, _, rfl, rfl, Lib.hid ⟨?_, ?_, ?_, ?_⟩, Lib.hid hHeld.2, Lib.hid (by constructor <;> simp)⟩
        all_goals clear hHeld
        · go_simp
        · exact (((bel2 _ _ _).cell (p := ⟨w.heap.size, 0, none⟩) hz).trans h5)
        · go_simp
        · go_simp
      ·
        go_simp
        refine hK.out _ _ ?_ (fun hHeld => ?_)
        · (try dsimp only); exact keepRd q1 hpw (by first | exact bel1 _ _ | exact bel2 _ _ _)
        clear hK K
        try simp only [Act.put, List.setIfInBounds_toArray, List.set_cons_zero, List.set_cons_succ]
        refine wpAnyH_ready (rs := [7]) (by kernel_rfl) (by simp) ?_
        refine AllReadyH.cons (o := { dst := some 9, op := Go.Op.alloc 9, type := 0, pos := "rig.go:94", after := #[], guard := none }) rfl (fun K hK => ?_) AllReadyH.nil
        go_simp
        refine hK.out _ _ ?_ (fun hHeld => ?_)
        · (try dsimp only); exact keepRd q1 hpw (by first | exact bel1 _ _ | exact bel2 _ _ _)
        clear hK K
        try simp only [Act.put, List.setIfInBounds_toArray, List.set_cons_zero, List.set_cons_succ]
        refine wpAnyH_ready (rs := [9]) (by kernel_rfl) (by simp) ?_
        refine AllReadyH.cons (o := { dst := none, op := Go.Op.store 9 (Go.Operand.tmp 9) (Go.Operand.const (Go.Value.string { data := #[] })), type := 0, pos := "rig.go:94", after := #[{ on := 7, ground := Go.Ground.data }, { on := 0, ground := Go.Ground.textOnly Go.Departure.lateStores }, { on := 1, ground := Go.Ground.textOnly Go.Departure.lateStores }, { on := 2, ground := Go.Ground.textOnly Go.Departure.inlinedCapture }, { on := 3, ground := Go.Ground.textOnly Go.Departure.inlinedCapture }, { on := 4, ground := Go.Ground.textOnly Go.Departure.inlinedCapture }, { on := 5, ground := Go.Ground.textOnly Go.Departure.inlinedCapture }, { on := 6, ground := Go.Ground.textOnly Go.Departure.inlinedCapture }, { on := 7, ground := Go.Ground.phase }, { on := 8, ground := Go.Ground.phase }], guard := none }) rfl (fun K hK => ?_) AllReadyH.nil
        go_simp
        refine hK.out _ _ ?_ (fun hHeld => ?_)
        · (try dsimp only); exact keepRd q1 hpw (by first | exact bel1 _ _ | exact bel2 _ _ _)
        clear hK K
        try simp only [Act.put, List.setIfInBounds_toArray, List.set_cons_zero, List.set_cons_succ]
        refine wpAnyH_ready (rs := [10]) (by kernel_rfl) (by simp) ?_
        refine AllReadyH.cons (o := { dst := none, op := Go.Op.store 72 (Go.Operand.tmp 10) (Go.Operand.tmp 25), type := 0, pos := "rig.go:94", after := #[{ on := 8, ground := Go.Ground.data }, { on := 6, ground := Go.Ground.data }, { on := 9, ground := Go.Ground.chain }, { on := 0, ground := Go.Ground.phase }, { on := 1, ground := Go.Ground.phase }, { on := 2, ground := Go.Ground.phase }, { on := 3, ground := Go.Ground.phase }, { on := 4, ground := Go.Ground.phase }, { on := 5, ground := Go.Ground.phase }, { on := 6, ground := Go.Ground.phase }, { on := 7, ground := Go.Ground.phase }, { on := 8, ground := Go.Ground.phase }, { on := 9, ground := Go.Ground.phase }], guard := none }) rfl (fun K hK => ?_) AllReadyH.nil
        go_simp
        refine hK.out _ _ ?_ (fun hHeld => ?_)
        · (try dsimp only); exact keepRd q1 hpw (by first | exact bel1 _ _ | exact bel2 _ _ _)
        clear hK K
        try simp only [Act.put, List.setIfInBounds_toArray, List.set_cons_zero, List.set_cons_succ]
        refine wpAnyH_done (by kernel_rfl) ?_ _
        refine NoPanic.normal ?_
        go_wp2_with fail
        go_meet
        refine ⟨_, _, rfl, rfl, Lib.hid ⟨?_, ?_, ?_, ?_⟩, Lib.hid hHeld.2, Lib.hid (by constructor <;> simp)⟩
        all_goals clear hHeld
        · go_simp
        · exact (((bel2 _ _ _).cell (p := ⟨w.heap.size, 0, none⟩) hz).trans h5)
        · go_simp
        · go_simp
    case rest =>
      obtain ⟨x9, x10, rfl, rfl, HF, HBx, HX⟩ := hcut
      have HRx := Lib.hid (HR1.out.below HBx.out)
      have hg1 : p.g1 < w.heap.size := HR.out.bound
      have n9 : p.g1 < x9 := by have := HX.out.1; omega
      have HN : Hid (x9 ∉ p.l ∧ x10 ∉ p.l ∧ w.heap.size ∉ p.l) := Lib.hid ⟨HR.out.ok.not n9, HR.out.ok.not (by have := HX.out.2; omega), HR.out.ok.not hg1⟩
      have HKx : Hid (Kq B p.l w wc) := Lib.hid ((Kq.of_below HB1.out hB).trans (Kq.of_below HBx.out (by omega)))
      have CD : Hid (Calls Try.prog 29 #[.pointer (some ⟨p.R, 0, none⟩), .func (.func 44) #[] #[.pointer (some ⟨x10, 0, none⟩), .pointer (some ⟨w.heap.size, 0, none⟩), .pointer (some ⟨x9, 0, none⟩)]] wc (StepP B p S c0 c1 (fun w2 k w' => k = 0 ∧ w2.setCell ⟨x9, 0, none⟩ (.string (S.hit1 c1 i).now) = w') wc)) := Lib.hid
        (step_any B p S c0 c1 _ _ #[] _ wc HRx.out hS read1_enter (Lib.hid (fun w2 h2 k2 => (read1_any p.g1 p.r1 i w.heap.size x9 x10 (S.hit1 c1) _ w2 h2.d1 hi (k2.cell HN.out.2.1 HF.out.h10) (k2.cell HN.out.2.2 HF.out.h5) (k2.cell HN.out.1 HF.out.h9) ((k2.frozen HN.out.1 (block_lt_of_cell HF.out.h9)).trans HF.out.f9)).mono (fun e w' h => ⟨0, h.1, rfl, h.2⟩))))
      clear q1 q0 h5
      go_wp2_with fail
      refine (CD.out).mono ?_
      rintro e w3 hst
      obtain ⟨k, rfl, h | h⟩ := hst.two HRx.out
      · obtain ⟨ho, rfl, hr, hk⟩ := h
        have c9 := hk.cell HN.out.1 HF.out.h9
        have HO := Lib.hid ho
        have HR3 := Lib.hid hr
        have HK3 := Lib.hid (HKx.out.trans hk)
        clear hr hk ho hst
        go_wp2_with fail
        go_ret2
        exact ⟨by first | rfl | (rw [if_neg HO.out]; rfl), HR3.out, HK3.out⟩
      · obtain ⟨ho, w2, hr, hk, rfl, rfl⟩ := h
        have c9 := World.cell?_setCell_same w2 ⟨x9, 0, none⟩ (.string (S.hit1 c1 i).now) (hk.cell HN.out.1 HF.out.h9)
        have HR3 := Lib.hid (hr.far (k := 0) (v := .string (S.hit1 c1 i).now) n9)
        have HK3 := Lib.hid ((HKx.out.trans hk).newCell (g := x9) 0 (.string (S.hit1 c1 i).now) (by have := HX.out.1; omega) (by have := HX.out.1; omega))
        have HO := Lib.hid ho
        have hsel : (sel (1 : Int) (S.c0 c0) (S.c1 c1) i).now = (S.hit1 c1 i).now := by rw [show sel (1 : Int) (S.c0 c0) (S.c1 c1) = S.c1 c1 from rfl, (RgS.go0 ho c1).2]
        have HE := Lib.hid hsel
        clear hr hk ho hst hsel
        generalize (S.hit1 c1 i).now = z at *
        generalize w2.setCell ⟨x9, 0, none⟩ (.string z) = w4 at *
        go_wp2_with fail
        go_ret2
        exact ⟨by first | (rw [HE.out]; rfl) | (rw [if_pos HO.out, HO.out, HE.out]; rfl), HR3.out, HK3.out⟩
end Go.Proofs.Ytjmginkkjkbpoaa
