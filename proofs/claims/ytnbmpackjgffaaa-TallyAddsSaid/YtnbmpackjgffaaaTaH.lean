/- The contracts of tally's Add and Same. -/
import Derived.Test.YtnbmpackjgffaaaTaF
import Derived.Test.YtnbmpackjgffaaaTaD
namespace Go.Proofs.Ytnbmpackjgffaaa
open Go.RowKit Go.Deep
set_option linter.unusedVariables false
attribute [local go_sem] unary_negf run_store_complex run_store_float
def addTo (f g : Nat → Int) (k : Nat) : Nat → Int := fun j => if j < k then wrap64 (f j + g j) else f j
theorem addTo_zero (f g : Nat → Int) : addTo f g 0 = f := by funext j; unfold addTo; simp
theorem addTo_succ (f g : Nat → Int) (k : Nat) : addTo f g (k + 1) = upd (addTo f g k) k (wrap64 (addTo f g k k + g k)) := by
  funext j
  unfold addTo upd
  by_cases e : j = k
  · subst e; simp
  · by_cases h : j < k
    · have h2 : j < k + 1 := by omega
      simp [h, h2, e]
    · have h2 : ¬ j < k + 1 := by omega
      simp [h, h2, e]
structure AddAt (w wx : World) (A B : Tl) : Prop where
  a : TallyAt wx w.heap.size A
  b : TallyAt wx (w.heap.size + 1) B
  r : TallyAt wx (w.heap.size + 1 + 1) zeroT
  bl : Below w.heap.size w wx
theorem addAt_mk0 (w : World) (A B : Tl) : AddAt w (((w.alloc (.cells (tcells A) 28)).alloc (.cells (tcells B) 28)).alloc (.cells (tcells zeroT) 28)) A B := by
  have b0 : Below w.heap.size w (w.alloc (.cells (tcells A) 28)) := (Below.refl _ _).alloc (Nat.le_refl _) _
  have t0 : TallyAt (w.alloc (.cells (tcells A) 28)) w.heap.size A := heap_alloc_new _ _
  have s0 : (w.alloc (.cells (tcells A) 28)).heap.size = w.heap.size + 1 := by simp
  generalize w.alloc (.cells (tcells A) 28) = w0 at *
  have b1 : Below w0.heap.size w0 (w0.alloc (.cells (tcells B) 28)) := (Below.refl _ _).alloc (Nat.le_refl _) _
  have t1 : TallyAt (w0.alloc (.cells (tcells B) 28)) w0.heap.size B := heap_alloc_new _ _
  have s1 : (w0.alloc (.cells (tcells B) 28)).heap.size = w0.heap.size + 1 := by simp
  generalize w0.alloc (.cells (tcells B) 28) = w1 at *
  have b2 : Below w1.heap.size w1 (w1.alloc (.cells (tcells zeroT) 28)) := (Below.refl _ _).alloc (Nat.le_refl _) _
  have t2 : TallyAt (w1.alloc (.cells (tcells zeroT) 28)) w1.heap.size zeroT := heap_alloc_new _ _
  have s2 : (w1.alloc (.cells (tcells zeroT) 28)).heap.size = w1.heap.size + 1 := by simp
  generalize w1.alloc (.cells (tcells zeroT) 28) = w2 at *
  have e1 : w0.heap.size = w.heap.size + 1 := s0
  have e2 : w1.heap.size = w.heap.size + 1 + 1 := by omega
  rw [e1] at t1
  rw [e2] at t2
  exact ⟨(t0.below b1 (by omega)).below b2 (by omega), t1.below b2 (by omega), t2, (b0.trans (b1.mono (by omega))).trans (b2.mono (by omega))⟩
theorem addAt_mk (w : World) (A B : Tl) : Hid (AddAt w (((w.alloc (.cells (tcells A) 28)).alloc (.cells (tcells B) 28)).alloc (.cells #[.int .i64 0, .int .i64 0, .int .i64 0, .int .i64 0, .int .i64 0, .int .i64 0, .int .i64 0, .int .i64 0, .int .i64 0, .int .i64 0, .int .i64 0, .int .i64 0, .int .i64 0, .int .i64 0, .int .i64 0, .int .i64 0, .int .i64 0, .int .i64 0, .int .i64 0, .int .i64 0, .int .i64 0, .int .i64 0, .int .i64 0, .int .i64 0, .int .i64 0, .int .i64 0, .int .i64 0, .int .i64 0, .int .i64 0, .int .i64 0, .int .i64 0, .int .i64 0, .int .i64 0, .int .i64 0, .int .i64 0, .int .i64 0, .int .i64 0, .int .i64 0, .int .i64 0, .int .i64 0, .int .i64 0, .int .i64 0, .int .i64 0, .int .i64 0, .int .i64 0, .int .i64 0, .int .i64 0, .int .i64 0, .int .i64 0, .int .i64 0, .int .i64 0, .int .i64 0, .int .i64 0, .int .i64 0, .int .i64 0, .int .i64 0, .int .i64 0, .complex .f64 0 0] 28)) A B) := by
  have := addAt_mk0 w A B
  rw [zlit] at this
  exact Lib.hid this
theorem AddAt.put {w wx wy : World} {A A' B : Tl} {i : Nat} {v : Value} (h : AddAt w wx A B) (hy : wy = wx.setCell ⟨w.heap.size, i, none⟩ v) (hA : TallyAt wy w.heap.size A') : AddAt w wy A' B := by
  subst hy
  exact ⟨hA, h.b.other _ _ (by simp), h.r.other _ _ (by simp; omega), h.bl.setCell (p := ⟨w.heap.size, i, none⟩) (Nat.le_refl _) _⟩
theorem AddAt.drewN {w wx : World} {A B : Tl} (h : AddAt w wx A B) (n : Nat) : AddAt w (wx.drewN n) A B := ⟨h.a.drewN n, h.b.drewN n, h.r.drewN n, below_drewN h.bl n⟩
theorem AddAt.below {w wx wy : World} {A B : Tl} (h : AddAt w wx A B) (hb : Below wx.heap.size wx wy) : AddAt w wy A B := ⟨h.a.below hb h.a.lt, h.b.below hb h.b.lt, h.r.below hb h.r.lt, h.bl.trans (hb.mono h.bl.size)⟩
/-- What two tallies come to. -/
def AddTo (A B : Tl) (q : Nat) (C : Tl) : Prop := C.a = addTo A.a B.a 24 ∧ C.e = addTo A.e B.e 32 ∧ C.b = wrap64 (A.b + B.b) ∧ FAns (fadd A.x (turnF q (B.x, B.y)).1) C.x ∧ FAns (fadd A.y (turnF q (B.x, B.y)).2) C.y
set_option maxRecDepth 100000 in
set_option maxHeartbeats 4000000 in
theorem add_any (A B : Tl) (n : Int) (q : Nat) (w : World) (hq : n % 4 = (q : Int)) (hn : -9223372036854775808 ≤ n ∧ n ≤ 9223372036854775807) :
    Calls Try.prog 13 #[.agg (tcells A), .agg (tcells B), .int .i64 n] w fun e w' => (∃ C, e = .returned (.agg (tcells C)) ∧ AddTo A B q C) ∧ Below w.heap.size w w' := by
  have HT := Lib.hid (fun w => turn_any B.x B.y n w q hq hn)
  clear hq hn
  have HAA := addAt_mk w A B
  have HI := Lib.hid (fun (i : Nat) (hi : i < 24) (w : World) => index_row (P := Try.prog) B.a Try.underlying24 Try.underlying3 size_int rfl i hi w)
  have HJ := Lib.hid (fun (i : Nat) (hi : i < 32) (w : World) => index_row (P := Try.prog) B.e Try.underlying25 Try.underlying3 size_int rfl i hi w)
  have hra := HAA.out.b.ra
  go_enter Try.func13, Try.ntmps13
  go_wp2_with (refine wpList_load_mid rfl _ _ rfl (w.heap.size + 1) 0 rfl (rowL B.a 24) _ hra Try.underlying24 rfl (by rw [rowL_length]; kernel_rfl) ?_)
  obtain ⟨w3, HW3, HA3⟩ : ∃ w3, Hid ((((w.alloc (.cells (tcells A) 28)).alloc (.cells (tcells B) 28)).alloc (.cells #[.int .i64 0, .int .i64 0, .int .i64 0, .int .i64 0, .int .i64 0, .int .i64 0, .int .i64 0, .int .i64 0, .int .i64 0, .int .i64 0, .int .i64 0, .int .i64 0, .int .i64 0, .int .i64 0, .int .i64 0, .int .i64 0, .int .i64 0, .int .i64 0, .int .i64 0, .int .i64 0, .int .i64 0, .int .i64 0, .int .i64 0, .int .i64 0, .int .i64 0, .int .i64 0, .int .i64 0, .int .i64 0, .int .i64 0, .int .i64 0, .int .i64 0, .int .i64 0, .int .i64 0, .int .i64 0, .int .i64 0, .int .i64 0, .int .i64 0, .int .i64 0, .int .i64 0, .int .i64 0, .int .i64 0, .int .i64 0, .int .i64 0, .int .i64 0, .int .i64 0, .int .i64 0, .int .i64 0, .int .i64 0, .int .i64 0, .int .i64 0, .int .i64 0, .int .i64 0, .int .i64 0, .int .i64 0, .int .i64 0, .int .i64 0, .int .i64 0, .complex .f64 0 0] 28)) = w3) ∧ Hid (AddAt w w3 A B) := ⟨_, Lib.hid rfl, HAA⟩
  rw [HW3.out]
  clear HW3 hra HAA
  go_loopw [13] (fun x wi => ∃ i : Nat, x = .int .i64 i ∧ i ≤ 24 ∧ Hid (AddAt w wi { A with a := addTo A.a B.a i } B)) (fun x _ => 24 - (intOf x).toNat)
  case atStart => exact ⟨0, rfl, by omega, by rw [addTo_zero]; exact HA3⟩
  case round =>
    obtain ⟨i, rfl, hi, HS⟩ := hrel
    clear HA3
    by_cases hlt : i < 24
    · have hli : (i : Int) < 24 := by omega
      have ix := HI.out i hlt
      have c0 := HS.out.a.ca i hlt
      have f0 := HS.out.a.free i
      go_wp2
      go_roundw
      case rel => exact ⟨i + 1, by go_num, by omega, Lib.hid (HS.out.put rfl (by rw [addTo_succ A.a B.a i]; exact HS.out.a.puta i _ hlt))⟩
      case measure => simp [intOf]; omega
    · obtain rfl : i = 24 := by omega
      have hre := HS.out.b.re
      go_wp2_with (refine wpList_load_mid rfl _ _ rfl (w.heap.size + 1) 24 rfl (rowL B.e 32) _ hre Try.underlying25 rfl (by rw [rowL_length]; kernel_rfl) ?_)
      obtain ⟨wo, rfl⟩ : ∃ wo : World, wo = wr := ⟨_, rfl⟩
      go_loopw [28] (fun x wi => ∃ i : Nat, x = .int .i64 i ∧ i ≤ 32 ∧ Hid (AddAt w wi { A with a := addTo A.a B.a 24, e := addTo A.e B.e i } B)) (fun x _ => 32 - (intOf x).toNat)
      case atStart => exact ⟨0, rfl, by omega, by rw [addTo_zero]; exact HS⟩
      case round =>
        obtain ⟨i, rfl, hi, HS2⟩ := hrel
        clear HS hre
        by_cases hlt : i < 32
        · have hli : (i : Int) < 32 := by omega
          have ix := HJ.out i hlt
          have c0 := HS2.out.a.ce i hlt
          have f0 := HS2.out.a.free (24 + i)
          go_wp2
          go_roundw
          case rel => exact ⟨i + 1, by go_num, by omega, Lib.hid (HS2.out.put rfl (by rw [addTo_succ A.e B.e i]; exact HS2.out.a.pute i _ hlt))⟩
          case measure => simp [intOf]; omega
        · obtain rfl : i = 32 := by omega
          have c0 := HS2.out.a.cb
          have f0 := HS2.out.a.free 56
          have c1 := HS2.out.b.cb
          go_upto_region 12 with fail
          have HS3 : Hid (AddAt w (wr.setCell ⟨w.heap.size, 56, none⟩ (.int .i64 (wrap64 (A.b + B.b)))) { A with a := addTo A.a B.a 24, e := addTo A.e B.e 32, b := wrap64 (A.b + B.b) } B) := Lib.hid (HS2.out.put rfl (HS2.out.a.putb _))
          clear c0 f0 c1 HS2
          generalize wr.setCell ⟨w.heap.size, 56, none⟩ (.int .i64 (wrap64 (A.b + B.b))) = w4 at HS3 ⊢
          generalize hv : wrap64 (A.b + B.b) = v at HS3
          have HV := Lib.hid hv
          clear hv
          have c0 := HS3.out.a.cz
          have f0 := HS3.out.a.free 57
          have c1 := HS3.out.b.cz
          have l0 := HS3.out.a.lt
          have l1 := HS3.out.b.lt
          refine wp_region_lin (S := (fun w' => w'.cell? ⟨w.heap.size, 57, none⟩ = some (.complex .f64 A.x A.y) ∧ w'.cell? ⟨w.heap.size + 1, 57, none⟩ = some (.complex .f64 B.x B.y))) [(0, true), (1, true), (2, true), (3, true), (4, true), (5, false), (6, false), (7, true), (8, false)] (by kernel_rfl) (by kernel_rfl) rfl (by kernel_rfl) ?_ (fun hHeld => ?_)
          · (try dsimp only); exact ⟨c0, c1⟩
          (refine wpL_calm (o := { dst := some 47, op := Go.Op.fieldAddr 28 (Go.Operand.tmp 3) 3, type := 0, pos := "tally.go:65", after := #[], guard := none }) (v := ?_) rfl (Or.inl ⟨by rfl, ?_⟩) ?_; rotate_left; (focus (intro w hSw; (try dsimp only at hSw); go_simp; (try (with_reducible rfl)); done)); try simp only [Act.put, List.setIfInBounds_toArray, List.set_cons_zero, List.set_cons_succ])
          (refine wpL_calm (o := { dst := some 48, op := Go.Op.load 26 (Go.Operand.tmp 47), type := 26, pos := "tally.go:65", after := #[{ on := 0, ground := Go.Ground.data }], guard := none }) (v := ?_) rfl (Or.inl ⟨by rfl, ?_⟩) ?_; rotate_left; (focus (intro w hSw; (try dsimp only at hSw); go_simp; (try (with_reducible rfl)); done)); try simp only [Act.put, List.setIfInBounds_toArray, List.set_cons_zero, List.set_cons_succ])
          (refine wpL_calm (o := { dst := some 49, op := Go.Op.fieldAddr 28 (Go.Operand.tmp 4) 3, type := 0, pos := "tally.go:65", after := #[], guard := none }) (v := ?_) rfl (Or.inl ⟨by rfl, ?_⟩) ?_; rotate_left; (focus (intro w hSw; (try dsimp only at hSw); go_simp; (try (with_reducible rfl)); done)); try simp only [Act.put, List.setIfInBounds_toArray, List.set_cons_zero, List.set_cons_succ])
          (refine wpL_calm (o := { dst := some 50, op := Go.Op.load 26 (Go.Operand.tmp 49), type := 26, pos := "tally.go:65", after := #[{ on := 2, ground := Go.Ground.data }], guard := none }) (v := ?_) rfl (Or.inl ⟨by rfl, ?_⟩) ?_; rotate_left; (focus (intro w hSw; (try dsimp only at hSw); go_simp; (try (with_reducible rfl)); done)); try simp only [Act.put, List.setIfInBounds_toArray, List.set_cons_zero, List.set_cons_succ])
          (refine wpL_calm (o := { dst := some 51, op := Go.Op.move (Go.Operand.tmp 2), type := 3, pos := "tally.go:65", after := #[], guard := none }) (v := ?_) rfl (Or.inl ⟨by rfl, ?_⟩) ?_; rotate_left; (focus (intro w hSw; (try dsimp only at hSw); go_simp; (try (with_reducible rfl)); done)); try simp only [Act.put, List.setIfInBounds_toArray, List.set_cons_zero, List.set_cons_succ])
          refine wpL_loud1 (o := { dst := some 52, op := Go.Op.call { callee := Go.Callee.value (Go.Operand.func 22), args := #[Go.Operand.tmp 50, Go.Operand.tmp 51], argTypes := #[26, 3] }, type := 26, pos := "tally.go:65", after := #[{ on := 3, ground := Go.Ground.data }, { on := 4, ground := Go.Ground.data }], guard := none }) rfl (fun K hK => ?_)
          go_simp; go_at_call 22; ((with_reducible refine (HT.out _).mono ?_); rintro e w' ⟨rfl, hb⟩; have d0 := (hb.cell (p := ⟨w.heap.size, 57, none⟩) l0).trans c0; have g0 := (hb.frozen (p := ⟨w.heap.size, 57, none⟩) l0).trans f0; have d1 := (hb.cell (p := ⟨w.heap.size + 1, 57, none⟩) l1).trans c1)
          try go_wp2_with fail
          refine hK.out _ _ ?_ (fun hHeld => ?_)
          · (try dsimp only); exact ⟨d0, d1⟩
          clear hK K
          try simp only [Act.put, List.setIfInBounds_toArray, List.set_cons_zero, List.set_cons_succ]
          refine wpL_loud1 (o := { dst := some 53, op := Go.Op.call { callee := Go.Callee.value (Go.Operand.func 21), args := #[Go.Operand.tmp 48, Go.Operand.tmp 52], argTypes := #[26, 26] }, type := 26, pos := "tally.go:65", after := #[{ on := 1, ground := Go.Ground.data }, { on := 5, ground := Go.Ground.data }, { on := 5, ground := Go.Ground.chain }], guard := none }) rfl (fun K hK => ?_)
          go_simp; go_at_call 21; refine (plus_any _ _ _ _ _).mono ?_; rintro e w'' ⟨r, z, nn, rfl, hr, hz, rfl⟩
          try go_wp2_with fail
          refine hK.out _ _ ?_ (fun hHeld => ?_)
          · (try dsimp only); exact ⟨d0, d1⟩
          clear hK K
          try simp only [Act.put, List.setIfInBounds_toArray, List.set_cons_zero, List.set_cons_succ]
          (refine wpL_calm (o := { dst := some 54, op := Go.Op.fieldAddr 28 (Go.Operand.tmp 3) 3, type := 0, pos := "tally.go:65", after := #[{ on := 0, ground := Go.Ground.phase }, { on := 1, ground := Go.Ground.phase }, { on := 2, ground := Go.Ground.phase }, { on := 3, ground := Go.Ground.phase }, { on := 4, ground := Go.Ground.phase }, { on := 5, ground := Go.Ground.phase }, { on := 6, ground := Go.Ground.phase }], guard := none }) (v := ?_) rfl (Or.inl ⟨by rfl, ?_⟩) ?_; rotate_left; (focus (intro w hSw; (try dsimp only at hSw); go_simp; (try (with_reducible rfl)); done)); try simp only [Act.put, List.setIfInBounds_toArray, List.set_cons_zero, List.set_cons_succ])
          refine wpL_loud0 (o := { dst := none, op := Go.Op.store 26 (Go.Operand.tmp 54) (Go.Operand.tmp 53), type := 0, pos := "tally.go:65", after := #[{ on := 7, ground := Go.Ground.data }, { on := 6, ground := Go.Ground.data }, { on := 6, ground := Go.Ground.chain }, { on := 0, ground := Go.Ground.phase }, { on := 1, ground := Go.Ground.phase }, { on := 2, ground := Go.Ground.phase }, { on := 3, ground := Go.Ground.phase }, { on := 4, ground := Go.Ground.phase }, { on := 5, ground := Go.Ground.phase }, { on := 6, ground := Go.Ground.phase }], guard := none }) rfl (by kernel_rfl) (fun K hK => ?_)
          go_simp
          refine hK.out _ _ ?_
          clear hK K
          try simp only [Act.put, List.setIfInBounds_toArray, List.set_cons_zero, List.set_cons_succ]
          refine wpL_nil ?_
          refine NoPanic.normal ?_
          have HS4 : Hid (AddAt w ((w'.drewN nn).setCell ⟨w.heap.size, 57, none⟩ (.complex .f64 r z)) { A with a := addTo A.a B.a 24, e := addTo A.e B.e 32, b := v, x := r, y := z } B) := Lib.hid ((((HS3.out.drewN 1).below hb).drewN nn).put rfl ((((HS3.out.drewN 1).below hb).drewN nn).a.putz r z))
          have HR : Hid (AddTo A B q { A with a := addTo A.a B.a 24, e := addTo A.e B.e 32, b := v, x := r, y := z }) := Lib.hid ⟨rfl, rfl, HV.out.symm, hr, hz⟩
          clear d0 g0 d1 hr hz c0 f0 c1 l0 l1 HS3 HV
          generalize (w'.drewN nn).setCell ⟨w.heap.size, 57, none⟩ (.complex .f64 r z) = w5 at HS4 ⊢
          generalize ({ A with a := addTo A.a B.a 24, e := addTo A.e B.e 32, b := v, x := r, y := z } : Tl) = C at HS4 HR
          have ht := HS4.out.a
          have hr0 := HS4.out.r
          go_wp2_with (first
            | (refine wpList_load_row rfl _ _ rfl w.heap.size rfl 28 (tcells C) (0, 0) _ ht Try.underlying28 rfl (by rw [tcells_size]; kernel_rfl) ?_)
            | (refine wpList_store_row rfl _ _ _ rfl (w.heap.size + 1 + 1) (tcells C) rfl rfl 28 _ hr0 (by rw [tcells_size]; kernel_rfl) (by rw [tcells_size, tcells_size]) (tcells_one _) ?_))
          go_wp2
          have hh := setRow_heap w5 (w.heap.size + 1 + 1) _ (tcells C) 28 (0, 0) hr0
          refine bodyPost_ret_by (results_cell_row rfl _ _ (w.heap.size + 1 + 1) 28 (tcells C) (0, 0) _ rfl hh Try.underlying28 rfl (by rw [tcells_size]; kernel_rfl)) rfl ⟨⟨C, rfl, HR.out⟩, ?_⟩
          exact below_setRow HS4.out.bl (by omega) _
end Go.Proofs.Ytnbmpackjgffaaa
