/- The law TallyParts. -/
import Derived.Test.YtnbmpackjgffaaaTaN
import Derived.OrdersHeld
import Derived.Deep.RegionHeld3
namespace Go.Proofs.Ytnbmpackjgffaaa
open Go.RowKit Go.Deep Go.ChangeShapes Go.WideShapes
set_option linter.unusedVariables false
set_option linter.unusedSimpArgs false
attribute [local go_sem] unary_negf run_store_complex run_store_float
theorem sameT_self (C : Tl) : sameT C C = true := by
  have h1 : eqRow C.a C.a 24 = true := (eqRow_iff _ _ _).2 fun i _ => rfl
  have h2 : eqRow C.e C.e 32 = true := (eqRow_iff _ _ _).2 fun i _ => rfl
  unfold sameT
  rw [h1, h2, sameF_self, sameF_self]
  simp
theorem size_act : ∀ w, (sizeOf 57).run Try.prog w = .ok 11 w := fun w => by kernel_rfl
theorem size_told : ∀ w, (sizeOf 60).run Try.prog w = .ok 3 w := fun w => by kernel_rfl
theorem addr0 (ao : Option Addr) : ao.map (·.add 0) = ao := by cases ao <;> simp [Addr.add]
theorem slice_h {P : Program} {t e : TypeId} {sz : Nat} (ht : P.underlying t = some (.slice e)) (hsz : ∀ w, (sizeOf e).run P w = .ok sz w) (ao : Option Addr) (n c k : Nat) (hk : k ≤ c) (w : World) :
    (Instr.slice t (.slice ao n c) none (some (.int .i64 k)) none).run P w = .ok (.slice ao k c) w := by
  have h1 : (0 : Int) ≤ (k : Int) ∧ (k : Int) ≤ (c : Int) := ⟨by omega, by omega⟩
  unfold Instr.slice
  simp only [Sem.run_bind, run_underlying ht, Result.andThen_ok, Instr.sliceBounds, Instr.sliceBound, Sem.run_pure, asIntOf, if_pos h1, hsz, Int.toNat_natCast, Nat.zero_mul, Nat.sub_zero, addr0, ite_self]
theorem slice_lh {P : Program} {t e : TypeId} {sz : Nat} (ht : P.underlying t = some (.slice e)) (hsz : ∀ w, (sizeOf e).run P w = .ok sz w) (ao : Option Addr) (n c k N : Nat) (hk : k ≤ N) (hN : N ≤ c) (w : World) :
    (Instr.slice t (.slice ao n c) (some (.int .i64 k)) (some (.int .i64 N)) none).run P w = .ok (.slice (subA ao c k sz) (N - k) (c - k)) w := by
  have h1 : (0 : Int) ≤ (k : Int) ∧ (k : Int) ≤ (N : Int) := ⟨by omega, by omega⟩
  have h2 : (0 : Int) ≤ (N : Int) ∧ (N : Int) ≤ (c : Int) := ⟨by omega, by omega⟩
  unfold Instr.slice
  simp only [Sem.run_bind, run_underlying ht, Result.andThen_ok, Instr.sliceBounds, Instr.sliceBound, Sem.run_pure, asIntOf, if_pos h1, if_pos h2, hsz, Int.toNat_natCast]
  rfl
theorem alloc_step {K X : Act → World → Prop} {S : World → Prop} {a : Act} {W : World} {o : Obj} (hK : Shut (∀ a w, S w → (S w → X a w) → K a w)) (hS : S (W.alloc o)) (h : (W.alloc o).heap[W.heap.size]? = some o → S (W.alloc o) → X a (W.alloc o)) : K a (W.alloc o) :=
  hK.out _ _ hS (fun h1 => h (heap_alloc_new _ _) h1)
theorem blk_below {w w' : World} {b : Nat} {o : Obj} (hb : Below w.heap.size w w') (hz : w.heap[b]? = some o) : w'.heap[b]? = some o := (hb.block b (Array.getElem?_eq_some_iff.1 hz).1).trans hz
set_option maxRecDepth 100000 in
set_option maxHeartbeats 8000000 in
theorem tallyParts_body (ao bo : Option Addr) (n c m d : Nat) (K E : Nat → Int) (S : Nat → ByteArray) (at_ : Int) (w : World) (hn : n ≤ 4503599627370496) (hm : m ≤ 4503599627370496) (hc : n ≤ c) (hd : m ≤ d) (hcx : c ≤ 9223372036854775807) (hdx : d ≤ 9223372036854775807) (ha0 : 0 ≤ at_) (ha1 : at_ ≤ 255) (hA : ActsAt w ao n K) (hT : ToldAt w bo m E S) :
    Calls Try.prog 4 #[.slice ao n c, .slice bo m d, .int .u8 at_] w fun r w' => r = .returned (.bool true) ∧ Below w.heap.size w w' := by
  have HO := Lib.hid (of_any ao bo n c m d K E S w hn (by omega) hA hT)
  have HA := Lib.hid hA
  have HT := Lib.hid hT
  clear hA hT
  go_enter Try.func4, Try.ntmps4
  go_upto_region 1 with fail
  go_cut [7] from 13 (fun s7 wx => s7 = .int .i64 ((min n m : Nat) : Int) ∧ w = wx)
  case first =>
    go_wp2
    all_goals
      go_meet
      refine ⟨?_, rfl⟩
      congr 1
      omega
  case rest =>
  obtain ⟨rfl, rfl⟩ := hcut
  obtain ⟨N, hN⟩ : ∃ N, min n m = N := ⟨_, rfl⟩
  rw [hN] at HO ⊢
  have hNn : N ≤ n := by omega
  have hNm : N ≤ m := by omega
  clear hN
  obtain ⟨k, hk⟩ : ∃ k : Nat, at_ % ((N : Int) + 1) = (k : Int) := ⟨(at_ % ((N : Int) + 1)).toNat, by have := Int.emod_nonneg at_ (b := (N : Int) + 1) (by omega); omega⟩
  have hkN : k ≤ N := by have := Int.emod_lt_of_pos at_ (b := (N : Int) + 1) (by omega); omega
  have HKK := Lib.hid hk
  have hN0 : ((N : Int) + 1 == 0) = false := by have : ¬ ((N : Int) + 1 = 0) := by omega
                                                simpa using this
  clear hk
  go_upto_region 2 with fail
  go_cut [8] from 18 (fun s8 wx => s8 = .int .i64 (k : Int) ∧ w = wx)
  case first =>
    go_wp2
    go_meet
    exact ⟨by rw [← HKK.out], rfl⟩
  case rest =>
  obtain ⟨rfl, rfl⟩ := hcut
  clear HKK hN0 ha0 ha1
  go_wp2_with fail
  refine HO.out.mono ?_
  rintro e w1 ⟨rfl, b1⟩
  obtain ⟨w2, HW2, HT2, b2⟩ := stored_tally w1 (tl K E S N)
  have B2 := b1.trans (b2.mono b1.size)
  have hsl1 : ∀ w, (Instr.slice 22 (.slice ao n c) none (some (.int .i64 k)) none).run Try.prog w = .ok (.slice ao k c) w := slice_h Try.underlying22 size_act ao n c k (by omega)
  have hsl2 : ∀ w, (Instr.slice 23 (.slice bo m d) none (some (.int .i64 k)) none).run Try.prog w = .ok (.slice bo k d) w := slice_h Try.underlying23 size_told bo m d k (by omega)
  have hsl3 : ∀ w, (Instr.slice 22 (.slice ao n c) (some (.int .i64 k)) (some (.int .i64 N)) none).run Try.prog w = .ok (.slice (subA ao c k 11) (N - k) (c - k)) w := slice_lh Try.underlying22 size_act ao n c k N hkN (by omega)
  have hsl4 : ∀ w, (Instr.slice 23 (.slice bo m d) (some (.int .i64 k)) (some (.int .i64 N)) none).run Try.prog w = .ok (.slice (subA bo d k 3) (N - k) (d - k)) w := slice_lh Try.underlying23 size_told bo m d k N hkN (by omega)
  have HO1 : Hid (∀ w', Below w.heap.size w w' → Calls Try.prog 7 #[.slice ao k c, .slice bo k d] w' fun r w'' => r = .returned (.agg (tcells (tl K E S k))) ∧ Below w'.heap.size w' w'') := Lib.hid fun w' hb => by
    have := of_any ao bo k c k d K E S w' (by omega) (by omega) ((HA.out.below hb).take (by omega)) ((HT.out.below hb).take (by omega))
    rwa [Nat.min_self] at this
  have HO2 : Hid (∀ w', Below w.heap.size w w' → Calls Try.prog 7 #[.slice (subA ao c k 11) (N - k) (c - k), .slice (subA bo d k 3) (N - k) (d - k)] w' fun r w'' => r = .returned (.agg (tcells (tl (fun i => K (k + i)) (fun i => E (k + i)) (fun i => S (k + i)) (N - k)))) ∧ Below w'.heap.size w' w'') := Lib.hid fun w' hb => by
    have := of_any (subA ao c k 11) (subA bo d k 3) (N - k) (c - k) (N - k) (d - k) (fun i => K (k + i)) (fun i => E (k + i)) (fun i => S (k + i)) w' (by omega) (by omega) ((HA.out.below hb).sub hkN hNn hc) ((HT.out.below hb).sub hkN hNm hd)
    rwa [Nat.min_self] at this
  have HAD := Lib.hid (fun w => add_any (tl K E S k) (tl (fun i => K (k + i)) (fun i => E (k + i)) (fun i => S (k + i)) (N - k)) (k : Int) (k % 4) w (by omega) (by omega))
  have HPA := Lib.hid (fun C h => parts_add K E S k (N - k) C (by omega) h)
  rw [show k + (N - k) = N by omega] at HPA
  generalize tl (fun i => K (k + i)) (fun i => E (k + i)) (fun i => S (k + i)) (N - k) = T2 at HO2 HAD HPA
  generalize tl K E S k = T1 at HO1 HAD HPA
  generalize subA ao c k 11 = a2 at hsl3 HO2
  generalize subA bo d k 3 = b2' at hsl4 HO2
  generalize N - k = r at hsl3 hsl4 HO2
  generalize c - k = c2 at hsl3 HO2
  generalize d - k = d2 at hsl4 HO2
  go_wp2_with (refine wpList_store_row rfl _ _ _ rfl w1.heap.size (tcells (tl K E S N)) rfl rfl 28 _ (heap_alloc_new _ _) (by rw [tcells_size]; kernel_rfl) (by rw [tcells_size]; rfl) (tcells_one _) ?_; rw [HW2.out])
  clear HW2 b2
  have hg1 := b1.size
  generalize w1.heap.size = g at HT2 hg1 ⊢
  have HTT := Lib.hid HT2
  clear HT2 b1 HO
  simp only [Act.put]
  go_cut [10] from 26 (fun s10 wx => ∃ (C : Tl) (h : Nat), s10 = .pointer (some ⟨h, 0, none⟩) ∧ Hid (TallyAt wx g (tl K E S N) ∧ TallyAt wx h C ∧ AddTo T1 T2 (k % 4) C ∧ Below w.heap.size w wx))
  case first =>
    refine wp_region_noPanic ?_
    refine wp_region_held_drew (S := (fun w' => Below w.heap.size w w' ∧ TallyAt w' g (tl K E S N))) (by kernel_rfl) ?_ (fun hHeld => ?_)
    · (try dsimp only); exact ⟨B2.drew, HTT.out.drew⟩
    generalize World.drew w2 = w3 at hHeld ⊢
    refine wpAnyH_take (i := 0) (oi := { dst := some 26, op := Go.Op.move (Go.Operand.tmp 0), type := 22, pos := "law.go:41", after := #[], guard := none }) (v := ?_) rfl (by kernel_rfl) (by kernel_rfl) (by kernel_rfl) (fun _ _ _ h => h) (Or.inl ⟨by rfl, ?_⟩) (by assumption) ?_
    rotate_left
    · (intro w hSw; (try dsimp only at hSw); go_simp; (try (with_reducible rfl)); done)
    try simp only [Act.put, List.setIfInBounds_toArray, List.set_cons_zero, List.set_cons_succ]
    refine wpAnyH_take (i := 1) (oi := { dst := some 27, op := Go.Op.move (Go.Operand.tmp 8), type := 3, pos := "law.go:41", after := #[], guard := none }) (v := ?_) rfl (by kernel_rfl) (by kernel_rfl) (by kernel_rfl) (fun _ _ _ h => h) (Or.inl ⟨by rfl, ?_⟩) (by assumption) ?_
    rotate_left
    · (intro w hSw; (try dsimp only at hSw); go_simp; (try (with_reducible rfl)); done)
    try simp only [Act.put, List.setIfInBounds_toArray, List.set_cons_zero, List.set_cons_succ]
    refine wpAnyH_take (i := 2) (oi := { dst := some 28, op := Go.Op.slice 22 (Go.Operand.tmp 26) none (some (Go.Operand.tmp 27)) none, type := 22, pos := "law.go:41", after := #[{ on := 0, ground := Go.Ground.data }, { on := 1, ground := Go.Ground.data }], guard := none }) (v := ?_) rfl (by kernel_rfl) (by kernel_rfl) (by kernel_rfl) (fun _ _ _ h => h) (Or.inl ⟨by rfl, ?_⟩) (by assumption) ?_
    rotate_left
    · (intro w hSw; (try dsimp only at hSw); go_simp; (try (with_reducible rfl)); done)
    try simp only [Act.put, List.setIfInBounds_toArray, List.set_cons_zero, List.set_cons_succ]
    refine wpAnyH_take (i := 3) (oi := { dst := some 29, op := Go.Op.move (Go.Operand.tmp 1), type := 23, pos := "law.go:41", after := #[], guard := none }) (v := ?_) rfl (by kernel_rfl) (by kernel_rfl) (by kernel_rfl) (fun _ _ _ h => h) (Or.inl ⟨by rfl, ?_⟩) (by assumption) ?_
    rotate_left
    · (intro w hSw; (try dsimp only at hSw); go_simp; (try (with_reducible rfl)); done)
    try simp only [Act.put, List.setIfInBounds_toArray, List.set_cons_zero, List.set_cons_succ]
    refine wpAnyH_take (i := 4) (oi := { dst := some 30, op := Go.Op.move (Go.Operand.tmp 8), type := 3, pos := "law.go:41", after := #[], guard := none }) (v := ?_) rfl (by kernel_rfl) (by kernel_rfl) (by kernel_rfl) (fun _ _ _ h => h) (Or.inl ⟨by rfl, ?_⟩) (by assumption) ?_
    rotate_left
    · (intro w hSw; (try dsimp only at hSw); go_simp; (try (with_reducible rfl)); done)
    try simp only [Act.put, List.setIfInBounds_toArray, List.set_cons_zero, List.set_cons_succ]
    refine wpAnyH_take (i := 5) (oi := { dst := some 31, op := Go.Op.slice 23 (Go.Operand.tmp 29) none (some (Go.Operand.tmp 30)) none, type := 23, pos := "law.go:41", after := #[{ on := 3, ground := Go.Ground.data }, { on := 4, ground := Go.Ground.data }], guard := none }) (v := ?_) rfl (by kernel_rfl) (by kernel_rfl) (by kernel_rfl) (fun _ _ _ h => h) (Or.inl ⟨by rfl, ?_⟩) (by assumption) ?_
    rotate_left
    · (intro w hSw; (try dsimp only at hSw); go_simp; (try (with_reducible rfl)); done)
    try simp only [Act.put, List.setIfInBounds_toArray, List.set_cons_zero, List.set_cons_succ]
    refine wpAnyH_take (i := 7) (oi := { dst := some 33, op := Go.Op.move (Go.Operand.tmp 0), type := 22, pos := "law.go:41", after := #[], guard := none }) (v := ?_) rfl (by kernel_rfl) (by kernel_rfl) (by kernel_rfl) (fun _ _ _ h => h) (Or.inl ⟨by rfl, ?_⟩) (by assumption) ?_
    rotate_left
    · (intro w hSw; (try dsimp only at hSw); go_simp; (try (with_reducible rfl)); done)
    try simp only [Act.put, List.setIfInBounds_toArray, List.set_cons_zero, List.set_cons_succ]
    refine wpAnyH_take (i := 8) (oi := { dst := some 34, op := Go.Op.move (Go.Operand.tmp 8), type := 3, pos := "law.go:41", after := #[], guard := none }) (v := ?_) rfl (by kernel_rfl) (by kernel_rfl) (by kernel_rfl) (fun _ _ _ h => h) (Or.inl ⟨by rfl, ?_⟩) (by assumption) ?_
    rotate_left
    · (intro w hSw; (try dsimp only at hSw); go_simp; (try (with_reducible rfl)); done)
    try simp only [Act.put, List.setIfInBounds_toArray, List.set_cons_zero, List.set_cons_succ]
    refine wpAnyH_take (i := 9) (oi := { dst := some 35, op := Go.Op.move (Go.Operand.tmp 7), type := 3, pos := "law.go:41", after := #[], guard := none }) (v := ?_) rfl (by kernel_rfl) (by kernel_rfl) (by kernel_rfl) (fun _ _ _ h => h) (Or.inl ⟨by rfl, ?_⟩) (by assumption) ?_
    rotate_left
    · (intro w hSw; (try dsimp only at hSw); go_simp; (try (with_reducible rfl)); done)
    try simp only [Act.put, List.setIfInBounds_toArray, List.set_cons_zero, List.set_cons_succ]
    refine wpAnyH_take (i := 10) (oi := { dst := some 36, op := Go.Op.slice 22 (Go.Operand.tmp 33) (some (Go.Operand.tmp 34)) (some (Go.Operand.tmp 35)) none, type := 22, pos := "law.go:41", after := #[{ on := 7, ground := Go.Ground.data }, { on := 8, ground := Go.Ground.data }, { on := 9, ground := Go.Ground.data }], guard := none }) (v := ?_) rfl (by kernel_rfl) (by kernel_rfl) (by kernel_rfl) (fun _ _ _ h => h) (Or.inl ⟨by rfl, ?_⟩) (by assumption) ?_
    rotate_left
    · (intro w hSw; (try dsimp only at hSw); go_simp; (try (with_reducible rfl)); done)
    try simp only [Act.put, List.setIfInBounds_toArray, List.set_cons_zero, List.set_cons_succ]
    refine wpAnyH_take (i := 11) (oi := { dst := some 37, op := Go.Op.move (Go.Operand.tmp 1), type := 23, pos := "law.go:41", after := #[], guard := none }) (v := ?_) rfl (by kernel_rfl) (by kernel_rfl) (by kernel_rfl) (fun _ _ _ h => h) (Or.inl ⟨by rfl, ?_⟩) (by assumption) ?_
    rotate_left
    · (intro w hSw; (try dsimp only at hSw); go_simp; (try (with_reducible rfl)); done)
    try simp only [Act.put, List.setIfInBounds_toArray, List.set_cons_zero, List.set_cons_succ]
    refine wpAnyH_take (i := 12) (oi := { dst := some 38, op := Go.Op.move (Go.Operand.tmp 8), type := 3, pos := "law.go:41", after := #[], guard := none }) (v := ?_) rfl (by kernel_rfl) (by kernel_rfl) (by kernel_rfl) (fun _ _ _ h => h) (Or.inl ⟨by rfl, ?_⟩) (by assumption) ?_
    rotate_left
    · (intro w hSw; (try dsimp only at hSw); go_simp; (try (with_reducible rfl)); done)
    try simp only [Act.put, List.setIfInBounds_toArray, List.set_cons_zero, List.set_cons_succ]
    refine wpAnyH_take (i := 13) (oi := { dst := some 39, op := Go.Op.move (Go.Operand.tmp 7), type := 3, pos := "law.go:41", after := #[], guard := none }) (v := ?_) rfl (by kernel_rfl) (by kernel_rfl) (by kernel_rfl) (fun _ _ _ h => h) (Or.inl ⟨by rfl, ?_⟩) (by assumption) ?_
    rotate_left
    · (intro w hSw; (try dsimp only at hSw); go_simp; (try (with_reducible rfl)); done)
    try simp only [Act.put, List.setIfInBounds_toArray, List.set_cons_zero, List.set_cons_succ]
    refine wpAnyH_take (i := 14) (oi := { dst := some 40, op := Go.Op.slice 23 (Go.Operand.tmp 37) (some (Go.Operand.tmp 38)) (some (Go.Operand.tmp 39)) none, type := 23, pos := "law.go:41", after := #[{ on := 11, ground := Go.Ground.data }, { on := 12, ground := Go.Ground.data }, { on := 13, ground := Go.Ground.data }], guard := none }) (v := ?_) rfl (by kernel_rfl) (by kernel_rfl) (by kernel_rfl) (fun _ _ _ h => h) (Or.inl ⟨by rfl, ?_⟩) (by assumption) ?_
    rotate_left
    · (intro w hSw; (try dsimp only at hSw); go_simp; (try (with_reducible rfl)); done)
    try simp only [Act.put, List.setIfInBounds_toArray, List.set_cons_zero, List.set_cons_succ]
    refine wpAnyH_take (i := 16) (oi := { dst := some 42, op := Go.Op.move (Go.Operand.tmp 8), type := 3, pos := "law.go:41", after := #[], guard := none }) (v := ?_) rfl (by kernel_rfl) (by kernel_rfl) (by kernel_rfl) (fun _ _ _ h => h) (Or.inl ⟨by rfl, ?_⟩) (by assumption) ?_
    rotate_left
    · (intro w hSw; (try dsimp only at hSw); go_simp; (try (with_reducible rfl)); done)
    try simp only [Act.put, List.setIfInBounds_toArray, List.set_cons_zero, List.set_cons_succ]
    refine wpAnyH_ready (rs := [6, 18]) (by kernel_rfl) (by simp) ?_
    refine AllReadyH.cons (o := { dst := some 32, op := Go.Op.call { callee := Go.Callee.value (Go.Operand.func 7), args := #[Go.Operand.tmp 28, Go.Operand.tmp 31], argTypes := #[22, 23] }, type := 28, pos := "law.go:41", after := #[{ on := 2, ground := Go.Ground.data }, { on := 5, ground := Go.Ground.data }], guard := none }) rfl (fun K hK => ?_) (AllReadyH.cons (o := { dst := some 10, op := Go.Op.alloc 28, type := 0, pos := "law.go:41", after := #[], guard := none }) rfl (fun K hK => ?_) AllReadyH.nil)
    ·
      go_simp; go_at_call 7; ((with_reducible refine (HO1.out _ hHeld.1).mono ?_); rintro e w' ⟨rfl, hb⟩; (try have hz := blk_below hb hz))
      try go_wp2_with fail
      refine hK.out _ _ ?_ (fun hHeld => ?_)
      · (try dsimp only); exact ⟨hHeld.1.trans (hb.mono hHeld.1.size), hHeld.2.below hb hHeld.2.lt⟩
      clear hK K
      try simp only [Act.put, List.setIfInBounds_toArray, List.set_cons_zero, List.set_cons_succ]
      refine wpAnyH_ready (rs := [15, 18]) (by kernel_rfl) (by simp) ?_
      refine AllReadyH.cons (o := { dst := some 41, op := Go.Op.call { callee := Go.Callee.value (Go.Operand.func 7), args := #[Go.Operand.tmp 36, Go.Operand.tmp 40], argTypes := #[22, 23] }, type := 28, pos := "law.go:41", after := #[{ on := 10, ground := Go.Ground.data }, { on := 14, ground := Go.Ground.data }, { on := 6, ground := Go.Ground.chain }], guard := none }) rfl (fun K hK => ?_) (AllReadyH.cons (o := { dst := some 10, op := Go.Op.alloc 28, type := 0, pos := "law.go:41", after := #[], guard := none }) rfl (fun K hK => ?_) AllReadyH.nil)
      ·
        go_simp; go_at_call 7; ((with_reducible refine (HO2.out _ hHeld.1).mono ?_); rintro e w' ⟨rfl, hb⟩; (try have hz := blk_below hb hz))
        try go_wp2_with fail
        refine hK.out _ _ ?_ (fun hHeld => ?_)
        · (try dsimp only); exact ⟨hHeld.1.trans (hb.mono hHeld.1.size), hHeld.2.below hb hHeld.2.lt⟩
        clear hK K
        try simp only [Act.put, List.setIfInBounds_toArray, List.set_cons_zero, List.set_cons_succ]
        refine wpAnyH_ready (rs := [17, 18]) (by kernel_rfl) (by simp) ?_
        refine AllReadyH.cons (o := { dst := some 43, op := Go.Op.call { callee := Go.Callee.value (Go.Operand.func 13), args := #[Go.Operand.tmp 32, Go.Operand.tmp 41, Go.Operand.tmp 42], argTypes := #[28, 28, 3] }, type := 28, pos := "law.go:41", after := #[{ on := 6, ground := Go.Ground.data }, { on := 15, ground := Go.Ground.data }, { on := 16, ground := Go.Ground.data }, { on := 15, ground := Go.Ground.chain }], guard := none }) rfl (fun K hK => ?_) (AllReadyH.cons (o := { dst := some 10, op := Go.Op.alloc 28, type := 0, pos := "law.go:41", after := #[], guard := none }) rfl (fun K hK => ?_) AllReadyH.nil)
        ·
          go_simp; go_at_call 13; ((with_reducible refine (HAD.out _).mono ?_); rintro e w' ⟨⟨C, rfl, hC⟩, hb⟩; (try have hz := blk_below hb hz))
          try go_wp2_with fail
          refine hK.out _ _ ?_ (fun hHeld => ?_)
          · (try dsimp only); exact ⟨hHeld.1.trans (hb.mono hHeld.1.size), hHeld.2.below hb hHeld.2.lt⟩
          clear hK K
          try simp only [Act.put, List.setIfInBounds_toArray, List.set_cons_zero, List.set_cons_succ]
          refine wpAnyH_ready (rs := [18]) (by kernel_rfl) (by simp) ?_
          refine AllReadyH.cons (o := { dst := some 10, op := Go.Op.alloc 28, type := 0, pos := "law.go:41", after := #[], guard := none }) rfl (fun K hK => ?_) AllReadyH.nil
          have hne := hHeld.2.lt; go_simp
          refine alloc_step hK ⟨hHeld.1.alloc hHeld.1.size _, hHeld.2.below ((Below.refl _ _).alloc (Nat.le_refl _) _) hHeld.2.lt⟩ (fun hz hHeld => ?_)
          clear hK K
          try simp only [Act.put, List.setIfInBounds_toArray, List.set_cons_zero, List.set_cons_succ]
          refine wpAnyH_ready (rs := [19]) (by kernel_rfl) (by simp) ?_
          refine AllReadyH.cons (o := { dst := none, op := Go.Op.store 28 (Go.Operand.tmp 10) (Go.Operand.tmp 43), type := 0, pos := "law.go:41", after := #[{ on := 18, ground := Go.Ground.data }, { on := 17, ground := Go.Ground.data }, { on := 17, ground := Go.Ground.chain }, { on := 0, ground := Go.Ground.phase }, { on := 1, ground := Go.Ground.phase }, { on := 2, ground := Go.Ground.phase }, { on := 3, ground := Go.Ground.phase }, { on := 4, ground := Go.Ground.phase }, { on := 5, ground := Go.Ground.phase }, { on := 6, ground := Go.Ground.phase }, { on := 7, ground := Go.Ground.phase }, { on := 8, ground := Go.Ground.phase }, { on := 9, ground := Go.Ground.phase }, { on := 10, ground := Go.Ground.phase }, { on := 11, ground := Go.Ground.phase }, { on := 12, ground := Go.Ground.phase }, { on := 13, ground := Go.Ground.phase }, { on := 14, ground := Go.Ground.phase }, { on := 15, ground := Go.Ground.phase }, { on := 16, ground := Go.Ground.phase }, { on := 17, ground := Go.Ground.phase }, { on := 18, ground := Go.Ground.phase }], guard := none }) rfl (fun K hK => ?_) AllReadyH.nil
          rw [if_pos (by rfl)]; refine wp_store_row _ _ _ rfl _ (tcells C) rfl rfl 28 _ hz (by rw [tcells_size]; kernel_rfl) (by rw [tcells_size]; rfl) (tcells_one _) ?_
          refine hK.out _ _ ?_ (fun hHeld => ?_)
          · (try dsimp only); exact ⟨below_setRow hHeld.1 (Nat.le_trans hg1 (Nat.le_of_lt hne)) _, (setRow_other _ _ _ _ (Nat.ne_of_lt hne)).trans hHeld.2⟩
          clear hK K
          try simp only [Act.put, List.setIfInBounds_toArray, List.set_cons_zero, List.set_cons_succ]
          refine wpAnyH_done (by kernel_rfl) ?_ _
          refine NoPanic.normal ?_
          go_wp2
          go_meet
          exact ⟨C, _, rfl, Lib.hid ⟨hHeld.2, setRow_heap _ _ _ (tcells C) 28 (0, 0) hz, hC, hHeld.1⟩⟩
        ·
          have hne := hHeld.2.lt; go_simp
          refine alloc_step hK ⟨hHeld.1.alloc hHeld.1.size _, hHeld.2.below ((Below.refl _ _).alloc (Nat.le_refl _) _) hHeld.2.lt⟩ (fun hz hHeld => ?_)
          clear hK K
          try simp only [Act.put, List.setIfInBounds_toArray, List.set_cons_zero, List.set_cons_succ]
          refine wpAnyH_ready (rs := [17]) (by kernel_rfl) (by simp) ?_
          refine AllReadyH.cons (o := { dst := some 43, op := Go.Op.call { callee := Go.Callee.value (Go.Operand.func 13), args := #[Go.Operand.tmp 32, Go.Operand.tmp 41, Go.Operand.tmp 42], argTypes := #[28, 28, 3] }, type := 28, pos := "law.go:41", after := #[{ on := 6, ground := Go.Ground.data }, { on := 15, ground := Go.Ground.data }, { on := 16, ground := Go.Ground.data }, { on := 15, ground := Go.Ground.chain }], guard := none }) rfl (fun K hK => ?_) AllReadyH.nil
          go_simp; go_at_call 13; ((with_reducible refine (HAD.out _).mono ?_); rintro e w' ⟨⟨C, rfl, hC⟩, hb⟩; (try have hz := blk_below hb hz))
          try go_wp2_with fail
          refine hK.out _ _ ?_ (fun hHeld => ?_)
          · (try dsimp only); exact ⟨hHeld.1.trans (hb.mono hHeld.1.size), hHeld.2.below hb hHeld.2.lt⟩
          clear hK K
          try simp only [Act.put, List.setIfInBounds_toArray, List.set_cons_zero, List.set_cons_succ]
          refine wpAnyH_ready (rs := [19]) (by kernel_rfl) (by simp) ?_
          refine AllReadyH.cons (o := { dst := none, op := Go.Op.store 28 (Go.Operand.tmp 10) (Go.Operand.tmp 43), type := 0, pos := "law.go:41", after := #[{ on := 18, ground := Go.Ground.data }, { on := 17, ground := Go.Ground.data }, { on := 17, ground := Go.Ground.chain }, { on := 0, ground := Go.Ground.phase }, { on := 1, ground := Go.Ground.phase }, { on := 2, ground := Go.Ground.phase }, { on := 3, ground := Go.Ground.phase }, { on := 4, ground := Go.Ground.phase }, { on := 5, ground := Go.Ground.phase }, { on := 6, ground := Go.Ground.phase }, { on := 7, ground := Go.Ground.phase }, { on := 8, ground := Go.Ground.phase }, { on := 9, ground := Go.Ground.phase }, { on := 10, ground := Go.Ground.phase }, { on := 11, ground := Go.Ground.phase }, { on := 12, ground := Go.Ground.phase }, { on := 13, ground := Go.Ground.phase }, { on := 14, ground := Go.Ground.phase }, { on := 15, ground := Go.Ground.phase }, { on := 16, ground := Go.Ground.phase }, { on := 17, ground := Go.Ground.phase }, { on := 18, ground := Go.Ground.phase }], guard := none }) rfl (fun K hK => ?_) AllReadyH.nil
          rw [if_pos (by rfl)]; refine wp_store_row _ _ _ rfl _ (tcells C) rfl rfl 28 _ hz (by rw [tcells_size]; kernel_rfl) (by rw [tcells_size]; rfl) (tcells_one _) ?_
          refine hK.out _ _ ?_ (fun hHeld => ?_)
          · (try dsimp only); exact ⟨below_setRow hHeld.1 (Nat.le_trans hg1 (Nat.le_of_lt hne)) _, (setRow_other _ _ _ _ (Nat.ne_of_lt hne)).trans hHeld.2⟩
          clear hK K
          try simp only [Act.put, List.setIfInBounds_toArray, List.set_cons_zero, List.set_cons_succ]
          refine wpAnyH_done (by kernel_rfl) ?_ _
          refine NoPanic.normal ?_
          go_wp2
          go_meet
          exact ⟨C, _, rfl, Lib.hid ⟨hHeld.2, setRow_heap _ _ _ (tcells C) 28 (0, 0) hz, hC, hHeld.1⟩⟩
      ·
        have hne := hHeld.2.lt; go_simp
        refine alloc_step hK ⟨hHeld.1.alloc hHeld.1.size _, hHeld.2.below ((Below.refl _ _).alloc (Nat.le_refl _) _) hHeld.2.lt⟩ (fun hz hHeld => ?_)
        clear hK K
        try simp only [Act.put, List.setIfInBounds_toArray, List.set_cons_zero, List.set_cons_succ]
        refine wpAnyH_ready (rs := [15]) (by kernel_rfl) (by simp) ?_
        refine AllReadyH.cons (o := { dst := some 41, op := Go.Op.call { callee := Go.Callee.value (Go.Operand.func 7), args := #[Go.Operand.tmp 36, Go.Operand.tmp 40], argTypes := #[22, 23] }, type := 28, pos := "law.go:41", after := #[{ on := 10, ground := Go.Ground.data }, { on := 14, ground := Go.Ground.data }, { on := 6, ground := Go.Ground.chain }], guard := none }) rfl (fun K hK => ?_) AllReadyH.nil
        go_simp; go_at_call 7; ((with_reducible refine (HO2.out _ hHeld.1).mono ?_); rintro e w' ⟨rfl, hb⟩; (try have hz := blk_below hb hz))
        try go_wp2_with fail
        refine hK.out _ _ ?_ (fun hHeld => ?_)
        · (try dsimp only); exact ⟨hHeld.1.trans (hb.mono hHeld.1.size), hHeld.2.below hb hHeld.2.lt⟩
        clear hK K
        try simp only [Act.put, List.setIfInBounds_toArray, List.set_cons_zero, List.set_cons_succ]
        refine wpAnyH_ready (rs := [17]) (by kernel_rfl) (by simp) ?_
        refine AllReadyH.cons (o := { dst := some 43, op := Go.Op.call { callee := Go.Callee.value (Go.Operand.func 13), args := #[Go.Operand.tmp 32, Go.Operand.tmp 41, Go.Operand.tmp 42], argTypes := #[28, 28, 3] }, type := 28, pos := "law.go:41", after := #[{ on := 6, ground := Go.Ground.data }, { on := 15, ground := Go.Ground.data }, { on := 16, ground := Go.Ground.data }, { on := 15, ground := Go.Ground.chain }], guard := none }) rfl (fun K hK => ?_) AllReadyH.nil
        go_simp; go_at_call 13; ((with_reducible refine (HAD.out _).mono ?_); rintro e w' ⟨⟨C, rfl, hC⟩, hb⟩; (try have hz := blk_below hb hz))
        try go_wp2_with fail
        refine hK.out _ _ ?_ (fun hHeld => ?_)
        · (try dsimp only); exact ⟨hHeld.1.trans (hb.mono hHeld.1.size), hHeld.2.below hb hHeld.2.lt⟩
        clear hK K
        try simp only [Act.put, List.setIfInBounds_toArray, List.set_cons_zero, List.set_cons_succ]
        refine wpAnyH_ready (rs := [19]) (by kernel_rfl) (by simp) ?_
        refine AllReadyH.cons (o := { dst := none, op := Go.Op.store 28 (Go.Operand.tmp 10) (Go.Operand.tmp 43), type := 0, pos := "law.go:41", after := #[{ on := 18, ground := Go.Ground.data }, { on := 17, ground := Go.Ground.data }, { on := 17, ground := Go.Ground.chain }, { on := 0, ground := Go.Ground.phase }, { on := 1, ground := Go.Ground.phase }, { on := 2, ground := Go.Ground.phase }, { on := 3, ground := Go.Ground.phase }, { on := 4, ground := Go.Ground.phase }, { on := 5, ground := Go.Ground.phase }, { on := 6, ground := Go.Ground.phase }, { on := 7, ground := Go.Ground.phase }, { on := 8, ground := Go.Ground.phase }, { on := 9, ground := Go.Ground.phase }, { on := 10, ground := Go.Ground.phase }, { on := 11, ground := Go.Ground.phase }, { on := 12, ground := Go.Ground.phase }, { on := 13, ground := Go.Ground.phase }, { on := 14, ground := Go.Ground.phase }, { on := 15, ground := Go.Ground.phase }, { on := 16, ground := Go.Ground.phase }, { on := 17, ground := Go.Ground.phase }, { on := 18, ground := Go.Ground.phase }], guard := none }) rfl (fun K hK => ?_) AllReadyH.nil
        rw [if_pos (by rfl)]; refine wp_store_row _ _ _ rfl _ (tcells C) rfl rfl 28 _ hz (by rw [tcells_size]; kernel_rfl) (by rw [tcells_size]; rfl) (tcells_one _) ?_
        refine hK.out _ _ ?_ (fun hHeld => ?_)
        · (try dsimp only); exact ⟨below_setRow hHeld.1 (Nat.le_trans hg1 (Nat.le_of_lt hne)) _, (setRow_other _ _ _ _ (Nat.ne_of_lt hne)).trans hHeld.2⟩
        clear hK K
        try simp only [Act.put, List.setIfInBounds_toArray, List.set_cons_zero, List.set_cons_succ]
        refine wpAnyH_done (by kernel_rfl) ?_ _
        refine NoPanic.normal ?_
        go_wp2
        go_meet
        exact ⟨C, _, rfl, Lib.hid ⟨hHeld.2, setRow_heap _ _ _ (tcells C) 28 (0, 0) hz, hC, hHeld.1⟩⟩
    ·
      have hne := hHeld.2.lt; go_simp
      refine alloc_step hK ⟨hHeld.1.alloc hHeld.1.size _, hHeld.2.below ((Below.refl _ _).alloc (Nat.le_refl _) _) hHeld.2.lt⟩ (fun hz hHeld => ?_)
      clear hK K
      try simp only [Act.put, List.setIfInBounds_toArray, List.set_cons_zero, List.set_cons_succ]
      refine wpAnyH_ready (rs := [6]) (by kernel_rfl) (by simp) ?_
      refine AllReadyH.cons (o := { dst := some 32, op := Go.Op.call { callee := Go.Callee.value (Go.Operand.func 7), args := #[Go.Operand.tmp 28, Go.Operand.tmp 31], argTypes := #[22, 23] }, type := 28, pos := "law.go:41", after := #[{ on := 2, ground := Go.Ground.data }, { on := 5, ground := Go.Ground.data }], guard := none }) rfl (fun K hK => ?_) AllReadyH.nil
      go_simp; go_at_call 7; ((with_reducible refine (HO1.out _ hHeld.1).mono ?_); rintro e w' ⟨rfl, hb⟩; (try have hz := blk_below hb hz))
      try go_wp2_with fail
      refine hK.out _ _ ?_ (fun hHeld => ?_)
      · (try dsimp only); exact ⟨hHeld.1.trans (hb.mono hHeld.1.size), hHeld.2.below hb hHeld.2.lt⟩
      clear hK K
      try simp only [Act.put, List.setIfInBounds_toArray, List.set_cons_zero, List.set_cons_succ]
      refine wpAnyH_ready (rs := [15]) (by kernel_rfl) (by simp) ?_
      refine AllReadyH.cons (o := { dst := some 41, op := Go.Op.call { callee := Go.Callee.value (Go.Operand.func 7), args := #[Go.Operand.tmp 36, Go.Operand.tmp 40], argTypes := #[22, 23] }, type := 28, pos := "law.go:41", after := #[{ on := 10, ground := Go.Ground.data }, { on := 14, ground := Go.Ground.data }, { on := 6, ground := Go.Ground.chain }], guard := none }) rfl (fun K hK => ?_) AllReadyH.nil
      go_simp; go_at_call 7; ((with_reducible refine (HO2.out _ hHeld.1).mono ?_); rintro e w' ⟨rfl, hb⟩; (try have hz := blk_below hb hz))
      try go_wp2_with fail
      refine hK.out _ _ ?_ (fun hHeld => ?_)
      · (try dsimp only); exact ⟨hHeld.1.trans (hb.mono hHeld.1.size), hHeld.2.below hb hHeld.2.lt⟩
      clear hK K
      try simp only [Act.put, List.setIfInBounds_toArray, List.set_cons_zero, List.set_cons_succ]
      refine wpAnyH_ready (rs := [17]) (by kernel_rfl) (by simp) ?_
      refine AllReadyH.cons (o := { dst := some 43, op := Go.Op.call { callee := Go.Callee.value (Go.Operand.func 13), args := #[Go.Operand.tmp 32, Go.Operand.tmp 41, Go.Operand.tmp 42], argTypes := #[28, 28, 3] }, type := 28, pos := "law.go:41", after := #[{ on := 6, ground := Go.Ground.data }, { on := 15, ground := Go.Ground.data }, { on := 16, ground := Go.Ground.data }, { on := 15, ground := Go.Ground.chain }], guard := none }) rfl (fun K hK => ?_) AllReadyH.nil
      go_simp; go_at_call 13; ((with_reducible refine (HAD.out _).mono ?_); rintro e w' ⟨⟨C, rfl, hC⟩, hb⟩; (try have hz := blk_below hb hz))
      try go_wp2_with fail
      refine hK.out _ _ ?_ (fun hHeld => ?_)
      · (try dsimp only); exact ⟨hHeld.1.trans (hb.mono hHeld.1.size), hHeld.2.below hb hHeld.2.lt⟩
      clear hK K
      try simp only [Act.put, List.setIfInBounds_toArray, List.set_cons_zero, List.set_cons_succ]
      refine wpAnyH_ready (rs := [19]) (by kernel_rfl) (by simp) ?_
      refine AllReadyH.cons (o := { dst := none, op := Go.Op.store 28 (Go.Operand.tmp 10) (Go.Operand.tmp 43), type := 0, pos := "law.go:41", after := #[{ on := 18, ground := Go.Ground.data }, { on := 17, ground := Go.Ground.data }, { on := 17, ground := Go.Ground.chain }, { on := 0, ground := Go.Ground.phase }, { on := 1, ground := Go.Ground.phase }, { on := 2, ground := Go.Ground.phase }, { on := 3, ground := Go.Ground.phase }, { on := 4, ground := Go.Ground.phase }, { on := 5, ground := Go.Ground.phase }, { on := 6, ground := Go.Ground.phase }, { on := 7, ground := Go.Ground.phase }, { on := 8, ground := Go.Ground.phase }, { on := 9, ground := Go.Ground.phase }, { on := 10, ground := Go.Ground.phase }, { on := 11, ground := Go.Ground.phase }, { on := 12, ground := Go.Ground.phase }, { on := 13, ground := Go.Ground.phase }, { on := 14, ground := Go.Ground.phase }, { on := 15, ground := Go.Ground.phase }, { on := 16, ground := Go.Ground.phase }, { on := 17, ground := Go.Ground.phase }, { on := 18, ground := Go.Ground.phase }], guard := none }) rfl (fun K hK => ?_) AllReadyH.nil
      rw [if_pos (by rfl)]; refine wp_store_row _ _ _ rfl _ (tcells C) rfl rfl 28 _ hz (by rw [tcells_size]; kernel_rfl) (by rw [tcells_size]; rfl) (tcells_one _) ?_
      refine hK.out _ _ ?_ (fun hHeld => ?_)
      · (try dsimp only); exact ⟨below_setRow hHeld.1 (Nat.le_trans hg1 (Nat.le_of_lt hne)) _, (setRow_other _ _ _ _ (Nat.ne_of_lt hne)).trans hHeld.2⟩
      clear hK K
      try simp only [Act.put, List.setIfInBounds_toArray, List.set_cons_zero, List.set_cons_succ]
      refine wpAnyH_done (by kernel_rfl) ?_ _
      refine NoPanic.normal ?_
      go_wp2
      go_meet
      exact ⟨C, _, rfl, Lib.hid ⟨hHeld.2, setRow_heap _ _ _ (tcells C) 28 (0, 0) hz, hC, hHeld.1⟩⟩
  case rest =>
  obtain ⟨C, h, rfl, HH⟩ := hcut
  have T9 := HH.out.1
  have TC := HH.out.2.1
  have BB := HH.out.2.2.2
  obtain ⟨p1, p2, p3, p4, p5⟩ := HPA.out C HH.out.2.2.1
  clear HH HPA HAD HO1 HO2 HTT hsl1 hsl2 hsl3 hsl4 B2
  have HI := Lib.hid (errs_bd K E S N (by omega))
  have HS32 := Lib.hid (sum_errs K E S N)
  have HM := Lib.hid (fun w => tl_many K E S N (by omega) w)
  have hx := bx_bd qx qx_bd K E N
  have hy := bx_bd qy qy_bd K E N
  have hxl : (tl K E S N).x < 18446744073709551616 := fi_lt (by omega)
  have hyl : (tl K E S N).y < 18446744073709551616 := fi_lt (by omega)
  have HSS := Lib.hid (fun w => same_tally (tl K E S N) (tl K E S N) w hxl hyl hxl hyl)
  rw [sameT_self] at HSS
  have ox := fi_eq_self (bx_ qx K E N) (by omega)
  have oy := fi_eq_self (bx_ qy K E N) (by omega)
  have HT9 := Lib.hid T9
  have HTC := Lib.hid TC
  have e1 : (tl K E S N).x = fi (bx_ qx K E N) := rfl
  have e2 : (tl K E S N).y = fi (bx_ qy K E N) := rfl
  have HE1 := Lib.hid e1
  have HE2 := Lib.hid e2
  have HP := Lib.hid (show eqRow (tl K E S N).a C.a 24 = true ∧ eqRow (tl K E S N).e C.e 32 = true ∧ C.b = (tl K E S N).b ∧ C.x = fi (bx_ qx K E N) ∧ C.y = fi (bx_ qy K E N) from ⟨p1, p2, p3, p4, p5⟩)
  clear T9 TC p1 p2 p3 p4 p5 hx hy hxl hyl e1 e2
  generalize fi (bx_ qx K E N) = fx at *
  generalize fi (bx_ qy K E N) = fy at *
  generalize tl K E S N = T at *
  go_wp2
  go_loopw [11, 12] (fun s x wi => ∃ i : Nat, x = .int .i64 i ∧ i ≤ 32 ∧ s = .int .i64 (sumA T.e i) ∧ wc = wi) (fun _ x _ => 32 - (intOf x).toNat)
  case atStart => exact ⟨0, rfl, by omega, rfl, rfl⟩
  case round =>
    obtain ⟨i, rfl, hi, rfl, rfl⟩ := hrel
    by_cases hlt : i < 32
    · have hli : (i : Int) < 32 := by omega
      have c0 := HT9.out.ce i hlt
      have h1 := HI.out i hi
      have h2 := HI.out (i + 1) hlt
      rw [show sumA T.e (i + 1) = sumA T.e i + T.e i from rfl] at h2
      obtain ⟨h1a, h1b⟩ := h1
      obtain ⟨h2a, h2b⟩ := h2
      have e3 : sumA T.e (i + 1) = sumA T.e i + T.e i := rfl
      have E3 := Lib.hid e3
      clear e3
      generalize sumA T.e i = s0 at *
      generalize T.e i = t0 at *
      go_wp2
      go_roundw
      case rel => exact ⟨i + 1, by go_num, by omega, by rw [E3.out], by first | rfl | trivial⟩
      case measure => simp [intOf]; omega
    · obtain rfl : i = 32 := by omega
      rw [HS32.out]
      go_wp2_with fail
      refine (awake35 _).mono ?_
      rintro e w8 ⟨rfl, b8⟩
      have U9 := HT9.out.below b8 HT9.out.lt
      have UC := HTC.out.below b8 HTC.out.lt
      have B8 := BB.trans (b8.mono BB.size)
      obtain ⟨p1, p2, p3, p4, p5⟩ := HP.out
      have ra := U9.ra
      have rb := UC.ra
      have ea := U9.re
      have eb := UC.re
      have c0 := U9.cb
      have c1 := UC.cb
      have d0 := U9.cz
      have d1 := UC.cz
      rw [p3] at c1
      rw [HE1.out, HE2.out] at d0
      rw [p4, p5] at d1
      have q1 : ∀ w, (binOp .eql 24 (.agg (rowL T.a 24).toArray) (.agg (rowL C.a 24).toArray)).run Try.prog w = .ok (.bool (eqRow T.a C.a 24)) w := run_eql_row (P := Try.prog) T.a C.a Try.underlying24 Try.underlying3 size_int rfl
      have q2 : ∀ w, (binOp .eql 25 (.agg (rowL T.e 32).toArray) (.agg (rowL C.e 32).toArray)).run Try.prog w = .ok (.bool (eqRow T.e C.e 32)) w := run_eql_row (P := Try.prog) T.e C.e Try.underlying25 Try.underlying3 size_int rfl
      rw [p1] at q1
      rw [p2] at q2
      have ht9 : w8.heap[g]? = some (.cells (tcells T) 28 (0, 0)) := U9
      have HU9 := Lib.hid U9
      clear p1 p2 p3 p4 p5 U9 UC HT9 HTC HE1 HE2 HP HI HS32 b8 BB
      generalize T.b = tb at *
      go_wp2_with (first
        | (refine wpList_load_mid_g rfl _ _ rfl g 0 rfl (rowL T.a 24) _ ra Try.underlying24 rfl (by rw [rowL_length]; kernel_rfl) ?_)
        | (refine wpList_load_mid_g rfl _ _ rfl h 0 rfl (rowL C.a 24) _ rb Try.underlying24 rfl (by rw [rowL_length]; kernel_rfl) ?_)
        | (refine wpList_load_mid_g rfl _ _ rfl g 24 rfl (rowL T.e 32) _ ea Try.underlying25 rfl (by rw [rowL_length]; kernel_rfl) ?_)
        | (refine wpList_load_mid_g rfl _ _ rfl h 24 rfl (rowL C.e 32) _ eb Try.underlying25 rfl (by rw [rowL_length]; kernel_rfl) ?_)
        | (refine wpList_load_row_g rfl _ _ rfl g rfl 28 (tcells T) (0, 0) _ (by assumption) Try.underlying28 rfl (by rw [tcells_size]; kernel_rfl) ?_)
        | (go_at_call 12; ((with_reducible refine (HM.out _).mono ?_); rintro e w9 ⟨rfl, b9⟩; have ht10 : w9.heap[g]? = some (.cells (tcells T) 28 (0, 0)) := HU9.out.below b9 HU9.out.lt))
        | (go_at_call 14; ((with_reducible refine (HSS.out _).mono ?_); rintro e w10 ⟨rfl, b10⟩)))
      go_ret
      exact ⟨rfl, (B8.trans (b9.mono B8.size)).trans (b10.mono (Nat.le_trans B8.size b9.size))⟩
theorem tallyParts_walk {H : Type} {enc : TypeId × Value → H} (v : Value) (d : DataW H) (p : List MemPlace) (u : Value) (e : DataW H) (q : List MemPlace) (at_ : Int) (w : World)
    (hok : ∃ a len cap, v = .slice a len cap) (h : DataW.Trod enc Try.prog w 0 (fun _ => true) true 22 v d p) (hok2 : ∃ a len cap, u = .slice a len cap) (h2 : DataW.Trod enc Try.prog w 0 (fun _ => true) true 23 u e q)
    (ha : (Lit.int .u8 at_).wf = true)
    (z : ∀ es sp, d = .slice es sp → (es.length + sp.length) * Try.prog.bytesOf 57 ≤ reachBytes) (z2 : ∀ es sp, e = .slice es sp → (es.length + sp.length) * Try.prog.bytesOf 60 ≤ reachBytes) :
    Calls Try.prog 4 #[v, u, .int .u8 at_] w fun e w' => e = .returned (.bool true) ∧ Below w.heap.size w w' := by
  obtain ⟨ao, n, c, K, rfl, hn, hc, hA⟩ := open_acts hok h z
  obtain ⟨bo, m, d', E, S, rfl, hm, hd, hT⟩ := open_told hok2 h2 z2
  have hb := bounds_u8 ha
  exact tallyParts_body ao bo n c m d' K E S at_ w hn hm hc.1 hd.1 hc.2 hd.2 hb.1 hb.2 hA hT
end Go.Proofs.Ytnbmpackjgffaaa
