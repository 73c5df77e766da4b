/- The law PlanParts. -/
import Derived.Test.YtnlgkhggokloeaaPlS
namespace Go.Proofs.Ytnlgkhggokloeaa
open Go.ChangeShapes Go.WideShapes Go.Deep Go.RowKit
set_option linter.unusedVariables false
set_option linter.unusedSimpArgs false
theorem w64_smallV (q : Nat) (h : q ≤ 255) : wrap64 (q : Int) = (q : Int) := by unfold wrap64; omega
theorem conv_u8V (z : Nat) (h : z ≤ 255) (w : World) : (convert 5 3 (.int .u8 (z : Int))).run Try.prog w = .ok (.int .i64 (z : Int)) w := by
  go_simp
  rw [IntKind.wrap_i64]
  omega
theorem size_rec : ∀ w, (sizeOf 34).run Try.prog w = .ok 34 w := fun w => by kernel_rfl
def subR (ao : Option Addr) (c k : Nat) : Option Addr := if c = k then ao else ao.map (·.add (k * 34))
theorem slice_hR (ao : Option Addr) (n c k : Nat) (hk : k ≤ c) (w : World) : (Instr.slice 22 (.slice ao n c) none (some (.int .i64 k)) none).run Try.prog w = .ok (.slice ao k c) w := by
  have h1 : (0 : Int) ≤ (k : Int) ∧ (k : Int) ≤ (c : Int) := ⟨by omega, by omega⟩
  unfold Instr.slice
  simp only [Sem.run_bind, run_underlying Try.underlying22, Result.andThen_ok, Instr.sliceBounds, Instr.sliceBound, Sem.run_pure, asIntOf, if_pos h1, size_rec, Int.toNat_natCast]
  simp [addr0P]
theorem slice_lR (ao : Option Addr) (n c k : Nat) (hk : k ≤ n) (hn : n ≤ c) (w : World) : (Instr.slice 22 (.slice ao n c) (some (.int .i64 k)) none none).run Try.prog w = .ok (.slice (subR ao c k) (n - k) (c - k)) w := by
  have h1 : (0 : Int) ≤ (k : Int) ∧ (k : Int) ≤ (n : Int) := ⟨by omega, by omega⟩
  unfold Instr.slice
  simp only [Sem.run_bind, run_underlying Try.underlying22, Result.andThen_ok, Instr.sliceBounds, Instr.sliceBound, Sem.run_pure, asIntOf, if_pos h1, size_rec, Int.toNat_natCast]
  rfl
theorem RsAt.take {w : World} {ao : Option Addr} {L : List Rv} (h : RsAt w ao L) (k : Nat) : RsAt w ao (L.take k) := ⟨fun x hx => h.1 x (List.mem_of_mem_take hx), fun hp => by
  have hp' : 0 < L.length := by rw [List.length_take] at hp; omega
  obtain ⟨g, o, e, hg, hc⟩ := h.2 hp'
  refine ⟨g, o, e, hg, fun i hi => ?_⟩
  rw [List.getElem_take]
  exact hc i (by rw [List.length_take] at hi; omega)⟩
theorem RsAt.drop {w : World} {ao : Option Addr} {L : List Rv} (h : RsAt w ao L) (c k : Nat) (hc : L.length ≤ c) : RsAt w (subR ao c k) (L.drop k) := ⟨fun x hx => h.1 x (List.mem_of_mem_drop hx), fun hp => by
  have hk : k < L.length := by rw [List.length_drop] at hp; omega
  obtain ⟨g, o, rfl, hg, hcc⟩ := h.2 (by omega)
  refine ⟨g, o + k * 34, ?_, hg, fun i hi => ?_⟩
  · unfold subR
    rw [if_neg (by omega)]
    show some (Addr.add _ _) = _
    rw [Addr.add_lit]
  · rw [List.getElem_drop, show o + k * 34 + i * 34 = o + (k + i) * 34 by omega]
    exact hcc (k + i) (by rw [List.length_drop] at hi; omega)⟩
theorem four_fields : ∃ f0 f1 f2 f3, Try.prog.underlying 55 = some (.struct #[f0, f1, f2, f3]) ∧ (f0.type = 22 ∧ f0.offset = 0) ∧ (f1.type = 5 ∧ f1.offset = 1) ∧ (f2.type = 25 ∧ f2.offset = 2) ∧ (f3.type = 25 ∧ f3.offset = 3) :=
  ⟨_, _, _, _, Try.underlying55, ⟨rfl, rfl⟩, ⟨rfl, rfl⟩, ⟨rfl, rfl⟩, ⟨rfl, rfl⟩⟩
section
variable {H : Type} {enc : TypeId × Value → H} {w : World}
set_option maxRecDepth 100000 in
theorem open_four {r : Reach} {b0 : Nat} {v : Value} {d : DataW H} {p : List MemPlace} (hok : Value.okWide Try.prog w r b0 55 v) (h : DataW.Trod enc Try.prog w 0 (fun _ => true) true 55 v d p) :
    ∃ (aL : Option Addr) (cL : Nat) (L : List Rv) (z : Nat) (aA : Option Addr) (cA : Nat) (A : List Pu) (aB : Option Addr) (cB : Nat) (B : List Pu), v = .agg #[.slice aL L.length cL, .int .u8 (z : Int), .slice aA A.length cA, .slice aB B.length cB] ∧ z ≤ 255 ∧ L.length ≤ cL ∧ cL ≤ maxLen ∧ RsAt w aL L ∧ A.length ≤ cA ∧ cA ≤ maxLen ∧ PuAt w aA A ∧ Wf A ∧ B.length ≤ cB ∧ cB ≤ maxLen ∧ PuAt w aB B ∧ Wf B := by
  obtain ⟨f0, f1, f2, f3, hs, ⟨t0, o0⟩, ⟨t1, o1⟩, ⟨t2, o2⟩, ⟨t3, o3⟩⟩ := four_fields
  obtain ⟨cs, rfl, hsz⟩ := okWide_struct hs hok
  obtain ⟨l⟩ := cs
  have hl : l.length = 4 := hsz.trans (by kernel_rfl)
  obtain ⟨fuel, hf⟩ := h
  have e0 : (Value.agg ⟨l⟩).cells.toList = l := by simp [Value.cells]
  rw [e0] at hf
  obtain ⟨ys, n2, hn', hy, hlen, hyl, hf'⟩ := DataW.trod_struct hs hf
  have hyl4 : ys.length = 4 := hyl
  obtain ⟨y0, g0⟩ : ∃ y, ys[0]? = some y := ⟨_, List.getElem?_eq_getElem (by omega)⟩
  obtain ⟨y1, g1⟩ : ∃ y, ys[1]? = some y := ⟨_, List.getElem?_eq_getElem (by omega)⟩
  obtain ⟨y2, g2⟩ : ∃ y, ys[2]? = some y := ⟨_, List.getElem?_eq_getElem (by omega)⟩
  obtain ⟨y3, g3⟩ : ∃ y, ys[3]? = some y := ⟨_, List.getElem?_eq_getElem (by omega)⟩
  have k0 := hf' 0 f0 rfl
  have k1 := hf' 1 f1 rfl
  have k2 := hf' 2 f2 rfl
  have k3 := hf' 3 f3 rfl
  rw [t0, o0, g0, show Try.prog.cellsOf 22 = 1 from by kernel_rfl, take_one _ _ (by omega)] at k0
  rw [t1, o1, g1, show Try.prog.cellsOf 5 = 1 from by kernel_rfl, take_one _ _ (by omega)] at k1
  rw [t2, o2, g2, show Try.prog.cellsOf 25 = 1 from by kernel_rfl, take_one _ _ (by omega)] at k2
  rw [t3, o3, g3, show Try.prog.cellsOf 25 = 1 from by kernel_rfl, take_one _ _ (by omega)] at k3
  obtain ⟨aL, nL, cL, L, e0, p1, p2, p3, p4⟩ := open_recN k0
  obtain ⟨z, e1, hw⟩ := field_int Try.underlying5 k1
  obtain ⟨aA, nA, cA, A, e2, q1, q2, q3, q4, q5⟩ := open_puN k2
  obtain ⟨aB, nB, cB, B, e3, r1, r2, r3, r4, r5⟩ := open_puN k3
  have hzb : 0 ≤ z ∧ z ≤ 255 := by
    have h2 : IntKind.u8.min ≤ z ∧ z ≤ IntKind.u8.max := by simpa [Lit.wf] using hw
    rw [show IntKind.u8.min = 0 from by decide, show IntKind.u8.max = 255 from by decide] at h2
    exact h2
  subst p3 q3 r3
  obtain ⟨q, rfl⟩ : ∃ q : Nat, z = (q : Int) := ⟨z.toNat, by omega⟩
  refine ⟨aL, cL, L, q, aA, cA, A, aB, cB, B, ?_, by omega, p1, p2, p4, q1, q2, q4, q5, r1, r2, r4, r5⟩
  congr 1
  apply Array.ext_getElem?
  intro i
  rw [List.getElem?_toArray]
  rcases i with _ | _ | _ | _ | i
  · rw [List.getElem?_eq_getElem (by omega), e0]; rfl
  · rw [List.getElem?_eq_getElem (by omega), e1]; rfl
  · rw [List.getElem?_eq_getElem (by omega), e2]; rfl
  · rw [List.getElem?_eq_getElem (by omega), e3]; rfl
  · rw [List.getElem?_eq_none (by omega)]; rfl
end
theorem wf_all {L : List Pu} (h : Wf L) : Wf (setAll [] L) := fun p hp => h p (all_mem p hp)
theorem all_len (L : List Pu) : (setAll [] L).length ≤ L.length := by have := setAll_len [] L; simpa using this
set_option maxRecDepth 100000 in
set_option maxHeartbeats 16000000 in
theorem planParts_any (aL : Option Addr) (cL : Nat) (L : List Rv) (z : Nat) (aA : Option Addr) (cA : Nat) (A : List Pu) (aB : Option Addr) (cB : Nat) (B : List Pu) (w : World) (hz : z ≤ 255) (hLc : L.length ≤ cL) (hLm : cL ≤ maxLen) (hL : RsAt w aL L) (hAm : A.length ≤ maxLen) (hA : PuAt w aA A) (hAw : Wf A) (hBm : B.length ≤ maxLen) (hB : PuAt w aB B) (hBw : Wf B) :
    Calls Try.prog 6 #[.agg #[.slice aL L.length cL, .int .u8 (z : Int), .slice aA A.length cA, .slice aB B.length cB]] w fun e w' => e = .returned (.bool true) ∧ Below w.heap.size w w' := by
  have HL := Lib.hid hL
  have HA := Lib.hid hA
  have HB := Lib.hid hB
  have HWA := Lib.hid hAw
  have HWB := Lib.hid hBw
  obtain ⟨n, hnn⟩ : ∃ n, Hid (L.length = n) := ⟨_, Lib.hid rfl⟩
  obtain ⟨na, hna⟩ : ∃ n, Hid (A.length = n) := ⟨_, Lib.hid rfl⟩
  obtain ⟨nb, hnb⟩ : ∃ n, Hid (B.length = n) := ⟨_, Lib.hid rfl⟩
  rw [hnn.out] at hLc
  rw [hna.out] at hAm
  rw [hnb.out] at hBm
  rw [hnn.out, hna.out, hnb.out]
  unfold maxLen at hLm hAm hBm
  obtain ⟨w1, hw1⟩ : ∃ w1, w.alloc (.cells #[.slice aL n cL, .int .u8 (z : Int), .slice aA na cA, .slice aB nb cB] 55) = w1 := ⟨_, rfl⟩
  have b1 : Below w.heap.size w w1 := by rw [← hw1]; exact (Below.refl _ _).alloc (Nat.le_refl _) _
  have x0 : w1.cell? ⟨w.heap.size, 0, none⟩ = some (.slice aL n cL) := by rw [← hw1]; exact World.cell?_alloc_at _ _ _ _ rfl
  have x1 : w1.cell? ⟨w.heap.size, 1, none⟩ = some (.int .u8 (z : Int)) := by rw [← hw1]; exact World.cell?_alloc_at _ _ _ _ rfl
  have x2 : w1.cell? ⟨w.heap.size, 2, none⟩ = some (.slice aA na cA) := by rw [← hw1]; exact World.cell?_alloc_at _ _ _ _ rfl
  have x3 : w1.cell? ⟨w.heap.size, 3, none⟩ = some (.slice aB nb cB) := by rw [← hw1]; exact World.cell?_alloc_at _ _ _ _ rfl
  have HB1 := Lib.hid b1
  have HW1 := Lib.hid hw1
  obtain ⟨gx, hgx⟩ : ∃ gx, Hid (w.heap.size = gx) := ⟨_, Lib.hid rfl⟩
  rw [hgx.out] at x0 x1 x2 x3
  clear hw1 b1 hL hA hB hAw hBw
  go_enter Try.func6, Try.ntmps6
  go_upto_region 1 with fail
  rw [HW1.out, hgx.out]
  clear HW1
  refine wp_region_lin (S := (fun w' => w'.cell? ⟨gx, 0, none⟩ = some (.slice aL n cL) ∧ w'.cell? ⟨gx, 1, none⟩ = some (.int .u8 (z : Int)) ∧ w'.cell? ⟨gx, 2, none⟩ = some (.slice aA na cA) ∧ w'.cell? ⟨gx, 3, none⟩ = some (.slice aB nb cB))) [(0, true), (1, true), (2, true), (3, true), (4, true), (5, true), (6, true), (7, true), (8, true), (9, true), (10, true), (11, true)] (by kernel_rfl) (by kernel_rfl) rfl (by kernel_rfl) ?_ (fun hHeld => ?_)
  · (try dsimp only); exact ⟨x0, x1, x2, x3⟩
  (refine wpL_calm (o := { dst := some 15, op := Go.Op.fieldAddr 55 (Go.Operand.tmp 1) 0, type := 0, pos := "law.go:131", after := #[], guard := none }) (v := ?_) rfl (Or.inl ⟨by rfl, ?_⟩) ?_; rotate_left; (focus (intro w hSw; (try dsimp only at hSw); go_simp; (try (with_reducible rfl)); done)); try simp only [Act.put, List.setIfInBounds_toArray, List.set_cons_zero, List.set_cons_succ])
  (refine wpL_calm (o := { dst := some 16, op := Go.Op.load 22 (Go.Operand.tmp 15), type := 22, pos := "law.go:131", after := #[{ on := 0, ground := Go.Ground.data }], guard := none }) (v := ?_) rfl (Or.inl ⟨by rfl, ?_⟩) ?_; rotate_left; (focus (intro w hSw; (try dsimp only at hSw); go_simp; (try (with_reducible rfl)); done)); try simp only [Act.put, List.setIfInBounds_toArray, List.set_cons_zero, List.set_cons_succ])
  (refine wpL_calm (o := { dst := some 17, op := Go.Op.fieldAddr 55 (Go.Operand.tmp 1) 1, type := 0, pos := "law.go:131", after := #[{ on := 8, ground := Go.Ground.gcOnly Go.Departure.lateStores }], guard := none }) (v := ?_) rfl (Or.inl ⟨by rfl, ?_⟩) ?_; rotate_left; (focus (intro w hSw; (try dsimp only at hSw); go_simp; (try (with_reducible rfl)); done)); try simp only [Act.put, List.setIfInBounds_toArray, List.set_cons_zero, List.set_cons_succ])
  (refine wpL_calm (o := { dst := some 18, op := Go.Op.load 5 (Go.Operand.tmp 17), type := 5, pos := "law.go:131", after := #[{ on := 2, ground := Go.Ground.data }, { on := 8, ground := Go.Ground.gcOnly Go.Departure.lateStores }], guard := none }) (v := ?_) rfl (Or.inl ⟨by rfl, ?_⟩) ?_; rotate_left; (focus (intro w hSw; (try dsimp only at hSw); go_simp; (try (with_reducible rfl)); done)); try simp only [Act.put, List.setIfInBounds_toArray, List.set_cons_zero, List.set_cons_succ])
  (refine wpL_calm (o := { dst := some 19, op := Go.Op.fieldAddr 55 (Go.Operand.tmp 1) 2, type := 0, pos := "law.go:131", after := #[{ on := 9, ground := Go.Ground.gcOnly Go.Departure.lateStores }], guard := none }) (v := ?_) rfl (Or.inl ⟨by rfl, ?_⟩) ?_; rotate_left; (focus (intro w hSw; (try dsimp only at hSw); go_simp; (try (with_reducible rfl)); done)); try simp only [Act.put, List.setIfInBounds_toArray, List.set_cons_zero, List.set_cons_succ])
  (refine wpL_calm (o := { dst := some 20, op := Go.Op.load 25 (Go.Operand.tmp 19), type := 25, pos := "law.go:131", after := #[{ on := 4, ground := Go.Ground.data }, { on := 9, ground := Go.Ground.gcOnly Go.Departure.lateStores }], guard := none }) (v := ?_) rfl (Or.inl ⟨by rfl, ?_⟩) ?_; rotate_left; (focus (intro w hSw; (try dsimp only at hSw); go_simp; (try (with_reducible rfl)); done)); try simp only [Act.put, List.setIfInBounds_toArray, List.set_cons_zero, List.set_cons_succ])
  (refine wpL_calm (o := { dst := some 21, op := Go.Op.fieldAddr 55 (Go.Operand.tmp 1) 3, type := 0, pos := "law.go:131", after := #[{ on := 10, ground := Go.Ground.gcOnly Go.Departure.lateStores }], guard := none }) (v := ?_) rfl (Or.inl ⟨by rfl, ?_⟩) ?_; rotate_left; (focus (intro w hSw; (try dsimp only at hSw); go_simp; (try (with_reducible rfl)); done)); try simp only [Act.put, List.setIfInBounds_toArray, List.set_cons_zero, List.set_cons_succ])
  (refine wpL_calm (o := { dst := some 22, op := Go.Op.load 25 (Go.Operand.tmp 21), type := 25, pos := "law.go:131", after := #[{ on := 6, ground := Go.Ground.data }, { on := 10, ground := Go.Ground.gcOnly Go.Departure.lateStores }], guard := none }) (v := ?_) rfl (Or.inl ⟨by rfl, ?_⟩) ?_; rotate_left; (focus (intro w hSw; (try dsimp only at hSw); go_simp; (try (with_reducible rfl)); done)); try simp only [Act.put, List.setIfInBounds_toArray, List.set_cons_zero, List.set_cons_succ])
  (refine wpL_calm (o := { dst := some 3, op := Go.Op.assign (Go.Operand.tmp 16), type := 22, pos := "law.go:131", after := #[{ on := 1, ground := Go.Ground.data }, { on := 0, ground := Go.Ground.phase }, { on := 1, ground := Go.Ground.phase }, { on := 2, ground := Go.Ground.textOnly Go.Departure.lateStores }, { on := 3, ground := Go.Ground.textOnly Go.Departure.lateStores }, { on := 4, ground := Go.Ground.textOnly Go.Departure.lateStores }, { on := 5, ground := Go.Ground.textOnly Go.Departure.lateStores }, { on := 6, ground := Go.Ground.textOnly Go.Departure.lateStores }, { on := 7, ground := Go.Ground.textOnly Go.Departure.lateStores }], guard := none }) (v := ?_) rfl (Or.inl ⟨by rfl, ?_⟩) ?_; rotate_left; (focus (intro w hSw; (try dsimp only at hSw); go_simp; (try (with_reducible rfl)); done)); try simp only [Act.put, List.setIfInBounds_toArray, List.set_cons_zero, List.set_cons_succ])
  (refine wpL_calm (o := { dst := some 4, op := Go.Op.assign (Go.Operand.tmp 18), type := 5, pos := "law.go:131", after := #[{ on := 3, ground := Go.Ground.data }, { on := 8, ground := Go.Ground.chain }, { on := 0, ground := Go.Ground.phase }, { on := 1, ground := Go.Ground.phase }, { on := 2, ground := Go.Ground.phase }, { on := 3, ground := Go.Ground.phase }, { on := 4, ground := Go.Ground.textOnly Go.Departure.lateStores }, { on := 5, ground := Go.Ground.textOnly Go.Departure.lateStores }, { on := 6, ground := Go.Ground.textOnly Go.Departure.lateStores }, { on := 7, ground := Go.Ground.textOnly Go.Departure.lateStores }, { on := 8, ground := Go.Ground.phase }], guard := none }) (v := ?_) rfl (Or.inl ⟨by rfl, ?_⟩) ?_; rotate_left; (focus (intro w hSw; (try dsimp only at hSw); go_simp; (try (with_reducible rfl)); done)); try simp only [Act.put, List.setIfInBounds_toArray, List.set_cons_zero, List.set_cons_succ])
  (refine wpL_calm (o := { dst := some 5, op := Go.Op.assign (Go.Operand.tmp 20), type := 25, pos := "law.go:131", after := #[{ on := 5, ground := Go.Ground.data }, { on := 9, ground := Go.Ground.chain }, { on := 0, ground := Go.Ground.phase }, { on := 1, ground := Go.Ground.phase }, { on := 2, ground := Go.Ground.phase }, { on := 3, ground := Go.Ground.phase }, { on := 4, ground := Go.Ground.phase }, { on := 5, ground := Go.Ground.phase }, { on := 6, ground := Go.Ground.textOnly Go.Departure.lateStores }, { on := 7, ground := Go.Ground.textOnly Go.Departure.lateStores }, { on := 8, ground := Go.Ground.phase }, { on := 9, ground := Go.Ground.phase }], guard := none }) (v := ?_) rfl (Or.inl ⟨by rfl, ?_⟩) ?_; rotate_left; (focus (intro w hSw; (try dsimp only at hSw); go_simp; (try (with_reducible rfl)); done)); try simp only [Act.put, List.setIfInBounds_toArray, List.set_cons_zero, List.set_cons_succ])
  (refine wpL_calm (o := { dst := some 6, op := Go.Op.assign (Go.Operand.tmp 22), type := 25, pos := "law.go:131", after := #[{ on := 7, ground := Go.Ground.data }, { on := 10, ground := Go.Ground.chain }, { on := 0, ground := Go.Ground.phase }, { on := 1, ground := Go.Ground.phase }, { on := 2, ground := Go.Ground.phase }, { on := 3, ground := Go.Ground.phase }, { on := 4, ground := Go.Ground.phase }, { on := 5, ground := Go.Ground.phase }, { on := 6, ground := Go.Ground.phase }, { on := 7, ground := Go.Ground.phase }, { on := 8, ground := Go.Ground.phase }, { on := 9, ground := Go.Ground.phase }, { on := 10, ground := Go.Ground.phase }], guard := none }) (v := ?_) rfl (Or.inl ⟨by rfl, ?_⟩) ?_; rotate_left; (focus (intro w hSw; (try dsimp only at hSw); go_simp; (try (with_reducible rfl)); done)); try simp only [Act.put, List.setIfInBounds_toArray, List.set_cons_zero, List.set_cons_succ])
  refine wpL_nil ?_
  refine NoPanic.normal ?_
  have HB2 : Hid (Below w.heap.size w w1.drew) := Lib.hid HB1.out.drew
  clear HB1 x0 x1 x2 x3 hHeld
  generalize w1.drew = w2 at *
  have CF := Lib.hid (few_any aL cL L w2 (HL.out.below HB2.out) (by rw [hnn.out]; omega))
  rw [hnn.out] at CF
  go_wp2_with fail
  refine CF.out.mono ?_
  rintro e w3 ⟨b, rfl, HF, hb3⟩
  have HB3 := Lib.hid (HB2.out.trans (hb3.mono HB2.out.size))
  clear CF hb3 HB2
  cases b
  · as_aux_lemma =>
    go_wp2_with fail
    refine (awake32 w3).mono ?_
    rintro e w4 ⟨rfl, hb4⟩
    have HB4 := Lib.hid (HB3.out.trans (hb4.mono HB3.out.size))
    go_wp2_with fail
    go_ret
    exact ⟨rfl, HB4.out⟩
  · as_aux_lemma =>
    have HFF := Lib.hid (HF.out rfl)
    have hn10 : n ≤ 10 := by have := HFF.out.1; rwa [hnn.out] at this
    have CA := Lib.hid (light_any aA cA A w3 (HA.out.below HB3.out) (by rw [hna.out]; omega))
    rw [hna.out] at CA
    clear HF
    go_wp2_with fail
    refine CA.out.mono ?_
    rintro e w4 ⟨b, rfl, HLA, hb4⟩
    have HB4 := Lib.hid (HB3.out.trans (hb4.mono HB3.out.size))
    clear CA hb4 HB3
    cases b
    · as_aux_lemma =>
      go_wp2_with fail
      refine (awake32 w4).mono ?_
      rintro e w5 ⟨rfl, hb5⟩
      have HB5 := Lib.hid (HB4.out.trans (hb5.mono HB4.out.size))
      go_wp2_with fail
      go_ret
      exact ⟨rfl, HB5.out⟩
    · as_aux_lemma =>
      have ha80 : na < 80 := by have := (HLA.out rfl).1; rwa [hna.out] at this
      have CB := Lib.hid (light_any aB cB B w4 (HB.out.below HB4.out) (by rw [hnb.out]; omega))
      rw [hnb.out] at CB
      clear HLA
      go_wp2_with fail
      refine CB.out.mono ?_
      rintro e w5 ⟨b, rfl, HLB, hb5⟩
      have HB5 := Lib.hid (HB4.out.trans (hb5.mono HB4.out.size))
      clear CB hb5 HB4
      cases b
      · as_aux_lemma =>
        go_wp2_with fail
        refine (awake32 w5).mono ?_
        rintro e w6 ⟨rfl, hb6⟩
        have HB6 := Lib.hid (HB5.out.trans (hb6.mono HB5.out.size))
        go_wp2_with fail
        go_ret
        exact ⟨rfl, HB6.out⟩
      · as_aux_lemma =>
        have hb80 : nb < 80 := by have := (HLB.out rfl).1; rwa [hnb.out] at this
        clear HLB hAm hBm
        obtain ⟨i1, hi1, hy0, hy1, hy2⟩ := info_partsO info_putO
        obtain ⟨w6, hw6⟩ : ∃ w6, w5.alloc (.cells #[] 48) = w6 := ⟨_, rfl⟩
        have b6 : Below w5.heap.size w5 w6 := by rw [← hw6]; exact (Below.refl _ _).alloc (Nat.le_refl _) _
        have HO6 : Hid (w6.ownsRow w5.heap.size 48 2 (.slice (some ⟨w5.heap.size, 0, none⟩) 0 0) 0 []) := Lib.hid (by rw [← hw6]; exact ⟨rfl, .inr ⟨w5.heap.size, 0, #[], rfl, Nat.le_refl _, heap_alloc_new _ _, Nat.le_refl _, by unfold maxLen; omega, rfl, rfl⟩⟩)
        have hs6 : w5.heap.size ≤ w6.heap.size := b6.size
        have HS6 : Hid (Src Try.prog 2 25 (.slice aA na cA) na (puC A) w6) := Lib.hid (by rw [← hna.out]; exact src_pu ((HA.out.below HB5.out).below b6))
        have HB6 := Lib.hid (HB5.out.trans (b6.mono HB5.out.size))
        have HB56 := Lib.hid b6
        have HW6 := Lib.hid hw6
        clear hw6 b6
        go_upto_region 4 with fail
        have o1 : 0 + na ≤ maxLen := by unfold maxLen; omega
        have o2 : (0 + na) * 24 ≤ 140737488355328 := by omega
        have o3 : na + nb ≤ maxLen := by unfold maxLen; omega
        have o4 : (na + nb) * 24 ≤ 140737488355328 := by omega
        have hzs : (Value.agg #[.int .i64 0, .string ⟨#[]⟩]).cells.size = i1.size := by rw [hy1]; rfl
        go_wp2_with (first | (at_builtin; refine wpList_append_src _ rfl _ _ 25 25 rfl w5.heap.size 48 i1 (.agg #[.int .i64 0, .string ⟨#[]⟩]) Try.underlying25 hi1 hy0 hzs (.slice (some ⟨w5.heap.size, 0, none⟩) 0 0) 0 [] rfl (by rw [hy1]; first | exact HO6.out | (rw [HW6.out]; exact HO6.out)) (.slice aA na cA) na (puC A) rfl (by rw [hy1]; first | exact HS6.out | (rw [HW6.out]; exact HS6.out)) o1 (by rw [hy2]; exact o2) (by first | exact hs6 | (rw [HW6.out]; exact hs6)) ?_; rw [HW6.out]; intro v7 w7 hown7 hg7; have HB67 := Lib.hid ((Below.refl w5.heap.size w6).grown hg7 hs6 (fun j e => (HO6.out.lt j e).1)); have HB7 := Lib.hid (HB6.out.trans (HB67.out.mono HB5.out.size)); have HO7 := Lib.hid hown7; have HS7 : Hid (Src Try.prog 2 25 (.slice aB nb cB) nb (puC B) w7) := Lib.hid (by rw [← hnb.out]; exact src_pu (HB.out.below HB7.out)); have hs7 := Nat.le_trans hs6 HB67.out.size) | (at_builtin; refine wpList_append_src _ rfl _ _ 25 25 rfl w5.heap.size 48 i1 (.agg #[.int .i64 0, .string ⟨#[]⟩]) Try.underlying25 hi1 hy0 hzs v7 na (puC A) rfl (by rw [hy1]; simpa [hy1] using HO7.out) (.slice aB nb cB) nb (puC B) rfl (by rw [hy1]; exact HS7.out) o3 (by rw [hy2]; exact o4) hs7 ?_; intro v8 w8 hown8 hg8; have HB8 := Lib.hid (HB7.out.trans (((Below.refl w5.heap.size w7).grown hg8 hs7 (fun j e => (World.ownsRow.lt (by simpa [hy1] using HO7.out) j e).1)).mono HB5.out.size)); have HO8 : Hid (PuO w5.heap.size w8 v8 (A ++ B)) := Lib.hid (by unfold PuO; rw [List.length_append, hna.out, hnb.out, puC_app]; simpa [hy1] using hown8); obtain ⟨a8, c8, rfl, _, _, HPU8⟩ := own_puM HO8.out; have CO := Lib.hid (rof_any a8 c8 (A ++ B) w8 HPU8.out (by rw [List.length_append, hna.out, hnb.out]; omega))))
        rw [← List.length_append]
        have HWAB : Hid (∀ p ∈ A ++ B, InI p.1) := Lib.hid (fun p hp => (List.mem_append.1 hp).elim (HWA.out p) (HWB.out p))
        have hlab : (A ++ B).length ≤ 200 := by rw [List.length_append, hna.out, hnb.out]; omega
        have CBh := Lib.hid (fun w' hA' hB' => behind_any aA aB cA cB A B w' hA' hB' (by rw [hna.out]; omega) (by rw [hnb.out]; omega) HWA.out HWB.out)
        rw [hna.out, hnb.out] at CBh
        have hlen9 := all_len (A ++ B)
        obtain ⟨D, hD⟩ : ∃ D, Hid (setAll [] (A ++ B) = D) := ⟨_, Lib.hid rfl⟩
        rw [hD.out] at CO CBh hlen9
        clear HO8 HPU8 HO6 HS6 HB6 HB56 HW6 HB67 HB7 HO7 HS7 hown7 hg7 hown8 hg8 o1 o2 o3 o4 hs6 hs7 hzs hi1 hy0 hy1 hy2
        generalize (A ++ B).length = nab at *
        obtain ⟨nd, hnd⟩ : ∃ nd, Hid (D.length = nd) := ⟨_, Lib.hid rfl⟩
        rw [hnd.out] at hlen9
        refine CO.out.mono ?_
        rintro e w9 ⟨a9, c9, rfl, hpu9, hb9⟩
        have HB9 := Lib.hid (HB8.out.trans (hb9.mono HB8.out.size))
        have HP9 := Lib.hid hpu9
        have CB9 := Lib.hid (CBh.out w9 (HA.out.below HB9.out) (HB.out.below HB9.out))
        rw [hnd.out]
        clear CO HB8 hb9 hpu9 CBh
        go_wp2_with fail
        refine CB9.out.mono ?_
        rintro e w10 ⟨a10, c10, rfl, hpu10, hb10⟩
        have HB10 := Lib.hid (HB9.out.trans (hb10.mono HB9.out.size))
        have CS := Lib.hid (osame_any D D a10 a9 nd c10 nd c9 w10 hnd.out hnd.out (by omega) (by omega) hpu10 (HP9.out.below hb10))
        rw [decide_eq_true rfl] at CS
        rw [hnd.out]
        clear CB9 HB9 HP9 hb10 hpu10
        go_wp2_with fail
        refine CS.out.mono ?_
        rintro e w11 ⟨rfl, hb11⟩
        have HB11 := Lib.hid (HB10.out.trans (hb11.mono HB10.out.size))
        clear CS HB10 hb11
        have hal := allP_few HFF.out
        have CO := Lib.hid (of_any aL cL L w11 (HL.out.below HB11.out) (by rw [hnn.out]; omega) (by omega))
        unfold OfR at CO
        obtain ⟨E, HE⟩ : ∃ E, Hid (ofE L = E) := ⟨_, Lib.hid rfl⟩
        obtain ⟨P, HP⟩ : ∃ P, Hid (ofL L = P) := ⟨_, Lib.hid rfl⟩
        obtain ⟨m, hmm⟩ : ∃ m, Hid (P.length = m) := ⟨_, Lib.hid rfl⟩
        rw [hnn.out, HE.out, HP.out, hmm.out] at CO
        go_wp2_with fail
        refine CO.out.mono ?_
        rintro e w12 ⟨a12, c12, rfl, hpu12, hb12⟩
        have HB12 := Lib.hid (HB11.out.trans (hb12.mono HB11.out.size))
        have HP12 := Lib.hid hpu12
        clear CO HB11 hb12 hpu12
        by_cases hE : E = 0
        · as_aux_lemma =>
          subst hE
          have HPE : Hid (P = setAll [] (allP L)) := Lib.hid (by rw [← HP.out]; exact ofL_eq HE.out)
          have HCH := Lib.hid (ofE_all HE.out)
          obtain ⟨k, hk⟩ : ∃ k, z % (n + 1) = k := ⟨_, rfl⟩
          have hkn : k ≤ n := by have := Nat.mod_lt z (show 0 < n + 1 by omega); omega
          have hcv := conv_u8V z hz
          have hmod : (z : Int) % ((n : Int) + 1) = (k : Int) := by
            have h0 : (z : Int) % ((n + 1 : Nat) : Int) = ((z % (n + 1) : Nat) : Int) := by first | exact (Int.natCast_emod z (n + 1)).symm | exact (Int.ofNat_emod z (n + 1)).symm | rfl
            rw [hk] at h0
            rw [← h0]; simp
          have htm : Int.tmod (z : Int) ((n : Int) + 1) = (k : Int) := by rw [Int.tmod_eq_emod_of_nonneg (by omega)]; exact hmod
          have hn0 : ¬ (n : Int) + 1 = 0 := by omega
          have HTk : Hid (∀ x ∈ L.take k, chkE x.r = 0) := Lib.hid (fun x hx => HCH.out x (List.mem_of_mem_take hx))
          have HDk : Hid (∀ x ∈ L.drop k, chkE x.r = 0) := Lib.hid (fun x hx => HCH.out x (List.mem_of_mem_drop hx))
          have hsplit : allP (L.take k) ++ allP (L.drop k) = allP L := by rw [← allP_app, List.take_append_drop]
          have hl1 := congrArg List.length hsplit
          rw [List.length_append] at hl1
          have hlt : (L.take k).length = k := by rw [List.length_take, hnn.out]; omega
          have hld : (L.drop k).length = n - k := by rw [List.length_drop, hnn.out]
          have CT := Lib.hid (fun w' h => of_any aL cL (L.take k) w' (RsAt.take h k) (by rw [hlt]; omega) (by omega))
          have CD := Lib.hid (fun w' h => of_any (subR aL cL k) (cL - k) (L.drop k) w' (RsAt.drop h cL k (by rw [hnn.out]; exact hLc)) (by rw [hld]; omega) (by omega))
          unfold OfR at CT CD
          rw [ofL_eq (ofE_ok HTk.out), ofE_ok HTk.out, hlt] at CT
          rw [ofL_eq (ofE_ok HDk.out), ofE_ok HDk.out, hld] at CD
          have hwT := wf_all (allP_wf (fun x hx => HL.out.1 x (List.mem_of_mem_take hx) : ∀ x ∈ L.take k, RvOk w x))
          have hwD := wf_all (allP_wf (fun x hx => HL.out.1 x (List.mem_of_mem_drop hx) : ∀ x ∈ L.drop k, RvOk w x))
          have hcat := all_app (allP (L.take k)) (allP (L.drop k))
          rw [hsplit, ← HPE.out] at hcat
          have hlT := all_len (allP (L.take k))
          have hlD := all_len (allP (L.drop k))
          have hlP := all_len (allP L)
          rw [← HPE.out, hmm.out] at hlP
          have HWT := Lib.hid hwT
          have HWD := Lib.hid hwD
          have HCAT := Lib.hid hcat
          have hsh := fun w => slice_hR aL n cL k (by omega) w
          have hsl := fun w => slice_lR aL n cL k hkn hLc w
          generalize setAll [] (allP (L.take k)) = X at *
          generalize setAll [] (allP (L.drop k)) = Y at *
          obtain ⟨nx, hnx⟩ : ∃ nx, Hid (X.length = nx) := ⟨_, Lib.hid rfl⟩
          obtain ⟨ny, hny⟩ : ∃ ny, Hid (Y.length = ny) := ⟨_, Lib.hid rfl⟩
          have hnx9 : nx ≤ 800 := by rw [← hnx.out]; omega
          have hny9 : ny ≤ 800 := by rw [← hny.out]; omega
          rw [hnx.out] at CT
          rw [hny.out] at CD
          generalize subR aL cL k = aD at *
          have CT12 := Lib.hid (CT.out w12 (HL.out.below HB12.out))
          clear hwT hwD hcat hlT hlD hsplit hl1 hlt hld HTk HDk HCH hk CT
          go_wp2_with fail
          refine CT12.out.mono ?_
          rintro e w13 ⟨a13, c13, rfl, hpu13, hb13⟩
          have HB13 := Lib.hid (HB12.out.trans (hb13.mono HB12.out.size))
          have HP13 := Lib.hid (HP12.out.below hb13)
          have HX13 := Lib.hid hpu13
          have CD13 := Lib.hid (CD.out w13 (HL.out.below HB13.out))
          clear CT12 CD HB12 HP12 hb13 hpu13
          go_wp2_with fail
          refine CD13.out.mono ?_
          rintro e w14 ⟨a14, c14, rfl, hpu14, hb14⟩
          have HB14 := Lib.hid (HB13.out.trans (hb14.mono HB13.out.size))
          have HP14 := Lib.hid (HP13.out.below hb14)
          have HX14 := Lib.hid (HX13.out.below hb14)
          have HY14 := Lib.hid hpu14
          clear CD13 HB13 HP13 HX13 hb14 hpu14
          go_wp2_with fail
          refine (awake32 w14).mono ?_
          rintro e w15 ⟨rfl, hb15⟩
          have HB15 := Lib.hid (HB14.out.trans (hb15.mono HB14.out.size))
          have HP15 := Lib.hid (HP14.out.below hb15)
          have CB := Lib.hid (behind_any a13 a14 c13 c14 X Y w15 (HX14.out.below hb15) (HY14.out.below hb15) (by rw [hnx.out]; omega) (by rw [hny.out]; omega) HWT.out HWD.out)
          rw [HCAT.out, hnx.out, hny.out] at CB
          clear HB14 HP14 HX14 HY14 hb15
          go_wp2_with fail
          refine CB.out.mono ?_
          rintro e w16 ⟨a16, c16, rfl, hpu16, hb16⟩
          have HB16 := Lib.hid (HB15.out.trans (hb16.mono HB15.out.size))
          have CS := Lib.hid (osame_any P P a16 a12 m c16 m c12 w16 hmm.out hmm.out (by omega) (by omega) hpu16 (HP15.out.below hb16))
          rw [decide_eq_true rfl] at CS
          rw [hmm.out]
          clear CB HB15 HP15 hb16 hpu16
          go_wp2_with fail
          refine CS.out.mono ?_
          rintro e w17 ⟨rfl, hb17⟩
          have HB17 := Lib.hid (HB16.out.trans (hb17.mono HB16.out.size))
          clear CS HB16 hb17
          go_wp2_with fail
          go_ret
          exact ⟨by first | rfl | simp, HB17.out⟩
        · as_aux_lemma =>
          have hE1 : (E != 0) = true := by simpa using hE
          go_wp2_with fail
          refine (awake32 w12).mono ?_
          rintro e w13 ⟨rfl, hb13⟩
          have HB13 := Lib.hid (HB12.out.trans (hb13.mono HB12.out.size))
          go_wp2_with fail
          go_ret
          exact ⟨rfl, HB13.out⟩
section
variable {H : Type} {enc : TypeId × Value → H}
set_option maxRecDepth 100000 in
theorem planParts_walk {r : Reach} {b0 : Nat} (v : Value) (d : DataW H) (q : List MemPlace) (w : World) (hok : Value.okWide Try.prog w r b0 55 v) (h : DataW.Trod enc Try.prog w 0 (fun _ => true) true 55 v d q) :
    Calls Try.prog 6 #[v] w fun e w' => e = .returned (.bool true) ∧ Below w.heap.size w w' := by
  obtain ⟨aL, cL, L, z, aA, cA, A, aB, cB, B, rfl, h1, h2, h3, h4, h5, h6, h7, h8, h9, h10, h11, h12⟩ := open_four hok h
  exact planParts_any aL cL L z aA cA A aB cB B w h1 h2 h3 h4 (by omega) h7 h8 (by omega) h11 h12
end
end Go.Proofs.Ytnlgkhggokloeaa
