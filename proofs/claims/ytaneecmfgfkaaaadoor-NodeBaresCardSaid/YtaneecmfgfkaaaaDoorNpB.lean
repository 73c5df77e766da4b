/- The law NodeBares (made by gennpb.py). -/
import Derived.Test.YtaneecmfgfkaaaaDoorNpA
namespace Go.Proofs.YtaneecmfgfkaaaaDoor
open Go.RowKit Go.Deep Go.Maps Go.ChangeShapes Go.WideShapes
set_option linter.unusedVariables false
set_option linter.unusedSimpArgs false
set_option maxRecDepth 100000 in
theorem neq_run_op {o : Oper} {a : Act} {vx vy : Array Value} {b : Bool} (t2 : TypeId) (x y : Operand) (ho : o.op = .binOp .neq 34 x y t2) (hx : a.eval x = .agg vx) (hy : a.eval y = .agg vy) (hb : ∀ w, (binOp .neq 34 (.agg vx) (.agg vy)).run Tryd.prog w = .ok (.bool b) w) (w : World) :
    (execOp a.eval o).run Tryd.prog w = .ok (.value (.bool b)) w := by
  unfold execOp
  simp only [ho, hx, hy, Sem.run_bind, Sem.run_pure, run_eqGuard_agg (P := Tryd.prog) (hm := eqg_dig), Result.andThen_ok, hb]
set_option maxRecDepth 100000 in
theorem wpList_neq_g {ops : Array Oper} {rest : List Oper} {o : Oper} {a : Act} {w : World} {Q : Exit → Act → World → Prop} {vx vy : Array Value} {b : Bool} (t2 : TypeId) (x y : Operand) (ho : o.op = .binOp .neq 34 x y t2)
    (h2 : Region.wanted o (yielded ops a.tmps) = true ∧ a.eval x = .agg vx ∧ a.eval y = .agg vy) (hb : ∀ w, (binOp .neq 34 (.agg vx) (.agg vy)).run Tryd.prog w = .ok (.bool b) w)
    (h : wpList Tryd.prog ops Q rest (a.put o.dst (.bool b)) w) : wpList Tryd.prog ops Q (o :: rest) a w := by
  unfold wpList
  rw [if_pos h2.1]
  refine .inl ?_
  unfold Oper.wp
  rw [neq_run_op t2 x y ho h2.2.1 h2.2.2 hb w]
  exact h
theorem OrX.weakN {base base' : Nat} {w : World} {o : Option Addr} {X : Option OrS} (h : OrX base w o X) (hb : base' ≤ base) : OrX base' w o X := by
  match o, X, h with
  | .none, .none, h => exact Nat.le_trans hb h
  | Option.some a, Option.some S, h => exact ⟨h.1, Nat.le_trans hb h.2.hb, h.2.hg, own_weak h.2.ht hb, own_weak h.2.hs hb, h.2.hm, Nat.le_trans hb h.2.hbb, h.2.ix, h.2.nd⟩
theorem neq_z32N (w : World) : (binOp .neq 34 (.agg z32) (.agg z32)).run Tryd.prog w = .ok (.bool false) w := neq_of_eql (eql_z32 w)
/-- What Bare and High tell of any number. -/
def bBv (h : Int) : ByteArray := if 0 ≤ h ∧ h ≤ 6 then bareB h.toNat else ⟨#[]⟩
def bSv (h : Int) : Array Value := if 0 ≤ h ∧ h ≤ 6 then digA (bareS h.toNat) else z32
def bEv (h : Int) : Int := if 0 ≤ h ∧ h ≤ 6 then 0 else 3
theorem bare_u (base : Nat) (o : Option Addr) (X : Option OrS) (h : Int) (w : World) (hG : Gl w) (hbf : 0 < base) (hbk : 1 < base) (hX : OrX base w o X) (hF : FewX X 100) :
    Calls Tryd.prog 28 #[.pointer o, .int .i64 h] w fun e w' => e = .returned (.tuple #[.string (bBv h), .agg (bSv h), .int .i64 (bEv h)]) ∧ Below base w w' := by
  by_cases hh : 0 ≤ h ∧ h ≤ 6
  · unfold bBv bSv bEv
    rw [if_pos hh, if_pos hh, if_pos hh]
    have := bare_x base o X h.toNat w hG hbf hbk hX hF (by omega)
    rwa [show ((h.toNat : Nat) : Int) = h from by omega] at this
  · unfold bBv bSv bEv
    rw [if_neg hh, if_neg hh, if_neg hh]
    exact (bare_no o h w (by omega)).mono fun e w' ⟨h1, h2⟩ => ⟨h1, h2.mono hX.base⟩
def hvI (n : Int) : Int := if 0 ≤ n ∧ n ≤ 62 then hiN n.toNat else 0
def heI (n : Int) : Int := if 0 ≤ n ∧ n ≤ 62 then 0 else 3
theorem high_u (n : Int) (w : World) : Calls Tryd.prog 29 #[.int .i64 n] w fun e w' => e = .returned (.tuple #[.int .i64 (hvI n), .int .i64 (heI n)]) ∧ w = w' := by
  by_cases hh : 0 ≤ n ∧ n ≤ 62
  · unfold hvI heI
    rw [if_pos hh, if_pos hh]
    have := high_yes n.toNat (by omega) w
    rwa [show ((n.toNat : Nat) : Int) = n from by omega] at this
  · unfold hvI heI
    rw [if_neg hh, if_neg hh]
    exact high_no n (by omega) w
theorem bl_half (k : Nat) (h : k < 63) (h0 : 0 < k) : Lib.bitLen ((k - 1) / 2 + 1) + 1 = Lib.bitLen (k + 1) := by
  have : ((List.range 63).all fun k => k == 0 || decide (Lib.bitLen ((k - 1) / 2 + 1) + 1 = Lib.bitLen (k + 1))) = true := by decide +kernel
  have h1 := List.all_eq_true.1 this k (List.mem_range.2 h)
  have h2 : (k == 0) = false := by rw [beq_eq_false_iff_ne]; omega
  rw [h2] at h1
  simpa using h1
theorem bl_one : Lib.bitLen (0 + 1) = 1 := by decide +kernel
theorem bl_le (k : Nat) (h : k < 63) : Lib.bitLen (k + 1) ≤ 6 := by
  have : ((List.range 63).all fun k => decide (Lib.bitLen (k + 1) ≤ 6)) = true := by decide +kernel
  simpa using List.all_eq_true.1 this k (List.mem_range.2 h)
theorem made_fourN (w : World) (h n : Int) (v1 v2 : Value) : ∃ w1, Hid (w.alloc (.cells #[.int .i64 h, .int .i64 n, v1, v2] 60) = w1) ∧ (w1.cell? ⟨w.heap.size, 0, none⟩ = some (.int .i64 h) ∧ w1.cell? ⟨w.heap.size, 1, none⟩ = some (.int .i64 n) ∧ w1.cell? ⟨w.heap.size, 2, none⟩ = some v1 ∧ w1.cell? ⟨w.heap.size, 3, none⟩ = some v2) ∧ Below w.heap.size w w1 := by
  have h := heap_alloc_new w (.cells #[.int .i64 h, .int .i64 n, v1, v2] 60)
  exact ⟨_, Lib.hid rfl, ⟨cell_of_row _ _ 0 _ _ _ h, cell_of_row _ _ 1 _ _ _ h, cell_of_row _ _ 2 _ _ _ h, cell_of_row _ _ 3 _ _ _ h⟩, (Below.refl _ _).alloc (Nat.le_refl _) _⟩
/-- root of 64 sums that came in. -/
theorem lawRoot_at (L : List (List UInt8)) (la : Option Addr) (c : Nat) (w : World) (hG : Gl w) (hL : L.length = 64) (h32 : ∀ x ∈ L, x.length = 32) (hc : 64 ≤ c) (hcm : c ≤ 9223372036854775807) (hT : DigAt w la L) :
    Calls Tryd.prog 26 #[.slice la 64 c] w fun e w' => e = .returned (.agg (digA (rootD 6 L))) ∧ Below w.heap.size w w' := by
  obtain ⟨g, o, rfl, hg, hr⟩ := hT (by omega)
  exact lawRoot_any 6 (Nat.le_refl _) L g o c w hG hL h32 hr hg hc hcm
attribute [local irreducible] digA sumL z32 sB bv rootD oneB bareS bareB z64B bBv bSv bEv hvI heI sumsL bareL
set_option maxRecDepth 100000 in
set_option maxHeartbeats 16000000 in
theorem nodeBares_body (h n : Int) (L M : List (List UInt8)) (la lb : Option Addr) (x c y d : Nat) (w : World) (hG : Gl w) (hx : L.length = x) (hxc : x ≤ c) (hcm : c ≤ 9223372036854775807) (hL3 : ∀ z ∈ L, z.length = 32) (hTL : DigAt w la L) (hy : M.length = y) (hyd : y ≤ d) (hdm : d ≤ 9223372036854775807) (hM3 : ∀ z ∈ M, z.length = 32) (hTM : DigAt w lb M) :
    Calls Tryd.prog 8 #[.agg #[.int .i64 h, .int .i64 n, .slice la x c, .slice lb y d]] w fun e w' => e = .returned (.bool true) ∧ Below w.heap.size w w' := by
  have hz := zero_dig
  have hbz := build_z32
  have hgf := hG.sf
  have hgk := hG.sk
  have HBR : Hid (∀ wc o X, Below w.heap.size w wc → OrX w.heap.size wc o X → FewX X 100 → Calls Tryd.prog 28 #[.pointer o, .int .i64 h] wc fun e w' => e = .returned (.tuple #[.string (bBv h), .agg (bSv h), .int .i64 (bEv h)]) ∧ Below w.heap.size wc w') := Lib.hid (fun wc o X hb hX hF => bare_u w.heap.size o X h wc (hG.below hb) hgf hgk hX hF)
  have HHI := Lib.hid (fun w => high_u n w)
  have HB0 : Hid (0 ≤ h ∧ h ≤ 6 → bBv h = bareB h.toNat ∧ bSv h = digA (bareS h.toNat) ∧ bEv h = 0) := Lib.hid (fun hh => by unfold bBv bSv bEv; rw [if_pos hh, if_pos hh, if_pos hh]; exact ⟨rfl, rfl, rfl⟩)
  have HB1 : Hid (¬ (0 ≤ h ∧ h ≤ 6) → bBv h = ⟨#[]⟩ ∧ bSv h = z32 ∧ bEv h = 3) := Lib.hid (fun hh => by unfold bBv bSv bEv; rw [if_neg hh, if_neg hh, if_neg hh]; exact ⟨rfl, rfl, rfl⟩)
  have HH0 : Hid (0 ≤ n ∧ n ≤ 62 → hvI n = hiN n.toNat ∧ heI n = 0) := Lib.hid (fun hh => by unfold hvI heI; rw [if_pos hh, if_pos hh]; exact ⟨rfl, rfl⟩)
  have HH1 : Hid (¬ (0 ≤ n ∧ n ≤ 62) → hvI n = 0 ∧ heI n = 3) := Lib.hid (fun hh => by unfold hvI heI; rw [if_neg hh, if_neg hh]; exact ⟨rfl, rfl⟩)
  have zD : (bSv h).size = 32 := by
    by_cases hh : 0 ≤ h ∧ h ≤ 6
    · rw [(HB0.out hh).2.1]; with_unfolding_all (rw [digA_size, bareS_len])
    · rw [(HB1.out hh).2.1]; exact z32_size'
  have oD : (bSv h).all (·.oneCell') = true := by
    by_cases hh : 0 ≤ h ∧ h ≤ 6
    · rw [(HB0.out hh).2.1]; with_unfolding_all exact digA_one _
    · rw [(HB1.out hh).2.1]; with_unfolding_all exact z32_one
  have HX := Lib.hid hx
  have HY := Lib.hid hy
  have HL3 := Lib.hid hL3
  have HM3 := Lib.hid hM3
  have HTL := Lib.hid hTL
  have HTM := Lib.hid hTM
  clear hx hy hL3 hM3 hTL hTM
  generalize bBv h = bB at *
  generalize bSv h = D at *
  generalize bEv h = eB at *
  generalize hvI n = hv at *
  generalize heI n = he at *
  obtain ⟨w1, HW1, hR1, B1⟩ := made_fourN w h n (.slice la x c) (.slice lb y d)
  go_enter Tryd.func8, Tryd.ntmps8
  go_upto_region 1 with fail
  rw [HW1.out]
  clear HW1
  have B1d := B1.drew
  refine wp_region_lin (S := (fun w' => w'.cell? ⟨w.heap.size, 0, none⟩ = some (.int .i64 h) ∧ w'.cell? ⟨w.heap.size, 1, none⟩ = some (.int .i64 n) ∧ w'.cell? ⟨w.heap.size, 2, none⟩ = some (.slice la x c) ∧ w'.cell? ⟨w.heap.size, 3, none⟩ = some (.slice lb y d))) [(0, true), (1, true), (2, true), (3, true), (4, true), (5, true), (6, true), (7, true), (8, true), (9, true), (10, true), (11, true)] (by kernel_rfl) (by kernel_rfl) rfl (by kernel_rfl) ?_ (fun hHeld => ?_)
  · (try dsimp only); exact hR1
  (refine wpL_calm (o := { dst := some 18, op := Go.Op.fieldAddr 60 (Go.Operand.tmp 1) 0, type := 0, pos := "law.go:157", after := #[], guard := none }) (v := ?_) rfl (Or.inl ⟨by rfl, ?_⟩) ?_; rotate_left; (focus (intro w hSw; (try dsimp only at hSw); go_simp; (try (with_reducible rfl)); done)); try simp only [Act.put, List.setIfInBounds_toArray, List.set_cons_zero, List.set_cons_succ])
  (refine wpL_calm (o := { dst := some 19, op := Go.Op.load 3 (Go.Operand.tmp 18), type := 3, pos := "law.go:157", after := #[{ on := 0, ground := Go.Ground.data }], guard := none }) (v := ?_) rfl (Or.inl ⟨by rfl, ?_⟩) ?_; rotate_left; (focus (intro w hSw; (try dsimp only at hSw); go_simp; (try (with_reducible rfl)); done)); try simp only [Act.put, List.setIfInBounds_toArray, List.set_cons_zero, List.set_cons_succ])
  (refine wpL_calm (o := { dst := some 20, op := Go.Op.fieldAddr 60 (Go.Operand.tmp 1) 1, type := 0, pos := "law.go:157", after := #[{ on := 8, ground := Go.Ground.gcOnly Go.Departure.lateStores }], guard := none }) (v := ?_) rfl (Or.inl ⟨by rfl, ?_⟩) ?_; rotate_left; (focus (intro w hSw; (try dsimp only at hSw); go_simp; (try (with_reducible rfl)); done)); try simp only [Act.put, List.setIfInBounds_toArray, List.set_cons_zero, List.set_cons_succ])
  (refine wpL_calm (o := { dst := some 21, op := Go.Op.load 3 (Go.Operand.tmp 20), type := 3, pos := "law.go:157", after := #[{ on := 2, ground := Go.Ground.data }, { on := 8, ground := Go.Ground.gcOnly Go.Departure.lateStores }], guard := none }) (v := ?_) rfl (Or.inl ⟨by rfl, ?_⟩) ?_; rotate_left; (focus (intro w hSw; (try dsimp only at hSw); go_simp; (try (with_reducible rfl)); done)); try simp only [Act.put, List.setIfInBounds_toArray, List.set_cons_zero, List.set_cons_succ])
  (refine wpL_calm (o := { dst := some 22, op := Go.Op.fieldAddr 60 (Go.Operand.tmp 1) 2, type := 0, pos := "law.go:157", after := #[{ on := 9, ground := Go.Ground.gcOnly Go.Departure.lateStores }], guard := none }) (v := ?_) rfl (Or.inl ⟨by rfl, ?_⟩) ?_; rotate_left; (focus (intro w hSw; (try dsimp only at hSw); go_simp; (try (with_reducible rfl)); done)); try simp only [Act.put, List.setIfInBounds_toArray, List.set_cons_zero, List.set_cons_succ])
  (refine wpL_calm (o := { dst := some 23, op := Go.Op.load 54 (Go.Operand.tmp 22), type := 54, pos := "law.go:157", after := #[{ on := 4, ground := Go.Ground.data }, { on := 9, ground := Go.Ground.gcOnly Go.Departure.lateStores }], guard := none }) (v := ?_) rfl (Or.inl ⟨by rfl, ?_⟩) ?_; rotate_left; (focus (intro w hSw; (try dsimp only at hSw); go_simp; (try (with_reducible rfl)); done)); try simp only [Act.put, List.setIfInBounds_toArray, List.set_cons_zero, List.set_cons_succ])
  (refine wpL_calm (o := { dst := some 24, op := Go.Op.fieldAddr 60 (Go.Operand.tmp 1) 3, type := 0, pos := "law.go:157", after := #[{ on := 10, ground := Go.Ground.gcOnly Go.Departure.lateStores }], guard := none }) (v := ?_) rfl (Or.inl ⟨by rfl, ?_⟩) ?_; rotate_left; (focus (intro w hSw; (try dsimp only at hSw); go_simp; (try (with_reducible rfl)); done)); try simp only [Act.put, List.setIfInBounds_toArray, List.set_cons_zero, List.set_cons_succ])
  (refine wpL_calm (o := { dst := some 25, op := Go.Op.load 54 (Go.Operand.tmp 24), type := 54, pos := "law.go:157", after := #[{ on := 6, ground := Go.Ground.data }, { on := 10, ground := Go.Ground.gcOnly Go.Departure.lateStores }], guard := none }) (v := ?_) rfl (Or.inl ⟨by rfl, ?_⟩) ?_; rotate_left; (focus (intro w hSw; (try dsimp only at hSw); go_simp; (try (with_reducible rfl)); done)); try simp only [Act.put, List.setIfInBounds_toArray, List.set_cons_zero, List.set_cons_succ])
  (refine wpL_calm (o := { dst := some 3, op := Go.Op.assign (Go.Operand.tmp 19), type := 3, pos := "law.go:157", after := #[{ on := 1, ground := Go.Ground.data }, { on := 0, ground := Go.Ground.phase }, { on := 1, ground := Go.Ground.phase }, { on := 2, ground := Go.Ground.textOnly Go.Departure.lateStores }, { on := 3, ground := Go.Ground.textOnly Go.Departure.lateStores }, { on := 4, ground := Go.Ground.textOnly Go.Departure.lateStores }, { on := 5, ground := Go.Ground.textOnly Go.Departure.lateStores }, { on := 6, ground := Go.Ground.textOnly Go.Departure.lateStores }, { on := 7, ground := Go.Ground.textOnly Go.Departure.lateStores }], guard := none }) (v := ?_) rfl (Or.inl ⟨by rfl, ?_⟩) ?_; rotate_left; (focus (intro w hSw; (try dsimp only at hSw); go_simp; (try (with_reducible rfl)); done)); try simp only [Act.put, List.setIfInBounds_toArray, List.set_cons_zero, List.set_cons_succ])
  (refine wpL_calm (o := { dst := some 4, op := Go.Op.assign (Go.Operand.tmp 21), type := 3, pos := "law.go:157", after := #[{ on := 3, ground := Go.Ground.data }, { on := 8, ground := Go.Ground.chain }, { on := 0, ground := Go.Ground.phase }, { on := 1, ground := Go.Ground.phase }, { on := 2, ground := Go.Ground.phase }, { on := 3, ground := Go.Ground.phase }, { on := 4, ground := Go.Ground.textOnly Go.Departure.lateStores }, { on := 5, ground := Go.Ground.textOnly Go.Departure.lateStores }, { on := 6, ground := Go.Ground.textOnly Go.Departure.lateStores }, { on := 7, ground := Go.Ground.textOnly Go.Departure.lateStores }, { on := 8, ground := Go.Ground.phase }], guard := none }) (v := ?_) rfl (Or.inl ⟨by rfl, ?_⟩) ?_; rotate_left; (focus (intro w hSw; (try dsimp only at hSw); go_simp; (try (with_reducible rfl)); done)); try simp only [Act.put, List.setIfInBounds_toArray, List.set_cons_zero, List.set_cons_succ])
  (refine wpL_calm (o := { dst := some 5, op := Go.Op.assign (Go.Operand.tmp 23), type := 54, pos := "law.go:157", after := #[{ on := 5, ground := Go.Ground.data }, { on := 9, ground := Go.Ground.chain }, { on := 0, ground := Go.Ground.phase }, { on := 1, ground := Go.Ground.phase }, { on := 2, ground := Go.Ground.phase }, { on := 3, ground := Go.Ground.phase }, { on := 4, ground := Go.Ground.phase }, { on := 5, ground := Go.Ground.phase }, { on := 6, ground := Go.Ground.textOnly Go.Departure.lateStores }, { on := 7, ground := Go.Ground.textOnly Go.Departure.lateStores }, { on := 8, ground := Go.Ground.phase }, { on := 9, ground := Go.Ground.phase }], guard := none }) (v := ?_) rfl (Or.inl ⟨by rfl, ?_⟩) ?_; rotate_left; (focus (intro w hSw; (try dsimp only at hSw); go_simp; (try (with_reducible rfl)); done)); try simp only [Act.put, List.setIfInBounds_toArray, List.set_cons_zero, List.set_cons_succ])
  (refine wpL_calm (o := { dst := some 6, op := Go.Op.assign (Go.Operand.tmp 25), type := 54, pos := "law.go:157", after := #[{ on := 7, ground := Go.Ground.data }, { on := 10, ground := Go.Ground.chain }, { on := 0, ground := Go.Ground.phase }, { on := 1, ground := Go.Ground.phase }, { on := 2, ground := Go.Ground.phase }, { on := 3, ground := Go.Ground.phase }, { on := 4, ground := Go.Ground.phase }, { on := 5, ground := Go.Ground.phase }, { on := 6, ground := Go.Ground.phase }, { on := 7, ground := Go.Ground.phase }, { on := 8, ground := Go.Ground.phase }, { on := 9, ground := Go.Ground.phase }, { on := 10, ground := Go.Ground.phase }], guard := none }) (v := ?_) rfl (Or.inl ⟨by rfl, ?_⟩) ?_; rotate_left; (focus (intro w hSw; (try dsimp only at hSw); go_simp; (try (with_reducible rfl)); done)); try simp only [Act.put, List.setIfInBounds_toArray, List.set_cons_zero, List.set_cons_succ])
  refine wpL_nil ?_
  refine NoPanic.normal ?_
  clear hHeld hR1 B1
  generalize World.drew w1 = w2 at *
  go_wp2_with fail
  refine (new_x w2.heap.size w2 (Nat.le_refl _)).mono ?_
  rintro e w3 ⟨rfl, hX3, b3⟩
  have few3 : FewX (some ⟨w2.heap.size + 1, [], .slice none 0 0, .slice none 0 0, w2.heap.size, .map []⟩) 100 := (FewX.zero w2 _ _ _ _ _).mono (by omega)
  obtain ⟨X3, hX3, few3⟩ : ∃ X3, OrX w.heap.size w3 (some ⟨w2.heap.size + 1, 0, none⟩) X3 ∧ FewX X3 100 := ⟨_, hX3.weakN B1d.size, few3⟩
  have B3 := B1d.trans (b3.mono B1d.size)
  clear b3 B1d
  go_wp2_with fail
  refine (HBR.out w3 _ X3 B3 hX3 few3).mono ?_
  rintro e w4 ⟨rfl, b4⟩
  have B4 := B3.trans b4
  clear b4 B3 hX3 few3 HBR
  obtain ⟨w5, HW5, hd5, b5⟩ := stored_dg w4 D
  go_upto_region 3 with (refine wpList_store_row rfl _ _ _ rfl w4.heap.size D rfl rfl 34 _ (heap_alloc_new _ _) (by rw [zD]; kernel_rfl) (by rw [zD, z32_size']) oD ?_)
  rw [HW5.out]
  clear HW5
  have B5 := B4.trans (b5.mono B4.size)
  clear b5 B4
  generalize w4.heap.size = q8 at *
  go_wp2_with fail
  refine (HHI.out w5).mono ?_
  rintro e w' ⟨rfl, rfl⟩
  clear HHI
  by_cases hh : 0 ≤ h ∧ h ≤ 6
  · obtain ⟨k, rfl⟩ : ∃ k : Nat, h = (k : Int) := ⟨h.toNat, by omega⟩
    have hk6 : k ≤ 6 := by omega
    have t1 : ¬ (k : Int) < 0 := by omega
    have t2 : ¬ (6 : Int) < (k : Int) := by omega
    obtain ⟨rfl, rfl, rfl⟩ := HB0.out hh
    simp only [Int.toNat_natCast] at *
    clear HB0 HB1
    go_upto_if 43 with fail
    go_cut [12, 13, 14] from 38 (fun s12 s13 s14 wx => Hid (Below w.heap.size w wx))
    case first =>
      as_aux_lemma =>
      have HSZ : Hid (∀ i, (digA (bareS i)).size = 32) := Lib.hid (fun i => by with_unfolding_all (rw [digA_size, bareS_len]))
      have HON : Hid (∀ i, (digA (bareS i)).all (·.oneCell') = true) := Lib.hid (fun i => by with_unfolding_all exact digA_one _)
      have HZ := Lib.hid zerosB64
      have hadd0 : ∀ V : World, (Op.stringOp .add (⟨#[0]⟩ : ByteArray) z64B).run Tryd.prog V = .ok (.string ((⟨#[0]⟩ : ByteArray) ++ z64B)) V := fun V => run_string_add_sum V _ _ (by rw [one0, z64B_size]; omega)
      have HS0 : Hid (∀ w, Gl w → Calls Tryd.prog 14 #[.string ((⟨#[0]⟩ : ByteArray) ++ z64B)] w fun e w' => e = .returned (.agg (digA (bareS 0))) ∧ Below w.heap.size w w') := Lib.hid (fun w hw => by
        have := sum_any ((⟨#[0]⟩ : ByteArray) ++ z64B) w (by rw [ByteArray.size_append, one0, z64B_size]; omega) hw
        rw [show sumL ((⟨#[0]⟩ : ByteArray) ++ z64B).data.toList = bareS 0 from by with_unfolding_all rfl] at this
        exact this)
      have HZB := bareB_zero
      have HADD : Hid (∀ i, ∀ V : World, (Op.stringOp .add (sB (bareS i)) (sB (bareS i))).run Tryd.prog V = .ok (.string (bareB (i + 1))) V) := Lib.hid (fun i V => by
        rw [bareB_succ, ← sB_app]
        exact run_string_add_sum V _ _ (by rw [sB_size, bareS_len]; omega))
      have HAD1 : Hid (∀ i, ∀ V : World, (Op.stringOp .add (⟨#[1]⟩ : ByteArray) (bareB (i + 1))).run Tryd.prog V = .ok (.string (oneB ++ bareB (i + 1))) V) := Lib.hid (fun i V => by
        have := run_string_add_sum (P := Tryd.prog) V oneB (bareB (i + 1)) (by rw [oneB_size, bareB_size]; omega)
        rwa [show oneB = (⟨#[1]⟩ : ByteArray) from by with_unfolding_all rfl] at this ⊢)
      have HS1 : Hid (∀ i w, Gl w → Calls Tryd.prog 14 #[.string (oneB ++ bareB (i + 1))] w fun e w' => e = .returned (.agg (digA (bareS (i + 1)))) ∧ Below w.heap.size w w') := Lib.hid (fun i w hw => by
        have := sum_any (oneB ++ bareB (i + 1)) w (by rw [ByteArray.size_append, oneB_size, bareB_size]; omega) hw
        rw [bareS_sum] at this
        exact this)
      have HCV : Hid (∀ i (w2 : World) (q : Nat), w2.heap[q]? = some (.cells (digA (bareS i)) 34 (0, 0)) → (convert 65 9 (.slice (some ⟨q, 0, none⟩) 32 32)).run Tryd.prog w2 = .ok (.string (sB (bareS i))) w2) := Lib.hid (fun i => conv_dgN (bareS i) (bareS_len i))
      have HNQ : Hid (∀ i, ∀ w, (binOp .neq 34 (.agg (digA (bareS i))) (.agg (digA (bareS i)))).run Tryd.prog w = .ok (.bool false) w) := Lib.hid (fun i w => by
        have := neq_dig2 (bareS i) (bareS i) (bareS_len i) (bareS_len i) w
        simpa using this)
      have HSN : Hid (∀ wc, Below w.heap.size w wc → Calls Tryd.prog 25 #[.slice none 0 0] wc fun e w' => ∃ g c', e = .returned (.slice (some ⟨g, 0, none⟩) 64 c') ∧ RowD w' g c' 64 (dg (sumsL [])) ∧ wc.heap.size ≤ g ∧ Below wc.heap.size wc w' ∧ c' ≤ 9223372036854775807) := Lib.hid (fun wc hb => sums_anyc [] none 0 0 wc (hG.below hb) rfl (by omega) (fun x hx => by cases hx) (fun h0 => absurd h0 (by simp)))
      have HLR : Hid (∀ (g c0 : Nat) (w' : World), Gl w' → RowD w' g c0 64 (dg (sumsL [])) → c0 ≤ 9223372036854775807 → Calls Tryd.prog 26 #[.slice (some ⟨g, 0, none⟩) 64 c0] w' fun e w'' => e = .returned (.agg (digA (bareS 6))) ∧ Below w'.heap.size w' w'') := Lib.hid (fun g c0 w' h1 h2 h3 => by
        have := lawRoot_at (sumsL []) (some ⟨g, 0, none⟩) c0 w' h1 (sumsL_len _) (sumsL_32 [] (fun x hx => by cases hx)) (by obtain ⟨_, _, _, q, _⟩ := h2.ex; exact q) h3 (h2.digAt (sumsL_len _))
        rw [root_nil] at this
        exact this)
      have z0 := HSZ.out 0
      have o0 := HON.out 0
      generalize (⟨#[0]⟩ : ByteArray) ++ z64B = m0 at *
      go_wp2_with fail
      refine (HZ.out w5).mono ?_
      rintro e w6 ⟨rfl, b6⟩
      have B6 := B5.trans (b6.mono B5.size)
      have hd6 := blk_belowN b6 hd5
      go_wp2_with fail
      refine (HZ.out w6).mono ?_
      rintro e w7 ⟨rfl, b7⟩
      have B7 := B6.trans (b7.mono B6.size)
      have hd7 := blk_belowN b7 hd6
      go_wp2_with fail
      refine (HS0.out w7 (hG.below B7)).mono ?_
      rintro e w8 ⟨rfl, b8⟩
      have B8 := B7.trans (b8.mono B7.size)
      have hd8 := blk_belowN b8 hd7
      clear b6 b7 b8 hd6 hd7 B6 B7 hd5 B5 HZ hadd0 HS0
      obtain ⟨w9, HW9, he9, b9⟩ := stored_dg w8 (digA (bareS 0))
      go_upto_region 8 with (refine wpList_store_row rfl _ _ _ rfl w8.heap.size (digA (bareS 0)) rfl rfl 34 _ (heap_alloc_new _ _) (by rw [z0]; kernel_rfl) (by rw [z0, z32_size']) o0 ?_)
      rw [HW9.out]
      clear HW9 z0 o0
      have B9 := B8.trans (b9.mono B8.size)
      have hd9 := blk_belowN b9 hd8
      have hne : q8 < w8.heap.size := blk_ltN hd8
      have hq13 : w.heap.size ≤ w8.heap.size := B8.size
      clear b9 B8 hd8
      generalize w8.heap.size = q13 at *
      have HI0 : Hid (w9.heap[q8]? = some (.cells (digA (bareS k)) 34 (0, 0)) ∧ w9.heap[q13]? = some (.cells (digA (bareS 0)) 34 (0, 0)) ∧ Below w.heap.size w w9) := Lib.hid ⟨hd9, he9, B9⟩
      clear hd9 he9 B9
      go_wp2_with fail
      go_loopw [14, 12] (fun x s wi => ∃ i : Nat, x = .int .i64 (i : Int) ∧ i ≤ k ∧ s = .string (bareB i) ∧ Hid (wi.heap[q8]? = some (.cells (digA (bareS k)) 34 (0, 0)) ∧ wi.heap[q13]? = some (.cells (digA (bareS i)) 34 (0, 0)) ∧ Below w.heap.size w wi)) (fun x _ _ => k - (intOf x).toNat)
      case atStart => exact ⟨0, rfl, by omega, by rw [HZB], HI0⟩
      clear HI0
      case round =>
        obtain ⟨i, rfl, hi, rfl, HI⟩ := hrel
        by_cases hlt : i < k
        · as_aux_lemma =>
          have hli : (i : Int) < (k : Int) := by omega
          have hadd := HADD.out i
          have hadd1 := HAD1.out i
          have HC := Lib.hid (HCV.out i)
          have HS := Lib.hid (HS1.out i)
          have zi := HSZ.out i
          have zn := HSZ.out (i + 1)
          have onn := HON.out (i + 1)
          obtain ⟨DI, HDI⟩ : ∃ DI, Hid (digA (bareS i) = DI) := ⟨_, Lib.hid rfl⟩
          obtain ⟨DN, HDN⟩ : ∃ DN, Hid (digA (bareS (i + 1)) = DN) := ⟨_, Lib.hid rfl⟩
          obtain ⟨DK, HDK⟩ : ∃ DK, Hid (digA (bareS k) = DK) := ⟨_, Lib.hid rfl⟩
          obtain ⟨sb, HSB⟩ : ∃ sb, Hid (bareB (i + 1) = sb) := ⟨_, Lib.hid rfl⟩
          rw [HDI.out] at zi HC
          rw [HDN.out] at zn onn HS
          rw [HDI.out, HDK.out] at HI
          rw [HSB.out] at hadd hadd1 HS
          generalize oneB ++ sb = sn at *
          generalize sB (bareS i) = si at *
          go_upto_region 11 with fail
          refine wp_region_lin (S := (fun w' => w'.heap[q13]? = some (.cells DI 34 (0, 0)))) [(0, true), (1, true), (2, true), (3, true), (4, true), (5, true)] (by kernel_rfl) (by kernel_rfl) rfl (by kernel_rfl) ?_ (fun hHeld => ?_)
          · (try dsimp only); exact HI.out.2.1
          (refine wpL_calm (o := { dst := some 64, op := Go.Op.slice 34 (Go.Operand.tmp 13) none none none, type := 65, pos := "law.go:167", after := #[], guard := none }) (v := ?_) rfl (Or.inl ⟨by rfl, ?_⟩) ?_; rotate_left; (focus (intro w hSw; (try dsimp only at hSw); go_simp; (try (with_reducible rfl)); done)); try simp only [Act.put, List.setIfInBounds_toArray, List.set_cons_zero, List.set_cons_succ])
          refine wpL_calm (o := { dst := some 65, op := Go.Op.convert 65 9 (Go.Operand.tmp 64), type := 9, pos := "law.go:167", after := #[{ on := 0, ground := Go.Ground.data }], guard := none }) (v := .string si) rfl (Or.inl ⟨by rfl, ?_⟩) ?_; (focus (intro w hSw; have hl := HC.out _ _ hSw; go_simp))
          try simp only [Act.put, List.setIfInBounds_toArray, List.set_cons_zero, List.set_cons_succ]
          (refine wpL_calm (o := { dst := some 66, op := Go.Op.slice 34 (Go.Operand.tmp 13) none none none, type := 65, pos := "law.go:167", after := #[], guard := none }) (v := ?_) rfl (Or.inl ⟨by rfl, ?_⟩) ?_; rotate_left; (focus (intro w hSw; (try dsimp only at hSw); go_simp; (try (with_reducible rfl)); done)); try simp only [Act.put, List.setIfInBounds_toArray, List.set_cons_zero, List.set_cons_succ])
          refine wpL_calm (o := { dst := some 67, op := Go.Op.convert 65 9 (Go.Operand.tmp 66), type := 9, pos := "law.go:167", after := #[{ on := 2, ground := Go.Ground.data }], guard := none }) (v := .string si) rfl (Or.inl ⟨by rfl, ?_⟩) ?_; (focus (intro w hSw; have hl := HC.out _ _ hSw; go_simp))
          try simp only [Act.put, List.setIfInBounds_toArray, List.set_cons_zero, List.set_cons_succ]
          (refine wpL_calm (o := { dst := some 68, op := Go.Op.binOp Go.BinOp.add 9 (Go.Operand.tmp 65) (Go.Operand.tmp 67) 9, type := 9, pos := "law.go:167", after := #[{ on := 1, ground := Go.Ground.data }, { on := 3, ground := Go.Ground.data }], guard := none }) (v := ?_) rfl (Or.inl ⟨by rfl, ?_⟩) ?_; rotate_left; (focus (intro w hSw; (try dsimp only at hSw); go_simp; (try (with_reducible rfl)); done)); try simp only [Act.put, List.setIfInBounds_toArray, List.set_cons_zero, List.set_cons_succ])
          (refine wpL_calm (o := { dst := some 12, op := Go.Op.assign (Go.Operand.tmp 68), type := 9, pos := "law.go:167", after := #[{ on := 4, ground := Go.Ground.data }, { on := 0, ground := Go.Ground.phase }, { on := 1, ground := Go.Ground.phase }, { on := 2, ground := Go.Ground.phase }, { on := 3, ground := Go.Ground.phase }, { on := 4, ground := Go.Ground.phase }], guard := none }) (v := ?_) rfl (Or.inl ⟨by rfl, ?_⟩) ?_; rotate_left; (focus (intro w hSw; (try dsimp only at hSw); go_simp; (try (with_reducible rfl)); done)); try simp only [Act.put, List.setIfInBounds_toArray, List.set_cons_zero, List.set_cons_succ])
          refine wpL_nil ?_
          refine NoPanic.normal ?_
          have HId : Hid (wr.drew.heap[q8]? = some (.cells DK 34 (0, 0)) ∧ wr.drew.heap[q13]? = some (.cells DI 34 (0, 0)) ∧ Below w.heap.size w wr.drew) := Lib.hid ⟨HI.out.1, HI.out.2.1, HI.out.2.2.drew⟩
          clear HI hHeld hadd HC
          generalize World.drew wr = wd at *
          go_wp2_with fail
          refine (HS.out wd (hG.below HId.out.2.2)).mono ?_
          rintro e w10 ⟨rfl, b10⟩
          have hd10 := blk_belowN b10 HId.out.1
          have he10 := blk_belowN b10 HId.out.2.1
          have B10 := HId.out.2.2.trans (b10.mono HId.out.2.2.size)
          have HN : Hid ((w10.setRow q13 DN).heap[q8]? = some (.cells DK 34 (0, 0)) ∧ (w10.setRow q13 DN).heap[q13]? = some (.cells DN 34 (0, 0)) ∧ Below w.heap.size w (w10.setRow q13 DN)) := Lib.hid ⟨(setRow_other _ _ _ _ (Nat.ne_of_lt hne)).trans hd10, setRow_heap _ _ _ _ _ _ he10, below_setRow B10 hq13 _⟩
          clear HId b10 hd10 B10 HS
          go_wp2_with (refine wpList_store_row rfl _ _ _ rfl q13 DN rfl rfl 34 _ he10 (by rw [zn]; kernel_rfl) (by rw [zn, zi]) onn ?_)
          go_roundw
          case rel => exact ⟨i + 1, by go_num, by omega, by rw [HSB.out], by rw [HDK.out, HDN.out]; exact HN⟩
          case measure => simp [intOf]; omega
        · as_aux_lemma =>
          obtain rfl : i = k := by omega
          have hnq := HNQ.out i
          have zk := HSZ.out i
          have hd := HI.out.1
          have he := HI.out.2.1
          have BI := HI.out.2.2
          have HBV : Hid ((digA (bareS i)).toList.toArray = digA (bareS i)) := Lib.hid (by simp)
          have HVL : Hid ((digA (bareS i)).toList.length = 32) := Lib.hid (by rw [Array.length_toList, zk])
          by_cases h66 : i = 6
          · subst h66
            rw [show ((6 : Nat) : Int) = 6 from rfl] at *
            generalize digA (bareS 6) = D6 at *
            go_upto_region 13 with fail
            refine wp_region_lin (S := (fun w' => w'.heap[q8]? = some (.cells D6 34 (0, 0)) ∧ w'.heap[q13]? = some (.cells D6 34 (0, 0)))) [(0, true), (1, true), (2, true), (3, true), (4, true), (5, true), (6, true), (7, true), (8, true), (9, true), (10, true), (11, true), (12, true), (13, true), (14, true), (15, true), (16, true), (17, false), (18, false), (19, true), (20, true), (21, true)] (by kernel_rfl) (by kernel_rfl) rfl (by kernel_rfl) ?_ (fun hHeld => ?_)
            · (try dsimp only); exact ⟨hd, he⟩
            (refine wpL_calm (o := { dst := some 72, op := Go.Op.move (Go.Operand.tmp 7), type := 9, pos := "law.go:170", after := #[], guard := none }) (v := ?_) rfl (Or.inl ⟨by rfl, ?_⟩) ?_; rotate_left; (focus (intro w hSw; (try dsimp only at hSw); go_simp; (try (with_reducible rfl)); done)); try simp only [Act.put, List.setIfInBounds_toArray, List.set_cons_zero, List.set_cons_succ])
            (refine wpL_calm (o := { dst := some 73, op := Go.Op.move (Go.Operand.tmp 12), type := 9, pos := "law.go:170", after := #[], guard := none }) (v := ?_) rfl (Or.inl ⟨by rfl, ?_⟩) ?_; rotate_left; (focus (intro w hSw; (try dsimp only at hSw); go_simp; (try (with_reducible rfl)); done)); try simp only [Act.put, List.setIfInBounds_toArray, List.set_cons_zero, List.set_cons_succ])
            (refine wpL_calm (o := { dst := some 74, op := Go.Op.binOp Go.BinOp.neq 9 (Go.Operand.tmp 72) (Go.Operand.tmp 73) 9, type := 4, pos := "law.go:170", after := #[{ on := 0, ground := Go.Ground.data }, { on := 1, ground := Go.Ground.data }], guard := none }) (v := ?_) rfl (Or.inl ⟨by rfl, ?_⟩) ?_; rotate_left; (focus (intro w hSw; (try dsimp only at hSw); go_simp; (try (with_reducible rfl)); done)); try simp only [Act.put, List.setIfInBounds_toArray, List.set_cons_zero, List.set_cons_succ])
            (refine wpL_calm (o := { dst := some 75, op := Go.Op.move (Go.Operand.tmp 74), type := 4, pos := "law.go:170", after := #[{ on := 2, ground := Go.Ground.data }], guard := none }) (v := ?_) rfl (Or.inl ⟨by rfl, ?_⟩) ?_; rotate_left; (focus (intro w hSw; (try dsimp only at hSw); go_simp; (try (with_reducible rfl)); done)); try simp only [Act.put, List.setIfInBounds_toArray, List.set_cons_zero, List.set_cons_succ])
            refine wpL_calm (o := { dst := some 76, op := Go.Op.load 34 (Go.Operand.tmp 8), type := 34, pos := "law.go:170", after := #[{ on := 3, ground := Go.Ground.guard }], guard := some (3, false) }) rfl (yieldsIf_load_mid (by rfl) _ _ rfl q8 0 rfl D6.toList _ (fun _ h => range_dg h.1 HBV.out) Tryd.underlying34 rfl (by rw [HVL.out]; kernel_rfl)) ?_; rw [HBV.out]
            try simp only [Act.put, List.setIfInBounds_toArray, List.set_cons_zero, List.set_cons_succ]
            refine wpL_calm (o := { dst := some 77, op := Go.Op.load 34 (Go.Operand.tmp 13), type := 34, pos := "law.go:170", after := #[{ on := 3, ground := Go.Ground.guard }], guard := some (3, false) }) rfl (yieldsIf_load_mid (by rfl) _ _ rfl q13 0 rfl D6.toList _ (fun _ h => range_dg h.2 HBV.out) Tryd.underlying34 rfl (by rw [HVL.out]; kernel_rfl)) ?_; rw [HBV.out]
            try simp only [Act.put, List.setIfInBounds_toArray, List.set_cons_zero, List.set_cons_succ]
            refine wpL_calm (o := { dst := some 78, op := Go.Op.binOp Go.BinOp.neq 34 (Go.Operand.tmp 76) (Go.Operand.tmp 77) 34, type := 4, pos := "law.go:170", after := #[{ on := 4, ground := Go.Ground.data }, { on := 5, ground := Go.Ground.data }, { on := 3, ground := Go.Ground.guard }], guard := some (3, false) }) (v := .bool false) rfl (Or.inl ⟨by rfl, fun w _ => neq_run_op (vx := D6) (vy := D6) _ _ _ rfl rfl rfl hnq w⟩) ?_
            try simp only [Act.put, List.setIfInBounds_toArray, List.set_cons_zero, List.set_cons_succ]
            (refine wpL_calm (o := { dst := some 79, op := Go.Op.pick (Go.Operand.tmp 75) (Go.Operand.const (Go.Value.bool true)) (Go.Operand.tmp 78), type := 4, pos := "law.go:170", after := #[{ on := 3, ground := Go.Ground.data }, { on := 6, ground := Go.Ground.data }], guard := none }) (v := ?_) rfl (Or.inl ⟨by rfl, ?_⟩) ?_; rotate_left; (focus (intro w hSw; (try dsimp only at hSw); go_simp; (try (with_reducible rfl)); done)); try simp only [Act.put, List.setIfInBounds_toArray, List.set_cons_zero, List.set_cons_succ])
            (refine wpL_calm (o := { dst := some 80, op := Go.Op.move (Go.Operand.tmp 79), type := 4, pos := "law.go:170", after := #[{ on := 7, ground := Go.Ground.data }, { on := 3, ground := Go.Ground.chain }], guard := none }) (v := ?_) rfl (Or.inl ⟨by rfl, ?_⟩) ?_; rotate_left; (focus (intro w hSw; (try dsimp only at hSw); go_simp; (try (with_reducible rfl)); done)); try simp only [Act.put, List.setIfInBounds_toArray, List.set_cons_zero, List.set_cons_succ])
            first | (refine wpL_calm (o := { dst := some 81, op := Go.Op.move (Go.Operand.tmp 9), type := 30, pos := "law.go:170", after := #[{ on := 8, ground := Go.Ground.guard }], guard := some (8, false) }) (v := ?_) rfl (Or.inl ⟨by rfl, ?_⟩) ?_; rotate_left; (focus (intro w hSw; (try dsimp only at hSw); go_simp; (try (with_reducible rfl)); done)); try simp only [Act.put, List.setIfInBounds_toArray, List.set_cons_zero, List.set_cons_succ]) | (refine wpL_calm (o := { dst := some 81, op := Go.Op.move (Go.Operand.tmp 9), type := 30, pos := "law.go:170", after := #[{ on := 8, ground := Go.Ground.guard }], guard := some (8, false) }) (v := undef) rfl (Or.inr ⟨by rfl, rfl⟩) ?_; try simp only [Act.put, List.setIfInBounds_toArray, List.set_cons_zero, List.set_cons_succ])
            first | (refine wpL_calm (o := { dst := some 82, op := Go.Op.binOp Go.BinOp.neq 30 (Go.Operand.tmp 81) (Go.Operand.const (Go.Value.int Go.IntKind.i64 0)) 30, type := 4, pos := "law.go:170", after := #[{ on := 9, ground := Go.Ground.data }, { on := 8, ground := Go.Ground.guard }], guard := some (8, false) }) (v := ?_) rfl (Or.inl ⟨by rfl, ?_⟩) ?_; rotate_left; (focus (intro w hSw; (try dsimp only at hSw); go_simp; (try (with_reducible rfl)); done)); try simp only [Act.put, List.setIfInBounds_toArray, List.set_cons_zero, List.set_cons_succ]) | (refine wpL_calm (o := { dst := some 82, op := Go.Op.binOp Go.BinOp.neq 30 (Go.Operand.tmp 81) (Go.Operand.const (Go.Value.int Go.IntKind.i64 0)) 30, type := 4, pos := "law.go:170", after := #[{ on := 9, ground := Go.Ground.data }, { on := 8, ground := Go.Ground.guard }], guard := some (8, false) }) (v := undef) rfl (Or.inr ⟨by rfl, rfl⟩) ?_; try simp only [Act.put, List.setIfInBounds_toArray, List.set_cons_zero, List.set_cons_succ])
            (refine wpL_calm (o := { dst := some 83, op := Go.Op.pick (Go.Operand.tmp 80) (Go.Operand.const (Go.Value.bool true)) (Go.Operand.tmp 82), type := 4, pos := "law.go:170", after := #[{ on := 8, ground := Go.Ground.data }, { on := 10, ground := Go.Ground.data }], guard := none }) (v := ?_) rfl (Or.inl ⟨by rfl, ?_⟩) ?_; rotate_left; (focus (intro w hSw; (try dsimp only at hSw); go_simp; (try (with_reducible rfl)); done)); try simp only [Act.put, List.setIfInBounds_toArray, List.set_cons_zero, List.set_cons_succ])
            (refine wpL_calm (o := { dst := some 84, op := Go.Op.move (Go.Operand.tmp 83), type := 4, pos := "law.go:170", after := #[{ on := 11, ground := Go.Ground.data }, { on := 8, ground := Go.Ground.chain }], guard := none }) (v := ?_) rfl (Or.inl ⟨by rfl, ?_⟩) ?_; rotate_left; (focus (intro w hSw; (try dsimp only at hSw); go_simp; (try (with_reducible rfl)); done)); try simp only [Act.put, List.setIfInBounds_toArray, List.set_cons_zero, List.set_cons_succ])
            first | (refine wpL_calm (o := { dst := some 85, op := Go.Op.move (Go.Operand.tmp 3), type := 3, pos := "law.go:170", after := #[{ on := 12, ground := Go.Ground.guard }], guard := some (12, false) }) (v := ?_) rfl (Or.inl ⟨by rfl, ?_⟩) ?_; rotate_left; (focus (intro w hSw; (try dsimp only at hSw); go_simp; (try (with_reducible rfl)); done)); try simp only [Act.put, List.setIfInBounds_toArray, List.set_cons_zero, List.set_cons_succ]) | (refine wpL_calm (o := { dst := some 85, op := Go.Op.move (Go.Operand.tmp 3), type := 3, pos := "law.go:170", after := #[{ on := 12, ground := Go.Ground.guard }], guard := some (12, false) }) (v := undef) rfl (Or.inr ⟨by rfl, rfl⟩) ?_; try simp only [Act.put, List.setIfInBounds_toArray, List.set_cons_zero, List.set_cons_succ])
            first | (refine wpL_calm (o := { dst := some 86, op := Go.Op.binOp Go.BinOp.eql 3 (Go.Operand.tmp 85) (Go.Operand.const (Go.Value.int Go.IntKind.i64 6)) 3, type := 4, pos := "law.go:170", after := #[{ on := 13, ground := Go.Ground.data }, { on := 12, ground := Go.Ground.guard }], guard := some (12, false) }) (v := ?_) rfl (Or.inl ⟨by rfl, ?_⟩) ?_; rotate_left; (focus (intro w hSw; (try dsimp only at hSw); go_simp; (try (with_reducible rfl)); done)); try simp only [Act.put, List.setIfInBounds_toArray, List.set_cons_zero, List.set_cons_succ]) | (refine wpL_calm (o := { dst := some 86, op := Go.Op.binOp Go.BinOp.eql 3 (Go.Operand.tmp 85) (Go.Operand.const (Go.Value.int Go.IntKind.i64 6)) 3, type := 4, pos := "law.go:170", after := #[{ on := 13, ground := Go.Ground.data }, { on := 12, ground := Go.Ground.guard }], guard := some (12, false) }) (v := undef) rfl (Or.inr ⟨by rfl, rfl⟩) ?_; try simp only [Act.put, List.setIfInBounds_toArray, List.set_cons_zero, List.set_cons_succ])
            first | (refine wpL_calm (o := { dst := some 87, op := Go.Op.move (Go.Operand.tmp 86), type := 4, pos := "law.go:170", after := #[{ on := 14, ground := Go.Ground.data }, { on := 12, ground := Go.Ground.chain }, { on := 12, ground := Go.Ground.guard }], guard := some (12, false) }) (v := ?_) rfl (Or.inl ⟨by rfl, ?_⟩) ?_; rotate_left; (focus (intro w hSw; (try dsimp only at hSw); go_simp; (try (with_reducible rfl)); done)); try simp only [Act.put, List.setIfInBounds_toArray, List.set_cons_zero, List.set_cons_succ]) | (refine wpL_calm (o := { dst := some 87, op := Go.Op.move (Go.Operand.tmp 86), type := 4, pos := "law.go:170", after := #[{ on := 14, ground := Go.Ground.data }, { on := 12, ground := Go.Ground.chain }, { on := 12, ground := Go.Ground.guard }], guard := some (12, false) }) (v := undef) rfl (Or.inr ⟨by rfl, rfl⟩) ?_; try simp only [Act.put, List.setIfInBounds_toArray, List.set_cons_zero, List.set_cons_succ])
            refine wpL_calm (o := { dst := some 88, op := Go.Op.load 34 (Go.Operand.tmp 8), type := 34, pos := "law.go:170", after := #[{ on := 15, ground := Go.Ground.guard }], guard := some (15, true) }) rfl (yieldsIf_load_mid (by rfl) _ _ rfl q8 0 rfl D6.toList _ (fun _ h => range_dg h.1 HBV.out) Tryd.underlying34 rfl (by rw [HVL.out]; kernel_rfl)) ?_; rw [HBV.out]
            try simp only [Act.put, List.setIfInBounds_toArray, List.set_cons_zero, List.set_cons_succ]
            refine wpL_loud1 (o := { dst := some 89, op := Go.Op.call { callee := Go.Callee.value (Go.Operand.func 25), args := #[Go.Operand.const (Go.Value.slice none 0 0)], argTypes := #[54] }, type := 54, pos := "law.go:170", after := #[{ on := 15, ground := Go.Ground.chain }, { on := 15, ground := Go.Ground.guard }], guard := some (15, true) }) rfl (fun K hK => ?_)
            (go_simp; go_at_call 25; refine (HSN.out _ BI.drew).mono ?_; rintro e w10 ⟨g, c', rfl, R10, _, b10, hc10⟩; have B10 := BI.drew.trans (b10.mono BI.size); have hd10 := blk_belowN (w := wr.drew) b10 hd; have he10 := blk_belowN (w := wr.drew) b10 he)
            try go_wp2_with fail
            refine hK.out _ _ ?_ (fun hHeld => ?_)
            · (try dsimp only); exact ⟨hd10, he10⟩
            clear hK K
            try simp only [Act.put, List.setIfInBounds_toArray, List.set_cons_zero, List.set_cons_succ]
            refine wpL_loud1 (o := { dst := some 90, op := Go.Op.call { callee := Go.Callee.value (Go.Operand.func 26), args := #[Go.Operand.tmp 89], argTypes := #[54] }, type := 34, pos := "law.go:170", after := #[{ on := 17, ground := Go.Ground.data }, { on := 17, ground := Go.Ground.chain }, { on := 15, ground := Go.Ground.guard }], guard := some (15, true) }) rfl (fun K hK => ?_)
            (go_simp; go_at_call 26; refine (HLR.out g c' w10 (hG.below B10) R10 hc10).mono ?_; rintro e w11 ⟨rfl, b11⟩; have B11 := B10.trans (b11.mono B10.size))
            try go_wp2_with fail
            refine hK.out _ _ ?_ (fun hHeld => ?_)
            · (try dsimp only); exact ⟨blk_belowN b11 hd10, blk_belowN b11 he10⟩
            clear hK K
            try simp only [Act.put, List.setIfInBounds_toArray, List.set_cons_zero, List.set_cons_succ]
            refine wpL_calm (o := { dst := some 91, op := Go.Op.binOp Go.BinOp.neq 34 (Go.Operand.tmp 88) (Go.Operand.tmp 90) 34, type := 4, pos := "law.go:170", after := #[{ on := 16, ground := Go.Ground.data }, { on := 18, ground := Go.Ground.data }, { on := 15, ground := Go.Ground.guard }], guard := some (15, true) }) (v := .bool false) rfl (Or.inl ⟨by rfl, fun w _ => neq_run_op (vx := D6) (vy := D6) _ _ _ rfl rfl rfl hnq w⟩) ?_
            try simp only [Act.put, List.setIfInBounds_toArray, List.set_cons_zero, List.set_cons_succ]
            first | (refine wpL_calm (o := { dst := some 92, op := Go.Op.pick (Go.Operand.tmp 87) (Go.Operand.tmp 91) (Go.Operand.const (Go.Value.bool false)), type := 4, pos := "law.go:170", after := #[{ on := 15, ground := Go.Ground.data }, { on := 19, ground := Go.Ground.data }, { on := 12, ground := Go.Ground.guard }], guard := some (12, false) }) (v := ?_) rfl (Or.inl ⟨by rfl, ?_⟩) ?_; rotate_left; (focus (intro w hSw; (try dsimp only at hSw); go_simp; (try (with_reducible rfl)); done)); try simp only [Act.put, List.setIfInBounds_toArray, List.set_cons_zero, List.set_cons_succ]) | (refine wpL_calm (o := { dst := some 92, op := Go.Op.pick (Go.Operand.tmp 87) (Go.Operand.tmp 91) (Go.Operand.const (Go.Value.bool false)), type := 4, pos := "law.go:170", after := #[{ on := 15, ground := Go.Ground.data }, { on := 19, ground := Go.Ground.data }, { on := 12, ground := Go.Ground.guard }], guard := some (12, false) }) (v := undef) rfl (Or.inr ⟨by rfl, rfl⟩) ?_; try simp only [Act.put, List.setIfInBounds_toArray, List.set_cons_zero, List.set_cons_succ])
            (refine wpL_calm (o := { dst := some 93, op := Go.Op.pick (Go.Operand.tmp 84) (Go.Operand.const (Go.Value.bool true)) (Go.Operand.tmp 92), type := 4, pos := "law.go:170", after := #[{ on := 12, ground := Go.Ground.data }, { on := 20, ground := Go.Ground.data }], guard := none }) (v := ?_) rfl (Or.inl ⟨by rfl, ?_⟩) ?_; rotate_left; (focus (intro w hSw; (try dsimp only at hSw); go_simp; (try (with_reducible rfl)); done)); try simp only [Act.put, List.setIfInBounds_toArray, List.set_cons_zero, List.set_cons_succ])
            refine wpL_nil ?_
            refine NoPanic.normal ?_
            go_wp2_with fail
            go_meet
            exact Lib.hid B11
          · have e6 : ((i : Int) == 6) = false := by rw [beq_eq_false_iff_ne]; omega
            generalize digA (bareS i) = DK at *
            go_upto_region 13 with fail
            refine wp_region_lin (S := (fun w' => w'.heap[q8]? = some (.cells DK 34 (0, 0)) ∧ w'.heap[q13]? = some (.cells DK 34 (0, 0)))) [(0, true), (1, true), (2, true), (3, true), (4, true), (5, true), (6, true), (7, true), (8, true), (9, true), (10, true), (11, true), (12, true), (13, true), (14, true), (15, true), (16, true), (17, false), (18, false), (19, true), (20, true), (21, true)] (by kernel_rfl) (by kernel_rfl) rfl (by kernel_rfl) ?_ (fun hHeld => ?_)
            · (try dsimp only); exact ⟨hd, he⟩
            refine wpL_calm (o := { dst := some 72, op := Go.Op.move (Go.Operand.tmp 7), type := 9, pos := "law.go:170", after := #[], guard := none }) (v := ?_) rfl (Or.inl ⟨by rfl, ?_⟩) ?_; rotate_left; (focus (intro w hSw; (try dsimp only at hSw); go_simp; (try (with_reducible rfl)); done)); try simp only [Act.put, List.setIfInBounds_toArray, List.set_cons_zero, List.set_cons_succ]
            refine wpL_calm (o := { dst := some 73, op := Go.Op.move (Go.Operand.tmp 12), type := 9, pos := "law.go:170", after := #[], guard := none }) (v := ?_) rfl (Or.inl ⟨by rfl, ?_⟩) ?_; rotate_left; (focus (intro w hSw; (try dsimp only at hSw); go_simp; (try (with_reducible rfl)); done)); try simp only [Act.put, List.setIfInBounds_toArray, List.set_cons_zero, List.set_cons_succ]
            refine wpL_calm (o := { dst := some 74, op := Go.Op.binOp Go.BinOp.neq 9 (Go.Operand.tmp 72) (Go.Operand.tmp 73) 9, type := 4, pos := "law.go:170", after := #[{ on := 0, ground := Go.Ground.data }, { on := 1, ground := Go.Ground.data }], guard := none }) (v := ?_) rfl (Or.inl ⟨by rfl, ?_⟩) ?_; rotate_left; (focus (intro w hSw; (try dsimp only at hSw); go_simp; (try (with_reducible rfl)); done)); try simp only [Act.put, List.setIfInBounds_toArray, List.set_cons_zero, List.set_cons_succ]
            refine wpL_calm (o := { dst := some 75, op := Go.Op.move (Go.Operand.tmp 74), type := 4, pos := "law.go:170", after := #[{ on := 2, ground := Go.Ground.data }], guard := none }) (v := ?_) rfl (Or.inl ⟨by rfl, ?_⟩) ?_; rotate_left; (focus (intro w hSw; (try dsimp only at hSw); go_simp; (try (with_reducible rfl)); done)); try simp only [Act.put, List.setIfInBounds_toArray, List.set_cons_zero, List.set_cons_succ]
            refine wpL_calm (o := { dst := some 76, op := Go.Op.load 34 (Go.Operand.tmp 8), type := 34, pos := "law.go:170", after := #[{ on := 3, ground := Go.Ground.guard }], guard := some (3, false) }) rfl (yieldsIf_load_mid (by rfl) _ _ rfl q8 0 rfl DK.toList _ (fun _ h => range_dg h.1 HBV.out) Tryd.underlying34 rfl (by rw [HVL.out]; kernel_rfl)) ?_; rw [HBV.out]
            try simp only [Act.put, List.setIfInBounds_toArray, List.set_cons_zero, List.set_cons_succ]
            refine wpL_calm (o := { dst := some 77, op := Go.Op.load 34 (Go.Operand.tmp 13), type := 34, pos := "law.go:170", after := #[{ on := 3, ground := Go.Ground.guard }], guard := some (3, false) }) rfl (yieldsIf_load_mid (by rfl) _ _ rfl q13 0 rfl DK.toList _ (fun _ h => range_dg h.2 HBV.out) Tryd.underlying34 rfl (by rw [HVL.out]; kernel_rfl)) ?_; rw [HBV.out]
            try simp only [Act.put, List.setIfInBounds_toArray, List.set_cons_zero, List.set_cons_succ]
            refine wpL_calm (o := { dst := some 78, op := Go.Op.binOp Go.BinOp.neq 34 (Go.Operand.tmp 76) (Go.Operand.tmp 77) 34, type := 4, pos := "law.go:170", after := #[{ on := 4, ground := Go.Ground.data }, { on := 5, ground := Go.Ground.data }, { on := 3, ground := Go.Ground.guard }], guard := some (3, false) }) (v := .bool false) rfl (Or.inl ⟨by rfl, fun w _ => neq_run_op (vx := DK) (vy := DK) _ _ _ rfl rfl rfl hnq w⟩) ?_
            try simp only [Act.put, List.setIfInBounds_toArray, List.set_cons_zero, List.set_cons_succ]
            refine wpL_calm (o := { dst := some 79, op := Go.Op.pick (Go.Operand.tmp 75) (Go.Operand.const (Go.Value.bool true)) (Go.Operand.tmp 78), type := 4, pos := "law.go:170", after := #[{ on := 3, ground := Go.Ground.data }, { on := 6, ground := Go.Ground.data }], guard := none }) (v := ?_) rfl (Or.inl ⟨by rfl, ?_⟩) ?_; rotate_left; (focus (intro w hSw; (try dsimp only at hSw); go_simp; (try (with_reducible rfl)); done)); try simp only [Act.put, List.setIfInBounds_toArray, List.set_cons_zero, List.set_cons_succ]
            refine wpL_calm (o := { dst := some 80, op := Go.Op.move (Go.Operand.tmp 79), type := 4, pos := "law.go:170", after := #[{ on := 7, ground := Go.Ground.data }, { on := 3, ground := Go.Ground.chain }], guard := none }) (v := ?_) rfl (Or.inl ⟨by rfl, ?_⟩) ?_; rotate_left; (focus (intro w hSw; (try dsimp only at hSw); go_simp; (try (with_reducible rfl)); done)); try simp only [Act.put, List.setIfInBounds_toArray, List.set_cons_zero, List.set_cons_succ]
            refine wpL_calm (o := { dst := some 81, op := Go.Op.move (Go.Operand.tmp 9), type := 30, pos := "law.go:170", after := #[{ on := 8, ground := Go.Ground.guard }], guard := some (8, false) }) (v := ?_) rfl (Or.inl ⟨by rfl, ?_⟩) ?_; rotate_left; (focus (intro w hSw; (try dsimp only at hSw); go_simp; (try (with_reducible rfl)); done)); try simp only [Act.put, List.setIfInBounds_toArray, List.set_cons_zero, List.set_cons_succ]
            refine wpL_calm (o := { dst := some 82, op := Go.Op.binOp Go.BinOp.neq 30 (Go.Operand.tmp 81) (Go.Operand.const (Go.Value.int Go.IntKind.i64 0)) 30, type := 4, pos := "law.go:170", after := #[{ on := 9, ground := Go.Ground.data }, { on := 8, ground := Go.Ground.guard }], guard := some (8, false) }) (v := ?_) rfl (Or.inl ⟨by rfl, ?_⟩) ?_; rotate_left; (focus (intro w hSw; (try dsimp only at hSw); go_simp; (try (with_reducible rfl)); done)); try simp only [Act.put, List.setIfInBounds_toArray, List.set_cons_zero, List.set_cons_succ]
            refine wpL_calm (o := { dst := some 83, op := Go.Op.pick (Go.Operand.tmp 80) (Go.Operand.const (Go.Value.bool true)) (Go.Operand.tmp 82), type := 4, pos := "law.go:170", after := #[{ on := 8, ground := Go.Ground.data }, { on := 10, ground := Go.Ground.data }], guard := none }) (v := ?_) rfl (Or.inl ⟨by rfl, ?_⟩) ?_; rotate_left; (focus (intro w hSw; (try dsimp only at hSw); go_simp; (try (with_reducible rfl)); done)); try simp only [Act.put, List.setIfInBounds_toArray, List.set_cons_zero, List.set_cons_succ]
            refine wpL_calm (o := { dst := some 84, op := Go.Op.move (Go.Operand.tmp 83), type := 4, pos := "law.go:170", after := #[{ on := 11, ground := Go.Ground.data }, { on := 8, ground := Go.Ground.chain }], guard := none }) (v := ?_) rfl (Or.inl ⟨by rfl, ?_⟩) ?_; rotate_left; (focus (intro w hSw; (try dsimp only at hSw); go_simp; (try (with_reducible rfl)); done)); try simp only [Act.put, List.setIfInBounds_toArray, List.set_cons_zero, List.set_cons_succ]
            refine wpL_calm (o := { dst := some 85, op := Go.Op.move (Go.Operand.tmp 3), type := 3, pos := "law.go:170", after := #[{ on := 12, ground := Go.Ground.guard }], guard := some (12, false) }) (v := ?_) rfl (Or.inl ⟨by rfl, ?_⟩) ?_; rotate_left; (focus (intro w hSw; (try dsimp only at hSw); go_simp; (try (with_reducible rfl)); done)); try simp only [Act.put, List.setIfInBounds_toArray, List.set_cons_zero, List.set_cons_succ]
            refine wpL_calm (o := { dst := some 86, op := Go.Op.binOp Go.BinOp.eql 3 (Go.Operand.tmp 85) (Go.Operand.const (Go.Value.int Go.IntKind.i64 6)) 3, type := 4, pos := "law.go:170", after := #[{ on := 13, ground := Go.Ground.data }, { on := 12, ground := Go.Ground.guard }], guard := some (12, false) }) (v := ?_) rfl (Or.inl ⟨by rfl, ?_⟩) ?_; rotate_left; (focus (intro w hSw; (try dsimp only at hSw); go_simp; (try (with_reducible rfl)); done)); try simp only [Act.put, List.setIfInBounds_toArray, List.set_cons_zero, List.set_cons_succ]
            refine wpL_calm (o := { dst := some 87, op := Go.Op.move (Go.Operand.tmp 86), type := 4, pos := "law.go:170", after := #[{ on := 14, ground := Go.Ground.data }, { on := 12, ground := Go.Ground.chain }, { on := 12, ground := Go.Ground.guard }], guard := some (12, false) }) (v := ?_) rfl (Or.inl ⟨by rfl, ?_⟩) ?_; rotate_left; (focus (intro w hSw; (try dsimp only at hSw); go_simp; (try (with_reducible rfl)); done)); try simp only [Act.put, List.setIfInBounds_toArray, List.set_cons_zero, List.set_cons_succ]
            refine wpL_calm (o := { dst := some 88, op := Go.Op.load 34 (Go.Operand.tmp 8), type := 34, pos := "law.go:170", after := #[{ on := 15, ground := Go.Ground.guard }], guard := some (15, true) }) (v := undef) rfl (Or.inr ⟨by rfl, rfl⟩) ?_; try simp only [Act.put, List.setIfInBounds_toArray, List.set_cons_zero, List.set_cons_succ]
            refine wpL_loud1 (o := { dst := some 89, op := Go.Op.call { callee := Go.Callee.value (Go.Operand.func 25), args := #[Go.Operand.const (Go.Value.slice none 0 0)], argTypes := #[54] }, type := 54, pos := "law.go:170", after := #[{ on := 15, ground := Go.Ground.chain }, { on := 15, ground := Go.Ground.guard }], guard := some (15, true) }) rfl (fun K hK => ?_)
            go_simp
            try go_wp2_with fail
            refine hK.out _ _ ?_ (fun hHeld => ?_)
            · (try dsimp only); exact ⟨hd, he⟩
            clear hK K
            try simp only [Act.put, List.setIfInBounds_toArray, List.set_cons_zero, List.set_cons_succ]
            refine wpL_loud1 (o := { dst := some 90, op := Go.Op.call { callee := Go.Callee.value (Go.Operand.func 26), args := #[Go.Operand.tmp 89], argTypes := #[54] }, type := 34, pos := "law.go:170", after := #[{ on := 17, ground := Go.Ground.data }, { on := 17, ground := Go.Ground.chain }, { on := 15, ground := Go.Ground.guard }], guard := some (15, true) }) rfl (fun K hK => ?_)
            go_simp
            try go_wp2_with fail
            refine hK.out _ _ ?_ (fun hHeld => ?_)
            · (try dsimp only); exact ⟨hd, he⟩
            clear hK K
            try simp only [Act.put, List.setIfInBounds_toArray, List.set_cons_zero, List.set_cons_succ]
            refine wpL_calm (o := { dst := some 91, op := Go.Op.binOp Go.BinOp.neq 34 (Go.Operand.tmp 88) (Go.Operand.tmp 90) 34, type := 4, pos := "law.go:170", after := #[{ on := 16, ground := Go.Ground.data }, { on := 18, ground := Go.Ground.data }, { on := 15, ground := Go.Ground.guard }], guard := some (15, true) }) (v := undef) rfl (Or.inr ⟨by rfl, rfl⟩) ?_; try simp only [Act.put, List.setIfInBounds_toArray, List.set_cons_zero, List.set_cons_succ]
            refine wpL_calm (o := { dst := some 92, op := Go.Op.pick (Go.Operand.tmp 87) (Go.Operand.tmp 91) (Go.Operand.const (Go.Value.bool false)), type := 4, pos := "law.go:170", after := #[{ on := 15, ground := Go.Ground.data }, { on := 19, ground := Go.Ground.data }, { on := 12, ground := Go.Ground.guard }], guard := some (12, false) }) (v := ?_) rfl (Or.inl ⟨by rfl, ?_⟩) ?_; rotate_left; (focus (intro w hSw; (try dsimp only at hSw); go_simp; (try (with_reducible rfl)); done)); try simp only [Act.put, List.setIfInBounds_toArray, List.set_cons_zero, List.set_cons_succ]
            refine wpL_calm (o := { dst := some 93, op := Go.Op.pick (Go.Operand.tmp 84) (Go.Operand.const (Go.Value.bool true)) (Go.Operand.tmp 92), type := 4, pos := "law.go:170", after := #[{ on := 12, ground := Go.Ground.data }, { on := 20, ground := Go.Ground.data }], guard := none }) (v := ?_) rfl (Or.inl ⟨by rfl, ?_⟩) ?_; rotate_left; (focus (intro w hSw; (try dsimp only at hSw); go_simp; (try (with_reducible rfl)); done)); try simp only [Act.put, List.setIfInBounds_toArray, List.set_cons_zero, List.set_cons_succ]
            refine wpL_nil ?_
            refine NoPanic.normal ?_
            go_wp2_with fail
            go_meet
            exact Lib.hid BI.drew
    case rest =>
      have BW := hcut.out
      clear hcut hd5 B5
      by_cases hb1 : 70 < x
      · as_aux_lemma =>
        have s1 : (70 : Int) < (x : Int) := by omega
        go_wp2_with fail
        refine (awake17 _ (hG.below BW)).mono ?_
        rintro e w14 ⟨rfl, b14⟩
        go_wp2_with fail
        go_ret
        exact ⟨rfl, BW.trans (b14.mono BW.size)⟩
      by_cases hb2 : 70 < y
      · as_aux_lemma =>
        have s1 : ¬ (70 : Int) < (x : Int) := by omega
        have s2 : (70 : Int) < (y : Int) := by omega
        go_wp2_with fail
        refine (awake17 _ (hG.below BW)).mono ?_
        rintro e w14 ⟨rfl, b14⟩
        go_wp2_with fail
        go_ret
        exact ⟨rfl, BW.trans (b14.mono BW.size)⟩
      have s1 : ¬ (70 : Int) < (x : Int) := by omega
      have s2 : ¬ (70 : Int) < (y : Int) := by omega
      go_upto_region 17 with fail
      go_cut [15] from 94 (fun s15 wx => Hid (Below w.heap.size w wx) ∧ ∃ b, s15 = .bool b ∧ ((b = true ∧ x = 64 ∧ y = 64) ∨ (b = false ∧ ¬ (x = 64 ∧ y = 64))))
      case first =>
        as_aux_lemma =>
        by_cases hx64 : x = 64
        · subst hx64
          rw [show ((64 : Nat) : Int) = 64 from rfl]
          by_cases hy64 : y = 64
          · subst hy64
            rw [show ((64 : Nat) : Int) = 64 from rfl]
            go_wp2_with fail
            go_meet
            exact ⟨Lib.hid BW, true, rfl, Or.inl ⟨by first | rfl | trivial, by first | rfl | trivial, by first | rfl | trivial⟩⟩
          · have s3 : ((y : Int) == 64) = false := by rw [beq_eq_false_iff_ne]; omega
            go_wp2_with fail
            go_meet
            exact ⟨Lib.hid BW, false, rfl, Or.inr ⟨by first | rfl | trivial, fun q => hy64 q.2⟩⟩
        · have s3 : ((x : Int) == 64) = false := by rw [beq_eq_false_iff_ne]; omega
          go_wp2_with fail
          go_meet
          exact ⟨Lib.hid BW, false, rfl, Or.inr ⟨by first | rfl | trivial, fun q => hx64 q.1⟩⟩
      case rest =>
        obtain ⟨HBW, b15, rfl, hcs⟩ := hcut
        clear BW
        generalize wc = wa at *
        go_upto_if 111 with fail
        go_cut [15] from 94 (fun s15 wx => Hid (Below w.heap.size w wx) ∧ ∃ r, s15 = .bool r ∧ Hid (∀ wz, Below w.heap.size w wz → Calls Tryd.prog 31 #[.pointer none, .slice la x c, .slice lb y d] wz fun e w' => e = .returned (.bool r) ∧ Below wz.heap.size wz w'))
        case first =>
          as_aux_lemma =>
          rcases hcs with ⟨rfl, rfl, rfl⟩ | ⟨rfl, hno⟩
          · have HRL := Lib.hid (fun wz (hb : Below w.heap.size w wz) => lawRoot_at L la c wz (hG.below hb) HX.out HL3.out hxc hcm (HTL.out.below hb))
            have HRM := Lib.hid (fun wz (hb : Below w.heap.size w wz) => lawRoot_at M lb d wz (hG.below hb) HY.out HM3.out hyd hdm (HTM.out.below hb))
            have HSM := Lib.hid (fun wz (hb : Below w.heap.size w wz) => nsame_yes L M la lb c d wz (hG.below hb) HX.out HL3.out (HTL.out.below hb) HY.out HM3.out (HTM.out.below hb))
            have heql := eql_dig2 (rootD 6 L) (rootD 6 M) (rootD_len L HL3.out 6 HX.out) (rootD_len M HM3.out 6 HY.out)
            generalize (rootD 6 L == rootD 6 M) = rr at *
            generalize digA (rootD 6 L) = D1 at *
            generalize digA (rootD 6 M) = D2 at *
            go_wp2_with fail
            refine (HRL.out wa HBW.out).mono ?_
            rintro e w6 ⟨rfl, b6⟩
            have B6 := HBW.out.trans (b6.mono HBW.out.size)
            go_wp2_with fail
            refine (HRM.out w6 B6).mono ?_
            rintro e w7 ⟨rfl, b7⟩
            have B7 := B6.trans (b7.mono B6.size)
            go_wp2_with ((with_reducible refine wpList_eql_g (vx := D1) (vy := D2) _ _ _ rfl ?_ heql ?_); exact ⟨rfl, rfl, rfl⟩)
            go_meet
            exact ⟨Lib.hid B7, rr, rfl, HSM⟩
          · have HSM : Hid (∀ wz, Below w.heap.size w wz → Calls Tryd.prog 31 #[.pointer none, .slice la x c, .slice lb y d] wz fun e w' => e = .returned (.bool false) ∧ Below wz.heap.size wz w') := Lib.hid (fun wz hb => by
              by_cases hx64 : x = 64
              · subst hx64
                exact nsame_form2 L la lb c y d wz (hG.below hb) HX.out HL3.out (HTL.out.below hb) (fun q => hno ⟨rfl, q⟩)
              · exact nsame_form1 la lb x c y d wz hx64)
            go_wp2_with fail
            go_meet
            exact ⟨HBW, false, rfl, HSM⟩
        case rest =>
          obtain ⟨HBX, r, rfl, HSM⟩ := hcut
          clear HBW hcs HX HY HL3 HM3 HTL HTM
          have BX := HBX.out
          clear HBX
          go_wp2_with fail
          refine (HSM.out _ BX).mono ?_
          rintro e w8 ⟨rfl, b8⟩
          have BW := BX.trans (b8.mono BX.size)
          clear b8 BX HSM
          cases r
          · by_cases hN : 0 ≤ n ∧ n ≤ 62
            · as_aux_lemma =>
              obtain ⟨m, rfl⟩ : ∃ m : Nat, n = (m : Int) := ⟨n.toNat, by omega⟩
              obtain ⟨rfl, rfl⟩ := HH0.out hN
              simp only [Int.toNat_natCast] at *
              have hm1 : ¬ (m : Int) < 0 := by omega
              have hm2 : ¬ (62 : Int) < (m : Int) := by omega
              have HHI : Hid (hiN m = 7 - (Lib.bitLen (m + 1) : Int)) := Lib.hid rfl
              have hbm := bl_le m (by omega)
              have HBO := Lib.hid bl_one
              have HBH := Lib.hid bl_half
              have HBL := Lib.hid bl_le
              generalize hiN m = hm at *
              generalize hbl : Lib.bitLen (m + 1) = bm at *
              have HBM := Lib.hid hbl
              clear hbl HH0 HH1
              go_wp2_with fail
              go_loop [17, 16] (fun x y => ∃ (j : Nat) (u : Int), x = .int .i64 (j : Int) ∧ y = .int .i64 u ∧ j < 63 ∧ 0 ≤ u ∧ u ≤ 12 ∧ Hid (u = 6 - (bm : Int) + (Lib.bitLen (j + 1) : Int))) (fun x _ => (intOf x).toNat)
              case atStart => exact ⟨m, 6, rfl, rfl, by omega, by omega, by omega, Lib.hid (by rw [HBM.out]; omega)⟩
              case round =>
                obtain ⟨j, u, rfl, rfl, hj, hu0, hu, HU⟩ := hrel
                by_cases hj0 : 0 < j
                · have hj1 : (0 : Int) < (j : Int) := by omega
                  obtain ⟨i, rfl⟩ : ∃ i, j = i + 1 := ⟨j - 1, by omega⟩
                  have e1 : ((i + 1 : Nat) : Int) - 1 = (i : Int) := by omega
                  have e1' : (i : Int) + 1 - 1 = (i : Int) := by omega
                  have e2 : (i : Int) / 2 = ((i / 2 : Nat) : Int) := by omega
                  have hh2 := HBH.out (i + 1) hj (by omega)
                  rw [show i + 1 - 1 = i from by omega] at hh2
                  have hl := HBL.out (i / 2) (by omega)
                  have HU2 : Hid (u - 1 = 6 - (bm : Int) + (Lib.bitLen (i / 2 + 1) : Int)) := Lib.hid (by have := HU.out; omega)
                  have hu2 : 0 ≤ u - 1 := by have := HU2.out; omega
                  have hi2 : i / 2 ≤ 62 := by omega
                  have hi3 : i ≤ 62 := by omega
                  clear HU hh2 hl
                  generalize hi4 : i / 2 = i2 at *
                  push_cast at *
                  go_wp2_with fail
                  go_round
                  case rel => exact ⟨i2, u - 1, by first | rfl | go_num, by first | rfl | go_num, by omega, by omega, by omega, HU2⟩
                  case measure => simp [intOf]; omega
                · obtain rfl : j = 0 := by omega
                  have hfin : u = hm := by have h1 := HU.out; have h2 := HHI.out; have h3 := HBO.out; rw [h3] at h1; omega
                  subst hfin
                  go_wp2_with fail
                  refine (awake17 _ (hG.below BW)).mono ?_
                  rintro e w14 ⟨rfl, b14⟩
                  go_wp2_with fail
                  go_ret
                  exact ⟨rfl, BW.trans (b14.mono BW.size)⟩
            · as_aux_lemma =>
              obtain ⟨rfl, rfl⟩ := HH1.out hN
              clear HH0 HH1
              by_cases hn0 : n < 0
              · go_wp2_with fail
                refine (awake17 _ (hG.below BW)).mono ?_
                rintro e w14 ⟨rfl, b14⟩
                go_wp2_with fail
                go_ret
                exact ⟨rfl, BW.trans (b14.mono BW.size)⟩
              · have hn6 : 62 < n := by omega
                go_wp2_with fail
                refine (awake17 _ (hG.below BW)).mono ?_
                rintro e w14 ⟨rfl, b14⟩
                go_wp2_with fail
                go_ret
                exact ⟨rfl, BW.trans (b14.mono BW.size)⟩
          · by_cases hN : 0 ≤ n ∧ n ≤ 62
            · as_aux_lemma =>
              obtain ⟨m, rfl⟩ : ∃ m : Nat, n = (m : Int) := ⟨n.toNat, by omega⟩
              obtain ⟨rfl, rfl⟩ := HH0.out hN
              simp only [Int.toNat_natCast] at *
              have hm1 : ¬ (m : Int) < 0 := by omega
              have hm2 : ¬ (62 : Int) < (m : Int) := by omega
              have HHI : Hid (hiN m = 7 - (Lib.bitLen (m + 1) : Int)) := Lib.hid rfl
              have hbm := bl_le m (by omega)
              have HBO := Lib.hid bl_one
              have HBH := Lib.hid bl_half
              have HBL := Lib.hid bl_le
              generalize hiN m = hm at *
              generalize hbl : Lib.bitLen (m + 1) = bm at *
              have HBM := Lib.hid hbl
              clear hbl HH0 HH1
              go_wp2_with fail
              go_loop [17, 16] (fun x y => ∃ (j : Nat) (u : Int), x = .int .i64 (j : Int) ∧ y = .int .i64 u ∧ j < 63 ∧ 0 ≤ u ∧ u ≤ 12 ∧ Hid (u = 6 - (bm : Int) + (Lib.bitLen (j + 1) : Int))) (fun x _ => (intOf x).toNat)
              case atStart => exact ⟨m, 6, rfl, rfl, by omega, by omega, by omega, Lib.hid (by rw [HBM.out]; omega)⟩
              case round =>
                obtain ⟨j, u, rfl, rfl, hj, hu0, hu, HU⟩ := hrel
                by_cases hj0 : 0 < j
                · have hj1 : (0 : Int) < (j : Int) := by omega
                  obtain ⟨i, rfl⟩ : ∃ i, j = i + 1 := ⟨j - 1, by omega⟩
                  have e1 : ((i + 1 : Nat) : Int) - 1 = (i : Int) := by omega
                  have e1' : (i : Int) + 1 - 1 = (i : Int) := by omega
                  have e2 : (i : Int) / 2 = ((i / 2 : Nat) : Int) := by omega
                  have hh2 := HBH.out (i + 1) hj (by omega)
                  rw [show i + 1 - 1 = i from by omega] at hh2
                  have hl := HBL.out (i / 2) (by omega)
                  have HU2 : Hid (u - 1 = 6 - (bm : Int) + (Lib.bitLen (i / 2 + 1) : Int)) := Lib.hid (by have := HU.out; omega)
                  have hu2 : 0 ≤ u - 1 := by have := HU2.out; omega
                  have hi2 : i / 2 ≤ 62 := by omega
                  have hi3 : i ≤ 62 := by omega
                  clear HU hh2 hl
                  generalize hi4 : i / 2 = i2 at *
                  push_cast at *
                  go_wp2_with fail
                  go_round
                  case rel => exact ⟨i2, u - 1, by first | rfl | go_num, by first | rfl | go_num, by omega, by omega, by omega, HU2⟩
                  case measure => simp [intOf]; omega
                · obtain rfl : j = 0 := by omega
                  have hfin : u = hm := by have h1 := HU.out; have h2 := HHI.out; have h3 := HBO.out; rw [h3] at h1; omega
                  subst hfin
                  go_wp2_with fail
                  refine (awake17 _ (hG.below BW)).mono ?_
                  rintro e w14 ⟨rfl, b14⟩
                  go_wp2_with fail
                  go_ret
                  exact ⟨rfl, BW.trans (b14.mono BW.size)⟩
            · as_aux_lemma =>
              obtain ⟨rfl, rfl⟩ := HH1.out hN
              clear HH0 HH1
              by_cases hn0 : n < 0
              · go_wp2_with fail
                refine (awake17 _ (hG.below BW)).mono ?_
                rintro e w14 ⟨rfl, b14⟩
                go_wp2_with fail
                go_ret
                exact ⟨rfl, BW.trans (b14.mono BW.size)⟩
              · have hn6 : 62 < n := by omega
                go_wp2_with fail
                refine (awake17 _ (hG.below BW)).mono ?_
                rintro e w14 ⟨rfl, b14⟩
                go_wp2_with fail
                go_ret
                exact ⟨rfl, BW.trans (b14.mono BW.size)⟩
  · obtain ⟨rfl, rfl, rfl⟩ := HB1.out hh
    clear HB0 HB1
    have l8 := loadedA_z hd5
    by_cases h0 : h < 0
    · as_aux_lemma =>
      go_upto_if 43 with fail
      go_cut [12, 13, 14] from 38 (fun s12 s13 s14 wx => Hid (Below w.heap.size w wx))
      case first =>
        have hnz := neq_z32N
        go_wp2_with (first | ((with_reducible refine wpList_load_arr_i (g := q8) (cs := z32) 34 _ rfl ?_ ?_ ?_); exact ⟨rfl, rfl⟩; assumption) | ((with_reducible refine wpList_neq_g (vx := z32) (vy := z32) (b := false) _ _ _ rfl ?_ hnz ?_); exact ⟨rfl, rfl, rfl⟩))
        go_meet
        exact Lib.hid B5
      case rest =>
        have BW := hcut.out
        clear hcut hd5 B5 l8
        by_cases hb1 : 70 < x
        · as_aux_lemma =>
          have s1 : (70 : Int) < (x : Int) := by omega
          go_wp2_with fail
          refine (awake17 _ (hG.below BW)).mono ?_
          rintro e w14 ⟨rfl, b14⟩
          go_wp2_with fail
          go_ret
          exact ⟨rfl, BW.trans (b14.mono BW.size)⟩
        by_cases hb2 : 70 < y
        · as_aux_lemma =>
          have s1 : ¬ (70 : Int) < (x : Int) := by omega
          have s2 : (70 : Int) < (y : Int) := by omega
          go_wp2_with fail
          refine (awake17 _ (hG.below BW)).mono ?_
          rintro e w14 ⟨rfl, b14⟩
          go_wp2_with fail
          go_ret
          exact ⟨rfl, BW.trans (b14.mono BW.size)⟩
        have s1 : ¬ (70 : Int) < (x : Int) := by omega
        have s2 : ¬ (70 : Int) < (y : Int) := by omega
        go_upto_region 17 with fail
        go_cut [15] from 94 (fun s15 wx => Hid (Below w.heap.size w wx) ∧ ∃ b, s15 = .bool b ∧ ((b = true ∧ x = 64 ∧ y = 64) ∨ (b = false ∧ ¬ (x = 64 ∧ y = 64))))
        case first =>
          as_aux_lemma =>
          by_cases hx64 : x = 64
          · subst hx64
            rw [show ((64 : Nat) : Int) = 64 from rfl]
            by_cases hy64 : y = 64
            · subst hy64
              rw [show ((64 : Nat) : Int) = 64 from rfl]
              go_wp2_with fail
              go_meet
              exact ⟨Lib.hid BW, true, rfl, Or.inl ⟨by first | rfl | trivial, by first | rfl | trivial, by first | rfl | trivial⟩⟩
            · have s3 : ((y : Int) == 64) = false := by rw [beq_eq_false_iff_ne]; omega
              go_wp2_with fail
              go_meet
              exact ⟨Lib.hid BW, false, rfl, Or.inr ⟨by first | rfl | trivial, fun q => hy64 q.2⟩⟩
          · have s3 : ((x : Int) == 64) = false := by rw [beq_eq_false_iff_ne]; omega
            go_wp2_with fail
            go_meet
            exact ⟨Lib.hid BW, false, rfl, Or.inr ⟨by first | rfl | trivial, fun q => hx64 q.1⟩⟩
        case rest =>
          obtain ⟨HBW, b15, rfl, hcs⟩ := hcut
          clear BW
          generalize wc = wa at *
          go_upto_if 111 with fail
          go_cut [15] from 94 (fun s15 wx => Hid (Below w.heap.size w wx) ∧ ∃ r, s15 = .bool r ∧ Hid (∀ wz, Below w.heap.size w wz → Calls Tryd.prog 31 #[.pointer none, .slice la x c, .slice lb y d] wz fun e w' => e = .returned (.bool r) ∧ Below wz.heap.size wz w'))
          case first =>
            as_aux_lemma =>
            rcases hcs with ⟨rfl, rfl, rfl⟩ | ⟨rfl, hno⟩
            · have HRL := Lib.hid (fun wz (hb : Below w.heap.size w wz) => lawRoot_at L la c wz (hG.below hb) HX.out HL3.out hxc hcm (HTL.out.below hb))
              have HRM := Lib.hid (fun wz (hb : Below w.heap.size w wz) => lawRoot_at M lb d wz (hG.below hb) HY.out HM3.out hyd hdm (HTM.out.below hb))
              have HSM := Lib.hid (fun wz (hb : Below w.heap.size w wz) => nsame_yes L M la lb c d wz (hG.below hb) HX.out HL3.out (HTL.out.below hb) HY.out HM3.out (HTM.out.below hb))
              have heql := eql_dig2 (rootD 6 L) (rootD 6 M) (rootD_len L HL3.out 6 HX.out) (rootD_len M HM3.out 6 HY.out)
              generalize (rootD 6 L == rootD 6 M) = rr at *
              generalize digA (rootD 6 L) = D1 at *
              generalize digA (rootD 6 M) = D2 at *
              go_wp2_with fail
              refine (HRL.out wa HBW.out).mono ?_
              rintro e w6 ⟨rfl, b6⟩
              have B6 := HBW.out.trans (b6.mono HBW.out.size)
              go_wp2_with fail
              refine (HRM.out w6 B6).mono ?_
              rintro e w7 ⟨rfl, b7⟩
              have B7 := B6.trans (b7.mono B6.size)
              go_wp2_with ((with_reducible refine wpList_eql_g (vx := D1) (vy := D2) _ _ _ rfl ?_ heql ?_); exact ⟨rfl, rfl, rfl⟩)
              go_meet
              exact ⟨Lib.hid B7, rr, rfl, HSM⟩
            · have HSM : Hid (∀ wz, Below w.heap.size w wz → Calls Tryd.prog 31 #[.pointer none, .slice la x c, .slice lb y d] wz fun e w' => e = .returned (.bool false) ∧ Below wz.heap.size wz w') := Lib.hid (fun wz hb => by
                by_cases hx64 : x = 64
                · subst hx64
                  exact nsame_form2 L la lb c y d wz (hG.below hb) HX.out HL3.out (HTL.out.below hb) (fun q => hno ⟨rfl, q⟩)
                · exact nsame_form1 la lb x c y d wz hx64)
              go_wp2_with fail
              go_meet
              exact ⟨HBW, false, rfl, HSM⟩
          case rest =>
            obtain ⟨HBX, r, rfl, HSM⟩ := hcut
            clear HBW hcs HX HY HL3 HM3 HTL HTM
            have BX := HBX.out
            clear HBX
            go_wp2_with fail
            refine (HSM.out _ BX).mono ?_
            rintro e w8 ⟨rfl, b8⟩
            have BW := BX.trans (b8.mono BX.size)
            clear b8 BX HSM
            cases r
            · by_cases hN : 0 ≤ n ∧ n ≤ 62
              · as_aux_lemma =>
                obtain ⟨m, rfl⟩ : ∃ m : Nat, n = (m : Int) := ⟨n.toNat, by omega⟩
                obtain ⟨rfl, rfl⟩ := HH0.out hN
                simp only [Int.toNat_natCast] at *
                have hm1 : ¬ (m : Int) < 0 := by omega
                have hm2 : ¬ (62 : Int) < (m : Int) := by omega
                have HHI : Hid (hiN m = 7 - (Lib.bitLen (m + 1) : Int)) := Lib.hid rfl
                have hbm := bl_le m (by omega)
                have HBO := Lib.hid bl_one
                have HBH := Lib.hid bl_half
                have HBL := Lib.hid bl_le
                generalize hiN m = hm at *
                generalize hbl : Lib.bitLen (m + 1) = bm at *
                have HBM := Lib.hid hbl
                clear hbl HH0 HH1
                go_wp2_with fail
                go_loop [17, 16] (fun x y => ∃ (j : Nat) (u : Int), x = .int .i64 (j : Int) ∧ y = .int .i64 u ∧ j < 63 ∧ 0 ≤ u ∧ u ≤ 12 ∧ Hid (u = 6 - (bm : Int) + (Lib.bitLen (j + 1) : Int))) (fun x _ => (intOf x).toNat)
                case atStart => exact ⟨m, 6, rfl, rfl, by omega, by omega, by omega, Lib.hid (by rw [HBM.out]; omega)⟩
                case round =>
                  obtain ⟨j, u, rfl, rfl, hj, hu0, hu, HU⟩ := hrel
                  by_cases hj0 : 0 < j
                  · have hj1 : (0 : Int) < (j : Int) := by omega
                    obtain ⟨i, rfl⟩ : ∃ i, j = i + 1 := ⟨j - 1, by omega⟩
                    have e1 : ((i + 1 : Nat) : Int) - 1 = (i : Int) := by omega
                    have e1' : (i : Int) + 1 - 1 = (i : Int) := by omega
                    have e2 : (i : Int) / 2 = ((i / 2 : Nat) : Int) := by omega
                    have hh2 := HBH.out (i + 1) hj (by omega)
                    rw [show i + 1 - 1 = i from by omega] at hh2
                    have hl := HBL.out (i / 2) (by omega)
                    have HU2 : Hid (u - 1 = 6 - (bm : Int) + (Lib.bitLen (i / 2 + 1) : Int)) := Lib.hid (by have := HU.out; omega)
                    have hu2 : 0 ≤ u - 1 := by have := HU2.out; omega
                    have hi2 : i / 2 ≤ 62 := by omega
                    have hi3 : i ≤ 62 := by omega
                    clear HU hh2 hl
                    generalize hi4 : i / 2 = i2 at *
                    push_cast at *
                    go_wp2_with fail
                    go_round
                    case rel => exact ⟨i2, u - 1, by first | rfl | go_num, by first | rfl | go_num, by omega, by omega, by omega, HU2⟩
                    case measure => simp [intOf]; omega
                  · obtain rfl : j = 0 := by omega
                    have hfin : u = hm := by have h1 := HU.out; have h2 := HHI.out; have h3 := HBO.out; rw [h3] at h1; omega
                    subst hfin
                    go_wp2_with fail
                    refine (awake17 _ (hG.below BW)).mono ?_
                    rintro e w14 ⟨rfl, b14⟩
                    go_wp2_with fail
                    go_ret
                    exact ⟨rfl, BW.trans (b14.mono BW.size)⟩
              · as_aux_lemma =>
                obtain ⟨rfl, rfl⟩ := HH1.out hN
                clear HH0 HH1
                by_cases hn0 : n < 0
                · go_wp2_with fail
                  refine (awake17 _ (hG.below BW)).mono ?_
                  rintro e w14 ⟨rfl, b14⟩
                  go_wp2_with fail
                  go_ret
                  exact ⟨rfl, BW.trans (b14.mono BW.size)⟩
                · have hn6 : 62 < n := by omega
                  go_wp2_with fail
                  refine (awake17 _ (hG.below BW)).mono ?_
                  rintro e w14 ⟨rfl, b14⟩
                  go_wp2_with fail
                  go_ret
                  exact ⟨rfl, BW.trans (b14.mono BW.size)⟩
            · by_cases hN : 0 ≤ n ∧ n ≤ 62
              · as_aux_lemma =>
                obtain ⟨m, rfl⟩ : ∃ m : Nat, n = (m : Int) := ⟨n.toNat, by omega⟩
                obtain ⟨rfl, rfl⟩ := HH0.out hN
                simp only [Int.toNat_natCast] at *
                have hm1 : ¬ (m : Int) < 0 := by omega
                have hm2 : ¬ (62 : Int) < (m : Int) := by omega
                have HHI : Hid (hiN m = 7 - (Lib.bitLen (m + 1) : Int)) := Lib.hid rfl
                have hbm := bl_le m (by omega)
                have HBO := Lib.hid bl_one
                have HBH := Lib.hid bl_half
                have HBL := Lib.hid bl_le
                generalize hiN m = hm at *
                generalize hbl : Lib.bitLen (m + 1) = bm at *
                have HBM := Lib.hid hbl
                clear hbl HH0 HH1
                go_wp2_with fail
                go_loop [17, 16] (fun x y => ∃ (j : Nat) (u : Int), x = .int .i64 (j : Int) ∧ y = .int .i64 u ∧ j < 63 ∧ 0 ≤ u ∧ u ≤ 12 ∧ Hid (u = 6 - (bm : Int) + (Lib.bitLen (j + 1) : Int))) (fun x _ => (intOf x).toNat)
                case atStart => exact ⟨m, 6, rfl, rfl, by omega, by omega, by omega, Lib.hid (by rw [HBM.out]; omega)⟩
                case round =>
                  obtain ⟨j, u, rfl, rfl, hj, hu0, hu, HU⟩ := hrel
                  by_cases hj0 : 0 < j
                  · have hj1 : (0 : Int) < (j : Int) := by omega
                    obtain ⟨i, rfl⟩ : ∃ i, j = i + 1 := ⟨j - 1, by omega⟩
                    have e1 : ((i + 1 : Nat) : Int) - 1 = (i : Int) := by omega
                    have e1' : (i : Int) + 1 - 1 = (i : Int) := by omega
                    have e2 : (i : Int) / 2 = ((i / 2 : Nat) : Int) := by omega
                    have hh2 := HBH.out (i + 1) hj (by omega)
                    rw [show i + 1 - 1 = i from by omega] at hh2
                    have hl := HBL.out (i / 2) (by omega)
                    have HU2 : Hid (u - 1 = 6 - (bm : Int) + (Lib.bitLen (i / 2 + 1) : Int)) := Lib.hid (by have := HU.out; omega)
                    have hu2 : 0 ≤ u - 1 := by have := HU2.out; omega
                    have hi2 : i / 2 ≤ 62 := by omega
                    have hi3 : i ≤ 62 := by omega
                    clear HU hh2 hl
                    generalize hi4 : i / 2 = i2 at *
                    push_cast at *
                    go_wp2_with fail
                    go_round
                    case rel => exact ⟨i2, u - 1, by first | rfl | go_num, by first | rfl | go_num, by omega, by omega, by omega, HU2⟩
                    case measure => simp [intOf]; omega
                  · obtain rfl : j = 0 := by omega
                    have hfin : u = hm := by have h1 := HU.out; have h2 := HHI.out; have h3 := HBO.out; rw [h3] at h1; omega
                    subst hfin
                    go_wp2_with fail
                    refine (awake17 _ (hG.below BW)).mono ?_
                    rintro e w14 ⟨rfl, b14⟩
                    go_wp2_with fail
                    go_ret
                    exact ⟨rfl, BW.trans (b14.mono BW.size)⟩
              · as_aux_lemma =>
                obtain ⟨rfl, rfl⟩ := HH1.out hN
                clear HH0 HH1
                by_cases hn0 : n < 0
                · go_wp2_with fail
                  refine (awake17 _ (hG.below BW)).mono ?_
                  rintro e w14 ⟨rfl, b14⟩
                  go_wp2_with fail
                  go_ret
                  exact ⟨rfl, BW.trans (b14.mono BW.size)⟩
                · have hn6 : 62 < n := by omega
                  go_wp2_with fail
                  refine (awake17 _ (hG.below BW)).mono ?_
                  rintro e w14 ⟨rfl, b14⟩
                  go_wp2_with fail
                  go_ret
                  exact ⟨rfl, BW.trans (b14.mono BW.size)⟩
    · as_aux_lemma =>
      have h6 : 6 < h := by omega
      go_upto_if 43 with fail
      go_cut [12, 13, 14] from 38 (fun s12 s13 s14 wx => Hid (Below w.heap.size w wx))
      case first =>
        have hnz := neq_z32N
        go_wp2_with (first | ((with_reducible refine wpList_load_arr_i (g := q8) (cs := z32) 34 _ rfl ?_ ?_ ?_); exact ⟨rfl, rfl⟩; assumption) | ((with_reducible refine wpList_neq_g (vx := z32) (vy := z32) (b := false) _ _ _ rfl ?_ hnz ?_); exact ⟨rfl, rfl, rfl⟩))
        go_meet
        exact Lib.hid B5
      case rest =>
        have BW := hcut.out
        clear hcut hd5 B5 l8
        by_cases hb1 : 70 < x
        · as_aux_lemma =>
          have s1 : (70 : Int) < (x : Int) := by omega
          go_wp2_with fail
          refine (awake17 _ (hG.below BW)).mono ?_
          rintro e w14 ⟨rfl, b14⟩
          go_wp2_with fail
          go_ret
          exact ⟨rfl, BW.trans (b14.mono BW.size)⟩
        by_cases hb2 : 70 < y
        · as_aux_lemma =>
          have s1 : ¬ (70 : Int) < (x : Int) := by omega
          have s2 : (70 : Int) < (y : Int) := by omega
          go_wp2_with fail
          refine (awake17 _ (hG.below BW)).mono ?_
          rintro e w14 ⟨rfl, b14⟩
          go_wp2_with fail
          go_ret
          exact ⟨rfl, BW.trans (b14.mono BW.size)⟩
        have s1 : ¬ (70 : Int) < (x : Int) := by omega
        have s2 : ¬ (70 : Int) < (y : Int) := by omega
        go_upto_region 17 with fail
        go_cut [15] from 94 (fun s15 wx => Hid (Below w.heap.size w wx) ∧ ∃ b, s15 = .bool b ∧ ((b = true ∧ x = 64 ∧ y = 64) ∨ (b = false ∧ ¬ (x = 64 ∧ y = 64))))
        case first =>
          as_aux_lemma =>
          by_cases hx64 : x = 64
          · subst hx64
            rw [show ((64 : Nat) : Int) = 64 from rfl]
            by_cases hy64 : y = 64
            · subst hy64
              rw [show ((64 : Nat) : Int) = 64 from rfl]
              go_wp2_with fail
              go_meet
              exact ⟨Lib.hid BW, true, rfl, Or.inl ⟨by first | rfl | trivial, by first | rfl | trivial, by first | rfl | trivial⟩⟩
            · have s3 : ((y : Int) == 64) = false := by rw [beq_eq_false_iff_ne]; omega
              go_wp2_with fail
              go_meet
              exact ⟨Lib.hid BW, false, rfl, Or.inr ⟨by first | rfl | trivial, fun q => hy64 q.2⟩⟩
          · have s3 : ((x : Int) == 64) = false := by rw [beq_eq_false_iff_ne]; omega
            go_wp2_with fail
            go_meet
            exact ⟨Lib.hid BW, false, rfl, Or.inr ⟨by first | rfl | trivial, fun q => hx64 q.1⟩⟩
        case rest =>
          obtain ⟨HBW, b15, rfl, hcs⟩ := hcut
          clear BW
          generalize wc = wa at *
          go_upto_if 111 with fail
          go_cut [15] from 94 (fun s15 wx => Hid (Below w.heap.size w wx) ∧ ∃ r, s15 = .bool r ∧ Hid (∀ wz, Below w.heap.size w wz → Calls Tryd.prog 31 #[.pointer none, .slice la x c, .slice lb y d] wz fun e w' => e = .returned (.bool r) ∧ Below wz.heap.size wz w'))
          case first =>
            as_aux_lemma =>
            rcases hcs with ⟨rfl, rfl, rfl⟩ | ⟨rfl, hno⟩
            · have HRL := Lib.hid (fun wz (hb : Below w.heap.size w wz) => lawRoot_at L la c wz (hG.below hb) HX.out HL3.out hxc hcm (HTL.out.below hb))
              have HRM := Lib.hid (fun wz (hb : Below w.heap.size w wz) => lawRoot_at M lb d wz (hG.below hb) HY.out HM3.out hyd hdm (HTM.out.below hb))
              have HSM := Lib.hid (fun wz (hb : Below w.heap.size w wz) => nsame_yes L M la lb c d wz (hG.below hb) HX.out HL3.out (HTL.out.below hb) HY.out HM3.out (HTM.out.below hb))
              have heql := eql_dig2 (rootD 6 L) (rootD 6 M) (rootD_len L HL3.out 6 HX.out) (rootD_len M HM3.out 6 HY.out)
              generalize (rootD 6 L == rootD 6 M) = rr at *
              generalize digA (rootD 6 L) = D1 at *
              generalize digA (rootD 6 M) = D2 at *
              go_wp2_with fail
              refine (HRL.out wa HBW.out).mono ?_
              rintro e w6 ⟨rfl, b6⟩
              have B6 := HBW.out.trans (b6.mono HBW.out.size)
              go_wp2_with fail
              refine (HRM.out w6 B6).mono ?_
              rintro e w7 ⟨rfl, b7⟩
              have B7 := B6.trans (b7.mono B6.size)
              go_wp2_with ((with_reducible refine wpList_eql_g (vx := D1) (vy := D2) _ _ _ rfl ?_ heql ?_); exact ⟨rfl, rfl, rfl⟩)
              go_meet
              exact ⟨Lib.hid B7, rr, rfl, HSM⟩
            · have HSM : Hid (∀ wz, Below w.heap.size w wz → Calls Tryd.prog 31 #[.pointer none, .slice la x c, .slice lb y d] wz fun e w' => e = .returned (.bool false) ∧ Below wz.heap.size wz w') := Lib.hid (fun wz hb => by
                by_cases hx64 : x = 64
                · subst hx64
                  exact nsame_form2 L la lb c y d wz (hG.below hb) HX.out HL3.out (HTL.out.below hb) (fun q => hno ⟨rfl, q⟩)
                · exact nsame_form1 la lb x c y d wz hx64)
              go_wp2_with fail
              go_meet
              exact ⟨HBW, false, rfl, HSM⟩
          case rest =>
            obtain ⟨HBX, r, rfl, HSM⟩ := hcut
            clear HBW hcs HX HY HL3 HM3 HTL HTM
            have BX := HBX.out
            clear HBX
            go_wp2_with fail
            refine (HSM.out _ BX).mono ?_
            rintro e w8 ⟨rfl, b8⟩
            have BW := BX.trans (b8.mono BX.size)
            clear b8 BX HSM
            cases r
            · by_cases hN : 0 ≤ n ∧ n ≤ 62
              · as_aux_lemma =>
                obtain ⟨m, rfl⟩ : ∃ m : Nat, n = (m : Int) := ⟨n.toNat, by omega⟩
                obtain ⟨rfl, rfl⟩ := HH0.out hN
                simp only [Int.toNat_natCast] at *
                have hm1 : ¬ (m : Int) < 0 := by omega
                have hm2 : ¬ (62 : Int) < (m : Int) := by omega
                have HHI : Hid (hiN m = 7 - (Lib.bitLen (m + 1) : Int)) := Lib.hid rfl
                have hbm := bl_le m (by omega)
                have HBO := Lib.hid bl_one
                have HBH := Lib.hid bl_half
                have HBL := Lib.hid bl_le
                generalize hiN m = hm at *
                generalize hbl : Lib.bitLen (m + 1) = bm at *
                have HBM := Lib.hid hbl
                clear hbl HH0 HH1
                go_wp2_with fail
                go_loop [17, 16] (fun x y => ∃ (j : Nat) (u : Int), x = .int .i64 (j : Int) ∧ y = .int .i64 u ∧ j < 63 ∧ 0 ≤ u ∧ u ≤ 12 ∧ Hid (u = 6 - (bm : Int) + (Lib.bitLen (j + 1) : Int))) (fun x _ => (intOf x).toNat)
                case atStart => exact ⟨m, 6, rfl, rfl, by omega, by omega, by omega, Lib.hid (by rw [HBM.out]; omega)⟩
                case round =>
                  obtain ⟨j, u, rfl, rfl, hj, hu0, hu, HU⟩ := hrel
                  by_cases hj0 : 0 < j
                  · have hj1 : (0 : Int) < (j : Int) := by omega
                    obtain ⟨i, rfl⟩ : ∃ i, j = i + 1 := ⟨j - 1, by omega⟩
                    have e1 : ((i + 1 : Nat) : Int) - 1 = (i : Int) := by omega
                    have e1' : (i : Int) + 1 - 1 = (i : Int) := by omega
                    have e2 : (i : Int) / 2 = ((i / 2 : Nat) : Int) := by omega
                    have hh2 := HBH.out (i + 1) hj (by omega)
                    rw [show i + 1 - 1 = i from by omega] at hh2
                    have hl := HBL.out (i / 2) (by omega)
                    have HU2 : Hid (u - 1 = 6 - (bm : Int) + (Lib.bitLen (i / 2 + 1) : Int)) := Lib.hid (by have := HU.out; omega)
                    have hu2 : 0 ≤ u - 1 := by have := HU2.out; omega
                    have hi2 : i / 2 ≤ 62 := by omega
                    have hi3 : i ≤ 62 := by omega
                    clear HU hh2 hl
                    generalize hi4 : i / 2 = i2 at *
                    push_cast at *
                    go_wp2_with fail
                    go_round
                    case rel => exact ⟨i2, u - 1, by first | rfl | go_num, by first | rfl | go_num, by omega, by omega, by omega, HU2⟩
                    case measure => simp [intOf]; omega
                  · obtain rfl : j = 0 := by omega
                    have hfin : u = hm := by have h1 := HU.out; have h2 := HHI.out; have h3 := HBO.out; rw [h3] at h1; omega
                    subst hfin
                    go_wp2_with fail
                    refine (awake17 _ (hG.below BW)).mono ?_
                    rintro e w14 ⟨rfl, b14⟩
                    go_wp2_with fail
                    go_ret
                    exact ⟨rfl, BW.trans (b14.mono BW.size)⟩
              · as_aux_lemma =>
                obtain ⟨rfl, rfl⟩ := HH1.out hN
                clear HH0 HH1
                by_cases hn0 : n < 0
                · go_wp2_with fail
                  refine (awake17 _ (hG.below BW)).mono ?_
                  rintro e w14 ⟨rfl, b14⟩
                  go_wp2_with fail
                  go_ret
                  exact ⟨rfl, BW.trans (b14.mono BW.size)⟩
                · have hn6 : 62 < n := by omega
                  go_wp2_with fail
                  refine (awake17 _ (hG.below BW)).mono ?_
                  rintro e w14 ⟨rfl, b14⟩
                  go_wp2_with fail
                  go_ret
                  exact ⟨rfl, BW.trans (b14.mono BW.size)⟩
            · by_cases hN : 0 ≤ n ∧ n ≤ 62
              · as_aux_lemma =>
                obtain ⟨m, rfl⟩ : ∃ m : Nat, n = (m : Int) := ⟨n.toNat, by omega⟩
                obtain ⟨rfl, rfl⟩ := HH0.out hN
                simp only [Int.toNat_natCast] at *
                have hm1 : ¬ (m : Int) < 0 := by omega
                have hm2 : ¬ (62 : Int) < (m : Int) := by omega
                have HHI : Hid (hiN m = 7 - (Lib.bitLen (m + 1) : Int)) := Lib.hid rfl
                have hbm := bl_le m (by omega)
                have HBO := Lib.hid bl_one
                have HBH := Lib.hid bl_half
                have HBL := Lib.hid bl_le
                generalize hiN m = hm at *
                generalize hbl : Lib.bitLen (m + 1) = bm at *
                have HBM := Lib.hid hbl
                clear hbl HH0 HH1
                go_wp2_with fail
                go_loop [17, 16] (fun x y => ∃ (j : Nat) (u : Int), x = .int .i64 (j : Int) ∧ y = .int .i64 u ∧ j < 63 ∧ 0 ≤ u ∧ u ≤ 12 ∧ Hid (u = 6 - (bm : Int) + (Lib.bitLen (j + 1) : Int))) (fun x _ => (intOf x).toNat)
                case atStart => exact ⟨m, 6, rfl, rfl, by omega, by omega, by omega, Lib.hid (by rw [HBM.out]; omega)⟩
                case round =>
                  obtain ⟨j, u, rfl, rfl, hj, hu0, hu, HU⟩ := hrel
                  by_cases hj0 : 0 < j
                  · have hj1 : (0 : Int) < (j : Int) := by omega
                    obtain ⟨i, rfl⟩ : ∃ i, j = i + 1 := ⟨j - 1, by omega⟩
                    have e1 : ((i + 1 : Nat) : Int) - 1 = (i : Int) := by omega
                    have e1' : (i : Int) + 1 - 1 = (i : Int) := by omega
                    have e2 : (i : Int) / 2 = ((i / 2 : Nat) : Int) := by omega
                    have hh2 := HBH.out (i + 1) hj (by omega)
                    rw [show i + 1 - 1 = i from by omega] at hh2
                    have hl := HBL.out (i / 2) (by omega)
                    have HU2 : Hid (u - 1 = 6 - (bm : Int) + (Lib.bitLen (i / 2 + 1) : Int)) := Lib.hid (by have := HU.out; omega)
                    have hu2 : 0 ≤ u - 1 := by have := HU2.out; omega
                    have hi2 : i / 2 ≤ 62 := by omega
                    have hi3 : i ≤ 62 := by omega
                    clear HU hh2 hl
                    generalize hi4 : i / 2 = i2 at *
                    push_cast at *
                    go_wp2_with fail
                    go_round
                    case rel => exact ⟨i2, u - 1, by first | rfl | go_num, by first | rfl | go_num, by omega, by omega, by omega, HU2⟩
                    case measure => simp [intOf]; omega
                  · obtain rfl : j = 0 := by omega
                    have hfin : u = hm := by have h1 := HU.out; have h2 := HHI.out; have h3 := HBO.out; rw [h3] at h1; omega
                    subst hfin
                    go_wp2_with fail
                    refine (awake17 _ (hG.below BW)).mono ?_
                    rintro e w14 ⟨rfl, b14⟩
                    go_wp2_with fail
                    go_ret
                    exact ⟨rfl, BW.trans (b14.mono BW.size)⟩
              · as_aux_lemma =>
                obtain ⟨rfl, rfl⟩ := HH1.out hN
                clear HH0 HH1
                by_cases hn0 : n < 0
                · go_wp2_with fail
                  refine (awake17 _ (hG.below BW)).mono ?_
                  rintro e w14 ⟨rfl, b14⟩
                  go_wp2_with fail
                  go_ret
                  exact ⟨rfl, BW.trans (b14.mono BW.size)⟩
                · have hn6 : 62 < n := by omega
                  go_wp2_with fail
                  refine (awake17 _ (hG.below BW)).mono ?_
                  rintro e w14 ⟨rfl, b14⟩
                  go_wp2_with fail
                  go_ret
                  exact ⟨rfl, BW.trans (b14.mono BW.size)⟩
section
variable {H : Type} {enc : TypeId × Value → H} {w : World}
theorem fourN_fields : ∃ f0 f1 f2 f3, Tryd.prog.underlying 60 = some (.struct #[f0, f1, f2, f3]) ∧ (f0.type = 3 ∧ f0.offset = 0) ∧ (f1.type = 3 ∧ f1.offset = 1) ∧ (f2.type = 54 ∧ f2.offset = 2) ∧ (f3.type = 54 ∧ f3.offset = 3) :=
  ⟨_, _, _, _, Tryd.underlying60, ⟨rfl, rfl⟩, ⟨rfl, rfl⟩, ⟨rfl, rfl⟩, ⟨rfl, rfl⟩⟩
theorem take1N (l : List Value) (o : Nat) (h : o < l.length) : (l.drop o).take 1 = [l[o]] := by rw [List.drop_eq_getElem_cons h]; rfl
set_option maxRecDepth 100000 in
theorem trod_digs {n : Nat} {v : Value} {y : DataW H × List MemPlace} (h : DataW.trod enc Tryd.prog w 0 (fun _ => true) true n 54 [v] = some y) : ∃ la m c, ∃ X : List (List UInt8), v = .slice la m c ∧ m ≤ c ∧ c ≤ maxLen ∧ X.length = m ∧ (∀ x ∈ X, x.length = 32) ∧ DigAt w la X := by
  have hok : ∃ a len cap, v = .slice a len cap := by
    rcases open_slice Tryd.underlying54 h with ⟨hcs, _⟩ | ⟨a, len, cap, _, _, _, _, hcs, _⟩
    · exact ⟨none, 0, 0, by simpa using hcs⟩
    · exact ⟨some a, len, cap, by simpa using hcs⟩
  obtain ⟨d, p⟩ := y
  have hT : DataW.Trod enc Tryd.prog w 0 (fun _ => true) true 54 v d p := ⟨n, by obtain ⟨a, l, c, rfl⟩ := hok; simpa [Value.cells] using h⟩
  obtain ⟨a, l, c, rfl⟩ := hok
  have hcp := slice_cap2 Tryd.underlying54 hT
  obtain ⟨la, m, c', X, hv, _, hXl, hX3, hTX⟩ := open_digs ⟨_, _, _, rfl⟩ hT
  cases hv
  exact ⟨_, _, _, X, rfl, hcp.1, hcp.2, hXl, hX3, hTX⟩
set_option maxRecDepth 100000 in
theorem nodeBares_walk {r : Reach} {b0 : Nat} (v : Value) (dd : DataW H) (p : List MemPlace) (w : World) (hok : Value.okWide Tryd.prog w r b0 60 v) (h : DataW.Trod enc Tryd.prog w 0 (fun _ => true) true 60 v dd p) (hG : Gl w) :
    Calls Tryd.prog 8 #[v] w fun e w' => e = .returned (.bool true) ∧ Below w.heap.size w w' := by
  obtain ⟨f0, f1, f2, f3, hs, ⟨t0, o0⟩, ⟨t1, o1⟩, ⟨t2, o2⟩, ⟨t3, o3⟩⟩ := fourN_fields
  obtain ⟨cs, rfl, hsz⟩ := okWide_struct hs hok
  obtain ⟨l⟩ := cs
  have hl : l.length = 4 := hsz.trans (by kernel_rfl)
  obtain ⟨fuel, hf⟩ := h
  obtain ⟨ys, n', hn', hy, hlen, hyl, hf'⟩ := DataW.trod_struct hs hf
  have e0 : (Value.agg ⟨l⟩).cells.toList = l := by simp [Value.cells]
  rw [e0] at hf'
  have hyl4 : ys.length = 4 := hyl
  have h0 := (hf' 0 f0 rfl).trans (List.getElem?_eq_getElem (by omega))
  have h1 := (hf' 1 f1 rfl).trans (List.getElem?_eq_getElem (by omega))
  have h2 := (hf' 2 f2 rfl).trans (List.getElem?_eq_getElem (by omega))
  have h3 := (hf' 3 f3 rfl).trans (List.getElem?_eq_getElem (by omega))
  rw [t0, o0, show Tryd.prog.cellsOf 3 = 1 from by kernel_rfl, take1N l 0 (by omega)] at h0
  rw [t1, o1, show Tryd.prog.cellsOf 3 = 1 from by kernel_rfl, take1N l 1 (by omega)] at h1
  rw [t2, o2, show Tryd.prog.cellsOf 54 = 1 from by kernel_rfl, take1N l 2 (by omega)] at h2
  rw [t3, o3, show Tryd.prog.cellsOf 54 = 1 from by kernel_rfl, take1N l 3 (by omega)] at h3
  obtain ⟨z0, q0, _, _⟩ := DataW.trod_int Tryd.underlying3 h0
  obtain ⟨z1, q1, _, _⟩ := DataW.trod_int Tryd.underlying3 h1
  obtain ⟨la, x, c, L, q2, hxc, hcm, hx, hL3, hTL⟩ := trod_digs h2
  obtain ⟨lb, y, d, M, q3, hyd, hdm, hy', hM3, hTM⟩ := trod_digs h3
  match l, hl with
  | [a0, a1, a2, a3], _ =>
    simp only [List.getElem_cons_zero, List.getElem_cons_succ, List.cons.injEq, and_true] at q0 q1 q2 q3
    subst q0 q1 q2 q3
    unfold maxLen at hcm hdm
    exact nodeBares_body z0 z1 L M la lb x c y d w hG hx hxc (by omega) hL3 hTL hy' hyd (by omega) hM3 hTM
end
end Go.Proofs.YtaneecmfgfkaaaaDoor
