/- The law NodeApart. -/
import Derived.Test.YtaopmiocompibaaDoorNoQ
import Derived.Test.YtaopmiocompibaaDoorNoK
import Derived.Test.YtaopmiocompibaaDoorNeD
namespace Go.Proofs.YtaopmiocompibaaDoor
open Go.RowKit Go.Deep Go.Maps Go.ChangeShapes Go.WideShapes
set_option linter.unusedVariables false
set_option linter.unusedSimpArgs false
theorem RowD.digAt {w : World} {g c : Nat} {L : List (List UInt8)} (h : RowD w g c 64 (dg L)) (hL : L.length = 64) : DigAt w (some ⟨g, 0, none⟩) L := fun _ => ⟨g, 0, rfl, h.lt, fun i hi => by
  have := h.range i (by omega)
  rw [dg_at L i hi] at this
  rw [Nat.zero_add]
  exact this⟩
theorem txs_len6 (L : List (List UInt8)) : (txs L 6 0).length = 63 := rfl
def smB (L M : List (List UInt8)) (k : Nat) : Bool := (List.range k).all fun i => dg L i == dg M i
theorem smB_step (L M : List (List UInt8)) (k : Nat) : smB L M (k + 1) = (smB L M k && (dg L k == dg M k)) := by
  unfold smB
  rw [List.range_succ, List.all_append]
  simp
theorem smB_yes (L M : List (List UInt8)) (h : L = M) (k : Nat) : smB L M k = true := by
  subst h
  unfold smB
  rw [List.all_eq_true]
  intro i _
  simp
theorem smB_no (L M : List (List UInt8)) (hl : L.length = 64) (hm : M.length = 64) (h : L ≠ M) : smB L M 64 = false := by
  cases q : smB L M 64 with
  | false => rfl
  | true =>
    exfalso
    apply h
    apply dg_ext L M (by rw [hl, hm])
    intro i hi
    unfold smB at q
    rw [List.all_eq_true] at q
    simpa using q i (List.mem_range.2 (by omega))
theorem OrX.some {base : Nat} {w : World} {a : Addr} {X : Option OrS} (h : OrX base w (some a) X) : ∃ S, X = some S ∧ a = ⟨S.g, 0, none⟩ ∧ OrP base w S.g S.l S.tv S.sv S.b S.D := by
  match X, h with
  | Option.some S, h => exact ⟨S, rfl, h.1, h.2⟩
theorem loadedA_d {w : World} {g : Nat} {l : List UInt8} (hl : l.length = 32) (h : w.heap[g]? = some (.cells (digA l) 33 (0, 0))) : LoadedA Tryd.prog 33 w g (digA l) := ⟨_, _, _, _, h, Tryd.underlying33, by rw [digA_size, hl]; kernel_rfl⟩
attribute [local irreducible] digA sumL z32 sB bv txs lv smB rootD sumsL
set_option maxRecDepth 100000 in
set_option maxHeartbeats 8000000 in
theorem nodeApart_body (X Y : List (List UInt8)) (la lb : Option Addr) (n c m d : Nat) (w : World) (hG : Gl w) (hn : X.length = n) (hnm : n ≤ 9223372036854775807) (hX3 : ∀ x ∈ X, x.length = 32) (hTX : DigAt w la X) (hm : Y.length = m) (hmm : m ≤ 9223372036854775807) (hY3 : ∀ x ∈ Y, x.length = 32) (hTY : DigAt w lb Y) :
    Calls Tryd.prog 7 #[.slice la n c, .slice lb m d] w fun e w' => e = .returned (.bool true) ∧ Below w.heap.size w w' := by
  have hz := zero_dig
  have hgf := hG.sf
  have hgk := hG.sk
  have HSX := Lib.hid (fun w' hw ht => sums_any X la n c w' hw hn hnm hX3 ht)
  have HSY := Lib.hid (fun w' hw ht => sums_any Y lb m d w' hw hm hmm hY3 ht)
  have HTX := Lib.hid hTX
  have HTY := Lib.hid hTY
  have HL1 := Lib.hid (sumsL_len X)
  have HL2 := Lib.hid (sumsL_len Y)
  have H31 := Lib.hid (sumsL_32 X hX3)
  have H32 := Lib.hid (sumsL_32 Y hY3)
  clear hn hnm hX3 hTX hm hmm hY3 hTY
  generalize sumsL X = L1 at *
  generalize sumsL Y = L2 at *
  have HR1 := Lib.hid (rootD_len L1 H31.out 6 HL1.out)
  have HR2 := Lib.hid (rootD_len L2 H32.out 6 HL2.out)
  have z1 : (digA (rootD 6 L1)).size = 32 := by with_unfolding_all (rw [digA_size, HR1.out])
  have z2 : (digA (rootD 6 L2)).size = 32 := by with_unfolding_all (rw [digA_size, HR2.out])
  have o1 : (digA (rootD 6 L1)).all (·.oneCell') = true := by with_unfolding_all exact digA_one _
  have o2 : (digA (rootD 6 L2)).all (·.oneCell') = true := by with_unfolding_all exact digA_one _
  have HNEQ := Lib.hid (neq_dig2 (rootD 6 L1) (rootD 6 L2) HR1.out HR2.out)
  have HEQL := Lib.hid (eql_dig2 (rootD 6 L1) (rootD 6 L2) HR1.out HR2.out)
  have HLD1 : Hid (∀ w' g, w'.heap[g]? = some (.cells (digA (rootD 6 L1)) 33 (0, 0)) → LoadedA Tryd.prog 33 w' g (digA (rootD 6 L1))) := Lib.hid (fun w' g h => loadedA_d HR1.out h)
  have HLD2 : Hid (∀ w' g, w'.heap[g]? = some (.cells (digA (rootD 6 L2)) 33 (0, 0)) → LoadedA Tryd.prog 33 w' g (digA (rootD 6 L2))) := Lib.hid (fun w' g h => loadedA_d HR2.out h)
  have HRT : Hid (∀ (o : Option Addr) (Z : Option OrS) (g c0 : Nat) (w' : World), Gl w' → OrX w.heap.size w' o Z → FewX Z 1000 → RowD w' g c0 64 (dg L1) → Calls Tryd.prog 19 #[.pointer o, .slice (some ⟨g, 0, none⟩) 64 c0] w' fun e w'' => ∃ Z', e = .returned (.tuple #[.agg (digA (rootD 6 L1)), .int .i64 0]) ∧ OrX w.heap.size w'' o Z' ∧ SumsX Z Z' (txs L1 6 0) ∧ Below w.heap.size w' w'' ∧ KeptX w' w'' Z Z') := Lib.hid (fun o Z g c0 w' h1 h2 h3 h4 => root_x w.heap.size o Z L1 (some ⟨g, 0, none⟩) c0 w' h1 hgf hgk h2 h3 HL1.out H31.out (h4.digAt HL1.out))
  have HRU : Hid (∀ (o : Option Addr) (Z : Option OrS) (g c0 : Nat) (w' : World), Gl w' → OrX w.heap.size w' o Z → FewX Z 1000 → RowD w' g c0 64 (dg L2) → Calls Tryd.prog 19 #[.pointer o, .slice (some ⟨g, 0, none⟩) 64 c0] w' fun e w'' => ∃ Z', e = .returned (.tuple #[.agg (digA (rootD 6 L2)), .int .i64 0]) ∧ OrX w.heap.size w'' o Z' ∧ SumsX Z Z' (txs L2 6 0) ∧ Below w.heap.size w' w'' ∧ KeptX w' w'' Z Z') := Lib.hid (fun o Z g c0 w' h1 h2 h3 h4 => root_x w.heap.size o Z L2 (some ⟨g, 0, none⟩) c0 w' h1 hgf hgk h2 h3 HL2.out H32.out (h4.digAt HL2.out))
  have HE6 : Hid (L1 = L2 → rootD 6 L1 = rootD 6 L2) := Lib.hid (fun e => by rw [e])
  have HAP : Hid (L1 ≠ L2 → rootD 6 L1 = rootD 6 L2 → ∃ s t : List UInt8, s ∈ txs L1 6 0 ∧ t ∈ txs L2 6 0 ∧ s ≠ t ∧ sumL s = sumL t) := Lib.hid (fun hne he => by
    have e6 : lv 6 L1 = lv 6 L2 := by rw [lv_root 6 L1 HL1.out, lv_root 6 L2 HL2.out, he]
    rcases lv_apart L1 L2 HL1.out HL2.out H31.out H32.out 6 (by omega) e6 with q | ⟨k, hk, i, hi, h1, h2⟩
    · exact absurd q hne
    · exact ⟨_, _, txs_mem L1 k i hk hi, txs_mem L2 k i hk hi, h1, h2⟩)
  obtain ⟨D1, HD1⟩ : ∃ D1, digA (rootD 6 L1) = D1 := ⟨_, rfl⟩
  obtain ⟨D2, HD2⟩ : ∃ D2, digA (rootD 6 L2) = D2 := ⟨_, rfl⟩
  rw [HD1] at z1 o1 HLD1 HNEQ HEQL
  rw [HD2] at z2 o2 HLD2 HNEQ HEQL
  simp only [HD1] at HRT
  simp only [HD2] at HRU
  have HDD : Hid (rootD 6 L1 = rootD 6 L2 → D1 = D2) := Lib.hid (fun e => by rw [← HD1, ← HD2, e])
  clear HD1 HD2
  generalize rootD 6 L1 = r1 at *
  generalize rootD 6 L2 = r2 at *
  go_enter Tryd.func7, Tryd.ntmps7
  go_wp2_with fail
  refine (new_x w.heap.size w (Nat.le_refl _)).mono ?_
  rintro e w1 ⟨rfl, hX1, B1⟩
  obtain ⟨X0, S0, eX0, e0, l0, few0⟩ : ∃ X0 S0, (some ⟨w.heap.size + 1, [], .slice none 0 0, .slice none 0 0, w.heap.size, .map []⟩ : Option OrS) = X0 ∧ X0 = some S0 ∧ S0.l = [] ∧ FewX X0 0 := ⟨_, _, rfl, rfl, rfl, FewX.zero w _ _ _ _ _⟩
  rw [eX0] at hX1
  clear eX0
  have hT1 := Lib.hid (HTX.out.below B1)
  have hU1 := HTY.out.below B1
  go_wp2_with fail
  refine (HSX.out w1 (hG.below B1) hT1.out).mono ?_
  rintro e w2 ⟨g1, c1, rfl, R1, hg1, b2⟩
  have hX2 := hX1.below b2
  have hU2 := Lib.hid (hU1.below b2)
  have B2 := B1.trans (b2.mono B1.size)
  have hfr1 : FreeX X0 g1 := hX1.free g1 hg1
  have hsz2 := b2.size
  clear hX1 hT1 hU1 b2 B1 HSX HTX HTY
  go_wp2_with fail
  refine (HSY.out w2 (hG.below B2) hU2.out).mono ?_
  rintro e w3 ⟨g2, c2, rfl, R2, hg2, b3⟩
  have R13 := R1.below b3
  have hfr2 : FreeX X0 g2 := hX2.free g2 hg2
  have hX3 := hX2.below b3
  have B3 := B2.trans (b3.mono B2.size)
  clear hX2 hU2 b3 B2 R1 HSY
  go_wp2_with fail
  refine (HRT.out _ X0 g1 c1 w3 (hG.below B3) hX3 (few0.mono (by omega)) R13).mono ?_
  rintro e w4 ⟨X4, rfl, hX4, hS4, b4, K4⟩
  have R14 := R13.kept (fun o ho => K4.keep _ _ ho hfr1)
  have R24 := R2.kept (fun o ho => K4.keep _ _ ho hfr2)
  have hf14 := K4.free g1 R13.lt hfr1
  have hf24 := K4.free g2 R2.lt hfr2
  have B4 := B3.trans b4
  have few4 : FewX X4 1000 := (hS4.few few0).mono (by rw [txs_len6]; omega)
  have HS4 := Lib.hid hS4
  clear hX3 hS4 b4 K4 R13 R2 hfr1 hfr2 B3 HRT
  obtain ⟨w5, HW5, hd5, b5⟩ := stored_dg w4 D1
  go_upto_region 4 with (refine wpList_store_row rfl _ _ _ rfl w4.heap.size D1 rfl rfl 33 _ (heap_alloc_new _ _) (by rw [z1]; kernel_rfl) (by rw [z1, z32_size']) o1 ?_)
  rw [HW5.out]
  clear HW5
  have hX5 := hX4.below b5
  have R15 := R14.below b5
  have R25 := R24.below b5
  have hf54 : FreeX X4 w4.heap.size := hX4.free _ (Nat.le_refl _)
  have B5 := B4.trans (b5.mono B4.size)
  clear hX4 R14 R24 b5 B4
  generalize w4.heap.size = q8 at *
  go_wp2_with fail
  refine (HRU.out _ X4 g2 c2 w5 (hG.below B5) hX5 few4 R25).mono ?_
  rintro e w6 ⟨X6, rfl, hX6, hS6, b6, K6⟩
  have R16 := R15.kept (fun o ho => K6.keep _ _ ho hf14)
  have R26 := R25.kept (fun o ho => K6.keep _ _ ho hf24)
  have hd6 := K6.keep _ _ hd5 hf54
  have B6 := B5.trans b6
  have HS6 := Lib.hid hS6
  have few6 : FewX X6 1000 := fun S e => by
    have := hS6.few (HS4.out.few few0) S e
    rw [txs_len6, txs_len6] at this
    omega
  clear hX5 hS6 b6 K6 R15 R25 hf14 hf24 hf54 hd5 B5 HRU few4
  obtain ⟨w7, HW7, hd7, b7⟩ := stored_dg w6 D2
  go_upto_region 5 with (refine wpList_store_row rfl _ _ _ rfl w6.heap.size D2 rfl rfl 33 _ (heap_alloc_new _ _) (by rw [z2]; kernel_rfl) (by rw [z2, z32_size']) o2 ?_)
  rw [HW7.out]
  clear HW7
  have hX7 := Lib.hid (hX6.below b7)
  have R17 := Lib.hid (R16.below b7)
  have R27 := Lib.hid (R26.below b7)
  have hd67 := Lib.hid ((b7.block q8 (Array.getElem?_eq_some_iff.1 hd6).1).trans hd6)
  have hd77 := Lib.hid hd7
  have B7 := Lib.hid (B6.trans (b7.mono B6.size))
  clear hX6 R16 R26 b7 B6 hd6 hd7
  generalize w6.heap.size = q10 at *
  have HSM0 : Hid (smB L1 L2 0 = true) := Lib.hid (by with_unfolding_all rfl)
  have HSMS := Lib.hid (smB_step L1 L2)
  have HSMY := Lib.hid (smB_yes L1 L2)
  have HSMN := Lib.hid (smB_no L1 L2 HL1.out HL2.out)
  go_wp2_with fail
  go_loopw [13, 12] (fun x s wi => ∃ k : Nat, x = .int .i64 (k : Int) ∧ k ≤ 64 ∧ s = .bool (smB L1 L2 k) ∧ Hid (Below w7.heap.size w7 wi)) (fun x _ _ => 64 - (intOf x).toNat)
  case atStart => exact ⟨0, rfl, by omega, by rw [HSM0.out], Lib.hid (Below.refl _ _)⟩
  case round =>
    obtain ⟨k, rfl, hk, rfl, HB⟩ := hrel
    by_cases hlt : k < 64
    · have hli : (k : Int) < 64 := by omega
      have HST := HSMS.out k
      generalize hsm : smB L1 L2 k = s at *
      cases s with
      | false =>
        as_aux_lemma =>
        have HST2 : Hid (smB L1 L2 (k + 1) = false) := Lib.hid (by rw [HST]; rfl)
        clear HST hsm
        go_upto_region 11 with fail
        refine wp_region_lin (S := (fun _ => True)) [(0, true), (1, true), (2, true), (3, true), (4, true), (5, true), (6, true), (7, true), (8, true), (9, true), (10, true), (11, true), (12, true)] (by kernel_rfl) (by kernel_rfl) rfl (by kernel_rfl) ?_ (fun hHeld => ?_)
        · (try dsimp only); try exact trivial
        refine wpL_calm (o := { dst := some 44, op := Go.Op.move (Go.Operand.tmp 12), type := 4, pos := "law.go:140", after := #[], guard := none }) (v := ?_) rfl (Or.inl ⟨by rfl, ?_⟩) ?_; rotate_left; (focus (intro w hSw; (try dsimp only at hSw); go_simp; (try (with_reducible rfl)); done)); try simp only [Act.put, List.setIfInBounds_toArray, List.set_cons_zero, List.set_cons_succ]
        refine wpL_calm (o := { dst := some 45, op := Go.Op.move (Go.Operand.tmp 44), type := 4, pos := "law.go:140", after := #[{ on := 0, ground := Go.Ground.data }], guard := none }) (v := ?_) rfl (Or.inl ⟨by rfl, ?_⟩) ?_; rotate_left; (focus (intro w hSw; (try dsimp only at hSw); go_simp; (try (with_reducible rfl)); done)); try simp only [Act.put, List.setIfInBounds_toArray, List.set_cons_zero, List.set_cons_succ]
        refine wpL_calm (o := { dst := some 46, op := Go.Op.move (Go.Operand.tmp 6), type := 45, pos := "law.go:140", after := #[{ on := 1, ground := Go.Ground.guard }], guard := some (1, true) }) (v := undef) rfl (Or.inr ⟨by rfl, rfl⟩) ?_; try simp only [Act.put, List.setIfInBounds_toArray, List.set_cons_zero, List.set_cons_succ]
        refine wpL_calm (o := { dst := some 47, op := Go.Op.move (Go.Operand.tmp 13), type := 3, pos := "law.go:140", after := #[{ on := 1, ground := Go.Ground.guard }], guard := some (1, true) }) (v := undef) rfl (Or.inr ⟨by rfl, rfl⟩) ?_; try simp only [Act.put, List.setIfInBounds_toArray, List.set_cons_zero, List.set_cons_succ]
        refine wpL_calm (o := { dst := some 48, op := Go.Op.indexAddr 45 (Go.Operand.tmp 46) (Go.Operand.tmp 47), type := 0, pos := "law.go:140", after := #[{ on := 2, ground := Go.Ground.data }, { on := 3, ground := Go.Ground.data }, { on := 1, ground := Go.Ground.guard }], guard := some (1, true) }) (v := undef) rfl (Or.inr ⟨by rfl, rfl⟩) ?_; try simp only [Act.put, List.setIfInBounds_toArray, List.set_cons_zero, List.set_cons_succ]
        refine wpL_calm (o := { dst := some 49, op := Go.Op.load 33 (Go.Operand.tmp 48), type := 33, pos := "law.go:140", after := #[{ on := 4, ground := Go.Ground.data }, { on := 1, ground := Go.Ground.guard }], guard := some (1, true) }) (v := undef) rfl (Or.inr ⟨by rfl, rfl⟩) ?_; try simp only [Act.put, List.setIfInBounds_toArray, List.set_cons_zero, List.set_cons_succ]
        refine wpL_calm (o := { dst := some 50, op := Go.Op.move (Go.Operand.tmp 7), type := 45, pos := "law.go:140", after := #[{ on := 1, ground := Go.Ground.guard }], guard := some (1, true) }) (v := undef) rfl (Or.inr ⟨by rfl, rfl⟩) ?_; try simp only [Act.put, List.setIfInBounds_toArray, List.set_cons_zero, List.set_cons_succ]
        refine wpL_calm (o := { dst := some 51, op := Go.Op.move (Go.Operand.tmp 13), type := 3, pos := "law.go:140", after := #[{ on := 1, ground := Go.Ground.guard }], guard := some (1, true) }) (v := undef) rfl (Or.inr ⟨by rfl, rfl⟩) ?_; try simp only [Act.put, List.setIfInBounds_toArray, List.set_cons_zero, List.set_cons_succ]
        refine wpL_calm (o := { dst := some 52, op := Go.Op.indexAddr 45 (Go.Operand.tmp 50) (Go.Operand.tmp 51), type := 0, pos := "law.go:140", after := #[{ on := 6, ground := Go.Ground.data }, { on := 7, ground := Go.Ground.data }, { on := 1, ground := Go.Ground.guard }], guard := some (1, true) }) (v := undef) rfl (Or.inr ⟨by rfl, rfl⟩) ?_; try simp only [Act.put, List.setIfInBounds_toArray, List.set_cons_zero, List.set_cons_succ]
        refine wpL_calm (o := { dst := some 53, op := Go.Op.load 33 (Go.Operand.tmp 52), type := 33, pos := "law.go:140", after := #[{ on := 8, ground := Go.Ground.data }, { on := 1, ground := Go.Ground.guard }], guard := some (1, true) }) (v := undef) rfl (Or.inr ⟨by rfl, rfl⟩) ?_; try simp only [Act.put, List.setIfInBounds_toArray, List.set_cons_zero, List.set_cons_succ]
        refine wpL_calm (o := { dst := some 54, op := Go.Op.binOp Go.BinOp.eql 33 (Go.Operand.tmp 49) (Go.Operand.tmp 53) 33, type := 4, pos := "law.go:140", after := #[{ on := 5, ground := Go.Ground.data }, { on := 9, ground := Go.Ground.data }, { on := 1, ground := Go.Ground.guard }], guard := some (1, true) }) (v := undef) rfl (Or.inr ⟨by rfl, rfl⟩) ?_; try simp only [Act.put, List.setIfInBounds_toArray, List.set_cons_zero, List.set_cons_succ]
        refine wpL_calm (o := { dst := some 55, op := Go.Op.pick (Go.Operand.tmp 45) (Go.Operand.tmp 54) (Go.Operand.const (Go.Value.bool false)), type := 4, pos := "law.go:140", after := #[{ on := 1, ground := Go.Ground.data }, { on := 10, ground := Go.Ground.data }], guard := none }) (v := ?_) rfl (Or.inl ⟨by rfl, ?_⟩) ?_; rotate_left; (focus (intro w hSw; (try dsimp only at hSw); go_simp; (try (with_reducible rfl)); done)); try simp only [Act.put, List.setIfInBounds_toArray, List.set_cons_zero, List.set_cons_succ]
        refine wpL_calm (o := { dst := some 12, op := Go.Op.assign (Go.Operand.tmp 55), type := 4, pos := "law.go:140", after := #[{ on := 11, ground := Go.Ground.data }, { on := 1, ground := Go.Ground.chain }, { on := 0, ground := Go.Ground.phase }, { on := 1, ground := Go.Ground.phase }, { on := 2, ground := Go.Ground.phase }, { on := 3, ground := Go.Ground.phase }, { on := 4, ground := Go.Ground.phase }, { on := 5, ground := Go.Ground.phase }, { on := 6, ground := Go.Ground.phase }, { on := 7, ground := Go.Ground.phase }, { on := 8, ground := Go.Ground.phase }, { on := 9, ground := Go.Ground.phase }, { on := 10, ground := Go.Ground.phase }, { on := 11, ground := Go.Ground.phase }], guard := none }) (v := ?_) rfl (Or.inl ⟨by rfl, ?_⟩) ?_; rotate_left; (focus (intro w hSw; (try dsimp only at hSw); go_simp; (try (with_reducible rfl)); done)); try simp only [Act.put, List.setIfInBounds_toArray, List.set_cons_zero, List.set_cons_succ]
        refine wpL_nil ?_
        refine NoPanic.normal ?_
        have B9 := Lib.hid (HB.out.drew)
        go_wp2_with fail
        go_roundw
        case rel => exact ⟨k + 1, by go_num, by omega, by rw [HST2.out], B9⟩
        case measure => simp [intOf]; omega
      | true =>
        as_aux_lemma =>
        have h1 := R17.out.range k hlt
        have h2 := R27.out.range k hlt
        have l1 := R17.out.l32 k hlt
        have l2 := R27.out.l32 k hlt
        have heq := eql_dig2 (dg L1 k) (dg L2 k) l1 l2
        have r1 := range_below h1 HB.out R17.out.lt
        have r2 := range_below h2 HB.out R27.out.lt
        have E1 : Hid ((bv (dg L1 k)).toArray = digA (dg L1 k)) := Lib.hid (by with_unfolding_all rfl)
        have E2 : Hid ((bv (dg L2 k)).toArray = digA (dg L2 k)) := Lib.hid (by with_unfolding_all rfl)
        have N1 : Hid ((bv (dg L1 k)).length = 32) := Lib.hid ((bv_len _).trans l1)
        have N2 : Hid ((bv (dg L2 k)).length = 32) := Lib.hid ((bv_len _).trans l2)
        have HST2 : Hid (smB L1 L2 (k + 1) = (dg L1 k == dg L2 k)) := Lib.hid (by rw [HST]; rfl)
        clear HST hsm h1 h2 l1 l2
        generalize (dg L1 k == dg L2 k) = bb at *
        generalize bv (dg L1 k) = V1 at *
        generalize bv (dg L2 k) = V2 at *
        generalize digA (dg L1 k) = A1 at *
        generalize digA (dg L2 k) = A2 at *
        go_upto_region 11 with fail
        refine wp_region_lin (S := (fun w' => w'.rangeAt g1 (k * 32) V1 ∧ w'.rangeAt g2 (k * 32) V2)) [(0, true), (1, true), (2, true), (3, true), (4, true), (5, true), (6, true), (7, true), (8, true), (9, true), (10, true), (11, true), (12, true)] (by kernel_rfl) (by kernel_rfl) rfl (by kernel_rfl) ?_ (fun hHeld => ?_)
        · (try dsimp only); exact ⟨r1, r2⟩
        (refine wpL_calm (o := { dst := some 44, op := Go.Op.move (Go.Operand.tmp 12), type := 4, pos := "law.go:140", after := #[], guard := none }) (v := ?_) rfl (Or.inl ⟨by rfl, ?_⟩) ?_; rotate_left; (focus (intro w hSw; (try dsimp only at hSw); go_simp; (try (with_reducible rfl)); done)); try simp only [Act.put, List.setIfInBounds_toArray, List.set_cons_zero, List.set_cons_succ])
        (refine wpL_calm (o := { dst := some 45, op := Go.Op.move (Go.Operand.tmp 44), type := 4, pos := "law.go:140", after := #[{ on := 0, ground := Go.Ground.data }], guard := none }) (v := ?_) rfl (Or.inl ⟨by rfl, ?_⟩) ?_; rotate_left; (focus (intro w hSw; (try dsimp only at hSw); go_simp; (try (with_reducible rfl)); done)); try simp only [Act.put, List.setIfInBounds_toArray, List.set_cons_zero, List.set_cons_succ])
        first | (refine wpL_calm (o := { dst := some 46, op := Go.Op.move (Go.Operand.tmp 6), type := 45, pos := "law.go:140", after := #[{ on := 1, ground := Go.Ground.guard }], guard := some (1, true) }) (v := ?_) rfl (Or.inl ⟨by rfl, ?_⟩) ?_; rotate_left; (focus (intro w hSw; (try dsimp only at hSw); go_simp; (try (with_reducible rfl)); done)); try simp only [Act.put, List.setIfInBounds_toArray, List.set_cons_zero, List.set_cons_succ]) | (refine wpL_calm (o := { dst := some 46, op := Go.Op.move (Go.Operand.tmp 6), type := 45, pos := "law.go:140", after := #[{ on := 1, ground := Go.Ground.guard }], guard := some (1, true) }) (v := undef) rfl (Or.inr ⟨by rfl, rfl⟩) ?_; try simp only [Act.put, List.setIfInBounds_toArray, List.set_cons_zero, List.set_cons_succ])
        first | (refine wpL_calm (o := { dst := some 47, op := Go.Op.move (Go.Operand.tmp 13), type := 3, pos := "law.go:140", after := #[{ on := 1, ground := Go.Ground.guard }], guard := some (1, true) }) (v := ?_) rfl (Or.inl ⟨by rfl, ?_⟩) ?_; rotate_left; (focus (intro w hSw; (try dsimp only at hSw); go_simp; (try (with_reducible rfl)); done)); try simp only [Act.put, List.setIfInBounds_toArray, List.set_cons_zero, List.set_cons_succ]) | (refine wpL_calm (o := { dst := some 47, op := Go.Op.move (Go.Operand.tmp 13), type := 3, pos := "law.go:140", after := #[{ on := 1, ground := Go.Ground.guard }], guard := some (1, true) }) (v := undef) rfl (Or.inr ⟨by rfl, rfl⟩) ?_; try simp only [Act.put, List.setIfInBounds_toArray, List.set_cons_zero, List.set_cons_succ])
        first | (refine wpL_calm (o := { dst := some 48, op := Go.Op.indexAddr 45 (Go.Operand.tmp 46) (Go.Operand.tmp 47), type := 0, pos := "law.go:140", after := #[{ on := 2, ground := Go.Ground.data }, { on := 3, ground := Go.Ground.data }, { on := 1, ground := Go.Ground.guard }], guard := some (1, true) }) (v := ?_) rfl (Or.inl ⟨by rfl, ?_⟩) ?_; rotate_left; (focus (intro w hSw; (try dsimp only at hSw); go_simp; (try (with_reducible rfl)); done)); try simp only [Act.put, List.setIfInBounds_toArray, List.set_cons_zero, List.set_cons_succ]) | (refine wpL_calm (o := { dst := some 48, op := Go.Op.indexAddr 45 (Go.Operand.tmp 46) (Go.Operand.tmp 47), type := 0, pos := "law.go:140", after := #[{ on := 2, ground := Go.Ground.data }, { on := 3, ground := Go.Ground.data }, { on := 1, ground := Go.Ground.guard }], guard := some (1, true) }) (v := undef) rfl (Or.inr ⟨by rfl, rfl⟩) ?_; try simp only [Act.put, List.setIfInBounds_toArray, List.set_cons_zero, List.set_cons_succ])
        refine wpL_calm (o := { dst := some 49, op := Go.Op.load 33 (Go.Operand.tmp 48), type := 33, pos := "law.go:140", after := #[{ on := 4, ground := Go.Ground.data }, { on := 1, ground := Go.Ground.guard }], guard := some (1, true) }) rfl (yieldsIf_load_mid (by rfl) _ _ rfl g1 (k * 32) rfl V1 _ (fun _ h => h.1) Tryd.underlying33 rfl (by rw [N1.out]; kernel_rfl)) ?_; rw [E1.out]
        try simp only [Act.put, List.setIfInBounds_toArray, List.set_cons_zero, List.set_cons_succ]
        first | (refine wpL_calm (o := { dst := some 50, op := Go.Op.move (Go.Operand.tmp 7), type := 45, pos := "law.go:140", after := #[{ on := 1, ground := Go.Ground.guard }], guard := some (1, true) }) (v := ?_) rfl (Or.inl ⟨by rfl, ?_⟩) ?_; rotate_left; (focus (intro w hSw; (try dsimp only at hSw); go_simp; (try (with_reducible rfl)); done)); try simp only [Act.put, List.setIfInBounds_toArray, List.set_cons_zero, List.set_cons_succ]) | (refine wpL_calm (o := { dst := some 50, op := Go.Op.move (Go.Operand.tmp 7), type := 45, pos := "law.go:140", after := #[{ on := 1, ground := Go.Ground.guard }], guard := some (1, true) }) (v := undef) rfl (Or.inr ⟨by rfl, rfl⟩) ?_; try simp only [Act.put, List.setIfInBounds_toArray, List.set_cons_zero, List.set_cons_succ])
        first | (refine wpL_calm (o := { dst := some 51, op := Go.Op.move (Go.Operand.tmp 13), type := 3, pos := "law.go:140", after := #[{ on := 1, ground := Go.Ground.guard }], guard := some (1, true) }) (v := ?_) rfl (Or.inl ⟨by rfl, ?_⟩) ?_; rotate_left; (focus (intro w hSw; (try dsimp only at hSw); go_simp; (try (with_reducible rfl)); done)); try simp only [Act.put, List.setIfInBounds_toArray, List.set_cons_zero, List.set_cons_succ]) | (refine wpL_calm (o := { dst := some 51, op := Go.Op.move (Go.Operand.tmp 13), type := 3, pos := "law.go:140", after := #[{ on := 1, ground := Go.Ground.guard }], guard := some (1, true) }) (v := undef) rfl (Or.inr ⟨by rfl, rfl⟩) ?_; try simp only [Act.put, List.setIfInBounds_toArray, List.set_cons_zero, List.set_cons_succ])
        first | (refine wpL_calm (o := { dst := some 52, op := Go.Op.indexAddr 45 (Go.Operand.tmp 50) (Go.Operand.tmp 51), type := 0, pos := "law.go:140", after := #[{ on := 6, ground := Go.Ground.data }, { on := 7, ground := Go.Ground.data }, { on := 1, ground := Go.Ground.guard }], guard := some (1, true) }) (v := ?_) rfl (Or.inl ⟨by rfl, ?_⟩) ?_; rotate_left; (focus (intro w hSw; (try dsimp only at hSw); go_simp; (try (with_reducible rfl)); done)); try simp only [Act.put, List.setIfInBounds_toArray, List.set_cons_zero, List.set_cons_succ]) | (refine wpL_calm (o := { dst := some 52, op := Go.Op.indexAddr 45 (Go.Operand.tmp 50) (Go.Operand.tmp 51), type := 0, pos := "law.go:140", after := #[{ on := 6, ground := Go.Ground.data }, { on := 7, ground := Go.Ground.data }, { on := 1, ground := Go.Ground.guard }], guard := some (1, true) }) (v := undef) rfl (Or.inr ⟨by rfl, rfl⟩) ?_; try simp only [Act.put, List.setIfInBounds_toArray, List.set_cons_zero, List.set_cons_succ])
        refine wpL_calm (o := { dst := some 53, op := Go.Op.load 33 (Go.Operand.tmp 52), type := 33, pos := "law.go:140", after := #[{ on := 8, ground := Go.Ground.data }, { on := 1, ground := Go.Ground.guard }], guard := some (1, true) }) rfl (yieldsIf_load_mid (by rfl) _ _ rfl g2 (k * 32) rfl V2 _ (fun _ h => h.2) Tryd.underlying33 rfl (by rw [N2.out]; kernel_rfl)) ?_; rw [E2.out]
        try simp only [Act.put, List.setIfInBounds_toArray, List.set_cons_zero, List.set_cons_succ]
        first | (refine wpL_calm (o := { dst := some 54, op := Go.Op.binOp Go.BinOp.eql 33 (Go.Operand.tmp 49) (Go.Operand.tmp 53) 33, type := 4, pos := "law.go:140", after := #[{ on := 5, ground := Go.Ground.data }, { on := 9, ground := Go.Ground.data }, { on := 1, ground := Go.Ground.guard }], guard := some (1, true) }) (v := ?_) rfl (Or.inl ⟨by rfl, ?_⟩) ?_; rotate_left; (focus (intro w hSw; (try dsimp only at hSw); go_simp; (try (with_reducible rfl)); done)); try simp only [Act.put, List.setIfInBounds_toArray, List.set_cons_zero, List.set_cons_succ]) | (refine wpL_calm (o := { dst := some 54, op := Go.Op.binOp Go.BinOp.eql 33 (Go.Operand.tmp 49) (Go.Operand.tmp 53) 33, type := 4, pos := "law.go:140", after := #[{ on := 5, ground := Go.Ground.data }, { on := 9, ground := Go.Ground.data }, { on := 1, ground := Go.Ground.guard }], guard := some (1, true) }) (v := undef) rfl (Or.inr ⟨by rfl, rfl⟩) ?_; try simp only [Act.put, List.setIfInBounds_toArray, List.set_cons_zero, List.set_cons_succ])
        (refine wpL_calm (o := { dst := some 55, op := Go.Op.pick (Go.Operand.tmp 45) (Go.Operand.tmp 54) (Go.Operand.const (Go.Value.bool false)), type := 4, pos := "law.go:140", after := #[{ on := 1, ground := Go.Ground.data }, { on := 10, ground := Go.Ground.data }], guard := none }) (v := ?_) rfl (Or.inl ⟨by rfl, ?_⟩) ?_; rotate_left; (focus (intro w hSw; (try dsimp only at hSw); go_simp; (try (with_reducible rfl)); done)); try simp only [Act.put, List.setIfInBounds_toArray, List.set_cons_zero, List.set_cons_succ])
        (refine wpL_calm (o := { dst := some 12, op := Go.Op.assign (Go.Operand.tmp 55), type := 4, pos := "law.go:140", after := #[{ on := 11, ground := Go.Ground.data }, { on := 1, ground := Go.Ground.chain }, { on := 0, ground := Go.Ground.phase }, { on := 1, ground := Go.Ground.phase }, { on := 2, ground := Go.Ground.phase }, { on := 3, ground := Go.Ground.phase }, { on := 4, ground := Go.Ground.phase }, { on := 5, ground := Go.Ground.phase }, { on := 6, ground := Go.Ground.phase }, { on := 7, ground := Go.Ground.phase }, { on := 8, ground := Go.Ground.phase }, { on := 9, ground := Go.Ground.phase }, { on := 10, ground := Go.Ground.phase }, { on := 11, ground := Go.Ground.phase }], guard := none }) (v := ?_) rfl (Or.inl ⟨by rfl, ?_⟩) ?_; rotate_left; (focus (intro w hSw; (try dsimp only at hSw); go_simp; (try (with_reducible rfl)); done)); try simp only [Act.put, List.setIfInBounds_toArray, List.set_cons_zero, List.set_cons_succ])
        refine wpL_nil ?_
        refine NoPanic.normal ?_
        have B9 := Lib.hid (HB.out.drew)
        go_wp2_with fail
        go_roundw
        case rel => exact ⟨k + 1, by go_num, by omega, by rw [HST2.out], B9⟩
        case measure => simp [intOf]; omega
    · obtain rfl : k = 64 := by omega
      have hda := (HB.out.block q8 (Array.getElem?_eq_some_iff.1 hd67.out).1).trans hd67.out
      have hdb := (HB.out.block q10 (Array.getElem?_eq_some_iff.1 hd77.out).1).trans hd77.out
      have la8 := (Array.getElem?_eq_some_iff.1 hda).1
      have la10 := (Array.getElem?_eq_some_iff.1 hdb).1
      have BW := B7.out.trans (HB.out.mono B7.out.size)
      have GW := hG.below BW
      by_cases hL : L1 = L2
      · as_aux_lemma =>
        rw [HSMY.out hL 64]
        obtain rfl : D1 = D2 := HDD.out (HE6.out hL)
        have hee := HEQL.out
        rw [HE6.out hL] at hee
        simp only [beq_self_eq_true] at hee
        go_wp2_with fail
        refine (awake17 _ GW).mono ?_
        rintro e w9 ⟨rfl, b9⟩
        have p1 := HLD1.out w9 q8 ((b9.block q8 la8).trans hda)
        have p2 := HLD1.out w9 q10 ((b9.block q10 la10).trans hdb)
        go_wp2_with (first | ((with_reducible refine wpList_load_arr_i (g := q8) (cs := D1) 33 _ rfl ?_ ?_ ?_); exact ⟨rfl, rfl⟩; assumption) | ((with_reducible refine wpList_load_arr_i (g := q10) (cs := D1) 33 _ rfl ?_ ?_ ?_); exact ⟨rfl, rfl⟩; assumption))
        go_ret
        exact ⟨rfl, BW.trans (b9.mono BW.size)⟩
      · rw [HSMN.out hL]
        have p1 := HLD1.out wr q8 hda
        have p2 := HLD2.out wr q10 hdb
        have hnq := HNEQ.out
        by_cases hr : r1 = r2
        · as_aux_lemma =>
          obtain ⟨s, t, hs1, ht1, hne, hst⟩ := HAP.out hL hr
          obtain ⟨S6, e6, ea, hP⟩ := (hX7.out.below HB.out).some
          obtain ⟨S4, e4, _, m4, _⟩ := HS4.out.so S0 e0
          obtain ⟨S6', e6', _, m6, _⟩ := HS6.out.so S4 e4
          rw [e6] at e6'
          cases e6'
          have HCO := Lib.hid (collide_told w.heap.size S6.g S6.l S6.tv S6.sv S6.b S6.D wr hP (by have := few6 S6 e6; omega) s t ((m6 s).2 (Or.inl ((m4 s).2 (Or.inr hs1)))) ((m6 t).2 (Or.inr ht1)) hne hst)
          have hgq : w.heap.size + 1 = S6.g := by injection ea
          rw [← hgq] at HCO
          have hbe : (r1 == r2) = true := by simpa using hr
          rw [hbe] at hnq
          simp only [Bool.not_true] at hnq
          clear m4 m6 HAP hP e6 e4 ea hgq hs1 ht1 hst hne
          go_wp2_with (first | ((with_reducible refine wpList_load_arr_i (g := q8) (cs := D1) 33 _ rfl ?_ ?_ ?_); exact ⟨rfl, rfl⟩; assumption) | ((with_reducible refine wpList_load_arr_i (g := q10) (cs := D2) 33 _ rfl ?_ ?_ ?_); exact ⟨rfl, rfl⟩; assumption))
          refine HCO.out.mono ?_
          rintro e w9 ⟨s', t', rfl, b9⟩
          have B9 := BW.trans (b9.mono BW.size)
          go_wp2_with fail
          refine (awake17 _ (hG.below B9)).mono ?_
          rintro e w10 ⟨rfl, b10⟩
          go_wp2_with fail
          go_ret
          exact ⟨rfl, B9.trans (b10.mono B9.size)⟩
        · as_aux_lemma =>
          have hbe : (r1 == r2) = false := by simpa using hr
          rw [hbe] at hnq
          simp only [Bool.not_false] at hnq
          go_wp2_with (first | ((with_reducible refine wpList_load_arr_i (g := q8) (cs := D1) 33 _ rfl ?_ ?_ ?_); exact ⟨rfl, rfl⟩; assumption) | ((with_reducible refine wpList_load_arr_i (g := q10) (cs := D2) 33 _ rfl ?_ ?_ ?_); exact ⟨rfl, rfl⟩; assumption))
          refine (awake17 _ GW).mono ?_
          rintro e w9 ⟨rfl, b9⟩
          go_wp2_with fail
          go_ret
          exact ⟨rfl, BW.trans (b9.mono BW.size)⟩
section
variable {H : Type} {enc : TypeId × Value → H}
theorem nodeApart_walk (v0 : Value) (d0 : DataW H) (p0 : List MemPlace) (v1 : Value) (d1 : DataW H) (p1 : List MemPlace) (w : World) (hok0 : ∃ a len cap, v0 = .slice a len cap) (h0 : DataW.Trod enc Tryd.prog w 0 (fun _ => true) true 45 v0 d0 p0) (hok1 : ∃ a len cap, v1 = .slice a len cap) (h1 : DataW.Trod enc Tryd.prog w 0 (fun _ => true) true 45 v1 d1 p1) (hG : Gl w) :
    Calls Tryd.prog 7 #[v0, v1] w fun e w' => e = .returned (.bool true) ∧ Below w.heap.size w w' := by
  obtain ⟨la, n, c, X, rfl, hn, hXl, hX3, hTX⟩ := open_digs hok0 h0
  obtain ⟨lb, m, d, Y, rfl, hm, hYl, hY3, hTY⟩ := open_digs hok1 h1
  unfold maxLen at hn hm
  exact nodeApart_body X Y la lb n c m d w hG hXl (by omega) hX3 hTX hYl (by omega) hY3 hTY
end
end Go.Proofs.YtaopmiocompibaaDoor
