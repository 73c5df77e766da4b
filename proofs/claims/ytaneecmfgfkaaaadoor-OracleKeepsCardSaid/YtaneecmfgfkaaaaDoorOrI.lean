/- The oracle: what must come at any rate (layer 6). -/
import Derived.Test.YtaneecmfgfkaaaaDoorOrH
import Derived.Deep.Slices
namespace Go.Proofs.YtaneecmfgfkaaaaDoor
open Go.RowKit Go.Deep Go.Maps
set_option linter.unusedVariables false
set_option linter.unusedSimpArgs false
theorem run_neq_rowb {P : Program} {t e : TypeId} {n m : Nat} (f : Nat → Int) (ht : P.underlying t = some (.array n e)) (he : P.underlying e = some (.int .u8)) (hsz : ∀ w, (sizeOf e).run P w = .ok 1 w) (hm : n = m) (w : World) :
    (binOp .neq t (.agg (rowB f m).toArray) (.agg (rowB f m).toArray)).run P w = .ok (.bool false) w := by
  subst hm
  rw [run_neq_struct, show (10000 : Nat) = 9998 + 2 from rfl, Op.equalIn]
  simp only [Sem.run_bind, run_underlying ht, Result.andThen_ok, hsz, Std.Legacy.Range.forIn_eq_forIn_range', Std.Legacy.Range.size, Nat.sub_zero, Nat.add_sub_cancel, Nat.div_one]
  have hl : ∀ i ∈ List.range' 0 n 1, i < n := fun i hi => by simpa using (List.mem_range'_1.1 hi).2
  generalize List.range' 0 n 1 = l at hl ⊢
  induction l with
  | nil => simp
  | cons i l ih =>
    have hi : i < n := hl i (by simp)
    have px : ∀ h : Nat → Int, (part e (rowB h n).toArray (i * 1)).run P w = .ok (.int .u8 (h i)) w := fun h => by
      simp [part, isAgg, run_underlying he, rowB, hi]
    have pe : (Op.equalIn (9998 + 1) e (.int .u8 (f i)) (.int .u8 (f i))).run P w = .ok (f i == f i) w := run_equalIn_int w 9998 e .u8 .u8 _ _ he
    simp only [List.forIn_cons, Sem.run_bind, px, pe, Result.andThen_ok, beq_self_eq_true, Bool.not_true, Bool.false_eq_true, if_false, Sem.run_pure]
    exact ih fun j hj => hl j (by simp [hj])
theorem neq_dig (l : List UInt8) (hl : l.length = 32) (w : World) : (binOp .neq 34 (.agg (digA l)) (.agg (digA l))).run Tryd.prog w = .ok (.bool false) w := by
  unfold digA
  rw [bv_row, run_neq_rowb _ Tryd.underlying34 Tryd.underlying5 size_b hl.symm w]
/-- 32 bytes 0. -/
def zz : List UInt8 := List.replicate 32 0
theorem digA_zz : digA zz = z32 := rfl
theorem key_zz : ∃ l, keyOf Tryd.prog 34 (.agg z32) = some l := Option.isSome_iff_exists.1 (by kernel_rfl)
def abL : List ByteArray := [⟨#[97]⟩, ⟨#[98]⟩]
theorem pair_ab : pairF abL [zz, zz] 2 = some (0, 1) := by decide +kernel
theorem eql_z32 (w : World) : (binOp .eql 34 (.agg z32) (.agg z32)).run Tryd.prog w = .ok (.bool true) w := by kernel_rfl
theorem build_z32 : ∀ w, (Instr.build 34 #[]).run Tryd.prog w = .ok (.agg z32) w := fun w => by kernel_rfl
def z64 : Array Value := z32 ++ z32
theorem fill_64 : Instr.fill (fun i => some (i * 32, 32)) ((Array.range (2 * 32)).map ((Value.agg z32).cells[· % (Value.agg z32).cells.size]!)) [(0, .agg z32), (1, .agg z32)] = some z64 := by kernel_rfl
theorem build_64 (w : World) : (Instr.buildSlice 54 2 #[(0, .agg z32), (1, .agg z32)]).run Tryd.prog w = .ok (.slice (some ⟨w.heap.size, 0, none⟩) 2 2) (w.alloc (.cells z64 34)) := by
  obtain ⟨id_, hdi, hdz0, hdz1, hdz2⟩ := info_parts' info_dig'
  refine run_buildSlice w 54 34 2 _ z64 id_ (.agg z32) Tryd.underlying54 hdi hdz0 (by rw [hdz1]; decide) (by rw [hdz1]; decide) ?_
  rw [hdz1]
  exact fill_64
def abc : ByteArray := ⟨#[97, 98, 99]⟩
theorem dig_z64 {w : World} {g : Nat} (h : w.heap[g]? = some (.cells z64 34 (0, 0))) : DigAt w (some ⟨g, 0, none⟩) [zz, zz] := fun _ => ⟨g, 0, rfl, (Array.getElem?_eq_some_iff.1 h).1, fun i hi j u hu => by
  have hj : j < 32 := by have := (List.getElem?_eq_some_iff.1 hu).1; rcases (show i = 0 ∨ i = 1 by have : i < 2 := hi; omega) with rfl | rfl <;> simpa [bv, zz] using this
  have h0 : (bv zz)[j]? = some (.int .u8 0) := by unfold bv zz; rw [List.getElem?_map, List.getElem?_replicate, if_pos hj]; rfl
  have hu2 : u = .int .u8 0 := by
    rcases (show i = 0 ∨ i = 1 by have : i < 2 := hi; omega) with rfl | rfl
    · have hu' : (bv zz)[j]? = some u := hu
      rw [h0] at hu'; exact (Option.some.inj hu').symm
    · have hu' : (bv zz)[j]? = some u := hu
      rw [h0] at hu'; exact (Option.some.inj hu').symm
  have hz : z64 = (List.replicate 64 (Value.int .u8 0)).toArray := by kernel_rfl
  rw [cell_of_row w g _ _ _ _ h, hz, List.getElem?_toArray, List.getElem?_replicate, if_pos (by have : i < 2 := hi; omega), hu2]⟩
theorem txt_ab {w : World} {g : Nat} (h : w.heap[g]? = some (.cells #[.string ⟨#[97]⟩, .string ⟨#[98]⟩] 9 (0, 0))) : TxtAt w (some ⟨g, 0, none⟩) abL := fun _ => ⟨g, 0, rfl, (Array.getElem?_eq_some_iff.1 h).1, fun i hi => by
  rcases (show i = 0 ∨ i = 1 by have : i < 2 := hi; omega) with rfl | rfl
  · exact cell_of_row w g 0 _ _ _ h
  · exact cell_of_row w g 1 _ _ _ h⟩
theorem pair_awake (gl gd lc dc : Nat) (w : World) (hl : w.heap[gl]? = some (.cells #[.string ⟨#[97]⟩, .string ⟨#[98]⟩] 9 (0, 0))) (hd : w.heap[gd]? = some (.cells z64 34 (0, 0))) :
    Calls Tryd.prog 35 #[.slice (some ⟨gl, 0, none⟩) 2 lc, .slice (some ⟨gd, 0, none⟩) 2 dc] w fun e w' => e = .returned (.tuple #[.int .i64 0, .int .i64 1, .bool true]) ∧ Below w.heap.size w w' := by
  obtain ⟨kz, hkz⟩ := key_zz
  have hx : ∀ x ∈ [zz, zz], x = zz := fun x hx => by simpa using hx
  refine (pair_any abL [zz, zz] (fun _ => kz) (some ⟨gl, 0, none⟩) (some ⟨gd, 0, none⟩) lc dc w (txt_ab hl) (dig_z64 hd) (fun x h => by rw [hx x h]; rfl) (fun x h => by rw [hx x h, digA_zz]; exact hkz) (fun x h y h' _ => by rw [hx x h, hx y h']) (by decide) (by decide)).mono ?_
  rintro e w' ⟨rfl, b⟩
  refine ⟨?_, b⟩
  show Ending.returned (pairV (pairF abL [zz, zz] 2)) = _
  rw [pair_ab]
  rfl
theorem z32_size : z32.size = 32 := rfl
attribute [local irreducible] digA sumL zz z32 z64
set_option maxRecDepth 100000 in
set_option maxHeartbeats 4000000 in
theorem awake06 (w : World) (hG : Gl w) : Calls Tryd.prog 17 #[] w fun e w' => e = .returned (.bool true) ∧ Below w.heap.size w w' := by
  have hz := zero_dig
  have hb := build_z32
  have HS := Lib.hid (fun w hw => sum_any abc w (by decide) hw)
  have hne := neq_dig (sumL abc.data.toList) (sumL_len _)
  have heq := eql_dig (sumL abc.data.toList) (sumL_len _)
  have HSN := Lib.hid (fun base g tv sv b D w h1 h2 h3 h4 => orSum_new base g [] tv sv b D abc w h1 h2 h3 h4 (by decide) (by simp) (by simp))
  have HIN : Hid (∀ base g tv sv b D w, OrP base w g [abc.data.toList] tv sv b D → Calls Tryd.prog 16 #[.pointer (some ⟨g, 0, none⟩), .int .i64 0] w fun e w' => e = .returned (.tuple #[.string ⟨#[97, 98, 99]⟩, .agg (digA (sumL abc.data.toList)), .int .i64 0]) ∧ Below w.heap.size w w') := Lib.hid (fun base g tv sv b D w h => orInput_any base g [abc.data.toList] tv sv b D 0 (by simp) (by simp) w h)
  obtain ⟨id_, hdi, hdz0, hdz1, hdz2⟩ := info_parts' info_dig'
  have hf64 := fill_64
  have HF := Lib.hid hf64
  clear hf64
  have HLN := Lib.hid (fun base g tv sv b D w h => orLen_any base g [abc.data.toList] tv sv b D w h)
  have hsa : (⟨abc.data.toList.toArray⟩ : ByteArray) = ⟨#[97, 98, 99]⟩ := rfl
  have HSA := Lib.hid hsa
  obtain ⟨hsz, hone⟩ := dig_ok' abc.data.toList
  have hgf := hG.sf
  have hgk := hG.sk
  have hbv : (bv (sumL abc.data.toList)).toArray = digA (sumL abc.data.toList) := by with_unfolding_all rfl
  have HBV := Lib.hid hbv
  have H32 := Lib.hid (dig_len abc.data.toList)
  clear hsa hbv
  go_enter Tryd.func17, Tryd.ntmps17
  go_wp2_with fail
  refine (orNew_any w.heap.size w (Nat.le_refl _)).mono ?_
  rintro e w1 ⟨rfl, P1, B1⟩
  have G1 := hG.below B1
  go_wp2_with fail
  refine (HSN.out w.heap.size _ _ _ _ _ w1 G1 hgf hgk P1).mono ?_
  rintro e w2 ⟨tv, sv, D, rfl, P2, b2⟩
  have B2 := B1.trans b2
  have G2 := hG.below B2
  rw [List.nil_append] at P2
  clear P1 G1 b2 B1
  go_wp2_with fail
  refine (HS.out w2 G2).mono ?_
  rintro e w3 ⟨rfl, b3⟩
  have P3 := P2.below b3
  have B3 := B2.trans (b3.mono B2.size)
  clear P2 G2 b3 B2
  go_wp2_with fail
  refine (HLN.out _ _ _ _ _ _ w3 P3).mono ?_
  rintro e w3' ⟨rfl, rfl⟩
  rw [show (([abc.data.toList].length : Nat) : Int) = 1 from rfl]
  have B3s := B3.size
  go_wp2_with (refine wpList_buildSlice rfl 54 34 2 _ rfl z64 id_ (.agg z32) Tryd.underlying54 hdi hdz0 (by rw [hdz1]; decide) (by rw [hdz1]; decide) (by rw [hdz1]; simp only [List.map_toArray, List.map_cons, List.map_nil]; exact HF.out) ?_)
  generalize h4 : w3.alloc (.cells #[.string ⟨#[97]⟩, .string ⟨#[98]⟩] 9) = w4 at *
  have s4 : w4.heap.size = w3.heap.size + 1 := by rw [← h4]; simp
  have n4 : w4.heap[w3.heap.size]? = some (.cells #[.string ⟨#[97]⟩, .string ⟨#[98]⟩] 9 (0, 0)) := by rw [← h4]; exact heap_alloc_new _ _
  have b4 : Below w3.heap.size w3 w4 := by rw [← h4]; exact (Below.refl _ _).alloc (Nat.le_refl _) _
  have s4' := Lib.hid s4
  generalize h5 : w4.alloc (.cells z64 34) = w5 at *
  have n5 : w5.heap[w3.heap.size + 1]? = some (.cells z64 34 (0, 0)) := by rw [← h5, ← s4]; exact heap_alloc_new _ _
  have b5 : Below w4.heap.size w4 w5 := by rw [← h5]; exact (Below.refl _ _).alloc (Nat.le_refl _) _
  have n45 := (b5.block w3.heap.size (by omega)).trans n4
  have P5 := (P3.below b4).below b5
  have B5 := (B3.trans (b4.mono B3.size)).trans (b5.mono (by omega))
  have HPA := Lib.hid (pair_awake w3.heap.size (w3.heap.size + 1) 2 2 w5 n45 n5)
  clear h4 s4 n4 b4 h5 n5 b5 n45 P3 B3
  refine HPA.out.mono ?_
  rintro e w6 ⟨rfl, b6⟩
  have P6 := P5.below b6
  have B6 := B5.trans (b6.mono B5.size)
  clear P5 B5 b6 HPA
  go_wp2_with fail
  refine (HIN.out _ _ _ _ _ _ w6 P6).mono ?_
  rintro e w7 ⟨rfl, b7⟩
  have B7 := B6.trans (b7.mono B6.size)
  clear b7 B6 P6
  obtain ⟨w8, HW8, hd8, b8⟩ := stored_dg w7 (digA (sumL abc.data.toList))
  have B8 := B7.trans (b8.mono B7.size)
  have G8 := hG.below B8
  generalize digA (sumL abc.data.toList) = DG at *
  generalize bv (sumL abc.data.toList) = BV at *
  go_upto_region 6 with (refine wpList_store_row rfl _ _ _ rfl w7.heap.size DG rfl rfl 34 _ (heap_alloc_new _ _) (by rw [hsz]; kernel_rfl) (by rw [hsz, z32_size]) hone ?_)
  rw [HW8.out]
  clear HW8
  have hq8 : w7.heap.size < w8.heap.size := (Array.getElem?_eq_some_iff.1 hd8).1
  have hr8 := range_dg hd8 HBV.out
  generalize w7.heap.size = q6 at *
  refine wp_region_lin (S := (fun w' => w'.rangeAt q6 0 BV)) [(0, true), (1, true), (2, true), (3, true), (4, true), (5, true), (6, true), (7, true), (8, true), (9, true), (10, true), (11, true), (12, true), (13, true), (14, true), (15, false), (16, true), (17, true), (18, true), (19, true), (20, true), (21, true), (22, true)] (by kernel_rfl) (by kernel_rfl) rfl (by kernel_rfl) ?_ (fun hHeld => ?_)
  · (try dsimp only); exact hr8
  (refine wpL_calm (o := { dst := some 37, op := Go.Op.move (Go.Operand.tmp 2), type := 3, pos := "law.go:25", after := #[], guard := none }) (v := ?_) rfl (Or.inl ⟨by rfl, ?_⟩) ?_; rotate_left; (focus (intro w hSw; (try dsimp only at hSw); go_simp; (try (with_reducible rfl)); done)); try simp only [Act.put, List.setIfInBounds_toArray, List.set_cons_zero, List.set_cons_succ])
  (refine wpL_calm (o := { dst := some 38, op := Go.Op.binOp Go.BinOp.eql 3 (Go.Operand.tmp 37) (Go.Operand.const (Go.Value.int Go.IntKind.i64 0)) 3, type := 4, pos := "law.go:25", after := #[{ on := 0, ground := Go.Ground.data }], guard := none }) (v := ?_) rfl (Or.inl ⟨by rfl, ?_⟩) ?_; rotate_left; (focus (intro w hSw; (try dsimp only at hSw); go_simp; (try (with_reducible rfl)); done)); try simp only [Act.put, List.setIfInBounds_toArray, List.set_cons_zero, List.set_cons_succ])
  (refine wpL_calm (o := { dst := some 39, op := Go.Op.move (Go.Operand.tmp 38), type := 4, pos := "law.go:25", after := #[{ on := 1, ground := Go.Ground.data }], guard := none }) (v := ?_) rfl (Or.inl ⟨by rfl, ?_⟩) ?_; rotate_left; (focus (intro w hSw; (try dsimp only at hSw); go_simp; (try (with_reducible rfl)); done)); try simp only [Act.put, List.setIfInBounds_toArray, List.set_cons_zero, List.set_cons_succ])
  first | (refine wpL_calm (o := { dst := some 40, op := Go.Op.move (Go.Operand.tmp 3), type := 3, pos := "law.go:25", after := #[{ on := 2, ground := Go.Ground.guard }], guard := some (2, true) }) (v := ?_) rfl (Or.inl ⟨by rfl, ?_⟩) ?_; rotate_left; (focus (intro w hSw; (try dsimp only at hSw); go_simp; (try (with_reducible rfl)); done)); try simp only [Act.put, List.setIfInBounds_toArray, List.set_cons_zero, List.set_cons_succ]) | (refine wpL_calm (o := { dst := some 40, op := Go.Op.move (Go.Operand.tmp 3), type := 3, pos := "law.go:25", after := #[{ on := 2, ground := Go.Ground.guard }], guard := some (2, true) }) (v := undef) rfl (Or.inr ⟨by rfl, rfl⟩) ?_; try simp only [Act.put, List.setIfInBounds_toArray, List.set_cons_zero, List.set_cons_succ])
  first | (refine wpL_calm (o := { dst := some 41, op := Go.Op.binOp Go.BinOp.eql 3 (Go.Operand.tmp 40) (Go.Operand.const (Go.Value.int Go.IntKind.i64 1)) 3, type := 4, pos := "law.go:25", after := #[{ on := 3, ground := Go.Ground.data }, { on := 2, ground := Go.Ground.guard }], guard := some (2, true) }) (v := ?_) rfl (Or.inl ⟨by rfl, ?_⟩) ?_; rotate_left; (focus (intro w hSw; (try dsimp only at hSw); go_simp; (try (with_reducible rfl)); done)); try simp only [Act.put, List.setIfInBounds_toArray, List.set_cons_zero, List.set_cons_succ]) | (refine wpL_calm (o := { dst := some 41, op := Go.Op.binOp Go.BinOp.eql 3 (Go.Operand.tmp 40) (Go.Operand.const (Go.Value.int Go.IntKind.i64 1)) 3, type := 4, pos := "law.go:25", after := #[{ on := 3, ground := Go.Ground.data }, { on := 2, ground := Go.Ground.guard }], guard := some (2, true) }) (v := undef) rfl (Or.inr ⟨by rfl, rfl⟩) ?_; try simp only [Act.put, List.setIfInBounds_toArray, List.set_cons_zero, List.set_cons_succ])
  (refine wpL_calm (o := { dst := some 42, op := Go.Op.pick (Go.Operand.tmp 39) (Go.Operand.tmp 41) (Go.Operand.const (Go.Value.bool false)), type := 4, pos := "law.go:25", after := #[{ on := 2, ground := Go.Ground.data }, { on := 4, ground := Go.Ground.data }], guard := none }) (v := ?_) rfl (Or.inl ⟨by rfl, ?_⟩) ?_; rotate_left; (focus (intro w hSw; (try dsimp only at hSw); go_simp; (try (with_reducible rfl)); done)); try simp only [Act.put, List.setIfInBounds_toArray, List.set_cons_zero, List.set_cons_succ])
  (refine wpL_calm (o := { dst := some 43, op := Go.Op.move (Go.Operand.tmp 42), type := 4, pos := "law.go:25", after := #[{ on := 5, ground := Go.Ground.data }, { on := 2, ground := Go.Ground.chain }], guard := none }) (v := ?_) rfl (Or.inl ⟨by rfl, ?_⟩) ?_; rotate_left; (focus (intro w hSw; (try dsimp only at hSw); go_simp; (try (with_reducible rfl)); done)); try simp only [Act.put, List.setIfInBounds_toArray, List.set_cons_zero, List.set_cons_succ])
  first | (refine wpL_calm (o := { dst := some 44, op := Go.Op.move (Go.Operand.tmp 4), type := 4, pos := "law.go:25", after := #[{ on := 6, ground := Go.Ground.guard }], guard := some (6, true) }) (v := ?_) rfl (Or.inl ⟨by rfl, ?_⟩) ?_; rotate_left; (focus (intro w hSw; (try dsimp only at hSw); go_simp; (try (with_reducible rfl)); done)); try simp only [Act.put, List.setIfInBounds_toArray, List.set_cons_zero, List.set_cons_succ]) | (refine wpL_calm (o := { dst := some 44, op := Go.Op.move (Go.Operand.tmp 4), type := 4, pos := "law.go:25", after := #[{ on := 6, ground := Go.Ground.guard }], guard := some (6, true) }) (v := undef) rfl (Or.inr ⟨by rfl, rfl⟩) ?_; try simp only [Act.put, List.setIfInBounds_toArray, List.set_cons_zero, List.set_cons_succ])
  (refine wpL_calm (o := { dst := some 45, op := Go.Op.pick (Go.Operand.tmp 43) (Go.Operand.tmp 44) (Go.Operand.const (Go.Value.bool false)), type := 4, pos := "law.go:25", after := #[{ on := 6, ground := Go.Ground.data }, { on := 7, ground := Go.Ground.data }], guard := none }) (v := ?_) rfl (Or.inl ⟨by rfl, ?_⟩) ?_; rotate_left; (focus (intro w hSw; (try dsimp only at hSw); go_simp; (try (with_reducible rfl)); done)); try simp only [Act.put, List.setIfInBounds_toArray, List.set_cons_zero, List.set_cons_succ])
  (refine wpL_calm (o := { dst := some 46, op := Go.Op.move (Go.Operand.tmp 45), type := 4, pos := "law.go:25", after := #[{ on := 8, ground := Go.Ground.data }, { on := 6, ground := Go.Ground.chain }], guard := none }) (v := ?_) rfl (Or.inl ⟨by rfl, ?_⟩) ?_; rotate_left; (focus (intro w hSw; (try dsimp only at hSw); go_simp; (try (with_reducible rfl)); done)); try simp only [Act.put, List.setIfInBounds_toArray, List.set_cons_zero, List.set_cons_succ])
  first | (refine wpL_calm (o := { dst := some 47, op := Go.Op.move (Go.Operand.tmp 5), type := 9, pos := "law.go:25", after := #[{ on := 9, ground := Go.Ground.guard }], guard := some (9, true) }) (v := ?_) rfl (Or.inl ⟨by rfl, ?_⟩) ?_; rotate_left; (focus (intro w hSw; (try dsimp only at hSw); go_simp; (try (with_reducible rfl)); done)); try simp only [Act.put, List.setIfInBounds_toArray, List.set_cons_zero, List.set_cons_succ]) | (refine wpL_calm (o := { dst := some 47, op := Go.Op.move (Go.Operand.tmp 5), type := 9, pos := "law.go:25", after := #[{ on := 9, ground := Go.Ground.guard }], guard := some (9, true) }) (v := undef) rfl (Or.inr ⟨by rfl, rfl⟩) ?_; try simp only [Act.put, List.setIfInBounds_toArray, List.set_cons_zero, List.set_cons_succ])
  first | (refine wpL_calm (o := { dst := some 48, op := Go.Op.binOp Go.BinOp.eql 9 (Go.Operand.tmp 47) (Go.Operand.const (Go.Value.string { data := #[97, 98, 99] })) 9, type := 4, pos := "law.go:25", after := #[{ on := 10, ground := Go.Ground.data }, { on := 9, ground := Go.Ground.guard }], guard := some (9, true) }) (v := ?_) rfl (Or.inl ⟨by rfl, ?_⟩) ?_; rotate_left; (focus (intro w hSw; (try dsimp only at hSw); go_simp; (try (with_reducible rfl)); done)); try simp only [Act.put, List.setIfInBounds_toArray, List.set_cons_zero, List.set_cons_succ]) | (refine wpL_calm (o := { dst := some 48, op := Go.Op.binOp Go.BinOp.eql 9 (Go.Operand.tmp 47) (Go.Operand.const (Go.Value.string { data := #[97, 98, 99] })) 9, type := 4, pos := "law.go:25", after := #[{ on := 10, ground := Go.Ground.data }, { on := 9, ground := Go.Ground.guard }], guard := some (9, true) }) (v := undef) rfl (Or.inr ⟨by rfl, rfl⟩) ?_; try simp only [Act.put, List.setIfInBounds_toArray, List.set_cons_zero, List.set_cons_succ])
  (refine wpL_calm (o := { dst := some 49, op := Go.Op.pick (Go.Operand.tmp 46) (Go.Operand.tmp 48) (Go.Operand.const (Go.Value.bool false)), type := 4, pos := "law.go:25", after := #[{ on := 9, ground := Go.Ground.data }, { on := 11, ground := Go.Ground.data }], guard := none }) (v := ?_) rfl (Or.inl ⟨by rfl, ?_⟩) ?_; rotate_left; (focus (intro w hSw; (try dsimp only at hSw); go_simp; (try (with_reducible rfl)); done)); try simp only [Act.put, List.setIfInBounds_toArray, List.set_cons_zero, List.set_cons_succ])
  (refine wpL_calm (o := { dst := some 50, op := Go.Op.move (Go.Operand.tmp 49), type := 4, pos := "law.go:25", after := #[{ on := 12, ground := Go.Ground.data }, { on := 9, ground := Go.Ground.chain }], guard := none }) (v := ?_) rfl (Or.inl ⟨by rfl, ?_⟩) ?_; rotate_left; (focus (intro w hSw; (try dsimp only at hSw); go_simp; (try (with_reducible rfl)); done)); try simp only [Act.put, List.setIfInBounds_toArray, List.set_cons_zero, List.set_cons_succ])
  refine wpL_calm (o := { dst := some 51, op := Go.Op.load 34 (Go.Operand.tmp 6), type := 34, pos := "law.go:25", after := #[{ on := 13, ground := Go.Ground.guard }], guard := some (13, true) }) rfl (yieldsIf_load_mid (by rfl) _ _ rfl q6 0 rfl BV _ (fun _ h => h) Tryd.underlying34 rfl (by rw [H32.out]; kernel_rfl)) ?_; rw [HBV.out]
  try simp only [Act.put, List.setIfInBounds_toArray, List.set_cons_zero, List.set_cons_succ]
  refine wpL_loud1 (o := { dst := some 52, op := Go.Op.call { callee := Go.Callee.value (Go.Operand.func 14), args := #[Go.Operand.const (Go.Value.string { data := #[97, 98, 99] })], argTypes := #[9] }, type := 34, pos := "law.go:25", after := #[{ on := 13, ground := Go.Ground.chain }, { on := 13, ground := Go.Ground.guard }], guard := some (13, true) }) rfl (fun K hK => ?_)
  (go_simp; go_at_call 14; refine (HS.out _ (show Gl w8.drew from ⟨G8.f, G8.k, G8.sf, G8.sk⟩)).mono ?_; rintro e w9 ⟨rfl, b9⟩)
  try go_wp2_with fail
  refine hK.out _ _ ?_ (fun hHeld => ?_)
  · (try dsimp only); exact range_below (w := w8.drew) hr8 b9 hq8
  clear hK K
  try simp only [Act.put, List.setIfInBounds_toArray, List.set_cons_zero, List.set_cons_succ]
  first | (refine wpL_calm (o := { dst := some 53, op := Go.Op.binOp Go.BinOp.eql 34 (Go.Operand.tmp 51) (Go.Operand.tmp 52) 34, type := 4, pos := "law.go:25", after := #[{ on := 14, ground := Go.Ground.data }, { on := 15, ground := Go.Ground.data }, { on := 13, ground := Go.Ground.guard }], guard := some (13, true) }) (v := ?_) rfl (Or.inl ⟨by rfl, ?_⟩) ?_; rotate_left; (focus (intro w hSw; (try dsimp only at hSw); go_simp; (try (with_reducible rfl)); done)); try simp only [Act.put, List.setIfInBounds_toArray, List.set_cons_zero, List.set_cons_succ]) | (refine wpL_calm (o := { dst := some 53, op := Go.Op.binOp Go.BinOp.eql 34 (Go.Operand.tmp 51) (Go.Operand.tmp 52) 34, type := 4, pos := "law.go:25", after := #[{ on := 14, ground := Go.Ground.data }, { on := 15, ground := Go.Ground.data }, { on := 13, ground := Go.Ground.guard }], guard := some (13, true) }) (v := undef) rfl (Or.inr ⟨by rfl, rfl⟩) ?_; try simp only [Act.put, List.setIfInBounds_toArray, List.set_cons_zero, List.set_cons_succ])
  (refine wpL_calm (o := { dst := some 54, op := Go.Op.pick (Go.Operand.tmp 50) (Go.Operand.tmp 53) (Go.Operand.const (Go.Value.bool false)), type := 4, pos := "law.go:25", after := #[{ on := 13, ground := Go.Ground.data }, { on := 16, ground := Go.Ground.data }], guard := none }) (v := ?_) rfl (Or.inl ⟨by rfl, ?_⟩) ?_; rotate_left; (focus (intro w hSw; (try dsimp only at hSw); go_simp; (try (with_reducible rfl)); done)); try simp only [Act.put, List.setIfInBounds_toArray, List.set_cons_zero, List.set_cons_succ])
  (refine wpL_calm (o := { dst := some 55, op := Go.Op.move (Go.Operand.tmp 54), type := 4, pos := "law.go:25", after := #[{ on := 17, ground := Go.Ground.data }, { on := 15, ground := Go.Ground.chain }], guard := none }) (v := ?_) rfl (Or.inl ⟨by rfl, ?_⟩) ?_; rotate_left; (focus (intro w hSw; (try dsimp only at hSw); go_simp; (try (with_reducible rfl)); done)); try simp only [Act.put, List.setIfInBounds_toArray, List.set_cons_zero, List.set_cons_succ])
  first | (refine wpL_calm (o := { dst := some 56, op := Go.Op.move (Go.Operand.tmp 7), type := 30, pos := "law.go:25", after := #[{ on := 18, ground := Go.Ground.guard }], guard := some (18, true) }) (v := ?_) rfl (Or.inl ⟨by rfl, ?_⟩) ?_; rotate_left; (focus (intro w hSw; (try dsimp only at hSw); go_simp; (try (with_reducible rfl)); done)); try simp only [Act.put, List.setIfInBounds_toArray, List.set_cons_zero, List.set_cons_succ]) | (refine wpL_calm (o := { dst := some 56, op := Go.Op.move (Go.Operand.tmp 7), type := 30, pos := "law.go:25", after := #[{ on := 18, ground := Go.Ground.guard }], guard := some (18, true) }) (v := undef) rfl (Or.inr ⟨by rfl, rfl⟩) ?_; try simp only [Act.put, List.setIfInBounds_toArray, List.set_cons_zero, List.set_cons_succ])
  first | (refine wpL_calm (o := { dst := some 57, op := Go.Op.binOp Go.BinOp.eql 30 (Go.Operand.tmp 56) (Go.Operand.const (Go.Value.int Go.IntKind.i64 0)) 30, type := 4, pos := "law.go:25", after := #[{ on := 19, ground := Go.Ground.data }, { on := 18, ground := Go.Ground.guard }], guard := some (18, true) }) (v := ?_) rfl (Or.inl ⟨by rfl, ?_⟩) ?_; rotate_left; (focus (intro w hSw; (try dsimp only at hSw); go_simp; (try (with_reducible rfl)); done)); try simp only [Act.put, List.setIfInBounds_toArray, List.set_cons_zero, List.set_cons_succ]) | (refine wpL_calm (o := { dst := some 57, op := Go.Op.binOp Go.BinOp.eql 30 (Go.Operand.tmp 56) (Go.Operand.const (Go.Value.int Go.IntKind.i64 0)) 30, type := 4, pos := "law.go:25", after := #[{ on := 19, ground := Go.Ground.data }, { on := 18, ground := Go.Ground.guard }], guard := some (18, true) }) (v := undef) rfl (Or.inr ⟨by rfl, rfl⟩) ?_; try simp only [Act.put, List.setIfInBounds_toArray, List.set_cons_zero, List.set_cons_succ])
  (refine wpL_calm (o := { dst := some 58, op := Go.Op.pick (Go.Operand.tmp 55) (Go.Operand.tmp 57) (Go.Operand.const (Go.Value.bool false)), type := 4, pos := "law.go:25", after := #[{ on := 18, ground := Go.Ground.data }, { on := 20, ground := Go.Ground.data }], guard := none }) (v := ?_) rfl (Or.inl ⟨by rfl, ?_⟩) ?_; rotate_left; (focus (intro w hSw; (try dsimp only at hSw); go_simp; (try (with_reducible rfl)); done)); try simp only [Act.put, List.setIfInBounds_toArray, List.set_cons_zero, List.set_cons_succ])
  (refine wpL_calm (o := { dst := some 0, op := Go.Op.assign (Go.Operand.tmp 58), type := 4, pos := "law.go:25", after := #[{ on := 21, ground := Go.Ground.data }, { on := 18, ground := Go.Ground.chain }, { on := 0, ground := Go.Ground.phase }, { on := 1, ground := Go.Ground.phase }, { on := 2, ground := Go.Ground.phase }, { on := 3, ground := Go.Ground.phase }, { on := 4, ground := Go.Ground.phase }, { on := 5, ground := Go.Ground.phase }, { on := 6, ground := Go.Ground.phase }, { on := 7, ground := Go.Ground.phase }, { on := 8, ground := Go.Ground.phase }, { on := 9, ground := Go.Ground.phase }, { on := 10, ground := Go.Ground.phase }, { on := 11, ground := Go.Ground.phase }, { on := 12, ground := Go.Ground.phase }, { on := 13, ground := Go.Ground.phase }, { on := 14, ground := Go.Ground.phase }, { on := 15, ground := Go.Ground.phase }, { on := 16, ground := Go.Ground.phase }, { on := 17, ground := Go.Ground.phase }, { on := 18, ground := Go.Ground.phase }, { on := 19, ground := Go.Ground.phase }, { on := 20, ground := Go.Ground.phase }, { on := 21, ground := Go.Ground.phase }], guard := none }) (v := ?_) rfl (Or.inl ⟨by rfl, ?_⟩) ?_; rotate_left; (focus (intro w hSw; (try dsimp only at hSw); go_simp; (try (with_reducible rfl)); done)); try simp only [Act.put, List.setIfInBounds_toArray, List.set_cons_zero, List.set_cons_succ])
  refine wpL_nil ?_
  refine NoPanic.normal ?_
  go_wp2_with fail
  go_ret
  exact ⟨rfl, B8.drew.trans (b9.mono B8.size)⟩
end Go.Proofs.YtaneecmfgfkaaaaDoor
