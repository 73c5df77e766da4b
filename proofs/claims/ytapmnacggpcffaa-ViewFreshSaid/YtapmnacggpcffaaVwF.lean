/- Laws of package view: images. -/
import Derived.Test.YtapmnacggpcffaaVwE
namespace Go.Proofs.Ytapmnacggpcffaa
open Go.RowKit Go.Deep
set_option linter.unusedVariables false
set_option linter.unusedSimpArgs false
/-- A block that is another one: where, and what. -/
abbrev Cg : Type := Int × ByteArray
def CgAt (w : World) (ao : Option Addr) (L : List Cg) : Prop := 0 < L.length → ∃ g o, ao = some ⟨g, o, none⟩ ∧ g < w.heap.size ∧ ∀ i (hi : i < L.length), w.cell? ⟨g, o + i * 2, none⟩ = some (.int .i64 L[i].1) ∧ w.cell? ⟨g, o + i * 2 + 1, none⟩ = some (.string L[i].2)
theorem CgAt.below {w w' : World} {ao : Option Addr} {L : List Cg} (h : CgAt w ao L) (b : Below w.heap.size w w') : CgAt w' ao L := fun hp => by
  obtain ⟨g, o, e, hg, hc⟩ := h hp
  exact ⟨g, o, e, Nat.lt_of_lt_of_le hg b.size, fun i hi => ⟨(b.cell (p := ⟨g, o + i * 2, none⟩) hg).trans (hc i hi).1, (b.cell (p := ⟨g, o + i * 2 + 1, none⟩) hg).trans (hc i hi).2⟩⟩
/-- A text's byte, 0 behind its end. -/
def byt (s : ByteArray) (k : Nat) : UInt8 := bAt s.data.toList k
theorem byt_out {s : ByteArray} {k : Nat} (h : s.size ≤ k) : byt s k = 0 := by
  unfold byt bAt
  rw [List.getElem?_eq_none (by rw [Array.length_toList]; exact h)]; rfl
/-- The first n bytes of a block are written. -/
def wrF (F : Nat → UInt8) (a : Nat) (s : ByteArray) (n : Nat) : Nat → UInt8 := fun j => if 64 * a ≤ j ∧ j < 64 * a + n then byt s (j - 64 * a) else F j
def chF (F : Nat → UInt8) (c : Cg) : Nat → UInt8 := if 0 ≤ c.1 ∧ c.1 ≤ 287 then wrF F c.1.toNat c.2 64 else F
def imgF (L : List Cg) : Nat → UInt8 := (L.take 40).foldl chF (fun _ => 0)
def imgT (L : List Cg) : ByteArray := ⟨((List.range 18432).map (imgF L)).toArray⟩
theorem imgT_size (L : List Cg) : (imgT L).size = 18432 := by unfold imgT; rw [bytes_size, List.length_map, List.length_range]
def BRow (w : World) (g : Nat) (F : Nat → UInt8) : Prop := w.rowIs g 5 18432 (fun j => .int .u8 ((F j).toNat : Int))
theorem wrF_zero (F : Nat → UInt8) (a : Nat) (s : ByteArray) : wrF F a s 0 = F := by
  funext j; unfold wrF; rw [if_neg (by omega)]
theorem BRow.set {w : World} {g a n : Nat} {F : Nat → UInt8} {s : ByteArray} (h : BRow w g (wrF F a s n)) : BRow (w.setCell ⟨g, 64 * a + n, none⟩ (.int .u8 ((byt s n).toNat : Int))) g (wrF F a s (n + 1)) := by
  unfold BRow at h ⊢
  refine World.rowIs.congr (World.rowIs.set h (64 * a + n) _) (fun j _ => ?_)
  by_cases e : j = 64 * a + n
  · rw [if_pos e]
    unfold wrF
    rw [if_pos (by omega), e, show 64 * a + n - 64 * a = n by omega]
  · rw [if_neg e]
    unfold wrF
    by_cases e2 : 64 * a ≤ j ∧ j < 64 * a + n
    · rw [if_pos e2, if_pos (by omega)]
    · rw [if_neg e2, if_neg (by omega)]
theorem BRow.set2 {w : World} {g a n : Nat} {F : Nat → UInt8} {s : ByteArray} (h : BRow w g (wrF F a s n)) (v : Value) : BRow ((w.setCell ⟨g, 64 * a + n, none⟩ v).setCell ⟨g, 64 * a + n, none⟩ (.int .u8 ((byt s n).toNat : Int))) g (wrF F a s (n + 1)) := by
  unfold BRow at h ⊢
  refine World.rowIs.congr (World.rowIs.set (World.rowIs.set h (64 * a + n) v) (64 * a + n) _) (fun j _ => ?_)
  by_cases e : j = 64 * a + n
  · rw [if_pos e]
    unfold wrF
    rw [if_pos (by omega), e, show 64 * a + n - 64 * a = n by omega]
  · rw [if_neg e, if_neg e]
    unfold wrF
    by_cases e2 : 64 * a ≤ j ∧ j < 64 * a + n
    · rw [if_pos e2, if_pos (by omega)]
    · rw [if_neg e2, if_neg (by omega)]
theorem BRow.set3 {w : World} {g a n : Nat} {F : Nat → UInt8} {s : ByteArray} (h : BRow w g (wrF F a s n)) (v : Value) : BRow ((w.setCell ⟨g, 64 * a + n, none⟩ v).drew.setCell ⟨g, 64 * a + n, none⟩ (.int .u8 ((byt s n).toNat : Int))) g (wrF F a s (n + 1)) := by
  unfold BRow at h ⊢
  refine World.rowIs.congr (World.rowIs.set (World.rowIs.drew (World.rowIs.set h (64 * a + n) v)) (64 * a + n) _) (fun j _ => ?_)
  by_cases e : j = 64 * a + n
  · rw [if_pos e]
    unfold wrF
    rw [if_pos (by omega), e, show 64 * a + n - 64 * a = n by omega]
  · rw [if_neg e, if_neg e]
    unfold wrF
    by_cases e2 : 64 * a ≤ j ∧ j < 64 * a + n
    · rw [if_pos e2, if_pos (by omega)]
    · rw [if_neg e2, if_neg (by omega)]
theorem img_step (L : List Cg) (i : Nat) (hi : i < L.length) : (L.take (i + 1)).foldl chF (fun _ => 0) = chF ((L.take i).foldl chF (fun _ => 0)) L[i] := by
  rw [List.take_succ_eq_append_getElem hi, List.foldl_append]; rfl
set_option maxRecDepth 100000 in
set_option maxHeartbeats 16000000 in
theorem image_any (ao : Option Addr) (c : Nat) (L : List Cg) (w : World) (hat : CgAt w ao L) (hn : L.length ≤ 9223372036854775807) : Calls Try.prog 6 #[.slice ao L.length c] w fun e w' => e = .returned (.string (imgT L)) ∧ Below w.heap.size w w' := by
  have hmk := run_make_row' (P := Try.prog) 43 5 (.int .u8 0) 1 Try.underlying43 info_u8z rfl .i64 .i64 18432 (by omega) (by omega) w
  have e1 : (18432 : Int) = ((18432 : Nat) : Int) := rfl
  rw [← e1] at hmk
  clear e1
  obtain ⟨w1, hw1⟩ : ∃ w1, w.alloc (.cells (madeCells #[.int .u8 0] 18432) 5) = w1 := ⟨_, rfl⟩
  have HR1 : Hid (BRow w1 w.heap.size (([] : List Cg).foldl chF (fun _ => 0))) := Lib.hid (by rw [← hw1]; exact World.rowIs_made w (.int .u8 0) 18432 5)
  have HB1 : Hid (Below w.heap.size w w1) := Lib.hid (by rw [← hw1]; exact (Below.refl _ _).alloc (Nat.le_refl _) _)
  rw [hw1] at hmk
  have HAT := Lib.hid hat
  obtain ⟨n, hnn⟩ : ∃ n, Hid (L.length = n) := ⟨_, Lib.hid rfl⟩
  obtain ⟨gb, hgb⟩ : ∃ gb, Hid (w.heap.size = gb) := ⟨_, Lib.hid rfl⟩
  rw [hnn.out] at hn ⊢
  rw [hgb.out] at hmk HR1 HB1 ⊢
  clear hat hw1
  go_enter Try.func6, Try.ntmps6
  go_upto_region 2 with fail
  clear hmk
  go_wp2_with fail
  go_loopw [4] (fun s4 wi => ∃ i : Nat, s4 = .int .i64 (i : Int) ∧ i ≤ 40 ∧ i ≤ n ∧ Hid (BRow wi gb ((L.take i).foldl chF (fun _ => 0))) ∧ Hid (Below gb w wi)) (fun s4 _ => 40 - (intOf s4).toNat)
  case atStart => exact ⟨0, rfl, by omega, by omega, HR1, HB1⟩
  case round =>
    obtain ⟨i, rfl, hi, hin, HR, HB⟩ := hrel
    by_cases hgo : (i : Int) < (n : Int) ∧ (i : Int) < 40
    · as_aux_lemma =>
      obtain ⟨g1, g2⟩ := hgo
      have hil : i < L.length := by rw [hnn.out]; omega
      obtain ⟨g, o, rfl, hg, hc⟩ := HAT.out (by omega)
      rw [hgb.out] at hg
      have c0 := (HB.out.cell (p := ⟨g, o + i * 2, none⟩) hg).trans (hc i hil).1
      have c1 := (HB.out.cell (p := ⟨g, o + i * 2 + 1, none⟩) hg).trans (hc i hil).2
      have HST := Lib.hid (img_step L i hil)
      generalize (L.take i).foldl chF (fun _ => 0) = F at *
      have hcc := hc i hil
      clear hc
      generalize L[i] = z at *
      obtain ⟨x, s⟩ := z
      have c0 : wr.cell? ⟨g, o + i * 2, none⟩ = some (.int .i64 x) := c0
      have c1 : wr.cell? ⟨g, o + i * 2 + 1, none⟩ = some (.string s) := c1
      have hcc0 : w.cell? ⟨g, o + i * 2, none⟩ = some (.int .i64 x) := hcc.1
      have hcc1 : w.cell? ⟨g, o + i * 2 + 1, none⟩ = some (.string s) := hcc.2
      clear hcc
      by_cases hx : 0 ≤ x ∧ x ≤ 287
      · as_aux_lemma =>
        obtain ⟨k, rfl⟩ : ∃ k : Nat, x = (k : Int) := ⟨x.toNat, by omega⟩
        have hk : k ≤ 287 := by omega
        have x1 : ¬ (k : Int) < 0 := by omega
        have x2 : ¬ (287 : Int) < (k : Int) := by omega
        have HST : Hid ((L.take (i + 1)).foldl chF (fun _ => 0) = wrF F k s 64) := Lib.hid (by rw [HST.out]; unfold chF; rw [if_pos (by simpa using hx)]; simp)
        have HR0 : Hid (BRow wr gb (wrF F k s 0)) := Lib.hid (by rw [wrF_zero]; exact HR.out)
        clear hx HR
        go_wp2_with fail
        go_loopw [5] (fun s5 wi => ∃ m : Nat, s5 = .int .i64 (m : Int) ∧ m ≤ 64 ∧ Hid (BRow wi gb (wrF F k s m)) ∧ Hid (Below gb w wi)) (fun s5 _ => 64 - (intOf s5).toNat)
        case atStart => exact ⟨0, rfl, by omega, HR0, HB⟩
        case round =>
          obtain ⟨m, rfl, hm, HRm, HBm⟩ := hrel
          by_cases hlt : m < 64
          · as_aux_lemma =>
            have hmi : (m : Int) < 64 := by omega
            have hix : 64 * k + m < 18432 := by omega
            have e1 : ((64 : Int) * (k : Int) + (m : Int)).toNat = 64 * k + m := by omega
            have e2 : (0 : Int) ≤ 64 * (k : Int) + (m : Int) := by omega
            have e3 : (64 : Int) * (k : Int) + (m : Int) < 18432 := by omega
            have hw1 : IntKind.i64.wrap (64 * (k : Int)) = 64 * (k : Int) := by rw [IntKind.wrap_i64]; omega
            have hw2 : IntKind.i64.wrap (64 * (k : Int) + (m : Int)) = 64 * (k : Int) + (m : Int) := by rw [IntKind.wrap_i64]; omega
            have d0 := (HBm.out.cell (p := ⟨g, o + i * 2, none⟩) hg).trans hcc0
            have d1 := (HBm.out.cell (p := ⟨g, o + i * 2 + 1, none⟩) hg).trans hcc1
            have hf := World.rowIs.frozen HRm.out (64 * k + m)
            have hcell := World.rowIs.cell HRm.out hix
            obtain ⟨w2, hw2'⟩ : ∃ w2, wr.setCell ⟨gb, 64 * k + m, none⟩ (.int .u8 0) = w2 := ⟨_, rfl⟩
            have HB2 : Hid (Below gb w w2) := Lib.hid (by rw [← hw2']; exact HBm.out.setCell (p := ⟨gb, 64 * k + m, none⟩) (Nat.le_refl _) _)
            have hrow2 := World.rowIs.set HRm.out (64 * k + m) (Value.int .u8 0)
            rw [hw2'] at hrow2
            have hf2 := World.rowIs.frozen hrow2 (64 * k + m)
            have hcell2 : w2.cell? ⟨gb, 64 * k + m, none⟩ = some (.int .u8 0) := (World.rowIs.cell hrow2 hix).trans (by simp)
            have HRn : Hid (s.size ≤ m → BRow w2 gb (wrF F k s (m + 1))) := Lib.hid (fun h => by
              have := BRow.set HRm.out
              rw [byt_out h] at this
              rw [← hw2']; exact this)
            have HRy : Hid (BRow (w2.drew.setCell ⟨gb, 64 * k + m, none⟩ (.int .u8 ((byt s m).toNat : Int))) gb (wrF F k s (m + 1))) := Lib.hid (by rw [← hw2']; exact BRow.set3 HRm.out _)
            have HW2 := Lib.hid hw2'
            have d20 := (HB2.out.cell (p := ⟨g, o + i * 2, none⟩) hg).trans hcc0
            have d21 := (HB2.out.cell (p := ⟨g, o + i * 2 + 1, none⟩) hg).trans hcc1
            clear hw2' hrow2 HRm c0 c1
            go_upto_region 10 with fail
            rw [HW2.out]
            clear HW2 hf hcell d0 d1
            by_cases hls : m < s.size
            · as_aux_lemma =>
              have hlsi : (m : Int) < (s.size : Int) := by omega
              have HIX : ∀ w', (Instr.index 9 (.string s) (.int .i64 (m : Int))).run Try.prog w' = .ok (.int .u8 ((byt s m).toNat : Int)) w' := fun w' => index_str s (m : Int) m rfl hls w'
              have hf3 : w2.drew.frozen? ⟨gb, 64 * k + m, none⟩ = false := hf2
              have hcell3 : w2.drew.cell? ⟨gb, 64 * k + m, none⟩ = _ := hcell2
              generalize ((byt s m).toNat : Int) = y at *
              go_upto_region 11 with fail
              refine wp_region_lin (S := (fun w' => w'.cell? ⟨g, o + i * 2, none⟩ = some (.int .i64 (k : Int)) ∧ w'.cell? ⟨g, o + i * 2 + 1, none⟩ = some (.string s))) [(0, true), (1, true), (2, true), (3, true), (4, true), (5, true), (6, true), (7, true), (8, true), (9, true), (10, true), (11, true), (12, true), (13, true), (14, true), (15, true), (16, true), (17, false)] (by kernel_rfl) (by kernel_rfl) rfl (by kernel_rfl) ?_ (fun hHeld => ?_)
              · (try dsimp only); exact ⟨d20, d21⟩
              (refine wpL_calm (o := { dst := some 53, op := Go.Op.move (Go.Operand.tmp 3), type := 43, pos := "law.go:28", after := #[], guard := none }) (v := ?_) rfl (Or.inl ⟨by rfl, ?_⟩) ?_; rotate_left; (focus (intro w hSw; (try dsimp only at hSw); go_simp; (try (with_reducible rfl)); done)); try simp only [Act.put, List.setIfInBounds_toArray, List.set_cons_zero, List.set_cons_succ])
              (refine wpL_calm (o := { dst := some 54, op := Go.Op.move (Go.Operand.tmp 0), type := 22, pos := "law.go:28", after := #[], guard := none }) (v := ?_) rfl (Or.inl ⟨by rfl, ?_⟩) ?_; rotate_left; (focus (intro w hSw; (try dsimp only at hSw); go_simp; (try (with_reducible rfl)); done)); try simp only [Act.put, List.setIfInBounds_toArray, List.set_cons_zero, List.set_cons_succ])
              (refine wpL_calm (o := { dst := some 55, op := Go.Op.move (Go.Operand.tmp 4), type := 3, pos := "law.go:28", after := #[], guard := none }) (v := ?_) rfl (Or.inl ⟨by rfl, ?_⟩) ?_; rotate_left; (focus (intro w hSw; (try dsimp only at hSw); go_simp; (try (with_reducible rfl)); done)); try simp only [Act.put, List.setIfInBounds_toArray, List.set_cons_zero, List.set_cons_succ])
              (refine wpL_calm (o := { dst := some 56, op := Go.Op.indexAddr 22 (Go.Operand.tmp 54) (Go.Operand.tmp 55), type := 0, pos := "law.go:28", after := #[{ on := 1, ground := Go.Ground.data }, { on := 2, ground := Go.Ground.data }], guard := none }) (v := ?_) rfl (Or.inl ⟨by rfl, ?_⟩) ?_; rotate_left; (focus (intro w hSw; (try dsimp only at hSw); go_simp; (try (with_reducible rfl)); done)); try simp only [Act.put, List.setIfInBounds_toArray, List.set_cons_zero, List.set_cons_succ])
              (refine wpL_calm (o := { dst := some 57, op := Go.Op.fieldAddr 51 (Go.Operand.tmp 56) 0, type := 0, pos := "law.go:28", after := #[{ on := 3, ground := Go.Ground.data }], guard := none }) (v := ?_) rfl (Or.inl ⟨by rfl, ?_⟩) ?_; rotate_left; (focus (intro w hSw; (try dsimp only at hSw); go_simp; (try (with_reducible rfl)); done)); try simp only [Act.put, List.setIfInBounds_toArray, List.set_cons_zero, List.set_cons_succ])
              (refine wpL_calm (o := { dst := some 58, op := Go.Op.load 3 (Go.Operand.tmp 57), type := 3, pos := "law.go:28", after := #[{ on := 4, ground := Go.Ground.data }], guard := none }) (v := ?_) rfl (Or.inl ⟨by rfl, ?_⟩) ?_; rotate_left; (focus (intro w hSw; (try dsimp only at hSw); go_simp; (try (with_reducible rfl)); done)); try simp only [Act.put, List.setIfInBounds_toArray, List.set_cons_zero, List.set_cons_succ])
              (refine wpL_calm (o := { dst := some 59, op := Go.Op.binOp Go.BinOp.mul 3 (Go.Operand.const (Go.Value.int Go.IntKind.i64 64)) (Go.Operand.tmp 58) 3, type := 3, pos := "law.go:28", after := #[{ on := 5, ground := Go.Ground.data }], guard := none }) (v := ?_) rfl (Or.inl ⟨by rfl, ?_⟩) ?_; rotate_left; (focus (intro w hSw; (try dsimp only at hSw); go_simp; (try (with_reducible rfl)); done)); try simp only [Act.put, List.setIfInBounds_toArray, List.set_cons_zero, List.set_cons_succ])
              (refine wpL_calm (o := { dst := some 60, op := Go.Op.move (Go.Operand.tmp 5), type := 3, pos := "law.go:28", after := #[], guard := none }) (v := ?_) rfl (Or.inl ⟨by rfl, ?_⟩) ?_; rotate_left; (focus (intro w hSw; (try dsimp only at hSw); go_simp; (try (with_reducible rfl)); done)); try simp only [Act.put, List.setIfInBounds_toArray, List.set_cons_zero, List.set_cons_succ])
              (refine wpL_calm (o := { dst := some 61, op := Go.Op.binOp Go.BinOp.add 3 (Go.Operand.tmp 59) (Go.Operand.tmp 60) 3, type := 3, pos := "law.go:28", after := #[{ on := 6, ground := Go.Ground.data }, { on := 7, ground := Go.Ground.data }], guard := none }) (v := ?_) rfl (Or.inl ⟨by rfl, ?_⟩) ?_; rotate_left; (focus (intro w hSw; (try dsimp only at hSw); go_simp; (try (with_reducible rfl)); done)); try simp only [Act.put, List.setIfInBounds_toArray, List.set_cons_zero, List.set_cons_succ])
              (refine wpL_calm (o := { dst := some 62, op := Go.Op.move (Go.Operand.tmp 0), type := 22, pos := "law.go:28", after := #[], guard := none }) (v := ?_) rfl (Or.inl ⟨by rfl, ?_⟩) ?_; rotate_left; (focus (intro w hSw; (try dsimp only at hSw); go_simp; (try (with_reducible rfl)); done)); try simp only [Act.put, List.setIfInBounds_toArray, List.set_cons_zero, List.set_cons_succ])
              (refine wpL_calm (o := { dst := some 63, op := Go.Op.move (Go.Operand.tmp 4), type := 3, pos := "law.go:28", after := #[], guard := none }) (v := ?_) rfl (Or.inl ⟨by rfl, ?_⟩) ?_; rotate_left; (focus (intro w hSw; (try dsimp only at hSw); go_simp; (try (with_reducible rfl)); done)); try simp only [Act.put, List.setIfInBounds_toArray, List.set_cons_zero, List.set_cons_succ])
              (refine wpL_calm (o := { dst := some 64, op := Go.Op.indexAddr 22 (Go.Operand.tmp 62) (Go.Operand.tmp 63), type := 0, pos := "law.go:28", after := #[{ on := 9, ground := Go.Ground.data }, { on := 10, ground := Go.Ground.data }], guard := none }) (v := ?_) rfl (Or.inl ⟨by rfl, ?_⟩) ?_; rotate_left; (focus (intro w hSw; (try dsimp only at hSw); go_simp; (try (with_reducible rfl)); done)); try simp only [Act.put, List.setIfInBounds_toArray, List.set_cons_zero, List.set_cons_succ])
              (refine wpL_calm (o := { dst := some 65, op := Go.Op.fieldAddr 51 (Go.Operand.tmp 64) 1, type := 0, pos := "law.go:28", after := #[{ on := 11, ground := Go.Ground.data }], guard := none }) (v := ?_) rfl (Or.inl ⟨by rfl, ?_⟩) ?_; rotate_left; (focus (intro w hSw; (try dsimp only at hSw); go_simp; (try (with_reducible rfl)); done)); try simp only [Act.put, List.setIfInBounds_toArray, List.set_cons_zero, List.set_cons_succ])
              (refine wpL_calm (o := { dst := some 66, op := Go.Op.load 9 (Go.Operand.tmp 65), type := 9, pos := "law.go:28", after := #[{ on := 12, ground := Go.Ground.data }], guard := none }) (v := ?_) rfl (Or.inl ⟨by rfl, ?_⟩) ?_; rotate_left; (focus (intro w hSw; (try dsimp only at hSw); go_simp; (try (with_reducible rfl)); done)); try simp only [Act.put, List.setIfInBounds_toArray, List.set_cons_zero, List.set_cons_succ])
              (refine wpL_calm (o := { dst := some 67, op := Go.Op.move (Go.Operand.tmp 5), type := 3, pos := "law.go:28", after := #[], guard := none }) (v := ?_) rfl (Or.inl ⟨by rfl, ?_⟩) ?_; rotate_left; (focus (intro w hSw; (try dsimp only at hSw); go_simp; (try (with_reducible rfl)); done)); try simp only [Act.put, List.setIfInBounds_toArray, List.set_cons_zero, List.set_cons_succ])
              (refine wpL_calm (o := { dst := some 68, op := Go.Op.index 9 (Go.Operand.tmp 66) (Go.Operand.tmp 67), type := 5, pos := "law.go:28", after := #[{ on := 13, ground := Go.Ground.data }, { on := 14, ground := Go.Ground.data }], guard := none }) (v := ?_) rfl (Or.inl ⟨by rfl, ?_⟩) ?_; rotate_left; (focus (intro w hSw; (try dsimp only at hSw); go_simp; (try (with_reducible rfl)); done)); try simp only [Act.put, List.setIfInBounds_toArray, List.set_cons_zero, List.set_cons_succ])
              (refine wpL_calm (o := { dst := some 69, op := Go.Op.indexAddr 43 (Go.Operand.tmp 53) (Go.Operand.tmp 61), type := 0, pos := "law.go:28", after := #[{ on := 0, ground := Go.Ground.data }, { on := 8, ground := Go.Ground.data }, { on := 0, ground := Go.Ground.phase }, { on := 1, ground := Go.Ground.phase }, { on := 2, ground := Go.Ground.phase }, { on := 3, ground := Go.Ground.phase }, { on := 4, ground := Go.Ground.phase }, { on := 5, ground := Go.Ground.phase }, { on := 6, ground := Go.Ground.phase }, { on := 7, ground := Go.Ground.phase }, { on := 8, ground := Go.Ground.phase }, { on := 9, ground := Go.Ground.phase }, { on := 10, ground := Go.Ground.phase }, { on := 11, ground := Go.Ground.phase }, { on := 12, ground := Go.Ground.phase }, { on := 13, ground := Go.Ground.phase }, { on := 14, ground := Go.Ground.phase }, { on := 15, ground := Go.Ground.phase }], guard := none }) (v := ?_) rfl (Or.inl ⟨by rfl, ?_⟩) ?_; rotate_left; (focus (intro w hSw; (try dsimp only at hSw); go_simp; (try (with_reducible rfl)); done)); try simp only [Act.put, List.setIfInBounds_toArray, List.set_cons_zero, List.set_cons_succ])
              refine wpL_loud0 (o := { dst := none, op := Go.Op.store 5 (Go.Operand.tmp 69) (Go.Operand.tmp 68), type := 0, pos := "law.go:28", after := #[{ on := 16, ground := Go.Ground.data }, { on := 15, ground := Go.Ground.data }, { on := 0, ground := Go.Ground.phase }, { on := 1, ground := Go.Ground.phase }, { on := 2, ground := Go.Ground.phase }, { on := 3, ground := Go.Ground.phase }, { on := 4, ground := Go.Ground.phase }, { on := 5, ground := Go.Ground.phase }, { on := 6, ground := Go.Ground.phase }, { on := 7, ground := Go.Ground.phase }, { on := 8, ground := Go.Ground.phase }, { on := 9, ground := Go.Ground.phase }, { on := 10, ground := Go.Ground.phase }, { on := 11, ground := Go.Ground.phase }, { on := 12, ground := Go.Ground.phase }, { on := 13, ground := Go.Ground.phase }, { on := 14, ground := Go.Ground.phase }, { on := 15, ground := Go.Ground.phase }], guard := none }) rfl (by kernel_rfl) (fun K hK => ?_)
              go_simp
              refine hK.out _ _ ?_
              clear hK K
              try simp only [Act.put, List.setIfInBounds_toArray, List.set_cons_zero, List.set_cons_succ]
              refine wpL_nil ?_
              refine NoPanic.normal ?_
              have HB3 : Hid (Below gb w (w2.drew.setCell ⟨gb, 64 * k + m, none⟩ (.int .u8 y))) := Lib.hid (HB2.out.drew.setCell (p := ⟨gb, 64 * k + m, none⟩) (Nat.le_refl _) _)
              go_wp2_with fail
              go_roundw
              case rel => exact ⟨m + 1, by go_num, by omega, HRy, HB3⟩
              case measure => simp [intOf]; omega
            · as_aux_lemma =>
              have hlsi : ¬ (m : Int) < (s.size : Int) := by omega
              have HR9 := Lib.hid (HRn.out (by omega))
              go_wp2_with fail
              go_roundw
              case rel => exact ⟨m + 1, by go_num, by omega, HR9, HB2⟩
              case measure => simp [intOf]; omega
          · as_aux_lemma =>
            have hmi : ¬ (m : Int) < 64 := by omega
            obtain rfl : m = 64 := by omega
            go_wp2_with fail
            go_roundw
            case rel => exact ⟨i + 1, by go_num, by omega, by omega, Lib.hid (by rw [HST.out]; exact HRm.out), HBm⟩
            case measure => simp [intOf]; omega
      · as_aux_lemma =>
        have HST : Hid ((L.take (i + 1)).foldl chF (fun _ => 0) = F) := Lib.hid (by rw [HST.out]; unfold chF; rw [if_neg hx])
        rcases (show x < 0 ∨ (¬ x < 0 ∧ 287 < x) by omega) with x1 | ⟨x1, x2⟩
        all_goals as_aux_lemma =>
          go_wp2_with fail
          go_roundw
          case rel => exact ⟨i + 1, by go_num, by omega, by omega, Lib.hid (by rw [HST.out]; exact HR.out), HB⟩
          case measure => simp [intOf]; omega
    · as_aux_lemma =>
      have HE : Hid (BRow wr gb (imgF L)) := Lib.hid (by
        unfold imgF
        have h : L.take i = L.take 40 := by
          rcases Nat.lt_or_ge i 40 with h | h
          · have : L.length = i := by rw [hnn.out]; omega
            rw [List.take_of_length_le (by omega), List.take_of_length_le (by omega)]
          · rw [show i = 40 by omega]
        rw [← h]; exact HR.out)
      have hcv := conv_row (P := Try.prog) (cap := 18432) (W := 18432) (dst := 9) Try.underlying43 Try.underlying5 Try.underlying9 HE.out (Nat.le_refl _)
      rw [show (⟨((List.range 18432).map (imgF L)).toArray⟩ : ByteArray) = imgT L from rfl] at hcv
      obtain ⟨T, HT⟩ : ∃ T, Hid (imgT L = T) := ⟨_, Lib.hid rfl⟩
      rw [HT.out] at hcv
      clear HE HR
      rcases (show ¬ (i : Int) < (n : Int) ∨ ((i : Int) < (n : Int) ∧ ¬ (i : Int) < 40) by omega) with g1 | ⟨g1, g2⟩
      all_goals as_aux_lemma =>
        go_wp2_with fail
        go_ret
        rw [HT.out]
        exact ⟨rfl, HB.out⟩
end Go.Proofs.Ytapmnacggpcffaa
