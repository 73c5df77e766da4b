/- Package dev (cellaret): any Write, Tamper, Read; a crash of any loss. -/
import Derived.Test.YtjmginkkjkbpoaaDvE
import Derived.Test.YtjmginkkjkbpoaaLinB
namespace Go.Proofs.Ytjmginkkjkbpoaa
open Go.RowKit Go.Deep
set_option linter.unusedVariables false
set_option linter.unusedSimpArgs false
/-- Why a block becomes no such text. -/
def txE (n : Nat) (i : Int) (s : ByteArray) : Int := if i < 0 ∨ (n : Int) ≤ i then 3 else if s.size = 64 then 0 else 6
theorem txE_ok {n : Nat} {i : Nat} {s : ByteArray} (hi : i < n) (hs : s.size = 64) : txE n (i : Int) s = 0 := by
  unfold txE
  rw [if_neg (by omega), if_pos hs]
theorem txE_form {n : Nat} {i : Nat} {s : ByteArray} (hi : i < n) (hs : s.size ≠ 64) : txE n (i : Int) s = 6 := by
  unfold txE
  rw [if_neg (by omega), if_neg hs]
theorem txE_out {n : Nat} {i : Int} {s : ByteArray} (hi : i < 0 ∨ (n : Int) ≤ i) : txE n i s = 3 := by
  unfold txE
  rw [if_pos hi]
def tmpB (n : Nat) (bs : Nat → Bk) (i : Int) (s : ByteArray) : Nat → Bk := if txE n i s = 0 then upB bs i.toNat ⟨s, s, (bs i.toNat).wr⟩ else bs
def wrtB (n : Nat) (bs : Nat → Bk) (i : Int) (s : ByteArray) : Nat → Bk := if txE n i s = 0 then upB bs i.toNat ⟨s, (bs i.toNat).safe, true⟩ else bs
theorem refusedText_any (g rb n : Nat) (bs : Nat → Bk) (i : Int) (s : ByteArray) (w : World) (hD : DvAt w g rb n bs) : Calls Try.prog 66 #[.pointer (some ⟨g, 0, none⟩), .int .i64 i, .string s] w fun e w' => e = .returned (.int .i64 (txE n i s)) ∧ w = w' := by
  by_cases ho : i < 0 ∨ (n : Int) ≤ i
  · have CR := Lib.hid (refused_outD g rb n bs i w hD ho)
    rw [txE_out ho]
    clear ho hD
    go_enter Try.func66, Try.ntmps66
    go_wp2_with fail
    refine (CR.out).mono ?_
    rintro e w' ⟨rfl, rfl⟩
    go_wp2_with fail
    go_ret
    exact ⟨rfl, rfl⟩
  · obtain ⟨k, rfl⟩ : ∃ k : Nat, i = (k : Int) := ⟨i.toNat, by omega⟩
    have hk : k < n := by omega
    have CR := Lib.hid (refused_okD g rb n k bs w hD hk)
    clear ho hD
    by_cases hs : s.size = 64
    · rw [txE_ok hk hs]
      have ht : ((s.size : Int) == 64) = true := by rw [beq_iff_eq]; omega
      have ht2 : ((s.size : Int) != 64) = false := by simp; omega
      clear hs hk
      go_enter Try.func66, Try.ntmps66
      go_wp2_with fail
      refine (CR.out).mono ?_
      rintro e w' ⟨rfl, rfl⟩
      go_wp2_with fail
      go_ret
      exact ⟨rfl, rfl⟩
    · rw [txE_form hk hs]
      have ht : ((s.size : Int) == 64) = false := by rw [beq_eq_false_iff_ne]; omega
      have ht2 : ((s.size : Int) != 64) = true := by simp; omega
      clear hs hk
      go_enter Try.func66, Try.ntmps66
      go_wp2_with fail
      refine (CR.out).mono ?_
      rintro e w' ⟨rfl, rfl⟩
      go_wp2_with fail
      go_ret
      exact ⟨rfl, rfl⟩
theorem DvAt.tamp {w : World} {g rb n : Nat} {bs : Nat → Bk} (h : DvAt w g rb n bs) (i : Nat) (hi : i < n) (s : ByteArray) : DvAt ((w.setCell ⟨rb, i * 3, none⟩ (.string s)).setCell ⟨rb, i * 3 + 1, none⟩ (.string s)) g rb n (upB bs i ⟨s, s, (bs i).wr⟩) := by
  refine ⟨?_, ?_, h.ne⟩
  · rw [World.cell?_setCell_other _ _ _ _ (by intro e; simp only [Addr.mk.injEq] at e; exact h.ne e.1.symm), World.cell?_setCell_other _ _ _ _ (by intro e; simp only [Addr.mk.injEq] at e; exact h.ne e.1.symm)]
    exact h.hd
  · refine World.rowIs.congr (World.rowIs.set (World.rowIs.set h.row (i * 3) (.string s)) (i * 3 + 1) (.string s)) fun j hj => ?_
    unfold dvF upB
    by_cases e2 : j = i * 3 + 1
    · rw [if_pos e2, show j / 3 = i by omega, show j % 3 = 1 by omega, if_pos rfl]; rfl
    · rw [if_neg e2]
      by_cases e0 : j = i * 3
      · rw [if_pos e0, show j / 3 = i by omega, show j % 3 = 0 by omega, if_pos rfl]; rfl
      · rw [if_neg e0]
        by_cases e1 : j / 3 = i
        · rw [show j % 3 = 2 by omega, e1, if_pos rfl]; rfl
        · rw [if_neg e1]
set_option maxRecDepth 100000 in
set_option maxHeartbeats 1000000 in
theorem tamper_any (g rb n : Nat) (bs : Nat → Bk) (i : Int) (s : ByteArray) (w : World) (hD : DvAt w g rb n bs) : Calls Try.prog 50 #[.pointer (some ⟨g, 0, none⟩), .int .i64 i, .string s] w fun e w' => e = .returned (.int .i64 (txE n i s)) ∧ DvAt w' g rb n (tmpB n bs i s) ∧ Kp rb w w' := by
  have CT := Lib.hid (refusedText_any g rb n bs i s w hD)
  unfold tmpB
  by_cases h0 : txE n i s = 0
  · have hin : ¬ (i < 0 ∨ (n : Int) ≤ i) := fun h => by rw [txE_out h] at h0; cases h0
    obtain ⟨k, rfl⟩ : ∃ k : Nat, i = (k : Int) := ⟨i.toNat, by omega⟩
    rw [if_pos h0, h0, show ((k : Int)).toNat = k from Int.toNat_natCast k]
    rw [h0] at CT
    have hi : k < n := by omega
    have hc := hD.hd
    have h1 : (k : Int) < (n : Int) := by omega
    have c0 := hD.now k hi
    have c2 := hD.safe k hi
    have f0 := World.rowIs.frozen hD.row (k * 3)
    have f2 := World.rowIs.frozen hD.row (k * 3 + 1)
    have HD := Lib.hid hD
    clear hD h0 hin
    go_enter Try.func50, Try.ntmps50
    go_wp2_with fail
    refine (CT.out).mono ?_
    rintro e w' ⟨rfl, rfl⟩
    go_upto_region 4 with fail
    refine wp_region_lin (S := (fun w' => w'.cell? ⟨g, 0, none⟩ = some (.slice (some ⟨rb, 0, none⟩) n n))) [(0, true), (1, true), (2, true), (3, true), (4, true), (5, true), (6, true), (7, true), (8, true), (9, true), (10, true), (11, true), (12, true), (13, true), (14, false), (15, true), (16, true), (17, false)] (by kernel_rfl) (by kernel_rfl) rfl (by kernel_rfl) ?_ (fun hHeld => ?_)
    · (try dsimp only); exact hc
    refine wpL_calm (o := { dst := some 15, op := Go.Op.move (Go.Operand.tmp 0), type := 44, pos := "dev.go:92", after := #[], guard := none }) (v := ?_) rfl (Or.inl ⟨by rfl, ?_⟩) ?_; rotate_left; (focus (intro w hSw; (try dsimp only at hSw); go_simp; (try (with_reducible rfl)); done)); try simp only [Act.put, List.setIfInBounds_toArray, List.set_cons_zero, List.set_cons_succ]
    refine wpL_calm (o := { dst := some 16, op := Go.Op.nilCheck (Go.Operand.tmp 15), type := 0, pos := "dev.go:92", after := #[{ on := 0, ground := Go.Ground.data }], guard := none }) (v := ?_) rfl (Or.inl ⟨by rfl, ?_⟩) ?_; rotate_left; (focus (intro w hSw; (try dsimp only at hSw); go_simp; (try (with_reducible rfl)); done)); try simp only [Act.put, List.setIfInBounds_toArray, List.set_cons_zero, List.set_cons_succ]
    refine wpL_calm (o := { dst := some 17, op := Go.Op.fieldAddr 94 (Go.Operand.tmp 16) 0, type := 0, pos := "dev.go:92", after := #[{ on := 1, ground := Go.Ground.data }], guard := none }) (v := ?_) rfl (Or.inl ⟨by rfl, ?_⟩) ?_; rotate_left; (focus (intro w hSw; (try dsimp only at hSw); go_simp; (try (with_reducible rfl)); done)); try simp only [Act.put, List.setIfInBounds_toArray, List.set_cons_zero, List.set_cons_succ]
    refine wpL_calm (o := { dst := some 18, op := Go.Op.load 92 (Go.Operand.tmp 17), type := 92, pos := "dev.go:92", after := #[{ on := 2, ground := Go.Ground.data }], guard := none }) (v := ?_) rfl (Or.inl ⟨by rfl, ?_⟩) ?_; rotate_left; (focus (intro w hSw; (try dsimp only at hSw); go_simp; (try (with_reducible rfl)); done)); try simp only [Act.put, List.setIfInBounds_toArray, List.set_cons_zero, List.set_cons_succ]
    refine wpL_calm (o := { dst := some 19, op := Go.Op.move (Go.Operand.tmp 1), type := 3, pos := "dev.go:92", after := #[], guard := none }) (v := ?_) rfl (Or.inl ⟨by rfl, ?_⟩) ?_; rotate_left; (focus (intro w hSw; (try dsimp only at hSw); go_simp; (try (with_reducible rfl)); done)); try simp only [Act.put, List.setIfInBounds_toArray, List.set_cons_zero, List.set_cons_succ]
    refine wpL_calm (o := { dst := some 20, op := Go.Op.move (Go.Operand.tmp 0), type := 44, pos := "dev.go:92", after := #[], guard := none }) (v := ?_) rfl (Or.inl ⟨by rfl, ?_⟩) ?_; rotate_left; (focus (intro w hSw; (try dsimp only at hSw); go_simp; (try (with_reducible rfl)); done)); try simp only [Act.put, List.setIfInBounds_toArray, List.set_cons_zero, List.set_cons_succ]
    refine wpL_calm (o := { dst := some 21, op := Go.Op.nilCheck (Go.Operand.tmp 20), type := 0, pos := "dev.go:92", after := #[{ on := 5, ground := Go.Ground.data }], guard := none }) (v := ?_) rfl (Or.inl ⟨by rfl, ?_⟩) ?_; rotate_left; (focus (intro w hSw; (try dsimp only at hSw); go_simp; (try (with_reducible rfl)); done)); try simp only [Act.put, List.setIfInBounds_toArray, List.set_cons_zero, List.set_cons_succ]
    refine wpL_calm (o := { dst := some 22, op := Go.Op.fieldAddr 94 (Go.Operand.tmp 21) 0, type := 0, pos := "dev.go:92", after := #[{ on := 6, ground := Go.Ground.data }], guard := none }) (v := ?_) rfl (Or.inl ⟨by rfl, ?_⟩) ?_; rotate_left; (focus (intro w hSw; (try dsimp only at hSw); go_simp; (try (with_reducible rfl)); done)); try simp only [Act.put, List.setIfInBounds_toArray, List.set_cons_zero, List.set_cons_succ]
    refine wpL_calm (o := { dst := some 23, op := Go.Op.load 92 (Go.Operand.tmp 22), type := 92, pos := "dev.go:92", after := #[{ on := 7, ground := Go.Ground.data }], guard := none }) (v := ?_) rfl (Or.inl ⟨by rfl, ?_⟩) ?_; rotate_left; (focus (intro w hSw; (try dsimp only at hSw); go_simp; (try (with_reducible rfl)); done)); try simp only [Act.put, List.setIfInBounds_toArray, List.set_cons_zero, List.set_cons_succ]
    refine wpL_calm (o := { dst := some 24, op := Go.Op.move (Go.Operand.tmp 1), type := 3, pos := "dev.go:92", after := #[{ on := 14, ground := Go.Ground.gcOnly Go.Departure.lateStores }], guard := none }) (v := ?_) rfl (Or.inl ⟨by rfl, ?_⟩) ?_; rotate_left; (focus (intro w hSw; (try dsimp only at hSw); go_simp; (try (with_reducible rfl)); done)); try simp only [Act.put, List.setIfInBounds_toArray, List.set_cons_zero, List.set_cons_succ]
    refine wpL_calm (o := { dst := some 25, op := Go.Op.move (Go.Operand.tmp 2), type := 9, pos := "dev.go:92", after := #[], guard := none }) (v := ?_) rfl (Or.inl ⟨by rfl, ?_⟩) ?_; rotate_left; (focus (intro w hSw; (try dsimp only at hSw); go_simp; (try (with_reducible rfl)); done)); try simp only [Act.put, List.setIfInBounds_toArray, List.set_cons_zero, List.set_cons_succ]
    refine wpL_calm (o := { dst := some 26, op := Go.Op.move (Go.Operand.tmp 2), type := 9, pos := "dev.go:92", after := #[{ on := 14, ground := Go.Ground.gcOnly Go.Departure.lateStores }], guard := none }) (v := ?_) rfl (Or.inl ⟨by rfl, ?_⟩) ?_; rotate_left; (focus (intro w hSw; (try dsimp only at hSw); go_simp; (try (with_reducible rfl)); done)); try simp only [Act.put, List.setIfInBounds_toArray, List.set_cons_zero, List.set_cons_succ]
    refine wpL_calm (o := { dst := some 27, op := Go.Op.indexAddr 92 (Go.Operand.tmp 18) (Go.Operand.tmp 19), type := 0, pos := "dev.go:92", after := #[{ on := 3, ground := Go.Ground.data }, { on := 4, ground := Go.Ground.data }, { on := 0, ground := Go.Ground.phase }, { on := 1, ground := Go.Ground.phase }, { on := 2, ground := Go.Ground.phase }, { on := 3, ground := Go.Ground.phase }, { on := 4, ground := Go.Ground.phase }, { on := 5, ground := Go.Ground.textOnly Go.Departure.lateStores }, { on := 6, ground := Go.Ground.textOnly Go.Departure.lateStoresUnsure }, { on := 7, ground := Go.Ground.textOnly Go.Departure.lateStoresUnsure }, { on := 8, ground := Go.Ground.phase }, { on := 9, ground := Go.Ground.textOnly Go.Departure.lateStores }, { on := 10, ground := Go.Ground.phase }, { on := 11, ground := Go.Ground.textOnly Go.Departure.lateStores }], guard := none }) (v := ?_) rfl (Or.inl ⟨by rfl, ?_⟩) ?_; rotate_left; (focus (intro w hSw; (try dsimp only at hSw); go_simp; (try (with_reducible rfl)); done)); try simp only [Act.put, List.setIfInBounds_toArray, List.set_cons_zero, List.set_cons_succ]
    refine wpL_calm (o := { dst := some 28, op := Go.Op.fieldAddr 91 (Go.Operand.tmp 27) 0, type := 0, pos := "dev.go:92", after := #[{ on := 12, ground := Go.Ground.data }, { on := 0, ground := Go.Ground.phase }, { on := 1, ground := Go.Ground.phase }, { on := 2, ground := Go.Ground.phase }, { on := 3, ground := Go.Ground.phase }, { on := 4, ground := Go.Ground.phase }, { on := 5, ground := Go.Ground.textOnly Go.Departure.lateStores }, { on := 6, ground := Go.Ground.textOnly Go.Departure.lateStoresUnsure }, { on := 7, ground := Go.Ground.textOnly Go.Departure.lateStoresUnsure }, { on := 8, ground := Go.Ground.phase }, { on := 9, ground := Go.Ground.textOnly Go.Departure.lateStores }, { on := 10, ground := Go.Ground.phase }, { on := 11, ground := Go.Ground.textOnly Go.Departure.lateStores }], guard := none }) (v := ?_) rfl (Or.inl ⟨by rfl, ?_⟩) ?_; rotate_left; (focus (intro w hSw; (try dsimp only at hSw); go_simp; (try (with_reducible rfl)); done)); try simp only [Act.put, List.setIfInBounds_toArray, List.set_cons_zero, List.set_cons_succ]
    refine wpL_loud1 (o := { dst := none, op := Go.Op.store 9 (Go.Operand.tmp 28) (Go.Operand.tmp 25), type := 0, pos := "dev.go:92", after := #[{ on := 13, ground := Go.Ground.data }, { on := 10, ground := Go.Ground.data }, { on := 0, ground := Go.Ground.phase }, { on := 1, ground := Go.Ground.phase }, { on := 2, ground := Go.Ground.phase }, { on := 3, ground := Go.Ground.phase }, { on := 4, ground := Go.Ground.phase }, { on := 5, ground := Go.Ground.textOnly Go.Departure.lateStores }, { on := 6, ground := Go.Ground.textOnly Go.Departure.lateStoresUnsure }, { on := 7, ground := Go.Ground.textOnly Go.Departure.lateStoresUnsure }, { on := 8, ground := Go.Ground.phase }, { on := 9, ground := Go.Ground.textOnly Go.Departure.lateStores }, { on := 10, ground := Go.Ground.phase }, { on := 11, ground := Go.Ground.textOnly Go.Departure.lateStores }], guard := none }) rfl (fun K hK => ?_)
    go_simp
    refine hK.out _ _ ?_ (fun hHeld => ?_)
    · (try dsimp only); exact (World.cell?_setCell_other _ _ _ _ (by intro e; simp only [Addr.mk.injEq] at e; exact HD.out.ne e.1.symm)).trans HD.out.hd
    clear hK K
    try simp only [Act.put, List.setIfInBounds_toArray, List.set_cons_zero, List.set_cons_succ]
    refine wpL_calm (o := { dst := some 29, op := Go.Op.indexAddr 92 (Go.Operand.tmp 23) (Go.Operand.tmp 24), type := 0, pos := "dev.go:92", after := #[{ on := 8, ground := Go.Ground.data }, { on := 9, ground := Go.Ground.data }, { on := 0, ground := Go.Ground.phase }, { on := 1, ground := Go.Ground.phase }, { on := 2, ground := Go.Ground.phase }, { on := 3, ground := Go.Ground.phase }, { on := 4, ground := Go.Ground.phase }, { on := 5, ground := Go.Ground.phase }, { on := 6, ground := Go.Ground.phase }, { on := 7, ground := Go.Ground.phase }, { on := 8, ground := Go.Ground.phase }, { on := 9, ground := Go.Ground.phase }, { on := 10, ground := Go.Ground.phase }, { on := 11, ground := Go.Ground.phase }, { on := 12, ground := Go.Ground.phase }, { on := 13, ground := Go.Ground.phase }, { on := 14, ground := Go.Ground.phase }], guard := none }) (v := ?_) rfl (Or.inl ⟨by rfl, ?_⟩) ?_; rotate_left; (focus (intro w hSw; (try dsimp only at hSw); go_simp; (try (with_reducible rfl)); done)); try simp only [Act.put, List.setIfInBounds_toArray, List.set_cons_zero, List.set_cons_succ]
    refine wpL_calm (o := { dst := some 30, op := Go.Op.fieldAddr 91 (Go.Operand.tmp 29) 1, type := 0, pos := "dev.go:92", after := #[{ on := 15, ground := Go.Ground.data }, { on := 0, ground := Go.Ground.phase }, { on := 1, ground := Go.Ground.phase }, { on := 2, ground := Go.Ground.phase }, { on := 3, ground := Go.Ground.phase }, { on := 4, ground := Go.Ground.phase }, { on := 5, ground := Go.Ground.phase }, { on := 6, ground := Go.Ground.phase }, { on := 7, ground := Go.Ground.phase }, { on := 8, ground := Go.Ground.phase }, { on := 9, ground := Go.Ground.phase }, { on := 10, ground := Go.Ground.phase }, { on := 11, ground := Go.Ground.phase }, { on := 12, ground := Go.Ground.phase }, { on := 13, ground := Go.Ground.phase }, { on := 14, ground := Go.Ground.phase }], guard := none }) (v := ?_) rfl (Or.inl ⟨by rfl, ?_⟩) ?_; rotate_left; (focus (intro w hSw; (try dsimp only at hSw); go_simp; (try (with_reducible rfl)); done)); try simp only [Act.put, List.setIfInBounds_toArray, List.set_cons_zero, List.set_cons_succ]
    refine wpL_loud0 (o := { dst := none, op := Go.Op.store 9 (Go.Operand.tmp 30) (Go.Operand.tmp 26), type := 0, pos := "dev.go:92", after := #[{ on := 16, ground := Go.Ground.data }, { on := 11, ground := Go.Ground.data }, { on := 14, ground := Go.Ground.chain }, { on := 0, ground := Go.Ground.phase }, { on := 1, ground := Go.Ground.phase }, { on := 2, ground := Go.Ground.phase }, { on := 3, ground := Go.Ground.phase }, { on := 4, ground := Go.Ground.phase }, { on := 5, ground := Go.Ground.phase }, { on := 6, ground := Go.Ground.phase }, { on := 7, ground := Go.Ground.phase }, { on := 8, ground := Go.Ground.phase }, { on := 9, ground := Go.Ground.phase }, { on := 10, ground := Go.Ground.phase }, { on := 11, ground := Go.Ground.phase }, { on := 12, ground := Go.Ground.phase }, { on := 13, ground := Go.Ground.phase }, { on := 14, ground := Go.Ground.phase }], guard := none }) rfl (by kernel_rfl) (fun K hK => ?_)
    go_simp
    refine hK.out _ _ ?_
    clear hK K
    try simp only [Act.put, List.setIfInBounds_toArray, List.set_cons_zero, List.set_cons_succ]
    refine wpL_nil ?_
    refine NoPanic.normal ?_
    go_wp2_with fail
    go_ret
    refine ⟨rfl, ?_, ?_⟩
    · first | exact HD.out.tamp k hi s | exact (HD.out.tamp k hi s).drew | exact (HD.out.tamp k hi s).drew.drew
    · first | exact (((Kp.refl rb w).setCell (k * 3) _).setCell (k * 3 + 1) _) | exact (((Kp.refl rb w).setCell (k * 3) _).setCell (k * 3 + 1) _).drew | exact (((Kp.refl rb w).setCell (k * 3) _).setCell (k * 3 + 1) _).drew.drew
  · rw [if_neg h0]
    have hne : (txE n i s == 0) = false := beq_eq_false_iff_ne.2 h0
    have hne2 : (txE n i s != 0) = true := by simpa using h0
    have HD := Lib.hid hD
    clear hD h0
    generalize txE n i s = z at *
    go_enter Try.func50, Try.ntmps50
    go_wp2_with fail
    refine (CT.out).mono ?_
    rintro e w' ⟨rfl, rfl⟩
    go_wp2_with fail
    go_ret
    exact ⟨rfl, HD.out, Kp.refl _ _⟩
set_option maxRecDepth 100000 in
theorem write_any (g rb n : Nat) (bs : Nat → Bk) (i : Int) (s : ByteArray) (w : World) (hD : DvAt w g rb n bs) : Calls Try.prog 47 #[.pointer (some ⟨g, 0, none⟩), .int .i64 i, .string s] w fun e w' => e = .returned (.int .i64 (txE n i s)) ∧ DvAt w' g rb n (wrtB n bs i s) ∧ Kp rb w w' := by
  unfold wrtB
  by_cases h0 : txE n i s = 0
  · have hin : ¬ (i < 0 ∨ (n : Int) ≤ i) := fun h => by rw [txE_out h] at h0; cases h0
    obtain ⟨k, rfl⟩ : ∃ k : Nat, i = (k : Int) := ⟨i.toNat, by omega⟩
    rw [if_pos h0, h0, show ((k : Int)).toNat = k from Int.toNat_natCast k]
    have hs : s.size = 64 := by
      by_cases hs : s.size = 64
      · exact hs
      · rw [txE_form (by omega) hs] at h0; cases h0
    exact write_okD g rb n k bs s w hD (by omega) hs
  · rw [if_neg h0]
    have CT := Lib.hid (refusedText_any g rb n bs i s w hD)
    have hne : (txE n i s == 0) = false := beq_eq_false_iff_ne.2 h0
    have hne2 : (txE n i s != 0) = true := by simpa using h0
    have HD := Lib.hid hD
    clear hD h0
    generalize txE n i s = z at *
    go_enter Try.func47, Try.ntmps47
    go_wp2_with fail
    refine (CT.out).mono ?_
    rintro e w' ⟨rfl, rfl⟩
    go_wp2_with fail
    go_ret
    exact ⟨rfl, HD.out, Kp.refl _ _⟩
/-- What a device keeps that crashes. -/
structure LsV where
  ao : Option Addr
  kl : Nat
  kc : Nat
  keep : Nat → Bool
  torn : Int
  bytes : Int
def LsV.cells (L : LsV) : Array Value := #[.slice L.ao L.kl L.kc, .int .i64 L.torn, .int .i64 L.bytes]
def LsAt (w : World) (L : LsV) : Prop := L.kl = 0 ∨ ∃ kb ko, L.ao = some ⟨kb, ko, none⟩ ∧ kb < w.heap.size ∧ L.kl ≤ 140737488351232 ∧ ∀ j, j < L.kl → w.cell? ⟨kb, ko + j, none⟩ = some (.bool (L.keep j))
theorem LsAt.below {w w' : World} {L : LsV} {B : Nat} (h : LsAt w L) (hL : ∀ kb ko, L.ao = some ⟨kb, ko, none⟩ → L.kl ≠ 0 → kb < B) (hb : Below B w w') : LsAt w' L := by
  rcases h with h | ⟨kb, ko, h1, h2, h3, h4⟩
  · exact Or.inl h
  · by_cases h0 : L.kl = 0
    · exact Or.inl h0
    · have hkb := hL kb ko h1 h0
      exact Or.inr ⟨kb, ko, h1, Nat.lt_of_lt_of_le h2 hb.size, h3, fun j hj => (hb.cell (p := ⟨kb, ko + j, none⟩) hkb).trans (h4 j hj)⟩
def nB (x : Int) : Nat := (min (max x 0) 64).toNat
def lfT (L : LsV) (i : Nat) (b : Bk) : ByteArray := if i % 64 < L.kl ∧ L.keep (i % 64) = true then b.now else if (i : Int) = L.torn then b.now.extract 0 (nB L.bytes) ++ b.safe.extract (nB L.bytes) b.safe.size else b.safe
theorem lfT_size (L : LsV) (i : Nat) (b : Bk) (h1 : b.now.size = 64) (h2 : b.safe.size = 64) : (lfT L i b).size = 64 := by
  unfold lfT
  split
  · exact h1
  · split
    · rw [ByteArray.size_append, ByteArray.size_extract, ByteArray.size_extract, h1, h2]
      have : nB L.bytes ≤ 64 := by unfold nB; omega
      omega
    · exact h2
end Go.Proofs.Ytjmginkkjkbpoaa
