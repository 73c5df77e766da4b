/- Package dev (cellaret): a crash of any loss. -/
import Derived.Test.YtjmginkkjkbpoaaRiA
namespace Go.Proofs.Ytjmginkkjkbpoaa
open Go.RowKit Go.Deep
set_option linter.unusedVariables false
set_option linter.unusedSimpArgs false
theorem LsAt.alloc {w : World} {L : LsV} (h : LsAt w L) (o : Obj) : LsAt (w.alloc o) L :=
  h.below (B := w.heap.size) (fun kb ko he h0 => by
    rcases h with h | ⟨kb', ko', h1, h2, _⟩
    · exact absurd h h0
    · rw [h1] at he; injection he with he; injection he with e1; subst e1; exact h2) ((Below.refl _ _).alloc (Nat.le_refl _) o)
set_option maxRecDepth 100000 in
set_option maxHeartbeats 2000000 in
theorem left_any (g rb n i : Nat) (bs : Nat → Bk) (L : LsV) (w : World) (hD : DvAt w g rb n bs) (hi : i < n) (hn : n ≤ 512) (hL : LsAt w L) (hs1 : (bs i).now.size = 64) (hs2 : (bs i).safe.size = 64) : Calls Try.prog 63 #[.agg L.cells, .int .i64 (i : Int), .pointer (some ⟨rb, i * 3, none⟩)] w fun e w' => e = .returned (.string (lfT L i (bs i))) ∧ Below w.heap.size w w' := by
  obtain ⟨w1, HW, HB, hx⟩ : ∃ w1, Hid (w.alloc (.cells #[.slice L.ao L.kl L.kc, .int .i64 L.torn, .int .i64 L.bytes] 32) = w1) ∧ Hid (Below w.heap.size w w1) ∧ w1.heap[w.heap.size]? = some (.cells #[.slice L.ao L.kl L.kc, .int .i64 L.torn, .int .i64 L.bytes] 32 (0, 0)) := ⟨_, Lib.hid rfl, Lib.hid ((Below.refl _ _).alloc (Nat.le_refl _) _), heap_alloc_new _ _⟩
  have hL1 : LsAt w1 L := by rw [← HW.out]; exact hL.alloc _
  have hD1 : DvAt w1 g rb n bs := hD.below HB.out
  have c0 := hD1.now i hi
  have c1 := hD1.safe i hi
  have x0 := cell_of_row _ _ 0 _ _ _ hx
  have x1 := cell_of_row _ _ 1 _ _ _ hx
  have x2 := cell_of_row _ _ 2 _ _ _ hx
  have HX : Hid (∀ q, (if i % 64 < L.kl ∧ L.keep (i % 64) = true then (bs i).now else if (i : Int) = L.torn then (bs i).now.extract 0 (nB L.bytes) ++ (bs i).safe.extract (nB L.bytes) (bs i).safe.size else (bs i).safe) = q → lfT L i (bs i) = q) := Lib.hid (fun q h => h)
  generalize (bs i).now = now at *
  generalize (bs i).safe = safe at *
  obtain ⟨km, hkm⟩ : ∃ km, Hid (i % 64 = km) := ⟨_, Lib.hid rfl⟩
  rw [hkm.out] at HX
  have hm : ((i : Int)).tmod 64 = (km : Int) := by rw [Int.tmod_eq_emod_of_nonneg (by omega)]; have := hkm.out; omega
  have hm2 : ((i : Int)) % 64 = (km : Int) := by have := hkm.out; omega
  have hm3 : IntKind.i64.wrap (km : Int) = km := IntWalk.i64_in _ (by have := hkm.out; omega)
  clear hD hD1 hx hL
  by_cases hk : km < L.kl ∧ L.keep km = true
  · rw [if_pos hk] at HX
    obtain ⟨hk1, hk2⟩ := hk
    obtain ⟨kb, ko, ha, hkb, hkm', hc⟩ : ∃ kb ko, L.ao = some ⟨kb, ko, none⟩ ∧ kb < w1.heap.size ∧ L.kl ≤ 140737488351232 ∧ ∀ j, j < L.kl → w1.cell? ⟨kb, ko + j, none⟩ = some (.bool (L.keep j)) := by
      rcases hL1 with h | h
      · omega
      · exact h
    have ck := hc km hk1
    rw [hk2] at ck
    have hl1 : (km : Int) < (L.kl : Int) := by omega
    rw [ha] at HW x0
    clear hc hL1 hk1 hk2 hkm' hkb
    show Calls Try.prog _ #[.agg #[.slice L.ao L.kl L.kc, .int .i64 L.torn, .int .i64 L.bytes], _, _] w _
    rw [ha]
    go_enter Try.func63, Try.ntmps63
    go_upto_region 1 with fail
    rw [HW.out]
    go_wp2_with fail
    go_ret
    exact ⟨by rw [HX.out _ rfl]; rfl, HB.out⟩
  · rw [if_neg hk] at HX
    obtain ⟨kb, ko, hK⟩ : ∃ kb ko, (km < L.kl ∧ L.ao = some ⟨kb, ko, none⟩ ∧ w1.cell? ⟨kb, ko + km, none⟩ = some (.bool false)) ∨ ¬ km < L.kl := by
      by_cases h : km < L.kl
      · rcases hL1 with h' | ⟨kb, ko, h1, h2, h3, h4⟩
        · omega
        · refine ⟨kb, ko, Or.inl ⟨h, h1, ?_⟩⟩
          have := h4 km h
          rw [this]
          cases hq : L.keep km with
          | false => rfl
          | true => exact absurd ⟨h, hq⟩ hk
      · exact ⟨0, 0, Or.inr h⟩
    clear hL1 hk
    by_cases ht : (i : Int) = L.torn
    · rw [if_pos ht] at HX
      have ht1 : ((i : Int) == L.torn) = true := by rw [beq_iff_eq]; exact ht
      obtain ⟨nn, hnn⟩ : ∃ nn, Hid (nB L.bytes = nn) := ⟨_, Lib.hid rfl⟩
      rw [hnn.out] at HX
      have hmx : min (max L.bytes 0) 64 = (nn : Int) := by have := hnn.out; unfold nB at this; omega
      have hmx2 : (if (if L.bytes < 0 then 0 else L.bytes) > 64 then 64 else (if L.bytes < 0 then 0 else L.bytes)) = (nn : Int) := by have := hnn.out; unfold nB at this; split <;> split <;> omega
      have hle : (nn : Int) ≤ (now.size : Int) := by have := hnn.out; unfold nB at this; omega
      have hle2 : (nn : Int) ≤ (safe.size : Int) := by have := hnn.out; unfold nB at this; omega
      have z1 : now.size = 64 := hs1
      have z2 : safe.size = 64 := hs2
      obtain ⟨ea, hea⟩ : ∃ ea, Hid (now.extract 0 nn = ea) := ⟨_, Lib.hid rfl⟩
      obtain ⟨eb, heb⟩ : ∃ eb, Hid (safe.extract nn safe.size = eb) := ⟨_, Lib.hid rfl⟩
      have hea' := hea.out
      have heb' := heb.out
      have hsa : (9223372036854775807 < ea.size + eb.size) = False := by rw [← hea', ← heb']; simp [ByteArray.size_extract]; omega
      rw [hea', heb'] at HX
      clear ht hs1 hs2 z1 z2
      rcases hK with ⟨hk1, ha, ck⟩ | hk1
      · have hl1 : (km : Int) < (L.kl : Int) := by omega
        rw [ha] at HW x0
        clear hk1
        show Calls Try.prog _ #[.agg #[.slice L.ao L.kl L.kc, .int .i64 L.torn, .int .i64 L.bytes], _, _] w _
        rw [ha]
        go_enter Try.func63, Try.ntmps63
        go_upto_region 1 with fail
        rw [HW.out]
        go_upto_region 6 with fail
        refine wp_region_lin (S := (fun w' => w'.cell? ⟨rb, i * 3, none⟩ = some (.string now) ∧ w'.cell? ⟨rb, i * 3 + 1, none⟩ = some (.string safe))) [(0, true), (1, true), (2, true), (3, true), (4, true), (5, true), (6, true), (7, true), (8, true), (9, true), (10, true), (11, true), (12, true), (13, true)] (by kernel_rfl) (by kernel_rfl) rfl (by kernel_rfl) ?_ (fun hHeld => ?_)
        · (try dsimp only); exact ⟨c0, c1⟩
        refine wpL_calm (o := { dst := some 35, op := Go.Op.move (Go.Operand.tmp 2), type := 86, pos := "dev.go:128", after := #[], guard := none }) (v := ?_) rfl (Or.inl ⟨by rfl, ?_⟩) ?_; rotate_left; (focus (intro w hSw; (try dsimp only at hSw); go_simp; (try (with_reducible rfl)); done)); try simp only [Act.put, List.setIfInBounds_toArray, List.set_cons_zero, List.set_cons_succ]
        refine wpL_calm (o := { dst := some 36, op := Go.Op.nilCheck (Go.Operand.tmp 35), type := 0, pos := "dev.go:128", after := #[{ on := 0, ground := Go.Ground.data }], guard := none }) (v := ?_) rfl (Or.inl ⟨by rfl, ?_⟩) ?_; rotate_left; (focus (intro w hSw; (try dsimp only at hSw); go_simp; (try (with_reducible rfl)); done)); try simp only [Act.put, List.setIfInBounds_toArray, List.set_cons_zero, List.set_cons_succ]
        refine wpL_calm (o := { dst := some 37, op := Go.Op.fieldAddr 91 (Go.Operand.tmp 36) 0, type := 0, pos := "dev.go:128", after := #[{ on := 1, ground := Go.Ground.data }], guard := none }) (v := ?_) rfl (Or.inl ⟨by rfl, ?_⟩) ?_; rotate_left; (focus (intro w hSw; (try dsimp only at hSw); go_simp; (try (with_reducible rfl)); done)); try simp only [Act.put, List.setIfInBounds_toArray, List.set_cons_zero, List.set_cons_succ]
        refine wpL_calm (o := { dst := some 38, op := Go.Op.load 9 (Go.Operand.tmp 37), type := 9, pos := "dev.go:128", after := #[{ on := 2, ground := Go.Ground.data }], guard := none }) (v := ?_) rfl (Or.inl ⟨by rfl, ?_⟩) ?_; rotate_left; (focus (intro w hSw; (try dsimp only at hSw); go_simp; (try (with_reducible rfl)); done)); try simp only [Act.put, List.setIfInBounds_toArray, List.set_cons_zero, List.set_cons_succ]
        refine wpL_calm (o := { dst := some 39, op := Go.Op.move (Go.Operand.tmp 8), type := 3, pos := "dev.go:128", after := #[], guard := none }) (v := ?_) rfl (Or.inl ⟨by rfl, ?_⟩) ?_; rotate_left; (focus (intro w hSw; (try dsimp only at hSw); go_simp; (try (with_reducible rfl)); done)); try simp only [Act.put, List.setIfInBounds_toArray, List.set_cons_zero, List.set_cons_succ]
        refine wpL_calm (o := { dst := some 40, op := Go.Op.slice 9 (Go.Operand.tmp 38) none (some (Go.Operand.tmp 39)) none, type := 9, pos := "dev.go:128", after := #[{ on := 3, ground := Go.Ground.data }, { on := 4, ground := Go.Ground.data }], guard := none }) (v := ?_) rfl (Or.inl ⟨by rfl, ?_⟩) ?_; rotate_left; (focus (intro w hSw; (try dsimp only at hSw); go_simp; (try (with_reducible rfl)); done)); try simp only [Act.put, List.setIfInBounds_toArray, List.set_cons_zero, List.set_cons_succ]
        refine wpL_calm (o := { dst := some 41, op := Go.Op.move (Go.Operand.tmp 2), type := 86, pos := "dev.go:128", after := #[], guard := none }) (v := ?_) rfl (Or.inl ⟨by rfl, ?_⟩) ?_; rotate_left; (focus (intro w hSw; (try dsimp only at hSw); go_simp; (try (with_reducible rfl)); done)); try simp only [Act.put, List.setIfInBounds_toArray, List.set_cons_zero, List.set_cons_succ]
        refine wpL_calm (o := { dst := some 42, op := Go.Op.nilCheck (Go.Operand.tmp 41), type := 0, pos := "dev.go:128", after := #[{ on := 6, ground := Go.Ground.data }], guard := none }) (v := ?_) rfl (Or.inl ⟨by rfl, ?_⟩) ?_; rotate_left; (focus (intro w hSw; (try dsimp only at hSw); go_simp; (try (with_reducible rfl)); done)); try simp only [Act.put, List.setIfInBounds_toArray, List.set_cons_zero, List.set_cons_succ]
        refine wpL_calm (o := { dst := some 43, op := Go.Op.fieldAddr 91 (Go.Operand.tmp 42) 1, type := 0, pos := "dev.go:128", after := #[{ on := 7, ground := Go.Ground.data }], guard := none }) (v := ?_) rfl (Or.inl ⟨by rfl, ?_⟩) ?_; rotate_left; (focus (intro w hSw; (try dsimp only at hSw); go_simp; (try (with_reducible rfl)); done)); try simp only [Act.put, List.setIfInBounds_toArray, List.set_cons_zero, List.set_cons_succ]
        refine wpL_calm (o := { dst := some 44, op := Go.Op.load 9 (Go.Operand.tmp 43), type := 9, pos := "dev.go:128", after := #[{ on := 8, ground := Go.Ground.data }], guard := none }) (v := ?_) rfl (Or.inl ⟨by rfl, ?_⟩) ?_; rotate_left; (focus (intro w hSw; (try dsimp only at hSw); go_simp; (try (with_reducible rfl)); done)); try simp only [Act.put, List.setIfInBounds_toArray, List.set_cons_zero, List.set_cons_succ]
        refine wpL_calm (o := { dst := some 45, op := Go.Op.move (Go.Operand.tmp 8), type := 3, pos := "dev.go:128", after := #[], guard := none }) (v := ?_) rfl (Or.inl ⟨by rfl, ?_⟩) ?_; rotate_left; (focus (intro w hSw; (try dsimp only at hSw); go_simp; (try (with_reducible rfl)); done)); try simp only [Act.put, List.setIfInBounds_toArray, List.set_cons_zero, List.set_cons_succ]
        refine wpL_calm (o := { dst := some 46, op := Go.Op.slice 9 (Go.Operand.tmp 44) (some (Go.Operand.tmp 45)) none none, type := 9, pos := "dev.go:128", after := #[{ on := 9, ground := Go.Ground.data }, { on := 10, ground := Go.Ground.data }], guard := none }) (v := ?_) rfl (Or.inl ⟨by rfl, ?_⟩) ?_; rotate_left; (focus (intro w hSw; (try dsimp only at hSw); go_simp; (try (with_reducible rfl)); done)); try simp only [Act.put, List.setIfInBounds_toArray, List.set_cons_zero, List.set_cons_succ]
        refine wpL_calm (o := { dst := some 47, op := Go.Op.binOp Go.BinOp.add 9 (Go.Operand.tmp 40) (Go.Operand.tmp 46) 9, type := 9, pos := "dev.go:128", after := #[{ on := 5, ground := Go.Ground.data }, { on := 11, ground := Go.Ground.data }], guard := none }) (v := ?_) rfl (Or.inl ⟨by rfl, ?_⟩) ?_; rotate_left; (focus (intro w hSw; (try dsimp only at hSw); go_simp; (try (with_reducible rfl)); done)); try simp only [Act.put, List.setIfInBounds_toArray, List.set_cons_zero, List.set_cons_succ]
        refine wpL_calm (o := { dst := some 6, op := Go.Op.assign (Go.Operand.tmp 47), type := 9, pos := "dev.go:128", after := #[{ on := 12, ground := Go.Ground.data }, { on := 0, ground := Go.Ground.phase }, { on := 1, ground := Go.Ground.phase }, { on := 2, ground := Go.Ground.phase }, { on := 3, ground := Go.Ground.phase }, { on := 4, ground := Go.Ground.phase }, { on := 5, ground := Go.Ground.phase }, { on := 6, ground := Go.Ground.phase }, { on := 7, ground := Go.Ground.phase }, { on := 8, ground := Go.Ground.phase }, { on := 9, ground := Go.Ground.phase }, { on := 10, ground := Go.Ground.phase }, { on := 11, ground := Go.Ground.phase }, { on := 12, ground := Go.Ground.phase }], guard := none }) (v := ?_) rfl (Or.inl ⟨by rfl, ?_⟩) ?_; rotate_left; (focus (intro w hSw; (try dsimp only at hSw); go_simp; (try (with_reducible rfl)); done)); try simp only [Act.put, List.setIfInBounds_toArray, List.set_cons_zero, List.set_cons_succ]
        refine wpL_nil ?_
        refine NoPanic.normal ?_
        go_wp2_with fail
        all_goals
          go_ret
          exact ⟨by rw [HX.out _ rfl]; rfl, HB.out.drew⟩
      · have hl1 : ¬ (km : Int) < (L.kl : Int) := by omega
        clear hk1
        show Calls Try.prog _ #[.agg #[.slice L.ao L.kl L.kc, .int .i64 L.torn, .int .i64 L.bytes], _, _] w _
        go_enter Try.func63, Try.ntmps63
        go_upto_region 1 with fail
        rw [HW.out]
        go_upto_region 6 with fail
        refine wp_region_lin (S := (fun w' => w'.cell? ⟨rb, i * 3, none⟩ = some (.string now) ∧ w'.cell? ⟨rb, i * 3 + 1, none⟩ = some (.string safe))) [(0, true), (1, true), (2, true), (3, true), (4, true), (5, true), (6, true), (7, true), (8, true), (9, true), (10, true), (11, true), (12, true), (13, true)] (by kernel_rfl) (by kernel_rfl) rfl (by kernel_rfl) ?_ (fun hHeld => ?_)
        · (try dsimp only); exact ⟨c0, c1⟩
        refine wpL_calm (o := { dst := some 35, op := Go.Op.move (Go.Operand.tmp 2), type := 86, pos := "dev.go:128", after := #[], guard := none }) (v := ?_) rfl (Or.inl ⟨by rfl, ?_⟩) ?_; rotate_left; (focus (intro w hSw; (try dsimp only at hSw); go_simp; (try (with_reducible rfl)); done)); try simp only [Act.put, List.setIfInBounds_toArray, List.set_cons_zero, List.set_cons_succ]
        refine wpL_calm (o := { dst := some 36, op := Go.Op.nilCheck (Go.Operand.tmp 35), type := 0, pos := "dev.go:128", after := #[{ on := 0, ground := Go.Ground.data }], guard := none }) (v := ?_) rfl (Or.inl ⟨by rfl, ?_⟩) ?_; rotate_left; (focus (intro w hSw; (try dsimp only at hSw); go_simp; (try (with_reducible rfl)); done)); try simp only [Act.put, List.setIfInBounds_toArray, List.set_cons_zero, List.set_cons_succ]
        refine wpL_calm (o := { dst := some 37, op := Go.Op.fieldAddr 91 (Go.Operand.tmp 36) 0, type := 0, pos := "dev.go:128", after := #[{ on := 1, ground := Go.Ground.data }], guard := none }) (v := ?_) rfl (Or.inl ⟨by rfl, ?_⟩) ?_; rotate_left; (focus (intro w hSw; (try dsimp only at hSw); go_simp; (try (with_reducible rfl)); done)); try simp only [Act.put, List.setIfInBounds_toArray, List.set_cons_zero, List.set_cons_succ]
        refine wpL_calm (o := { dst := some 38, op := Go.Op.load 9 (Go.Operand.tmp 37), type := 9, pos := "dev.go:128", after := #[{ on := 2, ground := Go.Ground.data }], guard := none }) (v := ?_) rfl (Or.inl ⟨by rfl, ?_⟩) ?_; rotate_left; (focus (intro w hSw; (try dsimp only at hSw); go_simp; (try (with_reducible rfl)); done)); try simp only [Act.put, List.setIfInBounds_toArray, List.set_cons_zero, List.set_cons_succ]
        refine wpL_calm (o := { dst := some 39, op := Go.Op.move (Go.Operand.tmp 8), type := 3, pos := "dev.go:128", after := #[], guard := none }) (v := ?_) rfl (Or.inl ⟨by rfl, ?_⟩) ?_; rotate_left; (focus (intro w hSw; (try dsimp only at hSw); go_simp; (try (with_reducible rfl)); done)); try simp only [Act.put, List.setIfInBounds_toArray, List.set_cons_zero, List.set_cons_succ]
        refine wpL_calm (o := { dst := some 40, op := Go.Op.slice 9 (Go.Operand.tmp 38) none (some (Go.Operand.tmp 39)) none, type := 9, pos := "dev.go:128", after := #[{ on := 3, ground := Go.Ground.data }, { on := 4, ground := Go.Ground.data }], guard := none }) (v := ?_) rfl (Or.inl ⟨by rfl, ?_⟩) ?_; rotate_left; (focus (intro w hSw; (try dsimp only at hSw); go_simp; (try (with_reducible rfl)); done)); try simp only [Act.put, List.setIfInBounds_toArray, List.set_cons_zero, List.set_cons_succ]
        refine wpL_calm (o := { dst := some 41, op := Go.Op.move (Go.Operand.tmp 2), type := 86, pos := "dev.go:128", after := #[], guard := none }) (v := ?_) rfl (Or.inl ⟨by rfl, ?_⟩) ?_; rotate_left; (focus (intro w hSw; (try dsimp only at hSw); go_simp; (try (with_reducible rfl)); done)); try simp only [Act.put, List.setIfInBounds_toArray, List.set_cons_zero, List.set_cons_succ]
        refine wpL_calm (o := { dst := some 42, op := Go.Op.nilCheck (Go.Operand.tmp 41), type := 0, pos := "dev.go:128", after := #[{ on := 6, ground := Go.Ground.data }], guard := none }) (v := ?_) rfl (Or.inl ⟨by rfl, ?_⟩) ?_; rotate_left; (focus (intro w hSw; (try dsimp only at hSw); go_simp; (try (with_reducible rfl)); done)); try simp only [Act.put, List.setIfInBounds_toArray, List.set_cons_zero, List.set_cons_succ]
        refine wpL_calm (o := { dst := some 43, op := Go.Op.fieldAddr 91 (Go.Operand.tmp 42) 1, type := 0, pos := "dev.go:128", after := #[{ on := 7, ground := Go.Ground.data }], guard := none }) (v := ?_) rfl (Or.inl ⟨by rfl, ?_⟩) ?_; rotate_left; (focus (intro w hSw; (try dsimp only at hSw); go_simp; (try (with_reducible rfl)); done)); try simp only [Act.put, List.setIfInBounds_toArray, List.set_cons_zero, List.set_cons_succ]
        refine wpL_calm (o := { dst := some 44, op := Go.Op.load 9 (Go.Operand.tmp 43), type := 9, pos := "dev.go:128", after := #[{ on := 8, ground := Go.Ground.data }], guard := none }) (v := ?_) rfl (Or.inl ⟨by rfl, ?_⟩) ?_; rotate_left; (focus (intro w hSw; (try dsimp only at hSw); go_simp; (try (with_reducible rfl)); done)); try simp only [Act.put, List.setIfInBounds_toArray, List.set_cons_zero, List.set_cons_succ]
        refine wpL_calm (o := { dst := some 45, op := Go.Op.move (Go.Operand.tmp 8), type := 3, pos := "dev.go:128", after := #[], guard := none }) (v := ?_) rfl (Or.inl ⟨by rfl, ?_⟩) ?_; rotate_left; (focus (intro w hSw; (try dsimp only at hSw); go_simp; (try (with_reducible rfl)); done)); try simp only [Act.put, List.setIfInBounds_toArray, List.set_cons_zero, List.set_cons_succ]
        refine wpL_calm (o := { dst := some 46, op := Go.Op.slice 9 (Go.Operand.tmp 44) (some (Go.Operand.tmp 45)) none none, type := 9, pos := "dev.go:128", after := #[{ on := 9, ground := Go.Ground.data }, { on := 10, ground := Go.Ground.data }], guard := none }) (v := ?_) rfl (Or.inl ⟨by rfl, ?_⟩) ?_; rotate_left; (focus (intro w hSw; (try dsimp only at hSw); go_simp; (try (with_reducible rfl)); done)); try simp only [Act.put, List.setIfInBounds_toArray, List.set_cons_zero, List.set_cons_succ]
        refine wpL_calm (o := { dst := some 47, op := Go.Op.binOp Go.BinOp.add 9 (Go.Operand.tmp 40) (Go.Operand.tmp 46) 9, type := 9, pos := "dev.go:128", after := #[{ on := 5, ground := Go.Ground.data }, { on := 11, ground := Go.Ground.data }], guard := none }) (v := ?_) rfl (Or.inl ⟨by rfl, ?_⟩) ?_; rotate_left; (focus (intro w hSw; (try dsimp only at hSw); go_simp; (try (with_reducible rfl)); done)); try simp only [Act.put, List.setIfInBounds_toArray, List.set_cons_zero, List.set_cons_succ]
        refine wpL_calm (o := { dst := some 6, op := Go.Op.assign (Go.Operand.tmp 47), type := 9, pos := "dev.go:128", after := #[{ on := 12, ground := Go.Ground.data }, { on := 0, ground := Go.Ground.phase }, { on := 1, ground := Go.Ground.phase }, { on := 2, ground := Go.Ground.phase }, { on := 3, ground := Go.Ground.phase }, { on := 4, ground := Go.Ground.phase }, { on := 5, ground := Go.Ground.phase }, { on := 6, ground := Go.Ground.phase }, { on := 7, ground := Go.Ground.phase }, { on := 8, ground := Go.Ground.phase }, { on := 9, ground := Go.Ground.phase }, { on := 10, ground := Go.Ground.phase }, { on := 11, ground := Go.Ground.phase }, { on := 12, ground := Go.Ground.phase }], guard := none }) (v := ?_) rfl (Or.inl ⟨by rfl, ?_⟩) ?_; rotate_left; (focus (intro w hSw; (try dsimp only at hSw); go_simp; (try (with_reducible rfl)); done)); try simp only [Act.put, List.setIfInBounds_toArray, List.set_cons_zero, List.set_cons_succ]
        refine wpL_nil ?_
        refine NoPanic.normal ?_
        go_wp2_with fail
        all_goals
          go_ret
          exact ⟨by rw [HX.out _ rfl]; rfl, HB.out.drew⟩
    · rw [if_neg ht] at HX
      have ht1 : ((i : Int) == L.torn) = false := beq_eq_false_iff_ne.2 ht
      clear ht
      rcases hK with ⟨hk1, ha, ck⟩ | hk1
      · have hl1 : (km : Int) < (L.kl : Int) := by omega
        rw [ha] at HW x0
        clear hk1
        show Calls Try.prog _ #[.agg #[.slice L.ao L.kl L.kc, .int .i64 L.torn, .int .i64 L.bytes], _, _] w _
        rw [ha]
        go_enter Try.func63, Try.ntmps63
        go_upto_region 1 with fail
        rw [HW.out]
        go_wp2_with fail
        go_ret
        exact ⟨by rw [HX.out _ rfl]; rfl, HB.out⟩
      · have hl1 : ¬ (km : Int) < (L.kl : Int) := by omega
        clear hk1
        show Calls Try.prog _ #[.agg #[.slice L.ao L.kl L.kc, .int .i64 L.torn, .int .i64 L.bytes], _, _] w _
        go_enter Try.func63, Try.ntmps63
        go_upto_region 1 with fail
        rw [HW.out]
        go_wp2_with fail
        go_ret
        exact ⟨by rw [HX.out _ rfl]; rfl, HB.out⟩
end Go.Proofs.Ytjmginkkjkbpoaa
