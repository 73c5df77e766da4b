/- The oracle: the reference's Pair. -/
import Derived.Test.YtpoffbbapefkcaaDoorOrL
namespace Go.Proofs.YtpoffbbapefkcaaDoor
open Go.RowKit Go.Deep Go.Maps
set_option linter.unusedVariables false
set_option linter.unusedSimpArgs false
attribute [local irreducible] pairF hitB digA htB
set_option maxRecDepth 100000 in
set_option maxHeartbeats 4000000 in
theorem refPair_any (L : List ByteArray) (X : List (List UInt8)) (la da : Option Addr) (lc dc : Nat) (w : World) (hT : TxtAt w la L) (hX : DigAt w da X) (h32 : ∀ x ∈ X, x.length = 32) (hnl : L.length ≤ 1000000) (hml : X.length ≤ 9223372036854775807) :
    Calls Tryd.prog 17 #[.slice la L.length lc, .slice da X.length dc] w fun e w' => e = .returned (pairV (pairF L X (min L.length X.length))) ∧ Below w.heap.size w w' := by
  have HT := Lib.hid hT
  have HX := Lib.hid hX
  have H32 := Lib.hid h32
  have HNONE := Lib.hid (pairF_none L X)
  have HSOME := Lib.hid (pairF_some L X)
  have HMONO := Lib.hid (pairF_mono L X)
  have HHT : Hid (∀ i k, htB L X i k = (!((L[i]?.getD ⟨#[]⟩).toList == (L[k]?.getD ⟨#[]⟩).toList) && ((X[i]?.getD []) == (X[k]?.getD [])))) := Lib.hid (fun i k => by with_unfolding_all rfl)
  clear hT hX h32
  generalize hnl2 : L.length = nl at *
  generalize hml2 : X.length = m at *
  have HNL := Lib.hid hnl2
  have HML := Lib.hid hml2
  clear hnl2 hml2
  obtain ⟨N, hN⟩ : ∃ N, min nl m = N := ⟨_, rfl⟩
  have hN1 : N ≤ nl := by omega
  have hN2 : N ≤ m := by omega
  have hN3 : N = nl ∨ N = m := by omega
  have HNN := Lib.hid hN
  clear hN
  go_enter Tryd.func17, Tryd.ntmps17
  go_wp2_with fail
  go_loopw [7] (fun x wi => ∃ k : Nat, x = .int .i64 k ∧ k ≤ N ∧ Hid (∀ k', k' < k → ∀ i', i' < k' → htB L X i' k' = false) ∧ Hid (Below w.heap.size w wi)) (fun x _ => N - (intOf x).toNat)
  case atStart => exact ⟨0, rfl, by omega, Lib.hid (fun k' h => absurd h (by omega)), Lib.hid (Below.refl _ _)⟩
  case round =>
    obtain ⟨k, rfl, hk, HK, HB⟩ := hrel
    by_cases hlt : k < N
    · as_aux_lemma =>
      have hl1 : (k : Int) < (nl : Int) := by omega
      have hl2 : (k : Int) < (m : Int) := by omega
      have hkL : k < L.length := by rw [HNL.out]; omega
      have hkX : k < X.length := by rw [HML.out]; omega
      obtain ⟨gl, ol, rfl, hgl, htx⟩ := HT.out (by omega)
      obtain ⟨gd, od, rfl, hgd, hdx⟩ := HX.out (by omega)
      have HTX := Lib.hid htx
      have HDX := Lib.hid hdx
      clear htx hdx
      go_wp2_with fail
      go_loopw [8] (fun x wi => ∃ i : Nat, x = .int .i64 i ∧ i ≤ k ∧ Hid (∀ i', i' < i → htB L X i' k = false) ∧ Hid (Below w.heap.size w wi)) (fun x _ => k - (intOf x).toNat)
      case atStart => exact ⟨0, rfl, by omega, Lib.hid (fun i' h => absurd h (by omega)), HB⟩
      clear HB
      case round =>
        obtain ⟨i, rfl, hi, HI, HB⟩ := hrel
        by_cases hik : i < k
        · as_aux_lemma =>
          have hik' : (i : Int) < (k : Int) := by omega
          have hl3 : (i : Int) < (nl : Int) := by omega
          have hl4 : (i : Int) < (m : Int) := by omega
          have hiL : i < L.length := by omega
          have hiX : i < X.length := by omega
          have hsi := (HB.out.cell (p := ⟨gl, ol + i, none⟩) hgl).trans (HTX.out i hiL)
          have hsk := (HB.out.cell (p := ⟨gl, ol + k, none⟩) hgl).trans (HTX.out k hkL)
          have hri : wr.rangeAt gd (od + i * 32) (bv X[i]) := fun j u hu => (HB.out.cell (p := ⟨gd, od + i * 32 + j, none⟩) hgd).trans (HDX.out i hiX j u hu)
          have hrk : wr.rangeAt gd (od + k * 32) (bv X[k]) := fun j u hu => (HB.out.cell (p := ⟨gd, od + k * 32 + j, none⟩) hgd).trans (HDX.out k hkX j u hu)
          have hlen : ∀ x ∈ X, (bv x).length = 32 := fun x hx => by unfold bv; rw [List.length_map]; exact H32.out x hx
          have HLI := Lib.hid (hlen _ (List.getElem_mem hiX))
          have HLK := Lib.hid (hlen _ (List.getElem_mem hkX))
          have hed := eql_dig2 X[i] X[k] (H32.out _ (List.getElem_mem hiX)) (H32.out _ (List.getElem_mem hkX))
          have hht := HHT.out i k
          rw [List.getElem?_eq_getElem hiL, List.getElem?_eq_getElem hkL, List.getElem?_eq_getElem hiX, List.getElem?_eq_getElem hkX] at hht
          simp only [Option.getD_some] at hht
          have HDI : Hid ((bv X[i]).toArray = digA X[i]) := Lib.hid (by with_unfolding_all rfl)
          have HDK : Hid ((bv X[k]).toArray = digA X[k]) := Lib.hid (by with_unfolding_all rfl)
          obtain ⟨r2, hr2⟩ : ∃ r2, (X[i] == X[k]) = r2 := ⟨_, rfl⟩
          rw [hr2] at hht hed
          obtain ⟨r1, hr1⟩ : ∃ r1, (!((L[i]'hiL).toList == (L[k]'hkL).toList)) = r1 := ⟨_, rfl⟩
          rw [hr1] at hht
          have HHH := Lib.hid hht
          clear hht hlen hr2
          generalize bv X[i] = BI at *
          generalize bv X[k] = BK at *
          generalize digA X[i] = DI at *
          generalize digA X[k] = DK at *
          generalize (L[i]'hiL) = si at *
          generalize (L[k]'hkL) = sk at *
          have HRI := Lib.hid hri
          have HRK := Lib.hid hrk
          clear hri hrk
          have HI1 : (r1 && r2) = false → Hid (∀ i', i' < i + 1 → htB L X i' k = false) := fun e => Lib.hid (fun i' h => by
            by_cases q : i' = i
            · rw [q, HHH.out]; exact e
            · exact HI.out i' (by omega))
          cases r1
          · go_wp2_with fail
            refine wp_region_lin (S := (fun w' => w'.cell? ⟨gl, ol + i, none⟩ = some (.string si) ∧ w'.cell? ⟨gl, ol + k, none⟩ = some (.string sk))) [(0, true), (1, true), (2, true), (3, true), (4, true), (5, true), (6, true), (7, true), (8, true), (9, true), (10, true), (11, true), (12, true), (13, true), (14, true), (15, true), (16, true), (17, true), (18, true), (19, true)] (by kernel_rfl) (by kernel_rfl) rfl (by kernel_rfl) ?_ (fun hHeld => ?_)
            · (try dsimp only); exact ⟨hsi, hsk⟩
            refine wpL_calm (o := { dst := some 26, op := Go.Op.move (Go.Operand.tmp 0), type := 25, pos := "ref.go:10", after := #[], guard := none }) (v := ?_) rfl (Or.inl ⟨by rfl, ?_⟩) ?_; rotate_left; (focus (intro w hSw; (try dsimp only at hSw); go_simp; (try (with_reducible rfl)); done)); try simp only [Act.put, List.setIfInBounds_toArray, List.set_cons_zero, List.set_cons_succ]
            refine wpL_calm (o := { dst := some 27, op := Go.Op.move (Go.Operand.tmp 8), type := 3, pos := "ref.go:10", after := #[], guard := none }) (v := ?_) rfl (Or.inl ⟨by rfl, ?_⟩) ?_; rotate_left; (focus (intro w hSw; (try dsimp only at hSw); go_simp; (try (with_reducible rfl)); done)); try simp only [Act.put, List.setIfInBounds_toArray, List.set_cons_zero, List.set_cons_succ]
            refine wpL_calm (o := { dst := some 28, op := Go.Op.indexAddr 25 (Go.Operand.tmp 26) (Go.Operand.tmp 27), type := 0, pos := "ref.go:10", after := #[{ on := 0, ground := Go.Ground.data }, { on := 1, ground := Go.Ground.data }], guard := none }) (v := ?_) rfl (Or.inl ⟨by rfl, ?_⟩) ?_; rotate_left; (focus (intro w hSw; (try dsimp only at hSw); go_simp; (try (with_reducible rfl)); done)); try simp only [Act.put, List.setIfInBounds_toArray, List.set_cons_zero, List.set_cons_succ]
            refine wpL_calm (o := { dst := some 29, op := Go.Op.load 9 (Go.Operand.tmp 28), type := 9, pos := "ref.go:10", after := #[{ on := 2, ground := Go.Ground.data }], guard := none }) (v := ?_) rfl (Or.inl ⟨by rfl, ?_⟩) ?_; rotate_left; (focus (intro w hSw; (try dsimp only at hSw); go_simp; (try (with_reducible rfl)); done)); try simp only [Act.put, List.setIfInBounds_toArray, List.set_cons_zero, List.set_cons_succ]
            refine wpL_calm (o := { dst := some 30, op := Go.Op.move (Go.Operand.tmp 0), type := 25, pos := "ref.go:10", after := #[], guard := none }) (v := ?_) rfl (Or.inl ⟨by rfl, ?_⟩) ?_; rotate_left; (focus (intro w hSw; (try dsimp only at hSw); go_simp; (try (with_reducible rfl)); done)); try simp only [Act.put, List.setIfInBounds_toArray, List.set_cons_zero, List.set_cons_succ]
            refine wpL_calm (o := { dst := some 31, op := Go.Op.move (Go.Operand.tmp 7), type := 3, pos := "ref.go:10", after := #[], guard := none }) (v := ?_) rfl (Or.inl ⟨by rfl, ?_⟩) ?_; rotate_left; (focus (intro w hSw; (try dsimp only at hSw); go_simp; (try (with_reducible rfl)); done)); try simp only [Act.put, List.setIfInBounds_toArray, List.set_cons_zero, List.set_cons_succ]
            refine wpL_calm (o := { dst := some 32, op := Go.Op.indexAddr 25 (Go.Operand.tmp 30) (Go.Operand.tmp 31), type := 0, pos := "ref.go:10", after := #[{ on := 4, ground := Go.Ground.data }, { on := 5, ground := Go.Ground.data }], guard := none }) (v := ?_) rfl (Or.inl ⟨by rfl, ?_⟩) ?_; rotate_left; (focus (intro w hSw; (try dsimp only at hSw); go_simp; (try (with_reducible rfl)); done)); try simp only [Act.put, List.setIfInBounds_toArray, List.set_cons_zero, List.set_cons_succ]
            refine wpL_calm (o := { dst := some 33, op := Go.Op.load 9 (Go.Operand.tmp 32), type := 9, pos := "ref.go:10", after := #[{ on := 6, ground := Go.Ground.data }], guard := none }) (v := ?_) rfl (Or.inl ⟨by rfl, ?_⟩) ?_; rotate_left; (focus (intro w hSw; (try dsimp only at hSw); go_simp; (try (with_reducible rfl)); done)); try simp only [Act.put, List.setIfInBounds_toArray, List.set_cons_zero, List.set_cons_succ]
            refine wpL_calm (o := { dst := some 34, op := Go.Op.binOp Go.BinOp.neq 9 (Go.Operand.tmp 29) (Go.Operand.tmp 33) 9, type := 4, pos := "ref.go:10", after := #[{ on := 3, ground := Go.Ground.data }, { on := 7, ground := Go.Ground.data }], guard := none }) (v := ?_) rfl (Or.inl ⟨by rfl, ?_⟩) ?_; rotate_left; (focus (intro w hSw; (try dsimp only at hSw); go_simp; (try (with_reducible rfl)); done)); try simp only [Act.put, List.setIfInBounds_toArray, List.set_cons_zero, List.set_cons_succ]
            refine wpL_calm (o := { dst := some 35, op := Go.Op.move (Go.Operand.tmp 34), type := 4, pos := "ref.go:10", after := #[{ on := 8, ground := Go.Ground.data }], guard := none }) (v := ?_) rfl (Or.inl ⟨by rfl, ?_⟩) ?_; rotate_left; (focus (intro w hSw; (try dsimp only at hSw); go_simp; (try (with_reducible rfl)); done)); try simp only [Act.put, List.setIfInBounds_toArray, List.set_cons_zero, List.set_cons_succ]
            refine wpL_calm (o := { dst := some 36, op := Go.Op.move (Go.Operand.tmp 1), type := 41, pos := "ref.go:10", after := #[{ on := 9, ground := Go.Ground.guard }], guard := some (9, true) }) (v := undef) rfl (Or.inr ⟨by rfl, rfl⟩) ?_; try simp only [Act.put, List.setIfInBounds_toArray, List.set_cons_zero, List.set_cons_succ]
            refine wpL_calm (o := { dst := some 37, op := Go.Op.move (Go.Operand.tmp 8), type := 3, pos := "ref.go:10", after := #[{ on := 9, ground := Go.Ground.guard }], guard := some (9, true) }) (v := undef) rfl (Or.inr ⟨by rfl, rfl⟩) ?_; try simp only [Act.put, List.setIfInBounds_toArray, List.set_cons_zero, List.set_cons_succ]
            refine wpL_calm (o := { dst := some 38, op := Go.Op.indexAddr 41 (Go.Operand.tmp 36) (Go.Operand.tmp 37), type := 0, pos := "ref.go:10", after := #[{ on := 10, ground := Go.Ground.data }, { on := 11, ground := Go.Ground.data }, { on := 9, ground := Go.Ground.guard }], guard := some (9, true) }) (v := undef) rfl (Or.inr ⟨by rfl, rfl⟩) ?_; try simp only [Act.put, List.setIfInBounds_toArray, List.set_cons_zero, List.set_cons_succ]
            refine wpL_calm (o := { dst := some 39, op := Go.Op.load 34 (Go.Operand.tmp 38), type := 34, pos := "ref.go:10", after := #[{ on := 12, ground := Go.Ground.data }, { on := 9, ground := Go.Ground.guard }], guard := some (9, true) }) (v := undef) rfl (Or.inr ⟨by rfl, rfl⟩) ?_; try simp only [Act.put, List.setIfInBounds_toArray, List.set_cons_zero, List.set_cons_succ]
            refine wpL_calm (o := { dst := some 40, op := Go.Op.move (Go.Operand.tmp 1), type := 41, pos := "ref.go:10", after := #[{ on := 9, ground := Go.Ground.guard }], guard := some (9, true) }) (v := undef) rfl (Or.inr ⟨by rfl, rfl⟩) ?_; try simp only [Act.put, List.setIfInBounds_toArray, List.set_cons_zero, List.set_cons_succ]
            refine wpL_calm (o := { dst := some 41, op := Go.Op.move (Go.Operand.tmp 7), type := 3, pos := "ref.go:10", after := #[{ on := 9, ground := Go.Ground.guard }], guard := some (9, true) }) (v := undef) rfl (Or.inr ⟨by rfl, rfl⟩) ?_; try simp only [Act.put, List.setIfInBounds_toArray, List.set_cons_zero, List.set_cons_succ]
            refine wpL_calm (o := { dst := some 42, op := Go.Op.indexAddr 41 (Go.Operand.tmp 40) (Go.Operand.tmp 41), type := 0, pos := "ref.go:10", after := #[{ on := 14, ground := Go.Ground.data }, { on := 15, ground := Go.Ground.data }, { on := 9, ground := Go.Ground.guard }], guard := some (9, true) }) (v := undef) rfl (Or.inr ⟨by rfl, rfl⟩) ?_; try simp only [Act.put, List.setIfInBounds_toArray, List.set_cons_zero, List.set_cons_succ]
            refine wpL_calm (o := { dst := some 43, op := Go.Op.load 34 (Go.Operand.tmp 42), type := 34, pos := "ref.go:10", after := #[{ on := 16, ground := Go.Ground.data }, { on := 9, ground := Go.Ground.guard }], guard := some (9, true) }) (v := undef) rfl (Or.inr ⟨by rfl, rfl⟩) ?_; try simp only [Act.put, List.setIfInBounds_toArray, List.set_cons_zero, List.set_cons_succ]
            refine wpL_calm (o := { dst := some 44, op := Go.Op.binOp Go.BinOp.eql 34 (Go.Operand.tmp 39) (Go.Operand.tmp 43) 34, type := 4, pos := "ref.go:10", after := #[{ on := 13, ground := Go.Ground.data }, { on := 17, ground := Go.Ground.data }, { on := 9, ground := Go.Ground.guard }], guard := some (9, true) }) (v := undef) rfl (Or.inr ⟨by rfl, rfl⟩) ?_; try simp only [Act.put, List.setIfInBounds_toArray, List.set_cons_zero, List.set_cons_succ]
            refine wpL_calm (o := { dst := some 45, op := Go.Op.pick (Go.Operand.tmp 35) (Go.Operand.tmp 44) (Go.Operand.const (Go.Value.bool false)), type := 4, pos := "ref.go:10", after := #[{ on := 9, ground := Go.Ground.data }, { on := 18, ground := Go.Ground.data }], guard := none }) (v := ?_) rfl (Or.inl ⟨by rfl, ?_⟩) ?_; rotate_left; (focus (intro w hSw; (try dsimp only at hSw); go_simp; (try (with_reducible rfl)); done)); try simp only [Act.put, List.setIfInBounds_toArray, List.set_cons_zero, List.set_cons_succ]
            refine wpL_nil ?_
            refine NoPanic.normal ?_
            clear hHeld hsi hsk
            go_wp2_with fail
            go_roundw
            case rel => exact ⟨i + 1, by go_num, by omega, HI1 rfl, Lib.hid HB.out.drew⟩
            case measure => simp [intOf]; omega
          · go_wp2_with fail
            refine wp_region_lin (S := (fun w' => w'.cell? ⟨gl, ol + i, none⟩ = some (.string si) ∧ w'.cell? ⟨gl, ol + k, none⟩ = some (.string sk) ∧ w'.rangeAt gd (od + i * 32) BI ∧ w'.rangeAt gd (od + k * 32) BK)) [(0, true), (1, true), (2, true), (3, true), (4, true), (5, true), (6, true), (7, true), (8, true), (9, true), (10, true), (11, true), (12, true), (13, true), (14, true), (15, true), (16, true), (17, true), (18, true), (19, true)] (by kernel_rfl) (by kernel_rfl) rfl (by kernel_rfl) ?_ (fun hHeld => ?_)
            · (try dsimp only); exact ⟨hsi, hsk, HRI.out, HRK.out⟩
            (refine wpL_calm (o := { dst := some 26, op := Go.Op.move (Go.Operand.tmp 0), type := 25, pos := "ref.go:10", after := #[], guard := none }) (v := ?_) rfl (Or.inl ⟨by rfl, ?_⟩) ?_; rotate_left; (focus (intro w hSw; (try dsimp only at hSw); go_simp; (try (with_reducible rfl)); done)); try simp only [Act.put, List.setIfInBounds_toArray, List.set_cons_zero, List.set_cons_succ])
            (refine wpL_calm (o := { dst := some 27, op := Go.Op.move (Go.Operand.tmp 8), type := 3, pos := "ref.go:10", after := #[], guard := none }) (v := ?_) rfl (Or.inl ⟨by rfl, ?_⟩) ?_; rotate_left; (focus (intro w hSw; (try dsimp only at hSw); go_simp; (try (with_reducible rfl)); done)); try simp only [Act.put, List.setIfInBounds_toArray, List.set_cons_zero, List.set_cons_succ])
            (refine wpL_calm (o := { dst := some 28, op := Go.Op.indexAddr 25 (Go.Operand.tmp 26) (Go.Operand.tmp 27), type := 0, pos := "ref.go:10", after := #[{ on := 0, ground := Go.Ground.data }, { on := 1, ground := Go.Ground.data }], guard := none }) (v := ?_) rfl (Or.inl ⟨by rfl, ?_⟩) ?_; rotate_left; (focus (intro w hSw; (try dsimp only at hSw); go_simp; (try (with_reducible rfl)); done)); try simp only [Act.put, List.setIfInBounds_toArray, List.set_cons_zero, List.set_cons_succ])
            (refine wpL_calm (o := { dst := some 29, op := Go.Op.load 9 (Go.Operand.tmp 28), type := 9, pos := "ref.go:10", after := #[{ on := 2, ground := Go.Ground.data }], guard := none }) (v := ?_) rfl (Or.inl ⟨by rfl, ?_⟩) ?_; rotate_left; (focus (intro w hSw; (try dsimp only at hSw); go_simp; (try (with_reducible rfl)); done)); try simp only [Act.put, List.setIfInBounds_toArray, List.set_cons_zero, List.set_cons_succ])
            (refine wpL_calm (o := { dst := some 30, op := Go.Op.move (Go.Operand.tmp 0), type := 25, pos := "ref.go:10", after := #[], guard := none }) (v := ?_) rfl (Or.inl ⟨by rfl, ?_⟩) ?_; rotate_left; (focus (intro w hSw; (try dsimp only at hSw); go_simp; (try (with_reducible rfl)); done)); try simp only [Act.put, List.setIfInBounds_toArray, List.set_cons_zero, List.set_cons_succ])
            (refine wpL_calm (o := { dst := some 31, op := Go.Op.move (Go.Operand.tmp 7), type := 3, pos := "ref.go:10", after := #[], guard := none }) (v := ?_) rfl (Or.inl ⟨by rfl, ?_⟩) ?_; rotate_left; (focus (intro w hSw; (try dsimp only at hSw); go_simp; (try (with_reducible rfl)); done)); try simp only [Act.put, List.setIfInBounds_toArray, List.set_cons_zero, List.set_cons_succ])
            (refine wpL_calm (o := { dst := some 32, op := Go.Op.indexAddr 25 (Go.Operand.tmp 30) (Go.Operand.tmp 31), type := 0, pos := "ref.go:10", after := #[{ on := 4, ground := Go.Ground.data }, { on := 5, ground := Go.Ground.data }], guard := none }) (v := ?_) rfl (Or.inl ⟨by rfl, ?_⟩) ?_; rotate_left; (focus (intro w hSw; (try dsimp only at hSw); go_simp; (try (with_reducible rfl)); done)); try simp only [Act.put, List.setIfInBounds_toArray, List.set_cons_zero, List.set_cons_succ])
            (refine wpL_calm (o := { dst := some 33, op := Go.Op.load 9 (Go.Operand.tmp 32), type := 9, pos := "ref.go:10", after := #[{ on := 6, ground := Go.Ground.data }], guard := none }) (v := ?_) rfl (Or.inl ⟨by rfl, ?_⟩) ?_; rotate_left; (focus (intro w hSw; (try dsimp only at hSw); go_simp; (try (with_reducible rfl)); done)); try simp only [Act.put, List.setIfInBounds_toArray, List.set_cons_zero, List.set_cons_succ])
            (refine wpL_calm (o := { dst := some 34, op := Go.Op.binOp Go.BinOp.neq 9 (Go.Operand.tmp 29) (Go.Operand.tmp 33) 9, type := 4, pos := "ref.go:10", after := #[{ on := 3, ground := Go.Ground.data }, { on := 7, ground := Go.Ground.data }], guard := none }) (v := ?_) rfl (Or.inl ⟨by rfl, ?_⟩) ?_; rotate_left; (focus (intro w hSw; (try dsimp only at hSw); go_simp; (try (with_reducible rfl)); done)); try simp only [Act.put, List.setIfInBounds_toArray, List.set_cons_zero, List.set_cons_succ])
            (refine wpL_calm (o := { dst := some 35, op := Go.Op.move (Go.Operand.tmp 34), type := 4, pos := "ref.go:10", after := #[{ on := 8, ground := Go.Ground.data }], guard := none }) (v := ?_) rfl (Or.inl ⟨by rfl, ?_⟩) ?_; rotate_left; (focus (intro w hSw; (try dsimp only at hSw); go_simp; (try (with_reducible rfl)); done)); try simp only [Act.put, List.setIfInBounds_toArray, List.set_cons_zero, List.set_cons_succ])
            first | (refine wpL_calm (o := { dst := some 36, op := Go.Op.move (Go.Operand.tmp 1), type := 41, pos := "ref.go:10", after := #[{ on := 9, ground := Go.Ground.guard }], guard := some (9, true) }) (v := ?_) rfl (Or.inl ⟨by rfl, ?_⟩) ?_; rotate_left; (focus (intro w hSw; (try dsimp only at hSw); go_simp; (try (with_reducible rfl)); done)); try simp only [Act.put, List.setIfInBounds_toArray, List.set_cons_zero, List.set_cons_succ]) | (refine wpL_calm (o := { dst := some 36, op := Go.Op.move (Go.Operand.tmp 1), type := 41, pos := "ref.go:10", after := #[{ on := 9, ground := Go.Ground.guard }], guard := some (9, true) }) (v := undef) rfl (Or.inr ⟨by rfl, rfl⟩) ?_; try simp only [Act.put, List.setIfInBounds_toArray, List.set_cons_zero, List.set_cons_succ])
            first | (refine wpL_calm (o := { dst := some 37, op := Go.Op.move (Go.Operand.tmp 8), type := 3, pos := "ref.go:10", after := #[{ on := 9, ground := Go.Ground.guard }], guard := some (9, true) }) (v := ?_) rfl (Or.inl ⟨by rfl, ?_⟩) ?_; rotate_left; (focus (intro w hSw; (try dsimp only at hSw); go_simp; (try (with_reducible rfl)); done)); try simp only [Act.put, List.setIfInBounds_toArray, List.set_cons_zero, List.set_cons_succ]) | (refine wpL_calm (o := { dst := some 37, op := Go.Op.move (Go.Operand.tmp 8), type := 3, pos := "ref.go:10", after := #[{ on := 9, ground := Go.Ground.guard }], guard := some (9, true) }) (v := undef) rfl (Or.inr ⟨by rfl, rfl⟩) ?_; try simp only [Act.put, List.setIfInBounds_toArray, List.set_cons_zero, List.set_cons_succ])
            first | (refine wpL_calm (o := { dst := some 38, op := Go.Op.indexAddr 41 (Go.Operand.tmp 36) (Go.Operand.tmp 37), type := 0, pos := "ref.go:10", after := #[{ on := 10, ground := Go.Ground.data }, { on := 11, ground := Go.Ground.data }, { on := 9, ground := Go.Ground.guard }], guard := some (9, true) }) (v := ?_) rfl (Or.inl ⟨by rfl, ?_⟩) ?_; rotate_left; (focus (intro w hSw; (try dsimp only at hSw); go_simp; (try (with_reducible rfl)); done)); try simp only [Act.put, List.setIfInBounds_toArray, List.set_cons_zero, List.set_cons_succ]) | (refine wpL_calm (o := { dst := some 38, op := Go.Op.indexAddr 41 (Go.Operand.tmp 36) (Go.Operand.tmp 37), type := 0, pos := "ref.go:10", after := #[{ on := 10, ground := Go.Ground.data }, { on := 11, ground := Go.Ground.data }, { on := 9, ground := Go.Ground.guard }], guard := some (9, true) }) (v := undef) rfl (Or.inr ⟨by rfl, rfl⟩) ?_; try simp only [Act.put, List.setIfInBounds_toArray, List.set_cons_zero, List.set_cons_succ])
            refine wpL_calm (o := { dst := some 39, op := Go.Op.load 34 (Go.Operand.tmp 38), type := 34, pos := "ref.go:10", after := #[{ on := 12, ground := Go.Ground.data }, { on := 9, ground := Go.Ground.guard }], guard := some (9, true) }) rfl (yieldsIf_load_mid (by rfl) _ _ rfl gd (od + i * 32) rfl BI _ (fun _ h => h.2.2.1) Tryd.underlying34 rfl (by rw [HLI.out]; kernel_rfl)) ?_; rw [HDI.out]
            try simp only [Act.put, List.setIfInBounds_toArray, List.set_cons_zero, List.set_cons_succ]
            first | (refine wpL_calm (o := { dst := some 40, op := Go.Op.move (Go.Operand.tmp 1), type := 41, pos := "ref.go:10", after := #[{ on := 9, ground := Go.Ground.guard }], guard := some (9, true) }) (v := ?_) rfl (Or.inl ⟨by rfl, ?_⟩) ?_; rotate_left; (focus (intro w hSw; (try dsimp only at hSw); go_simp; (try (with_reducible rfl)); done)); try simp only [Act.put, List.setIfInBounds_toArray, List.set_cons_zero, List.set_cons_succ]) | (refine wpL_calm (o := { dst := some 40, op := Go.Op.move (Go.Operand.tmp 1), type := 41, pos := "ref.go:10", after := #[{ on := 9, ground := Go.Ground.guard }], guard := some (9, true) }) (v := undef) rfl (Or.inr ⟨by rfl, rfl⟩) ?_; try simp only [Act.put, List.setIfInBounds_toArray, List.set_cons_zero, List.set_cons_succ])
            first | (refine wpL_calm (o := { dst := some 41, op := Go.Op.move (Go.Operand.tmp 7), type := 3, pos := "ref.go:10", after := #[{ on := 9, ground := Go.Ground.guard }], guard := some (9, true) }) (v := ?_) rfl (Or.inl ⟨by rfl, ?_⟩) ?_; rotate_left; (focus (intro w hSw; (try dsimp only at hSw); go_simp; (try (with_reducible rfl)); done)); try simp only [Act.put, List.setIfInBounds_toArray, List.set_cons_zero, List.set_cons_succ]) | (refine wpL_calm (o := { dst := some 41, op := Go.Op.move (Go.Operand.tmp 7), type := 3, pos := "ref.go:10", after := #[{ on := 9, ground := Go.Ground.guard }], guard := some (9, true) }) (v := undef) rfl (Or.inr ⟨by rfl, rfl⟩) ?_; try simp only [Act.put, List.setIfInBounds_toArray, List.set_cons_zero, List.set_cons_succ])
            first | (refine wpL_calm (o := { dst := some 42, op := Go.Op.indexAddr 41 (Go.Operand.tmp 40) (Go.Operand.tmp 41), type := 0, pos := "ref.go:10", after := #[{ on := 14, ground := Go.Ground.data }, { on := 15, ground := Go.Ground.data }, { on := 9, ground := Go.Ground.guard }], guard := some (9, true) }) (v := ?_) rfl (Or.inl ⟨by rfl, ?_⟩) ?_; rotate_left; (focus (intro w hSw; (try dsimp only at hSw); go_simp; (try (with_reducible rfl)); done)); try simp only [Act.put, List.setIfInBounds_toArray, List.set_cons_zero, List.set_cons_succ]) | (refine wpL_calm (o := { dst := some 42, op := Go.Op.indexAddr 41 (Go.Operand.tmp 40) (Go.Operand.tmp 41), type := 0, pos := "ref.go:10", after := #[{ on := 14, ground := Go.Ground.data }, { on := 15, ground := Go.Ground.data }, { on := 9, ground := Go.Ground.guard }], guard := some (9, true) }) (v := undef) rfl (Or.inr ⟨by rfl, rfl⟩) ?_; try simp only [Act.put, List.setIfInBounds_toArray, List.set_cons_zero, List.set_cons_succ])
            refine wpL_calm (o := { dst := some 43, op := Go.Op.load 34 (Go.Operand.tmp 42), type := 34, pos := "ref.go:10", after := #[{ on := 16, ground := Go.Ground.data }, { on := 9, ground := Go.Ground.guard }], guard := some (9, true) }) rfl (yieldsIf_load_mid (by rfl) _ _ rfl gd (od + k * 32) rfl BK _ (fun _ h => h.2.2.2) Tryd.underlying34 rfl (by rw [HLK.out]; kernel_rfl)) ?_; rw [HDK.out]
            try simp only [Act.put, List.setIfInBounds_toArray, List.set_cons_zero, List.set_cons_succ]
            first | (refine wpL_calm (o := { dst := some 44, op := Go.Op.binOp Go.BinOp.eql 34 (Go.Operand.tmp 39) (Go.Operand.tmp 43) 34, type := 4, pos := "ref.go:10", after := #[{ on := 13, ground := Go.Ground.data }, { on := 17, ground := Go.Ground.data }, { on := 9, ground := Go.Ground.guard }], guard := some (9, true) }) (v := ?_) rfl (Or.inl ⟨by rfl, ?_⟩) ?_; rotate_left; (focus (intro w hSw; (try dsimp only at hSw); go_simp; (try (with_reducible rfl)); done)); try simp only [Act.put, List.setIfInBounds_toArray, List.set_cons_zero, List.set_cons_succ]) | (refine wpL_calm (o := { dst := some 44, op := Go.Op.binOp Go.BinOp.eql 34 (Go.Operand.tmp 39) (Go.Operand.tmp 43) 34, type := 4, pos := "ref.go:10", after := #[{ on := 13, ground := Go.Ground.data }, { on := 17, ground := Go.Ground.data }, { on := 9, ground := Go.Ground.guard }], guard := some (9, true) }) (v := undef) rfl (Or.inr ⟨by rfl, rfl⟩) ?_; try simp only [Act.put, List.setIfInBounds_toArray, List.set_cons_zero, List.set_cons_succ])
            (refine wpL_calm (o := { dst := some 45, op := Go.Op.pick (Go.Operand.tmp 35) (Go.Operand.tmp 44) (Go.Operand.const (Go.Value.bool false)), type := 4, pos := "ref.go:10", after := #[{ on := 9, ground := Go.Ground.data }, { on := 18, ground := Go.Ground.data }], guard := none }) (v := ?_) rfl (Or.inl ⟨by rfl, ?_⟩) ?_; rotate_left; (focus (intro w hSw; (try dsimp only at hSw); go_simp; (try (with_reducible rfl)); done)); try simp only [Act.put, List.setIfInBounds_toArray, List.set_cons_zero, List.set_cons_succ])
            refine wpL_nil ?_
            refine NoPanic.normal ?_
            clear hHeld hsi hsk
            cases r2
            · go_wp2_with fail
              go_roundw
              case rel => exact ⟨i + 1, by go_num, by omega, HI1 rfl, Lib.hid HB.out.drew⟩
              case measure => simp [intOf]; omega
            · have HPS : Hid (pairF L X N = some (i, k)) := Lib.hid (by
                have := HMONO.out (k + 1) (N - (k + 1)) (i, k) (HSOME.out i k (by omega) hik HK.out HI.out (by rw [HHH.out]; rfl))
                rwa [show k + 1 + (N - (k + 1)) = N from by omega] at this)
              go_wp2_with fail
              go_ret3
              refine ⟨by rw [HNN.out, HPS.out]; rfl, HB.out.drew⟩
        · as_aux_lemma =>
          obtain rfl : i = k := by omega
          go_wp2_with fail
          go_roundw
          case rel => exact ⟨i + 1, by go_num, by omega, Lib.hid (fun k' h i' h' => by
              by_cases q : k' = i
              · subst q; exact HI.out i' h'
              · exact HK.out k' (by omega) i' h'), HB⟩
          case measure => simp [intOf]; omega
    · as_aux_lemma =>
      obtain rfl : k = N := by omega
      have HPN : Hid (pairF L X k = none) := Lib.hid (HNONE.out k (by omega) HK.out)
      rcases (show (¬ (k : Int) < (nl : Int)) ∨ ((k : Int) < (nl : Int) ∧ ¬ (k : Int) < (m : Int)) by omega) with q | ⟨q, q2⟩
      · go_wp2_with fail
        go_ret3
        exact ⟨by rw [HNN.out, HPN.out]; rfl, HB.out⟩
      · go_wp2_with fail
        go_ret3
        exact ⟨by rw [HNN.out, HPN.out]; rfl, HB.out⟩
end Go.Proofs.YtpoffbbapefkcaaDoor
