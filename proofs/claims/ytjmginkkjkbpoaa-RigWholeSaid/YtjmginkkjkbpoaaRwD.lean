/- The reference's devices: Crash. -/
import Derived.Test.YtjmginkkjkbpoaaRwC
namespace Go.Proofs.Ytjmginkkjkbpoaa
open Go.RowKit Go.Deep
set_option linter.unusedVariables false
set_option linter.unusedSimpArgs false
theorem txV_snoc (T : Nat → ByteArray) (n : Nat) (s : ByteArray) : txV (fun k => if k = n then s else T k) (n + 1) = txV T n ++ [.string s] := by
  unfold txV
  rw [List.range_succ, List.map_append, List.map_singleton]
  dsimp only
  rw [if_pos rfl]
  congr 1
  exact List.map_congr_left fun k hk => by rw [if_neg (by have := List.mem_range.1 hk; omega)]
theorem txV_nil (T : Nat → ByteArray) : txV T 0 = [] := rfl
theorem own_at12 {w : World} {base n : Nat} {e : TypeId} {v : Value} {xs : List Value} (h : w.ownsRow base e 1 v n xs) : ∃ a c, v = .slice a n c := by
  rcases h.2 with ⟨rfl, h0⟩ | ⟨g, cap, cur, rfl, _⟩
  · exact ⟨none, 0, by rw [h0]⟩
  · exact ⟨_, _, rfl⟩
theorem one_at12 (w : World) (t : TypeId) (v : Value) : ∀ j u, [v][j]? = some u → (w.alloc (.cells #[v] t)).cell? ((⟨w.heap.size, 0, none⟩ : Addr).add j) = some u := by
  intro j u hu
  rw [Addr.add_lit, Nat.zero_add, cell_of_row _ _ j _ _ _ (heap_alloc_new _ _)]
  simpa using hu
theorem own_keep12 {w : World} {base n : Nat} {e : TypeId} {v : Value} {xs : List Value} (h : w.ownsRow base e 1 v n xs) : w.drew.ownsRow base e 1 v n xs := h
theorem size_all {T : Nat → ByteArray} {i : Nat} {s : ByteArray} (h : ∀ j, j < i → (T j).size = 64) (hs : s.size = 64) : ∀ j, j < i + 1 → ((fun k => if k = i then s else T k) j).size = 64 := fun j hj => by
  dsimp only
  split
  · exact hs
  · exact h j (by omega)
set_option maxRecDepth 100000 in
set_option maxHeartbeats 60000000 in
theorem dvCrash_any (B g : Nat) (L : LsV) (w : World) (hD : DAt w B g) (hBw : B ≤ w.heap.size) (hL : LsAt w L) : Calls Try.prog 59 #[.pointer (some ⟨g, 0, none⟩), .agg L.cells] w fun e w' => e = .returned (.tuple #[]) ∧ DAt w' B g ∧ Kq B [g] w w' := by
  obtain ⟨is, his, hs0, hs1, hs2⟩ := inf12 inf12s
  obtain ⟨ao, kl, kc, keep, torn, bytes⟩ := L
  obtain ⟨hB, n, sf, b, hg, hn, hsf, hb⟩ := hD
  have HG := Lib.hid hg
  have HNN := Lib.hid hn
  have HSF := Lib.hid hsf
  have HBB := Lib.hid hb
  obtain ⟨gn, cn, Tn, rfl, _, _, hBn, ⟨csn, hgn⟩, hcn⟩ := hn
  obtain ⟨gs, cs_, Ts, rfl, _, _, hBs, ⟨css, hgs⟩, hcs⟩ := hsf
  obtain ⟨gb, cb, Tb, rfl, _, _, hBb, ⟨csb, hgb⟩, hcb⟩ := hb
  have hgd := (Array.getElem?_eq_some_iff.1 hg).1
  have hln := (Array.getElem?_eq_some_iff.1 hgn).1
  have hls := (Array.getElem?_eq_some_iff.1 hgs).1
  have hlb := (Array.getElem?_eq_some_iff.1 hgb).1
  have HCN := Lib.hid hcn
  have HCS := Lib.hid hcs
  have HCB := Lib.hid hcb
  have HLA := Lib.hid hL
  unfold LsV.cells
  dsimp only
  obtain ⟨w1, HW, hxb, HB1⟩ : ∃ w1, Hid (w.alloc (.cells #[.slice ao kl kc, .int .i64 torn, .int .i64 bytes] 32) = w1) ∧ Hid (w1.heap[w.heap.size]? = some (.cells #[.slice ao kl kc, .int .i64 torn, .int .i64 bytes] 32 (0, 0))) ∧ Hid (Below w.heap.size w w1) := ⟨_, Lib.hid rfl, Lib.hid (heap_alloc_new _ _), Lib.hid ((Below.refl _ _).alloc (Nat.le_refl _) _)⟩
  have hl1 : w.heap.size < w1.heap.size := (Array.getElem?_eq_some_iff.1 hxb.out).1
  have l0 := cell_of_row _ _ 0 _ _ _ hxb.out
  have l1 := cell_of_row _ _ 1 _ _ _ hxb.out
  have l2 := cell_of_row _ _ 2 _ _ _ hxb.out
  have L0 : Hid (w1.cell? ⟨w.heap.size, 0, none⟩ = some (.slice ao kl kc)) := Lib.hid l0
  have L1 : Hid (w1.cell? ⟨w.heap.size, 1, none⟩ = some (.int .i64 torn)) := Lib.hid l1
  have PF := Lib.hid (fun (w' : World) (h : DAt w' B g) (h2 : B ≤ w'.heap.size) => dvFlush_any B g w' h h2)
  clear hg hgn hgs hgb hcn hcs hcb hL l0 l1
  have h00 : Hid (∀ j, j < 0 → ((fun _ => ⟨#[]⟩ : Nat → ByteArray) j).size = 64) := Lib.hid (fun j hj => absurd hj (by omega))
  have HO0 : Hid (w1.ownsRow w1.heap.size 9 1 (.slice none 0 0) 0 (txV (fun _ => ⟨#[]⟩) 0)) := Lib.hid (World.ownsRow_nil _ _ _ _)
  have HB0 : Hid (Below w1.heap.size w1 w1) := Lib.hid (Below.refl _ _)
  rcases (show bytes < 0 ∨ (¬ bytes < 0 ∧ 64 < bytes) ∨ (¬ bytes < 0 ∧ ¬ 64 < bytes) by omega) with q0 | ⟨q0, q1⟩ | ⟨q0, q1⟩
  · go_enter Try.func59, Try.ntmps59
    go_upto_region 1 with fail
    rw [HW.out]
    clear HW
    go_wp2_with fail
    clear l2
    go_loopw [5, 6, 7, 8] (fun x5 x6 _ _ wi => ∃ (i : Nat) (v : Value) (T : Nat → ByteArray), x6 = .int .i64 (i : Int) ∧ x5 = v ∧ i ≤ 288 ∧ Hid (wi.ownsRow w1.heap.size 9 1 v i (txV T i)) ∧ Hid (∀ j, j < i → (T j).size = 64) ∧ Hid (Below w1.heap.size w1 wi)) (fun _ x _ _ _ => 288 - (intOf x).toNat)
    case atStart => exact ⟨0, _, _, rfl, rfl, by omega, HO0, h00, HB0⟩
    clear HO0 h00 HB0
    case round =>
      obtain ⟨i, v, T, rfl, rfl, hi, HO, HSI, HBi⟩ := hrel
      have HBW := Lib.hid (HB1.out.trans (HBi.out.mono HB1.out.size))
      have hgi := (HBW.out.block g hgd).trans HG.out
      obtain ⟨d0, d1, d2, -⟩ := dv_cells hgi
      by_cases hlt : i < 288
      · as_aux_lemma =>
        have hli : (i : Int) < 288 := by omega
        have hni := (HBW.out.cell (p := ⟨gn, i, none⟩) hln).trans (HCN.out i hlt).1
        have hsi := (HBW.out.cell (p := ⟨gs, i, none⟩) hls).trans (HCS.out i hlt).1
        have hbi := (HBW.out.cell (p := ⟨gb, i, none⟩) hlb).trans (HCB.out i hlt)
        have hsn : (Tn i).size = 64 := (HCN.out i hlt).2
        have hss : (Ts i).size = 64 := (HCS.out i hlt).2
        have l0 := (HBi.out.cell (p := ⟨w.heap.size, 0, none⟩) hl1).trans L0.out
        have l1 := (HBi.out.cell (p := ⟨w.heap.size, 1, none⟩) hl1).trans L1.out
        obtain ⟨k, hk⟩ : ∃ k, Hid (i % 64 = k) := ⟨_, Lib.hid rfl⟩
        have y1 : (i : Int).tmod 64 = (k : Int) := by rw [Int.tmod_eq_emod_of_nonneg (by omega)]; have := hk.out; omega
        have y1' : (i : Int) % 64 = (k : Int) := by have := hk.out; omega
        have y2 : IntKind.i64.wrap (k : Int) = (k : Int) := IntWalk.i64_in _ (by have := hk.out; omega)
        have HSN := Lib.hid hsn
        have HSS := Lib.hid hss
        clear hsn hss
        generalize Tn i = tn at *
        generalize Ts i = ts at *
        generalize Tb i = tb at *
        cases tb with
        | false =>
          go_wp2_with (at_builtin; refine wpList_append_own _ rfl _ _ 77 rfl w1.heap.size 9 is (.string ⟨#[]⟩) 1 16 Try.underlying77 his hs0 hs1 hs2 rfl (by decide) _ i (txV T i) rfl (HO.out.alloc _) ⟨wr.heap.size, 0, none⟩ 1 1 [.string tn] rfl rfl (one_at12 _ _ _) (fun u hu => by simp at hu; subst hu; rfl) (by unfold maxLen; omega) (by omega) (by have := HBi.out.size; simp; omega) ?_)
          intro v9 w9 O9 G9 _
          rw [← txV_snoc] at O9
          have HO9 := Lib.hid O9
          have HS9 := Lib.hid (size_all HSI.out HSN.out)
          have HB9 : Hid (Below w1.heap.size w1 w9) := Lib.hid ((HBi.out.alloc HBi.out.size _).grown G9 (by have := HBi.out.size; simp; omega) (fun q hq => (HO.out.lt q hq).1))
          obtain ⟨a9, c9, rfl⟩ := own_at12 O9
          clear O9 G9 HO HSI HBi
          go_wp2_with fail
          go_roundw
          case rel => exact ⟨i + 1, _, _, by go_num, rfl, by omega, HO9, HS9, HB9⟩
          case measure => simp [intOf]; omega
        | true =>
          by_cases hkl : k < kl
          · have hkli : (k : Int) < (kl : Int) := by omega
            obtain ⟨kb, ko, rfl, hkb, _, hkc⟩ : ∃ kb ko, ao = some ⟨kb, ko, none⟩ ∧ kb < w.heap.size ∧ kl ≤ 140737488351232 ∧ ∀ j, j < kl → w.cell? ⟨kb, ko + j, none⟩ = some (.bool (keep j)) := by
              rcases HLA.out with h | h
              · exact absurd h (by show ¬ kl = 0; omega)
              · exact h
            have hki := (HBW.out.cell (p := ⟨kb, ko + k, none⟩) hkb).trans (hkc k hkl)
            clear hkc
            generalize keep k = kp at *
            cases kp with
            | true =>
              go_wp2_with (at_builtin; refine wpList_append_own _ rfl _ _ 77 rfl w1.heap.size 9 is (.string ⟨#[]⟩) 1 16 Try.underlying77 his hs0 hs1 hs2 rfl (by decide) _ i (txV T i) rfl (HO.out.alloc _) ⟨wr.heap.size, 0, none⟩ 1 1 [.string tn] rfl rfl (one_at12 _ _ _) (fun u hu => by simp at hu; subst hu; rfl) (by unfold maxLen; omega) (by omega) (by have := HBi.out.size; simp; omega) ?_)
              intro v9 w9 O9 G9 _
              rw [← txV_snoc] at O9
              have HO9 := Lib.hid O9
              have HS9 := Lib.hid (size_all HSI.out HSN.out)
              have HB9 : Hid (Below w1.heap.size w1 w9) := Lib.hid ((HBi.out.alloc HBi.out.size _).grown G9 (by have := HBi.out.size; simp; omega) (fun q hq => (HO.out.lt q hq).1))
              obtain ⟨a9, c9, rfl⟩ := own_at12 O9
              clear O9 G9 HO HSI HBi
              go_wp2_with fail
              go_roundw
              case rel => exact ⟨i + 1, _, _, by go_num, rfl, by omega, HO9, HS9, HB9⟩
              case measure => simp [intOf]; omega
            | false =>
              by_cases ht : (i : Int) = torn
              · have ht' : ((i : Int) == torn) = true := by simpa using ht
                clear ht
                have hzn : tn.size = 64 := HSN.out
                have hzs : ts.size = 64 := HSS.out
                have HSX : Hid ((ts.extract 0 64).size = 64) := Lib.hid (by rw [ByteArray.size_extract]; omega)
                have hcat : (9223372036854775807 < (tn.extract 0 0).size + (ts.extract 0 64).size) = False := by rw [ByteArray.size_extract, ByteArray.size_extract]; simp; omega
                have HO := Lib.hid (own_keep12 HO.out)
                have HBi := Lib.hid HBi.out.drew
                go_upto_region 15 with fail
                refine wp_region_lin_all (S := (fun w' => w'.cell? ⟨g, 0, none⟩ = some (.slice (some ⟨gn, 0, none⟩) 288 cn) ∧ w'.cell? ⟨g, 1, none⟩ = some (.slice (some ⟨gs, 0, none⟩) 288 cs_) ∧ w'.cell? ⟨gn, i, none⟩ = some (.string tn) ∧ w'.cell? ⟨gs, i, none⟩ = some (.string ts))) [(0, true), (1, true), (2, true), (3, true), (4, true), (5, true), (6, true), (7, true), (8, true), (9, true), (10, true), (11, true), (12, true), (13, true), (14, true), (15, true), (16, true), (17, true), (18, true), (19, true)] (by kernel_rfl) (by kernel_rfl) rfl (by kernel_rfl) ?_ (fun hHeld => ?_)
                · (try dsimp only); exact ⟨d0, d1, hni, hsi⟩
                generalize World.drew wr = wq at hHeld HO HBi ⊢
                refine wpL_calm (o := { dst := some 84, op := Go.Op.move (Go.Operand.tmp 0), type := 59, pos := "ref.go:74", after := #[], guard := none }) (v := ?_) rfl (Or.inl ⟨by rfl, ?_⟩) ?_; rotate_left; (focus (intro w hSw; (try dsimp only at hSw); go_simp; (try (with_reducible rfl)); done)); try simp only [Act.put, List.setIfInBounds_toArray, List.set_cons_zero, List.set_cons_succ]
                refine wpL_calm (o := { dst := some 85, op := Go.Op.nilCheck (Go.Operand.tmp 84), type := 0, pos := "ref.go:74", after := #[{ on := 0, ground := Go.Ground.data }], guard := none }) (v := ?_) rfl (Or.inl ⟨by rfl, ?_⟩) ?_; rotate_left; (focus (intro w hSw; (try dsimp only at hSw); go_simp; (try (with_reducible rfl)); done)); try simp only [Act.put, List.setIfInBounds_toArray, List.set_cons_zero, List.set_cons_succ]
                refine wpL_calm (o := { dst := some 86, op := Go.Op.fieldAddr 79 (Go.Operand.tmp 85) 0, type := 0, pos := "ref.go:74", after := #[{ on := 1, ground := Go.Ground.data }], guard := none }) (v := ?_) rfl (Or.inl ⟨by rfl, ?_⟩) ?_; rotate_left; (focus (intro w hSw; (try dsimp only at hSw); go_simp; (try (with_reducible rfl)); done)); try simp only [Act.put, List.setIfInBounds_toArray, List.set_cons_zero, List.set_cons_succ]
                refine wpL_calm (o := { dst := some 87, op := Go.Op.load 77 (Go.Operand.tmp 86), type := 77, pos := "ref.go:74", after := #[{ on := 2, ground := Go.Ground.data }], guard := none }) (v := ?_) rfl (Or.inl ⟨by rfl, ?_⟩) ?_; rotate_left; (focus (intro w hSw; (try dsimp only at hSw); go_simp; (try (with_reducible rfl)); done)); try simp only [Act.put, List.setIfInBounds_toArray, List.set_cons_zero, List.set_cons_succ]
                refine wpL_calm (o := { dst := some 88, op := Go.Op.move (Go.Operand.tmp 6), type := 3, pos := "ref.go:74", after := #[], guard := none }) (v := ?_) rfl (Or.inl ⟨by rfl, ?_⟩) ?_; rotate_left; (focus (intro w hSw; (try dsimp only at hSw); go_simp; (try (with_reducible rfl)); done)); try simp only [Act.put, List.setIfInBounds_toArray, List.set_cons_zero, List.set_cons_succ]
                refine wpL_calm (o := { dst := some 89, op := Go.Op.indexAddr 77 (Go.Operand.tmp 87) (Go.Operand.tmp 88), type := 0, pos := "ref.go:74", after := #[{ on := 3, ground := Go.Ground.data }, { on := 4, ground := Go.Ground.data }], guard := none }) (v := ?_) rfl (Or.inl ⟨by rfl, ?_⟩) ?_; rotate_left; (focus (intro w hSw; (try dsimp only at hSw); go_simp; (try (with_reducible rfl)); done)); try simp only [Act.put, List.setIfInBounds_toArray, List.set_cons_zero, List.set_cons_succ]
                refine wpL_calm (o := { dst := some 90, op := Go.Op.load 9 (Go.Operand.tmp 89), type := 9, pos := "ref.go:74", after := #[{ on := 5, ground := Go.Ground.data }], guard := none }) (v := ?_) rfl (Or.inl ⟨by rfl, ?_⟩) ?_; rotate_left; (focus (intro w hSw; (try dsimp only at hSw); go_simp; (try (with_reducible rfl)); done)); try simp only [Act.put, List.setIfInBounds_toArray, List.set_cons_zero, List.set_cons_succ]
                refine wpL_calm (o := { dst := some 91, op := Go.Op.move (Go.Operand.tmp 4), type := 3, pos := "ref.go:74", after := #[], guard := none }) (v := ?_) rfl (Or.inl ⟨by rfl, ?_⟩) ?_; rotate_left; (focus (intro w hSw; (try dsimp only at hSw); go_simp; (try (with_reducible rfl)); done)); try simp only [Act.put, List.setIfInBounds_toArray, List.set_cons_zero, List.set_cons_succ]
                refine wpL_calm (o := { dst := some 92, op := Go.Op.slice 9 (Go.Operand.tmp 90) none (some (Go.Operand.tmp 91)) none, type := 9, pos := "ref.go:74", after := #[{ on := 6, ground := Go.Ground.data }, { on := 7, ground := Go.Ground.data }], guard := none }) (v := ?_) rfl (Or.inl ⟨by rfl, ?_⟩) ?_; rotate_left; (focus (intro w hSw; (try dsimp only at hSw); go_simp; (try (with_reducible rfl)); done)); try simp only [Act.put, List.setIfInBounds_toArray, List.set_cons_zero, List.set_cons_succ]
                refine wpL_calm (o := { dst := some 93, op := Go.Op.move (Go.Operand.tmp 0), type := 59, pos := "ref.go:74", after := #[], guard := none }) (v := ?_) rfl (Or.inl ⟨by rfl, ?_⟩) ?_; rotate_left; (focus (intro w hSw; (try dsimp only at hSw); go_simp; (try (with_reducible rfl)); done)); try simp only [Act.put, List.setIfInBounds_toArray, List.set_cons_zero, List.set_cons_succ]
                refine wpL_calm (o := { dst := some 94, op := Go.Op.nilCheck (Go.Operand.tmp 93), type := 0, pos := "ref.go:74", after := #[{ on := 9, ground := Go.Ground.data }], guard := none }) (v := ?_) rfl (Or.inl ⟨by rfl, ?_⟩) ?_; rotate_left; (focus (intro w hSw; (try dsimp only at hSw); go_simp; (try (with_reducible rfl)); done)); try simp only [Act.put, List.setIfInBounds_toArray, List.set_cons_zero, List.set_cons_succ]
                refine wpL_calm (o := { dst := some 95, op := Go.Op.fieldAddr 79 (Go.Operand.tmp 94) 1, type := 0, pos := "ref.go:74", after := #[{ on := 10, ground := Go.Ground.data }], guard := none }) (v := ?_) rfl (Or.inl ⟨by rfl, ?_⟩) ?_; rotate_left; (focus (intro w hSw; (try dsimp only at hSw); go_simp; (try (with_reducible rfl)); done)); try simp only [Act.put, List.setIfInBounds_toArray, List.set_cons_zero, List.set_cons_succ]
                refine wpL_calm (o := { dst := some 96, op := Go.Op.load 77 (Go.Operand.tmp 95), type := 77, pos := "ref.go:74", after := #[{ on := 11, ground := Go.Ground.data }], guard := none }) (v := ?_) rfl (Or.inl ⟨by rfl, ?_⟩) ?_; rotate_left; (focus (intro w hSw; (try dsimp only at hSw); go_simp; (try (with_reducible rfl)); done)); try simp only [Act.put, List.setIfInBounds_toArray, List.set_cons_zero, List.set_cons_succ]
                refine wpL_calm (o := { dst := some 97, op := Go.Op.move (Go.Operand.tmp 6), type := 3, pos := "ref.go:74", after := #[], guard := none }) (v := ?_) rfl (Or.inl ⟨by rfl, ?_⟩) ?_; rotate_left; (focus (intro w hSw; (try dsimp only at hSw); go_simp; (try (with_reducible rfl)); done)); try simp only [Act.put, List.setIfInBounds_toArray, List.set_cons_zero, List.set_cons_succ]
                refine wpL_calm (o := { dst := some 98, op := Go.Op.indexAddr 77 (Go.Operand.tmp 96) (Go.Operand.tmp 97), type := 0, pos := "ref.go:74", after := #[{ on := 12, ground := Go.Ground.data }, { on := 13, ground := Go.Ground.data }], guard := none }) (v := ?_) rfl (Or.inl ⟨by rfl, ?_⟩) ?_; rotate_left; (focus (intro w hSw; (try dsimp only at hSw); go_simp; (try (with_reducible rfl)); done)); try simp only [Act.put, List.setIfInBounds_toArray, List.set_cons_zero, List.set_cons_succ]
                refine wpL_calm (o := { dst := some 99, op := Go.Op.load 9 (Go.Operand.tmp 98), type := 9, pos := "ref.go:74", after := #[{ on := 14, ground := Go.Ground.data }], guard := none }) (v := ?_) rfl (Or.inl ⟨by rfl, ?_⟩) ?_; rotate_left; (focus (intro w hSw; (try dsimp only at hSw); go_simp; (try (with_reducible rfl)); done)); try simp only [Act.put, List.setIfInBounds_toArray, List.set_cons_zero, List.set_cons_succ]
                refine wpL_calm (o := { dst := some 100, op := Go.Op.move (Go.Operand.tmp 4), type := 3, pos := "ref.go:74", after := #[], guard := none }) (v := ?_) rfl (Or.inl ⟨by rfl, ?_⟩) ?_; rotate_left; (focus (intro w hSw; (try dsimp only at hSw); go_simp; (try (with_reducible rfl)); done)); try simp only [Act.put, List.setIfInBounds_toArray, List.set_cons_zero, List.set_cons_succ]
                refine wpL_calm (o := { dst := some 101, op := Go.Op.slice 9 (Go.Operand.tmp 99) (some (Go.Operand.tmp 100)) none none, type := 9, pos := "ref.go:74", after := #[{ on := 15, ground := Go.Ground.data }, { on := 16, ground := Go.Ground.data }], guard := none }) (v := ?_) rfl (Or.inl ⟨by rfl, ?_⟩) ?_; rotate_left; (focus (intro w hSw; (try dsimp only at hSw); go_simp; (try (with_reducible rfl)); done)); try simp only [Act.put, List.setIfInBounds_toArray, List.set_cons_zero, List.set_cons_succ]
                refine wpL_calm (o := { dst := some 102, op := Go.Op.binOp Go.BinOp.add 9 (Go.Operand.tmp 92) (Go.Operand.tmp 101) 9, type := 9, pos := "ref.go:74", after := #[{ on := 8, ground := Go.Ground.data }, { on := 17, ground := Go.Ground.data }], guard := none }) (v := ?_) rfl (Or.inl ⟨by rfl, ?_⟩) ?_; rotate_left; (focus (intro w hSw; (try dsimp only at hSw); go_simp; (try (with_reducible rfl)); done)); try simp only [Act.put, List.setIfInBounds_toArray, List.set_cons_zero, List.set_cons_succ]
                refine wpL_calm (o := { dst := some 7, op := Go.Op.assign (Go.Operand.tmp 102), type := 9, pos := "ref.go:74", after := #[{ on := 18, ground := Go.Ground.data }, { on := 0, ground := Go.Ground.phase }, { on := 1, ground := Go.Ground.phase }, { on := 2, ground := Go.Ground.phase }, { on := 3, ground := Go.Ground.phase }, { on := 4, ground := Go.Ground.phase }, { on := 5, ground := Go.Ground.phase }, { on := 6, ground := Go.Ground.phase }, { on := 7, ground := Go.Ground.phase }, { on := 8, ground := Go.Ground.phase }, { on := 9, ground := Go.Ground.phase }, { on := 10, ground := Go.Ground.phase }, { on := 11, ground := Go.Ground.phase }, { on := 12, ground := Go.Ground.phase }, { on := 13, ground := Go.Ground.phase }, { on := 14, ground := Go.Ground.phase }, { on := 15, ground := Go.Ground.phase }, { on := 16, ground := Go.Ground.phase }, { on := 17, ground := Go.Ground.phase }, { on := 18, ground := Go.Ground.phase }], guard := none }) (v := ?_) rfl (Or.inl ⟨by rfl, ?_⟩) ?_; rotate_left; (focus (intro w hSw; (try dsimp only at hSw); go_simp; (try (with_reducible rfl)); done)); try simp only [Act.put, List.setIfInBounds_toArray, List.set_cons_zero, List.set_cons_succ]
                refine wpL_nil ?_
                refine NoPanic.normal ?_
                clear hHeld hcat
                generalize (ts.extract 0 64) = tx at *
                go_wp2_with (at_builtin; refine wpList_append_own _ rfl _ _ 77 rfl w1.heap.size 9 is (.string ⟨#[]⟩) 1 16 Try.underlying77 his hs0 hs1 hs2 rfl (by decide) _ i (txV T i) rfl (HO.out.alloc _) ⟨wq.heap.size, 0, none⟩ 1 1 [.string tx] rfl rfl (one_at12 _ _ _) (fun u hu => by simp at hu; subst hu; rfl) (by unfold maxLen; omega) (by omega) (by have := HBi.out.size; simp; omega) ?_)
                intro v9 w9 O9 G9 _
                rw [← txV_snoc] at O9
                have HO9 := Lib.hid O9
                have HS9 := Lib.hid (size_all HSI.out HSX.out)
                have HB9 : Hid (Below w1.heap.size w1 w9) := Lib.hid ((HBi.out.alloc HBi.out.size _).grown G9 (by have := HBi.out.size; simp; omega) (fun q hq => (HO.out.lt q hq).1))
                obtain ⟨a9, c9, rfl⟩ := own_at12 O9
                clear O9 G9 HO HSI HBi
                go_wp2_with fail
                go_roundw
                case rel => exact ⟨i + 1, _, _, by go_num, rfl, by omega, HO9, HS9, HB9⟩
                case measure => simp [intOf]; omega
              · have ht' : ((i : Int) == torn) = false := by simpa using ht
                clear ht
                go_wp2_with (at_builtin; refine wpList_append_own _ rfl _ _ 77 rfl w1.heap.size 9 is (.string ⟨#[]⟩) 1 16 Try.underlying77 his hs0 hs1 hs2 rfl (by decide) _ i (txV T i) rfl (HO.out.alloc _) ⟨wr.heap.size, 0, none⟩ 1 1 [.string ts] rfl rfl (one_at12 _ _ _) (fun u hu => by simp at hu; subst hu; rfl) (by unfold maxLen; omega) (by omega) (by have := HBi.out.size; simp; omega) ?_)
                intro v9 w9 O9 G9 _
                rw [← txV_snoc] at O9
                have HO9 := Lib.hid O9
                have HS9 := Lib.hid (size_all HSI.out HSS.out)
                have HB9 : Hid (Below w1.heap.size w1 w9) := Lib.hid ((HBi.out.alloc HBi.out.size _).grown G9 (by have := HBi.out.size; simp; omega) (fun q hq => (HO.out.lt q hq).1))
                obtain ⟨a9, c9, rfl⟩ := own_at12 O9
                clear O9 G9 HO HSI HBi
                go_wp2_with fail
                go_roundw
                case rel => exact ⟨i + 1, _, _, by go_num, rfl, by omega, HO9, HS9, HB9⟩
                case measure => simp [intOf]; omega
          · have hkli : ¬ (k : Int) < (kl : Int) := by omega
            by_cases ht : (i : Int) = torn
            · have ht' : ((i : Int) == torn) = true := by simpa using ht
              clear ht
              have hzn : tn.size = 64 := HSN.out
              have hzs : ts.size = 64 := HSS.out
              have HSX : Hid ((ts.extract 0 64).size = 64) := Lib.hid (by rw [ByteArray.size_extract]; omega)
              have hcat : (9223372036854775807 < (tn.extract 0 0).size + (ts.extract 0 64).size) = False := by rw [ByteArray.size_extract, ByteArray.size_extract]; simp; omega
              have HO := Lib.hid (own_keep12 HO.out)
              have HBi := Lib.hid HBi.out.drew
              go_upto_region 15 with fail
              refine wp_region_lin_all (S := (fun w' => w'.cell? ⟨g, 0, none⟩ = some (.slice (some ⟨gn, 0, none⟩) 288 cn) ∧ w'.cell? ⟨g, 1, none⟩ = some (.slice (some ⟨gs, 0, none⟩) 288 cs_) ∧ w'.cell? ⟨gn, i, none⟩ = some (.string tn) ∧ w'.cell? ⟨gs, i, none⟩ = some (.string ts))) [(0, true), (1, true), (2, true), (3, true), (4, true), (5, true), (6, true), (7, true), (8, true), (9, true), (10, true), (11, true), (12, true), (13, true), (14, true), (15, true), (16, true), (17, true), (18, true), (19, true)] (by kernel_rfl) (by kernel_rfl) rfl (by kernel_rfl) ?_ (fun hHeld => ?_)
              · (try dsimp only); exact ⟨d0, d1, hni, hsi⟩
              generalize World.drew wr = wq at hHeld HO HBi ⊢
              refine wpL_calm (o := { dst := some 84, op := Go.Op.move (Go.Operand.tmp 0), type := 59, pos := "ref.go:74", after := #[], guard := none }) (v := ?_) rfl (Or.inl ⟨by rfl, ?_⟩) ?_; rotate_left; (focus (intro w hSw; (try dsimp only at hSw); go_simp; (try (with_reducible rfl)); done)); try simp only [Act.put, List.setIfInBounds_toArray, List.set_cons_zero, List.set_cons_succ]
              refine wpL_calm (o := { dst := some 85, op := Go.Op.nilCheck (Go.Operand.tmp 84), type := 0, pos := "ref.go:74", after := #[{ on := 0, ground := Go.Ground.data }], guard := none }) (v := ?_) rfl (Or.inl ⟨by rfl, ?_⟩) ?_; rotate_left; (focus (intro w hSw; (try dsimp only at hSw); go_simp; (try (with_reducible rfl)); done)); try simp only [Act.put, List.setIfInBounds_toArray, List.set_cons_zero, List.set_cons_succ]
              refine wpL_calm (o := { dst := some 86, op := Go.Op.fieldAddr 79 (Go.Operand.tmp 85) 0, type := 0, pos := "ref.go:74", after := #[{ on := 1, ground := Go.Ground.data }], guard := none }) (v := ?_) rfl (Or.inl ⟨by rfl, ?_⟩) ?_; rotate_left; (focus (intro w hSw; (try dsimp only at hSw); go_simp; (try (with_reducible rfl)); done)); try simp only [Act.put, List.setIfInBounds_toArray, List.set_cons_zero, List.set_cons_succ]
              refine wpL_calm (o := { dst := some 87, op := Go.Op.load 77 (Go.Operand.tmp 86), type := 77, pos := "ref.go:74", after := #[{ on := 2, ground := Go.Ground.data }], guard := none }) (v := ?_) rfl (Or.inl ⟨by rfl, ?_⟩) ?_; rotate_left; (focus (intro w hSw; (try dsimp only at hSw); go_simp; (try (with_reducible rfl)); done)); try simp only [Act.put, List.setIfInBounds_toArray, List.set_cons_zero, List.set_cons_succ]
              refine wpL_calm (o := { dst := some 88, op := Go.Op.move (Go.Operand.tmp 6), type := 3, pos := "ref.go:74", after := #[], guard := none }) (v := ?_) rfl (Or.inl ⟨by rfl, ?_⟩) ?_; rotate_left; (focus (intro w hSw; (try dsimp only at hSw); go_simp; (try (with_reducible rfl)); done)); try simp only [Act.put, List.setIfInBounds_toArray, List.set_cons_zero, List.set_cons_succ]
              refine wpL_calm (o := { dst := some 89, op := Go.Op.indexAddr 77 (Go.Operand.tmp 87) (Go.Operand.tmp 88), type := 0, pos := "ref.go:74", after := #[{ on := 3, ground := Go.Ground.data }, { on := 4, ground := Go.Ground.data }], guard := none }) (v := ?_) rfl (Or.inl ⟨by rfl, ?_⟩) ?_; rotate_left; (focus (intro w hSw; (try dsimp only at hSw); go_simp; (try (with_reducible rfl)); done)); try simp only [Act.put, List.setIfInBounds_toArray, List.set_cons_zero, List.set_cons_succ]
              refine wpL_calm (o := { dst := some 90, op := Go.Op.load 9 (Go.Operand.tmp 89), type := 9, pos := "ref.go:74", after := #[{ on := 5, ground := Go.Ground.data }], guard := none }) (v := ?_) rfl (Or.inl ⟨by rfl, ?_⟩) ?_; rotate_left; (focus (intro w hSw; (try dsimp only at hSw); go_simp; (try (with_reducible rfl)); done)); try simp only [Act.put, List.setIfInBounds_toArray, List.set_cons_zero, List.set_cons_succ]
              refine wpL_calm (o := { dst := some 91, op := Go.Op.move (Go.Operand.tmp 4), type := 3, pos := "ref.go:74", after := #[], guard := none }) (v := ?_) rfl (Or.inl ⟨by rfl, ?_⟩) ?_; rotate_left; (focus (intro w hSw; (try dsimp only at hSw); go_simp; (try (with_reducible rfl)); done)); try simp only [Act.put, List.setIfInBounds_toArray, List.set_cons_zero, List.set_cons_succ]
              refine wpL_calm (o := { dst := some 92, op := Go.Op.slice 9 (Go.Operand.tmp 90) none (some (Go.Operand.tmp 91)) none, type := 9, pos := "ref.go:74", after := #[{ on := 6, ground := Go.Ground.data }, { on := 7, ground := Go.Ground.data }], guard := none }) (v := ?_) rfl (Or.inl ⟨by rfl, ?_⟩) ?_; rotate_left; (focus (intro w hSw; (try dsimp only at hSw); go_simp; (try (with_reducible rfl)); done)); try simp only [Act.put, List.setIfInBounds_toArray, List.set_cons_zero, List.set_cons_succ]
              refine wpL_calm (o := { dst := some 93, op := Go.Op.move (Go.Operand.tmp 0), type := 59, pos := "ref.go:74", after := #[], guard := none }) (v := ?_) rfl (Or.inl ⟨by rfl, ?_⟩) ?_; rotate_left; (focus (intro w hSw; (try dsimp only at hSw); go_simp; (try (with_reducible rfl)); done)); try simp only [Act.put, List.setIfInBounds_toArray, List.set_cons_zero, List.set_cons_succ]
              refine wpL_calm (o := { dst := some 94, op := Go.Op.nilCheck (Go.Operand.tmp 93), type := 0, pos := "ref.go:74", after := #[{ on := 9, ground := Go.Ground.data }], guard := none }) (v := ?_) rfl (Or.inl ⟨by rfl, ?_⟩) ?_; rotate_left; (focus (intro w hSw; (try dsimp only at hSw); go_simp; (try (with_reducible rfl)); done)); try simp only [Act.put, List.setIfInBounds_toArray, List.set_cons_zero, List.set_cons_succ]
              refine wpL_calm (o := { dst := some 95, op := Go.Op.fieldAddr 79 (Go.Operand.tmp 94) 1, type := 0, pos := "ref.go:74", after := #[{ on := 10, ground := Go.Ground.data }], guard := none }) (v := ?_) rfl (Or.inl ⟨by rfl, ?_⟩) ?_; rotate_left; (focus (intro w hSw; (try dsimp only at hSw); go_simp; (try (with_reducible rfl)); done)); try simp only [Act.put, List.setIfInBounds_toArray, List.set_cons_zero, List.set_cons_succ]
              refine wpL_calm (o := { dst := some 96, op := Go.Op.load 77 (Go.Operand.tmp 95), type := 77, pos := "ref.go:74", after := #[{ on := 11, ground := Go.Ground.data }], guard := none }) (v := ?_) rfl (Or.inl ⟨by rfl, ?_⟩) ?_; rotate_left; (focus (intro w hSw; (try dsimp only at hSw); go_simp; (try (with_reducible rfl)); done)); try simp only [Act.put, List.setIfInBounds_toArray, List.set_cons_zero, List.set_cons_succ]
              refine wpL_calm (o := { dst := some 97, op := Go.Op.move (Go.Operand.tmp 6), type := 3, pos := "ref.go:74", after := #[], guard := none }) (v := ?_) rfl (Or.inl ⟨by rfl, ?_⟩) ?_; rotate_left; (focus (intro w hSw; (try dsimp only at hSw); go_simp; (try (with_reducible rfl)); done)); try simp only [Act.put, List.setIfInBounds_toArray, List.set_cons_zero, List.set_cons_succ]
              refine wpL_calm (o := { dst := some 98, op := Go.Op.indexAddr 77 (Go.Operand.tmp 96) (Go.Operand.tmp 97), type := 0, pos := "ref.go:74", after := #[{ on := 12, ground := Go.Ground.data }, { on := 13, ground := Go.Ground.data }], guard := none }) (v := ?_) rfl (Or.inl ⟨by rfl, ?_⟩) ?_; rotate_left; (focus (intro w hSw; (try dsimp only at hSw); go_simp; (try (with_reducible rfl)); done)); try simp only [Act.put, List.setIfInBounds_toArray, List.set_cons_zero, List.set_cons_succ]
              refine wpL_calm (o := { dst := some 99, op := Go.Op.load 9 (Go.Operand.tmp 98), type := 9, pos := "ref.go:74", after := #[{ on := 14, ground := Go.Ground.data }], guard := none }) (v := ?_) rfl (Or.inl ⟨by rfl, ?_⟩) ?_; rotate_left; (focus (intro w hSw; (try dsimp only at hSw); go_simp; (try (with_reducible rfl)); done)); try simp only [Act.put, List.setIfInBounds_toArray, List.set_cons_zero, List.set_cons_succ]
              refine wpL_calm (o := { dst := some 100, op := Go.Op.move (Go.Operand.tmp 4), type := 3, pos := "ref.go:74", after := #[], guard := none }) (v := ?_) rfl (Or.inl ⟨by rfl, ?_⟩) ?_; rotate_left; (focus (intro w hSw; (try dsimp only at hSw); go_simp; (try (with_reducible rfl)); done)); try simp only [Act.put, List.setIfInBounds_toArray, List.set_cons_zero, List.set_cons_succ]
              refine wpL_calm (o := { dst := some 101, op := Go.Op.slice 9 (Go.Operand.tmp 99) (some (Go.Operand.tmp 100)) none none, type := 9, pos := "ref.go:74", after := #[{ on := 15, ground := Go.Ground.data }, { on := 16, ground := Go.Ground.data }], guard := none }) (v := ?_) rfl (Or.inl ⟨by rfl, ?_⟩) ?_; rotate_left; (focus (intro w hSw; (try dsimp only at hSw); go_simp; (try (with_reducible rfl)); done)); try simp only [Act.put, List.setIfInBounds_toArray, List.set_cons_zero, List.set_cons_succ]
              refine wpL_calm (o := { dst := some 102, op := Go.Op.binOp Go.BinOp.add 9 (Go.Operand.tmp 92) (Go.Operand.tmp 101) 9, type := 9, pos := "ref.go:74", after := #[{ on := 8, ground := Go.Ground.data }, { on := 17, ground := Go.Ground.data }], guard := none }) (v := ?_) rfl (Or.inl ⟨by rfl, ?_⟩) ?_; rotate_left; (focus (intro w hSw; (try dsimp only at hSw); go_simp; (try (with_reducible rfl)); done)); try simp only [Act.put, List.setIfInBounds_toArray, List.set_cons_zero, List.set_cons_succ]
              refine wpL_calm (o := { dst := some 7, op := Go.Op.assign (Go.Operand.tmp 102), type := 9, pos := "ref.go:74", after := #[{ on := 18, ground := Go.Ground.data }, { on := 0, ground := Go.Ground.phase }, { on := 1, ground := Go.Ground.phase }, { on := 2, ground := Go.Ground.phase }, { on := 3, ground := Go.Ground.phase }, { on := 4, ground := Go.Ground.phase }, { on := 5, ground := Go.Ground.phase }, { on := 6, ground := Go.Ground.phase }, { on := 7, ground := Go.Ground.phase }, { on := 8, ground := Go.Ground.phase }, { on := 9, ground := Go.Ground.phase }, { on := 10, ground := Go.Ground.phase }, { on := 11, ground := Go.Ground.phase }, { on := 12, ground := Go.Ground.phase }, { on := 13, ground := Go.Ground.phase }, { on := 14, ground := Go.Ground.phase }, { on := 15, ground := Go.Ground.phase }, { on := 16, ground := Go.Ground.phase }, { on := 17, ground := Go.Ground.phase }, { on := 18, ground := Go.Ground.phase }], guard := none }) (v := ?_) rfl (Or.inl ⟨by rfl, ?_⟩) ?_; rotate_left; (focus (intro w hSw; (try dsimp only at hSw); go_simp; (try (with_reducible rfl)); done)); try simp only [Act.put, List.setIfInBounds_toArray, List.set_cons_zero, List.set_cons_succ]
              refine wpL_nil ?_
              refine NoPanic.normal ?_
              clear hHeld hcat
              generalize (ts.extract 0 64) = tx at *
              go_wp2_with (at_builtin; refine wpList_append_own _ rfl _ _ 77 rfl w1.heap.size 9 is (.string ⟨#[]⟩) 1 16 Try.underlying77 his hs0 hs1 hs2 rfl (by decide) _ i (txV T i) rfl (HO.out.alloc _) ⟨wq.heap.size, 0, none⟩ 1 1 [.string tx] rfl rfl (one_at12 _ _ _) (fun u hu => by simp at hu; subst hu; rfl) (by unfold maxLen; omega) (by omega) (by have := HBi.out.size; simp; omega) ?_)
              intro v9 w9 O9 G9 _
              rw [← txV_snoc] at O9
              have HO9 := Lib.hid O9
              have HS9 := Lib.hid (size_all HSI.out HSX.out)
              have HB9 : Hid (Below w1.heap.size w1 w9) := Lib.hid ((HBi.out.alloc HBi.out.size _).grown G9 (by have := HBi.out.size; simp; omega) (fun q hq => (HO.out.lt q hq).1))
              obtain ⟨a9, c9, rfl⟩ := own_at12 O9
              clear O9 G9 HO HSI HBi
              go_wp2_with fail
              go_roundw
              case rel => exact ⟨i + 1, _, _, by go_num, rfl, by omega, HO9, HS9, HB9⟩
              case measure => simp [intOf]; omega
            · have ht' : ((i : Int) == torn) = false := by simpa using ht
              clear ht
              go_wp2_with (at_builtin; refine wpList_append_own _ rfl _ _ 77 rfl w1.heap.size 9 is (.string ⟨#[]⟩) 1 16 Try.underlying77 his hs0 hs1 hs2 rfl (by decide) _ i (txV T i) rfl (HO.out.alloc _) ⟨wr.heap.size, 0, none⟩ 1 1 [.string ts] rfl rfl (one_at12 _ _ _) (fun u hu => by simp at hu; subst hu; rfl) (by unfold maxLen; omega) (by omega) (by have := HBi.out.size; simp; omega) ?_)
              intro v9 w9 O9 G9 _
              rw [← txV_snoc] at O9
              have HO9 := Lib.hid O9
              have HS9 := Lib.hid (size_all HSI.out HSS.out)
              have HB9 : Hid (Below w1.heap.size w1 w9) := Lib.hid ((HBi.out.alloc HBi.out.size _).grown G9 (by have := HBi.out.size; simp; omega) (fun q hq => (HO.out.lt q hq).1))
              obtain ⟨a9, c9, rfl⟩ := own_at12 O9
              clear O9 G9 HO HSI HBi
              go_wp2_with fail
              go_roundw
              case rel => exact ⟨i + 1, _, _, by go_num, rfl, by omega, HO9, HS9, HB9⟩
              case measure => simp [intOf]; omega
      · as_aux_lemma =>
        obtain rfl : i = 288 := by omega
        rw [show ((288 : Nat) : Int) = 288 from rfl]
        have t3 := own_T64 HO.out HSI.out
        obtain ⟨a3, k3, rfl⟩ := t3.sl
        have hgf := (dv_cells hgi).2.2.2 0
        have hz : B ≤ wr.heap.size := Nat.le_trans hBw HBW.out.size
        have HD3 : Hid (DAt (wr.setCell ⟨g, 0, none⟩ (.slice a3 288 k3)) B g) := Lib.hid (DAt.set hB hgi rfl (t3.base (by have := HB1.out.size; omega)) (HSF.out.below HBW.out) (HBB.out.below HBW.out))
        have HK3 : Hid (Kq B [g] w (wr.setCell ⟨g, 0, none⟩ (.slice a3 288 k3))) := Lib.hid (kq_one (Kq.of_below HBW.out hBw) 0 _ hB)
        clear t3 HO HSI hgi d1 d2
        go_upto_region 18 with fail
        clear d0 hgf
        generalize wr.setCell ⟨g, 0, none⟩ (.slice a3 288 k3) = w4 at *
        have hz4 : B ≤ w4.heap.size := Nat.le_trans hBw HK3.out.below.size
        go_wp2_with fail
        refine (PF.out _ HD3.out hz4).mono ?_
        rintro e w5 ⟨rfl, d5, k5⟩
        go_wp2_with fail
        go_end0
        exact ⟨rfl, d5, HK3.out.trans k5⟩
  · go_enter Try.func59, Try.ntmps59
    go_upto_region 1 with fail
    rw [HW.out]
    clear HW
    go_wp2_with fail
    clear l2
    go_loopw [5, 6, 7, 8] (fun x5 x6 _ _ wi => ∃ (i : Nat) (v : Value) (T : Nat → ByteArray), x6 = .int .i64 (i : Int) ∧ x5 = v ∧ i ≤ 288 ∧ Hid (wi.ownsRow w1.heap.size 9 1 v i (txV T i)) ∧ Hid (∀ j, j < i → (T j).size = 64) ∧ Hid (Below w1.heap.size w1 wi)) (fun _ x _ _ _ => 288 - (intOf x).toNat)
    case atStart => exact ⟨0, _, _, rfl, rfl, by omega, HO0, h00, HB0⟩
    clear HO0 h00 HB0
    case round =>
      obtain ⟨i, v, T, rfl, rfl, hi, HO, HSI, HBi⟩ := hrel
      have HBW := Lib.hid (HB1.out.trans (HBi.out.mono HB1.out.size))
      have hgi := (HBW.out.block g hgd).trans HG.out
      obtain ⟨d0, d1, d2, -⟩ := dv_cells hgi
      by_cases hlt : i < 288
      · as_aux_lemma =>
        have hli : (i : Int) < 288 := by omega
        have hni := (HBW.out.cell (p := ⟨gn, i, none⟩) hln).trans (HCN.out i hlt).1
        have hsi := (HBW.out.cell (p := ⟨gs, i, none⟩) hls).trans (HCS.out i hlt).1
        have hbi := (HBW.out.cell (p := ⟨gb, i, none⟩) hlb).trans (HCB.out i hlt)
        have hsn : (Tn i).size = 64 := (HCN.out i hlt).2
        have hss : (Ts i).size = 64 := (HCS.out i hlt).2
        have l0 := (HBi.out.cell (p := ⟨w.heap.size, 0, none⟩) hl1).trans L0.out
        have l1 := (HBi.out.cell (p := ⟨w.heap.size, 1, none⟩) hl1).trans L1.out
        obtain ⟨k, hk⟩ : ∃ k, Hid (i % 64 = k) := ⟨_, Lib.hid rfl⟩
        have y1 : (i : Int).tmod 64 = (k : Int) := by rw [Int.tmod_eq_emod_of_nonneg (by omega)]; have := hk.out; omega
        have y1' : (i : Int) % 64 = (k : Int) := by have := hk.out; omega
        have y2 : IntKind.i64.wrap (k : Int) = (k : Int) := IntWalk.i64_in _ (by have := hk.out; omega)
        have HSN := Lib.hid hsn
        have HSS := Lib.hid hss
        clear hsn hss
        generalize Tn i = tn at *
        generalize Ts i = ts at *
        generalize Tb i = tb at *
        cases tb with
        | false =>
          go_wp2_with (at_builtin; refine wpList_append_own _ rfl _ _ 77 rfl w1.heap.size 9 is (.string ⟨#[]⟩) 1 16 Try.underlying77 his hs0 hs1 hs2 rfl (by decide) _ i (txV T i) rfl (HO.out.alloc _) ⟨wr.heap.size, 0, none⟩ 1 1 [.string tn] rfl rfl (one_at12 _ _ _) (fun u hu => by simp at hu; subst hu; rfl) (by unfold maxLen; omega) (by omega) (by have := HBi.out.size; simp; omega) ?_)
          intro v9 w9 O9 G9 _
          rw [← txV_snoc] at O9
          have HO9 := Lib.hid O9
          have HS9 := Lib.hid (size_all HSI.out HSN.out)
          have HB9 : Hid (Below w1.heap.size w1 w9) := Lib.hid ((HBi.out.alloc HBi.out.size _).grown G9 (by have := HBi.out.size; simp; omega) (fun q hq => (HO.out.lt q hq).1))
          obtain ⟨a9, c9, rfl⟩ := own_at12 O9
          clear O9 G9 HO HSI HBi
          go_wp2_with fail
          go_roundw
          case rel => exact ⟨i + 1, _, _, by go_num, rfl, by omega, HO9, HS9, HB9⟩
          case measure => simp [intOf]; omega
        | true =>
          by_cases hkl : k < kl
          · have hkli : (k : Int) < (kl : Int) := by omega
            obtain ⟨kb, ko, rfl, hkb, _, hkc⟩ : ∃ kb ko, ao = some ⟨kb, ko, none⟩ ∧ kb < w.heap.size ∧ kl ≤ 140737488351232 ∧ ∀ j, j < kl → w.cell? ⟨kb, ko + j, none⟩ = some (.bool (keep j)) := by
              rcases HLA.out with h | h
              · exact absurd h (by show ¬ kl = 0; omega)
              · exact h
            have hki := (HBW.out.cell (p := ⟨kb, ko + k, none⟩) hkb).trans (hkc k hkl)
            clear hkc
            generalize keep k = kp at *
            cases kp with
            | true =>
              go_wp2_with (at_builtin; refine wpList_append_own _ rfl _ _ 77 rfl w1.heap.size 9 is (.string ⟨#[]⟩) 1 16 Try.underlying77 his hs0 hs1 hs2 rfl (by decide) _ i (txV T i) rfl (HO.out.alloc _) ⟨wr.heap.size, 0, none⟩ 1 1 [.string tn] rfl rfl (one_at12 _ _ _) (fun u hu => by simp at hu; subst hu; rfl) (by unfold maxLen; omega) (by omega) (by have := HBi.out.size; simp; omega) ?_)
              intro v9 w9 O9 G9 _
              rw [← txV_snoc] at O9
              have HO9 := Lib.hid O9
              have HS9 := Lib.hid (size_all HSI.out HSN.out)
              have HB9 : Hid (Below w1.heap.size w1 w9) := Lib.hid ((HBi.out.alloc HBi.out.size _).grown G9 (by have := HBi.out.size; simp; omega) (fun q hq => (HO.out.lt q hq).1))
              obtain ⟨a9, c9, rfl⟩ := own_at12 O9
              clear O9 G9 HO HSI HBi
              go_wp2_with fail
              go_roundw
              case rel => exact ⟨i + 1, _, _, by go_num, rfl, by omega, HO9, HS9, HB9⟩
              case measure => simp [intOf]; omega
            | false =>
              by_cases ht : (i : Int) = torn
              · have ht' : ((i : Int) == torn) = true := by simpa using ht
                clear ht
                have hzn : tn.size = 64 := HSN.out
                have hzs : ts.size = 64 := HSS.out
                have HSX : Hid ((tn.extract 0 64).size = 64) := Lib.hid (by rw [ByteArray.size_extract]; omega)
                have hcat : (9223372036854775807 < (tn.extract 0 64).size + (ts.extract 64 64).size) = False := by rw [ByteArray.size_extract, ByteArray.size_extract]; simp; omega
                have HO := Lib.hid (own_keep12 HO.out)
                have HBi := Lib.hid HBi.out.drew
                go_upto_region 15 with fail
                refine wp_region_lin_all (S := (fun w' => w'.cell? ⟨g, 0, none⟩ = some (.slice (some ⟨gn, 0, none⟩) 288 cn) ∧ w'.cell? ⟨g, 1, none⟩ = some (.slice (some ⟨gs, 0, none⟩) 288 cs_) ∧ w'.cell? ⟨gn, i, none⟩ = some (.string tn) ∧ w'.cell? ⟨gs, i, none⟩ = some (.string ts))) [(0, true), (1, true), (2, true), (3, true), (4, true), (5, true), (6, true), (7, true), (8, true), (9, true), (10, true), (11, true), (12, true), (13, true), (14, true), (15, true), (16, true), (17, true), (18, true), (19, true)] (by kernel_rfl) (by kernel_rfl) rfl (by kernel_rfl) ?_ (fun hHeld => ?_)
                · (try dsimp only); exact ⟨d0, d1, hni, hsi⟩
                generalize World.drew wr = wq at hHeld HO HBi ⊢
                refine wpL_calm (o := { dst := some 84, op := Go.Op.move (Go.Operand.tmp 0), type := 59, pos := "ref.go:74", after := #[], guard := none }) (v := ?_) rfl (Or.inl ⟨by rfl, ?_⟩) ?_; rotate_left; (focus (intro w hSw; (try dsimp only at hSw); go_simp; (try (with_reducible rfl)); done)); try simp only [Act.put, List.setIfInBounds_toArray, List.set_cons_zero, List.set_cons_succ]
                refine wpL_calm (o := { dst := some 85, op := Go.Op.nilCheck (Go.Operand.tmp 84), type := 0, pos := "ref.go:74", after := #[{ on := 0, ground := Go.Ground.data }], guard := none }) (v := ?_) rfl (Or.inl ⟨by rfl, ?_⟩) ?_; rotate_left; (focus (intro w hSw; (try dsimp only at hSw); go_simp; (try (with_reducible rfl)); done)); try simp only [Act.put, List.setIfInBounds_toArray, List.set_cons_zero, List.set_cons_succ]
                refine wpL_calm (o := { dst := some 86, op := Go.Op.fieldAddr 79 (Go.Operand.tmp 85) 0, type := 0, pos := "ref.go:74", after := #[{ on := 1, ground := Go.Ground.data }], guard := none }) (v := ?_) rfl (Or.inl ⟨by rfl, ?_⟩) ?_; rotate_left; (focus (intro w hSw; (try dsimp only at hSw); go_simp; (try (with_reducible rfl)); done)); try simp only [Act.put, List.setIfInBounds_toArray, List.set_cons_zero, List.set_cons_succ]
                refine wpL_calm (o := { dst := some 87, op := Go.Op.load 77 (Go.Operand.tmp 86), type := 77, pos := "ref.go:74", after := #[{ on := 2, ground := Go.Ground.data }], guard := none }) (v := ?_) rfl (Or.inl ⟨by rfl, ?_⟩) ?_; rotate_left; (focus (intro w hSw; (try dsimp only at hSw); go_simp; (try (with_reducible rfl)); done)); try simp only [Act.put, List.setIfInBounds_toArray, List.set_cons_zero, List.set_cons_succ]
                refine wpL_calm (o := { dst := some 88, op := Go.Op.move (Go.Operand.tmp 6), type := 3, pos := "ref.go:74", after := #[], guard := none }) (v := ?_) rfl (Or.inl ⟨by rfl, ?_⟩) ?_; rotate_left; (focus (intro w hSw; (try dsimp only at hSw); go_simp; (try (with_reducible rfl)); done)); try simp only [Act.put, List.setIfInBounds_toArray, List.set_cons_zero, List.set_cons_succ]
                refine wpL_calm (o := { dst := some 89, op := Go.Op.indexAddr 77 (Go.Operand.tmp 87) (Go.Operand.tmp 88), type := 0, pos := "ref.go:74", after := #[{ on := 3, ground := Go.Ground.data }, { on := 4, ground := Go.Ground.data }], guard := none }) (v := ?_) rfl (Or.inl ⟨by rfl, ?_⟩) ?_; rotate_left; (focus (intro w hSw; (try dsimp only at hSw); go_simp; (try (with_reducible rfl)); done)); try simp only [Act.put, List.setIfInBounds_toArray, List.set_cons_zero, List.set_cons_succ]
                refine wpL_calm (o := { dst := some 90, op := Go.Op.load 9 (Go.Operand.tmp 89), type := 9, pos := "ref.go:74", after := #[{ on := 5, ground := Go.Ground.data }], guard := none }) (v := ?_) rfl (Or.inl ⟨by rfl, ?_⟩) ?_; rotate_left; (focus (intro w hSw; (try dsimp only at hSw); go_simp; (try (with_reducible rfl)); done)); try simp only [Act.put, List.setIfInBounds_toArray, List.set_cons_zero, List.set_cons_succ]
                refine wpL_calm (o := { dst := some 91, op := Go.Op.move (Go.Operand.tmp 4), type := 3, pos := "ref.go:74", after := #[], guard := none }) (v := ?_) rfl (Or.inl ⟨by rfl, ?_⟩) ?_; rotate_left; (focus (intro w hSw; (try dsimp only at hSw); go_simp; (try (with_reducible rfl)); done)); try simp only [Act.put, List.setIfInBounds_toArray, List.set_cons_zero, List.set_cons_succ]
                refine wpL_calm (o := { dst := some 92, op := Go.Op.slice 9 (Go.Operand.tmp 90) none (some (Go.Operand.tmp 91)) none, type := 9, pos := "ref.go:74", after := #[{ on := 6, ground := Go.Ground.data }, { on := 7, ground := Go.Ground.data }], guard := none }) (v := ?_) rfl (Or.inl ⟨by rfl, ?_⟩) ?_; rotate_left; (focus (intro w hSw; (try dsimp only at hSw); go_simp; (try (with_reducible rfl)); done)); try simp only [Act.put, List.setIfInBounds_toArray, List.set_cons_zero, List.set_cons_succ]
                refine wpL_calm (o := { dst := some 93, op := Go.Op.move (Go.Operand.tmp 0), type := 59, pos := "ref.go:74", after := #[], guard := none }) (v := ?_) rfl (Or.inl ⟨by rfl, ?_⟩) ?_; rotate_left; (focus (intro w hSw; (try dsimp only at hSw); go_simp; (try (with_reducible rfl)); done)); try simp only [Act.put, List.setIfInBounds_toArray, List.set_cons_zero, List.set_cons_succ]
                refine wpL_calm (o := { dst := some 94, op := Go.Op.nilCheck (Go.Operand.tmp 93), type := 0, pos := "ref.go:74", after := #[{ on := 9, ground := Go.Ground.data }], guard := none }) (v := ?_) rfl (Or.inl ⟨by rfl, ?_⟩) ?_; rotate_left; (focus (intro w hSw; (try dsimp only at hSw); go_simp; (try (with_reducible rfl)); done)); try simp only [Act.put, List.setIfInBounds_toArray, List.set_cons_zero, List.set_cons_succ]
                refine wpL_calm (o := { dst := some 95, op := Go.Op.fieldAddr 79 (Go.Operand.tmp 94) 1, type := 0, pos := "ref.go:74", after := #[{ on := 10, ground := Go.Ground.data }], guard := none }) (v := ?_) rfl (Or.inl ⟨by rfl, ?_⟩) ?_; rotate_left; (focus (intro w hSw; (try dsimp only at hSw); go_simp; (try (with_reducible rfl)); done)); try simp only [Act.put, List.setIfInBounds_toArray, List.set_cons_zero, List.set_cons_succ]
                refine wpL_calm (o := { dst := some 96, op := Go.Op.load 77 (Go.Operand.tmp 95), type := 77, pos := "ref.go:74", after := #[{ on := 11, ground := Go.Ground.data }], guard := none }) (v := ?_) rfl (Or.inl ⟨by rfl, ?_⟩) ?_; rotate_left; (focus (intro w hSw; (try dsimp only at hSw); go_simp; (try (with_reducible rfl)); done)); try simp only [Act.put, List.setIfInBounds_toArray, List.set_cons_zero, List.set_cons_succ]
                refine wpL_calm (o := { dst := some 97, op := Go.Op.move (Go.Operand.tmp 6), type := 3, pos := "ref.go:74", after := #[], guard := none }) (v := ?_) rfl (Or.inl ⟨by rfl, ?_⟩) ?_; rotate_left; (focus (intro w hSw; (try dsimp only at hSw); go_simp; (try (with_reducible rfl)); done)); try simp only [Act.put, List.setIfInBounds_toArray, List.set_cons_zero, List.set_cons_succ]
                refine wpL_calm (o := { dst := some 98, op := Go.Op.indexAddr 77 (Go.Operand.tmp 96) (Go.Operand.tmp 97), type := 0, pos := "ref.go:74", after := #[{ on := 12, ground := Go.Ground.data }, { on := 13, ground := Go.Ground.data }], guard := none }) (v := ?_) rfl (Or.inl ⟨by rfl, ?_⟩) ?_; rotate_left; (focus (intro w hSw; (try dsimp only at hSw); go_simp; (try (with_reducible rfl)); done)); try simp only [Act.put, List.setIfInBounds_toArray, List.set_cons_zero, List.set_cons_succ]
                refine wpL_calm (o := { dst := some 99, op := Go.Op.load 9 (Go.Operand.tmp 98), type := 9, pos := "ref.go:74", after := #[{ on := 14, ground := Go.Ground.data }], guard := none }) (v := ?_) rfl (Or.inl ⟨by rfl, ?_⟩) ?_; rotate_left; (focus (intro w hSw; (try dsimp only at hSw); go_simp; (try (with_reducible rfl)); done)); try simp only [Act.put, List.setIfInBounds_toArray, List.set_cons_zero, List.set_cons_succ]
                refine wpL_calm (o := { dst := some 100, op := Go.Op.move (Go.Operand.tmp 4), type := 3, pos := "ref.go:74", after := #[], guard := none }) (v := ?_) rfl (Or.inl ⟨by rfl, ?_⟩) ?_; rotate_left; (focus (intro w hSw; (try dsimp only at hSw); go_simp; (try (with_reducible rfl)); done)); try simp only [Act.put, List.setIfInBounds_toArray, List.set_cons_zero, List.set_cons_succ]
                refine wpL_calm (o := { dst := some 101, op := Go.Op.slice 9 (Go.Operand.tmp 99) (some (Go.Operand.tmp 100)) none none, type := 9, pos := "ref.go:74", after := #[{ on := 15, ground := Go.Ground.data }, { on := 16, ground := Go.Ground.data }], guard := none }) (v := ?_) rfl (Or.inl ⟨by rfl, ?_⟩) ?_; rotate_left; (focus (intro w hSw; (try dsimp only at hSw); go_simp; (try (with_reducible rfl)); done)); try simp only [Act.put, List.setIfInBounds_toArray, List.set_cons_zero, List.set_cons_succ]
                refine wpL_calm (o := { dst := some 102, op := Go.Op.binOp Go.BinOp.add 9 (Go.Operand.tmp 92) (Go.Operand.tmp 101) 9, type := 9, pos := "ref.go:74", after := #[{ on := 8, ground := Go.Ground.data }, { on := 17, ground := Go.Ground.data }], guard := none }) (v := ?_) rfl (Or.inl ⟨by rfl, ?_⟩) ?_; rotate_left; (focus (intro w hSw; (try dsimp only at hSw); go_simp; (try (with_reducible rfl)); done)); try simp only [Act.put, List.setIfInBounds_toArray, List.set_cons_zero, List.set_cons_succ]
                refine wpL_calm (o := { dst := some 7, op := Go.Op.assign (Go.Operand.tmp 102), type := 9, pos := "ref.go:74", after := #[{ on := 18, ground := Go.Ground.data }, { on := 0, ground := Go.Ground.phase }, { on := 1, ground := Go.Ground.phase }, { on := 2, ground := Go.Ground.phase }, { on := 3, ground := Go.Ground.phase }, { on := 4, ground := Go.Ground.phase }, { on := 5, ground := Go.Ground.phase }, { on := 6, ground := Go.Ground.phase }, { on := 7, ground := Go.Ground.phase }, { on := 8, ground := Go.Ground.phase }, { on := 9, ground := Go.Ground.phase }, { on := 10, ground := Go.Ground.phase }, { on := 11, ground := Go.Ground.phase }, { on := 12, ground := Go.Ground.phase }, { on := 13, ground := Go.Ground.phase }, { on := 14, ground := Go.Ground.phase }, { on := 15, ground := Go.Ground.phase }, { on := 16, ground := Go.Ground.phase }, { on := 17, ground := Go.Ground.phase }, { on := 18, ground := Go.Ground.phase }], guard := none }) (v := ?_) rfl (Or.inl ⟨by rfl, ?_⟩) ?_; rotate_left; (focus (intro w hSw; (try dsimp only at hSw); go_simp; (try (with_reducible rfl)); done)); try simp only [Act.put, List.setIfInBounds_toArray, List.set_cons_zero, List.set_cons_succ]
                refine wpL_nil ?_
                refine NoPanic.normal ?_
                clear hHeld hcat
                generalize (tn.extract 0 64) = tx at *
                go_wp2_with (at_builtin; refine wpList_append_own _ rfl _ _ 77 rfl w1.heap.size 9 is (.string ⟨#[]⟩) 1 16 Try.underlying77 his hs0 hs1 hs2 rfl (by decide) _ i (txV T i) rfl (HO.out.alloc _) ⟨wq.heap.size, 0, none⟩ 1 1 [.string tx] rfl rfl (one_at12 _ _ _) (fun u hu => by simp at hu; subst hu; rfl) (by unfold maxLen; omega) (by omega) (by have := HBi.out.size; simp; omega) ?_)
                intro v9 w9 O9 G9 _
                rw [← txV_snoc] at O9
                have HO9 := Lib.hid O9
                have HS9 := Lib.hid (size_all HSI.out HSX.out)
                have HB9 : Hid (Below w1.heap.size w1 w9) := Lib.hid ((HBi.out.alloc HBi.out.size _).grown G9 (by have := HBi.out.size; simp; omega) (fun q hq => (HO.out.lt q hq).1))
                obtain ⟨a9, c9, rfl⟩ := own_at12 O9
                clear O9 G9 HO HSI HBi
                go_wp2_with fail
                go_roundw
                case rel => exact ⟨i + 1, _, _, by go_num, rfl, by omega, HO9, HS9, HB9⟩
                case measure => simp [intOf]; omega
              · have ht' : ((i : Int) == torn) = false := by simpa using ht
                clear ht
                go_wp2_with (at_builtin; refine wpList_append_own _ rfl _ _ 77 rfl w1.heap.size 9 is (.string ⟨#[]⟩) 1 16 Try.underlying77 his hs0 hs1 hs2 rfl (by decide) _ i (txV T i) rfl (HO.out.alloc _) ⟨wr.heap.size, 0, none⟩ 1 1 [.string ts] rfl rfl (one_at12 _ _ _) (fun u hu => by simp at hu; subst hu; rfl) (by unfold maxLen; omega) (by omega) (by have := HBi.out.size; simp; omega) ?_)
                intro v9 w9 O9 G9 _
                rw [← txV_snoc] at O9
                have HO9 := Lib.hid O9
                have HS9 := Lib.hid (size_all HSI.out HSS.out)
                have HB9 : Hid (Below w1.heap.size w1 w9) := Lib.hid ((HBi.out.alloc HBi.out.size _).grown G9 (by have := HBi.out.size; simp; omega) (fun q hq => (HO.out.lt q hq).1))
                obtain ⟨a9, c9, rfl⟩ := own_at12 O9
                clear O9 G9 HO HSI HBi
                go_wp2_with fail
                go_roundw
                case rel => exact ⟨i + 1, _, _, by go_num, rfl, by omega, HO9, HS9, HB9⟩
                case measure => simp [intOf]; omega
          · have hkli : ¬ (k : Int) < (kl : Int) := by omega
            by_cases ht : (i : Int) = torn
            · have ht' : ((i : Int) == torn) = true := by simpa using ht
              clear ht
              have hzn : tn.size = 64 := HSN.out
              have hzs : ts.size = 64 := HSS.out
              have HSX : Hid ((tn.extract 0 64).size = 64) := Lib.hid (by rw [ByteArray.size_extract]; omega)
              have hcat : (9223372036854775807 < (tn.extract 0 64).size + (ts.extract 64 64).size) = False := by rw [ByteArray.size_extract, ByteArray.size_extract]; simp; omega
              have HO := Lib.hid (own_keep12 HO.out)
              have HBi := Lib.hid HBi.out.drew
              go_upto_region 15 with fail
              refine wp_region_lin_all (S := (fun w' => w'.cell? ⟨g, 0, none⟩ = some (.slice (some ⟨gn, 0, none⟩) 288 cn) ∧ w'.cell? ⟨g, 1, none⟩ = some (.slice (some ⟨gs, 0, none⟩) 288 cs_) ∧ w'.cell? ⟨gn, i, none⟩ = some (.string tn) ∧ w'.cell? ⟨gs, i, none⟩ = some (.string ts))) [(0, true), (1, true), (2, true), (3, true), (4, true), (5, true), (6, true), (7, true), (8, true), (9, true), (10, true), (11, true), (12, true), (13, true), (14, true), (15, true), (16, true), (17, true), (18, true), (19, true)] (by kernel_rfl) (by kernel_rfl) rfl (by kernel_rfl) ?_ (fun hHeld => ?_)
              · (try dsimp only); exact ⟨d0, d1, hni, hsi⟩
              generalize World.drew wr = wq at hHeld HO HBi ⊢
              refine wpL_calm (o := { dst := some 84, op := Go.Op.move (Go.Operand.tmp 0), type := 59, pos := "ref.go:74", after := #[], guard := none }) (v := ?_) rfl (Or.inl ⟨by rfl, ?_⟩) ?_; rotate_left; (focus (intro w hSw; (try dsimp only at hSw); go_simp; (try (with_reducible rfl)); done)); try simp only [Act.put, List.setIfInBounds_toArray, List.set_cons_zero, List.set_cons_succ]
              refine wpL_calm (o := { dst := some 85, op := Go.Op.nilCheck (Go.Operand.tmp 84), type := 0, pos := "ref.go:74", after := #[{ on := 0, ground := Go.Ground.data }], guard := none }) (v := ?_) rfl (Or.inl ⟨by rfl, ?_⟩) ?_; rotate_left; (focus (intro w hSw; (try dsimp only at hSw); go_simp; (try (with_reducible rfl)); done)); try simp only [Act.put, List.setIfInBounds_toArray, List.set_cons_zero, List.set_cons_succ]
              refine wpL_calm (o := { dst := some 86, op := Go.Op.fieldAddr 79 (Go.Operand.tmp 85) 0, type := 0, pos := "ref.go:74", after := #[{ on := 1, ground := Go.Ground.data }], guard := none }) (v := ?_) rfl (Or.inl ⟨by rfl, ?_⟩) ?_; rotate_left; (focus (intro w hSw; (try dsimp only at hSw); go_simp; (try (with_reducible rfl)); done)); try simp only [Act.put, List.setIfInBounds_toArray, List.set_cons_zero, List.set_cons_succ]
              refine wpL_calm (o := { dst := some 87, op := Go.Op.load 77 (Go.Operand.tmp 86), type := 77, pos := "ref.go:74", after := #[{ on := 2, ground := Go.Ground.data }], guard := none }) (v := ?_) rfl (Or.inl ⟨by rfl, ?_⟩) ?_; rotate_left; (focus (intro w hSw; (try dsimp only at hSw); go_simp; (try (with_reducible rfl)); done)); try simp only [Act.put, List.setIfInBounds_toArray, List.set_cons_zero, List.set_cons_succ]
              refine wpL_calm (o := { dst := some 88, op := Go.Op.move (Go.Operand.tmp 6), type := 3, pos := "ref.go:74", after := #[], guard := none }) (v := ?_) rfl (Or.inl ⟨by rfl, ?_⟩) ?_; rotate_left; (focus (intro w hSw; (try dsimp only at hSw); go_simp; (try (with_reducible rfl)); done)); try simp only [Act.put, List.setIfInBounds_toArray, List.set_cons_zero, List.set_cons_succ]
              refine wpL_calm (o := { dst := some 89, op := Go.Op.indexAddr 77 (Go.Operand.tmp 87) (Go.Operand.tmp 88), type := 0, pos := "ref.go:74", after := #[{ on := 3, ground := Go.Ground.data }, { on := 4, ground := Go.Ground.data }], guard := none }) (v := ?_) rfl (Or.inl ⟨by rfl, ?_⟩) ?_; rotate_left; (focus (intro w hSw; (try dsimp only at hSw); go_simp; (try (with_reducible rfl)); done)); try simp only [Act.put, List.setIfInBounds_toArray, List.set_cons_zero, List.set_cons_succ]
              refine wpL_calm (o := { dst := some 90, op := Go.Op.load 9 (Go.Operand.tmp 89), type := 9, pos := "ref.go:74", after := #[{ on := 5, ground := Go.Ground.data }], guard := none }) (v := ?_) rfl (Or.inl ⟨by rfl, ?_⟩) ?_; rotate_left; (focus (intro w hSw; (try dsimp only at hSw); go_simp; (try (with_reducible rfl)); done)); try simp only [Act.put, List.setIfInBounds_toArray, List.set_cons_zero, List.set_cons_succ]
              refine wpL_calm (o := { dst := some 91, op := Go.Op.move (Go.Operand.tmp 4), type := 3, pos := "ref.go:74", after := #[], guard := none }) (v := ?_) rfl (Or.inl ⟨by rfl, ?_⟩) ?_; rotate_left; (focus (intro w hSw; (try dsimp only at hSw); go_simp; (try (with_reducible rfl)); done)); try simp only [Act.put, List.setIfInBounds_toArray, List.set_cons_zero, List.set_cons_succ]
              refine wpL_calm (o := { dst := some 92, op := Go.Op.slice 9 (Go.Operand.tmp 90) none (some (Go.Operand.tmp 91)) none, type := 9, pos := "ref.go:74", after := #[{ on := 6, ground := Go.Ground.data }, { on := 7, ground := Go.Ground.data }], guard := none }) (v := ?_) rfl (Or.inl ⟨by rfl, ?_⟩) ?_; rotate_left; (focus (intro w hSw; (try dsimp only at hSw); go_simp; (try (with_reducible rfl)); done)); try simp only [Act.put, List.setIfInBounds_toArray, List.set_cons_zero, List.set_cons_succ]
              refine wpL_calm (o := { dst := some 93, op := Go.Op.move (Go.Operand.tmp 0), type := 59, pos := "ref.go:74", after := #[], guard := none }) (v := ?_) rfl (Or.inl ⟨by rfl, ?_⟩) ?_; rotate_left; (focus (intro w hSw; (try dsimp only at hSw); go_simp; (try (with_reducible rfl)); done)); try simp only [Act.put, List.setIfInBounds_toArray, List.set_cons_zero, List.set_cons_succ]
              refine wpL_calm (o := { dst := some 94, op := Go.Op.nilCheck (Go.Operand.tmp 93), type := 0, pos := "ref.go:74", after := #[{ on := 9, ground := Go.Ground.data }], guard := none }) (v := ?_) rfl (Or.inl ⟨by rfl, ?_⟩) ?_; rotate_left; (focus (intro w hSw; (try dsimp only at hSw); go_simp; (try (with_reducible rfl)); done)); try simp only [Act.put, List.setIfInBounds_toArray, List.set_cons_zero, List.set_cons_succ]
              refine wpL_calm (o := { dst := some 95, op := Go.Op.fieldAddr 79 (Go.Operand.tmp 94) 1, type := 0, pos := "ref.go:74", after := #[{ on := 10, ground := Go.Ground.data }], guard := none }) (v := ?_) rfl (Or.inl ⟨by rfl, ?_⟩) ?_; rotate_left; (focus (intro w hSw; (try dsimp only at hSw); go_simp; (try (with_reducible rfl)); done)); try simp only [Act.put, List.setIfInBounds_toArray, List.set_cons_zero, List.set_cons_succ]
              refine wpL_calm (o := { dst := some 96, op := Go.Op.load 77 (Go.Operand.tmp 95), type := 77, pos := "ref.go:74", after := #[{ on := 11, ground := Go.Ground.data }], guard := none }) (v := ?_) rfl (Or.inl ⟨by rfl, ?_⟩) ?_; rotate_left; (focus (intro w hSw; (try dsimp only at hSw); go_simp; (try (with_reducible rfl)); done)); try simp only [Act.put, List.setIfInBounds_toArray, List.set_cons_zero, List.set_cons_succ]
              refine wpL_calm (o := { dst := some 97, op := Go.Op.move (Go.Operand.tmp 6), type := 3, pos := "ref.go:74", after := #[], guard := none }) (v := ?_) rfl (Or.inl ⟨by rfl, ?_⟩) ?_; rotate_left; (focus (intro w hSw; (try dsimp only at hSw); go_simp; (try (with_reducible rfl)); done)); try simp only [Act.put, List.setIfInBounds_toArray, List.set_cons_zero, List.set_cons_succ]
              refine wpL_calm (o := { dst := some 98, op := Go.Op.indexAddr 77 (Go.Operand.tmp 96) (Go.Operand.tmp 97), type := 0, pos := "ref.go:74", after := #[{ on := 12, ground := Go.Ground.data }, { on := 13, ground := Go.Ground.data }], guard := none }) (v := ?_) rfl (Or.inl ⟨by rfl, ?_⟩) ?_; rotate_left; (focus (intro w hSw; (try dsimp only at hSw); go_simp; (try (with_reducible rfl)); done)); try simp only [Act.put, List.setIfInBounds_toArray, List.set_cons_zero, List.set_cons_succ]
              refine wpL_calm (o := { dst := some 99, op := Go.Op.load 9 (Go.Operand.tmp 98), type := 9, pos := "ref.go:74", after := #[{ on := 14, ground := Go.Ground.data }], guard := none }) (v := ?_) rfl (Or.inl ⟨by rfl, ?_⟩) ?_; rotate_left; (focus (intro w hSw; (try dsimp only at hSw); go_simp; (try (with_reducible rfl)); done)); try simp only [Act.put, List.setIfInBounds_toArray, List.set_cons_zero, List.set_cons_succ]
              refine wpL_calm (o := { dst := some 100, op := Go.Op.move (Go.Operand.tmp 4), type := 3, pos := "ref.go:74", after := #[], guard := none }) (v := ?_) rfl (Or.inl ⟨by rfl, ?_⟩) ?_; rotate_left; (focus (intro w hSw; (try dsimp only at hSw); go_simp; (try (with_reducible rfl)); done)); try simp only [Act.put, List.setIfInBounds_toArray, List.set_cons_zero, List.set_cons_succ]
              refine wpL_calm (o := { dst := some 101, op := Go.Op.slice 9 (Go.Operand.tmp 99) (some (Go.Operand.tmp 100)) none none, type := 9, pos := "ref.go:74", after := #[{ on := 15, ground := Go.Ground.data }, { on := 16, ground := Go.Ground.data }], guard := none }) (v := ?_) rfl (Or.inl ⟨by rfl, ?_⟩) ?_; rotate_left; (focus (intro w hSw; (try dsimp only at hSw); go_simp; (try (with_reducible rfl)); done)); try simp only [Act.put, List.setIfInBounds_toArray, List.set_cons_zero, List.set_cons_succ]
              refine wpL_calm (o := { dst := some 102, op := Go.Op.binOp Go.BinOp.add 9 (Go.Operand.tmp 92) (Go.Operand.tmp 101) 9, type := 9, pos := "ref.go:74", after := #[{ on := 8, ground := Go.Ground.data }, { on := 17, ground := Go.Ground.data }], guard := none }) (v := ?_) rfl (Or.inl ⟨by rfl, ?_⟩) ?_; rotate_left; (focus (intro w hSw; (try dsimp only at hSw); go_simp; (try (with_reducible rfl)); done)); try simp only [Act.put, List.setIfInBounds_toArray, List.set_cons_zero, List.set_cons_succ]
              refine wpL_calm (o := { dst := some 7, op := Go.Op.assign (Go.Operand.tmp 102), type := 9, pos := "ref.go:74", after := #[{ on := 18, ground := Go.Ground.data }, { on := 0, ground := Go.Ground.phase }, { on := 1, ground := Go.Ground.phase }, { on := 2, ground := Go.Ground.phase }, { on := 3, ground := Go.Ground.phase }, { on := 4, ground := Go.Ground.phase }, { on := 5, ground := Go.Ground.phase }, { on := 6, ground := Go.Ground.phase }, { on := 7, ground := Go.Ground.phase }, { on := 8, ground := Go.Ground.phase }, { on := 9, ground := Go.Ground.phase }, { on := 10, ground := Go.Ground.phase }, { on := 11, ground := Go.Ground.phase }, { on := 12, ground := Go.Ground.phase }, { on := 13, ground := Go.Ground.phase }, { on := 14, ground := Go.Ground.phase }, { on := 15, ground := Go.Ground.phase }, { on := 16, ground := Go.Ground.phase }, { on := 17, ground := Go.Ground.phase }, { on := 18, ground := Go.Ground.phase }], guard := none }) (v := ?_) rfl (Or.inl ⟨by rfl, ?_⟩) ?_; rotate_left; (focus (intro w hSw; (try dsimp only at hSw); go_simp; (try (with_reducible rfl)); done)); try simp only [Act.put, List.setIfInBounds_toArray, List.set_cons_zero, List.set_cons_succ]
              refine wpL_nil ?_
              refine NoPanic.normal ?_
              clear hHeld hcat
              generalize (tn.extract 0 64) = tx at *
              go_wp2_with (at_builtin; refine wpList_append_own _ rfl _ _ 77 rfl w1.heap.size 9 is (.string ⟨#[]⟩) 1 16 Try.underlying77 his hs0 hs1 hs2 rfl (by decide) _ i (txV T i) rfl (HO.out.alloc _) ⟨wq.heap.size, 0, none⟩ 1 1 [.string tx] rfl rfl (one_at12 _ _ _) (fun u hu => by simp at hu; subst hu; rfl) (by unfold maxLen; omega) (by omega) (by have := HBi.out.size; simp; omega) ?_)
              intro v9 w9 O9 G9 _
              rw [← txV_snoc] at O9
              have HO9 := Lib.hid O9
              have HS9 := Lib.hid (size_all HSI.out HSX.out)
              have HB9 : Hid (Below w1.heap.size w1 w9) := Lib.hid ((HBi.out.alloc HBi.out.size _).grown G9 (by have := HBi.out.size; simp; omega) (fun q hq => (HO.out.lt q hq).1))
              obtain ⟨a9, c9, rfl⟩ := own_at12 O9
              clear O9 G9 HO HSI HBi
              go_wp2_with fail
              go_roundw
              case rel => exact ⟨i + 1, _, _, by go_num, rfl, by omega, HO9, HS9, HB9⟩
              case measure => simp [intOf]; omega
            · have ht' : ((i : Int) == torn) = false := by simpa using ht
              clear ht
              go_wp2_with (at_builtin; refine wpList_append_own _ rfl _ _ 77 rfl w1.heap.size 9 is (.string ⟨#[]⟩) 1 16 Try.underlying77 his hs0 hs1 hs2 rfl (by decide) _ i (txV T i) rfl (HO.out.alloc _) ⟨wr.heap.size, 0, none⟩ 1 1 [.string ts] rfl rfl (one_at12 _ _ _) (fun u hu => by simp at hu; subst hu; rfl) (by unfold maxLen; omega) (by omega) (by have := HBi.out.size; simp; omega) ?_)
              intro v9 w9 O9 G9 _
              rw [← txV_snoc] at O9
              have HO9 := Lib.hid O9
              have HS9 := Lib.hid (size_all HSI.out HSS.out)
              have HB9 : Hid (Below w1.heap.size w1 w9) := Lib.hid ((HBi.out.alloc HBi.out.size _).grown G9 (by have := HBi.out.size; simp; omega) (fun q hq => (HO.out.lt q hq).1))
              obtain ⟨a9, c9, rfl⟩ := own_at12 O9
              clear O9 G9 HO HSI HBi
              go_wp2_with fail
              go_roundw
              case rel => exact ⟨i + 1, _, _, by go_num, rfl, by omega, HO9, HS9, HB9⟩
              case measure => simp [intOf]; omega
      · as_aux_lemma =>
        obtain rfl : i = 288 := by omega
        rw [show ((288 : Nat) : Int) = 288 from rfl]
        have t3 := own_T64 HO.out HSI.out
        obtain ⟨a3, k3, rfl⟩ := t3.sl
        have hgf := (dv_cells hgi).2.2.2 0
        have hz : B ≤ wr.heap.size := Nat.le_trans hBw HBW.out.size
        have HD3 : Hid (DAt (wr.setCell ⟨g, 0, none⟩ (.slice a3 288 k3)) B g) := Lib.hid (DAt.set hB hgi rfl (t3.base (by have := HB1.out.size; omega)) (HSF.out.below HBW.out) (HBB.out.below HBW.out))
        have HK3 : Hid (Kq B [g] w (wr.setCell ⟨g, 0, none⟩ (.slice a3 288 k3))) := Lib.hid (kq_one (Kq.of_below HBW.out hBw) 0 _ hB)
        clear t3 HO HSI hgi d1 d2
        go_upto_region 18 with fail
        clear d0 hgf
        generalize wr.setCell ⟨g, 0, none⟩ (.slice a3 288 k3) = w4 at *
        have hz4 : B ≤ w4.heap.size := Nat.le_trans hBw HK3.out.below.size
        go_wp2_with fail
        refine (PF.out _ HD3.out hz4).mono ?_
        rintro e w5 ⟨rfl, d5, k5⟩
        go_wp2_with fail
        go_end0
        exact ⟨rfl, d5, HK3.out.trans k5⟩
  · go_enter Try.func59, Try.ntmps59
    go_upto_region 1 with fail
    rw [HW.out]
    clear HW
    go_wp2_with fail
    clear l2
    go_loopw [5, 6, 7, 8] (fun x5 x6 _ _ wi => ∃ (i : Nat) (v : Value) (T : Nat → ByteArray), x6 = .int .i64 (i : Int) ∧ x5 = v ∧ i ≤ 288 ∧ Hid (wi.ownsRow w1.heap.size 9 1 v i (txV T i)) ∧ Hid (∀ j, j < i → (T j).size = 64) ∧ Hid (Below w1.heap.size w1 wi)) (fun _ x _ _ _ => 288 - (intOf x).toNat)
    case atStart => exact ⟨0, _, _, rfl, rfl, by omega, HO0, h00, HB0⟩
    clear HO0 h00 HB0
    case round =>
      obtain ⟨i, v, T, rfl, rfl, hi, HO, HSI, HBi⟩ := hrel
      have HBW := Lib.hid (HB1.out.trans (HBi.out.mono HB1.out.size))
      have hgi := (HBW.out.block g hgd).trans HG.out
      obtain ⟨d0, d1, d2, -⟩ := dv_cells hgi
      by_cases hlt : i < 288
      · as_aux_lemma =>
        have hli : (i : Int) < 288 := by omega
        have hni := (HBW.out.cell (p := ⟨gn, i, none⟩) hln).trans (HCN.out i hlt).1
        have hsi := (HBW.out.cell (p := ⟨gs, i, none⟩) hls).trans (HCS.out i hlt).1
        have hbi := (HBW.out.cell (p := ⟨gb, i, none⟩) hlb).trans (HCB.out i hlt)
        have hsn : (Tn i).size = 64 := (HCN.out i hlt).2
        have hss : (Ts i).size = 64 := (HCS.out i hlt).2
        have l0 := (HBi.out.cell (p := ⟨w.heap.size, 0, none⟩) hl1).trans L0.out
        have l1 := (HBi.out.cell (p := ⟨w.heap.size, 1, none⟩) hl1).trans L1.out
        obtain ⟨k, hk⟩ : ∃ k, Hid (i % 64 = k) := ⟨_, Lib.hid rfl⟩
        have y1 : (i : Int).tmod 64 = (k : Int) := by rw [Int.tmod_eq_emod_of_nonneg (by omega)]; have := hk.out; omega
        have y1' : (i : Int) % 64 = (k : Int) := by have := hk.out; omega
        have y2 : IntKind.i64.wrap (k : Int) = (k : Int) := IntWalk.i64_in _ (by have := hk.out; omega)
        have HSN := Lib.hid hsn
        have HSS := Lib.hid hss
        clear hsn hss
        generalize Tn i = tn at *
        generalize Ts i = ts at *
        generalize Tb i = tb at *
        cases tb with
        | false =>
          go_wp2_with (at_builtin; refine wpList_append_own _ rfl _ _ 77 rfl w1.heap.size 9 is (.string ⟨#[]⟩) 1 16 Try.underlying77 his hs0 hs1 hs2 rfl (by decide) _ i (txV T i) rfl (HO.out.alloc _) ⟨wr.heap.size, 0, none⟩ 1 1 [.string tn] rfl rfl (one_at12 _ _ _) (fun u hu => by simp at hu; subst hu; rfl) (by unfold maxLen; omega) (by omega) (by have := HBi.out.size; simp; omega) ?_)
          intro v9 w9 O9 G9 _
          rw [← txV_snoc] at O9
          have HO9 := Lib.hid O9
          have HS9 := Lib.hid (size_all HSI.out HSN.out)
          have HB9 : Hid (Below w1.heap.size w1 w9) := Lib.hid ((HBi.out.alloc HBi.out.size _).grown G9 (by have := HBi.out.size; simp; omega) (fun q hq => (HO.out.lt q hq).1))
          obtain ⟨a9, c9, rfl⟩ := own_at12 O9
          clear O9 G9 HO HSI HBi
          go_wp2_with fail
          go_roundw
          case rel => exact ⟨i + 1, _, _, by go_num, rfl, by omega, HO9, HS9, HB9⟩
          case measure => simp [intOf]; omega
        | true =>
          by_cases hkl : k < kl
          · have hkli : (k : Int) < (kl : Int) := by omega
            obtain ⟨kb, ko, rfl, hkb, _, hkc⟩ : ∃ kb ko, ao = some ⟨kb, ko, none⟩ ∧ kb < w.heap.size ∧ kl ≤ 140737488351232 ∧ ∀ j, j < kl → w.cell? ⟨kb, ko + j, none⟩ = some (.bool (keep j)) := by
              rcases HLA.out with h | h
              · exact absurd h (by show ¬ kl = 0; omega)
              · exact h
            have hki := (HBW.out.cell (p := ⟨kb, ko + k, none⟩) hkb).trans (hkc k hkl)
            clear hkc
            generalize keep k = kp at *
            cases kp with
            | true =>
              go_wp2_with (at_builtin; refine wpList_append_own _ rfl _ _ 77 rfl w1.heap.size 9 is (.string ⟨#[]⟩) 1 16 Try.underlying77 his hs0 hs1 hs2 rfl (by decide) _ i (txV T i) rfl (HO.out.alloc _) ⟨wr.heap.size, 0, none⟩ 1 1 [.string tn] rfl rfl (one_at12 _ _ _) (fun u hu => by simp at hu; subst hu; rfl) (by unfold maxLen; omega) (by omega) (by have := HBi.out.size; simp; omega) ?_)
              intro v9 w9 O9 G9 _
              rw [← txV_snoc] at O9
              have HO9 := Lib.hid O9
              have HS9 := Lib.hid (size_all HSI.out HSN.out)
              have HB9 : Hid (Below w1.heap.size w1 w9) := Lib.hid ((HBi.out.alloc HBi.out.size _).grown G9 (by have := HBi.out.size; simp; omega) (fun q hq => (HO.out.lt q hq).1))
              obtain ⟨a9, c9, rfl⟩ := own_at12 O9
              clear O9 G9 HO HSI HBi
              go_wp2_with fail
              go_roundw
              case rel => exact ⟨i + 1, _, _, by go_num, rfl, by omega, HO9, HS9, HB9⟩
              case measure => simp [intOf]; omega
            | false =>
              by_cases ht : (i : Int) = torn
              · have ht' : ((i : Int) == torn) = true := by simpa using ht
                clear ht
                obtain ⟨m, rfl⟩ : ∃ m : Nat, bytes = (m : Int) := ⟨bytes.toNat, by omega⟩
                have hm : m ≤ 64 := by omega
                have hm1 : (m : Int) ≤ (tn.size : Int) := by have := HSN.out; omega
                have hm2 : (m : Int) ≤ (ts.size : Int) := by have := HSS.out; omega
                have hzn : tn.size = 64 := HSN.out
                have hzs : ts.size = 64 := HSS.out
                have HSX : Hid ((tn.extract 0 m ++ ts.extract m 64).size = 64) := Lib.hid (by rw [ByteArray.size_append]; rw [ByteArray.size_extract, ByteArray.size_extract]; omega)
                have hcat : (9223372036854775807 < (tn.extract 0 m).size + (ts.extract m 64).size) = False := by rw [ByteArray.size_extract, ByteArray.size_extract]; simp; omega
                have HO := Lib.hid (own_keep12 HO.out)
                have HBi := Lib.hid HBi.out.drew
                go_upto_region 15 with fail
                refine wp_region_lin_all (S := (fun w' => w'.cell? ⟨g, 0, none⟩ = some (.slice (some ⟨gn, 0, none⟩) 288 cn) ∧ w'.cell? ⟨g, 1, none⟩ = some (.slice (some ⟨gs, 0, none⟩) 288 cs_) ∧ w'.cell? ⟨gn, i, none⟩ = some (.string tn) ∧ w'.cell? ⟨gs, i, none⟩ = some (.string ts))) [(0, true), (1, true), (2, true), (3, true), (4, true), (5, true), (6, true), (7, true), (8, true), (9, true), (10, true), (11, true), (12, true), (13, true), (14, true), (15, true), (16, true), (17, true), (18, true), (19, true)] (by kernel_rfl) (by kernel_rfl) rfl (by kernel_rfl) ?_ (fun hHeld => ?_)
                · (try dsimp only); exact ⟨d0, d1, hni, hsi⟩
                generalize World.drew wr = wq at hHeld HO HBi ⊢
                refine wpL_calm (o := { dst := some 84, op := Go.Op.move (Go.Operand.tmp 0), type := 59, pos := "ref.go:74", after := #[], guard := none }) (v := ?_) rfl (Or.inl ⟨by rfl, ?_⟩) ?_; rotate_left; (focus (intro w hSw; (try dsimp only at hSw); go_simp; (try (with_reducible rfl)); done)); try simp only [Act.put, List.setIfInBounds_toArray, List.set_cons_zero, List.set_cons_succ]
                refine wpL_calm (o := { dst := some 85, op := Go.Op.nilCheck (Go.Operand.tmp 84), type := 0, pos := "ref.go:74", after := #[{ on := 0, ground := Go.Ground.data }], guard := none }) (v := ?_) rfl (Or.inl ⟨by rfl, ?_⟩) ?_; rotate_left; (focus (intro w hSw; (try dsimp only at hSw); go_simp; (try (with_reducible rfl)); done)); try simp only [Act.put, List.setIfInBounds_toArray, List.set_cons_zero, List.set_cons_succ]
                refine wpL_calm (o := { dst := some 86, op := Go.Op.fieldAddr 79 (Go.Operand.tmp 85) 0, type := 0, pos := "ref.go:74", after := #[{ on := 1, ground := Go.Ground.data }], guard := none }) (v := ?_) rfl (Or.inl ⟨by rfl, ?_⟩) ?_; rotate_left; (focus (intro w hSw; (try dsimp only at hSw); go_simp; (try (with_reducible rfl)); done)); try simp only [Act.put, List.setIfInBounds_toArray, List.set_cons_zero, List.set_cons_succ]
                refine wpL_calm (o := { dst := some 87, op := Go.Op.load 77 (Go.Operand.tmp 86), type := 77, pos := "ref.go:74", after := #[{ on := 2, ground := Go.Ground.data }], guard := none }) (v := ?_) rfl (Or.inl ⟨by rfl, ?_⟩) ?_; rotate_left; (focus (intro w hSw; (try dsimp only at hSw); go_simp; (try (with_reducible rfl)); done)); try simp only [Act.put, List.setIfInBounds_toArray, List.set_cons_zero, List.set_cons_succ]
                refine wpL_calm (o := { dst := some 88, op := Go.Op.move (Go.Operand.tmp 6), type := 3, pos := "ref.go:74", after := #[], guard := none }) (v := ?_) rfl (Or.inl ⟨by rfl, ?_⟩) ?_; rotate_left; (focus (intro w hSw; (try dsimp only at hSw); go_simp; (try (with_reducible rfl)); done)); try simp only [Act.put, List.setIfInBounds_toArray, List.set_cons_zero, List.set_cons_succ]
                refine wpL_calm (o := { dst := some 89, op := Go.Op.indexAddr 77 (Go.Operand.tmp 87) (Go.Operand.tmp 88), type := 0, pos := "ref.go:74", after := #[{ on := 3, ground := Go.Ground.data }, { on := 4, ground := Go.Ground.data }], guard := none }) (v := ?_) rfl (Or.inl ⟨by rfl, ?_⟩) ?_; rotate_left; (focus (intro w hSw; (try dsimp only at hSw); go_simp; (try (with_reducible rfl)); done)); try simp only [Act.put, List.setIfInBounds_toArray, List.set_cons_zero, List.set_cons_succ]
                refine wpL_calm (o := { dst := some 90, op := Go.Op.load 9 (Go.Operand.tmp 89), type := 9, pos := "ref.go:74", after := #[{ on := 5, ground := Go.Ground.data }], guard := none }) (v := ?_) rfl (Or.inl ⟨by rfl, ?_⟩) ?_; rotate_left; (focus (intro w hSw; (try dsimp only at hSw); go_simp; (try (with_reducible rfl)); done)); try simp only [Act.put, List.setIfInBounds_toArray, List.set_cons_zero, List.set_cons_succ]
                refine wpL_calm (o := { dst := some 91, op := Go.Op.move (Go.Operand.tmp 4), type := 3, pos := "ref.go:74", after := #[], guard := none }) (v := ?_) rfl (Or.inl ⟨by rfl, ?_⟩) ?_; rotate_left; (focus (intro w hSw; (try dsimp only at hSw); go_simp; (try (with_reducible rfl)); done)); try simp only [Act.put, List.setIfInBounds_toArray, List.set_cons_zero, List.set_cons_succ]
                refine wpL_calm (o := { dst := some 92, op := Go.Op.slice 9 (Go.Operand.tmp 90) none (some (Go.Operand.tmp 91)) none, type := 9, pos := "ref.go:74", after := #[{ on := 6, ground := Go.Ground.data }, { on := 7, ground := Go.Ground.data }], guard := none }) (v := ?_) rfl (Or.inl ⟨by rfl, ?_⟩) ?_; rotate_left; (focus (intro w hSw; (try dsimp only at hSw); go_simp; (try (with_reducible rfl)); done)); try simp only [Act.put, List.setIfInBounds_toArray, List.set_cons_zero, List.set_cons_succ]
                refine wpL_calm (o := { dst := some 93, op := Go.Op.move (Go.Operand.tmp 0), type := 59, pos := "ref.go:74", after := #[], guard := none }) (v := ?_) rfl (Or.inl ⟨by rfl, ?_⟩) ?_; rotate_left; (focus (intro w hSw; (try dsimp only at hSw); go_simp; (try (with_reducible rfl)); done)); try simp only [Act.put, List.setIfInBounds_toArray, List.set_cons_zero, List.set_cons_succ]
                refine wpL_calm (o := { dst := some 94, op := Go.Op.nilCheck (Go.Operand.tmp 93), type := 0, pos := "ref.go:74", after := #[{ on := 9, ground := Go.Ground.data }], guard := none }) (v := ?_) rfl (Or.inl ⟨by rfl, ?_⟩) ?_; rotate_left; (focus (intro w hSw; (try dsimp only at hSw); go_simp; (try (with_reducible rfl)); done)); try simp only [Act.put, List.setIfInBounds_toArray, List.set_cons_zero, List.set_cons_succ]
                refine wpL_calm (o := { dst := some 95, op := Go.Op.fieldAddr 79 (Go.Operand.tmp 94) 1, type := 0, pos := "ref.go:74", after := #[{ on := 10, ground := Go.Ground.data }], guard := none }) (v := ?_) rfl (Or.inl ⟨by rfl, ?_⟩) ?_; rotate_left; (focus (intro w hSw; (try dsimp only at hSw); go_simp; (try (with_reducible rfl)); done)); try simp only [Act.put, List.setIfInBounds_toArray, List.set_cons_zero, List.set_cons_succ]
                refine wpL_calm (o := { dst := some 96, op := Go.Op.load 77 (Go.Operand.tmp 95), type := 77, pos := "ref.go:74", after := #[{ on := 11, ground := Go.Ground.data }], guard := none }) (v := ?_) rfl (Or.inl ⟨by rfl, ?_⟩) ?_; rotate_left; (focus (intro w hSw; (try dsimp only at hSw); go_simp; (try (with_reducible rfl)); done)); try simp only [Act.put, List.setIfInBounds_toArray, List.set_cons_zero, List.set_cons_succ]
                refine wpL_calm (o := { dst := some 97, op := Go.Op.move (Go.Operand.tmp 6), type := 3, pos := "ref.go:74", after := #[], guard := none }) (v := ?_) rfl (Or.inl ⟨by rfl, ?_⟩) ?_; rotate_left; (focus (intro w hSw; (try dsimp only at hSw); go_simp; (try (with_reducible rfl)); done)); try simp only [Act.put, List.setIfInBounds_toArray, List.set_cons_zero, List.set_cons_succ]
                refine wpL_calm (o := { dst := some 98, op := Go.Op.indexAddr 77 (Go.Operand.tmp 96) (Go.Operand.tmp 97), type := 0, pos := "ref.go:74", after := #[{ on := 12, ground := Go.Ground.data }, { on := 13, ground := Go.Ground.data }], guard := none }) (v := ?_) rfl (Or.inl ⟨by rfl, ?_⟩) ?_; rotate_left; (focus (intro w hSw; (try dsimp only at hSw); go_simp; (try (with_reducible rfl)); done)); try simp only [Act.put, List.setIfInBounds_toArray, List.set_cons_zero, List.set_cons_succ]
                refine wpL_calm (o := { dst := some 99, op := Go.Op.load 9 (Go.Operand.tmp 98), type := 9, pos := "ref.go:74", after := #[{ on := 14, ground := Go.Ground.data }], guard := none }) (v := ?_) rfl (Or.inl ⟨by rfl, ?_⟩) ?_; rotate_left; (focus (intro w hSw; (try dsimp only at hSw); go_simp; (try (with_reducible rfl)); done)); try simp only [Act.put, List.setIfInBounds_toArray, List.set_cons_zero, List.set_cons_succ]
                refine wpL_calm (o := { dst := some 100, op := Go.Op.move (Go.Operand.tmp 4), type := 3, pos := "ref.go:74", after := #[], guard := none }) (v := ?_) rfl (Or.inl ⟨by rfl, ?_⟩) ?_; rotate_left; (focus (intro w hSw; (try dsimp only at hSw); go_simp; (try (with_reducible rfl)); done)); try simp only [Act.put, List.setIfInBounds_toArray, List.set_cons_zero, List.set_cons_succ]
                refine wpL_calm (o := { dst := some 101, op := Go.Op.slice 9 (Go.Operand.tmp 99) (some (Go.Operand.tmp 100)) none none, type := 9, pos := "ref.go:74", after := #[{ on := 15, ground := Go.Ground.data }, { on := 16, ground := Go.Ground.data }], guard := none }) (v := ?_) rfl (Or.inl ⟨by rfl, ?_⟩) ?_; rotate_left; (focus (intro w hSw; (try dsimp only at hSw); go_simp; (try (with_reducible rfl)); done)); try simp only [Act.put, List.setIfInBounds_toArray, List.set_cons_zero, List.set_cons_succ]
                refine wpL_calm (o := { dst := some 102, op := Go.Op.binOp Go.BinOp.add 9 (Go.Operand.tmp 92) (Go.Operand.tmp 101) 9, type := 9, pos := "ref.go:74", after := #[{ on := 8, ground := Go.Ground.data }, { on := 17, ground := Go.Ground.data }], guard := none }) (v := ?_) rfl (Or.inl ⟨by rfl, ?_⟩) ?_; rotate_left; (focus (intro w hSw; (try dsimp only at hSw); go_simp; (try (with_reducible rfl)); done)); try simp only [Act.put, List.setIfInBounds_toArray, List.set_cons_zero, List.set_cons_succ]
                refine wpL_calm (o := { dst := some 7, op := Go.Op.assign (Go.Operand.tmp 102), type := 9, pos := "ref.go:74", after := #[{ on := 18, ground := Go.Ground.data }, { on := 0, ground := Go.Ground.phase }, { on := 1, ground := Go.Ground.phase }, { on := 2, ground := Go.Ground.phase }, { on := 3, ground := Go.Ground.phase }, { on := 4, ground := Go.Ground.phase }, { on := 5, ground := Go.Ground.phase }, { on := 6, ground := Go.Ground.phase }, { on := 7, ground := Go.Ground.phase }, { on := 8, ground := Go.Ground.phase }, { on := 9, ground := Go.Ground.phase }, { on := 10, ground := Go.Ground.phase }, { on := 11, ground := Go.Ground.phase }, { on := 12, ground := Go.Ground.phase }, { on := 13, ground := Go.Ground.phase }, { on := 14, ground := Go.Ground.phase }, { on := 15, ground := Go.Ground.phase }, { on := 16, ground := Go.Ground.phase }, { on := 17, ground := Go.Ground.phase }, { on := 18, ground := Go.Ground.phase }], guard := none }) (v := ?_) rfl (Or.inl ⟨by rfl, ?_⟩) ?_; rotate_left; (focus (intro w hSw; (try dsimp only at hSw); go_simp; (try (with_reducible rfl)); done)); try simp only [Act.put, List.setIfInBounds_toArray, List.set_cons_zero, List.set_cons_succ]
                refine wpL_nil ?_
                refine NoPanic.normal ?_
                clear hHeld hcat
                generalize (tn.extract 0 m ++ ts.extract m 64) = tx at *
                go_wp2_with (at_builtin; refine wpList_append_own _ rfl _ _ 77 rfl w1.heap.size 9 is (.string ⟨#[]⟩) 1 16 Try.underlying77 his hs0 hs1 hs2 rfl (by decide) _ i (txV T i) rfl (HO.out.alloc _) ⟨wq.heap.size, 0, none⟩ 1 1 [.string tx] rfl rfl (one_at12 _ _ _) (fun u hu => by simp at hu; subst hu; rfl) (by unfold maxLen; omega) (by omega) (by have := HBi.out.size; simp; omega) ?_)
                intro v9 w9 O9 G9 _
                rw [← txV_snoc] at O9
                have HO9 := Lib.hid O9
                have HS9 := Lib.hid (size_all HSI.out HSX.out)
                have HB9 : Hid (Below w1.heap.size w1 w9) := Lib.hid ((HBi.out.alloc HBi.out.size _).grown G9 (by have := HBi.out.size; simp; omega) (fun q hq => (HO.out.lt q hq).1))
                obtain ⟨a9, c9, rfl⟩ := own_at12 O9
                clear O9 G9 HO HSI HBi
                go_wp2_with fail
                go_roundw
                case rel => exact ⟨i + 1, _, _, by go_num, rfl, by omega, HO9, HS9, HB9⟩
                case measure => simp [intOf]; omega
              · have ht' : ((i : Int) == torn) = false := by simpa using ht
                clear ht
                go_wp2_with (at_builtin; refine wpList_append_own _ rfl _ _ 77 rfl w1.heap.size 9 is (.string ⟨#[]⟩) 1 16 Try.underlying77 his hs0 hs1 hs2 rfl (by decide) _ i (txV T i) rfl (HO.out.alloc _) ⟨wr.heap.size, 0, none⟩ 1 1 [.string ts] rfl rfl (one_at12 _ _ _) (fun u hu => by simp at hu; subst hu; rfl) (by unfold maxLen; omega) (by omega) (by have := HBi.out.size; simp; omega) ?_)
                intro v9 w9 O9 G9 _
                rw [← txV_snoc] at O9
                have HO9 := Lib.hid O9
                have HS9 := Lib.hid (size_all HSI.out HSS.out)
                have HB9 : Hid (Below w1.heap.size w1 w9) := Lib.hid ((HBi.out.alloc HBi.out.size _).grown G9 (by have := HBi.out.size; simp; omega) (fun q hq => (HO.out.lt q hq).1))
                obtain ⟨a9, c9, rfl⟩ := own_at12 O9
                clear O9 G9 HO HSI HBi
                go_wp2_with fail
                go_roundw
                case rel => exact ⟨i + 1, _, _, by go_num, rfl, by omega, HO9, HS9, HB9⟩
                case measure => simp [intOf]; omega
          · have hkli : ¬ (k : Int) < (kl : Int) := by omega
            by_cases ht : (i : Int) = torn
            · have ht' : ((i : Int) == torn) = true := by simpa using ht
              clear ht
              obtain ⟨m, rfl⟩ : ∃ m : Nat, bytes = (m : Int) := ⟨bytes.toNat, by omega⟩
              have hm : m ≤ 64 := by omega
              have hm1 : (m : Int) ≤ (tn.size : Int) := by have := HSN.out; omega
              have hm2 : (m : Int) ≤ (ts.size : Int) := by have := HSS.out; omega
              have hzn : tn.size = 64 := HSN.out
              have hzs : ts.size = 64 := HSS.out
              have HSX : Hid ((tn.extract 0 m ++ ts.extract m 64).size = 64) := Lib.hid (by rw [ByteArray.size_append]; rw [ByteArray.size_extract, ByteArray.size_extract]; omega)
              have hcat : (9223372036854775807 < (tn.extract 0 m).size + (ts.extract m 64).size) = False := by rw [ByteArray.size_extract, ByteArray.size_extract]; simp; omega
              have HO := Lib.hid (own_keep12 HO.out)
              have HBi := Lib.hid HBi.out.drew
              go_upto_region 15 with fail
              refine wp_region_lin_all (S := (fun w' => w'.cell? ⟨g, 0, none⟩ = some (.slice (some ⟨gn, 0, none⟩) 288 cn) ∧ w'.cell? ⟨g, 1, none⟩ = some (.slice (some ⟨gs, 0, none⟩) 288 cs_) ∧ w'.cell? ⟨gn, i, none⟩ = some (.string tn) ∧ w'.cell? ⟨gs, i, none⟩ = some (.string ts))) [(0, true), (1, true), (2, true), (3, true), (4, true), (5, true), (6, true), (7, true), (8, true), (9, true), (10, true), (11, true), (12, true), (13, true), (14, true), (15, true), (16, true), (17, true), (18, true), (19, true)] (by kernel_rfl) (by kernel_rfl) rfl (by kernel_rfl) ?_ (fun hHeld => ?_)
              · (try dsimp only); exact ⟨d0, d1, hni, hsi⟩
              generalize World.drew wr = wq at hHeld HO HBi ⊢
              refine wpL_calm (o := { dst := some 84, op := Go.Op.move (Go.Operand.tmp 0), type := 59, pos := "ref.go:74", after := #[], guard := none }) (v := ?_) rfl (Or.inl ⟨by rfl, ?_⟩) ?_; rotate_left; (focus (intro w hSw; (try dsimp only at hSw); go_simp; (try (with_reducible rfl)); done)); try simp only [Act.put, List.setIfInBounds_toArray, List.set_cons_zero, List.set_cons_succ]
              refine wpL_calm (o := { dst := some 85, op := Go.Op.nilCheck (Go.Operand.tmp 84), type := 0, pos := "ref.go:74", after := #[{ on := 0, ground := Go.Ground.data }], guard := none }) (v := ?_) rfl (Or.inl ⟨by rfl, ?_⟩) ?_; rotate_left; (focus (intro w hSw; (try dsimp only at hSw); go_simp; (try (with_reducible rfl)); done)); try simp only [Act.put, List.setIfInBounds_toArray, List.set_cons_zero, List.set_cons_succ]
              refine wpL_calm (o := { dst := some 86, op := Go.Op.fieldAddr 79 (Go.Operand.tmp 85) 0, type := 0, pos := "ref.go:74", after := #[{ on := 1, ground := Go.Ground.data }], guard := none }) (v := ?_) rfl (Or.inl ⟨by rfl, ?_⟩) ?_; rotate_left; (focus (intro w hSw; (try dsimp only at hSw); go_simp; (try (with_reducible rfl)); done)); try simp only [Act.put, List.setIfInBounds_toArray, List.set_cons_zero, List.set_cons_succ]
              refine wpL_calm (o := { dst := some 87, op := Go.Op.load 77 (Go.Operand.tmp 86), type := 77, pos := "ref.go:74", after := #[{ on := 2, ground := Go.Ground.data }], guard := none }) (v := ?_) rfl (Or.inl ⟨by rfl, ?_⟩) ?_; rotate_left; (focus (intro w hSw; (try dsimp only at hSw); go_simp; (try (with_reducible rfl)); done)); try simp only [Act.put, List.setIfInBounds_toArray, List.set_cons_zero, List.set_cons_succ]
              refine wpL_calm (o := { dst := some 88, op := Go.Op.move (Go.Operand.tmp 6), type := 3, pos := "ref.go:74", after := #[], guard := none }) (v := ?_) rfl (Or.inl ⟨by rfl, ?_⟩) ?_; rotate_left; (focus (intro w hSw; (try dsimp only at hSw); go_simp; (try (with_reducible rfl)); done)); try simp only [Act.put, List.setIfInBounds_toArray, List.set_cons_zero, List.set_cons_succ]
              refine wpL_calm (o := { dst := some 89, op := Go.Op.indexAddr 77 (Go.Operand.tmp 87) (Go.Operand.tmp 88), type := 0, pos := "ref.go:74", after := #[{ on := 3, ground := Go.Ground.data }, { on := 4, ground := Go.Ground.data }], guard := none }) (v := ?_) rfl (Or.inl ⟨by rfl, ?_⟩) ?_; rotate_left; (focus (intro w hSw; (try dsimp only at hSw); go_simp; (try (with_reducible rfl)); done)); try simp only [Act.put, List.setIfInBounds_toArray, List.set_cons_zero, List.set_cons_succ]
              refine wpL_calm (o := { dst := some 90, op := Go.Op.load 9 (Go.Operand.tmp 89), type := 9, pos := "ref.go:74", after := #[{ on := 5, ground := Go.Ground.data }], guard := none }) (v := ?_) rfl (Or.inl ⟨by rfl, ?_⟩) ?_; rotate_left; (focus (intro w hSw; (try dsimp only at hSw); go_simp; (try (with_reducible rfl)); done)); try simp only [Act.put, List.setIfInBounds_toArray, List.set_cons_zero, List.set_cons_succ]
              refine wpL_calm (o := { dst := some 91, op := Go.Op.move (Go.Operand.tmp 4), type := 3, pos := "ref.go:74", after := #[], guard := none }) (v := ?_) rfl (Or.inl ⟨by rfl, ?_⟩) ?_; rotate_left; (focus (intro w hSw; (try dsimp only at hSw); go_simp; (try (with_reducible rfl)); done)); try simp only [Act.put, List.setIfInBounds_toArray, List.set_cons_zero, List.set_cons_succ]
              refine wpL_calm (o := { dst := some 92, op := Go.Op.slice 9 (Go.Operand.tmp 90) none (some (Go.Operand.tmp 91)) none, type := 9, pos := "ref.go:74", after := #[{ on := 6, ground := Go.Ground.data }, { on := 7, ground := Go.Ground.data }], guard := none }) (v := ?_) rfl (Or.inl ⟨by rfl, ?_⟩) ?_; rotate_left; (focus (intro w hSw; (try dsimp only at hSw); go_simp; (try (with_reducible rfl)); done)); try simp only [Act.put, List.setIfInBounds_toArray, List.set_cons_zero, List.set_cons_succ]
              refine wpL_calm (o := { dst := some 93, op := Go.Op.move (Go.Operand.tmp 0), type := 59, pos := "ref.go:74", after := #[], guard := none }) (v := ?_) rfl (Or.inl ⟨by rfl, ?_⟩) ?_; rotate_left; (focus (intro w hSw; (try dsimp only at hSw); go_simp; (try (with_reducible rfl)); done)); try simp only [Act.put, List.setIfInBounds_toArray, List.set_cons_zero, List.set_cons_succ]
              refine wpL_calm (o := { dst := some 94, op := Go.Op.nilCheck (Go.Operand.tmp 93), type := 0, pos := "ref.go:74", after := #[{ on := 9, ground := Go.Ground.data }], guard := none }) (v := ?_) rfl (Or.inl ⟨by rfl, ?_⟩) ?_; rotate_left; (focus (intro w hSw; (try dsimp only at hSw); go_simp; (try (with_reducible rfl)); done)); try simp only [Act.put, List.setIfInBounds_toArray, List.set_cons_zero, List.set_cons_succ]
              refine wpL_calm (o := { dst := some 95, op := Go.Op.fieldAddr 79 (Go.Operand.tmp 94) 1, type := 0, pos := "ref.go:74", after := #[{ on := 10, ground := Go.Ground.data }], guard := none }) (v := ?_) rfl (Or.inl ⟨by rfl, ?_⟩) ?_; rotate_left; (focus (intro w hSw; (try dsimp only at hSw); go_simp; (try (with_reducible rfl)); done)); try simp only [Act.put, List.setIfInBounds_toArray, List.set_cons_zero, List.set_cons_succ]
              refine wpL_calm (o := { dst := some 96, op := Go.Op.load 77 (Go.Operand.tmp 95), type := 77, pos := "ref.go:74", after := #[{ on := 11, ground := Go.Ground.data }], guard := none }) (v := ?_) rfl (Or.inl ⟨by rfl, ?_⟩) ?_; rotate_left; (focus (intro w hSw; (try dsimp only at hSw); go_simp; (try (with_reducible rfl)); done)); try simp only [Act.put, List.setIfInBounds_toArray, List.set_cons_zero, List.set_cons_succ]
              refine wpL_calm (o := { dst := some 97, op := Go.Op.move (Go.Operand.tmp 6), type := 3, pos := "ref.go:74", after := #[], guard := none }) (v := ?_) rfl (Or.inl ⟨by rfl, ?_⟩) ?_; rotate_left; (focus (intro w hSw; (try dsimp only at hSw); go_simp; (try (with_reducible rfl)); done)); try simp only [Act.put, List.setIfInBounds_toArray, List.set_cons_zero, List.set_cons_succ]
              refine wpL_calm (o := { dst := some 98, op := Go.Op.indexAddr 77 (Go.Operand.tmp 96) (Go.Operand.tmp 97), type := 0, pos := "ref.go:74", after := #[{ on := 12, ground := Go.Ground.data }, { on := 13, ground := Go.Ground.data }], guard := none }) (v := ?_) rfl (Or.inl ⟨by rfl, ?_⟩) ?_; rotate_left; (focus (intro w hSw; (try dsimp only at hSw); go_simp; (try (with_reducible rfl)); done)); try simp only [Act.put, List.setIfInBounds_toArray, List.set_cons_zero, List.set_cons_succ]
              refine wpL_calm (o := { dst := some 99, op := Go.Op.load 9 (Go.Operand.tmp 98), type := 9, pos := "ref.go:74", after := #[{ on := 14, ground := Go.Ground.data }], guard := none }) (v := ?_) rfl (Or.inl ⟨by rfl, ?_⟩) ?_; rotate_left; (focus (intro w hSw; (try dsimp only at hSw); go_simp; (try (with_reducible rfl)); done)); try simp only [Act.put, List.setIfInBounds_toArray, List.set_cons_zero, List.set_cons_succ]
              refine wpL_calm (o := { dst := some 100, op := Go.Op.move (Go.Operand.tmp 4), type := 3, pos := "ref.go:74", after := #[], guard := none }) (v := ?_) rfl (Or.inl ⟨by rfl, ?_⟩) ?_; rotate_left; (focus (intro w hSw; (try dsimp only at hSw); go_simp; (try (with_reducible rfl)); done)); try simp only [Act.put, List.setIfInBounds_toArray, List.set_cons_zero, List.set_cons_succ]
              refine wpL_calm (o := { dst := some 101, op := Go.Op.slice 9 (Go.Operand.tmp 99) (some (Go.Operand.tmp 100)) none none, type := 9, pos := "ref.go:74", after := #[{ on := 15, ground := Go.Ground.data }, { on := 16, ground := Go.Ground.data }], guard := none }) (v := ?_) rfl (Or.inl ⟨by rfl, ?_⟩) ?_; rotate_left; (focus (intro w hSw; (try dsimp only at hSw); go_simp; (try (with_reducible rfl)); done)); try simp only [Act.put, List.setIfInBounds_toArray, List.set_cons_zero, List.set_cons_succ]
              refine wpL_calm (o := { dst := some 102, op := Go.Op.binOp Go.BinOp.add 9 (Go.Operand.tmp 92) (Go.Operand.tmp 101) 9, type := 9, pos := "ref.go:74", after := #[{ on := 8, ground := Go.Ground.data }, { on := 17, ground := Go.Ground.data }], guard := none }) (v := ?_) rfl (Or.inl ⟨by rfl, ?_⟩) ?_; rotate_left; (focus (intro w hSw; (try dsimp only at hSw); go_simp; (try (with_reducible rfl)); done)); try simp only [Act.put, List.setIfInBounds_toArray, List.set_cons_zero, List.set_cons_succ]
              refine wpL_calm (o := { dst := some 7, op := Go.Op.assign (Go.Operand.tmp 102), type := 9, pos := "ref.go:74", after := #[{ on := 18, ground := Go.Ground.data }, { on := 0, ground := Go.Ground.phase }, { on := 1, ground := Go.Ground.phase }, { on := 2, ground := Go.Ground.phase }, { on := 3, ground := Go.Ground.phase }, { on := 4, ground := Go.Ground.phase }, { on := 5, ground := Go.Ground.phase }, { on := 6, ground := Go.Ground.phase }, { on := 7, ground := Go.Ground.phase }, { on := 8, ground := Go.Ground.phase }, { on := 9, ground := Go.Ground.phase }, { on := 10, ground := Go.Ground.phase }, { on := 11, ground := Go.Ground.phase }, { on := 12, ground := Go.Ground.phase }, { on := 13, ground := Go.Ground.phase }, { on := 14, ground := Go.Ground.phase }, { on := 15, ground := Go.Ground.phase }, { on := 16, ground := Go.Ground.phase }, { on := 17, ground := Go.Ground.phase }, { on := 18, ground := Go.Ground.phase }], guard := none }) (v := ?_) rfl (Or.inl ⟨by rfl, ?_⟩) ?_; rotate_left; (focus (intro w hSw; (try dsimp only at hSw); go_simp; (try (with_reducible rfl)); done)); try simp only [Act.put, List.setIfInBounds_toArray, List.set_cons_zero, List.set_cons_succ]
              refine wpL_nil ?_
              refine NoPanic.normal ?_
              clear hHeld hcat
              generalize (tn.extract 0 m ++ ts.extract m 64) = tx at *
              go_wp2_with (at_builtin; refine wpList_append_own _ rfl _ _ 77 rfl w1.heap.size 9 is (.string ⟨#[]⟩) 1 16 Try.underlying77 his hs0 hs1 hs2 rfl (by decide) _ i (txV T i) rfl (HO.out.alloc _) ⟨wq.heap.size, 0, none⟩ 1 1 [.string tx] rfl rfl (one_at12 _ _ _) (fun u hu => by simp at hu; subst hu; rfl) (by unfold maxLen; omega) (by omega) (by have := HBi.out.size; simp; omega) ?_)
              intro v9 w9 O9 G9 _
              rw [← txV_snoc] at O9
              have HO9 := Lib.hid O9
              have HS9 := Lib.hid (size_all HSI.out HSX.out)
              have HB9 : Hid (Below w1.heap.size w1 w9) := Lib.hid ((HBi.out.alloc HBi.out.size _).grown G9 (by have := HBi.out.size; simp; omega) (fun q hq => (HO.out.lt q hq).1))
              obtain ⟨a9, c9, rfl⟩ := own_at12 O9
              clear O9 G9 HO HSI HBi
              go_wp2_with fail
              go_roundw
              case rel => exact ⟨i + 1, _, _, by go_num, rfl, by omega, HO9, HS9, HB9⟩
              case measure => simp [intOf]; omega
            · have ht' : ((i : Int) == torn) = false := by simpa using ht
              clear ht
              go_wp2_with (at_builtin; refine wpList_append_own _ rfl _ _ 77 rfl w1.heap.size 9 is (.string ⟨#[]⟩) 1 16 Try.underlying77 his hs0 hs1 hs2 rfl (by decide) _ i (txV T i) rfl (HO.out.alloc _) ⟨wr.heap.size, 0, none⟩ 1 1 [.string ts] rfl rfl (one_at12 _ _ _) (fun u hu => by simp at hu; subst hu; rfl) (by unfold maxLen; omega) (by omega) (by have := HBi.out.size; simp; omega) ?_)
              intro v9 w9 O9 G9 _
              rw [← txV_snoc] at O9
              have HO9 := Lib.hid O9
              have HS9 := Lib.hid (size_all HSI.out HSS.out)
              have HB9 : Hid (Below w1.heap.size w1 w9) := Lib.hid ((HBi.out.alloc HBi.out.size _).grown G9 (by have := HBi.out.size; simp; omega) (fun q hq => (HO.out.lt q hq).1))
              obtain ⟨a9, c9, rfl⟩ := own_at12 O9
              clear O9 G9 HO HSI HBi
              go_wp2_with fail
              go_roundw
              case rel => exact ⟨i + 1, _, _, by go_num, rfl, by omega, HO9, HS9, HB9⟩
              case measure => simp [intOf]; omega
      · as_aux_lemma =>
        obtain rfl : i = 288 := by omega
        rw [show ((288 : Nat) : Int) = 288 from rfl]
        have t3 := own_T64 HO.out HSI.out
        obtain ⟨a3, k3, rfl⟩ := t3.sl
        have hgf := (dv_cells hgi).2.2.2 0
        have hz : B ≤ wr.heap.size := Nat.le_trans hBw HBW.out.size
        have HD3 : Hid (DAt (wr.setCell ⟨g, 0, none⟩ (.slice a3 288 k3)) B g) := Lib.hid (DAt.set hB hgi rfl (t3.base (by have := HB1.out.size; omega)) (HSF.out.below HBW.out) (HBB.out.below HBW.out))
        have HK3 : Hid (Kq B [g] w (wr.setCell ⟨g, 0, none⟩ (.slice a3 288 k3))) := Lib.hid (kq_one (Kq.of_below HBW.out hBw) 0 _ hB)
        clear t3 HO HSI hgi d1 d2
        go_upto_region 18 with fail
        clear d0 hgf
        generalize wr.setCell ⟨g, 0, none⟩ (.slice a3 288 k3) = w4 at *
        have hz4 : B ≤ w4.heap.size := Nat.le_trans hBw HK3.out.below.size
        go_wp2_with fail
        refine (PF.out _ HD3.out hz4).mono ?_
        rintro e w5 ⟨rfl, d5, k5⟩
        go_wp2_with fail
        go_end0
        exact ⟨rfl, d5, HK3.out.trans k5⟩
end Go.Proofs.Ytjmginkkjkbpoaa
