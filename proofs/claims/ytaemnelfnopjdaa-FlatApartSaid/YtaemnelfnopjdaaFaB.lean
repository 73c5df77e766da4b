/- Package flat: behind. -/
import Derived.Test.YtaemnelfnopjdaaFaA
import Derived.Deep.MidRow
import Derived.Deep.CutRange
namespace Go.Proofs.Ytaemnelfnopjdaa
open Go.RowKit Go.Deep
set_option linter.unusedVariables false
set_option linter.unusedSimpArgs false
theorem step_copy_ownM {P : Program} {ops : Array Oper} {o : Oper} {a : Act} {w : World} {K : Act → World → Prop} {Q : Exit → Act → World → Prop} {E : Prop} (hgd : o.guard = none) (d s : Operand) (dT sT : TypeId)
    (ho : o.op = .call { callee := .builtin .copy, args := #[d, s], argTypes := #[dT, sT] }) (elem : TypeId) (hu : P.underlying dT = some (.slice elem)) (hsz : (P.info? elem).map (·.size) = some 1)
    (g off dLen dCap : Nat) (ad : Addr) (sLen sCap : Nat) (hd : a.eval d = .slice (some ⟨g, off, none⟩) dLen dCap) (hs : a.eval s = .slice (some ad) sLen sCap)
    (cur : List Value) (t : TypeId) (hg : w.heap[g]? = some (.cells cur.toArray t (0, 0))) (cs : List Value) (hn : cs.length = Nat.min sLen dLen)
    (hsrc : ∀ j v, cs[j]? = some v → w.cell? (ad.add j) = some v) (hfit : off + cs.length ≤ cur.length) (h1 : ∀ v ∈ cs, v.oneCell' = true)
    (h : ∀ w', Hid (w' = w.setRow g (splice cur off cs).toArray) → K (a.put o.dst (goInt cs.length)) w') :
    if Region.wanted o (yielded ops a.tmps) = true then Oper.wp P o a w K Q else E := by
  have hw : Region.wanted o (yielded ops a.tmps) = true := by simp [Region.wanted, hgd]
  rw [if_pos hw]
  have hrun := run_copy_row (P := P) w dT sT o.type elem g off dLen dCap ad sLen sCap cur.toArray t cs hu hsz hg hn hsrc (by simpa using hfit) h1
  have hh := h _ (Lib.hid rfl)
  unfold splice at hh
  unfold Oper.wp
  simp [execOp, ho, resolve, invoke, builtin, hd, hs, hrun, Result.andThen]
  exact hh
def zst : List Nat := List.replicate 64 0
theorem zst_len : zst.length = 64 := by unfold zst; rw [List.length_replicate]
theorem zst_cells : (#[.int .i64 0, .int .i64 0, .int .i64 0, .int .i64 0, .int .i64 0, .int .i64 0, .int .i64 0, .int .i64 0, .int .i64 0, .int .i64 0, .int .i64 0, .int .i64 0, .int .i64 0, .int .i64 0, .int .i64 0, .int .i64 0, .int .i64 0, .int .i64 0, .int .i64 0, .int .i64 0, .int .i64 0, .int .i64 0, .int .i64 0, .int .i64 0, .int .i64 0, .int .i64 0, .int .i64 0, .int .i64 0, .int .i64 0, .int .i64 0, .int .i64 0, .int .i64 0, .int .i64 0, .int .i64 0, .int .i64 0, .int .i64 0, .int .i64 0, .int .i64 0, .int .i64 0, .int .i64 0, .int .i64 0, .int .i64 0, .int .i64 0, .int .i64 0, .int .i64 0, .int .i64 0, .int .i64 0, .int .i64 0, .int .i64 0, .int .i64 0, .int .i64 0, .int .i64 0, .int .i64 0, .int .i64 0, .int .i64 0, .int .i64 0, .int .i64 0, .int .i64 0, .int .i64 0, .int .i64 0, .int .i64 0, .int .i64 0, .int .i64 0, .int .i64 0] : Array Value) = stA zst := by kernel_rfl
theorem st_zero (w : World) : ∃ w1, Hid (w.alloc (.cells #[.int .i64 0, .int .i64 0, .int .i64 0, .int .i64 0, .int .i64 0, .int .i64 0, .int .i64 0, .int .i64 0, .int .i64 0, .int .i64 0, .int .i64 0, .int .i64 0, .int .i64 0, .int .i64 0, .int .i64 0, .int .i64 0, .int .i64 0, .int .i64 0, .int .i64 0, .int .i64 0, .int .i64 0, .int .i64 0, .int .i64 0, .int .i64 0, .int .i64 0, .int .i64 0, .int .i64 0, .int .i64 0, .int .i64 0, .int .i64 0, .int .i64 0, .int .i64 0, .int .i64 0, .int .i64 0, .int .i64 0, .int .i64 0, .int .i64 0, .int .i64 0, .int .i64 0, .int .i64 0, .int .i64 0, .int .i64 0, .int .i64 0, .int .i64 0, .int .i64 0, .int .i64 0, .int .i64 0, .int .i64 0, .int .i64 0, .int .i64 0, .int .i64 0, .int .i64 0, .int .i64 0, .int .i64 0, .int .i64 0, .int .i64 0, .int .i64 0, .int .i64 0, .int .i64 0, .int .i64 0, .int .i64 0, .int .i64 0, .int .i64 0, .int .i64 0] 56) = w1) ∧ w1.heap[w.heap.size]? = some (.cells (stA zst) 56 (0, 0)) ∧ Below w.heap.size w w1 ∧ w1.heap.size = w.heap.size + 1 := by
  rw [zst_cells]
  exact ⟨_, Lib.hid rfl, heap_alloc_new _ _, (Below.refl _ _).alloc (Nat.le_refl _) _, by simp⟩
theorem ch_box (w : World) (a : Int) (v : Value) : ∃ w1, Hid (w.alloc (.cells #[.int .i64 a, v] 70) = w1) ∧ w1.heap[w.heap.size]? = some (.cells #[.int .i64 a, v] 70 (0, 0)) ∧ Below w.heap.size w w1 ∧ w1.heap.size = w.heap.size + 1 :=
  ⟨_, Lib.hid rfl, heap_alloc_new _ _, (Below.refl _ _).alloc (Nat.le_refl _) _, by simp⟩
theorem NatAt.cells {w : World} {g o : Nat} {b : List Nat} (h : ∀ i (hi : i < b.length), w.cell? ⟨g, o + i, none⟩ = some (.int .i64 (b[i] : Int))) : ∀ j v, (nC b)[j]? = some v → w.cell? ⟨g, o + j, none⟩ = some v := fun j v hv => by
  rw [nC_get] at hv
  by_cases hj : j < b.length
  · rw [List.getElem?_eq_getElem hj] at hv
    cases hv
    exact h j hj
  · rw [List.getElem?_eq_none (by omega)] at hv
    cases hv
theorem stA_eq (s : List Nat) : (nC s).toArray = stA s := rfl
attribute [local irreducible] stA
set_option maxRecDepth 100000 in
set_option maxHeartbeats 2000000 in
theorem behind_any (s b : List Nat) (a : Nat) (ao : Option Addr) (c : Nat) (w : World) (hs : s.length = 64) (hb : NatAt w ao b) (hb0 : 0 < b.length) (hab : a + b.length ≤ 64) : Calls Try.prog 43 #[.agg (stA s), .agg #[.int .i64 (a : Int), .slice ao b.length c]] w fun e w' => e = .returned (.agg (stA (spl s a b))) ∧ Below w.heap.size w w' := by
  obtain ⟨g, o, rfl, hg, hc⟩ := hb hb0
  obtain ⟨w1, HW1, r1, b1, s1⟩ := st_box w s
  obtain ⟨w2, HW2, r2, b2, s2⟩ := ch_box w1 (a : Int) (.slice (some ⟨g, o, none⟩) b.length c)
  obtain ⟨w3, HW3, r3, b3, s3⟩ := st_zero w2
  rw [s1] at r2 s2
  rw [s2] at r3 s3
  have l1 : w.heap.size < w1.heap.size := by omega
  have l2 : w.heap.size + 1 < w2.heap.size := by omega
  have r1 := (b3.block w.heap.size (by omega)).trans ((b2.block w.heap.size l1).trans r1)
  have r2 := (b3.block (w.heap.size + 1) l2).trans r2
  have HB3 := Lib.hid ((b1.trans (b2.mono b1.size)).trans (b3.mono (Nat.le_trans b1.size b2.size)))
  have hc3 : ∀ i (hi : i < b.length), w3.cell? ⟨g, o + i, none⟩ = some (.int .i64 (b[i] : Int)) := fun i hi => (HB3.out.cell (p := ⟨g, o + i, none⟩) hg).trans (hc i hi)
  have HSRC := Lib.hid (NatAt.cells hc3)
  have k0 : w3.cell? ⟨w.heap.size + 1, 0, none⟩ = some (.int .i64 (a : Int)) := cell_of_row w3 _ 0 _ _ _ r2
  have k1 : w3.cell? ⟨w.heap.size + 1, 1, none⟩ = some (.slice (some ⟨g, o, none⟩) b.length c) := cell_of_row w3 _ 1 _ _ _ r2
  have HS := Lib.hid hs
  have HF : Hid (a + (nC b).length ≤ (nC s).length) := Lib.hid (by rw [nC_len, nC_len, hs]; exact hab)
  have HM : Hid ((nC b).length = Nat.min b.length (64 - a)) := Lib.hid (by rw [nC_len]; exact (Nat.min_eq_left (by omega)).symm)
  have hsp := spl_len (s := s) (b := b) (a := a) (by rw [hs]; exact hab)
  rw [hs] at hsp
  have HSP := Lib.hid hsp
  have HSC := Lib.hid (spl_cells (s := s) (b := b) (a := a))
  have R1 : Hid (w3.heap[w.heap.size]? = some (.cells (nC s).toArray 56 (0, 0))) := Lib.hid (by rw [stA_eq]; exact r1)
  have R3 := Lib.hid r3
  have ha64 : (a : Int) ≤ 64 := by omega
  have h64 : ¬ 64 = a := by omega
  obtain ⟨gs, hgs⟩ : ∃ gs, Hid (w.heap.size = gs) := ⟨_, Lib.hid rfl⟩
  obtain ⟨n, hn⟩ : ∃ n, Hid (b.length = n) := ⟨_, Lib.hid rfl⟩
  rw [hgs.out] at k0 k1 R1 R3 HB3
  rw [hn.out] at k1 hab HM HW2 ⊢
  rw [hgs.out]
  clear hb hc hc3 r1 r2 r3 b1 b2 b3 s1 s2 s3 hs hsp l1 l2 hb0
  go_enter Try.func43, Try.ntmps43
  go_upto_region 1 with fail
  rw [HW1.out, HW2.out, HW3.out, hgs.out]
  clear HW1 HW2 HW3
  refine wp_region_lin (S := (fun w' => w'.cell? ⟨gs + 1, 0, none⟩ = some (.int .i64 (a : Int)) ∧ w'.cell? ⟨gs + 1, 1, none⟩ = some (.slice (some ⟨g, o, none⟩) n c))) [(0, true), (1, true), (2, true), (3, true), (4, true), (5, false)] (by kernel_rfl) (by kernel_rfl) rfl (by kernel_rfl) ?_ (fun hHeld => ?_)
  · (try dsimp only); exact ⟨k0, k1⟩
  (refine wpL_calm (o := { dst := some 5, op := Go.Op.fieldAddr 70 (Go.Operand.tmp 3) 0, type := 0, pos := "flat.go:31", after := #[], guard := none }) (v := ?_) rfl (Or.inl ⟨by rfl, ?_⟩) ?_; rotate_left; (focus (intro w hSw; (try dsimp only at hSw); go_simp; (try (with_reducible rfl)); done)); try simp only [Act.put, List.setIfInBounds_toArray, List.set_cons_zero, List.set_cons_succ])
  (refine wpL_calm (o := { dst := some 6, op := Go.Op.load 3 (Go.Operand.tmp 5), type := 3, pos := "flat.go:31", after := #[{ on := 0, ground := Go.Ground.data }], guard := none }) (v := ?_) rfl (Or.inl ⟨by rfl, ?_⟩) ?_; rotate_left; (focus (intro w hSw; (try dsimp only at hSw); go_simp; (try (with_reducible rfl)); done)); try simp only [Act.put, List.setIfInBounds_toArray, List.set_cons_zero, List.set_cons_succ])
  (refine wpL_calm (o := { dst := some 7, op := Go.Op.slice 56 (Go.Operand.tmp 2) (some (Go.Operand.tmp 6)) none none, type := 67, pos := "flat.go:31", after := #[{ on := 1, ground := Go.Ground.data }], guard := none }) (v := ?_) rfl (Or.inl ⟨by rfl, ?_⟩) ?_; rotate_left; (focus (intro w hSw; (try dsimp only at hSw); go_simp; (try (with_reducible rfl)); done)); try simp only [Act.put, List.setIfInBounds_toArray, List.set_cons_zero, List.set_cons_succ])
  (refine wpL_calm (o := { dst := some 8, op := Go.Op.fieldAddr 70 (Go.Operand.tmp 3) 1, type := 0, pos := "flat.go:31", after := #[], guard := none }) (v := ?_) rfl (Or.inl ⟨by rfl, ?_⟩) ?_; rotate_left; (focus (intro w hSw; (try dsimp only at hSw); go_simp; (try (with_reducible rfl)); done)); try simp only [Act.put, List.setIfInBounds_toArray, List.set_cons_zero, List.set_cons_succ])
  (refine wpL_calm (o := { dst := some 9, op := Go.Op.load 67 (Go.Operand.tmp 8), type := 67, pos := "flat.go:31", after := #[{ on := 3, ground := Go.Ground.data }], guard := none }) (v := ?_) rfl (Or.inl ⟨by rfl, ?_⟩) ?_; rotate_left; (focus (intro w hSw; (try dsimp only at hSw); go_simp; (try (with_reducible rfl)); done)); try simp only [Act.put, List.setIfInBounds_toArray, List.set_cons_zero, List.set_cons_succ])
  refine wpL_loud0 (o := { dst := some 10, op := Go.Op.call { callee := Go.Callee.builtin Go.Builtin.copy, args := #[Go.Operand.tmp 7, Go.Operand.tmp 9], argTypes := #[67, 67] }, type := 3, pos := "flat.go:31", after := #[{ on := 2, ground := Go.Ground.data }, { on := 4, ground := Go.Ground.data }], guard := none }) rfl (by kernel_rfl) (fun K hK => ?_)
  (refine step_copy_ownM rfl (.tmp 7) (.tmp 9) _ _ rfl 3 Try.underlying67 (by kernel_rfl) gs a (64 - a) (64 - a) ⟨g, o, none⟩ n c rfl rfl (nC s) 56 R1.out (nC b) HM.out (fun j v h => by rw [Addr.add_lit]; exact HSRC.out j v h) HF.out (nC_one b) ?_; intro w9 HW9)
  try go_wp2_with fail
  refine hK.out _ _ ?_
  clear hK K
  try simp only [Act.put, List.setIfInBounds_toArray, List.set_cons_zero, List.set_cons_succ]
  refine wpL_nil ?_
  refine NoPanic.normal ?_
  have R9 : Hid (w9.heap[gs]? = some (.cells (stA (spl s a b)) 56 (0, 0))) := Lib.hid (by rw [HW9.out, HSC.out, stA_eq]; exact setRow_heap w3.drew _ _ _ 56 (0, 0) R1.out)
  have R39 : Hid (w9.heap[gs + 1 + 1]? = some (.cells (stA zst) 56 (0, 0))) := Lib.hid (by rw [HW9.out]; exact (setRow_other w3.drew _ _ _ (by omega)).trans R3.out)
  have HB9 : Hid (Below gs w w9) := Lib.hid (by rw [HW9.out]; exact below_setRow HB3.out.drew (Nat.le_refl _) _)
  have hr9 := R9.out
  have hr39 := R39.out
  have hi9 := stA_info HSP.out
  have hz9 : (stA zst).size = (stA (spl s a b)).size := by rw [stA_size HSP.out, stA_size zst_len]
  have h19 := stA_one (spl s a b)
  clear HW9 R1 R3 HB3 HSRC HF HM HSC k0 k1 hHeld
  obtain ⟨SA, hSA⟩ : ∃ SA, Hid (stA (spl s a b) = SA) := ⟨_, Lib.hid rfl⟩
  rw [hSA.out] at hr9 hi9 hz9 h19
  generalize stA zst = SZ at *
  go_wp2_with (first | (refine wpList_load_row rfl _ _ rfl gs rfl 56 SA (0, 0) _ hr9 Try.underlying56 rfl hi9 ?_) | (refine wpList_store_row rfl _ _ _ rfl (gs + 1 + 1) SA rfl rfl 56 _ hr39 hi9 hz9 h19 ?_))
  refine bodyPost_ret_by (results_cell_row rfl _ _ (gs + 1 + 1) 56 SA (0, 0) _ rfl (setRow_heap _ _ _ SA 56 (0, 0) hr39) Try.underlying56 rfl hi9) rfl ⟨by rw [hSA.out], ?_⟩
  exact below_setRow HB9.out (by omega) _
end Go.Proofs.Ytaemnelfnopjdaa
