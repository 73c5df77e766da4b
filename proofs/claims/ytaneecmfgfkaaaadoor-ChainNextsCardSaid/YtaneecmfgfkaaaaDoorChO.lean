/- The law ChainNexts (made by genco.py). -/
import Derived.Test.YtaneecmfgfkaaaaDoorChN
namespace Go.Proofs.YtaneecmfgfkaaaaDoor
open Go.RowKit Go.Deep Go.Maps Go.ChangeShapes Go.WideShapes
set_option linter.unusedVariables false
set_option linter.unusedSimpArgs false
theorem alloc_stepC {K X : Act → World → Prop} {S : World → Prop} {a : Act} {W : World} {o : Obj} (hK : Shut (∀ a w, S w → (S w → X a w) → K a w)) (hS : S (W.alloc o)) (h : ∀ W' : World, Hid (W' = W.alloc o) → W'.heap[W.heap.size]? = some o → S W' → X a W') : K a (W.alloc o) :=
  hK.out _ _ hS (fun h1 => h _ (Lib.hid rfl) (heap_alloc_new _ _) h1)
theorem any_stepC {K X : Act → World → Prop} {S : World → Prop} {a : Act} {W : World} (hK : Shut (∀ a w, S w → (S w → X a w) → K a w)) (hS : S W) (h : ∀ W' : World, Hid (W' = W) → S W' → X a W') : K a W :=
  hK.out _ _ hS (fun h1 => h _ (Lib.hid rfl) h1)
theorem blk_belowC {w w' : World} {b : Nat} {o : Obj} (hb : Below w.heap.size w w') (hz : w.heap[b]? = some o) : w'.heap[b]? = some o := (hb.block b (Array.getElem?_eq_some_iff.1 hz).1).trans hz
theorem blk_ltC {w : World} {b : Nat} {o : Obj} (hz : w.heap[b]? = some o) : b < w.heap.size := (Array.getElem?_eq_some_iff.1 hz).1
theorem below_of_allocC {W W' : World} {o : Obj} (h : Hid (W' = W.alloc o)) : Below W.heap.size W W' := by rw [h.out]; exact (Below.refl _ _).alloc (Nat.le_refl _) _
theorem made_d (w : World) (D : Array Value) : ∃ w3, Hid (w.alloc (.cells D 34) = w3) ∧ w3.heap[w.heap.size]? = some (.cells D 34 (0, 0)) ∧ Below w.heap.size w w3 := ⟨_, Lib.hid rfl, heap_alloc_new _ _, (Below.refl _ _).alloc (Nat.le_refl _) _⟩
/-- An array that is a sum, or all zero. -/
structure DigOk (D : Array Value) : Prop where
  sz : D.size = 32
  one : D.all (·.oneCell') = true
  neq : ∀ w, (binOp .neq 34 (.agg D) (.agg D)).run Tryd.prog w = .ok (.bool false) w
  eql : ∀ w, (binOp .eql 34 (.agg D) (.agg D)).run Tryd.prog w = .ok (.bool true) w
  ld : ∀ (w : World) (g : Nat), w.heap[g]? = some (.cells D 34 (0, 0)) → LoadedA Tryd.prog 34 w g D
theorem DigOk.z : DigOk z32 := ⟨rfl, z32_one, neq_z32, eql_z32, fun w g h => loadedA_dig h⟩
theorem DigOk.d (l : List UInt8) (h : l.length = 32) : DigOk (digA l) := ⟨by rw [digA_size, h], digA_one l, fun w => by have := neq_dig2 l l h h w; simpa using this, fun w => by have := eql_dig2 l l h h w; simpa using this, fun w g hg => loadedA_d h hg⟩
theorem DigOk.next (a : List UInt8) (L : List ByteArray) : DigOk (nextD a L) := by
  unfold nextD
  split
  · exact .d _ (nextL_len _ _)
  · exact .z
theorem DigOk.along (a : List UInt8) (ha : a.length = 32) (R : List (List ByteArray)) : DigOk (alongD a R) := by
  unfold alongD
  split
  · exact .d _ (alL_len a R ha _)
  · exact .z
attribute [local irreducible] digA sumL z32 alL alT nextL nextD erB alongD erR
set_option maxRecDepth 100000 in
set_option maxHeartbeats 4000000 in
theorem chainNexts_big1 (a : List UInt8) (la lb : Option Addr) (n c m d : Nat) (w : World) (hG : Gl w) (h : 100 < n) : Calls Tryd.prog 5 #[.agg (digA a), .slice la n c, .slice lb m d] w fun e w' => e = .returned (.bool true) ∧ Below w.heap.size w w' := by
  have t1 : (100 : Int) < (n : Int) := by omega
  obtain ⟨w1, HW1, hA1, B1⟩ := made_d w (digA a)
  go_enter Tryd.func5, Tryd.ntmps5
  go_upto_region 1 with fail
  rw [HW1.out]
  clear HW1
  go_wp2_with fail
  refine (awake14 _ (hG.below B1)).mono ?_
  rintro e w3 ⟨rfl, b3⟩
  go_wp2_with fail
  go_ret
  exact ⟨rfl, B1.trans (b3.mono B1.size)⟩
set_option maxRecDepth 100000 in
set_option maxHeartbeats 4000000 in
theorem chainNexts_big2 (a : List UInt8) (la lb : Option Addr) (n c m d : Nat) (w : World) (hG : Gl w) (h0 : ¬ 100 < n) (h : 100 < m) : Calls Tryd.prog 5 #[.agg (digA a), .slice la n c, .slice lb m d] w fun e w' => e = .returned (.bool true) ∧ Below w.heap.size w w' := by
  have t1 : ¬ (100 : Int) < (n : Int) := by omega
  have t2 : (100 : Int) < (m : Int) := by omega
  obtain ⟨w1, HW1, hA1, B1⟩ := made_d w (digA a)
  go_enter Tryd.func5, Tryd.ntmps5
  go_upto_region 1 with fail
  rw [HW1.out]
  clear HW1
  go_wp2_with fail
  refine (awake14 _ (hG.below B1)).mono ?_
  rintro e w3 ⟨rfl, b3⟩
  go_wp2_with fail
  go_ret
  exact ⟨rfl, B1.trans (b3.mono B1.size)⟩
set_option maxRecDepth 100000 in
set_option maxHeartbeats 8000000 in
theorem chainNexts_1 (a : List UInt8) (L M : List ByteArray) (la lb : Option Addr) (n c m d : Nat) (w : World) (hG : Gl w) (ha : a.length = 32) (hn : L.length = n) (hc : n ≤ c) (hn1 : n ≤ 100) (hT : TxtAt w la L) (hm : M.length = m) (hd : m ≤ d) (hm1 : m ≤ 100) (hU : TxtAt w lb M) (hL : okB L = false) :
    Calls Tryd.prog 5 #[.agg (digA a), .slice la n c, .slice lb m d] w fun e w' => e = .returned (.bool true) ∧ Below w.heap.size w w' := by
  have hz := zero_dig
  have hbz := build_z32
  have hgf := hG.sf
  have hgk := hG.sk
  have t1 : ¬ (100 : Int) < (n : Int) := by omega
  have t2 : ¬ (100 : Int) < (m : Int) := by omega
  have HNX : Hid (∀ wc o X, Below w.heap.size w wc → OrX w.heap.size wc o X → FewX X 0 → Calls Tryd.prog 20 #[.pointer o, .agg (digA a), .slice la n c] wc fun e w' => ∃ X', e = .returned (.tuple #[.agg (nextD a L), .int .i64 (erB L)]) ∧ Below w.heap.size wc w' ∧ KeptX wc w' X X') := Lib.hid (fun wc o X hb hX hF => (next_u w.heap.size o X a L la n c wc (hG.below hb) hgf hgk hX (hF.mono (by omega)) ha hn hc (by omega) (hT.b hb hX)).mono fun e w' ⟨X', q1, _, _, q2, q3⟩ => ⟨X', q1, q2, q3⟩)
  have HAL : Hid (∀ wc, Below w.heap.size w wc → Calls Tryd.prog 21 #[.pointer none, .agg (digA a), .slice (some ⟨wc.heap.size, 0, none⟩) 2 2] (wc.alloc (.cells #[.slice la n c, .slice lb m d] 25)) fun e w' => e = .returned (.tuple #[.agg (alongD a [L, M]), .int .i64 (erR [L, M])]) ∧ Below wc.heap.size wc w') := Lib.hid (fun wc hb => by
    have b3 := (Below.refl wc.heap.size wc).alloc (Nat.le_refl _) (.cells #[.slice la n c, .slice lb m d] 25)
    have hX : OrX wc.heap.size (wc.alloc (.cells #[.slice la n c, .slice lb m d] 25)) none none := b3.size
    have hX0 : OrX w.heap.size wc none none := hb.size
    refine (along_u wc.heap.size none none a [L, M] (some ⟨wc.heap.size, 0, none⟩) 2 2 _ (hG.below (hb.trans (b3.mono hb.size))) (Nat.lt_of_lt_of_le hgf hb.size) (Nat.lt_of_lt_of_le hgk hb.size) hX (FewX.none _) ha rfl (by omega) (rowsB_two L M la lb n c m d wc hn hc (by omega) hm hd (by omega) (hT.b hb hX0) (hU.b hb hX0))).mono fun e w' ⟨X', q1, _, _, q2, _⟩ => ⟨q1, b3.trans q2⟩)
  have HNO : Hid (∀ wc, Below w.heap.size w wc → Calls Tryd.prog 21 #[.pointer none, .agg (digA a), .slice none 0 0] wc fun e w' => e = .returned (.tuple #[.agg (digA a), .int .i64 0]) ∧ Below wc.heap.size wc w') := Lib.hid (fun wc hb => by
    refine (along_any wc.heap.size none none a [] none 0 0 wc (hG.below hb) (Nat.lt_of_lt_of_le hgf hb.size) (Nat.lt_of_lt_of_le hgk hb.size) (Nat.le_refl _) (FewX.none _) ha rfl (by omega) (fun i h => absurd h (by simp)) (fun h => absurd h (by simp))).mono fun e w' ⟨X', q1, _, _, q2, _⟩ => ⟨by rw [q1]; with_unfolding_all rfl, q2⟩)
  have HN1 : Hid (∀ wc, Below w.heap.size w wc → Calls Tryd.prog 22 #[.agg (digA a), .slice la n c] wc fun e w' => e = .returned (.tuple #[.agg (nextD a L), .int .i64 (erB L)]) ∧ Below wc.heap.size wc w') := Lib.hid (fun wc hb => lawNext_any a L la n c wc (hG.below hb) ha hn hc (hT.below hb))
  have OA : Hid (DigOk (digA a)) := Lib.hid (DigOk.d a ha)
  have OB : Hid (DigOk (nextD a L)) := Lib.hid (DigOk.next a L)
  have OC : Hid (DigOk (alongD a [L, M])) := Lib.hid (DigOk.along a ha [L, M])
  have EB : erB L = 6 := by unfold erB; rw [hL]; rfl
  have EC : erR [L, M] = 6 := by unfold erR okR; simp [hL]
  have ZC : alongD a [L, M] = z32 := by unfold alongD okR; simp [hL]
  rw [EB] at HNX HN1
  rw [EC] at HAL
  have EZ : ∀ w, (binOp .eql 34 (.agg (alongD a [L, M])) (.agg z32)).run Tryd.prog w = .ok (.bool true) w := fun w => by rw [ZC]; exact eql_z32 w
  clear ha hn hc hn1 hT hm hd hm1 hU hL
  have zA := OA.out.sz
  have zB := OB.out.sz
  have oB := OB.out.one
  have oA := OA.out.one
  have zC := OC.out.sz
  have oC := OC.out.one
  generalize nextD a L = BD at *
  clear ZC
  generalize alongD a [L, M] = CD at *
  generalize digA a = DA at *
  obtain ⟨w1, HW1, hA1, B1⟩ := made_d w DA
  go_enter Tryd.func5, Tryd.ntmps5
  go_upto_region 1 with fail
  rw [HW1.out]
  clear HW1
  have HVA : Hid (DA.toList.toArray = DA) := Lib.hid (by simp)
  have HVL : Hid (DA.toList.length = 32) := Lib.hid (by rw [Array.length_toList, zA])
  go_upto_region 3 with fail
  go_cut [7, 8] from 15 (fun s7 s8 wx => ∃ p, s7 = .pointer (some ⟨p, 0, none⟩) ∧ s8 = .int .i64 6 ∧ Hid (wx.heap[p]? = some (.cells BD 34 (0, 0))) ∧ Hid (wx.heap[w.heap.size]? = some (.cells DA 34 (0, 0))) ∧ Hid (Below w.heap.size w wx))
  case first =>
    have HB := Lib.hid B1.drew
    have HR : Hid (w1.drew.heap[w.heap.size]? = some (.cells DA 34 (0, 0))) := Lib.hid hA1
    clear hA1 B1
    refine wp_region_noPanic ?_
    refine wp_region_held_drew (S := (fun w' => w'.heap[w.heap.size]? = some (.cells DA 34 (0, 0)))) (by kernel_rfl) ?_ (fun hHeld => ?_)
    · (try dsimp only); exact HR.out
    generalize World.drew w1 = wd at *
    refine wpAnyH_take (i := 1) (oi := { dst := some 26, op := Go.Op.load 34 (Go.Operand.tmp 3), type := 34, pos := "law.go:64", after := #[], guard := none }) rfl (by kernel_rfl) (by kernel_rfl) (by kernel_rfl) (fun _ _ _ h => h) (yieldsIf_load_mid (by rfl) _ _ rfl w.heap.size 0 rfl DA.toList _ (fun _ h => range_dg h HVA.out) Tryd.underlying34 rfl (by rw [HVL.out]; kernel_rfl)) (by assumption) ?_
    rw [HVA.out]
    try simp only [Act.put, List.setIfInBounds_toArray, List.set_cons_zero, List.set_cons_succ]
    refine wpAnyH_take (i := 2) (oi := { dst := some 27, op := Go.Op.move (Go.Operand.tmp 1), type := 25, pos := "law.go:64", after := #[], guard := none }) (v := ?_) rfl (by kernel_rfl) (by kernel_rfl) (by kernel_rfl) (fun _ _ _ h => h) (Or.inl ⟨by rfl, ?_⟩) (by assumption) ?_
    rotate_left
    · (intro w hSw; (try dsimp only at hSw); go_simp; (try (with_reducible rfl)); done)
    try simp only [Act.put, List.setIfInBounds_toArray, List.set_cons_zero, List.set_cons_succ]
    refine wpAnyH_ready (rs := [0, 7]) (by kernel_rfl) (by simp) ?_
    refine AllReadyH.cons (o := { dst := some 25, op := Go.Op.call { callee := Go.Callee.value (Go.Operand.func 9), args := #[], argTypes := #[] }, type := 23, pos := "law.go:64", after := #[], guard := none }) rfl (fun K hK => ?_) (AllReadyH.cons (o := { dst := some 7, op := Go.Op.alloc 34, type := 0, pos := "law.go:64", after := #[], guard := none }) rfl (fun K hK => ?_) AllReadyH.nil)
    ·
      (go_simp; go_at_call 9; refine (new_y _).mono ?_; rintro e w' ⟨o, X, rfl, hX, hF, hb⟩; have HN := Lib.hid (hX.weak HB.out.size); have HF0 := Lib.hid hF; have HFA := Lib.hid (hX.freeLow _ (blk_ltC HR.out)); (try have HFP := Lib.hid (hX.freeLow _ (blk_ltC HZ.out))); have HR := Lib.hid (blk_belowC hb HR.out); (try have HZ := Lib.hid (blk_belowC hb HZ.out)); have HB := Lib.hid (HB.out.trans (hb.mono HB.out.size)); clear hX hF hb)
      try go_wp2_with fail
      refine hK.out _ _ ?_ (fun hHeld => ?_)
      · (try dsimp only); exact HR.out
      clear hK K
      try simp only [Act.put, List.setIfInBounds_toArray, List.set_cons_zero, List.set_cons_succ]
      refine wpAnyH_ready (rs := [3, 7]) (by kernel_rfl) (by simp) ?_
      refine AllReadyH.cons (o := { dst := some 28, op := Go.Op.call { callee := Go.Callee.value (Go.Operand.func 20), args := #[Go.Operand.tmp 25, Go.Operand.tmp 26, Go.Operand.tmp 27], argTypes := #[23, 34, 25] }, type := 44, pos := "law.go:64", after := #[{ on := 0, ground := Go.Ground.data }, { on := 1, ground := Go.Ground.data }, { on := 2, ground := Go.Ground.data }, { on := 0, ground := Go.Ground.chain }], guard := none }) rfl (fun K hK => ?_) (AllReadyH.cons (o := { dst := some 7, op := Go.Op.alloc 34, type := 0, pos := "law.go:64", after := #[], guard := none }) rfl (fun K hK => ?_) AllReadyH.nil)
      ·
        (go_simp; go_at_call 20; refine (HNX.out _ _ _ HB.out HN.out HF0.out).mono ?_; rintro e w' ⟨X', rfl, hb, hK⟩; have HR := Lib.hid (hK.keep _ _ HR.out HFA.out); (try have HZ := Lib.hid (hK.keep _ _ HZ.out HFP.out)); have HB := Lib.hid (HB.out.trans hb); clear hK hb)
        try go_wp2_with fail
        refine hK.out _ _ ?_ (fun hHeld => ?_)
        · (try dsimp only); exact HR.out
        clear hK K
        try simp only [Act.put, List.setIfInBounds_toArray, List.set_cons_zero, List.set_cons_succ]
        refine wpAnyH_take (i := 4) (oi := { dst := some 24, op := Go.Op.move (Go.Operand.tmp 28), type := 44, pos := "law.go:64", after := #[{ on := 3, ground := Go.Ground.data }], guard := none }) (v := ?_) rfl (by kernel_rfl) (by kernel_rfl) (by kernel_rfl) (fun _ _ _ h => h) (Or.inl ⟨by rfl, ?_⟩) (by assumption) ?_
        rotate_left
        · (intro w hSw; (try dsimp only at hSw); go_simp; (try (with_reducible rfl)); done)
        try simp only [Act.put, List.setIfInBounds_toArray, List.set_cons_zero, List.set_cons_succ]
        refine wpAnyH_take (i := 5) (oi := { dst := some 29, op := Go.Op.extract (Go.Operand.tmp 24) 0, type := 34, pos := "law.go:64", after := #[{ on := 4, ground := Go.Ground.data }], guard := none }) (v := ?_) rfl (by kernel_rfl) (by kernel_rfl) (by kernel_rfl) (fun _ _ _ h => h) (Or.inl ⟨by rfl, ?_⟩) (by assumption) ?_
        rotate_left
        · (intro w hSw; (try dsimp only at hSw); go_simp; (try (with_reducible rfl)); done)
        try simp only [Act.put, List.setIfInBounds_toArray, List.set_cons_zero, List.set_cons_succ]
        refine wpAnyH_take (i := 6) (oi := { dst := some 30, op := Go.Op.extract (Go.Operand.tmp 24) 1, type := 30, pos := "law.go:64", after := #[{ on := 4, ground := Go.Ground.data }, { on := 8, ground := Go.Ground.gcOnly Go.Departure.lateStores }], guard := none }) (v := ?_) rfl (by kernel_rfl) (by kernel_rfl) (by kernel_rfl) (fun _ _ _ h => h) (Or.inl ⟨by rfl, ?_⟩) (by assumption) ?_
        rotate_left
        · (intro w hSw; (try dsimp only at hSw); go_simp; (try (with_reducible rfl)); done)
        try simp only [Act.put, List.setIfInBounds_toArray, List.set_cons_zero, List.set_cons_succ]
        refine wpAnyH_ready (rs := [7]) (by kernel_rfl) (by simp) ?_
        refine AllReadyH.cons (o := { dst := some 7, op := Go.Op.alloc 34, type := 0, pos := "law.go:64", after := #[], guard := none }) rfl (fun K hK => ?_) AllReadyH.nil
        go_simp
        refine alloc_stepC hK (blk_belowC ((Below.refl _ _).alloc (Nat.le_refl _) _) HR.out) (fun W' hW' hz hHeld => ?_); have hbz := below_of_allocC hW'; have HP := Lib.hid (blk_ltC HR.out); (try have HFP := Lib.hid (HN.out.free _ (Nat.le_refl _))); (try have HN := Lib.hid (HN.out.below hbz)); have HB := Lib.hid (HB.out.trans (hbz.mono HB.out.size)); have HR := Lib.hid (blk_belowC hbz HR.out); have HZ := Lib.hid hz; clear hz hW' hbz
        clear hK K
        try simp only [Act.put, List.setIfInBounds_toArray, List.set_cons_zero, List.set_cons_succ]
        refine wpAnyH_ready (rs := [8]) (by kernel_rfl) (by simp) ?_
        refine AllReadyH.cons (o := { dst := none, op := Go.Op.store 34 (Go.Operand.tmp 7) (Go.Operand.tmp 29), type := 0, pos := "law.go:64", after := #[{ on := 7, ground := Go.Ground.data }, { on := 5, ground := Go.Ground.data }, { on := 3, ground := Go.Ground.chain }, { on := 0, ground := Go.Ground.phase }, { on := 1, ground := Go.Ground.phase }, { on := 2, ground := Go.Ground.phase }, { on := 3, ground := Go.Ground.phase }, { on := 4, ground := Go.Ground.phase }, { on := 5, ground := Go.Ground.phase }, { on := 6, ground := Go.Ground.textOnly Go.Departure.lateStores }, { on := 7, ground := Go.Ground.phase }], guard := none }) rfl (fun K hK => ?_) AllReadyH.nil
        (rw [if_pos (by rfl)]; refine wp_store_row _ _ _ rfl _ BD rfl rfl 34 _ HZ.out (by rw [zB]; kernel_rfl) (by rw [zB, z32_sizeC]) oB ?_)
        refine any_stepC hK ((setRow_other _ _ _ BD (Nat.ne_of_lt HP.out)).trans HR.out) (fun W' hW' hHeld => ?_); have HB := Lib.hid (hW'.out ▸ below_setRow HB.out (Nat.le_of_lt HP.out) BD); have HR := Lib.hid (hW'.out ▸ (setRow_other _ _ _ BD (Nat.ne_of_lt HP.out)).trans HR.out); have HZ := Lib.hid (hW'.out ▸ setRow_heap _ _ _ BD 34 (0, 0) HZ.out); clear hW'
        clear hK K
        try simp only [Act.put, List.setIfInBounds_toArray, List.set_cons_zero, List.set_cons_succ]
        refine wpAnyH_take (i := 9) (oi := { dst := some 8, op := Go.Op.assign (Go.Operand.tmp 30), type := 30, pos := "law.go:64", after := #[{ on := 6, ground := Go.Ground.data }, { on := 8, ground := Go.Ground.chain }, { on := 0, ground := Go.Ground.phase }, { on := 1, ground := Go.Ground.phase }, { on := 2, ground := Go.Ground.phase }, { on := 3, ground := Go.Ground.phase }, { on := 4, ground := Go.Ground.phase }, { on := 5, ground := Go.Ground.phase }, { on := 6, ground := Go.Ground.phase }, { on := 7, ground := Go.Ground.phase }, { on := 8, ground := Go.Ground.phase }], guard := none }) (v := ?_) rfl (by kernel_rfl) (by kernel_rfl) (by kernel_rfl) (fun _ _ _ h => h) (Or.inl ⟨by rfl, ?_⟩) (by assumption) ?_
        rotate_left
        · (intro w hSw; (try dsimp only at hSw); go_simp; (try (with_reducible rfl)); done)
        try simp only [Act.put, List.setIfInBounds_toArray, List.set_cons_zero, List.set_cons_succ]
        refine wpAnyH_done (by kernel_rfl) ?_ _
        refine NoPanic.normal ?_
        go_wp2_with fail
        go_meet
        exact ⟨_, rfl, rfl, HZ, HR, HB⟩
      ·
        go_simp
        refine alloc_stepC hK (blk_belowC ((Below.refl _ _).alloc (Nat.le_refl _) _) HR.out) (fun W' hW' hz hHeld => ?_); have hbz := below_of_allocC hW'; have HP := Lib.hid (blk_ltC HR.out); (try have HFP := Lib.hid (HN.out.free _ (Nat.le_refl _))); (try have HN := Lib.hid (HN.out.below hbz)); have HB := Lib.hid (HB.out.trans (hbz.mono HB.out.size)); have HR := Lib.hid (blk_belowC hbz HR.out); have HZ := Lib.hid hz; clear hz hW' hbz
        clear hK K
        try simp only [Act.put, List.setIfInBounds_toArray, List.set_cons_zero, List.set_cons_succ]
        refine wpAnyH_ready (rs := [3]) (by kernel_rfl) (by simp) ?_
        refine AllReadyH.cons (o := { dst := some 28, op := Go.Op.call { callee := Go.Callee.value (Go.Operand.func 20), args := #[Go.Operand.tmp 25, Go.Operand.tmp 26, Go.Operand.tmp 27], argTypes := #[23, 34, 25] }, type := 44, pos := "law.go:64", after := #[{ on := 0, ground := Go.Ground.data }, { on := 1, ground := Go.Ground.data }, { on := 2, ground := Go.Ground.data }, { on := 0, ground := Go.Ground.chain }], guard := none }) rfl (fun K hK => ?_) AllReadyH.nil
        (go_simp; go_at_call 20; refine (HNX.out _ _ _ HB.out HN.out HF0.out).mono ?_; rintro e w' ⟨X', rfl, hb, hK⟩; have HR := Lib.hid (hK.keep _ _ HR.out HFA.out); (try have HZ := Lib.hid (hK.keep _ _ HZ.out HFP.out)); have HB := Lib.hid (HB.out.trans hb); clear hK hb)
        try go_wp2_with fail
        refine hK.out _ _ ?_ (fun hHeld => ?_)
        · (try dsimp only); exact HR.out
        clear hK K
        try simp only [Act.put, List.setIfInBounds_toArray, List.set_cons_zero, List.set_cons_succ]
        refine wpAnyH_take (i := 4) (oi := { dst := some 24, op := Go.Op.move (Go.Operand.tmp 28), type := 44, pos := "law.go:64", after := #[{ on := 3, ground := Go.Ground.data }], guard := none }) (v := ?_) rfl (by kernel_rfl) (by kernel_rfl) (by kernel_rfl) (fun _ _ _ h => h) (Or.inl ⟨by rfl, ?_⟩) (by assumption) ?_
        rotate_left
        · (intro w hSw; (try dsimp only at hSw); go_simp; (try (with_reducible rfl)); done)
        try simp only [Act.put, List.setIfInBounds_toArray, List.set_cons_zero, List.set_cons_succ]
        refine wpAnyH_take (i := 5) (oi := { dst := some 29, op := Go.Op.extract (Go.Operand.tmp 24) 0, type := 34, pos := "law.go:64", after := #[{ on := 4, ground := Go.Ground.data }], guard := none }) (v := ?_) rfl (by kernel_rfl) (by kernel_rfl) (by kernel_rfl) (fun _ _ _ h => h) (Or.inl ⟨by rfl, ?_⟩) (by assumption) ?_
        rotate_left
        · (intro w hSw; (try dsimp only at hSw); go_simp; (try (with_reducible rfl)); done)
        try simp only [Act.put, List.setIfInBounds_toArray, List.set_cons_zero, List.set_cons_succ]
        refine wpAnyH_take (i := 6) (oi := { dst := some 30, op := Go.Op.extract (Go.Operand.tmp 24) 1, type := 30, pos := "law.go:64", after := #[{ on := 4, ground := Go.Ground.data }, { on := 8, ground := Go.Ground.gcOnly Go.Departure.lateStores }], guard := none }) (v := ?_) rfl (by kernel_rfl) (by kernel_rfl) (by kernel_rfl) (fun _ _ _ h => h) (Or.inl ⟨by rfl, ?_⟩) (by assumption) ?_
        rotate_left
        · (intro w hSw; (try dsimp only at hSw); go_simp; (try (with_reducible rfl)); done)
        try simp only [Act.put, List.setIfInBounds_toArray, List.set_cons_zero, List.set_cons_succ]
        refine wpAnyH_ready (rs := [8]) (by kernel_rfl) (by simp) ?_
        refine AllReadyH.cons (o := { dst := none, op := Go.Op.store 34 (Go.Operand.tmp 7) (Go.Operand.tmp 29), type := 0, pos := "law.go:64", after := #[{ on := 7, ground := Go.Ground.data }, { on := 5, ground := Go.Ground.data }, { on := 3, ground := Go.Ground.chain }, { on := 0, ground := Go.Ground.phase }, { on := 1, ground := Go.Ground.phase }, { on := 2, ground := Go.Ground.phase }, { on := 3, ground := Go.Ground.phase }, { on := 4, ground := Go.Ground.phase }, { on := 5, ground := Go.Ground.phase }, { on := 6, ground := Go.Ground.textOnly Go.Departure.lateStores }, { on := 7, ground := Go.Ground.phase }], guard := none }) rfl (fun K hK => ?_) AllReadyH.nil
        (rw [if_pos (by rfl)]; refine wp_store_row _ _ _ rfl _ BD rfl rfl 34 _ HZ.out (by rw [zB]; kernel_rfl) (by rw [zB, z32_sizeC]) oB ?_)
        refine any_stepC hK ((setRow_other _ _ _ BD (Nat.ne_of_lt HP.out)).trans HR.out) (fun W' hW' hHeld => ?_); have HB := Lib.hid (hW'.out ▸ below_setRow HB.out (Nat.le_of_lt HP.out) BD); have HR := Lib.hid (hW'.out ▸ (setRow_other _ _ _ BD (Nat.ne_of_lt HP.out)).trans HR.out); have HZ := Lib.hid (hW'.out ▸ setRow_heap _ _ _ BD 34 (0, 0) HZ.out); clear hW'
        clear hK K
        try simp only [Act.put, List.setIfInBounds_toArray, List.set_cons_zero, List.set_cons_succ]
        refine wpAnyH_take (i := 9) (oi := { dst := some 8, op := Go.Op.assign (Go.Operand.tmp 30), type := 30, pos := "law.go:64", after := #[{ on := 6, ground := Go.Ground.data }, { on := 8, ground := Go.Ground.chain }, { on := 0, ground := Go.Ground.phase }, { on := 1, ground := Go.Ground.phase }, { on := 2, ground := Go.Ground.phase }, { on := 3, ground := Go.Ground.phase }, { on := 4, ground := Go.Ground.phase }, { on := 5, ground := Go.Ground.phase }, { on := 6, ground := Go.Ground.phase }, { on := 7, ground := Go.Ground.phase }, { on := 8, ground := Go.Ground.phase }], guard := none }) (v := ?_) rfl (by kernel_rfl) (by kernel_rfl) (by kernel_rfl) (fun _ _ _ h => h) (Or.inl ⟨by rfl, ?_⟩) (by assumption) ?_
        rotate_left
        · (intro w hSw; (try dsimp only at hSw); go_simp; (try (with_reducible rfl)); done)
        try simp only [Act.put, List.setIfInBounds_toArray, List.set_cons_zero, List.set_cons_succ]
        refine wpAnyH_done (by kernel_rfl) ?_ _
        refine NoPanic.normal ?_
        go_wp2_with fail
        go_meet
        exact ⟨_, rfl, rfl, HZ, HR, HB⟩
    ·
      go_simp
      refine alloc_stepC hK (blk_belowC ((Below.refl _ _).alloc (Nat.le_refl _) _) HR.out) (fun W' hW' hz hHeld => ?_); have hbz := below_of_allocC hW'; have HP := Lib.hid (blk_ltC HR.out); (try have HFP := Lib.hid (HN.out.free _ (Nat.le_refl _))); (try have HN := Lib.hid (HN.out.below hbz)); have HB := Lib.hid (HB.out.trans (hbz.mono HB.out.size)); have HR := Lib.hid (blk_belowC hbz HR.out); have HZ := Lib.hid hz; clear hz hW' hbz
      clear hK K
      try simp only [Act.put, List.setIfInBounds_toArray, List.set_cons_zero, List.set_cons_succ]
      refine wpAnyH_ready (rs := [0]) (by kernel_rfl) (by simp) ?_
      refine AllReadyH.cons (o := { dst := some 25, op := Go.Op.call { callee := Go.Callee.value (Go.Operand.func 9), args := #[], argTypes := #[] }, type := 23, pos := "law.go:64", after := #[], guard := none }) rfl (fun K hK => ?_) AllReadyH.nil
      (go_simp; go_at_call 9; refine (new_y _).mono ?_; rintro e w' ⟨o, X, rfl, hX, hF, hb⟩; have HN := Lib.hid (hX.weak HB.out.size); have HF0 := Lib.hid hF; have HFA := Lib.hid (hX.freeLow _ (blk_ltC HR.out)); (try have HFP := Lib.hid (hX.freeLow _ (blk_ltC HZ.out))); have HR := Lib.hid (blk_belowC hb HR.out); (try have HZ := Lib.hid (blk_belowC hb HZ.out)); have HB := Lib.hid (HB.out.trans (hb.mono HB.out.size)); clear hX hF hb)
      try go_wp2_with fail
      refine hK.out _ _ ?_ (fun hHeld => ?_)
      · (try dsimp only); exact HR.out
      clear hK K
      try simp only [Act.put, List.setIfInBounds_toArray, List.set_cons_zero, List.set_cons_succ]
      refine wpAnyH_ready (rs := [3]) (by kernel_rfl) (by simp) ?_
      refine AllReadyH.cons (o := { dst := some 28, op := Go.Op.call { callee := Go.Callee.value (Go.Operand.func 20), args := #[Go.Operand.tmp 25, Go.Operand.tmp 26, Go.Operand.tmp 27], argTypes := #[23, 34, 25] }, type := 44, pos := "law.go:64", after := #[{ on := 0, ground := Go.Ground.data }, { on := 1, ground := Go.Ground.data }, { on := 2, ground := Go.Ground.data }, { on := 0, ground := Go.Ground.chain }], guard := none }) rfl (fun K hK => ?_) AllReadyH.nil
      (go_simp; go_at_call 20; refine (HNX.out _ _ _ HB.out HN.out HF0.out).mono ?_; rintro e w' ⟨X', rfl, hb, hK⟩; have HR := Lib.hid (hK.keep _ _ HR.out HFA.out); (try have HZ := Lib.hid (hK.keep _ _ HZ.out HFP.out)); have HB := Lib.hid (HB.out.trans hb); clear hK hb)
      try go_wp2_with fail
      refine hK.out _ _ ?_ (fun hHeld => ?_)
      · (try dsimp only); exact HR.out
      clear hK K
      try simp only [Act.put, List.setIfInBounds_toArray, List.set_cons_zero, List.set_cons_succ]
      refine wpAnyH_take (i := 4) (oi := { dst := some 24, op := Go.Op.move (Go.Operand.tmp 28), type := 44, pos := "law.go:64", after := #[{ on := 3, ground := Go.Ground.data }], guard := none }) (v := ?_) rfl (by kernel_rfl) (by kernel_rfl) (by kernel_rfl) (fun _ _ _ h => h) (Or.inl ⟨by rfl, ?_⟩) (by assumption) ?_
      rotate_left
      · (intro w hSw; (try dsimp only at hSw); go_simp; (try (with_reducible rfl)); done)
      try simp only [Act.put, List.setIfInBounds_toArray, List.set_cons_zero, List.set_cons_succ]
      refine wpAnyH_take (i := 5) (oi := { dst := some 29, op := Go.Op.extract (Go.Operand.tmp 24) 0, type := 34, pos := "law.go:64", after := #[{ on := 4, ground := Go.Ground.data }], guard := none }) (v := ?_) rfl (by kernel_rfl) (by kernel_rfl) (by kernel_rfl) (fun _ _ _ h => h) (Or.inl ⟨by rfl, ?_⟩) (by assumption) ?_
      rotate_left
      · (intro w hSw; (try dsimp only at hSw); go_simp; (try (with_reducible rfl)); done)
      try simp only [Act.put, List.setIfInBounds_toArray, List.set_cons_zero, List.set_cons_succ]
      refine wpAnyH_take (i := 6) (oi := { dst := some 30, op := Go.Op.extract (Go.Operand.tmp 24) 1, type := 30, pos := "law.go:64", after := #[{ on := 4, ground := Go.Ground.data }, { on := 8, ground := Go.Ground.gcOnly Go.Departure.lateStores }], guard := none }) (v := ?_) rfl (by kernel_rfl) (by kernel_rfl) (by kernel_rfl) (fun _ _ _ h => h) (Or.inl ⟨by rfl, ?_⟩) (by assumption) ?_
      rotate_left
      · (intro w hSw; (try dsimp only at hSw); go_simp; (try (with_reducible rfl)); done)
      try simp only [Act.put, List.setIfInBounds_toArray, List.set_cons_zero, List.set_cons_succ]
      refine wpAnyH_ready (rs := [8]) (by kernel_rfl) (by simp) ?_
      refine AllReadyH.cons (o := { dst := none, op := Go.Op.store 34 (Go.Operand.tmp 7) (Go.Operand.tmp 29), type := 0, pos := "law.go:64", after := #[{ on := 7, ground := Go.Ground.data }, { on := 5, ground := Go.Ground.data }, { on := 3, ground := Go.Ground.chain }, { on := 0, ground := Go.Ground.phase }, { on := 1, ground := Go.Ground.phase }, { on := 2, ground := Go.Ground.phase }, { on := 3, ground := Go.Ground.phase }, { on := 4, ground := Go.Ground.phase }, { on := 5, ground := Go.Ground.phase }, { on := 6, ground := Go.Ground.textOnly Go.Departure.lateStores }, { on := 7, ground := Go.Ground.phase }], guard := none }) rfl (fun K hK => ?_) AllReadyH.nil
      (rw [if_pos (by rfl)]; refine wp_store_row _ _ _ rfl _ BD rfl rfl 34 _ HZ.out (by rw [zB]; kernel_rfl) (by rw [zB, z32_sizeC]) oB ?_)
      refine any_stepC hK ((setRow_other _ _ _ BD (Nat.ne_of_lt HP.out)).trans HR.out) (fun W' hW' hHeld => ?_); have HB := Lib.hid (hW'.out ▸ below_setRow HB.out (Nat.le_of_lt HP.out) BD); have HR := Lib.hid (hW'.out ▸ (setRow_other _ _ _ BD (Nat.ne_of_lt HP.out)).trans HR.out); have HZ := Lib.hid (hW'.out ▸ setRow_heap _ _ _ BD 34 (0, 0) HZ.out); clear hW'
      clear hK K
      try simp only [Act.put, List.setIfInBounds_toArray, List.set_cons_zero, List.set_cons_succ]
      refine wpAnyH_take (i := 9) (oi := { dst := some 8, op := Go.Op.assign (Go.Operand.tmp 30), type := 30, pos := "law.go:64", after := #[{ on := 6, ground := Go.Ground.data }, { on := 8, ground := Go.Ground.chain }, { on := 0, ground := Go.Ground.phase }, { on := 1, ground := Go.Ground.phase }, { on := 2, ground := Go.Ground.phase }, { on := 3, ground := Go.Ground.phase }, { on := 4, ground := Go.Ground.phase }, { on := 5, ground := Go.Ground.phase }, { on := 6, ground := Go.Ground.phase }, { on := 7, ground := Go.Ground.phase }, { on := 8, ground := Go.Ground.phase }], guard := none }) (v := ?_) rfl (by kernel_rfl) (by kernel_rfl) (by kernel_rfl) (fun _ _ _ h => h) (Or.inl ⟨by rfl, ?_⟩) (by assumption) ?_
      rotate_left
      · (intro w hSw; (try dsimp only at hSw); go_simp; (try (with_reducible rfl)); done)
      try simp only [Act.put, List.setIfInBounds_toArray, List.set_cons_zero, List.set_cons_succ]
      refine wpAnyH_done (by kernel_rfl) ?_ _
      refine NoPanic.normal ?_
      go_wp2_with fail
      go_meet
      exact ⟨_, rfl, rfl, HZ, HR, HB⟩
  case rest =>
    obtain ⟨p, rfl, rfl, HP, HR, HB⟩ := hcut
    have hr := HR.out
    have l0 := OA.out.ld _ _ HR.out
    go_wp2_with ((with_reducible refine wpList_load_arr_i (g := w.heap.size) (cs := DA) 34 _ rfl ?_ ?_ ?_); exact ⟨rfl, rfl⟩; assumption)
    refine (HAL.out _ HB.out).mono ?_
    rintro e w4 ⟨rfl, b4⟩
    have hr4 := blk_belowC b4 HR.out
    have hp4 := blk_belowC b4 HP.out
    have B4 := HB.out.trans (b4.mono HB.out.size)
    clear b4 l0 hr HR HP HB
    obtain ⟨w5, HW5, hc5, b5⟩ := stored_dg w4 CD
    go_upto_region 5 with (refine wpList_store_row rfl _ _ _ rfl w4.heap.size CD rfl rfl 34 _ (heap_alloc_new _ _) (by rw [zC]; kernel_rfl) (by rw [zC, z32_sizeC]) oC ?_)
    rw [HW5.out]
    clear HW5
    have hr5 := blk_belowC b5 hr4
    have hp5 := blk_belowC b5 hp4
    have B5 := B4.trans (b5.mono B4.size)
    clear b5 hr4 hp4 B4
    generalize w4.heap.size = q9 at *
    have l0 := OA.out.ld _ _ hr5
    go_wp2_with ((with_reducible refine wpList_load_arr_i (g := w.heap.size) (cs := DA) 34 _ rfl ?_ ?_ ?_); exact ⟨rfl, rfl⟩; assumption)
    refine (HNO.out _ B5).mono ?_
    rintro e w6 ⟨rfl, b6⟩
    have hr6 := blk_belowC b6 hr5
    have hp6 := blk_belowC b6 hp5
    have hc6 := blk_belowC b6 hc5
    have B6 := B5.trans (b6.mono B5.size)
    clear b6 l0 hr5 hp5 hc5 B5
    obtain ⟨w7, HW7, hn7, b7⟩ := stored_dg w6 DA
    go_upto_region 6 with (refine wpList_store_row rfl _ _ _ rfl w6.heap.size DA rfl rfl 34 _ (heap_alloc_new _ _) (by rw [zA]; kernel_rfl) (by rw [zA, z32_sizeC]) oA ?_)
    rw [HW7.out]
    clear HW7
    have hr7 := blk_belowC b7 hr6
    have hp7 := blk_belowC b7 hp6
    have hc7 := blk_belowC b7 hc6
    have B7 := B6.trans (b7.mono B6.size)
    clear b7 hr6 hp6 hc6 B6
    generalize w6.heap.size = q11 at *
    have l0 := OA.out.ld _ _ hr7
    go_wp2_with ((with_reducible refine wpList_load_arr_i (g := w.heap.size) (cs := DA) 34 _ rfl ?_ ?_ ?_); exact ⟨rfl, rfl⟩; assumption)
    refine (HN1.out _ B7).mono ?_
    rintro e w8 ⟨rfl, b8⟩
    have hr8 := blk_belowC b8 hr7
    have hp8 := blk_belowC b8 hp7
    have hc8 := blk_belowC b8 hc7
    have hn8 := blk_belowC b8 hn7
    have B8 := B7.trans (b8.mono B7.size)
    clear b8 l0 hr7 hp7 hc7 hn7 B7
    obtain ⟨w9, HW9, ht9, b9⟩ := stored_dg w8 BD
    go_upto_region 7 with (refine wpList_store_row rfl _ _ _ rfl w8.heap.size BD rfl rfl 34 _ (heap_alloc_new _ _) (by rw [zB]; kernel_rfl) (by rw [zB, z32_sizeC]) oB ?_)
    rw [HW9.out]
    clear HW9
    have hr9 := blk_belowC b9 hr8
    have hp9 := blk_belowC b9 hp8
    have hc9 := blk_belowC b9 hc8
    have hn9 := blk_belowC b9 hn8
    have HQL : Hid (w.heap.size ≤ w8.heap.size) := Lib.hid B8.size
    have HQ9 : Hid (q9 < w8.heap.size) := Lib.hid (blk_ltC hc8)
    have B9 := B8.trans (b9.mono B8.size)
    clear b9 hr8 hp8 hc8 hn8 B8
    generalize w8.heap.size = q13 at *
    have l0 := OA.out.ld _ _ hr9
    have l1 := OB.out.ld _ _ hp9
    have l2 := OA.out.ld _ _ hn9
    have l3 := OB.out.ld _ _ ht9
    have e1 := OB.out.neq
    have e2 := OA.out.neq
    go_upto_region 9 with (first | ((with_reducible refine wpList_load_arr_i (g := p) (cs := BD) 34 _ rfl ?_ ?_ ?_); exact ⟨rfl, rfl⟩; assumption) | ((with_reducible refine wpList_load_arr_i (g := q13) (cs := BD) 34 _ rfl ?_ ?_ ?_); exact ⟨rfl, rfl⟩; assumption) | ((with_reducible refine wpList_load_arr_i (g := q11) (cs := DA) 34 _ rfl ?_ ?_ ?_); exact ⟨rfl, rfl⟩; assumption) | ((with_reducible refine wpList_load_arr_i (g := w.heap.size) (cs := DA) 34 _ rfl ?_ ?_ ?_); exact ⟨rfl, rfl⟩; assumption))
    go_wp2_with fail
    refine (awake14 _ (hG.below B9)).mono ?_
    rintro e w10 ⟨rfl, b10⟩
    have lc := OC.out.ld _ _ (blk_belowC b10 hc9)
    have ez := EZ
    go_wp2_with ((with_reducible refine wpList_load_arr_i (g := q9) (cs := CD) 34 _ rfl ?_ ?_ ?_); exact ⟨rfl, rfl⟩; assumption)
    go_ret
    exact ⟨rfl, B9.trans (b10.mono B9.size)⟩
set_option maxRecDepth 100000 in
set_option maxHeartbeats 8000000 in
theorem chainNexts_2 (a : List UInt8) (L M : List ByteArray) (la lb : Option Addr) (n c m d : Nat) (w : World) (hG : Gl w) (ha : a.length = 32) (hn : L.length = n) (hc : n ≤ c) (hn1 : n ≤ 100) (hT : TxtAt w la L) (hm : M.length = m) (hd : m ≤ d) (hm1 : m ≤ 100) (hU : TxtAt w lb M) (hL : okB L = true) (hM : okB M = false) :
    Calls Tryd.prog 5 #[.agg (digA a), .slice la n c, .slice lb m d] w fun e w' => e = .returned (.bool true) ∧ Below w.heap.size w w' := by
  have hz := zero_dig
  have hbz := build_z32
  have hgf := hG.sf
  have hgk := hG.sk
  have t1 : ¬ (100 : Int) < (n : Int) := by omega
  have t2 : ¬ (100 : Int) < (m : Int) := by omega
  have HNX : Hid (∀ wc o X, Below w.heap.size w wc → OrX w.heap.size wc o X → FewX X 0 → Calls Tryd.prog 20 #[.pointer o, .agg (digA a), .slice la n c] wc fun e w' => ∃ X', e = .returned (.tuple #[.agg (nextD a L), .int .i64 (erB L)]) ∧ Below w.heap.size wc w' ∧ KeptX wc w' X X') := Lib.hid (fun wc o X hb hX hF => (next_u w.heap.size o X a L la n c wc (hG.below hb) hgf hgk hX (hF.mono (by omega)) ha hn hc (by omega) (hT.b hb hX)).mono fun e w' ⟨X', q1, _, _, q2, q3⟩ => ⟨X', q1, q2, q3⟩)
  have HAL : Hid (∀ wc, Below w.heap.size w wc → Calls Tryd.prog 21 #[.pointer none, .agg (digA a), .slice (some ⟨wc.heap.size, 0, none⟩) 2 2] (wc.alloc (.cells #[.slice la n c, .slice lb m d] 25)) fun e w' => e = .returned (.tuple #[.agg (alongD a [L, M]), .int .i64 (erR [L, M])]) ∧ Below wc.heap.size wc w') := Lib.hid (fun wc hb => by
    have b3 := (Below.refl wc.heap.size wc).alloc (Nat.le_refl _) (.cells #[.slice la n c, .slice lb m d] 25)
    have hX : OrX wc.heap.size (wc.alloc (.cells #[.slice la n c, .slice lb m d] 25)) none none := b3.size
    have hX0 : OrX w.heap.size wc none none := hb.size
    refine (along_u wc.heap.size none none a [L, M] (some ⟨wc.heap.size, 0, none⟩) 2 2 _ (hG.below (hb.trans (b3.mono hb.size))) (Nat.lt_of_lt_of_le hgf hb.size) (Nat.lt_of_lt_of_le hgk hb.size) hX (FewX.none _) ha rfl (by omega) (rowsB_two L M la lb n c m d wc hn hc (by omega) hm hd (by omega) (hT.b hb hX0) (hU.b hb hX0))).mono fun e w' ⟨X', q1, _, _, q2, _⟩ => ⟨q1, b3.trans q2⟩)
  have HNO : Hid (∀ wc, Below w.heap.size w wc → Calls Tryd.prog 21 #[.pointer none, .agg (digA a), .slice none 0 0] wc fun e w' => e = .returned (.tuple #[.agg (digA a), .int .i64 0]) ∧ Below wc.heap.size wc w') := Lib.hid (fun wc hb => by
    refine (along_any wc.heap.size none none a [] none 0 0 wc (hG.below hb) (Nat.lt_of_lt_of_le hgf hb.size) (Nat.lt_of_lt_of_le hgk hb.size) (Nat.le_refl _) (FewX.none _) ha rfl (by omega) (fun i h => absurd h (by simp)) (fun h => absurd h (by simp))).mono fun e w' ⟨X', q1, _, _, q2, _⟩ => ⟨by rw [q1]; with_unfolding_all rfl, q2⟩)
  have HN1 : Hid (∀ wc, Below w.heap.size w wc → Calls Tryd.prog 22 #[.agg (digA a), .slice la n c] wc fun e w' => e = .returned (.tuple #[.agg (nextD a L), .int .i64 (erB L)]) ∧ Below wc.heap.size wc w') := Lib.hid (fun wc hb => lawNext_any a L la n c wc (hG.below hb) ha hn hc (hT.below hb))
  have OA : Hid (DigOk (digA a)) := Lib.hid (DigOk.d a ha)
  have OB : Hid (DigOk (nextD a L)) := Lib.hid (DigOk.next a L)
  have OC : Hid (DigOk (alongD a [L, M])) := Lib.hid (DigOk.along a ha [L, M])
  have EB : erB L = 0 := by unfold erB; rw [hL]; rfl
  have NB : nextD a L = digA (nextL a L) := nextD_yes a L hL
  have HN2 : Hid (∀ wc, Below w.heap.size w wc → Calls Tryd.prog 22 #[.agg (digA (nextL a L)), .slice lb m d] wc fun e w' => e = .returned (.tuple #[.agg (nextD (nextL a L) M), .int .i64 (erB M)]) ∧ Below wc.heap.size wc w') := Lib.hid (fun wc hb => lawNext_any (nextL a L) M lb m d wc (hG.below hb) (nextL_len _ _) hm hd (hU.below hb))
  rw [← NB] at HN2
  have EM : erB M = 6 := by unfold erB; rw [hM]; rfl
  have EC : erR [L, M] = 6 := by unfold erR okR; simp [hM]
  have ZC : alongD a [L, M] = z32 := by unfold alongD okR; simp [hM]
  have ZM : nextD (nextL a L) M = z32 := nextD_no _ _ hM
  rw [EM, ZM, ← ZC] at HN2
  rw [EB] at HNX HN1
  rw [EC] at HAL
  have EZ : ∀ w, (binOp .eql 34 (.agg (alongD a [L, M])) (.agg z32)).run Tryd.prog w = .ok (.bool true) w := fun w => by rw [ZC]; exact eql_z32 w
  clear NB
  clear ha hn hc hn1 hT hm hd hm1 hU hL
  have zA := OA.out.sz
  have zB := OB.out.sz
  have oB := OB.out.one
  have oA := OA.out.one
  have zC := OC.out.sz
  have oC := OC.out.one
  generalize nextD a L = BD at *
  clear ZC
  generalize alongD a [L, M] = CD at *
  generalize digA a = DA at *
  obtain ⟨w1, HW1, hA1, B1⟩ := made_d w DA
  go_enter Tryd.func5, Tryd.ntmps5
  go_upto_region 1 with fail
  rw [HW1.out]
  clear HW1
  have HVA : Hid (DA.toList.toArray = DA) := Lib.hid (by simp)
  have HVL : Hid (DA.toList.length = 32) := Lib.hid (by rw [Array.length_toList, zA])
  go_upto_region 3 with fail
  go_cut [7, 8] from 15 (fun s7 s8 wx => ∃ p, s7 = .pointer (some ⟨p, 0, none⟩) ∧ s8 = .int .i64 0 ∧ Hid (wx.heap[p]? = some (.cells BD 34 (0, 0))) ∧ Hid (wx.heap[w.heap.size]? = some (.cells DA 34 (0, 0))) ∧ Hid (Below w.heap.size w wx))
  case first =>
    have HB := Lib.hid B1.drew
    have HR : Hid (w1.drew.heap[w.heap.size]? = some (.cells DA 34 (0, 0))) := Lib.hid hA1
    clear hA1 B1
    refine wp_region_noPanic ?_
    refine wp_region_held_drew (S := (fun w' => w'.heap[w.heap.size]? = some (.cells DA 34 (0, 0)))) (by kernel_rfl) ?_ (fun hHeld => ?_)
    · (try dsimp only); exact HR.out
    generalize World.drew w1 = wd at *
    refine wpAnyH_take (i := 1) (oi := { dst := some 26, op := Go.Op.load 34 (Go.Operand.tmp 3), type := 34, pos := "law.go:64", after := #[], guard := none }) rfl (by kernel_rfl) (by kernel_rfl) (by kernel_rfl) (fun _ _ _ h => h) (yieldsIf_load_mid (by rfl) _ _ rfl w.heap.size 0 rfl DA.toList _ (fun _ h => range_dg h HVA.out) Tryd.underlying34 rfl (by rw [HVL.out]; kernel_rfl)) (by assumption) ?_
    rw [HVA.out]
    try simp only [Act.put, List.setIfInBounds_toArray, List.set_cons_zero, List.set_cons_succ]
    refine wpAnyH_take (i := 2) (oi := { dst := some 27, op := Go.Op.move (Go.Operand.tmp 1), type := 25, pos := "law.go:64", after := #[], guard := none }) (v := ?_) rfl (by kernel_rfl) (by kernel_rfl) (by kernel_rfl) (fun _ _ _ h => h) (Or.inl ⟨by rfl, ?_⟩) (by assumption) ?_
    rotate_left
    · (intro w hSw; (try dsimp only at hSw); go_simp; (try (with_reducible rfl)); done)
    try simp only [Act.put, List.setIfInBounds_toArray, List.set_cons_zero, List.set_cons_succ]
    refine wpAnyH_ready (rs := [0, 7]) (by kernel_rfl) (by simp) ?_
    refine AllReadyH.cons (o := { dst := some 25, op := Go.Op.call { callee := Go.Callee.value (Go.Operand.func 9), args := #[], argTypes := #[] }, type := 23, pos := "law.go:64", after := #[], guard := none }) rfl (fun K hK => ?_) (AllReadyH.cons (o := { dst := some 7, op := Go.Op.alloc 34, type := 0, pos := "law.go:64", after := #[], guard := none }) rfl (fun K hK => ?_) AllReadyH.nil)
    ·
      (go_simp; go_at_call 9; refine (new_y _).mono ?_; rintro e w' ⟨o, X, rfl, hX, hF, hb⟩; have HN := Lib.hid (hX.weak HB.out.size); have HF0 := Lib.hid hF; have HFA := Lib.hid (hX.freeLow _ (blk_ltC HR.out)); (try have HFP := Lib.hid (hX.freeLow _ (blk_ltC HZ.out))); have HR := Lib.hid (blk_belowC hb HR.out); (try have HZ := Lib.hid (blk_belowC hb HZ.out)); have HB := Lib.hid (HB.out.trans (hb.mono HB.out.size)); clear hX hF hb)
      try go_wp2_with fail
      refine hK.out _ _ ?_ (fun hHeld => ?_)
      · (try dsimp only); exact HR.out
      clear hK K
      try simp only [Act.put, List.setIfInBounds_toArray, List.set_cons_zero, List.set_cons_succ]
      refine wpAnyH_ready (rs := [3, 7]) (by kernel_rfl) (by simp) ?_
      refine AllReadyH.cons (o := { dst := some 28, op := Go.Op.call { callee := Go.Callee.value (Go.Operand.func 20), args := #[Go.Operand.tmp 25, Go.Operand.tmp 26, Go.Operand.tmp 27], argTypes := #[23, 34, 25] }, type := 44, pos := "law.go:64", after := #[{ on := 0, ground := Go.Ground.data }, { on := 1, ground := Go.Ground.data }, { on := 2, ground := Go.Ground.data }, { on := 0, ground := Go.Ground.chain }], guard := none }) rfl (fun K hK => ?_) (AllReadyH.cons (o := { dst := some 7, op := Go.Op.alloc 34, type := 0, pos := "law.go:64", after := #[], guard := none }) rfl (fun K hK => ?_) AllReadyH.nil)
      ·
        (go_simp; go_at_call 20; refine (HNX.out _ _ _ HB.out HN.out HF0.out).mono ?_; rintro e w' ⟨X', rfl, hb, hK⟩; have HR := Lib.hid (hK.keep _ _ HR.out HFA.out); (try have HZ := Lib.hid (hK.keep _ _ HZ.out HFP.out)); have HB := Lib.hid (HB.out.trans hb); clear hK hb)
        try go_wp2_with fail
        refine hK.out _ _ ?_ (fun hHeld => ?_)
        · (try dsimp only); exact HR.out
        clear hK K
        try simp only [Act.put, List.setIfInBounds_toArray, List.set_cons_zero, List.set_cons_succ]
        refine wpAnyH_take (i := 4) (oi := { dst := some 24, op := Go.Op.move (Go.Operand.tmp 28), type := 44, pos := "law.go:64", after := #[{ on := 3, ground := Go.Ground.data }], guard := none }) (v := ?_) rfl (by kernel_rfl) (by kernel_rfl) (by kernel_rfl) (fun _ _ _ h => h) (Or.inl ⟨by rfl, ?_⟩) (by assumption) ?_
        rotate_left
        · (intro w hSw; (try dsimp only at hSw); go_simp; (try (with_reducible rfl)); done)
        try simp only [Act.put, List.setIfInBounds_toArray, List.set_cons_zero, List.set_cons_succ]
        refine wpAnyH_take (i := 5) (oi := { dst := some 29, op := Go.Op.extract (Go.Operand.tmp 24) 0, type := 34, pos := "law.go:64", after := #[{ on := 4, ground := Go.Ground.data }], guard := none }) (v := ?_) rfl (by kernel_rfl) (by kernel_rfl) (by kernel_rfl) (fun _ _ _ h => h) (Or.inl ⟨by rfl, ?_⟩) (by assumption) ?_
        rotate_left
        · (intro w hSw; (try dsimp only at hSw); go_simp; (try (with_reducible rfl)); done)
        try simp only [Act.put, List.setIfInBounds_toArray, List.set_cons_zero, List.set_cons_succ]
        refine wpAnyH_take (i := 6) (oi := { dst := some 30, op := Go.Op.extract (Go.Operand.tmp 24) 1, type := 30, pos := "law.go:64", after := #[{ on := 4, ground := Go.Ground.data }, { on := 8, ground := Go.Ground.gcOnly Go.Departure.lateStores }], guard := none }) (v := ?_) rfl (by kernel_rfl) (by kernel_rfl) (by kernel_rfl) (fun _ _ _ h => h) (Or.inl ⟨by rfl, ?_⟩) (by assumption) ?_
        rotate_left
        · (intro w hSw; (try dsimp only at hSw); go_simp; (try (with_reducible rfl)); done)
        try simp only [Act.put, List.setIfInBounds_toArray, List.set_cons_zero, List.set_cons_succ]
        refine wpAnyH_ready (rs := [7]) (by kernel_rfl) (by simp) ?_
        refine AllReadyH.cons (o := { dst := some 7, op := Go.Op.alloc 34, type := 0, pos := "law.go:64", after := #[], guard := none }) rfl (fun K hK => ?_) AllReadyH.nil
        go_simp
        refine alloc_stepC hK (blk_belowC ((Below.refl _ _).alloc (Nat.le_refl _) _) HR.out) (fun W' hW' hz hHeld => ?_); have hbz := below_of_allocC hW'; have HP := Lib.hid (blk_ltC HR.out); (try have HFP := Lib.hid (HN.out.free _ (Nat.le_refl _))); (try have HN := Lib.hid (HN.out.below hbz)); have HB := Lib.hid (HB.out.trans (hbz.mono HB.out.size)); have HR := Lib.hid (blk_belowC hbz HR.out); have HZ := Lib.hid hz; clear hz hW' hbz
        clear hK K
        try simp only [Act.put, List.setIfInBounds_toArray, List.set_cons_zero, List.set_cons_succ]
        refine wpAnyH_ready (rs := [8]) (by kernel_rfl) (by simp) ?_
        refine AllReadyH.cons (o := { dst := none, op := Go.Op.store 34 (Go.Operand.tmp 7) (Go.Operand.tmp 29), type := 0, pos := "law.go:64", after := #[{ on := 7, ground := Go.Ground.data }, { on := 5, ground := Go.Ground.data }, { on := 3, ground := Go.Ground.chain }, { on := 0, ground := Go.Ground.phase }, { on := 1, ground := Go.Ground.phase }, { on := 2, ground := Go.Ground.phase }, { on := 3, ground := Go.Ground.phase }, { on := 4, ground := Go.Ground.phase }, { on := 5, ground := Go.Ground.phase }, { on := 6, ground := Go.Ground.textOnly Go.Departure.lateStores }, { on := 7, ground := Go.Ground.phase }], guard := none }) rfl (fun K hK => ?_) AllReadyH.nil
        (rw [if_pos (by rfl)]; refine wp_store_row _ _ _ rfl _ BD rfl rfl 34 _ HZ.out (by rw [zB]; kernel_rfl) (by rw [zB, z32_sizeC]) oB ?_)
        refine any_stepC hK ((setRow_other _ _ _ BD (Nat.ne_of_lt HP.out)).trans HR.out) (fun W' hW' hHeld => ?_); have HB := Lib.hid (hW'.out ▸ below_setRow HB.out (Nat.le_of_lt HP.out) BD); have HR := Lib.hid (hW'.out ▸ (setRow_other _ _ _ BD (Nat.ne_of_lt HP.out)).trans HR.out); have HZ := Lib.hid (hW'.out ▸ setRow_heap _ _ _ BD 34 (0, 0) HZ.out); clear hW'
        clear hK K
        try simp only [Act.put, List.setIfInBounds_toArray, List.set_cons_zero, List.set_cons_succ]
        refine wpAnyH_take (i := 9) (oi := { dst := some 8, op := Go.Op.assign (Go.Operand.tmp 30), type := 30, pos := "law.go:64", after := #[{ on := 6, ground := Go.Ground.data }, { on := 8, ground := Go.Ground.chain }, { on := 0, ground := Go.Ground.phase }, { on := 1, ground := Go.Ground.phase }, { on := 2, ground := Go.Ground.phase }, { on := 3, ground := Go.Ground.phase }, { on := 4, ground := Go.Ground.phase }, { on := 5, ground := Go.Ground.phase }, { on := 6, ground := Go.Ground.phase }, { on := 7, ground := Go.Ground.phase }, { on := 8, ground := Go.Ground.phase }], guard := none }) (v := ?_) rfl (by kernel_rfl) (by kernel_rfl) (by kernel_rfl) (fun _ _ _ h => h) (Or.inl ⟨by rfl, ?_⟩) (by assumption) ?_
        rotate_left
        · (intro w hSw; (try dsimp only at hSw); go_simp; (try (with_reducible rfl)); done)
        try simp only [Act.put, List.setIfInBounds_toArray, List.set_cons_zero, List.set_cons_succ]
        refine wpAnyH_done (by kernel_rfl) ?_ _
        refine NoPanic.normal ?_
        go_wp2_with fail
        go_meet
        exact ⟨_, rfl, rfl, HZ, HR, HB⟩
      ·
        go_simp
        refine alloc_stepC hK (blk_belowC ((Below.refl _ _).alloc (Nat.le_refl _) _) HR.out) (fun W' hW' hz hHeld => ?_); have hbz := below_of_allocC hW'; have HP := Lib.hid (blk_ltC HR.out); (try have HFP := Lib.hid (HN.out.free _ (Nat.le_refl _))); (try have HN := Lib.hid (HN.out.below hbz)); have HB := Lib.hid (HB.out.trans (hbz.mono HB.out.size)); have HR := Lib.hid (blk_belowC hbz HR.out); have HZ := Lib.hid hz; clear hz hW' hbz
        clear hK K
        try simp only [Act.put, List.setIfInBounds_toArray, List.set_cons_zero, List.set_cons_succ]
        refine wpAnyH_ready (rs := [3]) (by kernel_rfl) (by simp) ?_
        refine AllReadyH.cons (o := { dst := some 28, op := Go.Op.call { callee := Go.Callee.value (Go.Operand.func 20), args := #[Go.Operand.tmp 25, Go.Operand.tmp 26, Go.Operand.tmp 27], argTypes := #[23, 34, 25] }, type := 44, pos := "law.go:64", after := #[{ on := 0, ground := Go.Ground.data }, { on := 1, ground := Go.Ground.data }, { on := 2, ground := Go.Ground.data }, { on := 0, ground := Go.Ground.chain }], guard := none }) rfl (fun K hK => ?_) AllReadyH.nil
        (go_simp; go_at_call 20; refine (HNX.out _ _ _ HB.out HN.out HF0.out).mono ?_; rintro e w' ⟨X', rfl, hb, hK⟩; have HR := Lib.hid (hK.keep _ _ HR.out HFA.out); (try have HZ := Lib.hid (hK.keep _ _ HZ.out HFP.out)); have HB := Lib.hid (HB.out.trans hb); clear hK hb)
        try go_wp2_with fail
        refine hK.out _ _ ?_ (fun hHeld => ?_)
        · (try dsimp only); exact HR.out
        clear hK K
        try simp only [Act.put, List.setIfInBounds_toArray, List.set_cons_zero, List.set_cons_succ]
        refine wpAnyH_take (i := 4) (oi := { dst := some 24, op := Go.Op.move (Go.Operand.tmp 28), type := 44, pos := "law.go:64", after := #[{ on := 3, ground := Go.Ground.data }], guard := none }) (v := ?_) rfl (by kernel_rfl) (by kernel_rfl) (by kernel_rfl) (fun _ _ _ h => h) (Or.inl ⟨by rfl, ?_⟩) (by assumption) ?_
        rotate_left
        · (intro w hSw; (try dsimp only at hSw); go_simp; (try (with_reducible rfl)); done)
        try simp only [Act.put, List.setIfInBounds_toArray, List.set_cons_zero, List.set_cons_succ]
        refine wpAnyH_take (i := 5) (oi := { dst := some 29, op := Go.Op.extract (Go.Operand.tmp 24) 0, type := 34, pos := "law.go:64", after := #[{ on := 4, ground := Go.Ground.data }], guard := none }) (v := ?_) rfl (by kernel_rfl) (by kernel_rfl) (by kernel_rfl) (fun _ _ _ h => h) (Or.inl ⟨by rfl, ?_⟩) (by assumption) ?_
        rotate_left
        · (intro w hSw; (try dsimp only at hSw); go_simp; (try (with_reducible rfl)); done)
        try simp only [Act.put, List.setIfInBounds_toArray, List.set_cons_zero, List.set_cons_succ]
        refine wpAnyH_take (i := 6) (oi := { dst := some 30, op := Go.Op.extract (Go.Operand.tmp 24) 1, type := 30, pos := "law.go:64", after := #[{ on := 4, ground := Go.Ground.data }, { on := 8, ground := Go.Ground.gcOnly Go.Departure.lateStores }], guard := none }) (v := ?_) rfl (by kernel_rfl) (by kernel_rfl) (by kernel_rfl) (fun _ _ _ h => h) (Or.inl ⟨by rfl, ?_⟩) (by assumption) ?_
        rotate_left
        · (intro w hSw; (try dsimp only at hSw); go_simp; (try (with_reducible rfl)); done)
        try simp only [Act.put, List.setIfInBounds_toArray, List.set_cons_zero, List.set_cons_succ]
        refine wpAnyH_ready (rs := [8]) (by kernel_rfl) (by simp) ?_
        refine AllReadyH.cons (o := { dst := none, op := Go.Op.store 34 (Go.Operand.tmp 7) (Go.Operand.tmp 29), type := 0, pos := "law.go:64", after := #[{ on := 7, ground := Go.Ground.data }, { on := 5, ground := Go.Ground.data }, { on := 3, ground := Go.Ground.chain }, { on := 0, ground := Go.Ground.phase }, { on := 1, ground := Go.Ground.phase }, { on := 2, ground := Go.Ground.phase }, { on := 3, ground := Go.Ground.phase }, { on := 4, ground := Go.Ground.phase }, { on := 5, ground := Go.Ground.phase }, { on := 6, ground := Go.Ground.textOnly Go.Departure.lateStores }, { on := 7, ground := Go.Ground.phase }], guard := none }) rfl (fun K hK => ?_) AllReadyH.nil
        (rw [if_pos (by rfl)]; refine wp_store_row _ _ _ rfl _ BD rfl rfl 34 _ HZ.out (by rw [zB]; kernel_rfl) (by rw [zB, z32_sizeC]) oB ?_)
        refine any_stepC hK ((setRow_other _ _ _ BD (Nat.ne_of_lt HP.out)).trans HR.out) (fun W' hW' hHeld => ?_); have HB := Lib.hid (hW'.out ▸ below_setRow HB.out (Nat.le_of_lt HP.out) BD); have HR := Lib.hid (hW'.out ▸ (setRow_other _ _ _ BD (Nat.ne_of_lt HP.out)).trans HR.out); have HZ := Lib.hid (hW'.out ▸ setRow_heap _ _ _ BD 34 (0, 0) HZ.out); clear hW'
        clear hK K
        try simp only [Act.put, List.setIfInBounds_toArray, List.set_cons_zero, List.set_cons_succ]
        refine wpAnyH_take (i := 9) (oi := { dst := some 8, op := Go.Op.assign (Go.Operand.tmp 30), type := 30, pos := "law.go:64", after := #[{ on := 6, ground := Go.Ground.data }, { on := 8, ground := Go.Ground.chain }, { on := 0, ground := Go.Ground.phase }, { on := 1, ground := Go.Ground.phase }, { on := 2, ground := Go.Ground.phase }, { on := 3, ground := Go.Ground.phase }, { on := 4, ground := Go.Ground.phase }, { on := 5, ground := Go.Ground.phase }, { on := 6, ground := Go.Ground.phase }, { on := 7, ground := Go.Ground.phase }, { on := 8, ground := Go.Ground.phase }], guard := none }) (v := ?_) rfl (by kernel_rfl) (by kernel_rfl) (by kernel_rfl) (fun _ _ _ h => h) (Or.inl ⟨by rfl, ?_⟩) (by assumption) ?_
        rotate_left
        · (intro w hSw; (try dsimp only at hSw); go_simp; (try (with_reducible rfl)); done)
        try simp only [Act.put, List.setIfInBounds_toArray, List.set_cons_zero, List.set_cons_succ]
        refine wpAnyH_done (by kernel_rfl) ?_ _
        refine NoPanic.normal ?_
        go_wp2_with fail
        go_meet
        exact ⟨_, rfl, rfl, HZ, HR, HB⟩
    ·
      go_simp
      refine alloc_stepC hK (blk_belowC ((Below.refl _ _).alloc (Nat.le_refl _) _) HR.out) (fun W' hW' hz hHeld => ?_); have hbz := below_of_allocC hW'; have HP := Lib.hid (blk_ltC HR.out); (try have HFP := Lib.hid (HN.out.free _ (Nat.le_refl _))); (try have HN := Lib.hid (HN.out.below hbz)); have HB := Lib.hid (HB.out.trans (hbz.mono HB.out.size)); have HR := Lib.hid (blk_belowC hbz HR.out); have HZ := Lib.hid hz; clear hz hW' hbz
      clear hK K
      try simp only [Act.put, List.setIfInBounds_toArray, List.set_cons_zero, List.set_cons_succ]
      refine wpAnyH_ready (rs := [0]) (by kernel_rfl) (by simp) ?_
      refine AllReadyH.cons (o := { dst := some 25, op := Go.Op.call { callee := Go.Callee.value (Go.Operand.func 9), args := #[], argTypes := #[] }, type := 23, pos := "law.go:64", after := #[], guard := none }) rfl (fun K hK => ?_) AllReadyH.nil
      (go_simp; go_at_call 9; refine (new_y _).mono ?_; rintro e w' ⟨o, X, rfl, hX, hF, hb⟩; have HN := Lib.hid (hX.weak HB.out.size); have HF0 := Lib.hid hF; have HFA := Lib.hid (hX.freeLow _ (blk_ltC HR.out)); (try have HFP := Lib.hid (hX.freeLow _ (blk_ltC HZ.out))); have HR := Lib.hid (blk_belowC hb HR.out); (try have HZ := Lib.hid (blk_belowC hb HZ.out)); have HB := Lib.hid (HB.out.trans (hb.mono HB.out.size)); clear hX hF hb)
      try go_wp2_with fail
      refine hK.out _ _ ?_ (fun hHeld => ?_)
      · (try dsimp only); exact HR.out
      clear hK K
      try simp only [Act.put, List.setIfInBounds_toArray, List.set_cons_zero, List.set_cons_succ]
      refine wpAnyH_ready (rs := [3]) (by kernel_rfl) (by simp) ?_
      refine AllReadyH.cons (o := { dst := some 28, op := Go.Op.call { callee := Go.Callee.value (Go.Operand.func 20), args := #[Go.Operand.tmp 25, Go.Operand.tmp 26, Go.Operand.tmp 27], argTypes := #[23, 34, 25] }, type := 44, pos := "law.go:64", after := #[{ on := 0, ground := Go.Ground.data }, { on := 1, ground := Go.Ground.data }, { on := 2, ground := Go.Ground.data }, { on := 0, ground := Go.Ground.chain }], guard := none }) rfl (fun K hK => ?_) AllReadyH.nil
      (go_simp; go_at_call 20; refine (HNX.out _ _ _ HB.out HN.out HF0.out).mono ?_; rintro e w' ⟨X', rfl, hb, hK⟩; have HR := Lib.hid (hK.keep _ _ HR.out HFA.out); (try have HZ := Lib.hid (hK.keep _ _ HZ.out HFP.out)); have HB := Lib.hid (HB.out.trans hb); clear hK hb)
      try go_wp2_with fail
      refine hK.out _ _ ?_ (fun hHeld => ?_)
      · (try dsimp only); exact HR.out
      clear hK K
      try simp only [Act.put, List.setIfInBounds_toArray, List.set_cons_zero, List.set_cons_succ]
      refine wpAnyH_take (i := 4) (oi := { dst := some 24, op := Go.Op.move (Go.Operand.tmp 28), type := 44, pos := "law.go:64", after := #[{ on := 3, ground := Go.Ground.data }], guard := none }) (v := ?_) rfl (by kernel_rfl) (by kernel_rfl) (by kernel_rfl) (fun _ _ _ h => h) (Or.inl ⟨by rfl, ?_⟩) (by assumption) ?_
      rotate_left
      · (intro w hSw; (try dsimp only at hSw); go_simp; (try (with_reducible rfl)); done)
      try simp only [Act.put, List.setIfInBounds_toArray, List.set_cons_zero, List.set_cons_succ]
      refine wpAnyH_take (i := 5) (oi := { dst := some 29, op := Go.Op.extract (Go.Operand.tmp 24) 0, type := 34, pos := "law.go:64", after := #[{ on := 4, ground := Go.Ground.data }], guard := none }) (v := ?_) rfl (by kernel_rfl) (by kernel_rfl) (by kernel_rfl) (fun _ _ _ h => h) (Or.inl ⟨by rfl, ?_⟩) (by assumption) ?_
      rotate_left
      · (intro w hSw; (try dsimp only at hSw); go_simp; (try (with_reducible rfl)); done)
      try simp only [Act.put, List.setIfInBounds_toArray, List.set_cons_zero, List.set_cons_succ]
      refine wpAnyH_take (i := 6) (oi := { dst := some 30, op := Go.Op.extract (Go.Operand.tmp 24) 1, type := 30, pos := "law.go:64", after := #[{ on := 4, ground := Go.Ground.data }, { on := 8, ground := Go.Ground.gcOnly Go.Departure.lateStores }], guard := none }) (v := ?_) rfl (by kernel_rfl) (by kernel_rfl) (by kernel_rfl) (fun _ _ _ h => h) (Or.inl ⟨by rfl, ?_⟩) (by assumption) ?_
      rotate_left
      · (intro w hSw; (try dsimp only at hSw); go_simp; (try (with_reducible rfl)); done)
      try simp only [Act.put, List.setIfInBounds_toArray, List.set_cons_zero, List.set_cons_succ]
      refine wpAnyH_ready (rs := [8]) (by kernel_rfl) (by simp) ?_
      refine AllReadyH.cons (o := { dst := none, op := Go.Op.store 34 (Go.Operand.tmp 7) (Go.Operand.tmp 29), type := 0, pos := "law.go:64", after := #[{ on := 7, ground := Go.Ground.data }, { on := 5, ground := Go.Ground.data }, { on := 3, ground := Go.Ground.chain }, { on := 0, ground := Go.Ground.phase }, { on := 1, ground := Go.Ground.phase }, { on := 2, ground := Go.Ground.phase }, { on := 3, ground := Go.Ground.phase }, { on := 4, ground := Go.Ground.phase }, { on := 5, ground := Go.Ground.phase }, { on := 6, ground := Go.Ground.textOnly Go.Departure.lateStores }, { on := 7, ground := Go.Ground.phase }], guard := none }) rfl (fun K hK => ?_) AllReadyH.nil
      (rw [if_pos (by rfl)]; refine wp_store_row _ _ _ rfl _ BD rfl rfl 34 _ HZ.out (by rw [zB]; kernel_rfl) (by rw [zB, z32_sizeC]) oB ?_)
      refine any_stepC hK ((setRow_other _ _ _ BD (Nat.ne_of_lt HP.out)).trans HR.out) (fun W' hW' hHeld => ?_); have HB := Lib.hid (hW'.out ▸ below_setRow HB.out (Nat.le_of_lt HP.out) BD); have HR := Lib.hid (hW'.out ▸ (setRow_other _ _ _ BD (Nat.ne_of_lt HP.out)).trans HR.out); have HZ := Lib.hid (hW'.out ▸ setRow_heap _ _ _ BD 34 (0, 0) HZ.out); clear hW'
      clear hK K
      try simp only [Act.put, List.setIfInBounds_toArray, List.set_cons_zero, List.set_cons_succ]
      refine wpAnyH_take (i := 9) (oi := { dst := some 8, op := Go.Op.assign (Go.Operand.tmp 30), type := 30, pos := "law.go:64", after := #[{ on := 6, ground := Go.Ground.data }, { on := 8, ground := Go.Ground.chain }, { on := 0, ground := Go.Ground.phase }, { on := 1, ground := Go.Ground.phase }, { on := 2, ground := Go.Ground.phase }, { on := 3, ground := Go.Ground.phase }, { on := 4, ground := Go.Ground.phase }, { on := 5, ground := Go.Ground.phase }, { on := 6, ground := Go.Ground.phase }, { on := 7, ground := Go.Ground.phase }, { on := 8, ground := Go.Ground.phase }], guard := none }) (v := ?_) rfl (by kernel_rfl) (by kernel_rfl) (by kernel_rfl) (fun _ _ _ h => h) (Or.inl ⟨by rfl, ?_⟩) (by assumption) ?_
      rotate_left
      · (intro w hSw; (try dsimp only at hSw); go_simp; (try (with_reducible rfl)); done)
      try simp only [Act.put, List.setIfInBounds_toArray, List.set_cons_zero, List.set_cons_succ]
      refine wpAnyH_done (by kernel_rfl) ?_ _
      refine NoPanic.normal ?_
      go_wp2_with fail
      go_meet
      exact ⟨_, rfl, rfl, HZ, HR, HB⟩
  case rest =>
    obtain ⟨p, rfl, rfl, HP, HR, HB⟩ := hcut
    have hr := HR.out
    have l0 := OA.out.ld _ _ HR.out
    go_wp2_with ((with_reducible refine wpList_load_arr_i (g := w.heap.size) (cs := DA) 34 _ rfl ?_ ?_ ?_); exact ⟨rfl, rfl⟩; assumption)
    refine (HAL.out _ HB.out).mono ?_
    rintro e w4 ⟨rfl, b4⟩
    have hr4 := blk_belowC b4 HR.out
    have hp4 := blk_belowC b4 HP.out
    have B4 := HB.out.trans (b4.mono HB.out.size)
    clear b4 l0 hr HR HP HB
    obtain ⟨w5, HW5, hc5, b5⟩ := stored_dg w4 CD
    go_upto_region 5 with (refine wpList_store_row rfl _ _ _ rfl w4.heap.size CD rfl rfl 34 _ (heap_alloc_new _ _) (by rw [zC]; kernel_rfl) (by rw [zC, z32_sizeC]) oC ?_)
    rw [HW5.out]
    clear HW5
    have hr5 := blk_belowC b5 hr4
    have hp5 := blk_belowC b5 hp4
    have B5 := B4.trans (b5.mono B4.size)
    clear b5 hr4 hp4 B4
    generalize w4.heap.size = q9 at *
    have l0 := OA.out.ld _ _ hr5
    go_wp2_with ((with_reducible refine wpList_load_arr_i (g := w.heap.size) (cs := DA) 34 _ rfl ?_ ?_ ?_); exact ⟨rfl, rfl⟩; assumption)
    refine (HNO.out _ B5).mono ?_
    rintro e w6 ⟨rfl, b6⟩
    have hr6 := blk_belowC b6 hr5
    have hp6 := blk_belowC b6 hp5
    have hc6 := blk_belowC b6 hc5
    have B6 := B5.trans (b6.mono B5.size)
    clear b6 l0 hr5 hp5 hc5 B5
    obtain ⟨w7, HW7, hn7, b7⟩ := stored_dg w6 DA
    go_upto_region 6 with (refine wpList_store_row rfl _ _ _ rfl w6.heap.size DA rfl rfl 34 _ (heap_alloc_new _ _) (by rw [zA]; kernel_rfl) (by rw [zA, z32_sizeC]) oA ?_)
    rw [HW7.out]
    clear HW7
    have hr7 := blk_belowC b7 hr6
    have hp7 := blk_belowC b7 hp6
    have hc7 := blk_belowC b7 hc6
    have B7 := B6.trans (b7.mono B6.size)
    clear b7 hr6 hp6 hc6 B6
    generalize w6.heap.size = q11 at *
    have l0 := OA.out.ld _ _ hr7
    go_wp2_with ((with_reducible refine wpList_load_arr_i (g := w.heap.size) (cs := DA) 34 _ rfl ?_ ?_ ?_); exact ⟨rfl, rfl⟩; assumption)
    refine (HN1.out _ B7).mono ?_
    rintro e w8 ⟨rfl, b8⟩
    have hr8 := blk_belowC b8 hr7
    have hp8 := blk_belowC b8 hp7
    have hc8 := blk_belowC b8 hc7
    have hn8 := blk_belowC b8 hn7
    have B8 := B7.trans (b8.mono B7.size)
    clear b8 l0 hr7 hp7 hc7 hn7 B7
    obtain ⟨w9, HW9, ht9, b9⟩ := stored_dg w8 BD
    go_upto_region 7 with (refine wpList_store_row rfl _ _ _ rfl w8.heap.size BD rfl rfl 34 _ (heap_alloc_new _ _) (by rw [zB]; kernel_rfl) (by rw [zB, z32_sizeC]) oB ?_)
    rw [HW9.out]
    clear HW9
    have hr9 := blk_belowC b9 hr8
    have hp9 := blk_belowC b9 hp8
    have hc9 := blk_belowC b9 hc8
    have hn9 := blk_belowC b9 hn8
    have HQL : Hid (w.heap.size ≤ w8.heap.size) := Lib.hid B8.size
    have HQ9 : Hid (q9 < w8.heap.size) := Lib.hid (blk_ltC hc8)
    have B9 := B8.trans (b9.mono B8.size)
    clear b9 hr8 hp8 hc8 hn8 B8
    generalize w8.heap.size = q13 at *
    have l0 := OA.out.ld _ _ hr9
    have l1 := OB.out.ld _ _ hp9
    have l2 := OA.out.ld _ _ hn9
    have l3 := OB.out.ld _ _ ht9
    have e1 := OB.out.neq
    have e2 := OA.out.neq
    go_upto_region 9 with (first | ((with_reducible refine wpList_load_arr_i (g := p) (cs := BD) 34 _ rfl ?_ ?_ ?_); exact ⟨rfl, rfl⟩; assumption) | ((with_reducible refine wpList_load_arr_i (g := q13) (cs := BD) 34 _ rfl ?_ ?_ ?_); exact ⟨rfl, rfl⟩; assumption) | ((with_reducible refine wpList_load_arr_i (g := q11) (cs := DA) 34 _ rfl ?_ ?_ ?_); exact ⟨rfl, rfl⟩; assumption) | ((with_reducible refine wpList_load_arr_i (g := w.heap.size) (cs := DA) 34 _ rfl ?_ ?_ ?_); exact ⟨rfl, rfl⟩; assumption))
    clear l0 l1 l2 e2
    go_wp2_with ((with_reducible refine wpList_load_arr_i (g := q13) (cs := BD) 34 _ rfl ?_ ?_ ?_); exact ⟨rfl, rfl⟩; assumption)
    refine (HN2.out _ B9).mono ?_
    rintro e w10 ⟨rfl, b10⟩
    have ht10 := blk_belowC b10 ht9
    have hc10 := blk_belowC b10 hc9
    have B10 := B9.trans (b10.mono B9.size)
    clear b10 l3 hr9 hp9 hc9 hn9 ht9 B9
    go_upto_region 11 with (refine wpList_store_row rfl _ _ _ rfl q13 CD rfl rfl 34 _ ht10 (by rw [zC]; kernel_rfl) (by rw [zC, zB]) oC ?_)
    have ht11 := setRow_heap w10 q13 _ CD 34 (0, 0) ht10
    have hc11 := (setRow_other w10 q13 q9 CD (Nat.ne_of_lt HQ9.out)).trans hc10
    have B11 := below_setRow B10 HQL.out CD
    generalize w10.setRow q13 CD = w11 at *
    clear ht10 hc10 B10
    go_wp2_with fail
    refine (awake14 _ (hG.below B11)).mono ?_
    rintro e w12 ⟨rfl, b12⟩
    have lc := OC.out.ld _ _ (blk_belowC b12 hc11)
    have lt := OC.out.ld _ _ (blk_belowC b12 ht11)
    have ez := EZ
    go_wp2_with (first | ((with_reducible refine wpList_load_arr_i (g := q9) (cs := CD) 34 _ rfl ?_ ?_ ?_); exact ⟨rfl, rfl⟩; assumption) | ((with_reducible refine wpList_load_arr_i (g := q13) (cs := CD) 34 _ rfl ?_ ?_ ?_); exact ⟨rfl, rfl⟩; assumption))
    go_ret
    exact ⟨rfl, B11.trans (b12.mono B11.size)⟩
set_option maxRecDepth 100000 in
set_option maxHeartbeats 8000000 in
theorem chainNexts_3 (a : List UInt8) (L M : List ByteArray) (la lb : Option Addr) (n c m d : Nat) (w : World) (hG : Gl w) (ha : a.length = 32) (hn : L.length = n) (hc : n ≤ c) (hn1 : n ≤ 100) (hT : TxtAt w la L) (hm : M.length = m) (hd : m ≤ d) (hm1 : m ≤ 100) (hU : TxtAt w lb M) (hL : okB L = true) (hM : okB M = true) :
    Calls Tryd.prog 5 #[.agg (digA a), .slice la n c, .slice lb m d] w fun e w' => e = .returned (.bool true) ∧ Below w.heap.size w w' := by
  have hz := zero_dig
  have hbz := build_z32
  have hgf := hG.sf
  have hgk := hG.sk
  have t1 : ¬ (100 : Int) < (n : Int) := by omega
  have t2 : ¬ (100 : Int) < (m : Int) := by omega
  have HNX : Hid (∀ wc o X, Below w.heap.size w wc → OrX w.heap.size wc o X → FewX X 0 → Calls Tryd.prog 20 #[.pointer o, .agg (digA a), .slice la n c] wc fun e w' => ∃ X', e = .returned (.tuple #[.agg (nextD a L), .int .i64 (erB L)]) ∧ Below w.heap.size wc w' ∧ KeptX wc w' X X') := Lib.hid (fun wc o X hb hX hF => (next_u w.heap.size o X a L la n c wc (hG.below hb) hgf hgk hX (hF.mono (by omega)) ha hn hc (by omega) (hT.b hb hX)).mono fun e w' ⟨X', q1, _, _, q2, q3⟩ => ⟨X', q1, q2, q3⟩)
  have HAL : Hid (∀ wc, Below w.heap.size w wc → Calls Tryd.prog 21 #[.pointer none, .agg (digA a), .slice (some ⟨wc.heap.size, 0, none⟩) 2 2] (wc.alloc (.cells #[.slice la n c, .slice lb m d] 25)) fun e w' => e = .returned (.tuple #[.agg (alongD a [L, M]), .int .i64 (erR [L, M])]) ∧ Below wc.heap.size wc w') := Lib.hid (fun wc hb => by
    have b3 := (Below.refl wc.heap.size wc).alloc (Nat.le_refl _) (.cells #[.slice la n c, .slice lb m d] 25)
    have hX : OrX wc.heap.size (wc.alloc (.cells #[.slice la n c, .slice lb m d] 25)) none none := b3.size
    have hX0 : OrX w.heap.size wc none none := hb.size
    refine (along_u wc.heap.size none none a [L, M] (some ⟨wc.heap.size, 0, none⟩) 2 2 _ (hG.below (hb.trans (b3.mono hb.size))) (Nat.lt_of_lt_of_le hgf hb.size) (Nat.lt_of_lt_of_le hgk hb.size) hX (FewX.none _) ha rfl (by omega) (rowsB_two L M la lb n c m d wc hn hc (by omega) hm hd (by omega) (hT.b hb hX0) (hU.b hb hX0))).mono fun e w' ⟨X', q1, _, _, q2, _⟩ => ⟨q1, b3.trans q2⟩)
  have HNO : Hid (∀ wc, Below w.heap.size w wc → Calls Tryd.prog 21 #[.pointer none, .agg (digA a), .slice none 0 0] wc fun e w' => e = .returned (.tuple #[.agg (digA a), .int .i64 0]) ∧ Below wc.heap.size wc w') := Lib.hid (fun wc hb => by
    refine (along_any wc.heap.size none none a [] none 0 0 wc (hG.below hb) (Nat.lt_of_lt_of_le hgf hb.size) (Nat.lt_of_lt_of_le hgk hb.size) (Nat.le_refl _) (FewX.none _) ha rfl (by omega) (fun i h => absurd h (by simp)) (fun h => absurd h (by simp))).mono fun e w' ⟨X', q1, _, _, q2, _⟩ => ⟨by rw [q1]; with_unfolding_all rfl, q2⟩)
  have HN1 : Hid (∀ wc, Below w.heap.size w wc → Calls Tryd.prog 22 #[.agg (digA a), .slice la n c] wc fun e w' => e = .returned (.tuple #[.agg (nextD a L), .int .i64 (erB L)]) ∧ Below wc.heap.size wc w') := Lib.hid (fun wc hb => lawNext_any a L la n c wc (hG.below hb) ha hn hc (hT.below hb))
  have OA : Hid (DigOk (digA a)) := Lib.hid (DigOk.d a ha)
  have OB : Hid (DigOk (nextD a L)) := Lib.hid (DigOk.next a L)
  have OC : Hid (DigOk (alongD a [L, M])) := Lib.hid (DigOk.along a ha [L, M])
  have EB : erB L = 0 := by unfold erB; rw [hL]; rfl
  have NB : nextD a L = digA (nextL a L) := nextD_yes a L hL
  have HN2 : Hid (∀ wc, Below w.heap.size w wc → Calls Tryd.prog 22 #[.agg (digA (nextL a L)), .slice lb m d] wc fun e w' => e = .returned (.tuple #[.agg (nextD (nextL a L) M), .int .i64 (erB M)]) ∧ Below wc.heap.size wc w') := Lib.hid (fun wc hb => lawNext_any (nextL a L) M lb m d wc (hG.below hb) (nextL_len _ _) hm hd (hU.below hb))
  rw [← NB] at HN2
  have EM : erB M = 0 := by unfold erB; rw [hM]; rfl
  have EC : erR [L, M] = 0 := by unfold erR okR; simp [hL, hM]
  have ZC : alongD a [L, M] = nextD (nextL a L) M := by rw [nextD_yes _ _ hM]; unfold alongD okR; rw [if_pos (by simp [hL, hM])]; with_unfolding_all rfl
  rw [EM, ← ZC] at HN2
  rw [EB] at HNX HN1
  rw [EC] at HAL
  clear NB
  clear ha hn hc hn1 hT hm hd hm1 hU hL
  have zA := OA.out.sz
  have zB := OB.out.sz
  have oB := OB.out.one
  have oA := OA.out.one
  have zC := OC.out.sz
  have oC := OC.out.one
  generalize nextD a L = BD at *
  clear ZC
  generalize alongD a [L, M] = CD at *
  generalize digA a = DA at *
  obtain ⟨w1, HW1, hA1, B1⟩ := made_d w DA
  go_enter Tryd.func5, Tryd.ntmps5
  go_upto_region 1 with fail
  rw [HW1.out]
  clear HW1
  have HVA : Hid (DA.toList.toArray = DA) := Lib.hid (by simp)
  have HVL : Hid (DA.toList.length = 32) := Lib.hid (by rw [Array.length_toList, zA])
  go_upto_region 3 with fail
  go_cut [7, 8] from 15 (fun s7 s8 wx => ∃ p, s7 = .pointer (some ⟨p, 0, none⟩) ∧ s8 = .int .i64 0 ∧ Hid (wx.heap[p]? = some (.cells BD 34 (0, 0))) ∧ Hid (wx.heap[w.heap.size]? = some (.cells DA 34 (0, 0))) ∧ Hid (Below w.heap.size w wx))
  case first =>
    have HB := Lib.hid B1.drew
    have HR : Hid (w1.drew.heap[w.heap.size]? = some (.cells DA 34 (0, 0))) := Lib.hid hA1
    clear hA1 B1
    refine wp_region_noPanic ?_
    refine wp_region_held_drew (S := (fun w' => w'.heap[w.heap.size]? = some (.cells DA 34 (0, 0)))) (by kernel_rfl) ?_ (fun hHeld => ?_)
    · (try dsimp only); exact HR.out
    generalize World.drew w1 = wd at *
    refine wpAnyH_take (i := 1) (oi := { dst := some 26, op := Go.Op.load 34 (Go.Operand.tmp 3), type := 34, pos := "law.go:64", after := #[], guard := none }) rfl (by kernel_rfl) (by kernel_rfl) (by kernel_rfl) (fun _ _ _ h => h) (yieldsIf_load_mid (by rfl) _ _ rfl w.heap.size 0 rfl DA.toList _ (fun _ h => range_dg h HVA.out) Tryd.underlying34 rfl (by rw [HVL.out]; kernel_rfl)) (by assumption) ?_
    rw [HVA.out]
    try simp only [Act.put, List.setIfInBounds_toArray, List.set_cons_zero, List.set_cons_succ]
    refine wpAnyH_take (i := 2) (oi := { dst := some 27, op := Go.Op.move (Go.Operand.tmp 1), type := 25, pos := "law.go:64", after := #[], guard := none }) (v := ?_) rfl (by kernel_rfl) (by kernel_rfl) (by kernel_rfl) (fun _ _ _ h => h) (Or.inl ⟨by rfl, ?_⟩) (by assumption) ?_
    rotate_left
    · (intro w hSw; (try dsimp only at hSw); go_simp; (try (with_reducible rfl)); done)
    try simp only [Act.put, List.setIfInBounds_toArray, List.set_cons_zero, List.set_cons_succ]
    refine wpAnyH_ready (rs := [0, 7]) (by kernel_rfl) (by simp) ?_
    refine AllReadyH.cons (o := { dst := some 25, op := Go.Op.call { callee := Go.Callee.value (Go.Operand.func 9), args := #[], argTypes := #[] }, type := 23, pos := "law.go:64", after := #[], guard := none }) rfl (fun K hK => ?_) (AllReadyH.cons (o := { dst := some 7, op := Go.Op.alloc 34, type := 0, pos := "law.go:64", after := #[], guard := none }) rfl (fun K hK => ?_) AllReadyH.nil)
    ·
      (go_simp; go_at_call 9; refine (new_y _).mono ?_; rintro e w' ⟨o, X, rfl, hX, hF, hb⟩; have HN := Lib.hid (hX.weak HB.out.size); have HF0 := Lib.hid hF; have HFA := Lib.hid (hX.freeLow _ (blk_ltC HR.out)); (try have HFP := Lib.hid (hX.freeLow _ (blk_ltC HZ.out))); have HR := Lib.hid (blk_belowC hb HR.out); (try have HZ := Lib.hid (blk_belowC hb HZ.out)); have HB := Lib.hid (HB.out.trans (hb.mono HB.out.size)); clear hX hF hb)
      try go_wp2_with fail
      refine hK.out _ _ ?_ (fun hHeld => ?_)
      · (try dsimp only); exact HR.out
      clear hK K
      try simp only [Act.put, List.setIfInBounds_toArray, List.set_cons_zero, List.set_cons_succ]
      refine wpAnyH_ready (rs := [3, 7]) (by kernel_rfl) (by simp) ?_
      refine AllReadyH.cons (o := { dst := some 28, op := Go.Op.call { callee := Go.Callee.value (Go.Operand.func 20), args := #[Go.Operand.tmp 25, Go.Operand.tmp 26, Go.Operand.tmp 27], argTypes := #[23, 34, 25] }, type := 44, pos := "law.go:64", after := #[{ on := 0, ground := Go.Ground.data }, { on := 1, ground := Go.Ground.data }, { on := 2, ground := Go.Ground.data }, { on := 0, ground := Go.Ground.chain }], guard := none }) rfl (fun K hK => ?_) (AllReadyH.cons (o := { dst := some 7, op := Go.Op.alloc 34, type := 0, pos := "law.go:64", after := #[], guard := none }) rfl (fun K hK => ?_) AllReadyH.nil)
      ·
        (go_simp; go_at_call 20; refine (HNX.out _ _ _ HB.out HN.out HF0.out).mono ?_; rintro e w' ⟨X', rfl, hb, hK⟩; have HR := Lib.hid (hK.keep _ _ HR.out HFA.out); (try have HZ := Lib.hid (hK.keep _ _ HZ.out HFP.out)); have HB := Lib.hid (HB.out.trans hb); clear hK hb)
        try go_wp2_with fail
        refine hK.out _ _ ?_ (fun hHeld => ?_)
        · (try dsimp only); exact HR.out
        clear hK K
        try simp only [Act.put, List.setIfInBounds_toArray, List.set_cons_zero, List.set_cons_succ]
        refine wpAnyH_take (i := 4) (oi := { dst := some 24, op := Go.Op.move (Go.Operand.tmp 28), type := 44, pos := "law.go:64", after := #[{ on := 3, ground := Go.Ground.data }], guard := none }) (v := ?_) rfl (by kernel_rfl) (by kernel_rfl) (by kernel_rfl) (fun _ _ _ h => h) (Or.inl ⟨by rfl, ?_⟩) (by assumption) ?_
        rotate_left
        · (intro w hSw; (try dsimp only at hSw); go_simp; (try (with_reducible rfl)); done)
        try simp only [Act.put, List.setIfInBounds_toArray, List.set_cons_zero, List.set_cons_succ]
        refine wpAnyH_take (i := 5) (oi := { dst := some 29, op := Go.Op.extract (Go.Operand.tmp 24) 0, type := 34, pos := "law.go:64", after := #[{ on := 4, ground := Go.Ground.data }], guard := none }) (v := ?_) rfl (by kernel_rfl) (by kernel_rfl) (by kernel_rfl) (fun _ _ _ h => h) (Or.inl ⟨by rfl, ?_⟩) (by assumption) ?_
        rotate_left
        · (intro w hSw; (try dsimp only at hSw); go_simp; (try (with_reducible rfl)); done)
        try simp only [Act.put, List.setIfInBounds_toArray, List.set_cons_zero, List.set_cons_succ]
        refine wpAnyH_take (i := 6) (oi := { dst := some 30, op := Go.Op.extract (Go.Operand.tmp 24) 1, type := 30, pos := "law.go:64", after := #[{ on := 4, ground := Go.Ground.data }, { on := 8, ground := Go.Ground.gcOnly Go.Departure.lateStores }], guard := none }) (v := ?_) rfl (by kernel_rfl) (by kernel_rfl) (by kernel_rfl) (fun _ _ _ h => h) (Or.inl ⟨by rfl, ?_⟩) (by assumption) ?_
        rotate_left
        · (intro w hSw; (try dsimp only at hSw); go_simp; (try (with_reducible rfl)); done)
        try simp only [Act.put, List.setIfInBounds_toArray, List.set_cons_zero, List.set_cons_succ]
        refine wpAnyH_ready (rs := [7]) (by kernel_rfl) (by simp) ?_
        refine AllReadyH.cons (o := { dst := some 7, op := Go.Op.alloc 34, type := 0, pos := "law.go:64", after := #[], guard := none }) rfl (fun K hK => ?_) AllReadyH.nil
        go_simp
        refine alloc_stepC hK (blk_belowC ((Below.refl _ _).alloc (Nat.le_refl _) _) HR.out) (fun W' hW' hz hHeld => ?_); have hbz := below_of_allocC hW'; have HP := Lib.hid (blk_ltC HR.out); (try have HFP := Lib.hid (HN.out.free _ (Nat.le_refl _))); (try have HN := Lib.hid (HN.out.below hbz)); have HB := Lib.hid (HB.out.trans (hbz.mono HB.out.size)); have HR := Lib.hid (blk_belowC hbz HR.out); have HZ := Lib.hid hz; clear hz hW' hbz
        clear hK K
        try simp only [Act.put, List.setIfInBounds_toArray, List.set_cons_zero, List.set_cons_succ]
        refine wpAnyH_ready (rs := [8]) (by kernel_rfl) (by simp) ?_
        refine AllReadyH.cons (o := { dst := none, op := Go.Op.store 34 (Go.Operand.tmp 7) (Go.Operand.tmp 29), type := 0, pos := "law.go:64", after := #[{ on := 7, ground := Go.Ground.data }, { on := 5, ground := Go.Ground.data }, { on := 3, ground := Go.Ground.chain }, { on := 0, ground := Go.Ground.phase }, { on := 1, ground := Go.Ground.phase }, { on := 2, ground := Go.Ground.phase }, { on := 3, ground := Go.Ground.phase }, { on := 4, ground := Go.Ground.phase }, { on := 5, ground := Go.Ground.phase }, { on := 6, ground := Go.Ground.textOnly Go.Departure.lateStores }, { on := 7, ground := Go.Ground.phase }], guard := none }) rfl (fun K hK => ?_) AllReadyH.nil
        (rw [if_pos (by rfl)]; refine wp_store_row _ _ _ rfl _ BD rfl rfl 34 _ HZ.out (by rw [zB]; kernel_rfl) (by rw [zB, z32_sizeC]) oB ?_)
        refine any_stepC hK ((setRow_other _ _ _ BD (Nat.ne_of_lt HP.out)).trans HR.out) (fun W' hW' hHeld => ?_); have HB := Lib.hid (hW'.out ▸ below_setRow HB.out (Nat.le_of_lt HP.out) BD); have HR := Lib.hid (hW'.out ▸ (setRow_other _ _ _ BD (Nat.ne_of_lt HP.out)).trans HR.out); have HZ := Lib.hid (hW'.out ▸ setRow_heap _ _ _ BD 34 (0, 0) HZ.out); clear hW'
        clear hK K
        try simp only [Act.put, List.setIfInBounds_toArray, List.set_cons_zero, List.set_cons_succ]
        refine wpAnyH_take (i := 9) (oi := { dst := some 8, op := Go.Op.assign (Go.Operand.tmp 30), type := 30, pos := "law.go:64", after := #[{ on := 6, ground := Go.Ground.data }, { on := 8, ground := Go.Ground.chain }, { on := 0, ground := Go.Ground.phase }, { on := 1, ground := Go.Ground.phase }, { on := 2, ground := Go.Ground.phase }, { on := 3, ground := Go.Ground.phase }, { on := 4, ground := Go.Ground.phase }, { on := 5, ground := Go.Ground.phase }, { on := 6, ground := Go.Ground.phase }, { on := 7, ground := Go.Ground.phase }, { on := 8, ground := Go.Ground.phase }], guard := none }) (v := ?_) rfl (by kernel_rfl) (by kernel_rfl) (by kernel_rfl) (fun _ _ _ h => h) (Or.inl ⟨by rfl, ?_⟩) (by assumption) ?_
        rotate_left
        · (intro w hSw; (try dsimp only at hSw); go_simp; (try (with_reducible rfl)); done)
        try simp only [Act.put, List.setIfInBounds_toArray, List.set_cons_zero, List.set_cons_succ]
        refine wpAnyH_done (by kernel_rfl) ?_ _
        refine NoPanic.normal ?_
        go_wp2_with fail
        go_meet
        exact ⟨_, rfl, rfl, HZ, HR, HB⟩
      ·
        go_simp
        refine alloc_stepC hK (blk_belowC ((Below.refl _ _).alloc (Nat.le_refl _) _) HR.out) (fun W' hW' hz hHeld => ?_); have hbz := below_of_allocC hW'; have HP := Lib.hid (blk_ltC HR.out); (try have HFP := Lib.hid (HN.out.free _ (Nat.le_refl _))); (try have HN := Lib.hid (HN.out.below hbz)); have HB := Lib.hid (HB.out.trans (hbz.mono HB.out.size)); have HR := Lib.hid (blk_belowC hbz HR.out); have HZ := Lib.hid hz; clear hz hW' hbz
        clear hK K
        try simp only [Act.put, List.setIfInBounds_toArray, List.set_cons_zero, List.set_cons_succ]
        refine wpAnyH_ready (rs := [3]) (by kernel_rfl) (by simp) ?_
        refine AllReadyH.cons (o := { dst := some 28, op := Go.Op.call { callee := Go.Callee.value (Go.Operand.func 20), args := #[Go.Operand.tmp 25, Go.Operand.tmp 26, Go.Operand.tmp 27], argTypes := #[23, 34, 25] }, type := 44, pos := "law.go:64", after := #[{ on := 0, ground := Go.Ground.data }, { on := 1, ground := Go.Ground.data }, { on := 2, ground := Go.Ground.data }, { on := 0, ground := Go.Ground.chain }], guard := none }) rfl (fun K hK => ?_) AllReadyH.nil
        (go_simp; go_at_call 20; refine (HNX.out _ _ _ HB.out HN.out HF0.out).mono ?_; rintro e w' ⟨X', rfl, hb, hK⟩; have HR := Lib.hid (hK.keep _ _ HR.out HFA.out); (try have HZ := Lib.hid (hK.keep _ _ HZ.out HFP.out)); have HB := Lib.hid (HB.out.trans hb); clear hK hb)
        try go_wp2_with fail
        refine hK.out _ _ ?_ (fun hHeld => ?_)
        · (try dsimp only); exact HR.out
        clear hK K
        try simp only [Act.put, List.setIfInBounds_toArray, List.set_cons_zero, List.set_cons_succ]
        refine wpAnyH_take (i := 4) (oi := { dst := some 24, op := Go.Op.move (Go.Operand.tmp 28), type := 44, pos := "law.go:64", after := #[{ on := 3, ground := Go.Ground.data }], guard := none }) (v := ?_) rfl (by kernel_rfl) (by kernel_rfl) (by kernel_rfl) (fun _ _ _ h => h) (Or.inl ⟨by rfl, ?_⟩) (by assumption) ?_
        rotate_left
        · (intro w hSw; (try dsimp only at hSw); go_simp; (try (with_reducible rfl)); done)
        try simp only [Act.put, List.setIfInBounds_toArray, List.set_cons_zero, List.set_cons_succ]
        refine wpAnyH_take (i := 5) (oi := { dst := some 29, op := Go.Op.extract (Go.Operand.tmp 24) 0, type := 34, pos := "law.go:64", after := #[{ on := 4, ground := Go.Ground.data }], guard := none }) (v := ?_) rfl (by kernel_rfl) (by kernel_rfl) (by kernel_rfl) (fun _ _ _ h => h) (Or.inl ⟨by rfl, ?_⟩) (by assumption) ?_
        rotate_left
        · (intro w hSw; (try dsimp only at hSw); go_simp; (try (with_reducible rfl)); done)
        try simp only [Act.put, List.setIfInBounds_toArray, List.set_cons_zero, List.set_cons_succ]
        refine wpAnyH_take (i := 6) (oi := { dst := some 30, op := Go.Op.extract (Go.Operand.tmp 24) 1, type := 30, pos := "law.go:64", after := #[{ on := 4, ground := Go.Ground.data }, { on := 8, ground := Go.Ground.gcOnly Go.Departure.lateStores }], guard := none }) (v := ?_) rfl (by kernel_rfl) (by kernel_rfl) (by kernel_rfl) (fun _ _ _ h => h) (Or.inl ⟨by rfl, ?_⟩) (by assumption) ?_
        rotate_left
        · (intro w hSw; (try dsimp only at hSw); go_simp; (try (with_reducible rfl)); done)
        try simp only [Act.put, List.setIfInBounds_toArray, List.set_cons_zero, List.set_cons_succ]
        refine wpAnyH_ready (rs := [8]) (by kernel_rfl) (by simp) ?_
        refine AllReadyH.cons (o := { dst := none, op := Go.Op.store 34 (Go.Operand.tmp 7) (Go.Operand.tmp 29), type := 0, pos := "law.go:64", after := #[{ on := 7, ground := Go.Ground.data }, { on := 5, ground := Go.Ground.data }, { on := 3, ground := Go.Ground.chain }, { on := 0, ground := Go.Ground.phase }, { on := 1, ground := Go.Ground.phase }, { on := 2, ground := Go.Ground.phase }, { on := 3, ground := Go.Ground.phase }, { on := 4, ground := Go.Ground.phase }, { on := 5, ground := Go.Ground.phase }, { on := 6, ground := Go.Ground.textOnly Go.Departure.lateStores }, { on := 7, ground := Go.Ground.phase }], guard := none }) rfl (fun K hK => ?_) AllReadyH.nil
        (rw [if_pos (by rfl)]; refine wp_store_row _ _ _ rfl _ BD rfl rfl 34 _ HZ.out (by rw [zB]; kernel_rfl) (by rw [zB, z32_sizeC]) oB ?_)
        refine any_stepC hK ((setRow_other _ _ _ BD (Nat.ne_of_lt HP.out)).trans HR.out) (fun W' hW' hHeld => ?_); have HB := Lib.hid (hW'.out ▸ below_setRow HB.out (Nat.le_of_lt HP.out) BD); have HR := Lib.hid (hW'.out ▸ (setRow_other _ _ _ BD (Nat.ne_of_lt HP.out)).trans HR.out); have HZ := Lib.hid (hW'.out ▸ setRow_heap _ _ _ BD 34 (0, 0) HZ.out); clear hW'
        clear hK K
        try simp only [Act.put, List.setIfInBounds_toArray, List.set_cons_zero, List.set_cons_succ]
        refine wpAnyH_take (i := 9) (oi := { dst := some 8, op := Go.Op.assign (Go.Operand.tmp 30), type := 30, pos := "law.go:64", after := #[{ on := 6, ground := Go.Ground.data }, { on := 8, ground := Go.Ground.chain }, { on := 0, ground := Go.Ground.phase }, { on := 1, ground := Go.Ground.phase }, { on := 2, ground := Go.Ground.phase }, { on := 3, ground := Go.Ground.phase }, { on := 4, ground := Go.Ground.phase }, { on := 5, ground := Go.Ground.phase }, { on := 6, ground := Go.Ground.phase }, { on := 7, ground := Go.Ground.phase }, { on := 8, ground := Go.Ground.phase }], guard := none }) (v := ?_) rfl (by kernel_rfl) (by kernel_rfl) (by kernel_rfl) (fun _ _ _ h => h) (Or.inl ⟨by rfl, ?_⟩) (by assumption) ?_
        rotate_left
        · (intro w hSw; (try dsimp only at hSw); go_simp; (try (with_reducible rfl)); done)
        try simp only [Act.put, List.setIfInBounds_toArray, List.set_cons_zero, List.set_cons_succ]
        refine wpAnyH_done (by kernel_rfl) ?_ _
        refine NoPanic.normal ?_
        go_wp2_with fail
        go_meet
        exact ⟨_, rfl, rfl, HZ, HR, HB⟩
    ·
      go_simp
      refine alloc_stepC hK (blk_belowC ((Below.refl _ _).alloc (Nat.le_refl _) _) HR.out) (fun W' hW' hz hHeld => ?_); have hbz := below_of_allocC hW'; have HP := Lib.hid (blk_ltC HR.out); (try have HFP := Lib.hid (HN.out.free _ (Nat.le_refl _))); (try have HN := Lib.hid (HN.out.below hbz)); have HB := Lib.hid (HB.out.trans (hbz.mono HB.out.size)); have HR := Lib.hid (blk_belowC hbz HR.out); have HZ := Lib.hid hz; clear hz hW' hbz
      clear hK K
      try simp only [Act.put, List.setIfInBounds_toArray, List.set_cons_zero, List.set_cons_succ]
      refine wpAnyH_ready (rs := [0]) (by kernel_rfl) (by simp) ?_
      refine AllReadyH.cons (o := { dst := some 25, op := Go.Op.call { callee := Go.Callee.value (Go.Operand.func 9), args := #[], argTypes := #[] }, type := 23, pos := "law.go:64", after := #[], guard := none }) rfl (fun K hK => ?_) AllReadyH.nil
      (go_simp; go_at_call 9; refine (new_y _).mono ?_; rintro e w' ⟨o, X, rfl, hX, hF, hb⟩; have HN := Lib.hid (hX.weak HB.out.size); have HF0 := Lib.hid hF; have HFA := Lib.hid (hX.freeLow _ (blk_ltC HR.out)); (try have HFP := Lib.hid (hX.freeLow _ (blk_ltC HZ.out))); have HR := Lib.hid (blk_belowC hb HR.out); (try have HZ := Lib.hid (blk_belowC hb HZ.out)); have HB := Lib.hid (HB.out.trans (hb.mono HB.out.size)); clear hX hF hb)
      try go_wp2_with fail
      refine hK.out _ _ ?_ (fun hHeld => ?_)
      · (try dsimp only); exact HR.out
      clear hK K
      try simp only [Act.put, List.setIfInBounds_toArray, List.set_cons_zero, List.set_cons_succ]
      refine wpAnyH_ready (rs := [3]) (by kernel_rfl) (by simp) ?_
      refine AllReadyH.cons (o := { dst := some 28, op := Go.Op.call { callee := Go.Callee.value (Go.Operand.func 20), args := #[Go.Operand.tmp 25, Go.Operand.tmp 26, Go.Operand.tmp 27], argTypes := #[23, 34, 25] }, type := 44, pos := "law.go:64", after := #[{ on := 0, ground := Go.Ground.data }, { on := 1, ground := Go.Ground.data }, { on := 2, ground := Go.Ground.data }, { on := 0, ground := Go.Ground.chain }], guard := none }) rfl (fun K hK => ?_) AllReadyH.nil
      (go_simp; go_at_call 20; refine (HNX.out _ _ _ HB.out HN.out HF0.out).mono ?_; rintro e w' ⟨X', rfl, hb, hK⟩; have HR := Lib.hid (hK.keep _ _ HR.out HFA.out); (try have HZ := Lib.hid (hK.keep _ _ HZ.out HFP.out)); have HB := Lib.hid (HB.out.trans hb); clear hK hb)
      try go_wp2_with fail
      refine hK.out _ _ ?_ (fun hHeld => ?_)
      · (try dsimp only); exact HR.out
      clear hK K
      try simp only [Act.put, List.setIfInBounds_toArray, List.set_cons_zero, List.set_cons_succ]
      refine wpAnyH_take (i := 4) (oi := { dst := some 24, op := Go.Op.move (Go.Operand.tmp 28), type := 44, pos := "law.go:64", after := #[{ on := 3, ground := Go.Ground.data }], guard := none }) (v := ?_) rfl (by kernel_rfl) (by kernel_rfl) (by kernel_rfl) (fun _ _ _ h => h) (Or.inl ⟨by rfl, ?_⟩) (by assumption) ?_
      rotate_left
      · (intro w hSw; (try dsimp only at hSw); go_simp; (try (with_reducible rfl)); done)
      try simp only [Act.put, List.setIfInBounds_toArray, List.set_cons_zero, List.set_cons_succ]
      refine wpAnyH_take (i := 5) (oi := { dst := some 29, op := Go.Op.extract (Go.Operand.tmp 24) 0, type := 34, pos := "law.go:64", after := #[{ on := 4, ground := Go.Ground.data }], guard := none }) (v := ?_) rfl (by kernel_rfl) (by kernel_rfl) (by kernel_rfl) (fun _ _ _ h => h) (Or.inl ⟨by rfl, ?_⟩) (by assumption) ?_
      rotate_left
      · (intro w hSw; (try dsimp only at hSw); go_simp; (try (with_reducible rfl)); done)
      try simp only [Act.put, List.setIfInBounds_toArray, List.set_cons_zero, List.set_cons_succ]
      refine wpAnyH_take (i := 6) (oi := { dst := some 30, op := Go.Op.extract (Go.Operand.tmp 24) 1, type := 30, pos := "law.go:64", after := #[{ on := 4, ground := Go.Ground.data }, { on := 8, ground := Go.Ground.gcOnly Go.Departure.lateStores }], guard := none }) (v := ?_) rfl (by kernel_rfl) (by kernel_rfl) (by kernel_rfl) (fun _ _ _ h => h) (Or.inl ⟨by rfl, ?_⟩) (by assumption) ?_
      rotate_left
      · (intro w hSw; (try dsimp only at hSw); go_simp; (try (with_reducible rfl)); done)
      try simp only [Act.put, List.setIfInBounds_toArray, List.set_cons_zero, List.set_cons_succ]
      refine wpAnyH_ready (rs := [8]) (by kernel_rfl) (by simp) ?_
      refine AllReadyH.cons (o := { dst := none, op := Go.Op.store 34 (Go.Operand.tmp 7) (Go.Operand.tmp 29), type := 0, pos := "law.go:64", after := #[{ on := 7, ground := Go.Ground.data }, { on := 5, ground := Go.Ground.data }, { on := 3, ground := Go.Ground.chain }, { on := 0, ground := Go.Ground.phase }, { on := 1, ground := Go.Ground.phase }, { on := 2, ground := Go.Ground.phase }, { on := 3, ground := Go.Ground.phase }, { on := 4, ground := Go.Ground.phase }, { on := 5, ground := Go.Ground.phase }, { on := 6, ground := Go.Ground.textOnly Go.Departure.lateStores }, { on := 7, ground := Go.Ground.phase }], guard := none }) rfl (fun K hK => ?_) AllReadyH.nil
      (rw [if_pos (by rfl)]; refine wp_store_row _ _ _ rfl _ BD rfl rfl 34 _ HZ.out (by rw [zB]; kernel_rfl) (by rw [zB, z32_sizeC]) oB ?_)
      refine any_stepC hK ((setRow_other _ _ _ BD (Nat.ne_of_lt HP.out)).trans HR.out) (fun W' hW' hHeld => ?_); have HB := Lib.hid (hW'.out ▸ below_setRow HB.out (Nat.le_of_lt HP.out) BD); have HR := Lib.hid (hW'.out ▸ (setRow_other _ _ _ BD (Nat.ne_of_lt HP.out)).trans HR.out); have HZ := Lib.hid (hW'.out ▸ setRow_heap _ _ _ BD 34 (0, 0) HZ.out); clear hW'
      clear hK K
      try simp only [Act.put, List.setIfInBounds_toArray, List.set_cons_zero, List.set_cons_succ]
      refine wpAnyH_take (i := 9) (oi := { dst := some 8, op := Go.Op.assign (Go.Operand.tmp 30), type := 30, pos := "law.go:64", after := #[{ on := 6, ground := Go.Ground.data }, { on := 8, ground := Go.Ground.chain }, { on := 0, ground := Go.Ground.phase }, { on := 1, ground := Go.Ground.phase }, { on := 2, ground := Go.Ground.phase }, { on := 3, ground := Go.Ground.phase }, { on := 4, ground := Go.Ground.phase }, { on := 5, ground := Go.Ground.phase }, { on := 6, ground := Go.Ground.phase }, { on := 7, ground := Go.Ground.phase }, { on := 8, ground := Go.Ground.phase }], guard := none }) (v := ?_) rfl (by kernel_rfl) (by kernel_rfl) (by kernel_rfl) (fun _ _ _ h => h) (Or.inl ⟨by rfl, ?_⟩) (by assumption) ?_
      rotate_left
      · (intro w hSw; (try dsimp only at hSw); go_simp; (try (with_reducible rfl)); done)
      try simp only [Act.put, List.setIfInBounds_toArray, List.set_cons_zero, List.set_cons_succ]
      refine wpAnyH_done (by kernel_rfl) ?_ _
      refine NoPanic.normal ?_
      go_wp2_with fail
      go_meet
      exact ⟨_, rfl, rfl, HZ, HR, HB⟩
  case rest =>
    obtain ⟨p, rfl, rfl, HP, HR, HB⟩ := hcut
    have hr := HR.out
    have l0 := OA.out.ld _ _ HR.out
    go_wp2_with ((with_reducible refine wpList_load_arr_i (g := w.heap.size) (cs := DA) 34 _ rfl ?_ ?_ ?_); exact ⟨rfl, rfl⟩; assumption)
    refine (HAL.out _ HB.out).mono ?_
    rintro e w4 ⟨rfl, b4⟩
    have hr4 := blk_belowC b4 HR.out
    have hp4 := blk_belowC b4 HP.out
    have B4 := HB.out.trans (b4.mono HB.out.size)
    clear b4 l0 hr HR HP HB
    obtain ⟨w5, HW5, hc5, b5⟩ := stored_dg w4 CD
    go_upto_region 5 with (refine wpList_store_row rfl _ _ _ rfl w4.heap.size CD rfl rfl 34 _ (heap_alloc_new _ _) (by rw [zC]; kernel_rfl) (by rw [zC, z32_sizeC]) oC ?_)
    rw [HW5.out]
    clear HW5
    have hr5 := blk_belowC b5 hr4
    have hp5 := blk_belowC b5 hp4
    have B5 := B4.trans (b5.mono B4.size)
    clear b5 hr4 hp4 B4
    generalize w4.heap.size = q9 at *
    have l0 := OA.out.ld _ _ hr5
    go_wp2_with ((with_reducible refine wpList_load_arr_i (g := w.heap.size) (cs := DA) 34 _ rfl ?_ ?_ ?_); exact ⟨rfl, rfl⟩; assumption)
    refine (HNO.out _ B5).mono ?_
    rintro e w6 ⟨rfl, b6⟩
    have hr6 := blk_belowC b6 hr5
    have hp6 := blk_belowC b6 hp5
    have hc6 := blk_belowC b6 hc5
    have B6 := B5.trans (b6.mono B5.size)
    clear b6 l0 hr5 hp5 hc5 B5
    obtain ⟨w7, HW7, hn7, b7⟩ := stored_dg w6 DA
    go_upto_region 6 with (refine wpList_store_row rfl _ _ _ rfl w6.heap.size DA rfl rfl 34 _ (heap_alloc_new _ _) (by rw [zA]; kernel_rfl) (by rw [zA, z32_sizeC]) oA ?_)
    rw [HW7.out]
    clear HW7
    have hr7 := blk_belowC b7 hr6
    have hp7 := blk_belowC b7 hp6
    have hc7 := blk_belowC b7 hc6
    have B7 := B6.trans (b7.mono B6.size)
    clear b7 hr6 hp6 hc6 B6
    generalize w6.heap.size = q11 at *
    have l0 := OA.out.ld _ _ hr7
    go_wp2_with ((with_reducible refine wpList_load_arr_i (g := w.heap.size) (cs := DA) 34 _ rfl ?_ ?_ ?_); exact ⟨rfl, rfl⟩; assumption)
    refine (HN1.out _ B7).mono ?_
    rintro e w8 ⟨rfl, b8⟩
    have hr8 := blk_belowC b8 hr7
    have hp8 := blk_belowC b8 hp7
    have hc8 := blk_belowC b8 hc7
    have hn8 := blk_belowC b8 hn7
    have B8 := B7.trans (b8.mono B7.size)
    clear b8 l0 hr7 hp7 hc7 hn7 B7
    obtain ⟨w9, HW9, ht9, b9⟩ := stored_dg w8 BD
    go_upto_region 7 with (refine wpList_store_row rfl _ _ _ rfl w8.heap.size BD rfl rfl 34 _ (heap_alloc_new _ _) (by rw [zB]; kernel_rfl) (by rw [zB, z32_sizeC]) oB ?_)
    rw [HW9.out]
    clear HW9
    have hr9 := blk_belowC b9 hr8
    have hp9 := blk_belowC b9 hp8
    have hc9 := blk_belowC b9 hc8
    have hn9 := blk_belowC b9 hn8
    have HQL : Hid (w.heap.size ≤ w8.heap.size) := Lib.hid B8.size
    have HQ9 : Hid (q9 < w8.heap.size) := Lib.hid (blk_ltC hc8)
    have B9 := B8.trans (b9.mono B8.size)
    clear b9 hr8 hp8 hc8 hn8 B8
    generalize w8.heap.size = q13 at *
    have l0 := OA.out.ld _ _ hr9
    have l1 := OB.out.ld _ _ hp9
    have l2 := OA.out.ld _ _ hn9
    have l3 := OB.out.ld _ _ ht9
    have e1 := OB.out.neq
    have e2 := OA.out.neq
    go_upto_region 9 with (first | ((with_reducible refine wpList_load_arr_i (g := p) (cs := BD) 34 _ rfl ?_ ?_ ?_); exact ⟨rfl, rfl⟩; assumption) | ((with_reducible refine wpList_load_arr_i (g := q13) (cs := BD) 34 _ rfl ?_ ?_ ?_); exact ⟨rfl, rfl⟩; assumption) | ((with_reducible refine wpList_load_arr_i (g := q11) (cs := DA) 34 _ rfl ?_ ?_ ?_); exact ⟨rfl, rfl⟩; assumption) | ((with_reducible refine wpList_load_arr_i (g := w.heap.size) (cs := DA) 34 _ rfl ?_ ?_ ?_); exact ⟨rfl, rfl⟩; assumption))
    clear l0 l1 l2 e2
    go_wp2_with ((with_reducible refine wpList_load_arr_i (g := q13) (cs := BD) 34 _ rfl ?_ ?_ ?_); exact ⟨rfl, rfl⟩; assumption)
    refine (HN2.out _ B9).mono ?_
    rintro e w10 ⟨rfl, b10⟩
    have ht10 := blk_belowC b10 ht9
    have hc10 := blk_belowC b10 hc9
    have B10 := B9.trans (b10.mono B9.size)
    clear b10 l3 hr9 hp9 hc9 hn9 ht9 B9
    go_upto_region 11 with (refine wpList_store_row rfl _ _ _ rfl q13 CD rfl rfl 34 _ ht10 (by rw [zC]; kernel_rfl) (by rw [zC, zB]) oC ?_)
    have ht11 := setRow_heap w10 q13 _ CD 34 (0, 0) ht10
    have hc11 := (setRow_other w10 q13 q9 CD (Nat.ne_of_lt HQ9.out)).trans hc10
    have B11 := below_setRow B10 HQL.out CD
    generalize w10.setRow q13 CD = w11 at *
    clear ht10 hc10 B10
    go_wp2_with fail
    refine (awake14 _ (hG.below B11)).mono ?_
    rintro e w12 ⟨rfl, b12⟩
    have lc := OC.out.ld _ _ (blk_belowC b12 hc11)
    have lt := OC.out.ld _ _ (blk_belowC b12 ht11)
    have ez := OC.out.eql
    go_wp2_with (first | ((with_reducible refine wpList_load_arr_i (g := q9) (cs := CD) 34 _ rfl ?_ ?_ ?_); exact ⟨rfl, rfl⟩; assumption) | ((with_reducible refine wpList_load_arr_i (g := q13) (cs := CD) 34 _ rfl ?_ ?_ ?_); exact ⟨rfl, rfl⟩; assumption))
    go_ret
    exact ⟨rfl, B11.trans (b12.mono B11.size)⟩
section
variable {H : Type} {enc : TypeId × Value → H}
theorem slice_cap3 {t e : TypeId} {a : Option Addr} {len cap : Nat} {d : DataW H} {p : List MemPlace} {w : World} (ht : Tryd.prog.underlying t = some (.slice e)) (h : DataW.Trod enc Tryd.prog w 0 (fun _ => true) true t (.slice a len cap) d p) : len ≤ cap ∧ cap ≤ maxLen := by
  obtain ⟨fuel, hf⟩ := h
  rcases open_slice ht hf with ⟨hcs, _⟩ | ⟨a', len', cap', m, n, D, Pl, hcs, hb, hl, hm, hmm, hx, hi⟩
  · simp [Value.cells] at hcs
    obtain ⟨rfl, rfl, rfl⟩ := hcs
    exact ⟨Nat.le_refl _, Nat.zero_le _⟩
  · simp [Value.cells] at hcs
    obtain ⟨rfl, rfl, rfl⟩ := hcs
    exact ⟨by omega, by omega⟩
theorem open_txt {v : Value} {d : DataW H} {p : List MemPlace} {w : World} (hok : ∃ a len cap, v = .slice a len cap) (h : DataW.Trod enc Tryd.prog w 0 (fun _ => true) true 25 v d p) : ∃ la n c, ∃ L : List ByteArray, v = .slice la n c ∧ n ≤ c ∧ c ≤ maxLen ∧ L.length = n ∧ TxtAt w la L := by
  obtain ⟨a, n, c, rfl⟩ := hok
  have hcp := slice_cap3 Tryd.underlying25 h
  obtain ⟨la, len, lc, hv, hm, hS⟩ := open_strs (P := Tryd.prog) Tryd.underlying25 Tryd.underlying9 (by kernel_rfl) ⟨_, _, _, rfl⟩ h
  cases hv
  obtain ⟨L, hL, hT⟩ := txt_of hS
  exact ⟨_, _, _, L, rfl, hcp.1, hcp.2, hL, hT⟩
set_option maxRecDepth 100000 in
theorem chainNexts_walk {r : Reach} {b0 : Nat} (v0 : Value) (d0 : DataW H) (p0 : List MemPlace) (v1 : Value) (d1 : DataW H) (p1 : List MemPlace) (v2 : Value) (d2 : DataW H) (p2 : List MemPlace) (w : World) (hok0 : Value.okWide Tryd.prog w r b0 34 v0) (h0 : DataW.Trod enc Tryd.prog w 0 (fun _ => true) true 34 v0 d0 p0) (hok1 : ∃ a len cap, v1 = .slice a len cap) (h1 : DataW.Trod enc Tryd.prog w 0 (fun _ => true) true 25 v1 d1 p1) (hok2 : ∃ a len cap, v2 = .slice a len cap) (h2 : DataW.Trod enc Tryd.prog w 0 (fun _ => true) true 25 v2 d2 p2) (hG : Gl w) :
    Calls Tryd.prog 5 #[v0, v1, v2] w fun e w' => e = .returned (.bool true) ∧ Below w.heap.size w w' := by
  obtain ⟨a, ha, rfl⟩ := open_dig hok0 h0
  obtain ⟨la, n, c, L, rfl, hc, _, hn, hT⟩ := open_txt hok1 h1
  obtain ⟨lb, m, d, M, rfl, hd, _, hm, hU⟩ := open_txt hok2 h2
  by_cases hb1 : 100 < n
  · exact chainNexts_big1 a la lb n c m d w hG hb1
  · by_cases hb2 : 100 < m
    · exact chainNexts_big2 a la lb n c m d w hG hb1 hb2
    · cases hL : okB L with
      | false => exact chainNexts_1 a L M la lb n c m d w hG ha hn hc (by omega) hT hm hd (by omega) hU hL
      | true =>
        cases hM : okB M with
        | false => exact chainNexts_2 a L M la lb n c m d w hG ha hn hc (by omega) hT hm hd (by omega) hU hL hM
        | true => exact chainNexts_3 a L M la lb n c m d w hG ha hn hc (by omega) hT hm hd (by omega) hU hL hM
end
end Go.Proofs.YtaneecmfgfkaaaaDoor
