/- Contracts (cellaret): the reference's root (layer 17). -/
import Derived.Test.YtaneecmfgfkaaaaDoorNoQ
namespace Go.Proofs.YtaneecmfgfkaaaaDoor
open Go.RowKit Go.Deep Go.Maps
set_option linter.unusedVariables false
set_option linter.unusedSimpArgs false
theorem nd_txt (a b : List UInt8) : oneB ++ sB a ++ sB b = sB (ndT a b) := by
  have : oneB = sB [1] := rfl
  rw [this, sB_app, sB_app]
  rfl
theorem oneB_size : oneB.size = 1 := rfl
theorem nd_add1 (a : List UInt8) (ha : a.length = 32) (V : World) : (Op.stringOp .add (⟨#[1]⟩ : ByteArray) (sB a)).run Tryd.prog V = .ok (.string (oneB ++ sB a)) V := run_string_add_sum V oneB (sB a) (by rw [oneB_size, sB_size, ha]; omega)
theorem nd_add2 (a b : List UInt8) (ha : a.length = 32) (hb : b.length = 32) (V : World) : (Op.stringOp .add (oneB ++ sB a) (sB b)).run Tryd.prog V = .ok (.string (sB (ndT a b))) V := by
  rw [← nd_txt]
  exact run_string_add_sum V _ _ (by rw [ByteArray.size_append, oneB_size, sB_size, sB_size, ha, hb]; omega)
theorem nd_sum (a b : List UInt8) (ha : a.length = 32) (hb : b.length = 32) (w : World) (hG : Gl w) : Calls Tryd.prog 14 #[.string (sB (ndT a b))] w fun e w' => e = .returned (.agg (digA (ndL a b))) ∧ Below w.heap.size w w' := by
  have h := sum_any (sB (ndT a b)) w (by rw [← nd_txt, ByteArray.size_append, ByteArray.size_append, oneB_size, sB_size, sB_size, ha, hb]; omega) hG
  rw [sB_list] at h
  exact h
theorem conv_dgN (l : List UInt8) (h : l.length = 32) : ∀ (w2 : World) (q : Nat), w2.heap[q]? = some (.cells (digA l) 34 (0, 0)) → (convert 65 9 (.slice (some ⟨q, 0, none⟩) 32 32)).run Tryd.prog w2 = .ok (.string (sB l)) w2 := fun w2 q hh => conv_dig hh h
theorem made_zN (w : World) : ∃ w1, Hid (w.alloc (.cells z32 34) = w1) ∧ w1.heap[w.heap.size]? = some (.cells z32 34 (0, 0)) ∧ Below w.heap.size w w1 := ⟨_, Lib.hid rfl, heap_alloc_new _ _, (Below.refl _ _).alloc (Nat.le_refl _) _⟩
theorem blk_belowN {w w' : World} {b : Nat} {o : Obj} (hb : Below w.heap.size w w') (hz : w.heap[b]? = some o) : w'.heap[b]? = some o := (hb.block b (Array.getElem?_eq_some_iff.1 hz).1).trans hz
theorem blk_ltN {w : World} {b : Nat} {o : Obj} (hz : w.heap[b]? = some o) : b < w.heap.size := (Array.getElem?_eq_some_iff.1 hz).1
theorem below_of_alloc {W W' : World} {o : Obj} (h : Hid (W' = W.alloc o)) : Below W.heap.size W W' := by rw [h.out]; exact (Below.refl _ _).alloc (Nat.le_refl _) _
attribute [local irreducible] digA sumL z32 sB bv rootD oneB
set_option maxRecDepth 100000 in
set_option maxHeartbeats 8000000 in
theorem lawRoot_zero (L : List (List UInt8)) (g o c : Nat) (w : World) (hL : L.length = 1) (h32 : ∀ x ∈ L, x.length = 32) (hr : ∀ i (hi : i < L.length), w.rangeAt g (o + i * 32) (bv L[i])) (hg : g < w.heap.size) (hc : 1 ≤ c) :
    Calls Tryd.prog 26 #[.slice (some ⟨g, o, none⟩) 1 c] w fun e w' => e = .returned (.agg (digA (rootD 0 L))) ∧ Below w.heap.size w w' := by
  have hz := zero_dig
  have e0 : rootD 0 L = L[0] := by with_unfolding_all exact dg_at L 0 (by omega)
  obtain ⟨w1, HW1, hr1, B1⟩ := made_zN w
  have h0 := range_below (hr 0 (by omega)) B1 hg
  have l0 := h32 L[0] (List.getElem_mem (by omega))
  rw [e0]
  have HBD : Hid ((bv L[0]).toArray = digA L[0]) := Lib.hid (by with_unfolding_all rfl)
  have HBL : Hid ((bv L[0]).length = 32) := Lib.hid ((bv_len _).trans l0)
  have hdz : (digA L[0]).size = 32 := by with_unfolding_all (rw [digA_size, l0])
  have hone : (digA L[0]).all (·.oneCell') = true := by with_unfolding_all exact digA_one _
  clear e0 hr h32 l0
  generalize bv (L[0]'(by omega)) = BV at *
  obtain ⟨DN, HDN⟩ : ∃ DN, Hid (digA (L[0]'(by omega)) = DN) := ⟨_, Lib.hid rfl⟩
  rw [HDN.out] at HBD hdz hone ⊢
  clear HDN hL
  go_enter Tryd.func26, Tryd.ntmps26
  go_upto_region 1 with fail
  rw [HW1.out]
  clear HW1
  go_wp2_with (first | (refine wpList_load_mid rfl 34 _ rfl g (o + 0 * 32) rfl BV _ h0 Tryd.underlying34 rfl (by rw [HBL.out]; kernel_rfl) ?_; rw [HBD.out]) | (refine wpList_store_row rfl _ _ _ rfl w.heap.size DN rfl rfl 34 _ hr1 (by rw [hdz]; kernel_rfl) (by rw [hdz, z32_size']) hone ?_))
  refine bodyPost_ret_by (results_cell_row rfl _ _ w.heap.size 34 DN (0, 0) _ rfl (setRow_heap _ _ _ DN 34 (0, 0) hr1) Tryd.underlying34 rfl (by rw [hdz]; kernel_rfl)) rfl ⟨rfl, ?_⟩
  exact below_setRow B1 (Nat.le_refl _) _
/-- What root tells of 2 ^ k sums. -/
def RootAt (k : Nat) : Prop := ∀ (L : List (List UInt8)) (g o c : Nat) (w : World), Gl w → L.length = 2 ^ k → (∀ x ∈ L, x.length = 32) → (∀ i (hi : i < L.length), w.rangeAt g (o + i * 32) (bv L[i])) → g < w.heap.size → 2 ^ k ≤ c → c ≤ 9223372036854775807 → Calls Tryd.prog 26 #[.slice (some ⟨g, o, none⟩) (2 ^ k) c] w fun e w' => e = .returned (.agg (digA (rootD k L))) ∧ Below w.heap.size w w'
set_option maxRecDepth 100000 in
set_option maxHeartbeats 16000000 in
theorem lawRoot_succ (k : Nat) (hk6 : k < 6) (ih : RootAt k) (L : List (List UInt8)) (g o c : Nat) (w : World) (hG : Gl w) (hL : L.length = 2 ^ (k + 1)) (h32 : ∀ x ∈ L, x.length = 32) (hr : ∀ i (hi : i < L.length), w.rangeAt g (o + i * 32) (bv L[i])) (hg : g < w.heap.size) (hc : 2 ^ (k + 1) ≤ c) (hcm : c ≤ 9223372036854775807) :
    Calls Tryd.prog 26 #[.slice (some ⟨g, o, none⟩) (2 ^ (k + 1)) c] w fun e w' => e = .returned (.agg (digA (rootD (k + 1) L))) ∧ Below w.heap.size w w' := by
  have hz := zero_dig
  have hM1 : 1 ≤ 2 ^ k := Nat.one_le_two_pow
  have hM32 : 2 ^ k ≤ 32 := by
    rcases (show k = 0 ∨ k = 1 ∨ k = 2 ∨ k = 3 ∨ k = 4 ∨ k = 5 by omega) with rfl | rfl | rfl | rfl | rfl | rfl <;> decide
  have hNM : 2 ^ (k + 1) = 2 ^ k + 2 ^ k := by rw [Nat.pow_succ]; omega
  have HIA : Hid (∀ wc, Below w.heap.size w wc → Calls Tryd.prog 26 #[.slice (some ⟨g, o, none⟩) (2 ^ k) c] wc fun e w' => e = .returned (.agg (digA (rootD k (L.take (2 ^ k))))) ∧ Below wc.heap.size wc w') := Lib.hid (fun wc hb =>
    ih (L.take (2 ^ k)) g o c wc (hG.below hb) (by rw [List.length_take]; omega) (fun x hx => h32 x (List.mem_of_mem_take hx)) (fun i hi => by
      have hi' : i < L.length := by rw [List.length_take] at hi; omega
      rw [List.getElem_take]
      exact range_below (hr i hi') hb hg) (Nat.lt_of_lt_of_le hg hb.size) (by omega) hcm)
  have HIB : Hid (∀ wc, Below w.heap.size w wc → Calls Tryd.prog 26 #[.slice (some ⟨g, o + 2 ^ k * 32, none⟩) (2 ^ k) (c - 2 ^ k)] wc fun e w' => e = .returned (.agg (digA (rootD k (L.drop (2 ^ k))))) ∧ Below wc.heap.size wc w') := Lib.hid (fun wc hb =>
    ih (L.drop (2 ^ k)) g (o + 2 ^ k * 32) (c - 2 ^ k) wc (hG.below hb) (by rw [List.length_drop]; omega) (fun x hx => h32 x (List.mem_of_mem_drop hx)) (fun i hi => by
      have hi' : 2 ^ k + i < L.length := by rw [List.length_drop] at hi; omega
      rw [List.getElem_drop]
      have := range_below (hr (2 ^ k + i) hi') hb hg
      rw [show o + 2 ^ k * 32 + i * 32 = o + (2 ^ k + i) * 32 from by omega]
      exact this) (Nat.lt_of_lt_of_le hg hb.size) (by omega) (by omega))
  have LA := rootD_len (L.take (2 ^ k)) (fun x hx => h32 x (List.mem_of_mem_take hx)) k (by rw [List.length_take]; omega)
  have LB := rootD_len (L.drop (2 ^ k)) (fun x hx => h32 x (List.mem_of_mem_drop hx)) k (by rw [List.length_drop]; omega)
  have eN : rootD (k + 1) L = ndL (rootD k (L.take (2 ^ k))) (rootD k (L.drop (2 ^ k))) := by with_unfolding_all rfl
  rw [eN]
  clear eN hr h32 hL ih
  generalize rootD k (L.take (2 ^ k)) = A at *
  generalize rootD k (L.drop (2 ^ k)) = B at *
  generalize 2 ^ (k + 1) = N at *
  generalize 2 ^ k = M at *
  have zA : (digA A).size = 32 := by with_unfolding_all (rw [digA_size, LA])
  have zB : (digA B).size = 32 := by with_unfolding_all (rw [digA_size, LB])
  have zN : (digA (ndL A B)).size = 32 := by with_unfolding_all (rw [digA_size, ndL_len])
  have oA : (digA A).all (·.oneCell') = true := by with_unfolding_all exact digA_one _
  have oB : (digA B).all (·.oneCell') = true := by with_unfolding_all exact digA_one _
  have oN : (digA (ndL A B)).all (·.oneCell') = true := by with_unfolding_all exact digA_one _
  have HCA := Lib.hid (conv_dgN A LA)
  have HCB := Lib.hid (conv_dgN B LB)
  have HA1 := Lib.hid (nd_add1 A LA)
  have HA2 := Lib.hid (nd_add2 A B LA LB)
  have HSU := Lib.hid (nd_sum A B LA LB)
  clear LA LB
  obtain ⟨DN, HDN⟩ : ∃ DN, Hid (digA (ndL A B) = DN) := ⟨_, Lib.hid rfl⟩
  rw [HDN.out] at HSU zN oN ⊢
  clear HDN
  generalize digA A = DA at *
  generalize digA B = DB at *
  generalize sB (ndT A B) = tN at *
  generalize sB A = sA at *
  generalize sB B = sb at *
  generalize oneB ++ sA = nA at *
  obtain ⟨w1, HW1, hr1, B1⟩ := made_zN w
  have e1 : ((N : Int) == 1) = false := by rw [beq_eq_false_iff_ne]; omega
  have hdiv : (N : Int) / 2 = (M : Int) := by omega
  have hMN : (M : Int) ≤ (N : Int) := by omega
  have hNc : (N : Int) ≤ (c : Int) := by omega
  have hMN' : M ≤ N := by omega
  have hMc : M ≤ c := by omega
  have hNc' : N ≤ c := by omega
  have hcM : ¬ c = M := by omega
  have hNM' : N - M = M := by omega
  have hNM2 : (N : Int) - (M : Int) = (M : Int) := by omega
  have h0M : 0 ≤ (M : Int) := by omega
  have wrM : IntKind.i64.wrap (M : Int) = (M : Int) := wrap64 _ (by omega) (by omega)
  have HNM := Lib.hid hNM
  clear hNM
  go_enter Tryd.func26, Tryd.ntmps26
  go_upto_region 1 with fail
  rw [HW1.out]
  clear HW1
  go_upto_region 4 with fail
  go_cut [4, 5] from 15 (fun s4 s5 wx => ∃ p4 p5, s4 = .pointer (some ⟨p4, 0, none⟩) ∧ s5 = .pointer (some ⟨p5, 0, none⟩) ∧ Hid (wx.heap[p4]? = some (.cells DA 34 (0, 0))) ∧ Hid (wx.heap[p5]? = some (.cells DB 34 (0, 0))) ∧ Hid (wx.heap[w.heap.size]? = some (.cells z32 34 (0, 0))) ∧ Hid (Below w.heap.size w wx))
  case first =>
    have HB := Lib.hid B1.drew
    have HR := Lib.hid (show w1.drew.heap[w.heap.size]? = some (.cells z32 34 (0, 0)) from hr1)
    clear hr1 B1
    refine wp_region_noPanic ?_
    refine wp_region_held_drew (S := (fun _ => True)) (by kernel_rfl) ?_ (fun hHeld => ?_)
    · (try dsimp only); try trivial
    generalize World.drew w1 = wd at *
    refine wpAnyH_take (i := 0) (oi := { dst := some 15, op := Go.Op.move (Go.Operand.tmp 0), type := 54, pos := "law.go:96", after := #[], guard := none }) (v := ?_) rfl (by kernel_rfl) (by kernel_rfl) (by kernel_rfl) (fun _ _ _ h => h) (Or.inl ⟨by rfl, ?_⟩) (by assumption) ?_
    rotate_left
    · (intro w hSw; (try dsimp only at hSw); go_simp; (try (with_reducible rfl)); done)
    try simp only [Act.put, List.setIfInBounds_toArray, List.set_cons_zero, List.set_cons_succ]
    refine wpAnyH_take (i := 1) (oi := { dst := some 16, op := Go.Op.move (Go.Operand.tmp 3), type := 3, pos := "law.go:96", after := #[], guard := none }) (v := ?_) rfl (by kernel_rfl) (by kernel_rfl) (by kernel_rfl) (fun _ _ _ h => h) (Or.inl ⟨by rfl, ?_⟩) (by assumption) ?_
    rotate_left
    · (intro w hSw; (try dsimp only at hSw); go_simp; (try (with_reducible rfl)); done)
    try simp only [Act.put, List.setIfInBounds_toArray, List.set_cons_zero, List.set_cons_succ]
    refine wpAnyH_take (i := 2) (oi := { dst := some 17, op := Go.Op.slice 54 (Go.Operand.tmp 15) none (some (Go.Operand.tmp 16)) none, type := 54, pos := "law.go:96", after := #[{ on := 0, ground := Go.Ground.data }, { on := 1, ground := Go.Ground.data }], guard := none }) (v := ?_) rfl (by kernel_rfl) (by kernel_rfl) (by kernel_rfl) (fun _ _ _ h => h) (Or.inl ⟨by rfl, ?_⟩) (by assumption) ?_
    rotate_left
    · (intro w hSw; (try dsimp only at hSw); go_simp; (try (with_reducible rfl)); done)
    try simp only [Act.put, List.setIfInBounds_toArray, List.set_cons_zero, List.set_cons_succ]
    refine wpAnyH_take (i := 4) (oi := { dst := some 19, op := Go.Op.move (Go.Operand.tmp 0), type := 54, pos := "law.go:96", after := #[], guard := none }) (v := ?_) rfl (by kernel_rfl) (by kernel_rfl) (by kernel_rfl) (fun _ _ _ h => h) (Or.inl ⟨by rfl, ?_⟩) (by assumption) ?_
    rotate_left
    · (intro w hSw; (try dsimp only at hSw); go_simp; (try (with_reducible rfl)); done)
    try simp only [Act.put, List.setIfInBounds_toArray, List.set_cons_zero, List.set_cons_succ]
    refine wpAnyH_take (i := 5) (oi := { dst := some 20, op := Go.Op.move (Go.Operand.tmp 3), type := 3, pos := "law.go:96", after := #[], guard := none }) (v := ?_) rfl (by kernel_rfl) (by kernel_rfl) (by kernel_rfl) (fun _ _ _ h => h) (Or.inl ⟨by rfl, ?_⟩) (by assumption) ?_
    rotate_left
    · (intro w hSw; (try dsimp only at hSw); go_simp; (try (with_reducible rfl)); done)
    try simp only [Act.put, List.setIfInBounds_toArray, List.set_cons_zero, List.set_cons_succ]
    refine wpAnyH_take (i := 6) (oi := { dst := some 21, op := Go.Op.slice 54 (Go.Operand.tmp 19) (some (Go.Operand.tmp 20)) none none, type := 54, pos := "law.go:96", after := #[{ on := 4, ground := Go.Ground.data }, { on := 5, ground := Go.Ground.data }], guard := none }) (v := ?_) rfl (by kernel_rfl) (by kernel_rfl) (by kernel_rfl) (fun _ _ _ h => h) (Or.inl ⟨by rfl, ?_⟩) (by assumption) ?_
    rotate_left
    · (intro w hSw; (try dsimp only at hSw); go_simp; (try (with_reducible rfl)); done)
    try simp only [Act.put, List.setIfInBounds_toArray, List.set_cons_zero, List.set_cons_succ]
    refine wpAnyH_ready (rs := [3, 8, 9]) (by kernel_rfl) (by simp) ?_
    refine AllReadyH.cons (o := { dst := some 18, op := Go.Op.call { callee := Go.Callee.value (Go.Operand.func 26), args := #[Go.Operand.tmp 17], argTypes := #[54] }, type := 34, pos := "law.go:96", after := #[{ on := 2, ground := Go.Ground.data }], guard := none }) rfl (fun K hK => ?_) (AllReadyH.cons (o := { dst := some 4, op := Go.Op.alloc 34, type := 0, pos := "law.go:96", after := #[], guard := none }) rfl (fun K hK => ?_) (AllReadyH.cons (o := { dst := some 5, op := Go.Op.alloc 34, type := 0, pos := "law.go:96", after := #[], guard := none }) rfl (fun K hK => ?_) AllReadyH.nil))
    ·
      (go_simp; go_at_call 26; refine (HIA.out _ HB.out).mono ?_; rintro e w' ⟨rfl, hb⟩; have HB := Lib.hid (HB.out.trans (hb.mono HB.out.size)); have HR := Lib.hid (blk_belowN hb HR.out); (try have HZ4 := Lib.hid (blk_belowN hb HZ4.out)); (try have HZ5 := Lib.hid (blk_belowN hb HZ5.out)))
      try go_wp2_with fail
      refine hK.out _ _ ?_ (fun hHeld => ?_)
      · (try dsimp only); try trivial
      clear hK K
      try simp only [Act.put, List.setIfInBounds_toArray, List.set_cons_zero, List.set_cons_succ]
      refine wpAnyH_ready (rs := [7, 8, 9]) (by kernel_rfl) (by simp) ?_
      refine AllReadyH.cons (o := { dst := some 22, op := Go.Op.call { callee := Go.Callee.value (Go.Operand.func 26), args := #[Go.Operand.tmp 21], argTypes := #[54] }, type := 34, pos := "law.go:96", after := #[{ on := 6, ground := Go.Ground.data }, { on := 3, ground := Go.Ground.chain }], guard := none }) rfl (fun K hK => ?_) (AllReadyH.cons (o := { dst := some 4, op := Go.Op.alloc 34, type := 0, pos := "law.go:96", after := #[], guard := none }) rfl (fun K hK => ?_) (AllReadyH.cons (o := { dst := some 5, op := Go.Op.alloc 34, type := 0, pos := "law.go:96", after := #[], guard := none }) rfl (fun K hK => ?_) AllReadyH.nil))
      ·
        (go_simp; go_at_call 26; refine (HIB.out _ HB.out).mono ?_; rintro e w' ⟨rfl, hb⟩; have HB := Lib.hid (HB.out.trans (hb.mono HB.out.size)); have HR := Lib.hid (blk_belowN hb HR.out); (try have HZ4 := Lib.hid (blk_belowN hb HZ4.out)); (try have HZ5 := Lib.hid (blk_belowN hb HZ5.out)))
        try go_wp2_with fail
        refine hK.out _ _ ?_ (fun hHeld => ?_)
        · (try dsimp only); try trivial
        clear hK K
        try simp only [Act.put, List.setIfInBounds_toArray, List.set_cons_zero, List.set_cons_succ]
        refine wpAnyH_ready (rs := [8, 9]) (by kernel_rfl) (by simp) ?_
        refine AllReadyH.cons (o := { dst := some 4, op := Go.Op.alloc 34, type := 0, pos := "law.go:96", after := #[], guard := none }) rfl (fun K hK => ?_) (AllReadyH.cons (o := { dst := some 5, op := Go.Op.alloc 34, type := 0, pos := "law.go:96", after := #[], guard := none }) rfl (fun K hK => ?_) AllReadyH.nil)
        ·
          go_simp
          refine alloc_step hK trivial (fun W' hW' hz hHeld => ?_); have HP4 := Lib.hid (blk_ltN HR.out); (try have HNE := Lib.hid (Nat.ne_of_gt (blk_ltN HZ5.out))); have hbz := below_of_alloc hW'; have HB := Lib.hid (HB.out.trans (hbz.mono HB.out.size)); have HR := Lib.hid (blk_belowN hbz HR.out); (try have HZ5 := Lib.hid (blk_belowN hbz HZ5.out)); have HZ4 := Lib.hid hz; clear hz hW' hbz
          clear hK K
          try simp only [Act.put, List.setIfInBounds_toArray, List.set_cons_zero, List.set_cons_succ]
          refine wpAnyH_ready (rs := [9]) (by kernel_rfl) (by simp) ?_
          refine AllReadyH.cons (o := { dst := some 5, op := Go.Op.alloc 34, type := 0, pos := "law.go:96", after := #[], guard := none }) rfl (fun K hK => ?_) AllReadyH.nil
          go_simp
          refine alloc_step hK trivial (fun W' hW' hz hHeld => ?_); have HP5 := Lib.hid (blk_ltN HR.out); (try have HNE := Lib.hid (Nat.ne_of_lt (blk_ltN HZ4.out))); have hbz := below_of_alloc hW'; have HB := Lib.hid (HB.out.trans (hbz.mono HB.out.size)); have HR := Lib.hid (blk_belowN hbz HR.out); (try have HZ4 := Lib.hid (blk_belowN hbz HZ4.out)); have HZ5 := Lib.hid hz; clear hz hW' hbz
          clear hK K
          try simp only [Act.put, List.setIfInBounds_toArray, List.set_cons_zero, List.set_cons_succ]
          refine wpAnyH_ready (rs := [10]) (by kernel_rfl) (by simp) ?_
          refine AllReadyH.cons (o := { dst := none, op := Go.Op.store 34 (Go.Operand.tmp 4) (Go.Operand.tmp 18), type := 0, pos := "law.go:96", after := #[{ on := 8, ground := Go.Ground.data }, { on := 3, ground := Go.Ground.data }, { on := 7, ground := Go.Ground.chain }, { on := 0, ground := Go.Ground.phase }, { on := 1, ground := Go.Ground.phase }, { on := 2, ground := Go.Ground.phase }, { on := 3, ground := Go.Ground.phase }, { on := 4, ground := Go.Ground.textOnly Go.Departure.lateStores }, { on := 5, ground := Go.Ground.textOnly Go.Departure.lateStores }, { on := 6, ground := Go.Ground.textOnly Go.Departure.lateStoresUnsure }, { on := 7, ground := Go.Ground.phase }, { on := 8, ground := Go.Ground.phase }, { on := 9, ground := Go.Ground.phase }], guard := none }) rfl (fun K hK => ?_) AllReadyH.nil
          (rw [if_pos (by rfl)]; refine wp_store_row _ _ _ rfl _ DA rfl rfl 34 _ HZ4.out (by rw [zA]; kernel_rfl) (by rw [zA, z32_size']) oA ?_)
          refine any_step hK trivial (fun W' hW' hHeld => ?_); have HB := Lib.hid (hW'.out ▸ below_setRow HB.out (Nat.le_of_lt HP4.out) DA); have HR := Lib.hid (hW'.out ▸ (setRow_other _ _ _ DA (Nat.ne_of_lt HP4.out)).trans HR.out); have HZ5 := Lib.hid (hW'.out ▸ (setRow_other _ _ _ DA (Ne.symm HNE.out)).trans HZ5.out); have HZ4 := Lib.hid (hW'.out ▸ setRow_heap _ _ _ DA 34 (0, 0) HZ4.out); clear hW'
          clear hK K
          try simp only [Act.put, List.setIfInBounds_toArray, List.set_cons_zero, List.set_cons_succ]
          refine wpAnyH_ready (rs := [11]) (by kernel_rfl) (by simp) ?_
          refine AllReadyH.cons (o := { dst := none, op := Go.Op.store 34 (Go.Operand.tmp 5) (Go.Operand.tmp 22), type := 0, pos := "law.go:96", after := #[{ on := 9, ground := Go.Ground.data }, { on := 7, ground := Go.Ground.data }, { on := 10, ground := Go.Ground.chain }, { on := 0, ground := Go.Ground.phase }, { on := 1, ground := Go.Ground.phase }, { on := 2, ground := Go.Ground.phase }, { on := 3, ground := Go.Ground.phase }, { on := 4, ground := Go.Ground.phase }, { on := 5, ground := Go.Ground.phase }, { on := 6, ground := Go.Ground.phase }, { on := 7, ground := Go.Ground.phase }, { on := 8, ground := Go.Ground.phase }, { on := 9, ground := Go.Ground.phase }, { on := 10, ground := Go.Ground.phase }], guard := none }) rfl (fun K hK => ?_) AllReadyH.nil
          (rw [if_pos (by rfl)]; refine wp_store_row _ _ _ rfl _ DB rfl rfl 34 _ HZ5.out (by rw [zB]; kernel_rfl) (by rw [zB, z32_size']) oB ?_)
          refine any_step hK trivial (fun W' hW' hHeld => ?_); have HB := Lib.hid (hW'.out ▸ below_setRow HB.out (Nat.le_of_lt HP5.out) DB); have HR := Lib.hid (hW'.out ▸ (setRow_other _ _ _ DB (Nat.ne_of_lt HP5.out)).trans HR.out); have HZ4 := Lib.hid (hW'.out ▸ (setRow_other _ _ _ DB HNE.out).trans HZ4.out); have HZ5 := Lib.hid (hW'.out ▸ setRow_heap _ _ _ DB 34 (0, 0) HZ5.out); clear hW'
          clear hK K
          try simp only [Act.put, List.setIfInBounds_toArray, List.set_cons_zero, List.set_cons_succ]
          refine wpAnyH_done (by kernel_rfl) ?_ _
          refine NoPanic.normal ?_
          go_wp2_with fail
          go_meet
          exact ⟨_, _, rfl, rfl, HZ4, HZ5, HR, HB⟩
        ·
          go_simp
          refine alloc_step hK trivial (fun W' hW' hz hHeld => ?_); have HP5 := Lib.hid (blk_ltN HR.out); (try have HNE := Lib.hid (Nat.ne_of_lt (blk_ltN HZ4.out))); have hbz := below_of_alloc hW'; have HB := Lib.hid (HB.out.trans (hbz.mono HB.out.size)); have HR := Lib.hid (blk_belowN hbz HR.out); (try have HZ4 := Lib.hid (blk_belowN hbz HZ4.out)); have HZ5 := Lib.hid hz; clear hz hW' hbz
          clear hK K
          try simp only [Act.put, List.setIfInBounds_toArray, List.set_cons_zero, List.set_cons_succ]
          refine wpAnyH_ready (rs := [8]) (by kernel_rfl) (by simp) ?_
          refine AllReadyH.cons (o := { dst := some 4, op := Go.Op.alloc 34, type := 0, pos := "law.go:96", after := #[], guard := none }) rfl (fun K hK => ?_) AllReadyH.nil
          go_simp
          refine alloc_step hK trivial (fun W' hW' hz hHeld => ?_); have HP4 := Lib.hid (blk_ltN HR.out); (try have HNE := Lib.hid (Nat.ne_of_gt (blk_ltN HZ5.out))); have hbz := below_of_alloc hW'; have HB := Lib.hid (HB.out.trans (hbz.mono HB.out.size)); have HR := Lib.hid (blk_belowN hbz HR.out); (try have HZ5 := Lib.hid (blk_belowN hbz HZ5.out)); have HZ4 := Lib.hid hz; clear hz hW' hbz
          clear hK K
          try simp only [Act.put, List.setIfInBounds_toArray, List.set_cons_zero, List.set_cons_succ]
          refine wpAnyH_ready (rs := [10]) (by kernel_rfl) (by simp) ?_
          refine AllReadyH.cons (o := { dst := none, op := Go.Op.store 34 (Go.Operand.tmp 4) (Go.Operand.tmp 18), type := 0, pos := "law.go:96", after := #[{ on := 8, ground := Go.Ground.data }, { on := 3, ground := Go.Ground.data }, { on := 7, ground := Go.Ground.chain }, { on := 0, ground := Go.Ground.phase }, { on := 1, ground := Go.Ground.phase }, { on := 2, ground := Go.Ground.phase }, { on := 3, ground := Go.Ground.phase }, { on := 4, ground := Go.Ground.textOnly Go.Departure.lateStores }, { on := 5, ground := Go.Ground.textOnly Go.Departure.lateStores }, { on := 6, ground := Go.Ground.textOnly Go.Departure.lateStoresUnsure }, { on := 7, ground := Go.Ground.phase }, { on := 8, ground := Go.Ground.phase }, { on := 9, ground := Go.Ground.phase }], guard := none }) rfl (fun K hK => ?_) AllReadyH.nil
          (rw [if_pos (by rfl)]; refine wp_store_row _ _ _ rfl _ DA rfl rfl 34 _ HZ4.out (by rw [zA]; kernel_rfl) (by rw [zA, z32_size']) oA ?_)
          refine any_step hK trivial (fun W' hW' hHeld => ?_); have HB := Lib.hid (hW'.out ▸ below_setRow HB.out (Nat.le_of_lt HP4.out) DA); have HR := Lib.hid (hW'.out ▸ (setRow_other _ _ _ DA (Nat.ne_of_lt HP4.out)).trans HR.out); have HZ5 := Lib.hid (hW'.out ▸ (setRow_other _ _ _ DA (Ne.symm HNE.out)).trans HZ5.out); have HZ4 := Lib.hid (hW'.out ▸ setRow_heap _ _ _ DA 34 (0, 0) HZ4.out); clear hW'
          clear hK K
          try simp only [Act.put, List.setIfInBounds_toArray, List.set_cons_zero, List.set_cons_succ]
          refine wpAnyH_ready (rs := [11]) (by kernel_rfl) (by simp) ?_
          refine AllReadyH.cons (o := { dst := none, op := Go.Op.store 34 (Go.Operand.tmp 5) (Go.Operand.tmp 22), type := 0, pos := "law.go:96", after := #[{ on := 9, ground := Go.Ground.data }, { on := 7, ground := Go.Ground.data }, { on := 10, ground := Go.Ground.chain }, { on := 0, ground := Go.Ground.phase }, { on := 1, ground := Go.Ground.phase }, { on := 2, ground := Go.Ground.phase }, { on := 3, ground := Go.Ground.phase }, { on := 4, ground := Go.Ground.phase }, { on := 5, ground := Go.Ground.phase }, { on := 6, ground := Go.Ground.phase }, { on := 7, ground := Go.Ground.phase }, { on := 8, ground := Go.Ground.phase }, { on := 9, ground := Go.Ground.phase }, { on := 10, ground := Go.Ground.phase }], guard := none }) rfl (fun K hK => ?_) AllReadyH.nil
          (rw [if_pos (by rfl)]; refine wp_store_row _ _ _ rfl _ DB rfl rfl 34 _ HZ5.out (by rw [zB]; kernel_rfl) (by rw [zB, z32_size']) oB ?_)
          refine any_step hK trivial (fun W' hW' hHeld => ?_); have HB := Lib.hid (hW'.out ▸ below_setRow HB.out (Nat.le_of_lt HP5.out) DB); have HR := Lib.hid (hW'.out ▸ (setRow_other _ _ _ DB (Nat.ne_of_lt HP5.out)).trans HR.out); have HZ4 := Lib.hid (hW'.out ▸ (setRow_other _ _ _ DB HNE.out).trans HZ4.out); have HZ5 := Lib.hid (hW'.out ▸ setRow_heap _ _ _ DB 34 (0, 0) HZ5.out); clear hW'
          clear hK K
          try simp only [Act.put, List.setIfInBounds_toArray, List.set_cons_zero, List.set_cons_succ]
          refine wpAnyH_done (by kernel_rfl) ?_ _
          refine NoPanic.normal ?_
          go_wp2_with fail
          go_meet
          exact ⟨_, _, rfl, rfl, HZ4, HZ5, HR, HB⟩
      ·
        go_simp
        refine alloc_step hK trivial (fun W' hW' hz hHeld => ?_); have HP4 := Lib.hid (blk_ltN HR.out); (try have HNE := Lib.hid (Nat.ne_of_gt (blk_ltN HZ5.out))); have hbz := below_of_alloc hW'; have HB := Lib.hid (HB.out.trans (hbz.mono HB.out.size)); have HR := Lib.hid (blk_belowN hbz HR.out); (try have HZ5 := Lib.hid (blk_belowN hbz HZ5.out)); have HZ4 := Lib.hid hz; clear hz hW' hbz
        clear hK K
        try simp only [Act.put, List.setIfInBounds_toArray, List.set_cons_zero, List.set_cons_succ]
        refine wpAnyH_ready (rs := [7, 9]) (by kernel_rfl) (by simp) ?_
        refine AllReadyH.cons (o := { dst := some 22, op := Go.Op.call { callee := Go.Callee.value (Go.Operand.func 26), args := #[Go.Operand.tmp 21], argTypes := #[54] }, type := 34, pos := "law.go:96", after := #[{ on := 6, ground := Go.Ground.data }, { on := 3, ground := Go.Ground.chain }], guard := none }) rfl (fun K hK => ?_) (AllReadyH.cons (o := { dst := some 5, op := Go.Op.alloc 34, type := 0, pos := "law.go:96", after := #[], guard := none }) rfl (fun K hK => ?_) AllReadyH.nil)
        ·
          (go_simp; go_at_call 26; refine (HIB.out _ HB.out).mono ?_; rintro e w' ⟨rfl, hb⟩; have HB := Lib.hid (HB.out.trans (hb.mono HB.out.size)); have HR := Lib.hid (blk_belowN hb HR.out); (try have HZ4 := Lib.hid (blk_belowN hb HZ4.out)); (try have HZ5 := Lib.hid (blk_belowN hb HZ5.out)))
          try go_wp2_with fail
          refine hK.out _ _ ?_ (fun hHeld => ?_)
          · (try dsimp only); try trivial
          clear hK K
          try simp only [Act.put, List.setIfInBounds_toArray, List.set_cons_zero, List.set_cons_succ]
          refine wpAnyH_ready (rs := [9]) (by kernel_rfl) (by simp) ?_
          refine AllReadyH.cons (o := { dst := some 5, op := Go.Op.alloc 34, type := 0, pos := "law.go:96", after := #[], guard := none }) rfl (fun K hK => ?_) AllReadyH.nil
          go_simp
          refine alloc_step hK trivial (fun W' hW' hz hHeld => ?_); have HP5 := Lib.hid (blk_ltN HR.out); (try have HNE := Lib.hid (Nat.ne_of_lt (blk_ltN HZ4.out))); have hbz := below_of_alloc hW'; have HB := Lib.hid (HB.out.trans (hbz.mono HB.out.size)); have HR := Lib.hid (blk_belowN hbz HR.out); (try have HZ4 := Lib.hid (blk_belowN hbz HZ4.out)); have HZ5 := Lib.hid hz; clear hz hW' hbz
          clear hK K
          try simp only [Act.put, List.setIfInBounds_toArray, List.set_cons_zero, List.set_cons_succ]
          refine wpAnyH_ready (rs := [10]) (by kernel_rfl) (by simp) ?_
          refine AllReadyH.cons (o := { dst := none, op := Go.Op.store 34 (Go.Operand.tmp 4) (Go.Operand.tmp 18), type := 0, pos := "law.go:96", after := #[{ on := 8, ground := Go.Ground.data }, { on := 3, ground := Go.Ground.data }, { on := 7, ground := Go.Ground.chain }, { on := 0, ground := Go.Ground.phase }, { on := 1, ground := Go.Ground.phase }, { on := 2, ground := Go.Ground.phase }, { on := 3, ground := Go.Ground.phase }, { on := 4, ground := Go.Ground.textOnly Go.Departure.lateStores }, { on := 5, ground := Go.Ground.textOnly Go.Departure.lateStores }, { on := 6, ground := Go.Ground.textOnly Go.Departure.lateStoresUnsure }, { on := 7, ground := Go.Ground.phase }, { on := 8, ground := Go.Ground.phase }, { on := 9, ground := Go.Ground.phase }], guard := none }) rfl (fun K hK => ?_) AllReadyH.nil
          (rw [if_pos (by rfl)]; refine wp_store_row _ _ _ rfl _ DA rfl rfl 34 _ HZ4.out (by rw [zA]; kernel_rfl) (by rw [zA, z32_size']) oA ?_)
          refine any_step hK trivial (fun W' hW' hHeld => ?_); have HB := Lib.hid (hW'.out ▸ below_setRow HB.out (Nat.le_of_lt HP4.out) DA); have HR := Lib.hid (hW'.out ▸ (setRow_other _ _ _ DA (Nat.ne_of_lt HP4.out)).trans HR.out); have HZ5 := Lib.hid (hW'.out ▸ (setRow_other _ _ _ DA (Ne.symm HNE.out)).trans HZ5.out); have HZ4 := Lib.hid (hW'.out ▸ setRow_heap _ _ _ DA 34 (0, 0) HZ4.out); clear hW'
          clear hK K
          try simp only [Act.put, List.setIfInBounds_toArray, List.set_cons_zero, List.set_cons_succ]
          refine wpAnyH_ready (rs := [11]) (by kernel_rfl) (by simp) ?_
          refine AllReadyH.cons (o := { dst := none, op := Go.Op.store 34 (Go.Operand.tmp 5) (Go.Operand.tmp 22), type := 0, pos := "law.go:96", after := #[{ on := 9, ground := Go.Ground.data }, { on := 7, ground := Go.Ground.data }, { on := 10, ground := Go.Ground.chain }, { on := 0, ground := Go.Ground.phase }, { on := 1, ground := Go.Ground.phase }, { on := 2, ground := Go.Ground.phase }, { on := 3, ground := Go.Ground.phase }, { on := 4, ground := Go.Ground.phase }, { on := 5, ground := Go.Ground.phase }, { on := 6, ground := Go.Ground.phase }, { on := 7, ground := Go.Ground.phase }, { on := 8, ground := Go.Ground.phase }, { on := 9, ground := Go.Ground.phase }, { on := 10, ground := Go.Ground.phase }], guard := none }) rfl (fun K hK => ?_) AllReadyH.nil
          (rw [if_pos (by rfl)]; refine wp_store_row _ _ _ rfl _ DB rfl rfl 34 _ HZ5.out (by rw [zB]; kernel_rfl) (by rw [zB, z32_size']) oB ?_)
          refine any_step hK trivial (fun W' hW' hHeld => ?_); have HB := Lib.hid (hW'.out ▸ below_setRow HB.out (Nat.le_of_lt HP5.out) DB); have HR := Lib.hid (hW'.out ▸ (setRow_other _ _ _ DB (Nat.ne_of_lt HP5.out)).trans HR.out); have HZ4 := Lib.hid (hW'.out ▸ (setRow_other _ _ _ DB HNE.out).trans HZ4.out); have HZ5 := Lib.hid (hW'.out ▸ setRow_heap _ _ _ DB 34 (0, 0) HZ5.out); clear hW'
          clear hK K
          try simp only [Act.put, List.setIfInBounds_toArray, List.set_cons_zero, List.set_cons_succ]
          refine wpAnyH_done (by kernel_rfl) ?_ _
          refine NoPanic.normal ?_
          go_wp2_with fail
          go_meet
          exact ⟨_, _, rfl, rfl, HZ4, HZ5, HR, HB⟩
        ·
          go_simp
          refine alloc_step hK trivial (fun W' hW' hz hHeld => ?_); have HP5 := Lib.hid (blk_ltN HR.out); (try have HNE := Lib.hid (Nat.ne_of_lt (blk_ltN HZ4.out))); have hbz := below_of_alloc hW'; have HB := Lib.hid (HB.out.trans (hbz.mono HB.out.size)); have HR := Lib.hid (blk_belowN hbz HR.out); (try have HZ4 := Lib.hid (blk_belowN hbz HZ4.out)); have HZ5 := Lib.hid hz; clear hz hW' hbz
          clear hK K
          try simp only [Act.put, List.setIfInBounds_toArray, List.set_cons_zero, List.set_cons_succ]
          refine wpAnyH_ready (rs := [7]) (by kernel_rfl) (by simp) ?_
          refine AllReadyH.cons (o := { dst := some 22, op := Go.Op.call { callee := Go.Callee.value (Go.Operand.func 26), args := #[Go.Operand.tmp 21], argTypes := #[54] }, type := 34, pos := "law.go:96", after := #[{ on := 6, ground := Go.Ground.data }, { on := 3, ground := Go.Ground.chain }], guard := none }) rfl (fun K hK => ?_) AllReadyH.nil
          (go_simp; go_at_call 26; refine (HIB.out _ HB.out).mono ?_; rintro e w' ⟨rfl, hb⟩; have HB := Lib.hid (HB.out.trans (hb.mono HB.out.size)); have HR := Lib.hid (blk_belowN hb HR.out); (try have HZ4 := Lib.hid (blk_belowN hb HZ4.out)); (try have HZ5 := Lib.hid (blk_belowN hb HZ5.out)))
          try go_wp2_with fail
          refine hK.out _ _ ?_ (fun hHeld => ?_)
          · (try dsimp only); try trivial
          clear hK K
          try simp only [Act.put, List.setIfInBounds_toArray, List.set_cons_zero, List.set_cons_succ]
          refine wpAnyH_ready (rs := [10]) (by kernel_rfl) (by simp) ?_
          refine AllReadyH.cons (o := { dst := none, op := Go.Op.store 34 (Go.Operand.tmp 4) (Go.Operand.tmp 18), type := 0, pos := "law.go:96", after := #[{ on := 8, ground := Go.Ground.data }, { on := 3, ground := Go.Ground.data }, { on := 7, ground := Go.Ground.chain }, { on := 0, ground := Go.Ground.phase }, { on := 1, ground := Go.Ground.phase }, { on := 2, ground := Go.Ground.phase }, { on := 3, ground := Go.Ground.phase }, { on := 4, ground := Go.Ground.textOnly Go.Departure.lateStores }, { on := 5, ground := Go.Ground.textOnly Go.Departure.lateStores }, { on := 6, ground := Go.Ground.textOnly Go.Departure.lateStoresUnsure }, { on := 7, ground := Go.Ground.phase }, { on := 8, ground := Go.Ground.phase }, { on := 9, ground := Go.Ground.phase }], guard := none }) rfl (fun K hK => ?_) AllReadyH.nil
          (rw [if_pos (by rfl)]; refine wp_store_row _ _ _ rfl _ DA rfl rfl 34 _ HZ4.out (by rw [zA]; kernel_rfl) (by rw [zA, z32_size']) oA ?_)
          refine any_step hK trivial (fun W' hW' hHeld => ?_); have HB := Lib.hid (hW'.out ▸ below_setRow HB.out (Nat.le_of_lt HP4.out) DA); have HR := Lib.hid (hW'.out ▸ (setRow_other _ _ _ DA (Nat.ne_of_lt HP4.out)).trans HR.out); have HZ5 := Lib.hid (hW'.out ▸ (setRow_other _ _ _ DA (Ne.symm HNE.out)).trans HZ5.out); have HZ4 := Lib.hid (hW'.out ▸ setRow_heap _ _ _ DA 34 (0, 0) HZ4.out); clear hW'
          clear hK K
          try simp only [Act.put, List.setIfInBounds_toArray, List.set_cons_zero, List.set_cons_succ]
          refine wpAnyH_ready (rs := [11]) (by kernel_rfl) (by simp) ?_
          refine AllReadyH.cons (o := { dst := none, op := Go.Op.store 34 (Go.Operand.tmp 5) (Go.Operand.tmp 22), type := 0, pos := "law.go:96", after := #[{ on := 9, ground := Go.Ground.data }, { on := 7, ground := Go.Ground.data }, { on := 10, ground := Go.Ground.chain }, { on := 0, ground := Go.Ground.phase }, { on := 1, ground := Go.Ground.phase }, { on := 2, ground := Go.Ground.phase }, { on := 3, ground := Go.Ground.phase }, { on := 4, ground := Go.Ground.phase }, { on := 5, ground := Go.Ground.phase }, { on := 6, ground := Go.Ground.phase }, { on := 7, ground := Go.Ground.phase }, { on := 8, ground := Go.Ground.phase }, { on := 9, ground := Go.Ground.phase }, { on := 10, ground := Go.Ground.phase }], guard := none }) rfl (fun K hK => ?_) AllReadyH.nil
          (rw [if_pos (by rfl)]; refine wp_store_row _ _ _ rfl _ DB rfl rfl 34 _ HZ5.out (by rw [zB]; kernel_rfl) (by rw [zB, z32_size']) oB ?_)
          refine any_step hK trivial (fun W' hW' hHeld => ?_); have HB := Lib.hid (hW'.out ▸ below_setRow HB.out (Nat.le_of_lt HP5.out) DB); have HR := Lib.hid (hW'.out ▸ (setRow_other _ _ _ DB (Nat.ne_of_lt HP5.out)).trans HR.out); have HZ4 := Lib.hid (hW'.out ▸ (setRow_other _ _ _ DB HNE.out).trans HZ4.out); have HZ5 := Lib.hid (hW'.out ▸ setRow_heap _ _ _ DB 34 (0, 0) HZ5.out); clear hW'
          clear hK K
          try simp only [Act.put, List.setIfInBounds_toArray, List.set_cons_zero, List.set_cons_succ]
          refine wpAnyH_done (by kernel_rfl) ?_ _
          refine NoPanic.normal ?_
          go_wp2_with fail
          go_meet
          exact ⟨_, _, rfl, rfl, HZ4, HZ5, HR, HB⟩
      ·
        go_simp
        refine alloc_step hK trivial (fun W' hW' hz hHeld => ?_); have HP5 := Lib.hid (blk_ltN HR.out); (try have HNE := Lib.hid (Nat.ne_of_lt (blk_ltN HZ4.out))); have hbz := below_of_alloc hW'; have HB := Lib.hid (HB.out.trans (hbz.mono HB.out.size)); have HR := Lib.hid (blk_belowN hbz HR.out); (try have HZ4 := Lib.hid (blk_belowN hbz HZ4.out)); have HZ5 := Lib.hid hz; clear hz hW' hbz
        clear hK K
        try simp only [Act.put, List.setIfInBounds_toArray, List.set_cons_zero, List.set_cons_succ]
        refine wpAnyH_ready (rs := [7, 8]) (by kernel_rfl) (by simp) ?_
        refine AllReadyH.cons (o := { dst := some 22, op := Go.Op.call { callee := Go.Callee.value (Go.Operand.func 26), args := #[Go.Operand.tmp 21], argTypes := #[54] }, type := 34, pos := "law.go:96", after := #[{ on := 6, ground := Go.Ground.data }, { on := 3, ground := Go.Ground.chain }], guard := none }) rfl (fun K hK => ?_) (AllReadyH.cons (o := { dst := some 4, op := Go.Op.alloc 34, type := 0, pos := "law.go:96", after := #[], guard := none }) rfl (fun K hK => ?_) AllReadyH.nil)
        ·
          (go_simp; go_at_call 26; refine (HIB.out _ HB.out).mono ?_; rintro e w' ⟨rfl, hb⟩; have HB := Lib.hid (HB.out.trans (hb.mono HB.out.size)); have HR := Lib.hid (blk_belowN hb HR.out); (try have HZ4 := Lib.hid (blk_belowN hb HZ4.out)); (try have HZ5 := Lib.hid (blk_belowN hb HZ5.out)))
          try go_wp2_with fail
          refine hK.out _ _ ?_ (fun hHeld => ?_)
          · (try dsimp only); try trivial
          clear hK K
          try simp only [Act.put, List.setIfInBounds_toArray, List.set_cons_zero, List.set_cons_succ]
          refine wpAnyH_ready (rs := [8]) (by kernel_rfl) (by simp) ?_
          refine AllReadyH.cons (o := { dst := some 4, op := Go.Op.alloc 34, type := 0, pos := "law.go:96", after := #[], guard := none }) rfl (fun K hK => ?_) AllReadyH.nil
          go_simp
          refine alloc_step hK trivial (fun W' hW' hz hHeld => ?_); have HP4 := Lib.hid (blk_ltN HR.out); (try have HNE := Lib.hid (Nat.ne_of_gt (blk_ltN HZ5.out))); have hbz := below_of_alloc hW'; have HB := Lib.hid (HB.out.trans (hbz.mono HB.out.size)); have HR := Lib.hid (blk_belowN hbz HR.out); (try have HZ5 := Lib.hid (blk_belowN hbz HZ5.out)); have HZ4 := Lib.hid hz; clear hz hW' hbz
          clear hK K
          try simp only [Act.put, List.setIfInBounds_toArray, List.set_cons_zero, List.set_cons_succ]
          refine wpAnyH_ready (rs := [10]) (by kernel_rfl) (by simp) ?_
          refine AllReadyH.cons (o := { dst := none, op := Go.Op.store 34 (Go.Operand.tmp 4) (Go.Operand.tmp 18), type := 0, pos := "law.go:96", after := #[{ on := 8, ground := Go.Ground.data }, { on := 3, ground := Go.Ground.data }, { on := 7, ground := Go.Ground.chain }, { on := 0, ground := Go.Ground.phase }, { on := 1, ground := Go.Ground.phase }, { on := 2, ground := Go.Ground.phase }, { on := 3, ground := Go.Ground.phase }, { on := 4, ground := Go.Ground.textOnly Go.Departure.lateStores }, { on := 5, ground := Go.Ground.textOnly Go.Departure.lateStores }, { on := 6, ground := Go.Ground.textOnly Go.Departure.lateStoresUnsure }, { on := 7, ground := Go.Ground.phase }, { on := 8, ground := Go.Ground.phase }, { on := 9, ground := Go.Ground.phase }], guard := none }) rfl (fun K hK => ?_) AllReadyH.nil
          (rw [if_pos (by rfl)]; refine wp_store_row _ _ _ rfl _ DA rfl rfl 34 _ HZ4.out (by rw [zA]; kernel_rfl) (by rw [zA, z32_size']) oA ?_)
          refine any_step hK trivial (fun W' hW' hHeld => ?_); have HB := Lib.hid (hW'.out ▸ below_setRow HB.out (Nat.le_of_lt HP4.out) DA); have HR := Lib.hid (hW'.out ▸ (setRow_other _ _ _ DA (Nat.ne_of_lt HP4.out)).trans HR.out); have HZ5 := Lib.hid (hW'.out ▸ (setRow_other _ _ _ DA (Ne.symm HNE.out)).trans HZ5.out); have HZ4 := Lib.hid (hW'.out ▸ setRow_heap _ _ _ DA 34 (0, 0) HZ4.out); clear hW'
          clear hK K
          try simp only [Act.put, List.setIfInBounds_toArray, List.set_cons_zero, List.set_cons_succ]
          refine wpAnyH_ready (rs := [11]) (by kernel_rfl) (by simp) ?_
          refine AllReadyH.cons (o := { dst := none, op := Go.Op.store 34 (Go.Operand.tmp 5) (Go.Operand.tmp 22), type := 0, pos := "law.go:96", after := #[{ on := 9, ground := Go.Ground.data }, { on := 7, ground := Go.Ground.data }, { on := 10, ground := Go.Ground.chain }, { on := 0, ground := Go.Ground.phase }, { on := 1, ground := Go.Ground.phase }, { on := 2, ground := Go.Ground.phase }, { on := 3, ground := Go.Ground.phase }, { on := 4, ground := Go.Ground.phase }, { on := 5, ground := Go.Ground.phase }, { on := 6, ground := Go.Ground.phase }, { on := 7, ground := Go.Ground.phase }, { on := 8, ground := Go.Ground.phase }, { on := 9, ground := Go.Ground.phase }, { on := 10, ground := Go.Ground.phase }], guard := none }) rfl (fun K hK => ?_) AllReadyH.nil
          (rw [if_pos (by rfl)]; refine wp_store_row _ _ _ rfl _ DB rfl rfl 34 _ HZ5.out (by rw [zB]; kernel_rfl) (by rw [zB, z32_size']) oB ?_)
          refine any_step hK trivial (fun W' hW' hHeld => ?_); have HB := Lib.hid (hW'.out ▸ below_setRow HB.out (Nat.le_of_lt HP5.out) DB); have HR := Lib.hid (hW'.out ▸ (setRow_other _ _ _ DB (Nat.ne_of_lt HP5.out)).trans HR.out); have HZ4 := Lib.hid (hW'.out ▸ (setRow_other _ _ _ DB HNE.out).trans HZ4.out); have HZ5 := Lib.hid (hW'.out ▸ setRow_heap _ _ _ DB 34 (0, 0) HZ5.out); clear hW'
          clear hK K
          try simp only [Act.put, List.setIfInBounds_toArray, List.set_cons_zero, List.set_cons_succ]
          refine wpAnyH_done (by kernel_rfl) ?_ _
          refine NoPanic.normal ?_
          go_wp2_with fail
          go_meet
          exact ⟨_, _, rfl, rfl, HZ4, HZ5, HR, HB⟩
        ·
          go_simp
          refine alloc_step hK trivial (fun W' hW' hz hHeld => ?_); have HP4 := Lib.hid (blk_ltN HR.out); (try have HNE := Lib.hid (Nat.ne_of_gt (blk_ltN HZ5.out))); have hbz := below_of_alloc hW'; have HB := Lib.hid (HB.out.trans (hbz.mono HB.out.size)); have HR := Lib.hid (blk_belowN hbz HR.out); (try have HZ5 := Lib.hid (blk_belowN hbz HZ5.out)); have HZ4 := Lib.hid hz; clear hz hW' hbz
          clear hK K
          try simp only [Act.put, List.setIfInBounds_toArray, List.set_cons_zero, List.set_cons_succ]
          refine wpAnyH_ready (rs := [7]) (by kernel_rfl) (by simp) ?_
          refine AllReadyH.cons (o := { dst := some 22, op := Go.Op.call { callee := Go.Callee.value (Go.Operand.func 26), args := #[Go.Operand.tmp 21], argTypes := #[54] }, type := 34, pos := "law.go:96", after := #[{ on := 6, ground := Go.Ground.data }, { on := 3, ground := Go.Ground.chain }], guard := none }) rfl (fun K hK => ?_) AllReadyH.nil
          (go_simp; go_at_call 26; refine (HIB.out _ HB.out).mono ?_; rintro e w' ⟨rfl, hb⟩; have HB := Lib.hid (HB.out.trans (hb.mono HB.out.size)); have HR := Lib.hid (blk_belowN hb HR.out); (try have HZ4 := Lib.hid (blk_belowN hb HZ4.out)); (try have HZ5 := Lib.hid (blk_belowN hb HZ5.out)))
          try go_wp2_with fail
          refine hK.out _ _ ?_ (fun hHeld => ?_)
          · (try dsimp only); try trivial
          clear hK K
          try simp only [Act.put, List.setIfInBounds_toArray, List.set_cons_zero, List.set_cons_succ]
          refine wpAnyH_ready (rs := [10]) (by kernel_rfl) (by simp) ?_
          refine AllReadyH.cons (o := { dst := none, op := Go.Op.store 34 (Go.Operand.tmp 4) (Go.Operand.tmp 18), type := 0, pos := "law.go:96", after := #[{ on := 8, ground := Go.Ground.data }, { on := 3, ground := Go.Ground.data }, { on := 7, ground := Go.Ground.chain }, { on := 0, ground := Go.Ground.phase }, { on := 1, ground := Go.Ground.phase }, { on := 2, ground := Go.Ground.phase }, { on := 3, ground := Go.Ground.phase }, { on := 4, ground := Go.Ground.textOnly Go.Departure.lateStores }, { on := 5, ground := Go.Ground.textOnly Go.Departure.lateStores }, { on := 6, ground := Go.Ground.textOnly Go.Departure.lateStoresUnsure }, { on := 7, ground := Go.Ground.phase }, { on := 8, ground := Go.Ground.phase }, { on := 9, ground := Go.Ground.phase }], guard := none }) rfl (fun K hK => ?_) AllReadyH.nil
          (rw [if_pos (by rfl)]; refine wp_store_row _ _ _ rfl _ DA rfl rfl 34 _ HZ4.out (by rw [zA]; kernel_rfl) (by rw [zA, z32_size']) oA ?_)
          refine any_step hK trivial (fun W' hW' hHeld => ?_); have HB := Lib.hid (hW'.out ▸ below_setRow HB.out (Nat.le_of_lt HP4.out) DA); have HR := Lib.hid (hW'.out ▸ (setRow_other _ _ _ DA (Nat.ne_of_lt HP4.out)).trans HR.out); have HZ5 := Lib.hid (hW'.out ▸ (setRow_other _ _ _ DA (Ne.symm HNE.out)).trans HZ5.out); have HZ4 := Lib.hid (hW'.out ▸ setRow_heap _ _ _ DA 34 (0, 0) HZ4.out); clear hW'
          clear hK K
          try simp only [Act.put, List.setIfInBounds_toArray, List.set_cons_zero, List.set_cons_succ]
          refine wpAnyH_ready (rs := [11]) (by kernel_rfl) (by simp) ?_
          refine AllReadyH.cons (o := { dst := none, op := Go.Op.store 34 (Go.Operand.tmp 5) (Go.Operand.tmp 22), type := 0, pos := "law.go:96", after := #[{ on := 9, ground := Go.Ground.data }, { on := 7, ground := Go.Ground.data }, { on := 10, ground := Go.Ground.chain }, { on := 0, ground := Go.Ground.phase }, { on := 1, ground := Go.Ground.phase }, { on := 2, ground := Go.Ground.phase }, { on := 3, ground := Go.Ground.phase }, { on := 4, ground := Go.Ground.phase }, { on := 5, ground := Go.Ground.phase }, { on := 6, ground := Go.Ground.phase }, { on := 7, ground := Go.Ground.phase }, { on := 8, ground := Go.Ground.phase }, { on := 9, ground := Go.Ground.phase }, { on := 10, ground := Go.Ground.phase }], guard := none }) rfl (fun K hK => ?_) AllReadyH.nil
          (rw [if_pos (by rfl)]; refine wp_store_row _ _ _ rfl _ DB rfl rfl 34 _ HZ5.out (by rw [zB]; kernel_rfl) (by rw [zB, z32_size']) oB ?_)
          refine any_step hK trivial (fun W' hW' hHeld => ?_); have HB := Lib.hid (hW'.out ▸ below_setRow HB.out (Nat.le_of_lt HP5.out) DB); have HR := Lib.hid (hW'.out ▸ (setRow_other _ _ _ DB (Nat.ne_of_lt HP5.out)).trans HR.out); have HZ4 := Lib.hid (hW'.out ▸ (setRow_other _ _ _ DB HNE.out).trans HZ4.out); have HZ5 := Lib.hid (hW'.out ▸ setRow_heap _ _ _ DB 34 (0, 0) HZ5.out); clear hW'
          clear hK K
          try simp only [Act.put, List.setIfInBounds_toArray, List.set_cons_zero, List.set_cons_succ]
          refine wpAnyH_done (by kernel_rfl) ?_ _
          refine NoPanic.normal ?_
          go_wp2_with fail
          go_meet
          exact ⟨_, _, rfl, rfl, HZ4, HZ5, HR, HB⟩
    ·
      go_simp
      refine alloc_step hK trivial (fun W' hW' hz hHeld => ?_); have HP4 := Lib.hid (blk_ltN HR.out); (try have HNE := Lib.hid (Nat.ne_of_gt (blk_ltN HZ5.out))); have hbz := below_of_alloc hW'; have HB := Lib.hid (HB.out.trans (hbz.mono HB.out.size)); have HR := Lib.hid (blk_belowN hbz HR.out); (try have HZ5 := Lib.hid (blk_belowN hbz HZ5.out)); have HZ4 := Lib.hid hz; clear hz hW' hbz
      clear hK K
      try simp only [Act.put, List.setIfInBounds_toArray, List.set_cons_zero, List.set_cons_succ]
      refine wpAnyH_ready (rs := [3, 9]) (by kernel_rfl) (by simp) ?_
      refine AllReadyH.cons (o := { dst := some 18, op := Go.Op.call { callee := Go.Callee.value (Go.Operand.func 26), args := #[Go.Operand.tmp 17], argTypes := #[54] }, type := 34, pos := "law.go:96", after := #[{ on := 2, ground := Go.Ground.data }], guard := none }) rfl (fun K hK => ?_) (AllReadyH.cons (o := { dst := some 5, op := Go.Op.alloc 34, type := 0, pos := "law.go:96", after := #[], guard := none }) rfl (fun K hK => ?_) AllReadyH.nil)
      ·
        (go_simp; go_at_call 26; refine (HIA.out _ HB.out).mono ?_; rintro e w' ⟨rfl, hb⟩; have HB := Lib.hid (HB.out.trans (hb.mono HB.out.size)); have HR := Lib.hid (blk_belowN hb HR.out); (try have HZ4 := Lib.hid (blk_belowN hb HZ4.out)); (try have HZ5 := Lib.hid (blk_belowN hb HZ5.out)))
        try go_wp2_with fail
        refine hK.out _ _ ?_ (fun hHeld => ?_)
        · (try dsimp only); try trivial
        clear hK K
        try simp only [Act.put, List.setIfInBounds_toArray, List.set_cons_zero, List.set_cons_succ]
        refine wpAnyH_ready (rs := [7, 9]) (by kernel_rfl) (by simp) ?_
        refine AllReadyH.cons (o := { dst := some 22, op := Go.Op.call { callee := Go.Callee.value (Go.Operand.func 26), args := #[Go.Operand.tmp 21], argTypes := #[54] }, type := 34, pos := "law.go:96", after := #[{ on := 6, ground := Go.Ground.data }, { on := 3, ground := Go.Ground.chain }], guard := none }) rfl (fun K hK => ?_) (AllReadyH.cons (o := { dst := some 5, op := Go.Op.alloc 34, type := 0, pos := "law.go:96", after := #[], guard := none }) rfl (fun K hK => ?_) AllReadyH.nil)
        ·
          (go_simp; go_at_call 26; refine (HIB.out _ HB.out).mono ?_; rintro e w' ⟨rfl, hb⟩; have HB := Lib.hid (HB.out.trans (hb.mono HB.out.size)); have HR := Lib.hid (blk_belowN hb HR.out); (try have HZ4 := Lib.hid (blk_belowN hb HZ4.out)); (try have HZ5 := Lib.hid (blk_belowN hb HZ5.out)))
          try go_wp2_with fail
          refine hK.out _ _ ?_ (fun hHeld => ?_)
          · (try dsimp only); try trivial
          clear hK K
          try simp only [Act.put, List.setIfInBounds_toArray, List.set_cons_zero, List.set_cons_succ]
          refine wpAnyH_ready (rs := [9]) (by kernel_rfl) (by simp) ?_
          refine AllReadyH.cons (o := { dst := some 5, op := Go.Op.alloc 34, type := 0, pos := "law.go:96", after := #[], guard := none }) rfl (fun K hK => ?_) AllReadyH.nil
          go_simp
          refine alloc_step hK trivial (fun W' hW' hz hHeld => ?_); have HP5 := Lib.hid (blk_ltN HR.out); (try have HNE := Lib.hid (Nat.ne_of_lt (blk_ltN HZ4.out))); have hbz := below_of_alloc hW'; have HB := Lib.hid (HB.out.trans (hbz.mono HB.out.size)); have HR := Lib.hid (blk_belowN hbz HR.out); (try have HZ4 := Lib.hid (blk_belowN hbz HZ4.out)); have HZ5 := Lib.hid hz; clear hz hW' hbz
          clear hK K
          try simp only [Act.put, List.setIfInBounds_toArray, List.set_cons_zero, List.set_cons_succ]
          refine wpAnyH_ready (rs := [10]) (by kernel_rfl) (by simp) ?_
          refine AllReadyH.cons (o := { dst := none, op := Go.Op.store 34 (Go.Operand.tmp 4) (Go.Operand.tmp 18), type := 0, pos := "law.go:96", after := #[{ on := 8, ground := Go.Ground.data }, { on := 3, ground := Go.Ground.data }, { on := 7, ground := Go.Ground.chain }, { on := 0, ground := Go.Ground.phase }, { on := 1, ground := Go.Ground.phase }, { on := 2, ground := Go.Ground.phase }, { on := 3, ground := Go.Ground.phase }, { on := 4, ground := Go.Ground.textOnly Go.Departure.lateStores }, { on := 5, ground := Go.Ground.textOnly Go.Departure.lateStores }, { on := 6, ground := Go.Ground.textOnly Go.Departure.lateStoresUnsure }, { on := 7, ground := Go.Ground.phase }, { on := 8, ground := Go.Ground.phase }, { on := 9, ground := Go.Ground.phase }], guard := none }) rfl (fun K hK => ?_) AllReadyH.nil
          (rw [if_pos (by rfl)]; refine wp_store_row _ _ _ rfl _ DA rfl rfl 34 _ HZ4.out (by rw [zA]; kernel_rfl) (by rw [zA, z32_size']) oA ?_)
          refine any_step hK trivial (fun W' hW' hHeld => ?_); have HB := Lib.hid (hW'.out ▸ below_setRow HB.out (Nat.le_of_lt HP4.out) DA); have HR := Lib.hid (hW'.out ▸ (setRow_other _ _ _ DA (Nat.ne_of_lt HP4.out)).trans HR.out); have HZ5 := Lib.hid (hW'.out ▸ (setRow_other _ _ _ DA (Ne.symm HNE.out)).trans HZ5.out); have HZ4 := Lib.hid (hW'.out ▸ setRow_heap _ _ _ DA 34 (0, 0) HZ4.out); clear hW'
          clear hK K
          try simp only [Act.put, List.setIfInBounds_toArray, List.set_cons_zero, List.set_cons_succ]
          refine wpAnyH_ready (rs := [11]) (by kernel_rfl) (by simp) ?_
          refine AllReadyH.cons (o := { dst := none, op := Go.Op.store 34 (Go.Operand.tmp 5) (Go.Operand.tmp 22), type := 0, pos := "law.go:96", after := #[{ on := 9, ground := Go.Ground.data }, { on := 7, ground := Go.Ground.data }, { on := 10, ground := Go.Ground.chain }, { on := 0, ground := Go.Ground.phase }, { on := 1, ground := Go.Ground.phase }, { on := 2, ground := Go.Ground.phase }, { on := 3, ground := Go.Ground.phase }, { on := 4, ground := Go.Ground.phase }, { on := 5, ground := Go.Ground.phase }, { on := 6, ground := Go.Ground.phase }, { on := 7, ground := Go.Ground.phase }, { on := 8, ground := Go.Ground.phase }, { on := 9, ground := Go.Ground.phase }, { on := 10, ground := Go.Ground.phase }], guard := none }) rfl (fun K hK => ?_) AllReadyH.nil
          (rw [if_pos (by rfl)]; refine wp_store_row _ _ _ rfl _ DB rfl rfl 34 _ HZ5.out (by rw [zB]; kernel_rfl) (by rw [zB, z32_size']) oB ?_)
          refine any_step hK trivial (fun W' hW' hHeld => ?_); have HB := Lib.hid (hW'.out ▸ below_setRow HB.out (Nat.le_of_lt HP5.out) DB); have HR := Lib.hid (hW'.out ▸ (setRow_other _ _ _ DB (Nat.ne_of_lt HP5.out)).trans HR.out); have HZ4 := Lib.hid (hW'.out ▸ (setRow_other _ _ _ DB HNE.out).trans HZ4.out); have HZ5 := Lib.hid (hW'.out ▸ setRow_heap _ _ _ DB 34 (0, 0) HZ5.out); clear hW'
          clear hK K
          try simp only [Act.put, List.setIfInBounds_toArray, List.set_cons_zero, List.set_cons_succ]
          refine wpAnyH_done (by kernel_rfl) ?_ _
          refine NoPanic.normal ?_
          go_wp2_with fail
          go_meet
          exact ⟨_, _, rfl, rfl, HZ4, HZ5, HR, HB⟩
        ·
          go_simp
          refine alloc_step hK trivial (fun W' hW' hz hHeld => ?_); have HP5 := Lib.hid (blk_ltN HR.out); (try have HNE := Lib.hid (Nat.ne_of_lt (blk_ltN HZ4.out))); have hbz := below_of_alloc hW'; have HB := Lib.hid (HB.out.trans (hbz.mono HB.out.size)); have HR := Lib.hid (blk_belowN hbz HR.out); (try have HZ4 := Lib.hid (blk_belowN hbz HZ4.out)); have HZ5 := Lib.hid hz; clear hz hW' hbz
          clear hK K
          try simp only [Act.put, List.setIfInBounds_toArray, List.set_cons_zero, List.set_cons_succ]
          refine wpAnyH_ready (rs := [7]) (by kernel_rfl) (by simp) ?_
          refine AllReadyH.cons (o := { dst := some 22, op := Go.Op.call { callee := Go.Callee.value (Go.Operand.func 26), args := #[Go.Operand.tmp 21], argTypes := #[54] }, type := 34, pos := "law.go:96", after := #[{ on := 6, ground := Go.Ground.data }, { on := 3, ground := Go.Ground.chain }], guard := none }) rfl (fun K hK => ?_) AllReadyH.nil
          (go_simp; go_at_call 26; refine (HIB.out _ HB.out).mono ?_; rintro e w' ⟨rfl, hb⟩; have HB := Lib.hid (HB.out.trans (hb.mono HB.out.size)); have HR := Lib.hid (blk_belowN hb HR.out); (try have HZ4 := Lib.hid (blk_belowN hb HZ4.out)); (try have HZ5 := Lib.hid (blk_belowN hb HZ5.out)))
          try go_wp2_with fail
          refine hK.out _ _ ?_ (fun hHeld => ?_)
          · (try dsimp only); try trivial
          clear hK K
          try simp only [Act.put, List.setIfInBounds_toArray, List.set_cons_zero, List.set_cons_succ]
          refine wpAnyH_ready (rs := [10]) (by kernel_rfl) (by simp) ?_
          refine AllReadyH.cons (o := { dst := none, op := Go.Op.store 34 (Go.Operand.tmp 4) (Go.Operand.tmp 18), type := 0, pos := "law.go:96", after := #[{ on := 8, ground := Go.Ground.data }, { on := 3, ground := Go.Ground.data }, { on := 7, ground := Go.Ground.chain }, { on := 0, ground := Go.Ground.phase }, { on := 1, ground := Go.Ground.phase }, { on := 2, ground := Go.Ground.phase }, { on := 3, ground := Go.Ground.phase }, { on := 4, ground := Go.Ground.textOnly Go.Departure.lateStores }, { on := 5, ground := Go.Ground.textOnly Go.Departure.lateStores }, { on := 6, ground := Go.Ground.textOnly Go.Departure.lateStoresUnsure }, { on := 7, ground := Go.Ground.phase }, { on := 8, ground := Go.Ground.phase }, { on := 9, ground := Go.Ground.phase }], guard := none }) rfl (fun K hK => ?_) AllReadyH.nil
          (rw [if_pos (by rfl)]; refine wp_store_row _ _ _ rfl _ DA rfl rfl 34 _ HZ4.out (by rw [zA]; kernel_rfl) (by rw [zA, z32_size']) oA ?_)
          refine any_step hK trivial (fun W' hW' hHeld => ?_); have HB := Lib.hid (hW'.out ▸ below_setRow HB.out (Nat.le_of_lt HP4.out) DA); have HR := Lib.hid (hW'.out ▸ (setRow_other _ _ _ DA (Nat.ne_of_lt HP4.out)).trans HR.out); have HZ5 := Lib.hid (hW'.out ▸ (setRow_other _ _ _ DA (Ne.symm HNE.out)).trans HZ5.out); have HZ4 := Lib.hid (hW'.out ▸ setRow_heap _ _ _ DA 34 (0, 0) HZ4.out); clear hW'
          clear hK K
          try simp only [Act.put, List.setIfInBounds_toArray, List.set_cons_zero, List.set_cons_succ]
          refine wpAnyH_ready (rs := [11]) (by kernel_rfl) (by simp) ?_
          refine AllReadyH.cons (o := { dst := none, op := Go.Op.store 34 (Go.Operand.tmp 5) (Go.Operand.tmp 22), type := 0, pos := "law.go:96", after := #[{ on := 9, ground := Go.Ground.data }, { on := 7, ground := Go.Ground.data }, { on := 10, ground := Go.Ground.chain }, { on := 0, ground := Go.Ground.phase }, { on := 1, ground := Go.Ground.phase }, { on := 2, ground := Go.Ground.phase }, { on := 3, ground := Go.Ground.phase }, { on := 4, ground := Go.Ground.phase }, { on := 5, ground := Go.Ground.phase }, { on := 6, ground := Go.Ground.phase }, { on := 7, ground := Go.Ground.phase }, { on := 8, ground := Go.Ground.phase }, { on := 9, ground := Go.Ground.phase }, { on := 10, ground := Go.Ground.phase }], guard := none }) rfl (fun K hK => ?_) AllReadyH.nil
          (rw [if_pos (by rfl)]; refine wp_store_row _ _ _ rfl _ DB rfl rfl 34 _ HZ5.out (by rw [zB]; kernel_rfl) (by rw [zB, z32_size']) oB ?_)
          refine any_step hK trivial (fun W' hW' hHeld => ?_); have HB := Lib.hid (hW'.out ▸ below_setRow HB.out (Nat.le_of_lt HP5.out) DB); have HR := Lib.hid (hW'.out ▸ (setRow_other _ _ _ DB (Nat.ne_of_lt HP5.out)).trans HR.out); have HZ4 := Lib.hid (hW'.out ▸ (setRow_other _ _ _ DB HNE.out).trans HZ4.out); have HZ5 := Lib.hid (hW'.out ▸ setRow_heap _ _ _ DB 34 (0, 0) HZ5.out); clear hW'
          clear hK K
          try simp only [Act.put, List.setIfInBounds_toArray, List.set_cons_zero, List.set_cons_succ]
          refine wpAnyH_done (by kernel_rfl) ?_ _
          refine NoPanic.normal ?_
          go_wp2_with fail
          go_meet
          exact ⟨_, _, rfl, rfl, HZ4, HZ5, HR, HB⟩
      ·
        go_simp
        refine alloc_step hK trivial (fun W' hW' hz hHeld => ?_); have HP5 := Lib.hid (blk_ltN HR.out); (try have HNE := Lib.hid (Nat.ne_of_lt (blk_ltN HZ4.out))); have hbz := below_of_alloc hW'; have HB := Lib.hid (HB.out.trans (hbz.mono HB.out.size)); have HR := Lib.hid (blk_belowN hbz HR.out); (try have HZ4 := Lib.hid (blk_belowN hbz HZ4.out)); have HZ5 := Lib.hid hz; clear hz hW' hbz
        clear hK K
        try simp only [Act.put, List.setIfInBounds_toArray, List.set_cons_zero, List.set_cons_succ]
        refine wpAnyH_ready (rs := [3]) (by kernel_rfl) (by simp) ?_
        refine AllReadyH.cons (o := { dst := some 18, op := Go.Op.call { callee := Go.Callee.value (Go.Operand.func 26), args := #[Go.Operand.tmp 17], argTypes := #[54] }, type := 34, pos := "law.go:96", after := #[{ on := 2, ground := Go.Ground.data }], guard := none }) rfl (fun K hK => ?_) AllReadyH.nil
        (go_simp; go_at_call 26; refine (HIA.out _ HB.out).mono ?_; rintro e w' ⟨rfl, hb⟩; have HB := Lib.hid (HB.out.trans (hb.mono HB.out.size)); have HR := Lib.hid (blk_belowN hb HR.out); (try have HZ4 := Lib.hid (blk_belowN hb HZ4.out)); (try have HZ5 := Lib.hid (blk_belowN hb HZ5.out)))
        try go_wp2_with fail
        refine hK.out _ _ ?_ (fun hHeld => ?_)
        · (try dsimp only); try trivial
        clear hK K
        try simp only [Act.put, List.setIfInBounds_toArray, List.set_cons_zero, List.set_cons_succ]
        refine wpAnyH_ready (rs := [7]) (by kernel_rfl) (by simp) ?_
        refine AllReadyH.cons (o := { dst := some 22, op := Go.Op.call { callee := Go.Callee.value (Go.Operand.func 26), args := #[Go.Operand.tmp 21], argTypes := #[54] }, type := 34, pos := "law.go:96", after := #[{ on := 6, ground := Go.Ground.data }, { on := 3, ground := Go.Ground.chain }], guard := none }) rfl (fun K hK => ?_) AllReadyH.nil
        (go_simp; go_at_call 26; refine (HIB.out _ HB.out).mono ?_; rintro e w' ⟨rfl, hb⟩; have HB := Lib.hid (HB.out.trans (hb.mono HB.out.size)); have HR := Lib.hid (blk_belowN hb HR.out); (try have HZ4 := Lib.hid (blk_belowN hb HZ4.out)); (try have HZ5 := Lib.hid (blk_belowN hb HZ5.out)))
        try go_wp2_with fail
        refine hK.out _ _ ?_ (fun hHeld => ?_)
        · (try dsimp only); try trivial
        clear hK K
        try simp only [Act.put, List.setIfInBounds_toArray, List.set_cons_zero, List.set_cons_succ]
        refine wpAnyH_ready (rs := [10]) (by kernel_rfl) (by simp) ?_
        refine AllReadyH.cons (o := { dst := none, op := Go.Op.store 34 (Go.Operand.tmp 4) (Go.Operand.tmp 18), type := 0, pos := "law.go:96", after := #[{ on := 8, ground := Go.Ground.data }, { on := 3, ground := Go.Ground.data }, { on := 7, ground := Go.Ground.chain }, { on := 0, ground := Go.Ground.phase }, { on := 1, ground := Go.Ground.phase }, { on := 2, ground := Go.Ground.phase }, { on := 3, ground := Go.Ground.phase }, { on := 4, ground := Go.Ground.textOnly Go.Departure.lateStores }, { on := 5, ground := Go.Ground.textOnly Go.Departure.lateStores }, { on := 6, ground := Go.Ground.textOnly Go.Departure.lateStoresUnsure }, { on := 7, ground := Go.Ground.phase }, { on := 8, ground := Go.Ground.phase }, { on := 9, ground := Go.Ground.phase }], guard := none }) rfl (fun K hK => ?_) AllReadyH.nil
        (rw [if_pos (by rfl)]; refine wp_store_row _ _ _ rfl _ DA rfl rfl 34 _ HZ4.out (by rw [zA]; kernel_rfl) (by rw [zA, z32_size']) oA ?_)
        refine any_step hK trivial (fun W' hW' hHeld => ?_); have HB := Lib.hid (hW'.out ▸ below_setRow HB.out (Nat.le_of_lt HP4.out) DA); have HR := Lib.hid (hW'.out ▸ (setRow_other _ _ _ DA (Nat.ne_of_lt HP4.out)).trans HR.out); have HZ5 := Lib.hid (hW'.out ▸ (setRow_other _ _ _ DA (Ne.symm HNE.out)).trans HZ5.out); have HZ4 := Lib.hid (hW'.out ▸ setRow_heap _ _ _ DA 34 (0, 0) HZ4.out); clear hW'
        clear hK K
        try simp only [Act.put, List.setIfInBounds_toArray, List.set_cons_zero, List.set_cons_succ]
        refine wpAnyH_ready (rs := [11]) (by kernel_rfl) (by simp) ?_
        refine AllReadyH.cons (o := { dst := none, op := Go.Op.store 34 (Go.Operand.tmp 5) (Go.Operand.tmp 22), type := 0, pos := "law.go:96", after := #[{ on := 9, ground := Go.Ground.data }, { on := 7, ground := Go.Ground.data }, { on := 10, ground := Go.Ground.chain }, { on := 0, ground := Go.Ground.phase }, { on := 1, ground := Go.Ground.phase }, { on := 2, ground := Go.Ground.phase }, { on := 3, ground := Go.Ground.phase }, { on := 4, ground := Go.Ground.phase }, { on := 5, ground := Go.Ground.phase }, { on := 6, ground := Go.Ground.phase }, { on := 7, ground := Go.Ground.phase }, { on := 8, ground := Go.Ground.phase }, { on := 9, ground := Go.Ground.phase }, { on := 10, ground := Go.Ground.phase }], guard := none }) rfl (fun K hK => ?_) AllReadyH.nil
        (rw [if_pos (by rfl)]; refine wp_store_row _ _ _ rfl _ DB rfl rfl 34 _ HZ5.out (by rw [zB]; kernel_rfl) (by rw [zB, z32_size']) oB ?_)
        refine any_step hK trivial (fun W' hW' hHeld => ?_); have HB := Lib.hid (hW'.out ▸ below_setRow HB.out (Nat.le_of_lt HP5.out) DB); have HR := Lib.hid (hW'.out ▸ (setRow_other _ _ _ DB (Nat.ne_of_lt HP5.out)).trans HR.out); have HZ4 := Lib.hid (hW'.out ▸ (setRow_other _ _ _ DB HNE.out).trans HZ4.out); have HZ5 := Lib.hid (hW'.out ▸ setRow_heap _ _ _ DB 34 (0, 0) HZ5.out); clear hW'
        clear hK K
        try simp only [Act.put, List.setIfInBounds_toArray, List.set_cons_zero, List.set_cons_succ]
        refine wpAnyH_done (by kernel_rfl) ?_ _
        refine NoPanic.normal ?_
        go_wp2_with fail
        go_meet
        exact ⟨_, _, rfl, rfl, HZ4, HZ5, HR, HB⟩
    ·
      go_simp
      refine alloc_step hK trivial (fun W' hW' hz hHeld => ?_); have HP5 := Lib.hid (blk_ltN HR.out); (try have HNE := Lib.hid (Nat.ne_of_lt (blk_ltN HZ4.out))); have hbz := below_of_alloc hW'; have HB := Lib.hid (HB.out.trans (hbz.mono HB.out.size)); have HR := Lib.hid (blk_belowN hbz HR.out); (try have HZ4 := Lib.hid (blk_belowN hbz HZ4.out)); have HZ5 := Lib.hid hz; clear hz hW' hbz
      clear hK K
      try simp only [Act.put, List.setIfInBounds_toArray, List.set_cons_zero, List.set_cons_succ]
      refine wpAnyH_ready (rs := [3, 8]) (by kernel_rfl) (by simp) ?_
      refine AllReadyH.cons (o := { dst := some 18, op := Go.Op.call { callee := Go.Callee.value (Go.Operand.func 26), args := #[Go.Operand.tmp 17], argTypes := #[54] }, type := 34, pos := "law.go:96", after := #[{ on := 2, ground := Go.Ground.data }], guard := none }) rfl (fun K hK => ?_) (AllReadyH.cons (o := { dst := some 4, op := Go.Op.alloc 34, type := 0, pos := "law.go:96", after := #[], guard := none }) rfl (fun K hK => ?_) AllReadyH.nil)
      ·
        (go_simp; go_at_call 26; refine (HIA.out _ HB.out).mono ?_; rintro e w' ⟨rfl, hb⟩; have HB := Lib.hid (HB.out.trans (hb.mono HB.out.size)); have HR := Lib.hid (blk_belowN hb HR.out); (try have HZ4 := Lib.hid (blk_belowN hb HZ4.out)); (try have HZ5 := Lib.hid (blk_belowN hb HZ5.out)))
        try go_wp2_with fail
        refine hK.out _ _ ?_ (fun hHeld => ?_)
        · (try dsimp only); try trivial
        clear hK K
        try simp only [Act.put, List.setIfInBounds_toArray, List.set_cons_zero, List.set_cons_succ]
        refine wpAnyH_ready (rs := [7, 8]) (by kernel_rfl) (by simp) ?_
        refine AllReadyH.cons (o := { dst := some 22, op := Go.Op.call { callee := Go.Callee.value (Go.Operand.func 26), args := #[Go.Operand.tmp 21], argTypes := #[54] }, type := 34, pos := "law.go:96", after := #[{ on := 6, ground := Go.Ground.data }, { on := 3, ground := Go.Ground.chain }], guard := none }) rfl (fun K hK => ?_) (AllReadyH.cons (o := { dst := some 4, op := Go.Op.alloc 34, type := 0, pos := "law.go:96", after := #[], guard := none }) rfl (fun K hK => ?_) AllReadyH.nil)
        ·
          (go_simp; go_at_call 26; refine (HIB.out _ HB.out).mono ?_; rintro e w' ⟨rfl, hb⟩; have HB := Lib.hid (HB.out.trans (hb.mono HB.out.size)); have HR := Lib.hid (blk_belowN hb HR.out); (try have HZ4 := Lib.hid (blk_belowN hb HZ4.out)); (try have HZ5 := Lib.hid (blk_belowN hb HZ5.out)))
          try go_wp2_with fail
          refine hK.out _ _ ?_ (fun hHeld => ?_)
          · (try dsimp only); try trivial
          clear hK K
          try simp only [Act.put, List.setIfInBounds_toArray, List.set_cons_zero, List.set_cons_succ]
          refine wpAnyH_ready (rs := [8]) (by kernel_rfl) (by simp) ?_
          refine AllReadyH.cons (o := { dst := some 4, op := Go.Op.alloc 34, type := 0, pos := "law.go:96", after := #[], guard := none }) rfl (fun K hK => ?_) AllReadyH.nil
          go_simp
          refine alloc_step hK trivial (fun W' hW' hz hHeld => ?_); have HP4 := Lib.hid (blk_ltN HR.out); (try have HNE := Lib.hid (Nat.ne_of_gt (blk_ltN HZ5.out))); have hbz := below_of_alloc hW'; have HB := Lib.hid (HB.out.trans (hbz.mono HB.out.size)); have HR := Lib.hid (blk_belowN hbz HR.out); (try have HZ5 := Lib.hid (blk_belowN hbz HZ5.out)); have HZ4 := Lib.hid hz; clear hz hW' hbz
          clear hK K
          try simp only [Act.put, List.setIfInBounds_toArray, List.set_cons_zero, List.set_cons_succ]
          refine wpAnyH_ready (rs := [10]) (by kernel_rfl) (by simp) ?_
          refine AllReadyH.cons (o := { dst := none, op := Go.Op.store 34 (Go.Operand.tmp 4) (Go.Operand.tmp 18), type := 0, pos := "law.go:96", after := #[{ on := 8, ground := Go.Ground.data }, { on := 3, ground := Go.Ground.data }, { on := 7, ground := Go.Ground.chain }, { on := 0, ground := Go.Ground.phase }, { on := 1, ground := Go.Ground.phase }, { on := 2, ground := Go.Ground.phase }, { on := 3, ground := Go.Ground.phase }, { on := 4, ground := Go.Ground.textOnly Go.Departure.lateStores }, { on := 5, ground := Go.Ground.textOnly Go.Departure.lateStores }, { on := 6, ground := Go.Ground.textOnly Go.Departure.lateStoresUnsure }, { on := 7, ground := Go.Ground.phase }, { on := 8, ground := Go.Ground.phase }, { on := 9, ground := Go.Ground.phase }], guard := none }) rfl (fun K hK => ?_) AllReadyH.nil
          (rw [if_pos (by rfl)]; refine wp_store_row _ _ _ rfl _ DA rfl rfl 34 _ HZ4.out (by rw [zA]; kernel_rfl) (by rw [zA, z32_size']) oA ?_)
          refine any_step hK trivial (fun W' hW' hHeld => ?_); have HB := Lib.hid (hW'.out ▸ below_setRow HB.out (Nat.le_of_lt HP4.out) DA); have HR := Lib.hid (hW'.out ▸ (setRow_other _ _ _ DA (Nat.ne_of_lt HP4.out)).trans HR.out); have HZ5 := Lib.hid (hW'.out ▸ (setRow_other _ _ _ DA (Ne.symm HNE.out)).trans HZ5.out); have HZ4 := Lib.hid (hW'.out ▸ setRow_heap _ _ _ DA 34 (0, 0) HZ4.out); clear hW'
          clear hK K
          try simp only [Act.put, List.setIfInBounds_toArray, List.set_cons_zero, List.set_cons_succ]
          refine wpAnyH_ready (rs := [11]) (by kernel_rfl) (by simp) ?_
          refine AllReadyH.cons (o := { dst := none, op := Go.Op.store 34 (Go.Operand.tmp 5) (Go.Operand.tmp 22), type := 0, pos := "law.go:96", after := #[{ on := 9, ground := Go.Ground.data }, { on := 7, ground := Go.Ground.data }, { on := 10, ground := Go.Ground.chain }, { on := 0, ground := Go.Ground.phase }, { on := 1, ground := Go.Ground.phase }, { on := 2, ground := Go.Ground.phase }, { on := 3, ground := Go.Ground.phase }, { on := 4, ground := Go.Ground.phase }, { on := 5, ground := Go.Ground.phase }, { on := 6, ground := Go.Ground.phase }, { on := 7, ground := Go.Ground.phase }, { on := 8, ground := Go.Ground.phase }, { on := 9, ground := Go.Ground.phase }, { on := 10, ground := Go.Ground.phase }], guard := none }) rfl (fun K hK => ?_) AllReadyH.nil
          (rw [if_pos (by rfl)]; refine wp_store_row _ _ _ rfl _ DB rfl rfl 34 _ HZ5.out (by rw [zB]; kernel_rfl) (by rw [zB, z32_size']) oB ?_)
          refine any_step hK trivial (fun W' hW' hHeld => ?_); have HB := Lib.hid (hW'.out ▸ below_setRow HB.out (Nat.le_of_lt HP5.out) DB); have HR := Lib.hid (hW'.out ▸ (setRow_other _ _ _ DB (Nat.ne_of_lt HP5.out)).trans HR.out); have HZ4 := Lib.hid (hW'.out ▸ (setRow_other _ _ _ DB HNE.out).trans HZ4.out); have HZ5 := Lib.hid (hW'.out ▸ setRow_heap _ _ _ DB 34 (0, 0) HZ5.out); clear hW'
          clear hK K
          try simp only [Act.put, List.setIfInBounds_toArray, List.set_cons_zero, List.set_cons_succ]
          refine wpAnyH_done (by kernel_rfl) ?_ _
          refine NoPanic.normal ?_
          go_wp2_with fail
          go_meet
          exact ⟨_, _, rfl, rfl, HZ4, HZ5, HR, HB⟩
        ·
          go_simp
          refine alloc_step hK trivial (fun W' hW' hz hHeld => ?_); have HP4 := Lib.hid (blk_ltN HR.out); (try have HNE := Lib.hid (Nat.ne_of_gt (blk_ltN HZ5.out))); have hbz := below_of_alloc hW'; have HB := Lib.hid (HB.out.trans (hbz.mono HB.out.size)); have HR := Lib.hid (blk_belowN hbz HR.out); (try have HZ5 := Lib.hid (blk_belowN hbz HZ5.out)); have HZ4 := Lib.hid hz; clear hz hW' hbz
          clear hK K
          try simp only [Act.put, List.setIfInBounds_toArray, List.set_cons_zero, List.set_cons_succ]
          refine wpAnyH_ready (rs := [7]) (by kernel_rfl) (by simp) ?_
          refine AllReadyH.cons (o := { dst := some 22, op := Go.Op.call { callee := Go.Callee.value (Go.Operand.func 26), args := #[Go.Operand.tmp 21], argTypes := #[54] }, type := 34, pos := "law.go:96", after := #[{ on := 6, ground := Go.Ground.data }, { on := 3, ground := Go.Ground.chain }], guard := none }) rfl (fun K hK => ?_) AllReadyH.nil
          (go_simp; go_at_call 26; refine (HIB.out _ HB.out).mono ?_; rintro e w' ⟨rfl, hb⟩; have HB := Lib.hid (HB.out.trans (hb.mono HB.out.size)); have HR := Lib.hid (blk_belowN hb HR.out); (try have HZ4 := Lib.hid (blk_belowN hb HZ4.out)); (try have HZ5 := Lib.hid (blk_belowN hb HZ5.out)))
          try go_wp2_with fail
          refine hK.out _ _ ?_ (fun hHeld => ?_)
          · (try dsimp only); try trivial
          clear hK K
          try simp only [Act.put, List.setIfInBounds_toArray, List.set_cons_zero, List.set_cons_succ]
          refine wpAnyH_ready (rs := [10]) (by kernel_rfl) (by simp) ?_
          refine AllReadyH.cons (o := { dst := none, op := Go.Op.store 34 (Go.Operand.tmp 4) (Go.Operand.tmp 18), type := 0, pos := "law.go:96", after := #[{ on := 8, ground := Go.Ground.data }, { on := 3, ground := Go.Ground.data }, { on := 7, ground := Go.Ground.chain }, { on := 0, ground := Go.Ground.phase }, { on := 1, ground := Go.Ground.phase }, { on := 2, ground := Go.Ground.phase }, { on := 3, ground := Go.Ground.phase }, { on := 4, ground := Go.Ground.textOnly Go.Departure.lateStores }, { on := 5, ground := Go.Ground.textOnly Go.Departure.lateStores }, { on := 6, ground := Go.Ground.textOnly Go.Departure.lateStoresUnsure }, { on := 7, ground := Go.Ground.phase }, { on := 8, ground := Go.Ground.phase }, { on := 9, ground := Go.Ground.phase }], guard := none }) rfl (fun K hK => ?_) AllReadyH.nil
          (rw [if_pos (by rfl)]; refine wp_store_row _ _ _ rfl _ DA rfl rfl 34 _ HZ4.out (by rw [zA]; kernel_rfl) (by rw [zA, z32_size']) oA ?_)
          refine any_step hK trivial (fun W' hW' hHeld => ?_); have HB := Lib.hid (hW'.out ▸ below_setRow HB.out (Nat.le_of_lt HP4.out) DA); have HR := Lib.hid (hW'.out ▸ (setRow_other _ _ _ DA (Nat.ne_of_lt HP4.out)).trans HR.out); have HZ5 := Lib.hid (hW'.out ▸ (setRow_other _ _ _ DA (Ne.symm HNE.out)).trans HZ5.out); have HZ4 := Lib.hid (hW'.out ▸ setRow_heap _ _ _ DA 34 (0, 0) HZ4.out); clear hW'
          clear hK K
          try simp only [Act.put, List.setIfInBounds_toArray, List.set_cons_zero, List.set_cons_succ]
          refine wpAnyH_ready (rs := [11]) (by kernel_rfl) (by simp) ?_
          refine AllReadyH.cons (o := { dst := none, op := Go.Op.store 34 (Go.Operand.tmp 5) (Go.Operand.tmp 22), type := 0, pos := "law.go:96", after := #[{ on := 9, ground := Go.Ground.data }, { on := 7, ground := Go.Ground.data }, { on := 10, ground := Go.Ground.chain }, { on := 0, ground := Go.Ground.phase }, { on := 1, ground := Go.Ground.phase }, { on := 2, ground := Go.Ground.phase }, { on := 3, ground := Go.Ground.phase }, { on := 4, ground := Go.Ground.phase }, { on := 5, ground := Go.Ground.phase }, { on := 6, ground := Go.Ground.phase }, { on := 7, ground := Go.Ground.phase }, { on := 8, ground := Go.Ground.phase }, { on := 9, ground := Go.Ground.phase }, { on := 10, ground := Go.Ground.phase }], guard := none }) rfl (fun K hK => ?_) AllReadyH.nil
          (rw [if_pos (by rfl)]; refine wp_store_row _ _ _ rfl _ DB rfl rfl 34 _ HZ5.out (by rw [zB]; kernel_rfl) (by rw [zB, z32_size']) oB ?_)
          refine any_step hK trivial (fun W' hW' hHeld => ?_); have HB := Lib.hid (hW'.out ▸ below_setRow HB.out (Nat.le_of_lt HP5.out) DB); have HR := Lib.hid (hW'.out ▸ (setRow_other _ _ _ DB (Nat.ne_of_lt HP5.out)).trans HR.out); have HZ4 := Lib.hid (hW'.out ▸ (setRow_other _ _ _ DB HNE.out).trans HZ4.out); have HZ5 := Lib.hid (hW'.out ▸ setRow_heap _ _ _ DB 34 (0, 0) HZ5.out); clear hW'
          clear hK K
          try simp only [Act.put, List.setIfInBounds_toArray, List.set_cons_zero, List.set_cons_succ]
          refine wpAnyH_done (by kernel_rfl) ?_ _
          refine NoPanic.normal ?_
          go_wp2_with fail
          go_meet
          exact ⟨_, _, rfl, rfl, HZ4, HZ5, HR, HB⟩
      ·
        go_simp
        refine alloc_step hK trivial (fun W' hW' hz hHeld => ?_); have HP4 := Lib.hid (blk_ltN HR.out); (try have HNE := Lib.hid (Nat.ne_of_gt (blk_ltN HZ5.out))); have hbz := below_of_alloc hW'; have HB := Lib.hid (HB.out.trans (hbz.mono HB.out.size)); have HR := Lib.hid (blk_belowN hbz HR.out); (try have HZ5 := Lib.hid (blk_belowN hbz HZ5.out)); have HZ4 := Lib.hid hz; clear hz hW' hbz
        clear hK K
        try simp only [Act.put, List.setIfInBounds_toArray, List.set_cons_zero, List.set_cons_succ]
        refine wpAnyH_ready (rs := [3]) (by kernel_rfl) (by simp) ?_
        refine AllReadyH.cons (o := { dst := some 18, op := Go.Op.call { callee := Go.Callee.value (Go.Operand.func 26), args := #[Go.Operand.tmp 17], argTypes := #[54] }, type := 34, pos := "law.go:96", after := #[{ on := 2, ground := Go.Ground.data }], guard := none }) rfl (fun K hK => ?_) AllReadyH.nil
        (go_simp; go_at_call 26; refine (HIA.out _ HB.out).mono ?_; rintro e w' ⟨rfl, hb⟩; have HB := Lib.hid (HB.out.trans (hb.mono HB.out.size)); have HR := Lib.hid (blk_belowN hb HR.out); (try have HZ4 := Lib.hid (blk_belowN hb HZ4.out)); (try have HZ5 := Lib.hid (blk_belowN hb HZ5.out)))
        try go_wp2_with fail
        refine hK.out _ _ ?_ (fun hHeld => ?_)
        · (try dsimp only); try trivial
        clear hK K
        try simp only [Act.put, List.setIfInBounds_toArray, List.set_cons_zero, List.set_cons_succ]
        refine wpAnyH_ready (rs := [7]) (by kernel_rfl) (by simp) ?_
        refine AllReadyH.cons (o := { dst := some 22, op := Go.Op.call { callee := Go.Callee.value (Go.Operand.func 26), args := #[Go.Operand.tmp 21], argTypes := #[54] }, type := 34, pos := "law.go:96", after := #[{ on := 6, ground := Go.Ground.data }, { on := 3, ground := Go.Ground.chain }], guard := none }) rfl (fun K hK => ?_) AllReadyH.nil
        (go_simp; go_at_call 26; refine (HIB.out _ HB.out).mono ?_; rintro e w' ⟨rfl, hb⟩; have HB := Lib.hid (HB.out.trans (hb.mono HB.out.size)); have HR := Lib.hid (blk_belowN hb HR.out); (try have HZ4 := Lib.hid (blk_belowN hb HZ4.out)); (try have HZ5 := Lib.hid (blk_belowN hb HZ5.out)))
        try go_wp2_with fail
        refine hK.out _ _ ?_ (fun hHeld => ?_)
        · (try dsimp only); try trivial
        clear hK K
        try simp only [Act.put, List.setIfInBounds_toArray, List.set_cons_zero, List.set_cons_succ]
        refine wpAnyH_ready (rs := [10]) (by kernel_rfl) (by simp) ?_
        refine AllReadyH.cons (o := { dst := none, op := Go.Op.store 34 (Go.Operand.tmp 4) (Go.Operand.tmp 18), type := 0, pos := "law.go:96", after := #[{ on := 8, ground := Go.Ground.data }, { on := 3, ground := Go.Ground.data }, { on := 7, ground := Go.Ground.chain }, { on := 0, ground := Go.Ground.phase }, { on := 1, ground := Go.Ground.phase }, { on := 2, ground := Go.Ground.phase }, { on := 3, ground := Go.Ground.phase }, { on := 4, ground := Go.Ground.textOnly Go.Departure.lateStores }, { on := 5, ground := Go.Ground.textOnly Go.Departure.lateStores }, { on := 6, ground := Go.Ground.textOnly Go.Departure.lateStoresUnsure }, { on := 7, ground := Go.Ground.phase }, { on := 8, ground := Go.Ground.phase }, { on := 9, ground := Go.Ground.phase }], guard := none }) rfl (fun K hK => ?_) AllReadyH.nil
        (rw [if_pos (by rfl)]; refine wp_store_row _ _ _ rfl _ DA rfl rfl 34 _ HZ4.out (by rw [zA]; kernel_rfl) (by rw [zA, z32_size']) oA ?_)
        refine any_step hK trivial (fun W' hW' hHeld => ?_); have HB := Lib.hid (hW'.out ▸ below_setRow HB.out (Nat.le_of_lt HP4.out) DA); have HR := Lib.hid (hW'.out ▸ (setRow_other _ _ _ DA (Nat.ne_of_lt HP4.out)).trans HR.out); have HZ5 := Lib.hid (hW'.out ▸ (setRow_other _ _ _ DA (Ne.symm HNE.out)).trans HZ5.out); have HZ4 := Lib.hid (hW'.out ▸ setRow_heap _ _ _ DA 34 (0, 0) HZ4.out); clear hW'
        clear hK K
        try simp only [Act.put, List.setIfInBounds_toArray, List.set_cons_zero, List.set_cons_succ]
        refine wpAnyH_ready (rs := [11]) (by kernel_rfl) (by simp) ?_
        refine AllReadyH.cons (o := { dst := none, op := Go.Op.store 34 (Go.Operand.tmp 5) (Go.Operand.tmp 22), type := 0, pos := "law.go:96", after := #[{ on := 9, ground := Go.Ground.data }, { on := 7, ground := Go.Ground.data }, { on := 10, ground := Go.Ground.chain }, { on := 0, ground := Go.Ground.phase }, { on := 1, ground := Go.Ground.phase }, { on := 2, ground := Go.Ground.phase }, { on := 3, ground := Go.Ground.phase }, { on := 4, ground := Go.Ground.phase }, { on := 5, ground := Go.Ground.phase }, { on := 6, ground := Go.Ground.phase }, { on := 7, ground := Go.Ground.phase }, { on := 8, ground := Go.Ground.phase }, { on := 9, ground := Go.Ground.phase }, { on := 10, ground := Go.Ground.phase }], guard := none }) rfl (fun K hK => ?_) AllReadyH.nil
        (rw [if_pos (by rfl)]; refine wp_store_row _ _ _ rfl _ DB rfl rfl 34 _ HZ5.out (by rw [zB]; kernel_rfl) (by rw [zB, z32_size']) oB ?_)
        refine any_step hK trivial (fun W' hW' hHeld => ?_); have HB := Lib.hid (hW'.out ▸ below_setRow HB.out (Nat.le_of_lt HP5.out) DB); have HR := Lib.hid (hW'.out ▸ (setRow_other _ _ _ DB (Nat.ne_of_lt HP5.out)).trans HR.out); have HZ4 := Lib.hid (hW'.out ▸ (setRow_other _ _ _ DB HNE.out).trans HZ4.out); have HZ5 := Lib.hid (hW'.out ▸ setRow_heap _ _ _ DB 34 (0, 0) HZ5.out); clear hW'
        clear hK K
        try simp only [Act.put, List.setIfInBounds_toArray, List.set_cons_zero, List.set_cons_succ]
        refine wpAnyH_done (by kernel_rfl) ?_ _
        refine NoPanic.normal ?_
        go_wp2_with fail
        go_meet
        exact ⟨_, _, rfl, rfl, HZ4, HZ5, HR, HB⟩
  case rest =>
    obtain ⟨p4, p5, rfl, rfl, H4, H5, HR, HB⟩ := hcut
    have h4 := H4.out
    have h5 := H5.out
    have hr := HR.out
    have hadd1 := HA1.out
    have hadd2 := HA2.out
    have hb0 := HB.out.size
    go_upto_region 5 with fail
    refine wp_region_lin (S := (fun w' => w'.heap[p4]? = some (.cells DA 34 (0, 0)) ∧ w'.heap[p5]? = some (.cells DB 34 (0, 0)))) [(0, true), (1, true), (2, true), (3, true), (4, true), (5, true), (6, false), (7, false)] (by kernel_rfl) (by kernel_rfl) rfl (by kernel_rfl) ?_ (fun hHeld => ?_)
    · (try dsimp only); exact ⟨h4, h5⟩
    (refine wpL_calm (o := { dst := some 23, op := Go.Op.slice 34 (Go.Operand.tmp 4) none none none, type := 65, pos := "law.go:97", after := #[], guard := none }) (v := ?_) rfl (Or.inl ⟨by rfl, ?_⟩) ?_; rotate_left; (focus (intro w hSw; (try dsimp only at hSw); go_simp; (try (with_reducible rfl)); done)); try simp only [Act.put, List.setIfInBounds_toArray, List.set_cons_zero, List.set_cons_succ])
    refine wpL_calm (o := { dst := some 24, op := Go.Op.convert 65 9 (Go.Operand.tmp 23), type := 9, pos := "law.go:97", after := #[{ on := 0, ground := Go.Ground.data }], guard := none }) (v := .string sA) rfl (Or.inl ⟨by rfl, ?_⟩) ?_; (focus (intro w hSw; have hl := HCA.out _ _ hSw.1; go_simp))
    try simp only [Act.put, List.setIfInBounds_toArray, List.set_cons_zero, List.set_cons_succ]
    (refine wpL_calm (o := { dst := some 25, op := Go.Op.binOp Go.BinOp.add 9 (Go.Operand.const (Go.Value.string { data := #[1] })) (Go.Operand.tmp 24) 9, type := 9, pos := "law.go:97", after := #[{ on := 1, ground := Go.Ground.data }], guard := none }) (v := ?_) rfl (Or.inl ⟨by rfl, ?_⟩) ?_; rotate_left; (focus (intro w hSw; (try dsimp only at hSw); go_simp; (try (with_reducible rfl)); done)); try simp only [Act.put, List.setIfInBounds_toArray, List.set_cons_zero, List.set_cons_succ])
    (refine wpL_calm (o := { dst := some 26, op := Go.Op.slice 34 (Go.Operand.tmp 5) none none none, type := 65, pos := "law.go:97", after := #[], guard := none }) (v := ?_) rfl (Or.inl ⟨by rfl, ?_⟩) ?_; rotate_left; (focus (intro w hSw; (try dsimp only at hSw); go_simp; (try (with_reducible rfl)); done)); try simp only [Act.put, List.setIfInBounds_toArray, List.set_cons_zero, List.set_cons_succ])
    refine wpL_calm (o := { dst := some 27, op := Go.Op.convert 65 9 (Go.Operand.tmp 26), type := 9, pos := "law.go:97", after := #[{ on := 3, ground := Go.Ground.data }], guard := none }) (v := .string sb) rfl (Or.inl ⟨by rfl, ?_⟩) ?_; (focus (intro w hSw; have hl := HCB.out _ _ hSw.2; go_simp))
    try simp only [Act.put, List.setIfInBounds_toArray, List.set_cons_zero, List.set_cons_succ]
    (refine wpL_calm (o := { dst := some 28, op := Go.Op.binOp Go.BinOp.add 9 (Go.Operand.tmp 25) (Go.Operand.tmp 27) 9, type := 9, pos := "law.go:97", after := #[{ on := 2, ground := Go.Ground.data }, { on := 4, ground := Go.Ground.data }], guard := none }) (v := ?_) rfl (Or.inl ⟨by rfl, ?_⟩) ?_; rotate_left; (focus (intro w hSw; (try dsimp only at hSw); go_simp; (try (with_reducible rfl)); done)); try simp only [Act.put, List.setIfInBounds_toArray, List.set_cons_zero, List.set_cons_succ])
    refine wpL_loud0 (o := { dst := some 29, op := Go.Op.call { callee := Go.Callee.value (Go.Operand.func 14), args := #[Go.Operand.tmp 28], argTypes := #[9] }, type := 34, pos := "law.go:97", after := #[{ on := 5, ground := Go.Ground.data }], guard := none }) rfl (by kernel_rfl) (fun K hK => ?_)
    (go_simp; go_at_call 14; refine (HSU.out _ (hG.below HB.out.drew)).mono ?_; rintro e w5 ⟨rfl, hb5⟩; have hr5 := blk_belowN (w := wc.drew) hb5 hr)
    try go_wp2_with fail
    refine hK.out _ _ ?_
    clear hK K
    try simp only [Act.put, List.setIfInBounds_toArray, List.set_cons_zero, List.set_cons_succ]
    refine wpL_loud0 (o := { dst := none, op := Go.Op.store 34 (Go.Operand.tmp 2) (Go.Operand.tmp 29), type := 0, pos := "law.go:97", after := #[{ on := 6, ground := Go.Ground.data }, { on := 6, ground := Go.Ground.chain }, { on := 0, ground := Go.Ground.phase }, { on := 1, ground := Go.Ground.phase }, { on := 2, ground := Go.Ground.phase }, { on := 3, ground := Go.Ground.phase }, { on := 4, ground := Go.Ground.phase }, { on := 5, ground := Go.Ground.phase }, { on := 6, ground := Go.Ground.phase }], guard := none }) rfl (by kernel_rfl) (fun K hK => ?_)
    (rw [if_pos (by rfl)]; refine wp_store_row _ _ _ rfl w.heap.size DN rfl rfl 34 _ hr5 (by rw [zN]; kernel_rfl) (by rw [zN, z32_size']) oN ?_)
    refine hK.out _ _ ?_
    clear hK K
    try simp only [Act.put, List.setIfInBounds_toArray, List.set_cons_zero, List.set_cons_succ]
    refine wpL_nil ?_
    refine NoPanic.normal ?_
    go_wp2_with fail
    refine bodyPost_ret_by (results_cell_row rfl _ _ w.heap.size 34 DN (0, 0) _ rfl (setRow_heap _ _ _ DN 34 (0, 0) hr5) Tryd.underlying34 rfl (by rw [zN]; kernel_rfl)) rfl ⟨rfl, ?_⟩
    exact below_setRow (HB.out.drew.trans (hb5.mono HB.out.size)) (Nat.le_refl _) _
theorem lawRoot_any : ∀ k, k ≤ 6 → RootAt k
  | 0, _ => fun L g o c w hG hL h32 hr hg hc _ => lawRoot_zero L g o c w hL h32 hr hg hc
  | k + 1, h => fun L g o c w hG hL h32 hr hg hc hcm => lawRoot_succ k (by omega) (lawRoot_any k (by omega)) L g o c w hG hL h32 hr hg hc hcm
end Go.Proofs.YtaneecmfgfkaaaaDoor
