/- The reference's devices: New. -/
import Derived.Test.YtjmginkkjkbpoaaRwC
import Derived.Test.YtjmginkkjkbpoaaAp2
namespace Go.Proofs.Ytjmginkkjkbpoaa
open Go.RowKit Go.Deep
set_option linter.unusedVariables false
set_option linter.unusedSimpArgs false
theorem own_block_type {w : World} {base n size k : Nat} {e : TypeId} {v : Value} {xs : List Value} (h : w.ownsRow base e size v n xs) (hv : v.ownBlock = some k) : ∃ cs, w.heap[k]? = some (.cells cs e (0, 0)) := by
  rcases h.2 with ⟨rfl, _⟩ | ⟨g', cap, cur, rfl, _, hg', _⟩
  · cases hv
  · simp [Value.ownBlock] at hv
    subst hv
    exact ⟨_, hg'⟩
theorem own_types {w : World} {b1 b2 n1 n2 s1 s2 : Nat} {e1 e2 : TypeId} {v1 v2 : Value} {x1 x2 : List Value} (h1 : w.ownsRow b1 e1 s1 v1 n1 x1) (h2 : w.ownsRow b2 e2 s2 v2 n2 x2) (hne : e1 ≠ e2) : v1.ownBlock = none ∨ v1.ownBlock ≠ v2.ownBlock := by
  cases hv : v1.ownBlock with
  | none => exact Or.inl rfl
  | some k =>
    refine Or.inr fun e => ?_
    obtain ⟨c1, q1⟩ := own_block_type h1 hv
    obtain ⟨c2, q2⟩ := own_block_type h2 e.symm
    rw [q1] at q2
    injection q2 with q2
    injection q2 with _ q
    exact hne q
theorem own_keepN {w w' : World} {base n size : Nat} {e : TypeId} {v : Value} {xs : List Value} (h3 : w.ownsRow base e size v n xs) (hb : Below w.heap.size w w') : w'.ownsRow base e size v n xs := by
  refine ⟨h3.1, ?_⟩
  rcases h3.2 with h | ⟨g2, cap, cur, rfl, q1, q2, q3⟩
  · exact Or.inl h
  · exact Or.inr ⟨g2, cap, cur, rfl, q1, (hb.block g2 (Array.getElem?_eq_some_iff.1 q2).1).trans q2, q3⟩
theorem own_setN {w : World} {base g : Nat} {e : TypeId} {size n : Nat} {v u : Value} {xs : List Value} (h : w.ownsRow base e size v n xs) (hg : g < base) (o : Nat) : (w.setCell ⟨g, o, none⟩ u).ownsRow base e size v n xs := by
  refine ⟨h.1, ?_⟩
  rcases h.2 with h | ⟨g2, cap, cur, rfl, q1, q2, q3⟩
  · exact Or.inl h
  · exact Or.inr ⟨g2, cap, cur, rfl, q1, (Below.heap_setCell w _ u g2 (fun e => by have e' : g2 = g := e; omega)).trans q2, q3⟩
/-- A device on its way. -/
structure NwAt (w : World) (b g i0 i1 i2 : Nat) (v0 v1 v2 : Value) (T0 T1 : Nat → ByteArray) (T2 : Nat → Bool) : Prop where
  row : w.heap[g]? = some (.cells #[v0, v1, v2] 79 (0, 0))
  o0 : w.ownsRow b 9 1 v0 i0 (txV T0 i0)
  o1 : w.ownsRow b 9 1 v1 i1 (txV T1 i1)
  o2 : w.ownsRow b 4 1 v2 i2 (boV T2 i2)
  ne : ∀ k, v0.ownBlock = some k → v1.ownBlock ≠ some k
  hb : g < b
theorem NwAt.below {w w' : World} {b g i0 i1 i2 : Nat} {v0 v1 v2 : Value} {T0 T1 : Nat → ByteArray} {T2 : Nat → Bool} (h : NwAt w b g i0 i1 i2 v0 v1 v2 T0 T1 T2) (hb : Below w.heap.size w w') : NwAt w' b g i0 i1 i2 v0 v1 v2 T0 T1 T2 :=
  ⟨(hb.block _ (Array.getElem?_eq_some_iff.1 h.row).1).trans h.row, own_keepN h.o0 hb, own_keepN h.o1 hb, own_keepN h.o2 hb, h.ne, h.hb⟩
theorem NwAt.off {w w' : World} {b g i0 i1 i2 : Nat} {v0 v1 v2 v : Value} {T0 T1 : Nat → ByteArray} {T2 : Nat → Bool} {e : TypeId} {n : Nat} {xs : List Value} (h : NwAt w b g i0 i1 i2 v0 v1 v2 T0 T1 T2) (ho : w.ownsRow b e 1 v n xs) (G : w.grownBy w' v.ownBlock) : w'.heap[g]? = some (.cells #[v0, v1, v2] 79 (0, 0)) :=
  (G.block g (Array.getElem?_eq_some_iff.1 h.row).1 (fun e => by have := (ho.lt g e.symm).1; have := h.hb; omega)).trans h.row
theorem NwAt.add0 {w w' : World} {b g i0 i1 i2 : Nat} {v0 v1 v2 v : Value} {T0 T1 : Nat → ByteArray} {T2 : Nat → Bool} {s : ByteArray} (h : NwAt w b g i0 i1 i2 v0 v1 v2 T0 T1 T2) (O : w'.ownsRow b 9 1 v (i0 + 1) (txV T0 i0 ++ [.string s])) (G : w.grownBy w' v0.ownBlock) (hs : v.ownBlock = v0.ownBlock ∨ v.ownBlock = some w.heap.size) (hsn : txV (fun k => if k = i0 then s else T0 k) (i0 + 1) = txV T0 i0 ++ [.string s]) :
    NwAt (w'.setCell ⟨g, 0, none⟩ v) b g (i0 + 1) i1 i2 v v1 v2 (fun k => if k = i0 then s else T0 k) T1 T2 := by
  have hrow := h.off h.o0 G
  refine ⟨heap_set hrow, own_setN (by rw [hsn]; exact O) h.hb 0, own_setN (h.o1.kept G ?_) h.hb 0, own_setN (h.o2.kept G (own_types h.o2 h.o0 (by decide))) h.hb 0, fun k hk e => ?_, h.hb⟩
  · cases hv : v1.ownBlock with
    | none => exact Or.inl rfl
    | some k => exact Or.inr (fun e => h.ne k e.symm hv)
  · rcases hs with hs | hs
    · exact h.ne k (hs ▸ hk) e
    · rw [hs] at hk
      injection hk with hk
      have := (h.o1.lt k e).2
      omega
theorem NwAt.add1 {w w' : World} {b g i0 i1 i2 : Nat} {v0 v1 v2 v : Value} {T0 T1 : Nat → ByteArray} {T2 : Nat → Bool} {s : ByteArray} (h : NwAt w b g i0 i1 i2 v0 v1 v2 T0 T1 T2) (O : w'.ownsRow b 9 1 v (i1 + 1) (txV T1 i1 ++ [.string s])) (G : w.grownBy w' v1.ownBlock) (hs : v.ownBlock = v1.ownBlock ∨ v.ownBlock = some w.heap.size) (hsn : txV (fun k => if k = i1 then s else T1 k) (i1 + 1) = txV T1 i1 ++ [.string s]) :
    NwAt (w'.setCell ⟨g, 1, none⟩ v) b g i0 (i1 + 1) i2 v0 v v2 T0 (fun k => if k = i1 then s else T1 k) T2 := by
  have hrow := h.off h.o1 G
  refine ⟨heap_set hrow, own_setN (h.o0.kept G ?_) h.hb 1, own_setN (by rw [hsn]; exact O) h.hb 1, own_setN (h.o2.kept G (own_types h.o2 h.o1 (by decide))) h.hb 1, fun k hk e => ?_, h.hb⟩
  · cases hv : v0.ownBlock with
    | none => exact Or.inl rfl
    | some k => exact Or.inr (fun e => h.ne k hv e.symm)
  · rcases hs with hs | hs
    · exact h.ne k hk (hs ▸ e)
    · rw [hs] at e
      injection e with e
      have := (h.o0.lt k hk).2
      omega
theorem boV_snoc (T : Nat → Bool) (n : Nat) (s : Bool) : boV (fun k => if k = n then s else T k) (n + 1) = boV T n ++ [.bool s] := by
  unfold boV
  rw [List.range_succ, List.map_append, List.map_singleton]
  dsimp only
  rw [if_pos rfl]
  congr 1
  exact List.map_congr_left fun k hk => by rw [if_neg (by have := List.mem_range.1 hk; omega)]
theorem NwAt.add2 {w w' : World} {b g i0 i1 i2 : Nat} {v0 v1 v2 v : Value} {T0 T1 : Nat → ByteArray} {T2 : Nat → Bool} {s : Bool} (h : NwAt w b g i0 i1 i2 v0 v1 v2 T0 T1 T2) (O : w'.ownsRow b 4 1 v (i2 + 1) (boV T2 i2 ++ [.bool s])) (G : w.grownBy w' v2.ownBlock) :
    NwAt (w'.setCell ⟨g, 2, none⟩ v) b g i0 i1 (i2 + 1) v0 v1 v T0 T1 (fun k => if k = i2 then s else T2 k) := by
  have hrow := h.off h.o2 G
  exact ⟨heap_set hrow, own_setN (h.o0.kept G (own_types h.o0 h.o2 (by decide))) h.hb 2, own_setN (h.o1.kept G (own_types h.o1 h.o2 (by decide))) h.hb 2, own_setN (by rw [boV_snoc]; exact O) h.hb 2, h.ne, h.hb⟩
theorem txV_snocN (T : Nat → ByteArray) (n : Nat) (s : ByteArray) : txV (fun k => if k = n then s else T k) (n + 1) = txV T n ++ [.string s] := by
  unfold txV
  rw [List.range_succ, List.map_append, List.map_singleton]
  dsimp only
  rw [if_pos rfl]
  congr 1
  exact List.map_congr_left fun k hk => by rw [if_neg (by have := List.mem_range.1 hk; omega)]
theorem size_allN {T : Nat → ByteArray} {i : Nat} {s : ByteArray} (h : ∀ j, j < i → (T j).size = 64) (hs : s.size = 64) : ∀ j, j < i + 1 → ((fun k => if k = i then s else T k) j).size = 64 := fun j hj => by
  dsimp only
  split
  · exact hs
  · exact h j (by omega)
theorem one_atN (w : World) (t : TypeId) (v : Value) : ∀ j u, [v][j]? = some u → (w.alloc (.cells #[v] t)).cell? ((⟨w.heap.size, 0, none⟩ : Addr).add j) = some u := by
  intro j u hu
  rw [Addr.add_lit, Nat.zero_add, cell_of_row _ _ j _ _ _ (heap_alloc_new _ _)]
  simpa using hu
theorem own_atN {w : World} {base n : Nat} {e : TypeId} {v : Value} {xs : List Value} (h : w.ownsRow base e 1 v n xs) : ∃ a c, v = .slice a n c := by
  rcases h.2 with ⟨rfl, h0⟩ | ⟨g, cap, cur, rfl, _⟩
  · exact ⟨none, 0, by rw [h0]⟩
  · exact ⟨_, _, rfl⟩
theorem src_one (w : World) {tx e : TypeId} (t : TypeId) (v : Value) (hk : Try.prog.underlying tx = some (.slice e)) (h1 : v.oneCell' = true) : Src Try.prog 1 tx (.slice (some ⟨w.heap.size, 0, none⟩) 1 1) 1 [v] (w.alloc (.cells #[v] t)) :=
  Src.ofSlice _ hk ⟨w.heap.size, 0, none⟩ 1 1 [v] rfl (one_atN w t v) (fun u hu => by simp at hu; subst hu; exact h1)
theorem zer_size : (⟨(List.replicate 64 (0 : UInt8)).toArray⟩ : ByteArray).size = 64 := by rw [bytes_size, List.length_replicate]
set_option maxRecDepth 100000 in
set_option maxHeartbeats 8000000 in
theorem dvNew_any (w : World) : Calls Try.prog 28 #[.int .i64 288] w fun e w' => ∃ g, e = .returned (.pointer (some ⟨g, 0, none⟩)) ∧ DAt w' w.heap.size g ∧ Below w.heap.size w w' := by
  obtain ⟨is, his, hs0, hs1, hs2⟩ := inf12 inf12s
  obtain ⟨ib, hib, hb0, hb1, hb2⟩ := inf12 inf12b
  have PZ := Lib.hid (fun w => zeros_any 64 w (by omega))
  rw [show ((64 : Nat) : Int) = 64 from rfl] at PZ
  have HZS := Lib.hid zer_size
  generalize (⟨(List.replicate 64 (0 : UInt8)).toArray⟩ : ByteArray) = zt at *
  obtain ⟨w1, HW, HR, HB⟩ : ∃ w1, Hid (w.alloc (.cells #[.slice none 0 0, .slice none 0 0, .slice none 0 0] 79) = w1) ∧ Hid (w1.heap[w.heap.size]? = some (.cells #[.slice none 0 0, .slice none 0 0, .slice none 0 0] 79 (0, 0))) ∧ Hid (Below w.heap.size w w1) := ⟨_, Lib.hid rfl, Lib.hid (heap_alloc_new _ _), Lib.hid ((Below.refl _ _).alloc (Nat.le_refl _) _)⟩
  have hz1 : w.heap.size < w1.heap.size := (Array.getElem?_eq_some_iff.1 HR.out).1
  have HN0 : Hid (NwAt w1 w1.heap.size w.heap.size 0 0 0 (.slice none 0 0) (.slice none 0 0) (.slice none 0 0) (fun _ => ⟨#[]⟩) (fun _ => ⟨#[]⟩) (fun _ => false)) := Lib.hid ⟨HR.out, World.ownsRow_nil _ _ _ _, World.ownsRow_nil _ _ _ _, World.ownsRow_nil _ _ _ _, (fun k h => by cases h), hz1⟩
  have HS0 : Hid (∀ j, j < 0 → ((fun _ => ⟨#[]⟩ : Nat → ByteArray) j).size = 64) := Lib.hid (fun j hj => absurd hj (by omega))
  have HB0 : Hid (Below w1.heap.size w1 w1 ∨ True) := Lib.hid (Or.inr trivial)
  go_enter Try.func28, Try.ntmps28
  go_upto_region 2 with fail
  rw [HW.out]
  clear HW
  obtain ⟨g, hg⟩ : ∃ g, Hid (w.heap.size = g) := ⟨_, Lib.hid rfl⟩
  rw [hg.out] at HR HB hz1 HN0 ⊢
  go_wp2_with fail
  go_loopw [4] (fun x wi => ∃ (i : Nat) (v0 v1 v2 : Value) (T0 T1 : Nat → ByteArray) (T2 : Nat → Bool), x = .int .i64 (i : Int) ∧ i ≤ 288 ∧ w1.heap.size ≤ wi.heap.size ∧ Hid (NwAt wi w1.heap.size g i i i v0 v1 v2 T0 T1 T2) ∧ Hid (∀ j, j < i → (T0 j).size = 64) ∧ Hid (∀ j, j < i → (T1 j).size = 64) ∧ Hid (Below g w wi)) (fun x _ => 288 - (intOf x).toNat)
  case atStart => exact ⟨0, _, _, _, _, _, _, rfl, by omega, Nat.le_refl _, HN0, HS0, HS0, HB⟩
  case round =>
    obtain ⟨i, v0, v1, v2, T0, T1, T2, rfl, hi, hz, HN, HT0, HT1, HBi⟩ := hrel
    by_cases hlt : i < 288
    · as_aux_lemma =>
      have hli : (i : Int) < 288 := by omega
      obtain ⟨a0, c0, rfl⟩ := own_atN HN.out.o0
      obtain ⟨a1, c1, rfl⟩ := own_atN HN.out.o1
      obtain ⟨a2, c2, rfl⟩ := own_atN HN.out.o2
      have d0 := (dv_cells HN.out.row).1
      go_upto_region 5 with fail
      refine wp_region_lin (S := (fun w' => w'.cell? ⟨g, 0, none⟩ = some (.slice a0 i c0))) [(0, true), (1, true), (2, true), (3, true), (4, true), (5, false), (6, false), (7, false), (8, true), (9, true), (10, false)] (by kernel_rfl) (by kernel_rfl) rfl (by kernel_rfl) ?_ (fun hHeld => ?_)
      · (try dsimp only); exact d0
      have HBD : Hid (Below wr.heap.size wr wr.drew) := Lib.hid (Below.refl _ _).drew
      generalize World.drew wr = w2 at hHeld HBD ⊢
      (refine wpL_calm (o := { dst := some 12, op := Go.Op.move (Go.Operand.tmp 3), type := 59, pos := "ref.go:19", after := #[], guard := none }) (v := ?_) rfl (Or.inl ⟨by rfl, ?_⟩) ?_; rotate_left; (focus (intro w hSw; (try dsimp only at hSw); go_simp; (try (with_reducible rfl)); done)); try simp only [Act.put, List.setIfInBounds_toArray, List.set_cons_zero, List.set_cons_succ])
      (refine wpL_calm (o := { dst := some 13, op := Go.Op.move (Go.Operand.tmp 3), type := 59, pos := "ref.go:19", after := #[], guard := none }) (v := ?_) rfl (Or.inl ⟨by rfl, ?_⟩) ?_; rotate_left; (focus (intro w hSw; (try dsimp only at hSw); go_simp; (try (with_reducible rfl)); done)); try simp only [Act.put, List.setIfInBounds_toArray, List.set_cons_zero, List.set_cons_succ])
      (refine wpL_calm (o := { dst := some 14, op := Go.Op.nilCheck (Go.Operand.tmp 13), type := 0, pos := "ref.go:19", after := #[{ on := 1, ground := Go.Ground.data }], guard := none }) (v := ?_) rfl (Or.inl ⟨by rfl, ?_⟩) ?_; rotate_left; (focus (intro w hSw; (try dsimp only at hSw); go_simp; (try (with_reducible rfl)); done)); try simp only [Act.put, List.setIfInBounds_toArray, List.set_cons_zero, List.set_cons_succ])
      (refine wpL_calm (o := { dst := some 15, op := Go.Op.fieldAddr 79 (Go.Operand.tmp 14) 0, type := 0, pos := "ref.go:19", after := #[{ on := 2, ground := Go.Ground.data }], guard := none }) (v := ?_) rfl (Or.inl ⟨by rfl, ?_⟩) ?_; rotate_left; (focus (intro w hSw; (try dsimp only at hSw); go_simp; (try (with_reducible rfl)); done)); try simp only [Act.put, List.setIfInBounds_toArray, List.set_cons_zero, List.set_cons_succ])
      (refine wpL_calm (o := { dst := some 16, op := Go.Op.load 77 (Go.Operand.tmp 15), type := 77, pos := "ref.go:19", after := #[{ on := 3, ground := Go.Ground.data }], guard := none }) (v := ?_) rfl (Or.inl ⟨by rfl, ?_⟩) ?_; rotate_left; (focus (intro w hSw; (try dsimp only at hSw); go_simp; (try (with_reducible rfl)); done)); try simp only [Act.put, List.setIfInBounds_toArray, List.set_cons_zero, List.set_cons_succ])
      refine wpL_loud1 (o := { dst := some 17, op := Go.Op.call { callee := Go.Callee.value (Go.Operand.func 7), args := #[Go.Operand.const (Go.Value.int Go.IntKind.i64 64)], argTypes := #[3] }, type := 9, pos := "ref.go:19", after := #[], guard := none }) rfl (fun K hK => ?_)
      (go_simp; go_at_call 7; refine (PZ.out _).mono ?_; rintro e w3 ⟨rfl, b3⟩)
      try go_wp2_with fail
      refine hK.out _ _ ?_ (fun hHeld => ?_)
      · (try dsimp only); exact (dv_cells (HN.out.below (HBD.out.trans (b3.mono HBD.out.size))).row).1
      clear hK K
      try simp only [Act.put, List.setIfInBounds_toArray, List.set_cons_zero, List.set_cons_succ]
      have HB3 := Lib.hid (HBD.out.trans (b3.mono HBD.out.size)); clear b3
      refine wpL_loud1 (o := { dst := some 18, op := Go.Op.buildSlice 77 1 #[(0, Go.Operand.tmp 17)], type := 77, pos := "ref.go:19", after := #[{ on := 5, ground := Go.Ground.data }], guard := none }) rfl (fun K hK => ?_)
      go_simp
      refine hK.out _ _ ?_ (fun hHeld => ?_)
      · (try dsimp only); exact (dv_cells (HN.out.below (HB3.out.alloc HB3.out.size _)).row).1
      clear hK K
      try simp only [Act.put, List.setIfInBounds_toArray, List.set_cons_zero, List.set_cons_succ]
      refine wpL_loud1 (o := { dst := some 19, op := Go.Op.call { callee := Go.Callee.builtin Go.Builtin.append, args := #[Go.Operand.tmp 16, Go.Operand.tmp 18], argTypes := #[77, 77] }, type := 77, pos := "ref.go:19", after := #[{ on := 4, ground := Go.Ground.data }, { on := 6, ground := Go.Ground.data }, { on := 5, ground := Go.Ground.chain }], guard := none }) rfl (fun K hK => ?_)
      (rw [if_pos (by rfl)]; refine wp_append_src3 _ _ _ 77 77 rfl w1.heap.size 9 is (.string ⟨#[]⟩) 1 16 Try.underlying77 his hs0 hs1 hs2 rfl (by decide) (.slice a0 i c0) i (txV T0 i) rfl (HN.out.below (HB3.out.alloc HB3.out.size _)).o0 (.slice (some ⟨w3.heap.size, 0, none⟩) 1 1) 1 [.string zt] rfl (src_one w3 9 (.string zt) Try.underlying77 rfl) (by unfold maxLen; omega) (by omega) (by have := HB3.out.size; simp; omega) ?_; intro v9 w9 O9 G9 hs9)
      try go_wp2_with fail
      refine hK.out _ _ ?_ (fun hHeld => ?_)
      · (try dsimp only); exact (dv_cells ((HN.out.below (HB3.out.alloc HB3.out.size _)).off (HN.out.below (HB3.out.alloc HB3.out.size _)).o0 G9)).1
      clear hK K
      try simp only [Act.put, List.setIfInBounds_toArray, List.set_cons_zero, List.set_cons_succ]
      have hrow9 := (HN.out.below (HB3.out.alloc HB3.out.size _)).off (HN.out.below (HB3.out.alloc HB3.out.size _)).o0 G9
      have f9 := (dv_cells hrow9).2.2.2 0
      have HA9 := Lib.hid ((HN.out.below (HB3.out.alloc HB3.out.size _)).add0 O9 G9 hs9 (txV_snocN T0 i zt))
      obtain ⟨a9, c9, rfl⟩ := own_atN O9
      (refine wpL_calm (o := { dst := some 20, op := Go.Op.nilCheck (Go.Operand.tmp 12), type := 0, pos := "ref.go:19", after := #[{ on := 0, ground := Go.Ground.data }, { on := 0, ground := Go.Ground.phase }, { on := 1, ground := Go.Ground.phase }, { on := 2, ground := Go.Ground.phase }, { on := 3, ground := Go.Ground.phase }, { on := 4, ground := Go.Ground.phase }, { on := 5, ground := Go.Ground.phase }, { on := 6, ground := Go.Ground.phase }, { on := 7, ground := Go.Ground.phase }], guard := none }) (v := ?_) rfl (Or.inl ⟨by rfl, ?_⟩) ?_; rotate_left; (focus (intro w hSw; (try dsimp only at hSw); go_simp; (try (with_reducible rfl)); done)); try simp only [Act.put, List.setIfInBounds_toArray, List.set_cons_zero, List.set_cons_succ])
      (refine wpL_calm (o := { dst := some 21, op := Go.Op.fieldAddr 79 (Go.Operand.tmp 20) 0, type := 0, pos := "ref.go:19", after := #[{ on := 8, ground := Go.Ground.data }, { on := 0, ground := Go.Ground.phase }, { on := 1, ground := Go.Ground.phase }, { on := 2, ground := Go.Ground.phase }, { on := 3, ground := Go.Ground.phase }, { on := 4, ground := Go.Ground.phase }, { on := 5, ground := Go.Ground.phase }, { on := 6, ground := Go.Ground.phase }, { on := 7, ground := Go.Ground.phase }], guard := none }) (v := ?_) rfl (Or.inl ⟨by rfl, ?_⟩) ?_; rotate_left; (focus (intro w hSw; (try dsimp only at hSw); go_simp; (try (with_reducible rfl)); done)); try simp only [Act.put, List.setIfInBounds_toArray, List.set_cons_zero, List.set_cons_succ])
      refine wpL_loud0 (o := { dst := none, op := Go.Op.store 77 (Go.Operand.tmp 21) (Go.Operand.tmp 19), type := 0, pos := "ref.go:19", after := #[{ on := 9, ground := Go.Ground.data }, { on := 7, ground := Go.Ground.data }, { on := 7, ground := Go.Ground.chain }, { on := 0, ground := Go.Ground.phase }, { on := 1, ground := Go.Ground.phase }, { on := 2, ground := Go.Ground.phase }, { on := 3, ground := Go.Ground.phase }, { on := 4, ground := Go.Ground.phase }, { on := 5, ground := Go.Ground.phase }, { on := 6, ground := Go.Ground.phase }, { on := 7, ground := Go.Ground.phase }], guard := none }) rfl (by kernel_rfl) (fun K hK => ?_)
      go_simp
      refine hK.out _ _ ?_
      clear hK K
      try simp only [Act.put, List.setIfInBounds_toArray, List.set_cons_zero, List.set_cons_succ]
      refine wpL_nil ?_
      refine NoPanic.normal ?_
      have hz9 : wr.heap.size ≤ w9.heap.size := Nat.le_trans (HB3.out.alloc HB3.out.size _).size G9.size
      have HW9 : Hid (Below g w (w9.setCell ⟨g, 0, none⟩ (.slice a9 (i + 1) c9))) := Lib.hid (((HBi.out.trans ((HB3.out.alloc HB3.out.size _).mono (by rw [← hg.out]; exact HBi.out.size))).grown G9 (by have := HB3.out.size; have := HBi.out.size; have := hg.out; simp; omega) (fun q hq => by have := (HN.out.o0.lt q hq).1; omega)).setCell (p := ⟨g, 0, none⟩) (Nat.le_refl _) _)
      have hzz : w1.heap.size ≤ (w9.setCell ⟨g, 0, none⟩ (.slice a9 (i + 1) c9)).heap.size := by simp [World.setCell]; omega
      have HT9 := Lib.hid (size_allN HT0.out HZS.out)
      clear hHeld hrow9 f9 O9 G9 HBi HB3 HN HT0 hz9 hz d0 hs9 HBD
      generalize w9.setCell ⟨g, 0, none⟩ (.slice a9 (i + 1) c9) = wa at *
      generalize (fun k => if k = i then zt else T0 k) = U0 at *
      have d1 := (dv_cells HA9.out.row).2.1
      go_upto_region 6 with fail
      refine wp_region_lin (S := (fun w' => w'.cell? ⟨g, 1, none⟩ = some (.slice a1 i c1))) [(0, true), (1, true), (2, true), (3, true), (4, true), (5, false), (6, false), (7, false), (8, true), (9, true), (10, false)] (by kernel_rfl) (by kernel_rfl) rfl (by kernel_rfl) ?_ (fun hHeld => ?_)
      · (try dsimp only); exact d1
      have HBD : Hid (Below wa.heap.size wa wa.drew) := Lib.hid (Below.refl _ _).drew
      generalize World.drew wa = w2 at hHeld HBD ⊢
      (refine wpL_calm (o := { dst := some 22, op := Go.Op.move (Go.Operand.tmp 3), type := 59, pos := "ref.go:20", after := #[], guard := none }) (v := ?_) rfl (Or.inl ⟨by rfl, ?_⟩) ?_; rotate_left; (focus (intro w hSw; (try dsimp only at hSw); go_simp; (try (with_reducible rfl)); done)); try simp only [Act.put, List.setIfInBounds_toArray, List.set_cons_zero, List.set_cons_succ])
      (refine wpL_calm (o := { dst := some 23, op := Go.Op.move (Go.Operand.tmp 3), type := 59, pos := "ref.go:20", after := #[], guard := none }) (v := ?_) rfl (Or.inl ⟨by rfl, ?_⟩) ?_; rotate_left; (focus (intro w hSw; (try dsimp only at hSw); go_simp; (try (with_reducible rfl)); done)); try simp only [Act.put, List.setIfInBounds_toArray, List.set_cons_zero, List.set_cons_succ])
      (refine wpL_calm (o := { dst := some 24, op := Go.Op.nilCheck (Go.Operand.tmp 23), type := 0, pos := "ref.go:20", after := #[{ on := 1, ground := Go.Ground.data }], guard := none }) (v := ?_) rfl (Or.inl ⟨by rfl, ?_⟩) ?_; rotate_left; (focus (intro w hSw; (try dsimp only at hSw); go_simp; (try (with_reducible rfl)); done)); try simp only [Act.put, List.setIfInBounds_toArray, List.set_cons_zero, List.set_cons_succ])
      (refine wpL_calm (o := { dst := some 25, op := Go.Op.fieldAddr 79 (Go.Operand.tmp 24) 1, type := 0, pos := "ref.go:20", after := #[{ on := 2, ground := Go.Ground.data }], guard := none }) (v := ?_) rfl (Or.inl ⟨by rfl, ?_⟩) ?_; rotate_left; (focus (intro w hSw; (try dsimp only at hSw); go_simp; (try (with_reducible rfl)); done)); try simp only [Act.put, List.setIfInBounds_toArray, List.set_cons_zero, List.set_cons_succ])
      (refine wpL_calm (o := { dst := some 26, op := Go.Op.load 77 (Go.Operand.tmp 25), type := 77, pos := "ref.go:20", after := #[{ on := 3, ground := Go.Ground.data }], guard := none }) (v := ?_) rfl (Or.inl ⟨by rfl, ?_⟩) ?_; rotate_left; (focus (intro w hSw; (try dsimp only at hSw); go_simp; (try (with_reducible rfl)); done)); try simp only [Act.put, List.setIfInBounds_toArray, List.set_cons_zero, List.set_cons_succ])
      refine wpL_loud1 (o := { dst := some 27, op := Go.Op.call { callee := Go.Callee.value (Go.Operand.func 7), args := #[Go.Operand.const (Go.Value.int Go.IntKind.i64 64)], argTypes := #[3] }, type := 9, pos := "ref.go:20", after := #[], guard := none }) rfl (fun K hK => ?_)
      (go_simp; go_at_call 7; refine (PZ.out _).mono ?_; rintro e w3 ⟨rfl, b3⟩)
      try go_wp2_with fail
      refine hK.out _ _ ?_ (fun hHeld => ?_)
      · (try dsimp only); exact (dv_cells (HA9.out.below (HBD.out.trans (b3.mono HBD.out.size))).row).2.1
      clear hK K
      try simp only [Act.put, List.setIfInBounds_toArray, List.set_cons_zero, List.set_cons_succ]
      have HB3 := Lib.hid (HBD.out.trans (b3.mono HBD.out.size)); clear b3
      refine wpL_loud1 (o := { dst := some 28, op := Go.Op.buildSlice 77 1 #[(0, Go.Operand.tmp 27)], type := 77, pos := "ref.go:20", after := #[{ on := 5, ground := Go.Ground.data }], guard := none }) rfl (fun K hK => ?_)
      go_simp
      refine hK.out _ _ ?_ (fun hHeld => ?_)
      · (try dsimp only); exact (dv_cells (HA9.out.below (HB3.out.alloc HB3.out.size _)).row).2.1
      clear hK K
      try simp only [Act.put, List.setIfInBounds_toArray, List.set_cons_zero, List.set_cons_succ]
      refine wpL_loud1 (o := { dst := some 29, op := Go.Op.call { callee := Go.Callee.builtin Go.Builtin.append, args := #[Go.Operand.tmp 26, Go.Operand.tmp 28], argTypes := #[77, 77] }, type := 77, pos := "ref.go:20", after := #[{ on := 4, ground := Go.Ground.data }, { on := 6, ground := Go.Ground.data }, { on := 5, ground := Go.Ground.chain }], guard := none }) rfl (fun K hK => ?_)
      (rw [if_pos (by rfl)]; refine wp_append_src3 _ _ _ 77 77 rfl w1.heap.size 9 is (.string ⟨#[]⟩) 1 16 Try.underlying77 his hs0 hs1 hs2 rfl (by decide) (.slice a1 i c1) i (txV T1 i) rfl (HA9.out.below (HB3.out.alloc HB3.out.size _)).o1 (.slice (some ⟨w3.heap.size, 0, none⟩) 1 1) 1 [.string zt] rfl (src_one w3 9 (.string zt) Try.underlying77 rfl) (by unfold maxLen; omega) (by omega) (by have := HB3.out.size; simp; omega) ?_; intro v8 w8 O8 G8 hs8)
      try go_wp2_with fail
      refine hK.out _ _ ?_ (fun hHeld => ?_)
      · (try dsimp only); exact (dv_cells ((HA9.out.below (HB3.out.alloc HB3.out.size _)).off (HA9.out.below (HB3.out.alloc HB3.out.size _)).o1 G8)).2.1
      clear hK K
      try simp only [Act.put, List.setIfInBounds_toArray, List.set_cons_zero, List.set_cons_succ]
      have hrow8 := (HA9.out.below (HB3.out.alloc HB3.out.size _)).off (HA9.out.below (HB3.out.alloc HB3.out.size _)).o1 G8
      have f8 := (dv_cells hrow8).2.2.2 1
      have HA8 := Lib.hid ((HA9.out.below (HB3.out.alloc HB3.out.size _)).add1 O8 G8 hs8 (txV_snocN T1 i zt))
      obtain ⟨a8, c8, rfl⟩ := own_atN O8
      (refine wpL_calm (o := { dst := some 30, op := Go.Op.nilCheck (Go.Operand.tmp 22), type := 0, pos := "ref.go:20", after := #[{ on := 0, ground := Go.Ground.data }, { on := 0, ground := Go.Ground.phase }, { on := 1, ground := Go.Ground.phase }, { on := 2, ground := Go.Ground.phase }, { on := 3, ground := Go.Ground.phase }, { on := 4, ground := Go.Ground.phase }, { on := 5, ground := Go.Ground.phase }, { on := 6, ground := Go.Ground.phase }, { on := 7, ground := Go.Ground.phase }], guard := none }) (v := ?_) rfl (Or.inl ⟨by rfl, ?_⟩) ?_; rotate_left; (focus (intro w hSw; (try dsimp only at hSw); go_simp; (try (with_reducible rfl)); done)); try simp only [Act.put, List.setIfInBounds_toArray, List.set_cons_zero, List.set_cons_succ])
      (refine wpL_calm (o := { dst := some 31, op := Go.Op.fieldAddr 79 (Go.Operand.tmp 30) 1, type := 0, pos := "ref.go:20", after := #[{ on := 8, ground := Go.Ground.data }, { on := 0, ground := Go.Ground.phase }, { on := 1, ground := Go.Ground.phase }, { on := 2, ground := Go.Ground.phase }, { on := 3, ground := Go.Ground.phase }, { on := 4, ground := Go.Ground.phase }, { on := 5, ground := Go.Ground.phase }, { on := 6, ground := Go.Ground.phase }, { on := 7, ground := Go.Ground.phase }], guard := none }) (v := ?_) rfl (Or.inl ⟨by rfl, ?_⟩) ?_; rotate_left; (focus (intro w hSw; (try dsimp only at hSw); go_simp; (try (with_reducible rfl)); done)); try simp only [Act.put, List.setIfInBounds_toArray, List.set_cons_zero, List.set_cons_succ])
      refine wpL_loud0 (o := { dst := none, op := Go.Op.store 77 (Go.Operand.tmp 31) (Go.Operand.tmp 29), type := 0, pos := "ref.go:20", after := #[{ on := 9, ground := Go.Ground.data }, { on := 7, ground := Go.Ground.data }, { on := 7, ground := Go.Ground.chain }, { on := 0, ground := Go.Ground.phase }, { on := 1, ground := Go.Ground.phase }, { on := 2, ground := Go.Ground.phase }, { on := 3, ground := Go.Ground.phase }, { on := 4, ground := Go.Ground.phase }, { on := 5, ground := Go.Ground.phase }, { on := 6, ground := Go.Ground.phase }, { on := 7, ground := Go.Ground.phase }], guard := none }) rfl (by kernel_rfl) (fun K hK => ?_)
      go_simp
      refine hK.out _ _ ?_
      clear hK K
      try simp only [Act.put, List.setIfInBounds_toArray, List.set_cons_zero, List.set_cons_succ]
      refine wpL_nil ?_
      refine NoPanic.normal ?_
      have hz8 : wa.heap.size ≤ w8.heap.size := Nat.le_trans (HB3.out.alloc HB3.out.size _).size G8.size
      have HW8 : Hid (Below g w (w8.setCell ⟨g, 1, none⟩ (.slice a8 (i + 1) c8))) := Lib.hid (((HW9.out.trans ((HB3.out.alloc HB3.out.size _).mono (by rw [← hg.out]; exact HW9.out.size))).grown G8 (by have := HB3.out.size; have := HW9.out.size; have := hg.out; simp; omega) (fun q hq => by have := (HA9.out.o1.lt q hq).1; omega)).setCell (p := ⟨g, 1, none⟩) (Nat.le_refl _) _)
      have hzz8 : w1.heap.size ≤ (w8.setCell ⟨g, 1, none⟩ (.slice a8 (i + 1) c8)).heap.size := by simp [World.setCell]; omega
      have HT8 := Lib.hid (size_allN HT1.out HZS.out)
      clear hHeld hrow8 f8 O8 G8 HW9 HB3 HA9 HT1 hz8 hzz d1 hs8 HBD
      generalize w8.setCell ⟨g, 1, none⟩ (.slice a8 (i + 1) c8) = wb at *
      generalize (fun k => if k = i then zt else T1 k) = U1 at *
      have d2 := (dv_cells HA8.out.row).2.2.1
      have bal : Below wb.heap.size wb (wb.alloc (.cells #[.bool false] 4)) := (Below.refl _ _).alloc (Nat.le_refl _) _
      go_wp2_with (at_builtin; refine wpList_append_own _ rfl _ _ 30 rfl w1.heap.size 4 ib (.bool false) 1 1 Try.underlying30 hib hb0 hb1 hb2 rfl (by decide) (.slice a2 i c2) i (boV T2 i) rfl (HA8.out.below bal).o2 ⟨wb.heap.size, 0, none⟩ 1 1 [.bool false] rfl rfl (one_atN _ _ _) (fun u hu => by simp at hu; subst hu; rfl) (by unfold maxLen; omega) (by omega) (by simp; omega) ?_)
      intro v7 w7 O7 G7 _
      have hrow7 := (HA8.out.below bal).off (HA8.out.below bal).o2 G7
      have f7 := (dv_cells hrow7).2.2.2 2
      have e2 := (dv_cells hrow7).2.2.1
      have HA7 := Lib.hid ((HA8.out.below bal).add2 O7 G7)
      obtain ⟨a7, c7, rfl⟩ := own_atN O7
      have hz7 : wb.heap.size ≤ w7.heap.size := Nat.le_trans bal.size G7.size
      have HW7 : Hid (Below g w (w7.setCell ⟨g, 2, none⟩ (.slice a7 (i + 1) c7))) := Lib.hid (((HW8.out.trans (bal.mono (by rw [← hg.out]; exact HW8.out.size))).grown G7 (by have := HW8.out.size; have := hg.out; simp; omega) (fun q hq => by have := (HA8.out.o2.lt q hq).1; omega)).setCell (p := ⟨g, 2, none⟩) (Nat.le_refl _) _)
      have hzz7 : w1.heap.size ≤ (w7.setCell ⟨g, 2, none⟩ (.slice a7 (i + 1) c7)).heap.size := by simp [World.setCell]; omega
      clear hrow7 O7 G7 HW8 HA8 hz7 hzz8 bal d2
      go_wp2_with fail
      clear f7 e2
      go_roundw
      case rel => exact ⟨i + 1, _, _, _, _, _, _, by go_num, by omega, hzz7, HA7, HT9, HT8, HW7⟩
      case measure => simp [intOf]; omega
    · as_aux_lemma =>
      obtain rfl : i = 288 := by omega
      have HD : Hid (DAt wr g g) := Lib.hid ⟨Nat.le_refl _, v0, v1, v2, HN.out.row, (own_T64 HN.out.o0 HT0.out).base (Nat.le_of_lt hz1), (own_T64 HN.out.o1 HT1.out).base (Nat.le_of_lt hz1), (own_B288 HN.out.o2).base (Nat.le_of_lt hz1)⟩
      go_wp2_with fail
      go_ret
      exact ⟨g, rfl, by rw [hg.out]; exact HD.out, by rw [hg.out]; exact HBi.out⟩
end Go.Proofs.Ytjmginkkjkbpoaa
