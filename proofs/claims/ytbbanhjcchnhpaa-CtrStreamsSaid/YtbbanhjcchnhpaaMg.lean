/- The reference of package aes (cellaret): Words. -/
import Derived.Test.YtbbanhjcchnhpaaMf
import Derived.Deep.CutRange
import Derived.Deep.CutBlock
namespace Go.Proofs.Ytbbanhjcchnhpaa
open Go.RowKit Go.Deep
set_option linter.unusedVariables false
set_option linter.unusedSimpArgs false
theorem wp_push {o : Oper} {a : Act} {K : Act → World → Prop} {Q : Exit → Act → World → Prop} (s x : Operand) (ho : o.op = .call { callee := .builtin .append, args := #[s, x], argTypes := #[33, 33] })
    (base n : Nat) (W : Nat → UInt32) (bs cs : Nat → Nat) (wi w2 : World) (v : Value) (hs : a.eval s = v) (H : Hid (WIn base wi v n W bs cs)) (hb : Hid (Below wi.heap.size wi w2)) (xb c : Nat) (hxb : wi.heap.size ≤ xb) (hx : Hid (XRow w2 xb (fun r => (byW (W n) r).toNat)))
    (sb : Nat) (he : a.eval x = .slice (some ⟨sb, 0, none⟩) 1 1) (hc : w2.cell? ⟨sb, 0, none⟩ = some (.slice (some ⟨xb, 0, none⟩) 4 c)) (hn : n < 60) (hbase : base ≤ wi.heap.size)
    (h : ∀ v' w1 bs' cs', Hid (WIn base w1 v' (n + 1) W bs' cs') → Hid (Below base w2 w1) → K (a.put o.dst v') w1) : o.wp Try.prog a w2 K Q := by
  obtain ⟨i1, hi1, hz0, hz1, hz2⟩ := info_partsG info_rowG
  refine wp_append_own _ s x 33 ho base 35 i1 (.slice none 0 0) 1 24 Try.underlying33 hi1 hz0 hz1 hz2 rfl (by decide) v n (slV bs cs n) hs (own_belowG H.out.own hb.out) ⟨sb, 0, none⟩ 1 1 [.slice (some ⟨xb, 0, none⟩) 4 c] he rfl ?c1 ?c2 (by unfold maxLen; omega) (by omega) (Nat.le_trans hbase hb.out.size) ?_
  case c1 =>
    intro j u hj
    match j, hj with
    | 0, hj => simp at hj; subst hj; exact hc
  case c2 => intro u hu; simp at hu; subst hu; rfl
  intro v' w1 hown hg _
  refine h v' w1 _ _ (Lib.hid (H.out.push hb.out hxb hx.out (by simpa using hown) hg)) (Lib.hid ?_)
  exact (Below.refl base w2).grown hg (Nat.le_trans hbase hb.out.size) (fun j e => (H.out.own.lt j e).1)
theorem wpList_push {ops : Array Oper} {rest : List Oper} {o : Oper} {a : Act} {Q : Exit → Act → World → Prop} (hgd : o.guard = none) (s x : Operand) (ho : o.op = .call { callee := .builtin .append, args := #[s, x], argTypes := #[33, 33] })
    (base n : Nat) (W : Nat → UInt32) (bs cs : Nat → Nat) (wi w2 : World) (v : Value) (hs : a.eval s = v) (H : Hid (WIn base wi v n W bs cs)) (hb : Hid (Below wi.heap.size wi w2)) (xb c : Nat) (hxb : wi.heap.size ≤ xb) (hx : Hid (XRow w2 xb (fun r => (byW (W n) r).toNat)))
    (sb : Nat) (he : a.eval x = .slice (some ⟨sb, 0, none⟩) 1 1) (hc : w2.cell? ⟨sb, 0, none⟩ = some (.slice (some ⟨xb, 0, none⟩) 4 c)) (hn : n < 60) (hbase : base ≤ wi.heap.size)
    (h : ∀ v' w1 bs' cs', Hid (WIn base w1 v' (n + 1) W bs' cs') → Hid (Below base w2 w1) → wpList Try.prog ops Q rest (a.put o.dst v') w1) : wpList Try.prog ops Q (o :: rest) a w2 :=
  wpList_plain hgd fun _ hK => wp_push s x ho base n W bs cs wi w2 v hs H hb xb c hxb hx sb he hc hn hbase fun v' w1 bs' cs' h1 h2 => hK _ _ (h v' w1 bs' cs' h1 h2)
theorem index_str (s : ByteArray) (x : Int) (j : Nat) (hx : x = (j : Int)) (hj : j < s.size) (w : World) : (Instr.index 9 (.string s) (.int .i64 x)).run Try.prog w = .ok (.int .u8 ((bAt s.data.toList j).toNat : Int)) w := by
  subst hx
  have h2 : (j : Int) < (s.size : Int) := by omega
  have := bAt_get s j hj
  rw [← this]
  unfold Instr.index
  simp [asIntOf, run_underlying Try.underlying9, hj, h2]
theorem two_allocs (w : World) (A B : Obj) : ∃ w2, Hid ((w.alloc A).alloc B = w2) ∧ Hid (w2.heap[w.heap.size]? = some A) ∧ Hid (w2.heap[w.heap.size + 1]? = some B) ∧ Hid (Below w.heap.size w w2) := by
  have hs : (w.alloc A).heap.size = w.heap.size + 1 := by simp
  have h2 := heap_alloc_new (w.alloc A) B
  rw [hs] at h2
  refine ⟨_, Lib.hid rfl, Lib.hid ?_, Lib.hid h2, Lib.hid (((Below.refl _ _).alloc (Nat.le_refl _) _).alloc (by rw [hs]; omega) _)⟩
  rw [heap_alloc_old _ _ (by rw [hs]; omega), heap_alloc_new]
theorem cell_allocG {w : World} {o : Obj} {a : Addr} {v : Value} (h : w.cell? a = some v) : (w.alloc o).cell? a = some v := (((Below.refl w.heap.size w).alloc (Nat.le_refl _) o).cell (block_lt_of_cell h)).trans h
theorem news4 (y : UInt32) : ∃ L : List Value, Hid (L.length = 4) ∧ Hid (∀ r, r < 4 → L[r]? = some (.int .i64 ((byW y r).toNat : Int))) ∧ Hid (∀ u ∈ L, u.oneCell' = true) :=
  ⟨(List.range 4).map fun r => .int .i64 ((byW y r).toNat : Int), Lib.hid (by rw [List.length_map, List.length_range]), Lib.hid (fun r hr => by rw [List.getElem?_map, List.getElem?_range hr]; rfl), Lib.hid (fun u hu => by obtain ⟨r, _, rfl⟩ := List.mem_map.1 hu; rfl)⟩
set_option maxRecDepth 100000 in
set_option maxHeartbeats 3000000 in
theorem words_any (s : ByteArray) (xb xc : Nat) (w : World) (hs : s.size = 32) (hX : Hid (IAt w xb 256 boxN)) :
    Calls Try.prog 20 #[.string s, .slice (some ⟨xb, 0, none⟩) 256 xc] w fun e w' => ∃ rb rc bs cs, e = .returned (.slice (some ⟨rb, 0, none⟩) 60 rc) ∧ WAt w' rb 60 (wI s.data.toList 60) bs cs ∧ Below w.heap.size w w' := by
  have HIX := Lib.hid (fun j (hj : j < 32) x hx w => index_str s x j hx (by omega) w)
  have HKW := Lib.hid (fun i r hi hr => word_key s.data.toList i r hi hr)
  have HNW := Lib.hid (fun i r h8 h60 hr => word_next s.data.toList i r h8 h60 hr)
  obtain ⟨W, hW⟩ : ∃ W, Hid (wI s.data.toList 60 = W) := ⟨_, Lib.hid rfl⟩
  rw [hW.out] at HKW HNW ⊢
  obtain ⟨i0, hi0, hz0, hz1, hz2⟩ := info_partsG info_i64G
  have ltx := hX.out.lt
  clear hW hs
  generalize s.data.toList = l at *
  go_enter Try.func20, Try.ntmps20
  go_wp2_with fail
  go_loopw [5, 6] (fun v x wi => ∃ n : Nat, x = .int .i64 (n : Int) ∧ n ≤ 60 ∧ (∃ bs cs, Hid (WIn w.heap.size wi v n W bs cs)) ∧ Hid (Below w.heap.size w wi)) (fun _ x _ => 60 - (intOf x).toNat)
  case atStart => exact ⟨0, rfl, by omega, ⟨fun _ => 0, fun _ => 0, Lib.hid ⟨World.ownsRow_nil _ _ _ _, fun i hi => absurd hi (Nat.not_lt_zero _), fun i hi => absurd hi (Nat.not_lt_zero _), fun i hi => absurd hi (Nat.not_lt_zero _)⟩⟩, Lib.hid (Below.refl _ _)⟩
  case round =>
    obtain ⟨n, rfl, hn, ⟨bs, cs, HW⟩, HB⟩ := hrel
    by_cases hl : n < 60
    · as_aux_lemma =>
      have hli : (n : Int) < 60 := by omega
      by_cases h8 : n < 8
      · as_aux_lemma =>
        have h8i : (n : Int) < 8 := by omega
        have y0 : IntKind.i64.wrap (4 * (n : Int)) = 4 * n := IntWalk.i64_in _ (by omega)
        have y1 : IntKind.i64.wrap (4 * (n : Int) + 1) = 4 * n + 1 := IntWalk.i64_in _ (by omega)
        have y2 : IntKind.i64.wrap (4 * (n : Int) + 2) = 4 * n + 2 := IntWalk.i64_in _ (by omega)
        have y3 : IntKind.i64.wrap (4 * (n : Int) + 3) = 4 * n + 3 := IntWalk.i64_in _ (by omega)
        have x0 := HIX.out (4 * n + 0) (by omega) (4 * (n : Int)) (by omega)
        have x1 := HIX.out (4 * n + 1) (by omega) (4 * (n : Int) + 1) (by omega)
        have x2 := HIX.out (4 * n + 2) (by omega) (4 * (n : Int) + 2) (by omega)
        have x3 := HIX.out (4 * n + 3) (by omega) (4 * (n : Int) + 3) (by omega)
        have k0 := HKW.out n 0 h8 (by omega)
        have k1 := HKW.out n 1 h8 (by omega)
        have k2 := HKW.out n 2 h8 (by omega)
        have k3 := HKW.out n 3 h8 (by omega)
        have l0 := (bAt l (4 * n + 0)).toNat_lt
        have l1 := (bAt l (4 * n + 1)).toNat_lt
        have l2 := (bAt l (4 * n + 2)).toNat_lt
        have l3 := (bAt l (4 * n + 3)).toNat_lt
        rw [← k0] at x0 l0
        rw [← k1] at x1 l1
        rw [← k2] at x2 l2
        rw [← k3] at x3 l3
        clear k0 k1 k2 k3
        obtain ⟨n0, e0⟩ : ∃ z, Hid ((byW (W n) 0).toNat = z) := ⟨_, Lib.hid rfl⟩
        obtain ⟨n1, e1⟩ : ∃ z, Hid ((byW (W n) 1).toNat = z) := ⟨_, Lib.hid rfl⟩
        obtain ⟨n2, e2⟩ : ∃ z, Hid ((byW (W n) 2).toNat = z) := ⟨_, Lib.hid rfl⟩
        obtain ⟨n3, e3⟩ : ∃ z, Hid ((byW (W n) 3).toNat = z) := ⟨_, Lib.hid rfl⟩
        rw [e0.out] at x0 l0
        rw [e1.out] at x1 l1
        rw [e2.out] at x2 l2
        rw [e3.out] at x3 l3
        have j0 : IntKind.i64.wrap (n0 : Int) = n0 := IntWalk.i64_in _ (by omega)
        have j1 : IntKind.i64.wrap (n1 : Int) = n1 := IntWalk.i64_in _ (by omega)
        have j2 : IntKind.i64.wrap (n2 : Int) = n2 := IntWalk.i64_in _ (by omega)
        have j3 : IntKind.i64.wrap (n3 : Int) = n3 := IntWalk.i64_in _ (by omega)
        go_upto_region 6 with fail
        have HW1 := Lib.hid HW.out.drew
        have HB1 := Lib.hid HB.out.drew
        clear HW HB
        refine wp_region_lin (S := (fun _ => True)) [(0, true), (1, true), (2, true), (3, true), (4, true), (5, true), (6, true), (7, true), (8, true), (9, true), (10, true), (11, true), (12, true), (13, true), (14, true), (15, true), (16, true), (17, true), (18, true), (19, true), (20, true), (21, true), (22, true), (23, true), (24, false), (25, false), (26, false), (27, true)] (by kernel_rfl) (by kernel_rfl) rfl (by kernel_rfl) ?_ (fun hHeld => ?_)
        · (try dsimp only); try exact trivial
        generalize World.drew wr = wd at *
        (refine wpL_calm (o := { dst := some 15, op := Go.Op.move (Go.Operand.tmp 5), type := 33, pos := "ref.go:30", after := #[], guard := none }) (v := ?_) rfl (Or.inl ⟨by rfl, ?_⟩) ?_; rotate_left; (focus (intro w hSw; (try dsimp only at hSw); go_simp; (try (with_reducible rfl)); done)); try simp only [Act.put, List.setIfInBounds_toArray, List.set_cons_zero, List.set_cons_succ])
        (refine wpL_calm (o := { dst := some 16, op := Go.Op.move (Go.Operand.tmp 0), type := 9, pos := "ref.go:30", after := #[], guard := none }) (v := ?_) rfl (Or.inl ⟨by rfl, ?_⟩) ?_; rotate_left; (focus (intro w hSw; (try dsimp only at hSw); go_simp; (try (with_reducible rfl)); done)); try simp only [Act.put, List.setIfInBounds_toArray, List.set_cons_zero, List.set_cons_succ])
        (refine wpL_calm (o := { dst := some 17, op := Go.Op.move (Go.Operand.tmp 6), type := 3, pos := "ref.go:30", after := #[], guard := none }) (v := ?_) rfl (Or.inl ⟨by rfl, ?_⟩) ?_; rotate_left; (focus (intro w hSw; (try dsimp only at hSw); go_simp; (try (with_reducible rfl)); done)); try simp only [Act.put, List.setIfInBounds_toArray, List.set_cons_zero, List.set_cons_succ])
        (refine wpL_calm (o := { dst := some 18, op := Go.Op.binOp Go.BinOp.mul 3 (Go.Operand.const (Go.Value.int Go.IntKind.i64 4)) (Go.Operand.tmp 17) 3, type := 3, pos := "ref.go:30", after := #[{ on := 2, ground := Go.Ground.data }], guard := none }) (v := ?_) rfl (Or.inl ⟨by rfl, ?_⟩) ?_; rotate_left; (focus (intro w hSw; (try dsimp only at hSw); go_simp; (try (with_reducible rfl)); done)); try simp only [Act.put, List.setIfInBounds_toArray, List.set_cons_zero, List.set_cons_succ])
        (refine wpL_calm (o := { dst := some 19, op := Go.Op.index 9 (Go.Operand.tmp 16) (Go.Operand.tmp 18), type := 5, pos := "ref.go:30", after := #[{ on := 1, ground := Go.Ground.data }, { on := 3, ground := Go.Ground.data }], guard := none }) (v := ?_) rfl (Or.inl ⟨by rfl, ?_⟩) ?_; rotate_left; (focus (intro w hSw; (try dsimp only at hSw); go_simp; (try (with_reducible rfl)); done)); try simp only [Act.put, List.setIfInBounds_toArray, List.set_cons_zero, List.set_cons_succ])
        (refine wpL_calm (o := { dst := some 20, op := Go.Op.convert 5 3 (Go.Operand.tmp 19), type := 3, pos := "ref.go:30", after := #[{ on := 4, ground := Go.Ground.data }], guard := none }) (v := ?_) rfl (Or.inl ⟨by rfl, ?_⟩) ?_; rotate_left; (focus (intro w hSw; (try dsimp only at hSw); go_simp; (try (with_reducible rfl)); done)); try simp only [Act.put, List.setIfInBounds_toArray, List.set_cons_zero, List.set_cons_succ])
        (refine wpL_calm (o := { dst := some 21, op := Go.Op.move (Go.Operand.tmp 0), type := 9, pos := "ref.go:30", after := #[], guard := none }) (v := ?_) rfl (Or.inl ⟨by rfl, ?_⟩) ?_; rotate_left; (focus (intro w hSw; (try dsimp only at hSw); go_simp; (try (with_reducible rfl)); done)); try simp only [Act.put, List.setIfInBounds_toArray, List.set_cons_zero, List.set_cons_succ])
        (refine wpL_calm (o := { dst := some 22, op := Go.Op.move (Go.Operand.tmp 6), type := 3, pos := "ref.go:30", after := #[], guard := none }) (v := ?_) rfl (Or.inl ⟨by rfl, ?_⟩) ?_; rotate_left; (focus (intro w hSw; (try dsimp only at hSw); go_simp; (try (with_reducible rfl)); done)); try simp only [Act.put, List.setIfInBounds_toArray, List.set_cons_zero, List.set_cons_succ])
        (refine wpL_calm (o := { dst := some 23, op := Go.Op.binOp Go.BinOp.mul 3 (Go.Operand.const (Go.Value.int Go.IntKind.i64 4)) (Go.Operand.tmp 22) 3, type := 3, pos := "ref.go:30", after := #[{ on := 7, ground := Go.Ground.data }], guard := none }) (v := ?_) rfl (Or.inl ⟨by rfl, ?_⟩) ?_; rotate_left; (focus (intro w hSw; (try dsimp only at hSw); go_simp; (try (with_reducible rfl)); done)); try simp only [Act.put, List.setIfInBounds_toArray, List.set_cons_zero, List.set_cons_succ])
        (refine wpL_calm (o := { dst := some 24, op := Go.Op.binOp Go.BinOp.add 3 (Go.Operand.tmp 23) (Go.Operand.const (Go.Value.int Go.IntKind.i64 1)) 3, type := 3, pos := "ref.go:30", after := #[{ on := 8, ground := Go.Ground.data }], guard := none }) (v := ?_) rfl (Or.inl ⟨by rfl, ?_⟩) ?_; rotate_left; (focus (intro w hSw; (try dsimp only at hSw); go_simp; (try (with_reducible rfl)); done)); try simp only [Act.put, List.setIfInBounds_toArray, List.set_cons_zero, List.set_cons_succ])
        (refine wpL_calm (o := { dst := some 25, op := Go.Op.index 9 (Go.Operand.tmp 21) (Go.Operand.tmp 24), type := 5, pos := "ref.go:30", after := #[{ on := 6, ground := Go.Ground.data }, { on := 9, ground := Go.Ground.data }], guard := none }) (v := ?_) rfl (Or.inl ⟨by rfl, ?_⟩) ?_; rotate_left; (focus (intro w hSw; (try dsimp only at hSw); go_simp; (try (with_reducible rfl)); done)); try simp only [Act.put, List.setIfInBounds_toArray, List.set_cons_zero, List.set_cons_succ])
        (refine wpL_calm (o := { dst := some 26, op := Go.Op.convert 5 3 (Go.Operand.tmp 25), type := 3, pos := "ref.go:30", after := #[{ on := 10, ground := Go.Ground.data }], guard := none }) (v := ?_) rfl (Or.inl ⟨by rfl, ?_⟩) ?_; rotate_left; (focus (intro w hSw; (try dsimp only at hSw); go_simp; (try (with_reducible rfl)); done)); try simp only [Act.put, List.setIfInBounds_toArray, List.set_cons_zero, List.set_cons_succ])
        (refine wpL_calm (o := { dst := some 27, op := Go.Op.move (Go.Operand.tmp 0), type := 9, pos := "ref.go:30", after := #[], guard := none }) (v := ?_) rfl (Or.inl ⟨by rfl, ?_⟩) ?_; rotate_left; (focus (intro w hSw; (try dsimp only at hSw); go_simp; (try (with_reducible rfl)); done)); try simp only [Act.put, List.setIfInBounds_toArray, List.set_cons_zero, List.set_cons_succ])
        (refine wpL_calm (o := { dst := some 28, op := Go.Op.move (Go.Operand.tmp 6), type := 3, pos := "ref.go:30", after := #[], guard := none }) (v := ?_) rfl (Or.inl ⟨by rfl, ?_⟩) ?_; rotate_left; (focus (intro w hSw; (try dsimp only at hSw); go_simp; (try (with_reducible rfl)); done)); try simp only [Act.put, List.setIfInBounds_toArray, List.set_cons_zero, List.set_cons_succ])
        (refine wpL_calm (o := { dst := some 29, op := Go.Op.binOp Go.BinOp.mul 3 (Go.Operand.const (Go.Value.int Go.IntKind.i64 4)) (Go.Operand.tmp 28) 3, type := 3, pos := "ref.go:30", after := #[{ on := 13, ground := Go.Ground.data }], guard := none }) (v := ?_) rfl (Or.inl ⟨by rfl, ?_⟩) ?_; rotate_left; (focus (intro w hSw; (try dsimp only at hSw); go_simp; (try (with_reducible rfl)); done)); try simp only [Act.put, List.setIfInBounds_toArray, List.set_cons_zero, List.set_cons_succ])
        (refine wpL_calm (o := { dst := some 30, op := Go.Op.binOp Go.BinOp.add 3 (Go.Operand.tmp 29) (Go.Operand.const (Go.Value.int Go.IntKind.i64 2)) 3, type := 3, pos := "ref.go:30", after := #[{ on := 14, ground := Go.Ground.data }], guard := none }) (v := ?_) rfl (Or.inl ⟨by rfl, ?_⟩) ?_; rotate_left; (focus (intro w hSw; (try dsimp only at hSw); go_simp; (try (with_reducible rfl)); done)); try simp only [Act.put, List.setIfInBounds_toArray, List.set_cons_zero, List.set_cons_succ])
        (refine wpL_calm (o := { dst := some 31, op := Go.Op.index 9 (Go.Operand.tmp 27) (Go.Operand.tmp 30), type := 5, pos := "ref.go:30", after := #[{ on := 12, ground := Go.Ground.data }, { on := 15, ground := Go.Ground.data }], guard := none }) (v := ?_) rfl (Or.inl ⟨by rfl, ?_⟩) ?_; rotate_left; (focus (intro w hSw; (try dsimp only at hSw); go_simp; (try (with_reducible rfl)); done)); try simp only [Act.put, List.setIfInBounds_toArray, List.set_cons_zero, List.set_cons_succ])
        (refine wpL_calm (o := { dst := some 32, op := Go.Op.convert 5 3 (Go.Operand.tmp 31), type := 3, pos := "ref.go:30", after := #[{ on := 16, ground := Go.Ground.data }], guard := none }) (v := ?_) rfl (Or.inl ⟨by rfl, ?_⟩) ?_; rotate_left; (focus (intro w hSw; (try dsimp only at hSw); go_simp; (try (with_reducible rfl)); done)); try simp only [Act.put, List.setIfInBounds_toArray, List.set_cons_zero, List.set_cons_succ])
        (refine wpL_calm (o := { dst := some 33, op := Go.Op.move (Go.Operand.tmp 0), type := 9, pos := "ref.go:30", after := #[], guard := none }) (v := ?_) rfl (Or.inl ⟨by rfl, ?_⟩) ?_; rotate_left; (focus (intro w hSw; (try dsimp only at hSw); go_simp; (try (with_reducible rfl)); done)); try simp only [Act.put, List.setIfInBounds_toArray, List.set_cons_zero, List.set_cons_succ])
        (refine wpL_calm (o := { dst := some 34, op := Go.Op.move (Go.Operand.tmp 6), type := 3, pos := "ref.go:30", after := #[], guard := none }) (v := ?_) rfl (Or.inl ⟨by rfl, ?_⟩) ?_; rotate_left; (focus (intro w hSw; (try dsimp only at hSw); go_simp; (try (with_reducible rfl)); done)); try simp only [Act.put, List.setIfInBounds_toArray, List.set_cons_zero, List.set_cons_succ])
        (refine wpL_calm (o := { dst := some 35, op := Go.Op.binOp Go.BinOp.mul 3 (Go.Operand.const (Go.Value.int Go.IntKind.i64 4)) (Go.Operand.tmp 34) 3, type := 3, pos := "ref.go:30", after := #[{ on := 19, ground := Go.Ground.data }], guard := none }) (v := ?_) rfl (Or.inl ⟨by rfl, ?_⟩) ?_; rotate_left; (focus (intro w hSw; (try dsimp only at hSw); go_simp; (try (with_reducible rfl)); done)); try simp only [Act.put, List.setIfInBounds_toArray, List.set_cons_zero, List.set_cons_succ])
        (refine wpL_calm (o := { dst := some 36, op := Go.Op.binOp Go.BinOp.add 3 (Go.Operand.tmp 35) (Go.Operand.const (Go.Value.int Go.IntKind.i64 3)) 3, type := 3, pos := "ref.go:30", after := #[{ on := 20, ground := Go.Ground.data }], guard := none }) (v := ?_) rfl (Or.inl ⟨by rfl, ?_⟩) ?_; rotate_left; (focus (intro w hSw; (try dsimp only at hSw); go_simp; (try (with_reducible rfl)); done)); try simp only [Act.put, List.setIfInBounds_toArray, List.set_cons_zero, List.set_cons_succ])
        (refine wpL_calm (o := { dst := some 37, op := Go.Op.index 9 (Go.Operand.tmp 33) (Go.Operand.tmp 36), type := 5, pos := "ref.go:30", after := #[{ on := 18, ground := Go.Ground.data }, { on := 21, ground := Go.Ground.data }], guard := none }) (v := ?_) rfl (Or.inl ⟨by rfl, ?_⟩) ?_; rotate_left; (focus (intro w hSw; (try dsimp only at hSw); go_simp; (try (with_reducible rfl)); done)); try simp only [Act.put, List.setIfInBounds_toArray, List.set_cons_zero, List.set_cons_succ])
        (refine wpL_calm (o := { dst := some 38, op := Go.Op.convert 5 3 (Go.Operand.tmp 37), type := 3, pos := "ref.go:30", after := #[{ on := 22, ground := Go.Ground.data }], guard := none }) (v := ?_) rfl (Or.inl ⟨by rfl, ?_⟩) ?_; rotate_left; (focus (intro w hSw; (try dsimp only at hSw); go_simp; (try (with_reducible rfl)); done)); try simp only [Act.put, List.setIfInBounds_toArray, List.set_cons_zero, List.set_cons_succ])
        refine wpL_loud1 (o := { dst := some 39, op := Go.Op.buildSlice 35 4 #[(0, Go.Operand.tmp 20), (1, Go.Operand.tmp 26), (2, Go.Operand.tmp 32), (3, Go.Operand.tmp 38)], type := 35, pos := "ref.go:30", after := #[{ on := 5, ground := Go.Ground.data }, { on := 11, ground := Go.Ground.data }, { on := 17, ground := Go.Ground.data }, { on := 23, ground := Go.Ground.data }], guard := none }) rfl (fun K hK => ?_)
        (rw [if_pos (by rfl)]; refine wp_build4 35 3 _ _ _ _ rfl i0 Try.underlying35 hi0 hz0 hz1 (n0 : Int) (n1 : Int) (n2 : Int) (n3 : Int) rfl rfl rfl rfl ?_)
        refine hK.out _ _ ?_ (fun hHeld => ?_)
        · (try dsimp only); try trivial
        clear hK K
        try simp only [Act.put, List.setIfInBounds_toArray, List.set_cons_zero, List.set_cons_succ]
        refine wpL_loud1 (o := { dst := some 40, op := Go.Op.buildSlice 33 1 #[(0, Go.Operand.tmp 39)], type := 33, pos := "ref.go:30", after := #[{ on := 24, ground := Go.Ground.data }], guard := none }) rfl (fun K hK => ?_)
        go_simp
        refine hK.out _ _ ?_ (fun hHeld => ?_)
        · (try dsimp only); try trivial
        clear hK K
        try simp only [Act.put, List.setIfInBounds_toArray, List.set_cons_zero, List.set_cons_succ]
        refine wpL_loud1 (o := { dst := some 41, op := Go.Op.call { callee := Go.Callee.builtin Go.Builtin.append, args := #[Go.Operand.tmp 15, Go.Operand.tmp 40], argTypes := #[33, 33] }, type := 33, pos := "ref.go:30", after := #[{ on := 0, ground := Go.Ground.data }, { on := 25, ground := Go.Ground.data }], guard := none }) rfl (fun K hK => ?_)
        (rw [if_pos (by rfl)]; obtain ⟨w2, HW2, HA2, HC2, BB⟩ := two_allocs wd (.cells #[.int .i64 (n0 : Int), .int .i64 (n1 : Int), .int .i64 (n2 : Int), .int .i64 (n3 : Int)] 3) (.cells #[.slice (some ⟨wd.heap.size, 0, none⟩) 4 4] 35); rw [HW2.out]; refine wp_push (.tmp 15) (.tmp 40) rfl w.heap.size n W bs cs wd w2 _ rfl HW1 BB wd.heap.size 4 (Nat.le_refl _) (Lib.hid (XRow.of_lit HA2.out (by rw [e0.out]) (by rw [e1.out]) (by rw [e2.out]) (by rw [e3.out]))) (wd.heap.size + 1) rfl (cell_of_row _ _ 0 _ _ _ HC2.out) hl HB1.out.size ?_; intro v' w3 bs' cs' HW3 HB3; have HB4 := Lib.hid (HB1.out.trans ((BB.out.mono HB1.out.size).trans HB3.out)); clear HW2 HA2 HC2 BB HB3 HW1 HB1)
        try go_wp2_with fail
        refine hK.out _ _ ?_ (fun hHeld => ?_)
        · (try dsimp only); try trivial
        clear hK K
        try simp only [Act.put, List.setIfInBounds_toArray, List.set_cons_zero, List.set_cons_succ]
        (refine wpL_calm (o := { dst := some 5, op := Go.Op.assign (Go.Operand.tmp 41), type := 33, pos := "ref.go:30", after := #[{ on := 26, ground := Go.Ground.data }, { on := 26, ground := Go.Ground.chain }, { on := 0, ground := Go.Ground.phase }, { on := 1, ground := Go.Ground.phase }, { on := 2, ground := Go.Ground.phase }, { on := 3, ground := Go.Ground.phase }, { on := 4, ground := Go.Ground.phase }, { on := 5, ground := Go.Ground.phase }, { on := 6, ground := Go.Ground.phase }, { on := 7, ground := Go.Ground.phase }, { on := 8, ground := Go.Ground.phase }, { on := 9, ground := Go.Ground.phase }, { on := 10, ground := Go.Ground.phase }, { on := 11, ground := Go.Ground.phase }, { on := 12, ground := Go.Ground.phase }, { on := 13, ground := Go.Ground.phase }, { on := 14, ground := Go.Ground.phase }, { on := 15, ground := Go.Ground.phase }, { on := 16, ground := Go.Ground.phase }, { on := 17, ground := Go.Ground.phase }, { on := 18, ground := Go.Ground.phase }, { on := 19, ground := Go.Ground.phase }, { on := 20, ground := Go.Ground.phase }, { on := 21, ground := Go.Ground.phase }, { on := 22, ground := Go.Ground.phase }, { on := 23, ground := Go.Ground.phase }, { on := 24, ground := Go.Ground.phase }, { on := 25, ground := Go.Ground.phase }, { on := 26, ground := Go.Ground.phase }], guard := none }) (v := ?_) rfl (Or.inl ⟨by rfl, ?_⟩) ?_; rotate_left; (focus (intro w hSw; (try dsimp only at hSw); go_simp; (try (with_reducible rfl)); done)); try simp only [Act.put, List.setIfInBounds_toArray, List.set_cons_zero, List.set_cons_succ])
        refine wpL_nil ?_
        refine NoPanic.normal ?_
        go_wp2_with fail
        go_roundw
        case rel => exact ⟨n + 1, by go_num, by omega, ⟨bs', cs', HW3⟩, HB4⟩
        case measure => simp [intOf]; omega
      · as_aux_lemma =>
        have h8i : ¬ (n : Int) < 8 := by omega
        have h8n : 8 ≤ n := by omega
        have y0 : IntKind.i64.wrap ((n : Int) - 1) = ((n - 1 : Nat) : Int) := by rw [IntWalk.i64_in _ (by omega)]; omega
        have y1 : IntKind.i64.wrap ((n : Int) - 8) = ((n - 8 : Nat) : Int) := by rw [IntWalk.i64_in _ (by omega)]; omega
        obtain ⟨g, gc, rfl, hgc, hg1, HA⟩ := HW.out.done (by omega)
        have hg2 := HA.lt
        have q1 : ((n - 1 : Nat) : Int) < (n : Int) := by omega
        have q8 : ((n - 8 : Nat) : Int) < (n : Int) := by omega
        have BA : Hid (Below wr.heap.size wr (wr.alloc (.cells #[] 3))) := Lib.hid ((Below.refl _ _).alloc (Nat.le_refl _) _)
        have HNR := Lib.hid (nilRowG wr #[] rfl)
        have c1 := (HA.below BA.out).cell (n - 1) (by omega)
        have HY : Hid (∀ r, r < 4 → (wr.alloc (.cells #[] 3)).cell? ⟨bs (n - 1), r, none⟩ = some (.int .i64 ((byW (W (n - 1)) r).toNat : Int))) := Lib.hid ((HA.below BA.out).word (n - 1) (by omega))
        have HAA := Lib.hid HA
        clear HA
        obtain ⟨y, hy⟩ : ∃ y, Hid (W (n - 1) = y) := ⟨_, Lib.hid rfl⟩
        rw [hy.out] at HY
        have HNX : Hid (∀ r, r < 4 → f2N y n r ^^^ (byW (W (n - 8)) r).toNat = (byW (W n) r).toNat) := Lib.hid (fun r hr => by rw [← hy.out]; exact HNW.out n r h8n hl hr)
        clear hy HNW HIX HKW
        generalize bs (n - 1) = b1 at *
        generalize cs (n - 1) = k1 at *
        generalize n - 1 = m1 at *
        obtain ⟨L, HL1, HL2, HL3⟩ := news4 y
        go_wp2_with (at_builtin; refine wpList_append_own _ rfl _ _ 35 rfl wr.heap.size 3 i0 (.int .i64 0) 1 8 Try.underlying35 hi0 hz0 hz1 hz2 rfl (by decide) _ _ _ rfl HNR.out ⟨b1, 0, none⟩ 4 k1 L rfl (by rw [HL1.out]) ?c1 HL3.out (by unfold maxLen; omega) (by omega) (by simp) ?_)
        case c1 =>
          intro j u hj
          have hj4 : j < 4 := by have := (List.getElem?_eq_some_iff.1 hj).1; rwa [HL1.out] at this
          rw [HL2.out j hj4] at hj
          cases hj
          first | exact HY.out j hj4 | (rw [Addr.add_mid, Nat.zero_add]; exact HY.out j hj4)
        intro v7 w1 hown hg _
        have B1 : Hid (Below wr.heap.size wr w1) := Lib.hid (BA.out.grown hg (by simp) (fun j e => by cases e; exact Nat.le_refl _))
        obtain ⟨b7, c7, rfl, hb7, hx7⟩ := XRow.of_own (f := fun r => (byW y r).toNat) hown (fun r hr => HL2.out r hr)
        have HX7 := Lib.hid hx7
        clear hown hg hx7 HNR HY BA c1 q1 y0
        obtain ⟨m8, hm8⟩ : ∃ m, Hid (n % 8 = m) := ⟨_, Lib.hid rfl⟩
        have hmm : ((n : Int)).tmod 8 = (m8 : Int) := by rw [Int.tmod_eq_emod_of_nonneg (by omega)]; have := hm8.out; omega
        have hme : ((n : Int)) % 8 = (m8 : Int) := by have := hm8.out; omega
        obtain ⟨t0, ht0⟩ : ∃ t : Bool, ((m8 : Int) == 0) = t := ⟨_, rfl⟩
        obtain ⟨t4, ht4⟩ : ∃ t : Bool, ((m8 : Int) == 4) = t := ⟨_, rfl⟩
        have HT0 : Hid (t0 = true ↔ n % 8 = 0) := Lib.hid (by rw [← ht0, beq_iff_eq]; have := hm8.out; omega)
        have HT4 : Hid (t4 = true ↔ n % 8 = 4) := Lib.hid (by rw [← ht4, beq_iff_eq]; have := hm8.out; omega)
        go_upto_if 51 with fail
        go_cut [7] from 51 to 86 (fun s7 wx => ∃ b c, s7 = .slice (some ⟨b, 0, none⟩) 4 c ∧ Hid (wr.heap.size ≤ b) ∧ Hid (XRow wx b (f1N y n)) ∧ Hid (Below wr.heap.size wr wx))
        case first =>
          cases t0 with
          | false =>
            go_wp2_with fail
            go_meet
            exact ⟨b7, c7, rfl, Lib.hid hb7, Lib.hid (HX7.out.congr fun r hr => by
              unfold f1N
              rw [if_neg (fun h => by have := HT0.out.2 h; cases this)]), B1⟩
          | true =>
            as_aux_lemma =>
            have h0 : n % 8 = 0 := HT0.out.1 rfl
            have hpw := pw_pow n hl h8n h0
            obtain ⟨d, hd⟩ : ∃ d, Hid (n / 8 = d) := ⟨_, Lib.hid rfl⟩
            have hd1 : 1 ≤ d := by have := hd.out; omega
            have hd8 : d ≤ 7 := by have := hd.out; omega
            have hdt : ((n : Int)).tdiv 8 = (d : Int) := by rw [Int.tdiv_eq_ediv_of_nonneg (by omega)]; have := hd.out; omega
            have hde : ((n : Int)) / 8 = (d : Int) := by have := hd.out; omega
            obtain ⟨e9, he9⟩ : ∃ e9, Hid (d - 1 = e9) := ⟨_, Lib.hid rfl⟩
            have hdw0 : IntKind.i64.wrap (d : Int) = d := IntWalk.i64_in _ (by omega)
            have hdw : IntKind.i64.wrap ((d : Int) - 1) = (e9 : Int) := by rw [IntWalk.i64_in _ (by omega)]; have := he9.out; omega
            rw [hd.out, he9.out] at hpw
            have CP := Lib.hid (fun w => r02pow_any 2 e9 (pwI n) w (by omega) (by have := he9.out; omega) (Lib.hid hpw))
            have hp5 := pwI_lt n
            have HF : Hid (∀ z0, boxN (byW y 1).toNat ^^^ pwI n = z0 → ∀ r, r < 4 → (if r = 0 then z0 else if r = 1 then boxN (byW y 2).toNat else if r = 2 then boxN (byW y 3).toNat else boxN (byW y 0).toNat) = f1N y n r) := Lib.hid (fun z0 hz r hr => by
              unfold f1N
              rw [if_pos h0, ← hz]
              rcases (show r = 0 ∨ r = 1 ∨ r = 2 ∨ r = 3 by omega) with rfl | rfl | rfl | rfl <;> simp)
            clear hpw hd h0 HT0 HT4
            have v0 := HX7.out.cell 0 (by omega)
            have v1 := HX7.out.cell 1 (by omega)
            have v2 := HX7.out.cell 2 (by omega)
            have v3 := HX7.out.cell 3 (by omega)
            have a0 := (byW y 0).toNat_lt
            have a1 := (byW y 1).toNat_lt
            have a2 := (byW y 2).toNat_lt
            have a3 := (byW y 3).toNat_lt
            have HXX := (hX.out.under ltx (HB.out.trans (B1.out.mono HB.out.size)))
            have u0 := HXX.cell _ a0
            have u1 := HXX.cell _ a1
            have u2 := HXX.cell _ a2
            have u3 := HXX.cell _ a3
            have hb1 := boxN_lt _ a1
            clear HXX HX7
            generalize pwI n = pw at *
            generalize boxN (byW y 0).toNat = z0 at *
            generalize boxN (byW y 1).toNat = z1 at *
            generalize boxN (byW y 2).toNat = z2 at *
            generalize boxN (byW y 3).toNat = z3 at *
            generalize (byW y 0).toNat = w0 at *
            generalize (byW y 1).toNat = w1' at *
            generalize (byW y 2).toNat = w2 at *
            generalize (byW y 3).toNat = w3 at *
            have CA := Lib.hid (fun w => r02add_any z1 pw w (by omega) (by omega))
            obtain ⟨z, hz⟩ : ∃ z, Hid (z1 ^^^ pw = z) := ⟨_, Lib.hid rfl⟩
            rw [hz.out] at CA
            have HF2 := Lib.hid (HF.out z hz.out)
            have o0 : (w0 : Int) < 256 := by omega
            have o1 : (w1' : Int) < 256 := by omega
            have o2 : (w2 : Int) < 256 := by omega
            have o3 : (w3 : Int) < 256 := by omega
            clear HF hz
            go_upto_region 9 with fail
            refine wp_region_lin (S := (fun w' => (w'.cell? ⟨b7, 0, none⟩ = some (.int .i64 (w0 : Int)) ∧ w'.cell? ⟨b7, 1, none⟩ = some (.int .i64 (w1' : Int)) ∧ w'.cell? ⟨b7, 2, none⟩ = some (.int .i64 (w2 : Int)) ∧ w'.cell? ⟨b7, 3, none⟩ = some (.int .i64 (w3 : Int))) ∧ w'.cell? ⟨xb, w0, none⟩ = some (.int .i64 (z0 : Int)) ∧ w'.cell? ⟨xb, w1', none⟩ = some (.int .i64 (z1 : Int)) ∧ w'.cell? ⟨xb, w2, none⟩ = some (.int .i64 (z2 : Int)) ∧ w'.cell? ⟨xb, w3, none⟩ = some (.int .i64 (z3 : Int)))) [(0, true), (1, true), (2, true), (3, true), (4, true), (5, true), (6, true), (7, true), (8, true), (9, true), (10, true), (11, true), (12, true), (13, true), (14, true), (15, true), (16, true), (17, true), (18, true), (19, true), (20, true), (21, true), (22, true), (23, true), (24, false), (25, true)] (by kernel_rfl) (by kernel_rfl) rfl (by kernel_rfl) ?_ (fun hHeld => ?_)
            · (try dsimp only); exact ⟨⟨v0, v1, v2, v3⟩, u0, u1, u2, u3⟩
            (refine wpL_calm (o := { dst := some 52, op := Go.Op.move (Go.Operand.tmp 1), type := 35, pos := "ref.go:35", after := #[], guard := none }) (v := ?_) rfl (Or.inl ⟨by rfl, ?_⟩) ?_; rotate_left; (focus (intro w hSw; (try dsimp only at hSw); go_simp; (try (with_reducible rfl)); done)); try simp only [Act.put, List.setIfInBounds_toArray, List.set_cons_zero, List.set_cons_succ])
            (refine wpL_calm (o := { dst := some 53, op := Go.Op.move (Go.Operand.tmp 7), type := 35, pos := "ref.go:35", after := #[], guard := none }) (v := ?_) rfl (Or.inl ⟨by rfl, ?_⟩) ?_; rotate_left; (focus (intro w hSw; (try dsimp only at hSw); go_simp; (try (with_reducible rfl)); done)); try simp only [Act.put, List.setIfInBounds_toArray, List.set_cons_zero, List.set_cons_succ])
            (refine wpL_calm (o := { dst := some 54, op := Go.Op.indexAddr 35 (Go.Operand.tmp 53) (Go.Operand.const (Go.Value.int Go.IntKind.i64 1)), type := 0, pos := "ref.go:35", after := #[{ on := 1, ground := Go.Ground.data }], guard := none }) (v := ?_) rfl (Or.inl ⟨by rfl, ?_⟩) ?_; rotate_left; (focus (intro w hSw; (try dsimp only at hSw); go_simp; (try (with_reducible rfl)); done)); try simp only [Act.put, List.setIfInBounds_toArray, List.set_cons_zero, List.set_cons_succ])
            (refine wpL_calm (o := { dst := some 55, op := Go.Op.load 3 (Go.Operand.tmp 54), type := 3, pos := "ref.go:35", after := #[{ on := 2, ground := Go.Ground.data }], guard := none }) (v := ?_) rfl (Or.inl ⟨by rfl, ?_⟩) ?_; rotate_left; (focus (intro w hSw; (try dsimp only at hSw); go_simp; (try (with_reducible rfl)); done)); try simp only [Act.put, List.setIfInBounds_toArray, List.set_cons_zero, List.set_cons_succ])
            (refine wpL_calm (o := { dst := some 56, op := Go.Op.indexAddr 35 (Go.Operand.tmp 52) (Go.Operand.tmp 55), type := 0, pos := "ref.go:35", after := #[{ on := 0, ground := Go.Ground.data }, { on := 3, ground := Go.Ground.data }], guard := none }) (v := ?_) rfl (Or.inl ⟨by rfl, ?_⟩) ?_; rotate_left; (focus (intro w hSw; (try dsimp only at hSw); go_simp; (try (with_reducible rfl)); done)); try simp only [Act.put, List.setIfInBounds_toArray, List.set_cons_zero, List.set_cons_succ])
            (refine wpL_calm (o := { dst := some 57, op := Go.Op.load 3 (Go.Operand.tmp 56), type := 3, pos := "ref.go:35", after := #[{ on := 4, ground := Go.Ground.data }], guard := none }) (v := ?_) rfl (Or.inl ⟨by rfl, ?_⟩) ?_; rotate_left; (focus (intro w hSw; (try dsimp only at hSw); go_simp; (try (with_reducible rfl)); done)); try simp only [Act.put, List.setIfInBounds_toArray, List.set_cons_zero, List.set_cons_succ])
            (refine wpL_calm (o := { dst := some 58, op := Go.Op.move (Go.Operand.tmp 1), type := 35, pos := "ref.go:35", after := #[], guard := none }) (v := ?_) rfl (Or.inl ⟨by rfl, ?_⟩) ?_; rotate_left; (focus (intro w hSw; (try dsimp only at hSw); go_simp; (try (with_reducible rfl)); done)); try simp only [Act.put, List.setIfInBounds_toArray, List.set_cons_zero, List.set_cons_succ])
            (refine wpL_calm (o := { dst := some 59, op := Go.Op.move (Go.Operand.tmp 7), type := 35, pos := "ref.go:35", after := #[], guard := none }) (v := ?_) rfl (Or.inl ⟨by rfl, ?_⟩) ?_; rotate_left; (focus (intro w hSw; (try dsimp only at hSw); go_simp; (try (with_reducible rfl)); done)); try simp only [Act.put, List.setIfInBounds_toArray, List.set_cons_zero, List.set_cons_succ])
            (refine wpL_calm (o := { dst := some 60, op := Go.Op.indexAddr 35 (Go.Operand.tmp 59) (Go.Operand.const (Go.Value.int Go.IntKind.i64 2)), type := 0, pos := "ref.go:35", after := #[{ on := 7, ground := Go.Ground.data }], guard := none }) (v := ?_) rfl (Or.inl ⟨by rfl, ?_⟩) ?_; rotate_left; (focus (intro w hSw; (try dsimp only at hSw); go_simp; (try (with_reducible rfl)); done)); try simp only [Act.put, List.setIfInBounds_toArray, List.set_cons_zero, List.set_cons_succ])
            (refine wpL_calm (o := { dst := some 61, op := Go.Op.load 3 (Go.Operand.tmp 60), type := 3, pos := "ref.go:35", after := #[{ on := 8, ground := Go.Ground.data }], guard := none }) (v := ?_) rfl (Or.inl ⟨by rfl, ?_⟩) ?_; rotate_left; (focus (intro w hSw; (try dsimp only at hSw); go_simp; (try (with_reducible rfl)); done)); try simp only [Act.put, List.setIfInBounds_toArray, List.set_cons_zero, List.set_cons_succ])
            (refine wpL_calm (o := { dst := some 62, op := Go.Op.indexAddr 35 (Go.Operand.tmp 58) (Go.Operand.tmp 61), type := 0, pos := "ref.go:35", after := #[{ on := 6, ground := Go.Ground.data }, { on := 9, ground := Go.Ground.data }], guard := none }) (v := ?_) rfl (Or.inl ⟨by rfl, ?_⟩) ?_; rotate_left; (focus (intro w hSw; (try dsimp only at hSw); go_simp; (try (with_reducible rfl)); done)); try simp only [Act.put, List.setIfInBounds_toArray, List.set_cons_zero, List.set_cons_succ])
            (refine wpL_calm (o := { dst := some 63, op := Go.Op.load 3 (Go.Operand.tmp 62), type := 3, pos := "ref.go:35", after := #[{ on := 10, ground := Go.Ground.data }], guard := none }) (v := ?_) rfl (Or.inl ⟨by rfl, ?_⟩) ?_; rotate_left; (focus (intro w hSw; (try dsimp only at hSw); go_simp; (try (with_reducible rfl)); done)); try simp only [Act.put, List.setIfInBounds_toArray, List.set_cons_zero, List.set_cons_succ])
            (refine wpL_calm (o := { dst := some 64, op := Go.Op.move (Go.Operand.tmp 1), type := 35, pos := "ref.go:35", after := #[], guard := none }) (v := ?_) rfl (Or.inl ⟨by rfl, ?_⟩) ?_; rotate_left; (focus (intro w hSw; (try dsimp only at hSw); go_simp; (try (with_reducible rfl)); done)); try simp only [Act.put, List.setIfInBounds_toArray, List.set_cons_zero, List.set_cons_succ])
            (refine wpL_calm (o := { dst := some 65, op := Go.Op.move (Go.Operand.tmp 7), type := 35, pos := "ref.go:35", after := #[], guard := none }) (v := ?_) rfl (Or.inl ⟨by rfl, ?_⟩) ?_; rotate_left; (focus (intro w hSw; (try dsimp only at hSw); go_simp; (try (with_reducible rfl)); done)); try simp only [Act.put, List.setIfInBounds_toArray, List.set_cons_zero, List.set_cons_succ])
            (refine wpL_calm (o := { dst := some 66, op := Go.Op.indexAddr 35 (Go.Operand.tmp 65) (Go.Operand.const (Go.Value.int Go.IntKind.i64 3)), type := 0, pos := "ref.go:35", after := #[{ on := 13, ground := Go.Ground.data }], guard := none }) (v := ?_) rfl (Or.inl ⟨by rfl, ?_⟩) ?_; rotate_left; (focus (intro w hSw; (try dsimp only at hSw); go_simp; (try (with_reducible rfl)); done)); try simp only [Act.put, List.setIfInBounds_toArray, List.set_cons_zero, List.set_cons_succ])
            (refine wpL_calm (o := { dst := some 67, op := Go.Op.load 3 (Go.Operand.tmp 66), type := 3, pos := "ref.go:35", after := #[{ on := 14, ground := Go.Ground.data }], guard := none }) (v := ?_) rfl (Or.inl ⟨by rfl, ?_⟩) ?_; rotate_left; (focus (intro w hSw; (try dsimp only at hSw); go_simp; (try (with_reducible rfl)); done)); try simp only [Act.put, List.setIfInBounds_toArray, List.set_cons_zero, List.set_cons_succ])
            (refine wpL_calm (o := { dst := some 68, op := Go.Op.indexAddr 35 (Go.Operand.tmp 64) (Go.Operand.tmp 67), type := 0, pos := "ref.go:35", after := #[{ on := 12, ground := Go.Ground.data }, { on := 15, ground := Go.Ground.data }], guard := none }) (v := ?_) rfl (Or.inl ⟨by rfl, ?_⟩) ?_; rotate_left; (focus (intro w hSw; (try dsimp only at hSw); go_simp; (try (with_reducible rfl)); done)); try simp only [Act.put, List.setIfInBounds_toArray, List.set_cons_zero, List.set_cons_succ])
            (refine wpL_calm (o := { dst := some 69, op := Go.Op.load 3 (Go.Operand.tmp 68), type := 3, pos := "ref.go:35", after := #[{ on := 16, ground := Go.Ground.data }], guard := none }) (v := ?_) rfl (Or.inl ⟨by rfl, ?_⟩) ?_; rotate_left; (focus (intro w hSw; (try dsimp only at hSw); go_simp; (try (with_reducible rfl)); done)); try simp only [Act.put, List.setIfInBounds_toArray, List.set_cons_zero, List.set_cons_succ])
            (refine wpL_calm (o := { dst := some 70, op := Go.Op.move (Go.Operand.tmp 1), type := 35, pos := "ref.go:35", after := #[], guard := none }) (v := ?_) rfl (Or.inl ⟨by rfl, ?_⟩) ?_; rotate_left; (focus (intro w hSw; (try dsimp only at hSw); go_simp; (try (with_reducible rfl)); done)); try simp only [Act.put, List.setIfInBounds_toArray, List.set_cons_zero, List.set_cons_succ])
            (refine wpL_calm (o := { dst := some 71, op := Go.Op.move (Go.Operand.tmp 7), type := 35, pos := "ref.go:35", after := #[], guard := none }) (v := ?_) rfl (Or.inl ⟨by rfl, ?_⟩) ?_; rotate_left; (focus (intro w hSw; (try dsimp only at hSw); go_simp; (try (with_reducible rfl)); done)); try simp only [Act.put, List.setIfInBounds_toArray, List.set_cons_zero, List.set_cons_succ])
            (refine wpL_calm (o := { dst := some 72, op := Go.Op.indexAddr 35 (Go.Operand.tmp 71) (Go.Operand.const (Go.Value.int Go.IntKind.i64 0)), type := 0, pos := "ref.go:35", after := #[{ on := 19, ground := Go.Ground.data }], guard := none }) (v := ?_) rfl (Or.inl ⟨by rfl, ?_⟩) ?_; rotate_left; (focus (intro w hSw; (try dsimp only at hSw); go_simp; (try (with_reducible rfl)); done)); try simp only [Act.put, List.setIfInBounds_toArray, List.set_cons_zero, List.set_cons_succ])
            (refine wpL_calm (o := { dst := some 73, op := Go.Op.load 3 (Go.Operand.tmp 72), type := 3, pos := "ref.go:35", after := #[{ on := 20, ground := Go.Ground.data }], guard := none }) (v := ?_) rfl (Or.inl ⟨by rfl, ?_⟩) ?_; rotate_left; (focus (intro w hSw; (try dsimp only at hSw); go_simp; (try (with_reducible rfl)); done)); try simp only [Act.put, List.setIfInBounds_toArray, List.set_cons_zero, List.set_cons_succ])
            (refine wpL_calm (o := { dst := some 74, op := Go.Op.indexAddr 35 (Go.Operand.tmp 70) (Go.Operand.tmp 73), type := 0, pos := "ref.go:35", after := #[{ on := 18, ground := Go.Ground.data }, { on := 21, ground := Go.Ground.data }], guard := none }) (v := ?_) rfl (Or.inl ⟨by rfl, ?_⟩) ?_; rotate_left; (focus (intro w hSw; (try dsimp only at hSw); go_simp; (try (with_reducible rfl)); done)); try simp only [Act.put, List.setIfInBounds_toArray, List.set_cons_zero, List.set_cons_succ])
            (refine wpL_calm (o := { dst := some 75, op := Go.Op.load 3 (Go.Operand.tmp 74), type := 3, pos := "ref.go:35", after := #[{ on := 22, ground := Go.Ground.data }], guard := none }) (v := ?_) rfl (Or.inl ⟨by rfl, ?_⟩) ?_; rotate_left; (focus (intro w hSw; (try dsimp only at hSw); go_simp; (try (with_reducible rfl)); done)); try simp only [Act.put, List.setIfInBounds_toArray, List.set_cons_zero, List.set_cons_succ])
            refine wpL_loud1 (o := { dst := some 76, op := Go.Op.buildSlice 35 4 #[(0, Go.Operand.tmp 57), (1, Go.Operand.tmp 63), (2, Go.Operand.tmp 69), (3, Go.Operand.tmp 75)], type := 35, pos := "ref.go:35", after := #[{ on := 5, ground := Go.Ground.data }, { on := 11, ground := Go.Ground.data }, { on := 17, ground := Go.Ground.data }, { on := 23, ground := Go.Ground.data }], guard := none }) rfl (fun K hK => ?_)
            (rw [if_pos (by rfl)]; refine wp_build4 35 3 _ _ _ _ rfl i0 Try.underlying35 hi0 hz0 hz1 (z1 : Int) (z2 : Int) (z3 : Int) (z0 : Int) rfl rfl rfl rfl ?_)
            refine hK.out _ _ ?_ (fun hHeld => ?_)
            · (try dsimp only); exact ⟨⟨cell_allocG hHeld.1.1, cell_allocG hHeld.1.2.1, cell_allocG hHeld.1.2.2.1, cell_allocG hHeld.1.2.2.2⟩, cell_allocG hHeld.2.1, cell_allocG hHeld.2.2.1, cell_allocG hHeld.2.2.2.1, cell_allocG hHeld.2.2.2.2⟩
            clear hK K
            try simp only [Act.put, List.setIfInBounds_toArray, List.set_cons_zero, List.set_cons_succ]
            (refine wpL_calm (o := { dst := some 7, op := Go.Op.assign (Go.Operand.tmp 76), type := 35, pos := "ref.go:35", after := #[{ on := 24, ground := Go.Ground.data }, { on := 0, ground := Go.Ground.phase }, { on := 1, ground := Go.Ground.phase }, { on := 2, ground := Go.Ground.phase }, { on := 3, ground := Go.Ground.phase }, { on := 4, ground := Go.Ground.phase }, { on := 5, ground := Go.Ground.phase }, { on := 6, ground := Go.Ground.phase }, { on := 7, ground := Go.Ground.phase }, { on := 8, ground := Go.Ground.phase }, { on := 9, ground := Go.Ground.phase }, { on := 10, ground := Go.Ground.phase }, { on := 11, ground := Go.Ground.phase }, { on := 12, ground := Go.Ground.phase }, { on := 13, ground := Go.Ground.phase }, { on := 14, ground := Go.Ground.phase }, { on := 15, ground := Go.Ground.phase }, { on := 16, ground := Go.Ground.phase }, { on := 17, ground := Go.Ground.phase }, { on := 18, ground := Go.Ground.phase }, { on := 19, ground := Go.Ground.phase }, { on := 20, ground := Go.Ground.phase }, { on := 21, ground := Go.Ground.phase }, { on := 22, ground := Go.Ground.phase }, { on := 23, ground := Go.Ground.phase }, { on := 24, ground := Go.Ground.phase }], guard := none }) (v := ?_) rfl (Or.inl ⟨by rfl, ?_⟩) ?_; rotate_left; (focus (intro w hSw; (try dsimp only at hSw); go_simp; (try (with_reducible rfl)); done)); try simp only [Act.put, List.setIfInBounds_toArray, List.set_cons_zero, List.set_cons_succ])
            refine wpL_nil ?_
            refine NoPanic.normal ?_
            clear hHeld v0 v1 v2 v3 u0 u1 u2 u3
            obtain ⟨w5, HW5, HX5, B5⟩ : ∃ w5, Hid (w1.drew.alloc (.cells #[.int .i64 (z1 : Int), .int .i64 (z2 : Int), .int .i64 (z3 : Int), .int .i64 (z0 : Int)] 3) = w5) ∧ Hid (XRow w5 w1.heap.size (fun r => if r = 0 then z1 else if r = 1 then z2 else if r = 2 then z3 else z0)) ∧ Hid (Below wr.heap.size wr w5) := ⟨_, Lib.hid rfl, Lib.hid (XRow.of_lit (heap_alloc_new w1.drew _) rfl rfl rfl rfl), Lib.hid (B1.out.drew.alloc B1.out.size _)⟩
            have HQ5 : Hid (wr.heap.size ≤ w1.heap.size) := Lib.hid B1.out.size
            have hc9 := HX5.out.cell 0 (by omega)
            rw [if_pos rfl] at hc9
            have hf9 := HX5.out.free 0
            rw [show ((2 : Nat) : Int) = 2 from rfl] at CP
            go_upto_region 10 with fail
            rw [HW5.out]
            clear HW5 B1
            generalize w1.heap.size = b9 at *
            refine wp_region_lin (S := (fun w' => w'.cell? ⟨b9, 0, none⟩ = some (.int .i64 (z1 : Int)))) [(0, true), (1, true), (2, true), (3, true), (4, true), (5, true), (6, true), (7, false), (8, false), (9, true), (10, false)] (by kernel_rfl) (by kernel_rfl) rfl (by kernel_rfl) ?_ (fun hHeld => ?_)
            · (try dsimp only); exact hc9
            refine wpL_calm (o := { dst := some 77, op := Go.Op.move (Go.Operand.tmp 7), type := 35, pos := "ref.go:36", after := #[], guard := none }) (v := ?_) rfl (Or.inl ⟨by rfl, ?_⟩) ?_; rotate_left; (focus (intro w hSw; (try dsimp only at hSw); go_simp; (try (with_reducible rfl)); done)); try simp only [Act.put, List.setIfInBounds_toArray, List.set_cons_zero, List.set_cons_succ]
            refine wpL_calm (o := { dst := some 78, op := Go.Op.move (Go.Operand.tmp 7), type := 35, pos := "ref.go:36", after := #[], guard := none }) (v := ?_) rfl (Or.inl ⟨by rfl, ?_⟩) ?_; rotate_left; (focus (intro w hSw; (try dsimp only at hSw); go_simp; (try (with_reducible rfl)); done)); try simp only [Act.put, List.setIfInBounds_toArray, List.set_cons_zero, List.set_cons_succ]
            refine wpL_calm (o := { dst := some 79, op := Go.Op.indexAddr 35 (Go.Operand.tmp 78) (Go.Operand.const (Go.Value.int Go.IntKind.i64 0)), type := 0, pos := "ref.go:36", after := #[{ on := 1, ground := Go.Ground.data }], guard := none }) (v := ?_) rfl (Or.inl ⟨by rfl, ?_⟩) ?_; rotate_left; (focus (intro w hSw; (try dsimp only at hSw); go_simp; (try (with_reducible rfl)); done)); try simp only [Act.put, List.setIfInBounds_toArray, List.set_cons_zero, List.set_cons_succ]
            refine wpL_calm (o := { dst := some 80, op := Go.Op.load 3 (Go.Operand.tmp 79), type := 3, pos := "ref.go:36", after := #[{ on := 2, ground := Go.Ground.data }], guard := none }) (v := ?_) rfl (Or.inl ⟨by rfl, ?_⟩) ?_; rotate_left; (focus (intro w hSw; (try dsimp only at hSw); go_simp; (try (with_reducible rfl)); done)); try simp only [Act.put, List.setIfInBounds_toArray, List.set_cons_zero, List.set_cons_succ]
            refine wpL_calm (o := { dst := some 81, op := Go.Op.move (Go.Operand.tmp 6), type := 3, pos := "ref.go:36", after := #[], guard := none }) (v := ?_) rfl (Or.inl ⟨by rfl, ?_⟩) ?_; rotate_left; (focus (intro w hSw; (try dsimp only at hSw); go_simp; (try (with_reducible rfl)); done)); try simp only [Act.put, List.setIfInBounds_toArray, List.set_cons_zero, List.set_cons_succ]
            refine wpL_calm (o := { dst := some 82, op := Go.Op.binOp Go.BinOp.quo 3 (Go.Operand.tmp 81) (Go.Operand.const (Go.Value.int Go.IntKind.i64 8)) 3, type := 3, pos := "ref.go:36", after := #[{ on := 4, ground := Go.Ground.data }], guard := none }) (v := ?_) rfl (Or.inl ⟨by rfl, ?_⟩) ?_; rotate_left; (focus (intro w hSw; (try dsimp only at hSw); go_simp; (try (with_reducible rfl)); done)); try simp only [Act.put, List.setIfInBounds_toArray, List.set_cons_zero, List.set_cons_succ]
            refine wpL_calm (o := { dst := some 83, op := Go.Op.binOp Go.BinOp.sub 3 (Go.Operand.tmp 82) (Go.Operand.const (Go.Value.int Go.IntKind.i64 1)) 3, type := 3, pos := "ref.go:36", after := #[{ on := 5, ground := Go.Ground.data }], guard := none }) (v := ?_) rfl (Or.inl ⟨by rfl, ?_⟩) ?_; rotate_left; (focus (intro w hSw; (try dsimp only at hSw); go_simp; (try (with_reducible rfl)); done)); try simp only [Act.put, List.setIfInBounds_toArray, List.set_cons_zero, List.set_cons_succ]
            refine wpL_loud1 (o := { dst := some 84, op := Go.Op.call { callee := Go.Callee.value (Go.Operand.func 52), args := #[Go.Operand.const (Go.Value.int Go.IntKind.i64 2), Go.Operand.tmp 83], argTypes := #[3, 3] }, type := 3, pos := "ref.go:36", after := #[{ on := 6, ground := Go.Ground.data }], guard := none }) rfl (fun K hK => ?_)
            (go_simp; go_at_call 52; refine (CP.out _).mono ?_; rintro e w' ⟨rfl, rfl⟩)
            try go_wp2_with fail
            refine hK.out _ _ ?_ (fun hHeld => ?_)
            · (try dsimp only); exact hHeld
            clear hK K
            try simp only [Act.put, List.setIfInBounds_toArray, List.set_cons_zero, List.set_cons_succ]
            refine wpL_loud1 (o := { dst := some 85, op := Go.Op.call { callee := Go.Callee.value (Go.Operand.func 47), args := #[Go.Operand.tmp 80, Go.Operand.tmp 84], argTypes := #[3, 3] }, type := 3, pos := "ref.go:36", after := #[{ on := 3, ground := Go.Ground.data }, { on := 7, ground := Go.Ground.data }, { on := 7, ground := Go.Ground.chain }], guard := none }) rfl (fun K hK => ?_)
            (go_simp; go_at_call 47; refine (CA.out _).mono ?_; rintro e w' ⟨rfl, rfl⟩)
            try go_wp2_with fail
            refine hK.out _ _ ?_ (fun hHeld => ?_)
            · (try dsimp only); exact hHeld
            clear hK K
            try simp only [Act.put, List.setIfInBounds_toArray, List.set_cons_zero, List.set_cons_succ]
            refine wpL_calm (o := { dst := some 86, op := Go.Op.indexAddr 35 (Go.Operand.tmp 77) (Go.Operand.const (Go.Value.int Go.IntKind.i64 0)), type := 0, pos := "ref.go:36", after := #[{ on := 0, ground := Go.Ground.data }, { on := 0, ground := Go.Ground.phase }, { on := 1, ground := Go.Ground.phase }, { on := 2, ground := Go.Ground.phase }, { on := 3, ground := Go.Ground.phase }, { on := 4, ground := Go.Ground.phase }, { on := 5, ground := Go.Ground.phase }, { on := 6, ground := Go.Ground.phase }, { on := 7, ground := Go.Ground.phase }, { on := 8, ground := Go.Ground.phase }], guard := none }) (v := ?_) rfl (Or.inl ⟨by rfl, ?_⟩) ?_; rotate_left; (focus (intro w hSw; (try dsimp only at hSw); go_simp; (try (with_reducible rfl)); done)); try simp only [Act.put, List.setIfInBounds_toArray, List.set_cons_zero, List.set_cons_succ]
            refine wpL_loud0 (o := { dst := none, op := Go.Op.store 3 (Go.Operand.tmp 86) (Go.Operand.tmp 85), type := 0, pos := "ref.go:36", after := #[{ on := 9, ground := Go.Ground.data }, { on := 8, ground := Go.Ground.data }, { on := 8, ground := Go.Ground.chain }, { on := 0, ground := Go.Ground.phase }, { on := 1, ground := Go.Ground.phase }, { on := 2, ground := Go.Ground.phase }, { on := 3, ground := Go.Ground.phase }, { on := 4, ground := Go.Ground.phase }, { on := 5, ground := Go.Ground.phase }, { on := 6, ground := Go.Ground.phase }, { on := 7, ground := Go.Ground.phase }, { on := 8, ground := Go.Ground.phase }], guard := none }) rfl (by kernel_rfl) (fun K hK => ?_)
            go_simp
            refine hK.out _ _ ?_
            clear hK K
            try simp only [Act.put, List.setIfInBounds_toArray, List.set_cons_zero, List.set_cons_succ]
            refine wpL_nil ?_
            refine NoPanic.normal ?_
            go_wp2_with fail
            go_meet
            exact ⟨b9, 4, rfl, HQ5, Lib.hid ((XRow.drew (HX5.out.set 0 (by omega) z)).congr fun r hr => by
              rw [← HF2.out r hr]
              by_cases e : r = 0
              · rw [if_pos e, if_pos e]
              · rw [if_neg e, if_neg e, if_neg e]), Lib.hid (by first | exact B5.out.setCell (p := ⟨b9, 0, none⟩) HQ5.out _ | exact (B5.out.setCell (p := ⟨b9, 0, none⟩) HQ5.out _).drew | exact (B5.out.setCell (p := ⟨b9, 0, none⟩) HQ5.out _).drew.drew | exact (B5.out.setCell (p := ⟨b9, 0, none⟩) HQ5.out _).drew.drew.drew)⟩
        case rest =>
          as_aux_lemma =>
          obtain ⟨b, c, rfl, HBB, HX8, B2⟩ := hcut
          clear HX7 HL1 HL2 HL3 HT0 B1
          go_upto_if 89 with fail
          go_cut [7] from 89 to 114 (fun s7 wx => ∃ b c, s7 = .slice (some ⟨b, 0, none⟩) 4 c ∧ Hid (wr.heap.size ≤ b) ∧ Hid (XRow wx b (f2N y n)) ∧ Hid (Below wr.heap.size wr wx))
          case first =>
            cases t4 with
            | false =>
              go_wp2_with fail
              go_meet
              exact ⟨b, c, rfl, HBB, Lib.hid (HX8.out.congr fun r hr => by
                unfold f2N
                rw [if_neg (fun h => by have := HT4.out.2 h; cases this)]), B2⟩
            | true =>
              as_aux_lemma =>
              have h4 : n % 8 = 4 := HT4.out.1 rfl
              have HX9 : Hid (XRow wc b (fun r => (byW y r).toNat)) := Lib.hid (HX8.out.congr fun r hr => by
                unfold f1N
                rw [if_neg (by omega)])
              have HF : Hid (∀ r, r < 4 → (if r = 0 then boxN (byW y 0).toNat else if r = 1 then boxN (byW y 1).toNat else if r = 2 then boxN (byW y 2).toNat else boxN (byW y 3).toNat) = f2N y n r) := Lib.hid (fun r hr => by
                unfold f2N
                rw [if_pos h4]
                rcases (show r = 0 ∨ r = 1 ∨ r = 2 ∨ r = 3 by omega) with rfl | rfl | rfl | rfl <;> simp)
              clear h4 HT4 HX8
              have v0 := HX9.out.cell 0 (by omega)
              have v1 := HX9.out.cell 1 (by omega)
              have v2 := HX9.out.cell 2 (by omega)
              have v3 := HX9.out.cell 3 (by omega)
              have a0 := (byW y 0).toNat_lt
              have a1 := (byW y 1).toNat_lt
              have a2 := (byW y 2).toNat_lt
              have a3 := (byW y 3).toNat_lt
              have HXX := (hX.out.under ltx (HB.out.trans (B2.out.mono HB.out.size)))
              have u0 := HXX.cell _ a0
              have u1 := HXX.cell _ a1
              have u2 := HXX.cell _ a2
              have u3 := HXX.cell _ a3
              clear HXX HX9
              generalize boxN (byW y 0).toNat = z0 at *
              generalize boxN (byW y 1).toNat = z1 at *
              generalize boxN (byW y 2).toNat = z2 at *
              generalize boxN (byW y 3).toNat = z3 at *
              generalize (byW y 0).toNat = w0 at *
              generalize (byW y 1).toNat = w1' at *
              generalize (byW y 2).toNat = w2 at *
              generalize (byW y 3).toNat = w3 at *
              have o0 : (w0 : Int) < 256 := by omega
              have o1 : (w1' : Int) < 256 := by omega
              have o2 : (w2 : Int) < 256 := by omega
              have o3 : (w3 : Int) < 256 := by omega
              go_upto_region 12 with fail
              refine wp_region_lin (S := (fun w' => (w'.cell? ⟨b, 0, none⟩ = some (.int .i64 (w0 : Int)) ∧ w'.cell? ⟨b, 1, none⟩ = some (.int .i64 (w1' : Int)) ∧ w'.cell? ⟨b, 2, none⟩ = some (.int .i64 (w2 : Int)) ∧ w'.cell? ⟨b, 3, none⟩ = some (.int .i64 (w3 : Int))) ∧ w'.cell? ⟨xb, w0, none⟩ = some (.int .i64 (z0 : Int)) ∧ w'.cell? ⟨xb, w1', none⟩ = some (.int .i64 (z1 : Int)) ∧ w'.cell? ⟨xb, w2, none⟩ = some (.int .i64 (z2 : Int)) ∧ w'.cell? ⟨xb, w3, none⟩ = some (.int .i64 (z3 : Int)))) [(0, true), (1, true), (2, true), (3, true), (4, true), (5, true), (6, true), (7, true), (8, true), (9, true), (10, true), (11, true), (12, true), (13, true), (14, true), (15, true), (16, true), (17, true), (18, true), (19, true), (20, true), (21, true), (22, true), (23, true), (24, false), (25, true)] (by kernel_rfl) (by kernel_rfl) rfl (by kernel_rfl) ?_ (fun hHeld => ?_)
              · (try dsimp only); exact ⟨⟨v0, v1, v2, v3⟩, u0, u1, u2, u3⟩
              (refine wpL_calm (o := { dst := some 90, op := Go.Op.move (Go.Operand.tmp 1), type := 35, pos := "ref.go:39", after := #[], guard := none }) (v := ?_) rfl (Or.inl ⟨by rfl, ?_⟩) ?_; rotate_left; (focus (intro w hSw; (try dsimp only at hSw); go_simp; (try (with_reducible rfl)); done)); try simp only [Act.put, List.setIfInBounds_toArray, List.set_cons_zero, List.set_cons_succ])
              (refine wpL_calm (o := { dst := some 91, op := Go.Op.move (Go.Operand.tmp 7), type := 35, pos := "ref.go:39", after := #[], guard := none }) (v := ?_) rfl (Or.inl ⟨by rfl, ?_⟩) ?_; rotate_left; (focus (intro w hSw; (try dsimp only at hSw); go_simp; (try (with_reducible rfl)); done)); try simp only [Act.put, List.setIfInBounds_toArray, List.set_cons_zero, List.set_cons_succ])
              (refine wpL_calm (o := { dst := some 92, op := Go.Op.indexAddr 35 (Go.Operand.tmp 91) (Go.Operand.const (Go.Value.int Go.IntKind.i64 0)), type := 0, pos := "ref.go:39", after := #[{ on := 1, ground := Go.Ground.data }], guard := none }) (v := ?_) rfl (Or.inl ⟨by rfl, ?_⟩) ?_; rotate_left; (focus (intro w hSw; (try dsimp only at hSw); go_simp; (try (with_reducible rfl)); done)); try simp only [Act.put, List.setIfInBounds_toArray, List.set_cons_zero, List.set_cons_succ])
              (refine wpL_calm (o := { dst := some 93, op := Go.Op.load 3 (Go.Operand.tmp 92), type := 3, pos := "ref.go:39", after := #[{ on := 2, ground := Go.Ground.data }], guard := none }) (v := ?_) rfl (Or.inl ⟨by rfl, ?_⟩) ?_; rotate_left; (focus (intro w hSw; (try dsimp only at hSw); go_simp; (try (with_reducible rfl)); done)); try simp only [Act.put, List.setIfInBounds_toArray, List.set_cons_zero, List.set_cons_succ])
              (refine wpL_calm (o := { dst := some 94, op := Go.Op.indexAddr 35 (Go.Operand.tmp 90) (Go.Operand.tmp 93), type := 0, pos := "ref.go:39", after := #[{ on := 0, ground := Go.Ground.data }, { on := 3, ground := Go.Ground.data }], guard := none }) (v := ?_) rfl (Or.inl ⟨by rfl, ?_⟩) ?_; rotate_left; (focus (intro w hSw; (try dsimp only at hSw); go_simp; (try (with_reducible rfl)); done)); try simp only [Act.put, List.setIfInBounds_toArray, List.set_cons_zero, List.set_cons_succ])
              (refine wpL_calm (o := { dst := some 95, op := Go.Op.load 3 (Go.Operand.tmp 94), type := 3, pos := "ref.go:39", after := #[{ on := 4, ground := Go.Ground.data }], guard := none }) (v := ?_) rfl (Or.inl ⟨by rfl, ?_⟩) ?_; rotate_left; (focus (intro w hSw; (try dsimp only at hSw); go_simp; (try (with_reducible rfl)); done)); try simp only [Act.put, List.setIfInBounds_toArray, List.set_cons_zero, List.set_cons_succ])
              (refine wpL_calm (o := { dst := some 96, op := Go.Op.move (Go.Operand.tmp 1), type := 35, pos := "ref.go:39", after := #[], guard := none }) (v := ?_) rfl (Or.inl ⟨by rfl, ?_⟩) ?_; rotate_left; (focus (intro w hSw; (try dsimp only at hSw); go_simp; (try (with_reducible rfl)); done)); try simp only [Act.put, List.setIfInBounds_toArray, List.set_cons_zero, List.set_cons_succ])
              (refine wpL_calm (o := { dst := some 97, op := Go.Op.move (Go.Operand.tmp 7), type := 35, pos := "ref.go:39", after := #[], guard := none }) (v := ?_) rfl (Or.inl ⟨by rfl, ?_⟩) ?_; rotate_left; (focus (intro w hSw; (try dsimp only at hSw); go_simp; (try (with_reducible rfl)); done)); try simp only [Act.put, List.setIfInBounds_toArray, List.set_cons_zero, List.set_cons_succ])
              (refine wpL_calm (o := { dst := some 98, op := Go.Op.indexAddr 35 (Go.Operand.tmp 97) (Go.Operand.const (Go.Value.int Go.IntKind.i64 1)), type := 0, pos := "ref.go:39", after := #[{ on := 7, ground := Go.Ground.data }], guard := none }) (v := ?_) rfl (Or.inl ⟨by rfl, ?_⟩) ?_; rotate_left; (focus (intro w hSw; (try dsimp only at hSw); go_simp; (try (with_reducible rfl)); done)); try simp only [Act.put, List.setIfInBounds_toArray, List.set_cons_zero, List.set_cons_succ])
              (refine wpL_calm (o := { dst := some 99, op := Go.Op.load 3 (Go.Operand.tmp 98), type := 3, pos := "ref.go:39", after := #[{ on := 8, ground := Go.Ground.data }], guard := none }) (v := ?_) rfl (Or.inl ⟨by rfl, ?_⟩) ?_; rotate_left; (focus (intro w hSw; (try dsimp only at hSw); go_simp; (try (with_reducible rfl)); done)); try simp only [Act.put, List.setIfInBounds_toArray, List.set_cons_zero, List.set_cons_succ])
              (refine wpL_calm (o := { dst := some 100, op := Go.Op.indexAddr 35 (Go.Operand.tmp 96) (Go.Operand.tmp 99), type := 0, pos := "ref.go:39", after := #[{ on := 6, ground := Go.Ground.data }, { on := 9, ground := Go.Ground.data }], guard := none }) (v := ?_) rfl (Or.inl ⟨by rfl, ?_⟩) ?_; rotate_left; (focus (intro w hSw; (try dsimp only at hSw); go_simp; (try (with_reducible rfl)); done)); try simp only [Act.put, List.setIfInBounds_toArray, List.set_cons_zero, List.set_cons_succ])
              (refine wpL_calm (o := { dst := some 101, op := Go.Op.load 3 (Go.Operand.tmp 100), type := 3, pos := "ref.go:39", after := #[{ on := 10, ground := Go.Ground.data }], guard := none }) (v := ?_) rfl (Or.inl ⟨by rfl, ?_⟩) ?_; rotate_left; (focus (intro w hSw; (try dsimp only at hSw); go_simp; (try (with_reducible rfl)); done)); try simp only [Act.put, List.setIfInBounds_toArray, List.set_cons_zero, List.set_cons_succ])
              (refine wpL_calm (o := { dst := some 102, op := Go.Op.move (Go.Operand.tmp 1), type := 35, pos := "ref.go:39", after := #[], guard := none }) (v := ?_) rfl (Or.inl ⟨by rfl, ?_⟩) ?_; rotate_left; (focus (intro w hSw; (try dsimp only at hSw); go_simp; (try (with_reducible rfl)); done)); try simp only [Act.put, List.setIfInBounds_toArray, List.set_cons_zero, List.set_cons_succ])
              (refine wpL_calm (o := { dst := some 103, op := Go.Op.move (Go.Operand.tmp 7), type := 35, pos := "ref.go:39", after := #[], guard := none }) (v := ?_) rfl (Or.inl ⟨by rfl, ?_⟩) ?_; rotate_left; (focus (intro w hSw; (try dsimp only at hSw); go_simp; (try (with_reducible rfl)); done)); try simp only [Act.put, List.setIfInBounds_toArray, List.set_cons_zero, List.set_cons_succ])
              (refine wpL_calm (o := { dst := some 104, op := Go.Op.indexAddr 35 (Go.Operand.tmp 103) (Go.Operand.const (Go.Value.int Go.IntKind.i64 2)), type := 0, pos := "ref.go:39", after := #[{ on := 13, ground := Go.Ground.data }], guard := none }) (v := ?_) rfl (Or.inl ⟨by rfl, ?_⟩) ?_; rotate_left; (focus (intro w hSw; (try dsimp only at hSw); go_simp; (try (with_reducible rfl)); done)); try simp only [Act.put, List.setIfInBounds_toArray, List.set_cons_zero, List.set_cons_succ])
              (refine wpL_calm (o := { dst := some 105, op := Go.Op.load 3 (Go.Operand.tmp 104), type := 3, pos := "ref.go:39", after := #[{ on := 14, ground := Go.Ground.data }], guard := none }) (v := ?_) rfl (Or.inl ⟨by rfl, ?_⟩) ?_; rotate_left; (focus (intro w hSw; (try dsimp only at hSw); go_simp; (try (with_reducible rfl)); done)); try simp only [Act.put, List.setIfInBounds_toArray, List.set_cons_zero, List.set_cons_succ])
              (refine wpL_calm (o := { dst := some 106, op := Go.Op.indexAddr 35 (Go.Operand.tmp 102) (Go.Operand.tmp 105), type := 0, pos := "ref.go:39", after := #[{ on := 12, ground := Go.Ground.data }, { on := 15, ground := Go.Ground.data }], guard := none }) (v := ?_) rfl (Or.inl ⟨by rfl, ?_⟩) ?_; rotate_left; (focus (intro w hSw; (try dsimp only at hSw); go_simp; (try (with_reducible rfl)); done)); try simp only [Act.put, List.setIfInBounds_toArray, List.set_cons_zero, List.set_cons_succ])
              (refine wpL_calm (o := { dst := some 107, op := Go.Op.load 3 (Go.Operand.tmp 106), type := 3, pos := "ref.go:39", after := #[{ on := 16, ground := Go.Ground.data }], guard := none }) (v := ?_) rfl (Or.inl ⟨by rfl, ?_⟩) ?_; rotate_left; (focus (intro w hSw; (try dsimp only at hSw); go_simp; (try (with_reducible rfl)); done)); try simp only [Act.put, List.setIfInBounds_toArray, List.set_cons_zero, List.set_cons_succ])
              (refine wpL_calm (o := { dst := some 108, op := Go.Op.move (Go.Operand.tmp 1), type := 35, pos := "ref.go:39", after := #[], guard := none }) (v := ?_) rfl (Or.inl ⟨by rfl, ?_⟩) ?_; rotate_left; (focus (intro w hSw; (try dsimp only at hSw); go_simp; (try (with_reducible rfl)); done)); try simp only [Act.put, List.setIfInBounds_toArray, List.set_cons_zero, List.set_cons_succ])
              (refine wpL_calm (o := { dst := some 109, op := Go.Op.move (Go.Operand.tmp 7), type := 35, pos := "ref.go:39", after := #[], guard := none }) (v := ?_) rfl (Or.inl ⟨by rfl, ?_⟩) ?_; rotate_left; (focus (intro w hSw; (try dsimp only at hSw); go_simp; (try (with_reducible rfl)); done)); try simp only [Act.put, List.setIfInBounds_toArray, List.set_cons_zero, List.set_cons_succ])
              (refine wpL_calm (o := { dst := some 110, op := Go.Op.indexAddr 35 (Go.Operand.tmp 109) (Go.Operand.const (Go.Value.int Go.IntKind.i64 3)), type := 0, pos := "ref.go:39", after := #[{ on := 19, ground := Go.Ground.data }], guard := none }) (v := ?_) rfl (Or.inl ⟨by rfl, ?_⟩) ?_; rotate_left; (focus (intro w hSw; (try dsimp only at hSw); go_simp; (try (with_reducible rfl)); done)); try simp only [Act.put, List.setIfInBounds_toArray, List.set_cons_zero, List.set_cons_succ])
              (refine wpL_calm (o := { dst := some 111, op := Go.Op.load 3 (Go.Operand.tmp 110), type := 3, pos := "ref.go:39", after := #[{ on := 20, ground := Go.Ground.data }], guard := none }) (v := ?_) rfl (Or.inl ⟨by rfl, ?_⟩) ?_; rotate_left; (focus (intro w hSw; (try dsimp only at hSw); go_simp; (try (with_reducible rfl)); done)); try simp only [Act.put, List.setIfInBounds_toArray, List.set_cons_zero, List.set_cons_succ])
              (refine wpL_calm (o := { dst := some 112, op := Go.Op.indexAddr 35 (Go.Operand.tmp 108) (Go.Operand.tmp 111), type := 0, pos := "ref.go:39", after := #[{ on := 18, ground := Go.Ground.data }, { on := 21, ground := Go.Ground.data }], guard := none }) (v := ?_) rfl (Or.inl ⟨by rfl, ?_⟩) ?_; rotate_left; (focus (intro w hSw; (try dsimp only at hSw); go_simp; (try (with_reducible rfl)); done)); try simp only [Act.put, List.setIfInBounds_toArray, List.set_cons_zero, List.set_cons_succ])
              (refine wpL_calm (o := { dst := some 113, op := Go.Op.load 3 (Go.Operand.tmp 112), type := 3, pos := "ref.go:39", after := #[{ on := 22, ground := Go.Ground.data }], guard := none }) (v := ?_) rfl (Or.inl ⟨by rfl, ?_⟩) ?_; rotate_left; (focus (intro w hSw; (try dsimp only at hSw); go_simp; (try (with_reducible rfl)); done)); try simp only [Act.put, List.setIfInBounds_toArray, List.set_cons_zero, List.set_cons_succ])
              refine wpL_loud1 (o := { dst := some 114, op := Go.Op.buildSlice 35 4 #[(0, Go.Operand.tmp 95), (1, Go.Operand.tmp 101), (2, Go.Operand.tmp 107), (3, Go.Operand.tmp 113)], type := 35, pos := "ref.go:39", after := #[{ on := 5, ground := Go.Ground.data }, { on := 11, ground := Go.Ground.data }, { on := 17, ground := Go.Ground.data }, { on := 23, ground := Go.Ground.data }], guard := none }) rfl (fun K hK => ?_)
              (rw [if_pos (by rfl)]; refine wp_build4 35 3 _ _ _ _ rfl i0 Try.underlying35 hi0 hz0 hz1 (z0 : Int) (z1 : Int) (z2 : Int) (z3 : Int) rfl rfl rfl rfl ?_)
              refine hK.out _ _ ?_ (fun hHeld => ?_)
              · (try dsimp only); exact ⟨⟨cell_allocG hHeld.1.1, cell_allocG hHeld.1.2.1, cell_allocG hHeld.1.2.2.1, cell_allocG hHeld.1.2.2.2⟩, cell_allocG hHeld.2.1, cell_allocG hHeld.2.2.1, cell_allocG hHeld.2.2.2.1, cell_allocG hHeld.2.2.2.2⟩
              clear hK K
              try simp only [Act.put, List.setIfInBounds_toArray, List.set_cons_zero, List.set_cons_succ]
              (refine wpL_calm (o := { dst := some 7, op := Go.Op.assign (Go.Operand.tmp 114), type := 35, pos := "ref.go:39", after := #[{ on := 24, ground := Go.Ground.data }, { on := 0, ground := Go.Ground.phase }, { on := 1, ground := Go.Ground.phase }, { on := 2, ground := Go.Ground.phase }, { on := 3, ground := Go.Ground.phase }, { on := 4, ground := Go.Ground.phase }, { on := 5, ground := Go.Ground.phase }, { on := 6, ground := Go.Ground.phase }, { on := 7, ground := Go.Ground.phase }, { on := 8, ground := Go.Ground.phase }, { on := 9, ground := Go.Ground.phase }, { on := 10, ground := Go.Ground.phase }, { on := 11, ground := Go.Ground.phase }, { on := 12, ground := Go.Ground.phase }, { on := 13, ground := Go.Ground.phase }, { on := 14, ground := Go.Ground.phase }, { on := 15, ground := Go.Ground.phase }, { on := 16, ground := Go.Ground.phase }, { on := 17, ground := Go.Ground.phase }, { on := 18, ground := Go.Ground.phase }, { on := 19, ground := Go.Ground.phase }, { on := 20, ground := Go.Ground.phase }, { on := 21, ground := Go.Ground.phase }, { on := 22, ground := Go.Ground.phase }, { on := 23, ground := Go.Ground.phase }, { on := 24, ground := Go.Ground.phase }], guard := none }) (v := ?_) rfl (Or.inl ⟨by rfl, ?_⟩) ?_; rotate_left; (focus (intro w hSw; (try dsimp only at hSw); go_simp; (try (with_reducible rfl)); done)); try simp only [Act.put, List.setIfInBounds_toArray, List.set_cons_zero, List.set_cons_succ])
              refine wpL_nil ?_
              refine NoPanic.normal ?_
              clear hHeld v0 v1 v2 v3 u0 u1 u2 u3
              obtain ⟨w5, HW5, HX5, B5⟩ : ∃ w5, Hid (wc.drew.alloc (.cells #[.int .i64 (z0 : Int), .int .i64 (z1 : Int), .int .i64 (z2 : Int), .int .i64 (z3 : Int)] 3) = w5) ∧ Hid (XRow w5 wc.heap.size (fun r => if r = 0 then z0 else if r = 1 then z1 else if r = 2 then z2 else z3)) ∧ Hid (Below wr.heap.size wr w5) := ⟨_, Lib.hid rfl, Lib.hid (XRow.of_lit (heap_alloc_new wc.drew _) rfl rfl rfl rfl), Lib.hid (B2.out.drew.alloc B2.out.size _)⟩
              have HQ5 : Hid (wr.heap.size ≤ wc.heap.size) := Lib.hid B2.out.size
              go_wp2_with fail
              rw [HW5.out]
              go_meet
              exact ⟨_, 4, rfl, HQ5, Lib.hid (HX5.out.congr HF.out), B5⟩
          case rest =>
            as_aux_lemma =>
            clear HX8 B2 HBB
            obtain ⟨b, c, rfl, HBB, HX8, B2⟩ := hcut
            have c8 := HAA.out.cell (n - 8) (by omega)
            have HV8 := Lib.hid (HAA.out.word (n - 8) (by omega))
            have ltv := HAA.out.wlt (n - 8) (by omega)
            have ltg := HAA.out.lt
            clear HT4
            generalize bs (n - 8) = b8 at *
            generalize cs (n - 8) = k8 at *
            obtain ⟨V, hV⟩ : ∃ V, Hid (W (n - 8) = V) := ⟨_, Lib.hid rfl⟩
            rw [hV.out] at HV8 HNX
            clear hV
            generalize n - 8 = e8 at *
            go_wp2_with fail
            go_loopw [8] (fun x wi => ∃ k : Nat, x = .int .i64 (k : Int) ∧ k ≤ 4 ∧ Hid (XRow wi b (fun r => if r < k then (byW (W n) r).toNat else f2N y n r)) ∧ Hid (Below wr.heap.size wr wi)) (fun x _ => 4 - (intOf x).toNat)
            case atStart => exact ⟨0, rfl, by omega, Lib.hid (HX8.out.congr fun r hr => by rw [if_neg (Nat.not_lt_zero r)]), B2⟩
            clear HX8 B2
            case round =>
              obtain ⟨k, rfl, hk, HX, B3⟩ := hrel
              by_cases hlk : k < 4
              · as_aux_lemma =>
                have hki : (k : Int) < 4 := by omega
                have p0 := HX.out.cell k hlk
                rw [if_neg (Nat.lt_irrefl k)] at p0
                have p1 := (B3.out.cell (p := ⟨g, e8, none⟩) ltg).trans c8
                have p2 := (B3.out.cell (p := ⟨b8, k, none⟩) ltv).trans (HV8.out k hlk)
                have f0 := HX.out.free k
                have hxr := HNX.out k hlk
                have hb2 := (byW V k).toNat_lt
                have hb3 : f2N y n k < 256 := by
                  have a1 := (byW y k).toNat_lt
                  have a2 := (byW y ((k + 1) % 4)).toNat_lt
                  have hp := pwI_lt n
                  unfold f2N f1N
                  split
                  · exact boxN_lt _ a1
                  · split
                    · exact xor_lt _ _ (boxN_lt _ a2) (by split; exact hp; omega)
                    · exact a1
                obtain ⟨fv, hfv⟩ : ∃ z, Hid (f2N y n k = z) := ⟨_, Lib.hid rfl⟩
                rw [hfv.out] at p0 hxr hb3
                generalize (byW V k).toNat = vv at *
                have CA := Lib.hid (fun w => r02add_any fv vv w (by omega) (by omega))
                rw [hxr] at CA
                obtain ⟨z, hz⟩ : ∃ z, Hid ((byW (W n) k).toNat = z) := ⟨_, Lib.hid rfl⟩
                rw [hz.out] at CA
                clear hxr hfv
                go_upto_region 16 with fail
                refine wp_region_lin (S := (fun w' => w'.cell? ⟨b, k, none⟩ = some (.int .i64 (fv : Int)) ∧ w'.cell? ⟨g, e8, none⟩ = some (.slice (some ⟨b8, 0, none⟩) 4 k8) ∧ w'.cell? ⟨b8, k, none⟩ = some (.int .i64 (vv : Int)))) [(0, true), (1, true), (2, true), (3, true), (4, true), (5, true), (6, true), (7, true), (8, true), (9, true), (10, true), (11, true), (12, true), (13, true), (14, false), (15, true), (16, false)] (by kernel_rfl) (by kernel_rfl) rfl (by kernel_rfl) ?_ (fun hHeld => ?_)
                · (try dsimp only); exact ⟨p0, p1, p2⟩
                refine wpL_calm (o := { dst := some 119, op := Go.Op.move (Go.Operand.tmp 7), type := 35, pos := "ref.go:42", after := #[], guard := none }) (v := ?_) rfl (Or.inl ⟨by rfl, ?_⟩) ?_; rotate_left; (focus (intro w hSw; (try dsimp only at hSw); go_simp; (try (with_reducible rfl)); done)); try simp only [Act.put, List.setIfInBounds_toArray, List.set_cons_zero, List.set_cons_succ]
                refine wpL_calm (o := { dst := some 120, op := Go.Op.move (Go.Operand.tmp 8), type := 3, pos := "ref.go:42", after := #[], guard := none }) (v := ?_) rfl (Or.inl ⟨by rfl, ?_⟩) ?_; rotate_left; (focus (intro w hSw; (try dsimp only at hSw); go_simp; (try (with_reducible rfl)); done)); try simp only [Act.put, List.setIfInBounds_toArray, List.set_cons_zero, List.set_cons_succ]
                refine wpL_calm (o := { dst := some 121, op := Go.Op.move (Go.Operand.tmp 7), type := 35, pos := "ref.go:42", after := #[], guard := none }) (v := ?_) rfl (Or.inl ⟨by rfl, ?_⟩) ?_; rotate_left; (focus (intro w hSw; (try dsimp only at hSw); go_simp; (try (with_reducible rfl)); done)); try simp only [Act.put, List.setIfInBounds_toArray, List.set_cons_zero, List.set_cons_succ]
                refine wpL_calm (o := { dst := some 122, op := Go.Op.move (Go.Operand.tmp 8), type := 3, pos := "ref.go:42", after := #[], guard := none }) (v := ?_) rfl (Or.inl ⟨by rfl, ?_⟩) ?_; rotate_left; (focus (intro w hSw; (try dsimp only at hSw); go_simp; (try (with_reducible rfl)); done)); try simp only [Act.put, List.setIfInBounds_toArray, List.set_cons_zero, List.set_cons_succ]
                refine wpL_calm (o := { dst := some 123, op := Go.Op.indexAddr 35 (Go.Operand.tmp 121) (Go.Operand.tmp 122), type := 0, pos := "ref.go:42", after := #[{ on := 2, ground := Go.Ground.data }, { on := 3, ground := Go.Ground.data }], guard := none }) (v := ?_) rfl (Or.inl ⟨by rfl, ?_⟩) ?_; rotate_left; (focus (intro w hSw; (try dsimp only at hSw); go_simp; (try (with_reducible rfl)); done)); try simp only [Act.put, List.setIfInBounds_toArray, List.set_cons_zero, List.set_cons_succ]
                refine wpL_calm (o := { dst := some 124, op := Go.Op.load 3 (Go.Operand.tmp 123), type := 3, pos := "ref.go:42", after := #[{ on := 4, ground := Go.Ground.data }], guard := none }) (v := ?_) rfl (Or.inl ⟨by rfl, ?_⟩) ?_; rotate_left; (focus (intro w hSw; (try dsimp only at hSw); go_simp; (try (with_reducible rfl)); done)); try simp only [Act.put, List.setIfInBounds_toArray, List.set_cons_zero, List.set_cons_succ]
                refine wpL_calm (o := { dst := some 125, op := Go.Op.move (Go.Operand.tmp 5), type := 33, pos := "ref.go:42", after := #[], guard := none }) (v := ?_) rfl (Or.inl ⟨by rfl, ?_⟩) ?_; rotate_left; (focus (intro w hSw; (try dsimp only at hSw); go_simp; (try (with_reducible rfl)); done)); try simp only [Act.put, List.setIfInBounds_toArray, List.set_cons_zero, List.set_cons_succ]
                refine wpL_calm (o := { dst := some 126, op := Go.Op.move (Go.Operand.tmp 6), type := 3, pos := "ref.go:42", after := #[], guard := none }) (v := ?_) rfl (Or.inl ⟨by rfl, ?_⟩) ?_; rotate_left; (focus (intro w hSw; (try dsimp only at hSw); go_simp; (try (with_reducible rfl)); done)); try simp only [Act.put, List.setIfInBounds_toArray, List.set_cons_zero, List.set_cons_succ]
                refine wpL_calm (o := { dst := some 127, op := Go.Op.binOp Go.BinOp.sub 3 (Go.Operand.tmp 126) (Go.Operand.const (Go.Value.int Go.IntKind.i64 8)) 3, type := 3, pos := "ref.go:42", after := #[{ on := 7, ground := Go.Ground.data }], guard := none }) (v := ?_) rfl (Or.inl ⟨by rfl, ?_⟩) ?_; rotate_left; (focus (intro w hSw; (try dsimp only at hSw); go_simp; (try (with_reducible rfl)); done)); try simp only [Act.put, List.setIfInBounds_toArray, List.set_cons_zero, List.set_cons_succ]
                refine wpL_calm (o := { dst := some 128, op := Go.Op.indexAddr 33 (Go.Operand.tmp 125) (Go.Operand.tmp 127), type := 0, pos := "ref.go:42", after := #[{ on := 6, ground := Go.Ground.data }, { on := 8, ground := Go.Ground.data }], guard := none }) (v := ?_) rfl (Or.inl ⟨by rfl, ?_⟩) ?_; rotate_left; (focus (intro w hSw; (try dsimp only at hSw); go_simp; (try (with_reducible rfl)); done)); try simp only [Act.put, List.setIfInBounds_toArray, List.set_cons_zero, List.set_cons_succ]
                refine wpL_calm (o := { dst := some 129, op := Go.Op.load 35 (Go.Operand.tmp 128), type := 35, pos := "ref.go:42", after := #[{ on := 9, ground := Go.Ground.data }], guard := none }) (v := ?_) rfl (Or.inl ⟨by rfl, ?_⟩) ?_; rotate_left; (focus (intro w hSw; (try dsimp only at hSw); go_simp; (try (with_reducible rfl)); done)); try simp only [Act.put, List.setIfInBounds_toArray, List.set_cons_zero, List.set_cons_succ]
                refine wpL_calm (o := { dst := some 130, op := Go.Op.move (Go.Operand.tmp 8), type := 3, pos := "ref.go:42", after := #[], guard := none }) (v := ?_) rfl (Or.inl ⟨by rfl, ?_⟩) ?_; rotate_left; (focus (intro w hSw; (try dsimp only at hSw); go_simp; (try (with_reducible rfl)); done)); try simp only [Act.put, List.setIfInBounds_toArray, List.set_cons_zero, List.set_cons_succ]
                refine wpL_calm (o := { dst := some 131, op := Go.Op.indexAddr 35 (Go.Operand.tmp 129) (Go.Operand.tmp 130), type := 0, pos := "ref.go:42", after := #[{ on := 10, ground := Go.Ground.data }, { on := 11, ground := Go.Ground.data }], guard := none }) (v := ?_) rfl (Or.inl ⟨by rfl, ?_⟩) ?_; rotate_left; (focus (intro w hSw; (try dsimp only at hSw); go_simp; (try (with_reducible rfl)); done)); try simp only [Act.put, List.setIfInBounds_toArray, List.set_cons_zero, List.set_cons_succ]
                refine wpL_calm (o := { dst := some 132, op := Go.Op.load 3 (Go.Operand.tmp 131), type := 3, pos := "ref.go:42", after := #[{ on := 12, ground := Go.Ground.data }], guard := none }) (v := ?_) rfl (Or.inl ⟨by rfl, ?_⟩) ?_; rotate_left; (focus (intro w hSw; (try dsimp only at hSw); go_simp; (try (with_reducible rfl)); done)); try simp only [Act.put, List.setIfInBounds_toArray, List.set_cons_zero, List.set_cons_succ]
                refine wpL_loud1 (o := { dst := some 133, op := Go.Op.call { callee := Go.Callee.value (Go.Operand.func 47), args := #[Go.Operand.tmp 124, Go.Operand.tmp 132], argTypes := #[3, 3] }, type := 3, pos := "ref.go:42", after := #[{ on := 5, ground := Go.Ground.data }, { on := 13, ground := Go.Ground.data }], guard := none }) rfl (fun K hK => ?_)
                (go_simp; go_at_call 47; refine (CA.out _).mono ?_; rintro e w' ⟨rfl, rfl⟩)
                try go_wp2_with fail
                refine hK.out _ _ ?_ (fun hHeld => ?_)
                · (try dsimp only); exact hHeld
                clear hK K
                try simp only [Act.put, List.setIfInBounds_toArray, List.set_cons_zero, List.set_cons_succ]
                refine wpL_calm (o := { dst := some 134, op := Go.Op.indexAddr 35 (Go.Operand.tmp 119) (Go.Operand.tmp 120), type := 0, pos := "ref.go:42", after := #[{ on := 0, ground := Go.Ground.data }, { on := 1, ground := Go.Ground.data }, { on := 0, ground := Go.Ground.phase }, { on := 1, ground := Go.Ground.phase }, { on := 2, ground := Go.Ground.phase }, { on := 3, ground := Go.Ground.phase }, { on := 4, ground := Go.Ground.phase }, { on := 5, ground := Go.Ground.phase }, { on := 6, ground := Go.Ground.phase }, { on := 7, ground := Go.Ground.phase }, { on := 8, ground := Go.Ground.phase }, { on := 9, ground := Go.Ground.phase }, { on := 10, ground := Go.Ground.phase }, { on := 11, ground := Go.Ground.phase }, { on := 12, ground := Go.Ground.phase }, { on := 13, ground := Go.Ground.phase }, { on := 14, ground := Go.Ground.phase }], guard := none }) (v := ?_) rfl (Or.inl ⟨by rfl, ?_⟩) ?_; rotate_left; (focus (intro w hSw; (try dsimp only at hSw); go_simp; (try (with_reducible rfl)); done)); try simp only [Act.put, List.setIfInBounds_toArray, List.set_cons_zero, List.set_cons_succ]
                refine wpL_loud0 (o := { dst := none, op := Go.Op.store 3 (Go.Operand.tmp 134) (Go.Operand.tmp 133), type := 0, pos := "ref.go:42", after := #[{ on := 15, ground := Go.Ground.data }, { on := 14, ground := Go.Ground.data }, { on := 14, ground := Go.Ground.chain }, { on := 0, ground := Go.Ground.phase }, { on := 1, ground := Go.Ground.phase }, { on := 2, ground := Go.Ground.phase }, { on := 3, ground := Go.Ground.phase }, { on := 4, ground := Go.Ground.phase }, { on := 5, ground := Go.Ground.phase }, { on := 6, ground := Go.Ground.phase }, { on := 7, ground := Go.Ground.phase }, { on := 8, ground := Go.Ground.phase }, { on := 9, ground := Go.Ground.phase }, { on := 10, ground := Go.Ground.phase }, { on := 11, ground := Go.Ground.phase }, { on := 12, ground := Go.Ground.phase }, { on := 13, ground := Go.Ground.phase }, { on := 14, ground := Go.Ground.phase }], guard := none }) rfl (by kernel_rfl) (fun K hK => ?_)
                go_simp
                refine hK.out _ _ ?_
                clear hK K
                try simp only [Act.put, List.setIfInBounds_toArray, List.set_cons_zero, List.set_cons_succ]
                refine wpL_nil ?_
                refine NoPanic.normal ?_
                go_wp2_with fail
                go_roundw
                case rel => exact ⟨k + 1, by go_num, by omega, Lib.hid ((XRow.drew (HX.out.set k hlk z)).congr fun r hr => by
                  by_cases e : r = k
                  · subst e
                    rw [if_pos rfl, if_pos (show r < r + 1 by omega), hz.out]
                  · rw [if_neg e]
                    by_cases h : r < k
                    · rw [if_pos h, if_pos (show r < k + 1 by omega)]
                    · rw [if_neg h, if_neg (show ¬ r < k + 1 by omega)]), Lib.hid (by first | exact B3.out.setCell (p := ⟨b, k, none⟩) HBB.out _ | exact (B3.out.setCell (p := ⟨b, k, none⟩) HBB.out _).drew | exact (B3.out.setCell (p := ⟨b, k, none⟩) HBB.out _).drew.drew)⟩
                case measure => simp [intOf]; omega
              · as_aux_lemma =>
                obtain rfl : k = 4 := by omega
                rw [show ((4 : Nat) : Int) = 4 from rfl]
                have HXF : Hid (XRow (wr.alloc (.cells #[.slice (some ⟨b, 0, none⟩) 4 c] 35)) b (fun r => (byW (W n) r).toNat)) := Lib.hid ((HX.out.congr fun r hr => by rw [if_pos hr]).below ((Below.refl _ _).alloc (Nat.le_refl _) _))
                have HBF := Lib.hid (B3.out.alloc (B3.out.size) (.cells #[.slice (some ⟨b, 0, none⟩) 4 c] 35))
                have hcF := cell_of_row _ _ 0 _ _ _ (heap_alloc_new wr (.cells #[.slice (some ⟨b, 0, none⟩) 4 c] 35))
                have HZB := Lib.hid HB.out.size
                go_wp2_with (at_builtin; refine wpList_push rfl (.tmp 135) (.tmp 137) rfl w.heap.size n W bs cs _ _ _ rfl HW HBF b c HBB.out HXF _ rfl hcF hl HZB.out ?_)
                intro v' w9 bs' cs' HW9 HB9
                have HBE := Lib.hid (HB.out.trans ((HBF.out.mono HZB.out).trans HB9.out))
                clear HW HBF HXF hcF HB9 HB
                go_wp2_with fail
                go_roundw
                case rel => exact ⟨n + 1, by go_num, by omega, ⟨bs', cs', HW9⟩, HBE⟩
                case measure => simp [intOf]; omega
    · as_aux_lemma =>
      obtain rfl : n = 60 := by omega
      rw [show ((60 : Nat) : Int) = 60 from rfl]
      obtain ⟨rb, rc, rfl, hc, hg1, HA⟩ := HW.out.done (by omega)
      have HA := Lib.hid HA
      go_wp2_with fail
      go_ret
      exact ⟨rb, rc, bs, cs, rfl, HA.out, HB.out⟩
end Go.Proofs.Ytbbanhjcchnhpaa

/- The reference of package aes (cellaret): Encrypt. -/
namespace Go.Proofs.Ytbbanhjcchnhpaa
open Go.RowKit Go.Deep
set_option linter.unusedVariables false
set_option linter.unusedSimpArgs false
/-- A state as numbers. -/
def nS (g : Nat → UInt8) (j : Nat) : Nat := (g j).toNat
theorem nS_lt (g : Nat → UInt8) (j : Nat) : nS g j < 256 := (g j).toNat_lt
theorem shiftedS (g : Nat → UInt8) (sb sc xb xc : Nat) (w : World) (hS : Hid (IAt w sb 16 (nS g))) (hX : Hid (IAt w xb 256 boxN)) :
    Calls Try.prog 63 #[.slice (some ⟨sb, 0, none⟩) 16 sc, .slice (some ⟨xb, 0, none⟩) 256 xc] w fun e w' => ∃ q, e = .returned (.slice (some ⟨q, 0, none⟩) 16 16) ∧ IAt w' q 16 (nS (fun j => bx (g (srcS 1 j)))) ∧ Below w.heap.size w w' :=
  (shifted_any (nS g) sb sc xb xc w (fun j _ => nS_lt g j) hS hX).mono fun e w' h => ⟨_, h.1, h.2.1.congr fun j _ => (bx_nat _).symm, h.2.2⟩
theorem mixedS (g : Nat → UInt8) (sb sc : Nat) (w : World) (hS : Hid (IAt w sb 16 (nS g))) :
    Calls Try.prog 62 #[.slice (some ⟨sb, 0, none⟩) 16 sc] w fun e w' => ∃ q, e = .returned (.slice (some ⟨q, 0, none⟩) 16 16) ∧ IAt w' q 16 (nS (mxB aE g)) ∧ Below w.heap.size w w' :=
  (mixed_any (nS g) sb sc w (fun j _ => nS_lt g j) hS).mono fun e w' h => ⟨_, h.1, h.2.1.congr fun j _ => (mxB_nat aE g j aE_lt).symm, h.2.2⟩
theorem addedS (g : Nat → UInt8) (W : Nat → UInt32) (bs cs : Nat → Nat) (n sb sc rb rc : Nat) (w : World) (hn : n ≤ 14) (hS : Hid (IAt w sb 16 (nS g))) (hX : Hid (WAt w rb 60 W bs cs)) :
    Calls Try.prog 61 #[.slice (some ⟨sb, 0, none⟩) 16 sc, .slice (some ⟨rb, 0, none⟩) 60 rc, .int .i64 (n : Int)] w fun e w' => ∃ q, e = .returned (.slice (some ⟨q, 0, none⟩) 16 16) ∧ IAt w' q 16 (nS (fun j => g j ^^^ wB W n j)) ∧ Below w.heap.size w w' :=
  (added_any (nS g) W bs cs n sb sc rb rc w hn (fun j _ => nS_lt g j) hS hX).mono fun e w' h => ⟨_, h.1, h.2.1.congr fun j _ => (UInt8.toNat_xor _ _).symm, h.2.2⟩
def rdF (l : List UInt8) (k j : Nat) : Nat := if j < k then (bAt l j).toNat else 0
set_option maxRecDepth 100000 in
set_option maxHeartbeats 3000000 in
theorem renc_any (ks s : ByteArray) (w : World) (hk : ks.size = 32) (hs : s.size = 16) :
    Calls Try.prog 24 #[.string ks, .string s] w fun e w' => e = .returned (.string (txS (encR (wI ks.data.toList 60) (bAt s.data.toList) 14))) ∧ Below w.heap.size w w' := by
  have CW := Lib.hid (fun xb xc w hX => words_any ks xb xc w hk hX)
  have HIX := Lib.hid (fun (j : Nat) (hj : j < 16) w => index_str s (j : Int) j rfl (by omega) w)
  have hmk := makeI16
  have hmk2 := make16k
  generalize wI ks.data.toList 60 = W at *
  generalize s.data.toList = l at *
  clear hk hs
  go_enter Try.func24, Try.ntmps24
  go_wp2_with fail
  refine (boxes_any _).mono ?_
  rintro e w1 ⟨xb, xc, rfl, hI, b1⟩
  have B1 := Lib.hid b1
  have HI1 := Lib.hid hI
  clear hI b1
  go_wp2_with fail
  refine (CW.out xb xc _ HI1).mono ?_
  rintro e w2 ⟨rb, rc, bs, cs, rfl, hA, b2⟩
  have B2 := Lib.hid (below_trans B1.out b2)
  have HI2 := Lib.hid (HI1.out.below b2)
  have HA2 := Lib.hid hA
  clear hA b2 HI1 B1 CW
  go_wp2_with fail
  obtain ⟨w3, HW3, HR3, B3⟩ : ∃ w3, Hid (w2.alloc (.cells (madeCells #[.int .i64 0] 16) 3) = w3) ∧ Hid (w3.rowIs w2.heap.size 3 16 (fun j => .int .i64 (rdF l 0 j : Int))) ∧ Hid (Below w2.heap.size w2 w3) :=
    ⟨_, Lib.hid rfl, Lib.hid (World.rowIs_made w2 (.int .i64 0) 16 3), Lib.hid ((Below.refl _ _).alloc (Nat.le_refl _) _)⟩
  rw [HW3.out]
  clear HW3
  obtain ⟨q, hq⟩ : ∃ q, Hid (w2.heap.size = q) := ⟨_, Lib.hid rfl⟩
  rw [hq.out] at HR3 B3
  rw [show w2.heap.size = q from hq.out]
  go_loopw [8] (fun x wi => ∃ k : Nat, x = .int .i64 (k : Int) ∧ k ≤ 16 ∧ Hid (wi.rowIs q 3 16 (fun j => .int .i64 (rdF l k j : Int))) ∧ Hid (Below q w2 wi)) (fun x _ => 16 - (intOf x).toNat)
  case atStart => exact ⟨0, rfl, by omega, HR3, B3⟩
  clear HR3 B3
  case round =>
    obtain ⟨k, rfl, hk, HR, HB⟩ := hrel
    by_cases hlk : k < 16
    · as_aux_lemma =>
      have hki : (k : Int) < 16 := by omega
      have hix := HIX.out k hlk
      have hbb := (bAt l k).toNat_lt
      obtain ⟨b, hb⟩ : ∃ b, Hid ((bAt l k).toNat = b) := ⟨_, Lib.hid rfl⟩
      rw [hb.out] at hix hbb
      have y1 : IntKind.i64.wrap (b : Int) = b := IntWalk.i64_in _ (by omega)
      have c0 := World.rowIs.cell HR.out (i := k) hlk
      have f0 := World.rowIs.frozen HR.out k
      go_wp2_with fail
      go_roundw
      case rel => exact ⟨k + 1, by go_num, by omega, Lib.hid (by
        refine World.rowIs.congr (World.rowIs.set HR.out k (.int .i64 (b : Int))) fun j hj => ?_
        unfold rdF
        by_cases e : j = k
        · subst e
          rw [if_pos rfl, if_pos (show j < j + 1 by omega), hb.out]
        · rw [if_neg e]
          by_cases h : j < k
          · rw [if_pos h, if_pos (show j < k + 1 by omega)]
          · rw [if_neg h, if_neg (show ¬ j < k + 1 by omega)]), Lib.hid (HB.out.setCell (p := ⟨q, k, none⟩) (Nat.le_refl _) _)⟩
      case measure => simp [intOf]; omega
    · as_aux_lemma =>
      obtain rfl : k = 16 := by omega
      rw [show ((16 : Nat) : Int) = 16 from rfl]
      have BQ : Below w2.heap.size w2 wr := by rw [hq.out]; exact HB.out
      have HI3 := Lib.hid (HI2.out.below BQ)
      have HA3 := Lib.hid (HA2.out.below BQ)
      have B3 := Lib.hid (below_trans B2.out BQ)
      have HS3 : Hid (IAt wr q 16 (nS (bAt l))) := Lib.hid ((IAt.of_row HR.out).congr fun j hj => by unfold rdF; rw [if_pos hj]; rfl)
      clear HI2 HA2 B2 BQ HR HB HIX hq
      have CA0 := Lib.hid (fun w h1 h2 => addedS (bAt l) W bs cs 0 q 16 rb rc w (by omega) h1 h2)
      rw [show ((0 : Nat) : Int) = 0 from rfl] at CA0
      go_wp2_with fail
      refine (CA0.out _ HS3 HA3).mono ?_
      rintro e w4 ⟨q4, rfl, hS4, b4⟩
      have HI4 := Lib.hid (HI3.out.below b4)
      have HA4 := Lib.hid (HA3.out.below b4)
      have B4 := Lib.hid (below_trans B3.out b4)
      have HS4 : Hid (IAt w4 q4 16 (nS (encR W (bAt l) (1 - 1)))) := Lib.hid hS4
      clear HI3 HA3 B3 HS3 CA0 hS4 b4
      go_wp2_with fail
      go_loopw [7, 9] (fun v x wi => ∃ n q : Nat, x = .int .i64 (n : Int) ∧ v = .slice (some ⟨q, 0, none⟩) 16 16 ∧ 1 ≤ n ∧ n ≤ 14 ∧ Hid (IAt wi q 16 (nS (encR W (bAt l) (n - 1)))) ∧ Hid (IAt wi xb 256 boxN) ∧ Hid (WAt wi rb 60 W bs cs) ∧ Hid (Below w.heap.size w wi)) (fun _ x _ => 14 - (intOf x).toNat)
      case atStart => exact ⟨1, q4, rfl, rfl, by omega, by omega, HS4, HI4, HA4, B4⟩
      clear HI4 HA4 B4 HS4
      case round =>
        obtain ⟨n, q, rfl, rfl, hn1, hn2, HS, HI, HA, HB⟩ := hrel
        by_cases hln : n < 14
        · as_aux_lemma =>
          have hni : (n : Int) < 14 := by omega
          go_wp2_with fail
          refine (shiftedS _ q 16 xb xc _ HS HI).mono ?_
          rintro e w5 ⟨q5, rfl, hS5, b5⟩
          have HI5 := Lib.hid (HI.out.below b5)
          have HA5 := Lib.hid (HA.out.below b5)
          have B5 := Lib.hid (below_trans HB.out b5)
          have HS5 := Lib.hid hS5
          clear hS5 b5 HS HI HA HB
          go_wp2_with fail
          refine (mixedS _ q5 16 _ HS5).mono ?_
          rintro e w6 ⟨q6, rfl, hS6, b6⟩
          have HI6 := Lib.hid (HI5.out.below b6)
          have HA6 := Lib.hid (HA5.out.below b6)
          have B6 := Lib.hid (below_trans B5.out b6)
          have HS6 := Lib.hid hS6
          clear hS6 b6 HS5 HI5 HA5 B5
          go_wp2_with fail
          refine (addedS _ W bs cs n q6 16 rb rc _ (by omega) HS6 HA6).mono ?_
          rintro e w7 ⟨q7, rfl, hS7, b7⟩
          have HI7 := Lib.hid (HI6.out.below b7)
          have HA7 := Lib.hid (HA6.out.below b7)
          have B7 := Lib.hid (below_trans B6.out b7)
          have HS7 := Lib.hid hS7
          clear hS7 b7 HS6 HI6 HA6 B6
          go_wp2_with fail
          go_roundw
          case rel => exact ⟨n + 1, q7, by go_num, rfl, by omega, by omega, Lib.hid (by
            obtain ⟨k, rfl⟩ : ∃ k, n = k + 1 := ⟨n - 1, by omega⟩
            rw [show k + 1 + 1 - 1 = k + 1 from rfl, encR_mid W _ k (by omega)]
            exact HS7.out), HI7, HA7, B7⟩
          case measure => simp [intOf]; omega
        · as_aux_lemma =>
          obtain rfl : n = 14 := by omega
          rw [show ((14 : Nat) : Int) = 14 from rfl]
          rw [show 14 - 1 = 13 from rfl] at HS
          have HE := Lib.hid (encR_end W (bAt l) 13 (by omega))
          obtain ⟨F13, hF13⟩ : ∃ F, Hid (encR W (bAt l) 13 = F) := ⟨_, Lib.hid rfl⟩
          rw [hF13.out] at HS HE
          clear hF13
          have CA14 := Lib.hid (fun q w h1 h2 => addedS (fun j => bx (F13 (srcS 1 j))) W bs cs 14 q 16 rb rc w (by omega) h1 h2)
          rw [show ((14 : Nat) : Int) = 14 from rfl] at CA14
          go_wp2_with fail
          refine (shiftedS F13 q 16 xb xc _ HS HI).mono ?_
          rintro e w5 ⟨q5, rfl, hS5, b5⟩
          have HA5 := Lib.hid (HA.out.below b5)
          have B5 := Lib.hid (below_trans HB.out b5)
          have HS5 := Lib.hid hS5
          clear hS5 b5 HS HI HA HB
          go_wp2_with fail
          refine (CA14.out q5 _ HS5 HA5).mono ?_
          rintro e w6 ⟨q6, rfl, hS6, b6⟩
          have B6 := Lib.hid (below_trans B5.out b6)
          obtain ⟨F, hF⟩ : ∃ F, Hid (encR W (bAt l) 14 = F) := ⟨_, Lib.hid rfl⟩
          have HS6 : Hid (IAt w6 q6 16 (nS F)) := Lib.hid (by rw [← hF.out, show (14 : Nat) = 13 + 1 from rfl, HE.out]; exact hS6)
          clear hS6 b6 HS5 HA5 B5 CA14 HE
          go_wp2_with fail
          obtain ⟨w7, HW7, HR7, B7⟩ : ∃ w7, Hid (w6.alloc (.cells (madeCells #[.int .u8 0] 16) 5) = w7) ∧ Hid (w7.rowIs w6.heap.size 5 16 (fun j => .int .u8 ((tx F 0 j).toNat : Int))) ∧ Hid (Below w6.heap.size w6 w7) :=
            ⟨_, Lib.hid rfl, Lib.hid (World.rowIs_made w6 (.int .u8 0) 16 5), Lib.hid ((Below.refl _ _).alloc (Nat.le_refl _) _)⟩
          rw [HW7.out]
          clear HW7
          have hq6 := HS6.out.lt
          have HZ6 := Lib.hid B6.out.size
          obtain ⟨p, hp⟩ : ∃ p, Hid (w6.heap.size = p) := ⟨_, Lib.hid rfl⟩
          rw [hp.out] at HR7 B7 hq6 HZ6
          rw [show w6.heap.size = p from hp.out]
          go_loopw [11] (fun x wi => ∃ k : Nat, x = .int .i64 (k : Int) ∧ k ≤ 16 ∧ Hid (wi.rowIs p 5 16 (fun j => .int .u8 ((tx F k j).toNat : Int))) ∧ Hid (Below p w6 wi)) (fun x _ => 16 - (intOf x).toNat)
          case atStart => exact ⟨0, rfl, by omega, HR7, B7⟩
          clear HR7 B7
          case round =>
            obtain ⟨k, rfl, hk, HR, HB⟩ := hrel
            by_cases hlk : k < 16
            · as_aux_lemma =>
              have hki : (k : Int) < 16 := by omega
              have c1 := (HS6.out.under hq6 HB.out).cell k hlk
              have hbb := nS_lt F k
              obtain ⟨b, hb⟩ : ∃ b, Hid (nS F k = b) := ⟨_, Lib.hid rfl⟩
              rw [hb.out] at c1 hbb
              have y1 : (b : Int) % 256 = b := by omega
              have c0 := World.rowIs.cell HR.out (i := k) hlk
              have f0 := World.rowIs.frozen HR.out k
              go_wp2_with fail
              go_roundw
              case rel => exact ⟨k + 1, by go_num, by omega, Lib.hid (by
                refine World.rowIs.congr (World.rowIs.set HR.out k (.int .u8 (b : Int))) fun j hj => ?_
                unfold tx
                by_cases e : j = k
                · subst e
                  rw [if_pos rfl, if_pos (show j < j + 1 by omega), ← hb.out]
                  rfl
                · rw [if_neg e]
                  by_cases h : j < k
                  · rw [if_pos h, if_pos (show j < k + 1 by omega)]
                  · rw [if_neg h, if_neg (show ¬ j < k + 1 by omega)]), Lib.hid (HB.out.setCell (p := ⟨p, k, none⟩) (Nat.le_refl _) _)⟩
              case measure => simp [intOf]; omega
            · as_aux_lemma =>
              obtain rfl : k = 16 := by omega
              rw [show ((16 : Nat) : Int) = 16 from rfl]
              have hcv := conv_row (P := Try.prog) (cap := 16) (W := 16) (dst := 9) (f := F) Try.underlying77 Try.underlying5 Try.underlying9 (World.rowIs.congr HR.out fun j hj => by unfold tx; rw [if_pos hj]) (Nat.le_refl _)
              have BW := B6.out.trans (HB.out.mono HZ6.out)
              go_wp2_with fail
              go_ret
              exact ⟨by (rw [hF.out]; rfl), BW⟩
end Go.Proofs.Ytbbanhjcchnhpaa
