/- Contracts (cellaret): Hasher.Digest. Made by gensha.py. -/
import Derived.Test.YtndhegdhkoileaaDoorShM
namespace Go.Proofs.YtndhegdhkoileaaDoor
open Go.RowKit Go.Deep
set_option linter.unusedVariables false
set_option linter.unusedSimpArgs false
attribute [local irreducible] work blk klist kL layV padL wv0 rst tailL
theorem own_below {w w' : World} {base n : Nat} {v : Value} {xs : List Value} (h3 : w.ownsRow base 5 1 v n xs) (hb : Below w.heap.size w w') : w'.ownsRow base 5 1 v n xs := by
  refine ⟨h3.1, ?_⟩
  rcases h3.2 with h | ⟨g2, cap, cur, rfl, q1, q2, q3⟩
  · exact Or.inl h
  · exact Or.inr ⟨g2, cap, cur, rfl, q1, (hb.block g2 (Array.getElem?_eq_some_iff.1 q2).1).trans q2, q3⟩
set_option maxRecDepth 100000 in
set_option maxHeartbeats 4000000 in
theorem digest_any (base g : Nat) (t : List UInt8) (w : World) (hG : Gl w) (hH : HashAt base w g t) (hn : t.length ≤ 1125899906840000) :
    Calls Tryd.prog 18 #[.pointer (some ⟨g, 0, none⟩)] w fun e w' => e = .returned (.agg (digA (sumL t))) ∧ Below w.heap.size w w' := by
  have hz := zero_dig
  have hz8 := zero_w8
  obtain ⟨i0, hi, hz0, hz1, hz2⟩ := info_parts' info_u8'
  obtain ⟨hbg, r, hg, ho⟩ := hH
  obtain ⟨ra, rc, rfl, hrc1, hrc2, hrb, hrn, hrl⟩ := own_slice ho
  clear hrl hrn
  have hrl := rst_len t
  have HW := Lib.hid (wv0_pad t)
  have HSM := Lib.hid (rst_small t)
  have hr64 : (rst t).length ≤ 63 := by omega
  have HL := Lib.hid (fun v w => lay_any v w)
  have HSL := Lib.hid (show layV (sumV t) = sumL t from rfl)
  have HTL := Lib.hid (tail_any t.length · (by omega))
  have htl := tail_len t.length
  have htl2 : tlen t.length ≤ 72 := by unfold tlen nz; omega
  generalize hR : rst t = R at *
  generalize wv0 t = V at *
  generalize hN : t.length = n at *
  obtain ⟨b, hEQ⟩ := eql_w8 V v0
  generalize hQ : R.length = q at *
  have HR := Lib.hid hR
  have HQ := Lib.hid hQ
  have HRL := Lib.hid hrl
  have HN := Lib.hid hN
  clear hR hN hQ hrl
  obtain ⟨L6, hL6⟩ : ∃ L6, R ++ tailL n = L6 := ⟨_, rfl⟩
  rw [hL6] at HW
  have HL6 := Lib.hid hL6
  clear hL6
  go_enter Tryd.func18, Tryd.ntmps18
  go_upto_region 1 with fail
  obtain ⟨w1, HW1, hr1, B1⟩ : ∃ w1, Hid (w.alloc (.cells z32 24) = w1) ∧ w1.heap[w.heap.size]? = some (.cells z32 24 (0, 0)) ∧ Below w.heap.size w w1 := ⟨_, Lib.hid rfl, heap_alloc_new _ _, (Below.refl _ _).alloc (Nat.le_refl _) _⟩
  rw [HW1.out]
  clear HW1
  have G1 := hG.below B1
  have hgl : g < w.heap.size := (Array.getElem?_eq_some_iff.1 hg).1
  have hg1 := (B1.block g hgl).trans hg
  have RD : Rd g n V (.slice ra q rc) w1.drew := Rd.of hg1 G1.f
  have hr2 : w1.drew.heap[w.heap.size]? = some (.cells z32 24 (0, 0)) := hr1
  have B2 : Below w.heap.size w w1.drew := B1.drew
  have G2 : Gl w1.drew := hG.below B2
  have ho2 : w1.drew.ownsRow base 5 1 (.slice ra q rc) q (bv R) := own_drew (own_below ho B1)
  have hrb2 : BytesAt w1.drew ra R := fun h0 => by
    obtain ⟨g', o, h1, h2, h3⟩ := hrb h0
    exact ⟨g', o, h1, Nat.lt_of_lt_of_le h2 B2.size, range_below h3 B2 h2⟩
  have hGsz := hG.sk
  clear hg hg1 ho hrb hr1 B1 G1
  go_wp2_with fail
  cases b
  · have hDum : True := trivial
    refine wp_region_lin (S := (fun w' => Rd g n V (.slice ra q rc) w' ∧ w'.cell? ⟨g, 8, none⟩ = some (.slice ra q rc) ∧ w'.cell? ⟨g, 9, none⟩ = some (.int .i64 (n : Int)))) [(0, true), (1, true), (2, true), (3, true), (4, true), (5, true), (6, true), (7, true), (8, true), (9, true), (10, true), (11, true), (12, true), (13, true), (14, true), (15, true), (16, true), (17, true)] (by kernel_rfl) (by kernel_rfl) rfl (by kernel_rfl) ?_ (fun hHeld => ?_)
    · (try dsimp only); exact ⟨RD, RD.c8, RD.c9⟩
    refine wpL_calm (o := { dst := some 8, op := Go.Op.move (Go.Operand.tmp 0), type := 38, pos := "sha.go:124", after := #[], guard := none }) (v := ?_) rfl (Or.inl ⟨by rfl, ?_⟩) ?_; rotate_left; (focus (intro w hSw; (try dsimp only at hSw); go_simp; (try (with_reducible rfl)); done)); try simp only [Act.put, List.setIfInBounds_toArray, List.set_cons_zero, List.set_cons_succ]
    refine wpL_calm (o := { dst := some 9, op := Go.Op.nilCheck (Go.Operand.tmp 8), type := 0, pos := "sha.go:124", after := #[{ on := 0, ground := Go.Ground.data }], guard := none }) (v := ?_) rfl (Or.inl ⟨by rfl, ?_⟩) ?_; rotate_left; (focus (intro w hSw; (try dsimp only at hSw); go_simp; (try (with_reducible rfl)); done)); try simp only [Act.put, List.setIfInBounds_toArray, List.set_cons_zero, List.set_cons_succ]
    refine wpL_calm (o := { dst := some 10, op := Go.Op.fieldAddr 60 (Go.Operand.tmp 9) 0, type := 0, pos := "sha.go:124", after := #[{ on := 1, ground := Go.Ground.data }], guard := none }) (v := ?_) rfl (Or.inl ⟨by rfl, ?_⟩) ?_; rotate_left; (focus (intro w hSw; (try dsimp only at hSw); go_simp; (try (with_reducible rfl)); done)); try simp only [Act.put, List.setIfInBounds_toArray, List.set_cons_zero, List.set_cons_succ]
    refine wpL_calm (o := { dst := some 11, op := Go.Op.load 29 (Go.Operand.tmp 10), type := 29, pos := "sha.go:124", after := #[{ on := 2, ground := Go.Ground.data }], guard := none }) rfl (yieldsIf_load_mid (by rfl) _ _ rfl g 0 rfl (vL V) _ (fun _ h => (words_h h.1.hg).r) Tryd.underlying29 rfl (by kernel_rfl)) ?_
    try simp only [Act.put, List.setIfInBounds_toArray, List.set_cons_zero, List.set_cons_succ]
    refine wpL_calm (o := { dst := some 12, op := Go.Op.load 29 (Go.Operand.global 0), type := 29, pos := "sha.go:124", after := #[], guard := none }) rfl (yieldsIf_load_mid (by rfl) _ _ rfl 0 0 rfl (vL v0) _ (fun _ h => h.1.f) Tryd.underlying29 rfl (by kernel_rfl)) ?_
    try simp only [Act.put, List.setIfInBounds_toArray, List.set_cons_zero, List.set_cons_succ]
    refine wpL_calm (o := { dst := some 13, op := Go.Op.binOp Go.BinOp.eql 29 (Go.Operand.tmp 11) (Go.Operand.tmp 12) 29, type := 4, pos := "sha.go:124", after := #[{ on := 3, ground := Go.Ground.data }, { on := 4, ground := Go.Ground.data }], guard := none }) (v := ?_) rfl (Or.inl ⟨by rfl, ?_⟩) ?_; rotate_left; (focus (intro w hSw; (try dsimp only at hSw); go_simp; (try (with_reducible rfl)); done)); try simp only [Act.put, List.setIfInBounds_toArray, List.set_cons_zero, List.set_cons_succ]
    refine wpL_calm (o := { dst := some 14, op := Go.Op.move (Go.Operand.tmp 13), type := 4, pos := "sha.go:124", after := #[{ on := 5, ground := Go.Ground.data }], guard := none }) (v := ?_) rfl (Or.inl ⟨by rfl, ?_⟩) ?_; rotate_left; (focus (intro w hSw; (try dsimp only at hSw); go_simp; (try (with_reducible rfl)); done)); try simp only [Act.put, List.setIfInBounds_toArray, List.set_cons_zero, List.set_cons_succ]
    refine wpL_calm (o := { dst := some 15, op := Go.Op.move (Go.Operand.tmp 0), type := 38, pos := "sha.go:124", after := #[{ on := 6, ground := Go.Ground.guard }], guard := some (6, true) }) (v := undef) rfl (Or.inr ⟨by rfl, rfl⟩) ?_; try simp only [Act.put, List.setIfInBounds_toArray, List.set_cons_zero, List.set_cons_succ]
    refine wpL_calm (o := { dst := some 16, op := Go.Op.nilCheck (Go.Operand.tmp 15), type := 0, pos := "sha.go:124", after := #[{ on := 7, ground := Go.Ground.data }, { on := 6, ground := Go.Ground.guard }], guard := some (6, true) }) (v := undef) rfl (Or.inr ⟨by rfl, rfl⟩) ?_; try simp only [Act.put, List.setIfInBounds_toArray, List.set_cons_zero, List.set_cons_succ]
    refine wpL_calm (o := { dst := some 17, op := Go.Op.fieldAddr 60 (Go.Operand.tmp 16) 2, type := 0, pos := "sha.go:124", after := #[{ on := 8, ground := Go.Ground.data }, { on := 6, ground := Go.Ground.guard }], guard := some (6, true) }) (v := undef) rfl (Or.inr ⟨by rfl, rfl⟩) ?_; try simp only [Act.put, List.setIfInBounds_toArray, List.set_cons_zero, List.set_cons_succ]
    refine wpL_calm (o := { dst := some 18, op := Go.Op.load 3 (Go.Operand.tmp 17), type := 3, pos := "sha.go:124", after := #[{ on := 9, ground := Go.Ground.data }, { on := 6, ground := Go.Ground.guard }], guard := some (6, true) }) (v := undef) rfl (Or.inr ⟨by rfl, rfl⟩) ?_; try simp only [Act.put, List.setIfInBounds_toArray, List.set_cons_zero, List.set_cons_succ]
    refine wpL_calm (o := { dst := some 19, op := Go.Op.move (Go.Operand.tmp 0), type := 38, pos := "sha.go:124", after := #[{ on := 6, ground := Go.Ground.guard }], guard := some (6, true) }) (v := undef) rfl (Or.inr ⟨by rfl, rfl⟩) ?_; try simp only [Act.put, List.setIfInBounds_toArray, List.set_cons_zero, List.set_cons_succ]
    refine wpL_calm (o := { dst := some 20, op := Go.Op.nilCheck (Go.Operand.tmp 19), type := 0, pos := "sha.go:124", after := #[{ on := 11, ground := Go.Ground.data }, { on := 6, ground := Go.Ground.guard }], guard := some (6, true) }) (v := undef) rfl (Or.inr ⟨by rfl, rfl⟩) ?_; try simp only [Act.put, List.setIfInBounds_toArray, List.set_cons_zero, List.set_cons_succ]
    refine wpL_calm (o := { dst := some 21, op := Go.Op.fieldAddr 60 (Go.Operand.tmp 20) 1, type := 0, pos := "sha.go:124", after := #[{ on := 12, ground := Go.Ground.data }, { on := 6, ground := Go.Ground.guard }], guard := some (6, true) }) (v := undef) rfl (Or.inr ⟨by rfl, rfl⟩) ?_; try simp only [Act.put, List.setIfInBounds_toArray, List.set_cons_zero, List.set_cons_succ]
    refine wpL_calm (o := { dst := some 22, op := Go.Op.load 49 (Go.Operand.tmp 21), type := 49, pos := "sha.go:124", after := #[{ on := 13, ground := Go.Ground.data }, { on := 6, ground := Go.Ground.guard }], guard := some (6, true) }) (v := undef) rfl (Or.inr ⟨by rfl, rfl⟩) ?_; try simp only [Act.put, List.setIfInBounds_toArray, List.set_cons_zero, List.set_cons_succ]
    refine wpL_calm (o := { dst := some 23, op := Go.Op.call { callee := Go.Callee.builtin Go.Builtin.len, args := #[Go.Operand.tmp 22], argTypes := #[49] }, type := 3, pos := "sha.go:124", after := #[{ on := 14, ground := Go.Ground.data }, { on := 6, ground := Go.Ground.guard }], guard := some (6, true) }) (v := undef) rfl (Or.inr ⟨by rfl, rfl⟩) ?_; try simp only [Act.put, List.setIfInBounds_toArray, List.set_cons_zero, List.set_cons_succ]
    refine wpL_calm (o := { dst := some 24, op := Go.Op.binOp Go.BinOp.eql 3 (Go.Operand.tmp 18) (Go.Operand.tmp 23) 3, type := 4, pos := "sha.go:124", after := #[{ on := 10, ground := Go.Ground.data }, { on := 15, ground := Go.Ground.data }, { on := 6, ground := Go.Ground.guard }], guard := some (6, true) }) (v := undef) rfl (Or.inr ⟨by rfl, rfl⟩) ?_; try simp only [Act.put, List.setIfInBounds_toArray, List.set_cons_zero, List.set_cons_succ]
    refine wpL_calm (o := { dst := some 25, op := Go.Op.pick (Go.Operand.tmp 14) (Go.Operand.tmp 24) (Go.Operand.const (Go.Value.bool false)), type := 4, pos := "sha.go:124", after := #[{ on := 6, ground := Go.Ground.data }, { on := 16, ground := Go.Ground.data }], guard := none }) (v := ?_) rfl (Or.inl ⟨by rfl, ?_⟩) ?_; rotate_left; (focus (intro w hSw; (try dsimp only at hSw); go_simp; (try (with_reducible rfl)); done)); try simp only [Act.put, List.setIfInBounds_toArray, List.set_cons_zero, List.set_cons_succ]
    refine wpL_nil ?_
    refine NoPanic.normal ?_
    clear hHeld hEQ
    generalize World.drew w1 = w2 at *
    obtain ⟨w3, HW3, hv3, b3⟩ := stored_w8r w2 V
    have rV := (words_h RD.hg).r
    go_upto_region 6 with (first | (refine wpList_load_mid rfl 29 _ rfl g 0 rfl (vL V) _ rV Tryd.underlying29 rfl (by kernel_rfl) ?_) | (refine wpList_store_row rfl _ _ _ rfl w2.heap.size (vL V).toArray rfl rfl 29 _ (heap_alloc_new _ _) (by kernel_rfl) rfl (by simp [vL, Value.oneCell']) ?_))
    rw [HW3.out]
    clear HW3 rV
    have hgl2 : g < w2.heap.size := (Array.getElem?_eq_some_iff.1 RD.hg).1
    have G3 := G2.below b3
    have B3 := B2.trans (b3.mono B2.size)
    have hwl2 : w.heap.size < w2.heap.size := (Array.getElem?_eq_some_iff.1 hr2).1
    have hr3 : w3.heap[w.heap.size]? = some (.cells z32 24 (0, 0)) := (b3.block _ hwl2).trans hr2
    have W3 := Lib.hid (words_of hv3)
    have hs3 : w2.heap.size < w3.heap.size := (Array.getElem?_eq_some_iff.1 hv3).1
    have c8 : w3.drew.cell? ⟨g, 8, none⟩ = some (.slice ra q rc) := (b3.cell (p := ⟨g, 8, none⟩) hgl2).trans RD.c8
    have c9 : w3.drew.cell? ⟨g, 9, none⟩ = some (.int .i64 (n : Int)) := (b3.cell (p := ⟨g, 9, none⟩) hgl2).trans RD.c9
    have hb3 : BytesAt w3.drew ra R := fun h0 => by
      obtain ⟨g', o, h1, h2, h3⟩ := hrb2 h0
      exact ⟨g', o, h1, Nat.lt_of_lt_of_le h2 b3.size, range_below h3 b3.drew h2⟩
    have hK2 := G2.sk
    clear RD hrb2 ho2 hv3 G2 B2 hr2 b3
    generalize w2.heap.size = g3 at *
    have D3 : Below w3.drew.heap.size w3.drew w3.drew := Below.refl _ _
    have hgl3 : g < w3.drew.heap.size := Nat.lt_trans hgl2 hs3
    refine wp_region_lin (S := (fun w' => w'.cell? ⟨g, 8, none⟩ = some (.slice ra q rc) ∧ w'.cell? ⟨g, 9, none⟩ = some (.int .i64 (n : Int)))) [(0, true), (1, true), (2, true), (3, true), (5, true), (6, true), (7, true), (8, true), (4, false), (9, false), (10, false), (11, true)] (by kernel_rfl) (by kernel_rfl) rfl (by kernel_rfl) ?_ (fun hHeld => ?_)
    · (try dsimp only); exact ⟨c8, c9⟩
    (refine wpL_calm (o := { dst := some 36, op := Go.Op.move (Go.Operand.tmp 0), type := 38, pos := "sha.go:128", after := #[], guard := none }) (v := ?_) rfl (Or.inl ⟨by rfl, ?_⟩) ?_; rotate_left; (focus (intro w hSw; (try dsimp only at hSw); go_simp; (try (with_reducible rfl)); done)); try simp only [Act.put, List.setIfInBounds_toArray, List.set_cons_zero, List.set_cons_succ])
    (refine wpL_calm (o := { dst := some 37, op := Go.Op.nilCheck (Go.Operand.tmp 36), type := 0, pos := "sha.go:128", after := #[{ on := 0, ground := Go.Ground.data }], guard := none }) (v := ?_) rfl (Or.inl ⟨by rfl, ?_⟩) ?_; rotate_left; (focus (intro w hSw; (try dsimp only at hSw); go_simp; (try (with_reducible rfl)); done)); try simp only [Act.put, List.setIfInBounds_toArray, List.set_cons_zero, List.set_cons_succ])
    (refine wpL_calm (o := { dst := some 38, op := Go.Op.fieldAddr 60 (Go.Operand.tmp 37) 1, type := 0, pos := "sha.go:128", after := #[{ on := 1, ground := Go.Ground.data }], guard := none }) (v := ?_) rfl (Or.inl ⟨by rfl, ?_⟩) ?_; rotate_left; (focus (intro w hSw; (try dsimp only at hSw); go_simp; (try (with_reducible rfl)); done)); try simp only [Act.put, List.setIfInBounds_toArray, List.set_cons_zero, List.set_cons_succ])
    (refine wpL_calm (o := { dst := some 39, op := Go.Op.load 49 (Go.Operand.tmp 38), type := 49, pos := "sha.go:128", after := #[{ on := 2, ground := Go.Ground.data }], guard := none }) (v := ?_) rfl (Or.inl ⟨by rfl, ?_⟩) ?_; rotate_left; (focus (intro w hSw; (try dsimp only at hSw); go_simp; (try (with_reducible rfl)); done)); try simp only [Act.put, List.setIfInBounds_toArray, List.set_cons_zero, List.set_cons_succ])
    (refine wpL_calm (o := { dst := some 41, op := Go.Op.move (Go.Operand.tmp 0), type := 38, pos := "sha.go:128", after := #[], guard := none }) (v := ?_) rfl (Or.inl ⟨by rfl, ?_⟩) ?_; rotate_left; (focus (intro w hSw; (try dsimp only at hSw); go_simp; (try (with_reducible rfl)); done)); try simp only [Act.put, List.setIfInBounds_toArray, List.set_cons_zero, List.set_cons_succ])
    (refine wpL_calm (o := { dst := some 42, op := Go.Op.nilCheck (Go.Operand.tmp 41), type := 0, pos := "sha.go:128", after := #[{ on := 5, ground := Go.Ground.data }], guard := none }) (v := ?_) rfl (Or.inl ⟨by rfl, ?_⟩) ?_; rotate_left; (focus (intro w hSw; (try dsimp only at hSw); go_simp; (try (with_reducible rfl)); done)); try simp only [Act.put, List.setIfInBounds_toArray, List.set_cons_zero, List.set_cons_succ])
    (refine wpL_calm (o := { dst := some 43, op := Go.Op.fieldAddr 60 (Go.Operand.tmp 42) 2, type := 0, pos := "sha.go:128", after := #[{ on := 6, ground := Go.Ground.data }], guard := none }) (v := ?_) rfl (Or.inl ⟨by rfl, ?_⟩) ?_; rotate_left; (focus (intro w hSw; (try dsimp only at hSw); go_simp; (try (with_reducible rfl)); done)); try simp only [Act.put, List.setIfInBounds_toArray, List.set_cons_zero, List.set_cons_succ])
    (refine wpL_calm (o := { dst := some 44, op := Go.Op.load 3 (Go.Operand.tmp 43), type := 3, pos := "sha.go:128", after := #[{ on := 7, ground := Go.Ground.data }], guard := none }) (v := ?_) rfl (Or.inl ⟨by rfl, ?_⟩) ?_; rotate_left; (focus (intro w hSw; (try dsimp only at hSw); go_simp; (try (with_reducible rfl)); done)); try simp only [Act.put, List.setIfInBounds_toArray, List.set_cons_zero, List.set_cons_succ])
    refine wpL_loud1 (o := { dst := some 40, op := Go.Op.call { callee := Go.Callee.builtin Go.Builtin.append, args := #[Go.Operand.const (Go.Value.slice none 0 0), Go.Operand.tmp 39], argTypes := #[49, 49] }, type := 49, pos := "sha.go:128", after := #[{ on := 3, ground := Go.Ground.data }], guard := none }) rfl (fun K hK => ?_)
    (rw [if_pos (by rfl)]; refine wp_append_src w3.drew _ _ 49 49 rfl w3.drew.heap.size 5 i0 (.int .u8 0) 1 1 Tryd.underlying49 hi hz0 hz1 hz2 rfl (by decide) (.slice none 0 0) 0 [] rfl (World.ownsRow_nil _ _ _ _) (.slice ra q rc) q (bv R) rfl (src_of Tryd.underlying49 hb3 HQ.out) (by unfold maxLen; omega) (by omega) (Nat.le_refl _) ?_; intro v4 w4 O4 G4; replace O4 := own_nilapp O4; have D4 : Below w3.drew.heap.size w3.drew w4 := D3.grown G4 (Nat.le_refl _) (fun k e => by cases e))
    try go_wp2_with fail
    refine hK.out _ _ ?_ (fun hHeld => ?_)
    · (try dsimp only); exact ⟨(D4.cell (p := ⟨g, 8, none⟩) hgl3).trans c8, (D4.cell (p := ⟨g, 9, none⟩) hgl3).trans c9⟩
    clear hK K
    try simp only [Act.put, List.setIfInBounds_toArray, List.set_cons_zero, List.set_cons_succ]
    refine wpL_loud1 (o := { dst := some 45, op := Go.Op.call { callee := Go.Callee.value (Go.Operand.func 25), args := #[Go.Operand.tmp 44], argTypes := #[3] }, type := 49, pos := "sha.go:128", after := #[{ on := 8, ground := Go.Ground.data }, { on := 4, ground := Go.Ground.chain }], guard := none }) rfl (fun K hK => ?_)
    (go_simp; go_at_call 25; refine (HTL.out _).mono ?_; rintro e w5 ⟨rfl, ht5, b5⟩; have D5 : Below w3.drew.heap.size w3.drew w5 := D4.trans (b5.mono D4.size))
    try go_wp2_with fail
    refine hK.out _ _ ?_ (fun hHeld => ?_)
    · (try dsimp only); exact ⟨(D5.cell (p := ⟨g, 8, none⟩) hgl3).trans c8, (D5.cell (p := ⟨g, 9, none⟩) hgl3).trans c9⟩
    clear hK K
    try simp only [Act.put, List.setIfInBounds_toArray, List.set_cons_zero, List.set_cons_succ]
    refine wpL_loud1 (o := { dst := some 46, op := Go.Op.call { callee := Go.Callee.builtin Go.Builtin.append, args := #[Go.Operand.tmp 40, Go.Operand.tmp 45], argTypes := #[49, 49] }, type := 49, pos := "sha.go:128", after := #[{ on := 4, ground := Go.Ground.data }, { on := 9, ground := Go.Ground.data }, { on := 9, ground := Go.Ground.chain }], guard := none }) rfl (fun K hK => ?_)
    (rw [if_pos (by rfl)]; refine wp_append_src w5 _ _ 49 49 rfl w3.drew.heap.size 5 i0 (.int .u8 0) 1 1 Tryd.underlying49 hi hz0 hz1 hz2 rfl (by decide) v4 q (bv R) rfl (own_below O4 b5) (.slice (some ⟨w4.heap.size, 0, none⟩) (tlen n) (tlen n)) (tlen n) (bv (tailL n)) rfl (src_of Tryd.underlying49 (tail_bytes ht5) htl) (by unfold maxLen; omega) (by omega) (Nat.le_trans D4.size b5.size) ?_; intro v6 w6 O6 G6; have D6 : Below w3.drew.heap.size w3.drew w6 := D5.grown G6 D5.size (fun k e => ((own_below O4 b5).lt k e).1); replace O6 := own_app HQ.out htl O6; rw [HL6.out] at O6; obtain ⟨a6, c6, rfl, h61, h62, h63, h64, h65⟩ := own_slice O6; have hlt6 := O6.lt; have ho6 : ∀ g' o s', a6 = some ⟨g', o, s'⟩ → g' ≠ g3 := fun g' o s' e => (by have := hlt6 g' (h64 g' o s' e); have hs3' : g3 < w3.drew.heap.size := hs3; omega))
    try go_wp2_with fail
    refine hK.out _ _ ?_ (fun hHeld => ?_)
    · (try dsimp only); exact ⟨(D6.cell (p := ⟨g, 8, none⟩) hgl3).trans c8, (D6.cell (p := ⟨g, 9, none⟩) hgl3).trans c9⟩
    clear hK K
    try simp only [Act.put, List.setIfInBounds_toArray, List.set_cons_zero, List.set_cons_succ]
    (refine wpL_calm (o := { dst := some 4, op := Go.Op.assign (Go.Operand.tmp 46), type := 49, pos := "sha.go:128", after := #[{ on := 10, ground := Go.Ground.data }, { on := 10, ground := Go.Ground.chain }, { on := 0, ground := Go.Ground.phase }, { on := 1, ground := Go.Ground.phase }, { on := 2, ground := Go.Ground.phase }, { on := 3, ground := Go.Ground.phase }, { on := 4, ground := Go.Ground.phase }, { on := 5, ground := Go.Ground.phase }, { on := 6, ground := Go.Ground.phase }, { on := 7, ground := Go.Ground.phase }, { on := 8, ground := Go.Ground.phase }, { on := 9, ground := Go.Ground.phase }, { on := 10, ground := Go.Ground.phase }], guard := none }) (v := ?_) rfl (Or.inl ⟨by rfl, ?_⟩) ?_; rotate_left; (focus (intro w hSw; (try dsimp only at hSw); go_simp; (try (with_reducible rfl)); done)); try simp only [Act.put, List.setIfInBounds_toArray, List.set_cons_zero, List.set_cons_succ])
    refine wpL_nil ?_
    refine NoPanic.normal ?_
    clear hHeld c8 c9 hb3 D3 D4 D5 O4 O6 G6 b5 ht5 G4 hlt6 h64 h65
    have hd6 : Below w3.heap.size w3 w6 := ⟨D6.os, D6.tape, D6.output, D6.size, D6.block⟩
    have G6 := G3.below hd6
    have hr6 : w6.heap[w.heap.size]? = some (.cells z32 24 (0, 0)) := (hd6.block _ (Nat.lt_trans hwl2 hs3)).trans hr3
    have B6 := B3.trans (hd6.mono B3.size)
    have W6 : WordsAt w6 g3 0 V := ⟨range_below W3.out.r hd6 hs3, there_below W3.out.t hd6 hs3, Nat.lt_of_lt_of_le hs3 hd6.size⟩
    have HWA := Lib.hid (workAll_any L6 V g3 0 a6 c6 w6 G6.k (by omega) G6.sk W6 h63 ho6 h61 h62)
    rw [HW.out] at HWA
    clear D6 hd6 G3 hr3 B3 W3 W6 h63 ho6 h61 h62
    go_wp2_with fail
    refine HWA.out.mono ?_
    rintro e w7 ⟨⟨a7, c7, rfl, _⟩, W7, g7, _⟩
    have hr7 : w7.heap[w.heap.size]? = some (.cells z32 24 (0, 0)) := (g7.block _ (Array.getElem?_eq_some_iff.1 hr6).1 (fun e => by cases e; omega)).trans hr6
    have B7 := B6.grown g7 B6.size (fun k e => by cases e; omega)
    clear HWA hr6 B6 g7 G6
    obtain ⟨hsz, hone⟩ := dig_ok (sumV t)
    generalize sumV t = V7 at *
    have rV := W7.r
    go_wp2_with (refine wpList_load_mid rfl 29 _ rfl g3 0 rfl (vL V7) _ rV Tryd.underlying29 rfl (by kernel_rfl) ?_)
    refine (HL.out _ _).mono ?_
    rintro e w8 ⟨rfl, b8⟩
    have hr8 : w8.heap[w.heap.size]? = some (.cells z32 24 (0, 0)) := (b8.block _ (Array.getElem?_eq_some_iff.1 hr7).1).trans hr7
    have B8 := B7.trans (b8.mono B7.size)
    rw [HSL.out] at hsz hone
    have HS2 := HSL.out
    clear rV W7 hr7 b8 B7
    rw [HS2]
    generalize hDG : digA (sumL t) = D at *
    have HDG := Lib.hid hDG
    clear hDG
    go_wp2_with (refine wpList_store_row rfl _ _ _ rfl w.heap.size D rfl rfl 24 _ hr8 (by rw [hsz]; kernel_rfl) (by rw [hsz]; rfl) hone ?_)
    refine bodyPost_ret_by (results_cell_row rfl _ _ w.heap.size 24 D (0, 0) _ rfl (setRow_heap _ _ _ D 24 (0, 0) hr8) Tryd.underlying24 rfl (by rw [hsz]; kernel_rfl)) rfl ⟨by rw [HDG.out], ?_⟩
    exact below_setRow B8 (Nat.le_refl _) _
  · by_cases hlt : n < 64
    · have hnR : ((n : Int) == (q : Int)) = true := by rw [show q = n from by have := HRL.out; omega]; simp
      refine wp_region_lin (S := (fun w' => Rd g n V (.slice ra q rc) w' ∧ w'.cell? ⟨g, 8, none⟩ = some (.slice ra q rc) ∧ w'.cell? ⟨g, 9, none⟩ = some (.int .i64 (n : Int)))) [(0, true), (1, true), (2, true), (3, true), (4, true), (5, true), (6, true), (7, true), (8, true), (9, true), (10, true), (11, true), (12, true), (13, true), (14, true), (15, true), (16, true), (17, true)] (by kernel_rfl) (by kernel_rfl) rfl (by kernel_rfl) ?_ (fun hHeld => ?_)
      · (try dsimp only); exact ⟨RD, RD.c8, RD.c9⟩
      refine wpL_calm (o := { dst := some 8, op := Go.Op.move (Go.Operand.tmp 0), type := 38, pos := "sha.go:124", after := #[], guard := none }) (v := ?_) rfl (Or.inl ⟨by rfl, ?_⟩) ?_; rotate_left; (focus (intro w hSw; (try dsimp only at hSw); go_simp; (try (with_reducible rfl)); done)); try simp only [Act.put, List.setIfInBounds_toArray, List.set_cons_zero, List.set_cons_succ]
      refine wpL_calm (o := { dst := some 9, op := Go.Op.nilCheck (Go.Operand.tmp 8), type := 0, pos := "sha.go:124", after := #[{ on := 0, ground := Go.Ground.data }], guard := none }) (v := ?_) rfl (Or.inl ⟨by rfl, ?_⟩) ?_; rotate_left; (focus (intro w hSw; (try dsimp only at hSw); go_simp; (try (with_reducible rfl)); done)); try simp only [Act.put, List.setIfInBounds_toArray, List.set_cons_zero, List.set_cons_succ]
      refine wpL_calm (o := { dst := some 10, op := Go.Op.fieldAddr 60 (Go.Operand.tmp 9) 0, type := 0, pos := "sha.go:124", after := #[{ on := 1, ground := Go.Ground.data }], guard := none }) (v := ?_) rfl (Or.inl ⟨by rfl, ?_⟩) ?_; rotate_left; (focus (intro w hSw; (try dsimp only at hSw); go_simp; (try (with_reducible rfl)); done)); try simp only [Act.put, List.setIfInBounds_toArray, List.set_cons_zero, List.set_cons_succ]
      refine wpL_calm (o := { dst := some 11, op := Go.Op.load 29 (Go.Operand.tmp 10), type := 29, pos := "sha.go:124", after := #[{ on := 2, ground := Go.Ground.data }], guard := none }) rfl (yieldsIf_load_mid (by rfl) _ _ rfl g 0 rfl (vL V) _ (fun _ h => (words_h h.1.hg).r) Tryd.underlying29 rfl (by kernel_rfl)) ?_
      try simp only [Act.put, List.setIfInBounds_toArray, List.set_cons_zero, List.set_cons_succ]
      refine wpL_calm (o := { dst := some 12, op := Go.Op.load 29 (Go.Operand.global 0), type := 29, pos := "sha.go:124", after := #[], guard := none }) rfl (yieldsIf_load_mid (by rfl) _ _ rfl 0 0 rfl (vL v0) _ (fun _ h => h.1.f) Tryd.underlying29 rfl (by kernel_rfl)) ?_
      try simp only [Act.put, List.setIfInBounds_toArray, List.set_cons_zero, List.set_cons_succ]
      refine wpL_calm (o := { dst := some 13, op := Go.Op.binOp Go.BinOp.eql 29 (Go.Operand.tmp 11) (Go.Operand.tmp 12) 29, type := 4, pos := "sha.go:124", after := #[{ on := 3, ground := Go.Ground.data }, { on := 4, ground := Go.Ground.data }], guard := none }) (v := ?_) rfl (Or.inl ⟨by rfl, ?_⟩) ?_; rotate_left; (focus (intro w hSw; (try dsimp only at hSw); go_simp; (try (with_reducible rfl)); done)); try simp only [Act.put, List.setIfInBounds_toArray, List.set_cons_zero, List.set_cons_succ]
      refine wpL_calm (o := { dst := some 14, op := Go.Op.move (Go.Operand.tmp 13), type := 4, pos := "sha.go:124", after := #[{ on := 5, ground := Go.Ground.data }], guard := none }) (v := ?_) rfl (Or.inl ⟨by rfl, ?_⟩) ?_; rotate_left; (focus (intro w hSw; (try dsimp only at hSw); go_simp; (try (with_reducible rfl)); done)); try simp only [Act.put, List.setIfInBounds_toArray, List.set_cons_zero, List.set_cons_succ]
      refine wpL_calm (o := { dst := some 15, op := Go.Op.move (Go.Operand.tmp 0), type := 38, pos := "sha.go:124", after := #[{ on := 6, ground := Go.Ground.guard }], guard := some (6, true) }) (v := ?_) rfl (Or.inl ⟨by rfl, ?_⟩) ?_; rotate_left; (focus (intro w hSw; (try dsimp only at hSw); go_simp; (try (with_reducible rfl)); done)); try simp only [Act.put, List.setIfInBounds_toArray, List.set_cons_zero, List.set_cons_succ]
      refine wpL_calm (o := { dst := some 16, op := Go.Op.nilCheck (Go.Operand.tmp 15), type := 0, pos := "sha.go:124", after := #[{ on := 7, ground := Go.Ground.data }, { on := 6, ground := Go.Ground.guard }], guard := some (6, true) }) (v := ?_) rfl (Or.inl ⟨by rfl, ?_⟩) ?_; rotate_left; (focus (intro w hSw; (try dsimp only at hSw); go_simp; (try (with_reducible rfl)); done)); try simp only [Act.put, List.setIfInBounds_toArray, List.set_cons_zero, List.set_cons_succ]
      refine wpL_calm (o := { dst := some 17, op := Go.Op.fieldAddr 60 (Go.Operand.tmp 16) 2, type := 0, pos := "sha.go:124", after := #[{ on := 8, ground := Go.Ground.data }, { on := 6, ground := Go.Ground.guard }], guard := some (6, true) }) (v := ?_) rfl (Or.inl ⟨by rfl, ?_⟩) ?_; rotate_left; (focus (intro w hSw; (try dsimp only at hSw); go_simp; (try (with_reducible rfl)); done)); try simp only [Act.put, List.setIfInBounds_toArray, List.set_cons_zero, List.set_cons_succ]
      refine wpL_calm (o := { dst := some 18, op := Go.Op.load 3 (Go.Operand.tmp 17), type := 3, pos := "sha.go:124", after := #[{ on := 9, ground := Go.Ground.data }, { on := 6, ground := Go.Ground.guard }], guard := some (6, true) }) (v := ?_) rfl (Or.inl ⟨by rfl, ?_⟩) ?_; rotate_left; (focus (intro w hSw; (try dsimp only at hSw); go_simp; (try (with_reducible rfl)); done)); try simp only [Act.put, List.setIfInBounds_toArray, List.set_cons_zero, List.set_cons_succ]
      refine wpL_calm (o := { dst := some 19, op := Go.Op.move (Go.Operand.tmp 0), type := 38, pos := "sha.go:124", after := #[{ on := 6, ground := Go.Ground.guard }], guard := some (6, true) }) (v := ?_) rfl (Or.inl ⟨by rfl, ?_⟩) ?_; rotate_left; (focus (intro w hSw; (try dsimp only at hSw); go_simp; (try (with_reducible rfl)); done)); try simp only [Act.put, List.setIfInBounds_toArray, List.set_cons_zero, List.set_cons_succ]
      refine wpL_calm (o := { dst := some 20, op := Go.Op.nilCheck (Go.Operand.tmp 19), type := 0, pos := "sha.go:124", after := #[{ on := 11, ground := Go.Ground.data }, { on := 6, ground := Go.Ground.guard }], guard := some (6, true) }) (v := ?_) rfl (Or.inl ⟨by rfl, ?_⟩) ?_; rotate_left; (focus (intro w hSw; (try dsimp only at hSw); go_simp; (try (with_reducible rfl)); done)); try simp only [Act.put, List.setIfInBounds_toArray, List.set_cons_zero, List.set_cons_succ]
      refine wpL_calm (o := { dst := some 21, op := Go.Op.fieldAddr 60 (Go.Operand.tmp 20) 1, type := 0, pos := "sha.go:124", after := #[{ on := 12, ground := Go.Ground.data }, { on := 6, ground := Go.Ground.guard }], guard := some (6, true) }) (v := ?_) rfl (Or.inl ⟨by rfl, ?_⟩) ?_; rotate_left; (focus (intro w hSw; (try dsimp only at hSw); go_simp; (try (with_reducible rfl)); done)); try simp only [Act.put, List.setIfInBounds_toArray, List.set_cons_zero, List.set_cons_succ]
      refine wpL_calm (o := { dst := some 22, op := Go.Op.load 49 (Go.Operand.tmp 21), type := 49, pos := "sha.go:124", after := #[{ on := 13, ground := Go.Ground.data }, { on := 6, ground := Go.Ground.guard }], guard := some (6, true) }) (v := ?_) rfl (Or.inl ⟨by rfl, ?_⟩) ?_; rotate_left; (focus (intro w hSw; (try dsimp only at hSw); go_simp; (try (with_reducible rfl)); done)); try simp only [Act.put, List.setIfInBounds_toArray, List.set_cons_zero, List.set_cons_succ]
      refine wpL_calm (o := { dst := some 23, op := Go.Op.call { callee := Go.Callee.builtin Go.Builtin.len, args := #[Go.Operand.tmp 22], argTypes := #[49] }, type := 3, pos := "sha.go:124", after := #[{ on := 14, ground := Go.Ground.data }, { on := 6, ground := Go.Ground.guard }], guard := some (6, true) }) (v := ?_) rfl (Or.inl ⟨by rfl, ?_⟩) ?_; rotate_left; (focus (intro w hSw; (try dsimp only at hSw); go_simp; (try (with_reducible rfl)); done)); try simp only [Act.put, List.setIfInBounds_toArray, List.set_cons_zero, List.set_cons_succ]
      refine wpL_calm (o := { dst := some 24, op := Go.Op.binOp Go.BinOp.eql 3 (Go.Operand.tmp 18) (Go.Operand.tmp 23) 3, type := 4, pos := "sha.go:124", after := #[{ on := 10, ground := Go.Ground.data }, { on := 15, ground := Go.Ground.data }, { on := 6, ground := Go.Ground.guard }], guard := some (6, true) }) (v := ?_) rfl (Or.inl ⟨by rfl, ?_⟩) ?_; rotate_left; (focus (intro w hSw; (try dsimp only at hSw); go_simp; (try (with_reducible rfl)); done)); try simp only [Act.put, List.setIfInBounds_toArray, List.set_cons_zero, List.set_cons_succ]
      refine wpL_calm (o := { dst := some 25, op := Go.Op.pick (Go.Operand.tmp 14) (Go.Operand.tmp 24) (Go.Operand.const (Go.Value.bool false)), type := 4, pos := "sha.go:124", after := #[{ on := 6, ground := Go.Ground.data }, { on := 16, ground := Go.Ground.data }], guard := none }) (v := ?_) rfl (Or.inl ⟨by rfl, ?_⟩) ?_; rotate_left; (focus (intro w hSw; (try dsimp only at hSw); go_simp; (try (with_reducible rfl)); done)); try simp only [Act.put, List.setIfInBounds_toArray, List.set_cons_zero, List.set_cons_succ]
      refine wpL_nil ?_
      refine NoPanic.normal ?_
      clear hHeld hEQ
      generalize World.drew w1 = w2 at *
      obtain rfl : R = t := HSM.out hlt
      have HS := Lib.hid (sum_any ⟨R.toArray⟩ w2 (by rw [bytes_size, HN.out]; omega) G2)
      have hcv := conv_owned (P := Tryd.prog) (dst := 9) Tryd.underlying49 Tryd.underlying5 Tryd.underlying9 (v := .slice ra q rc) (w := w2) (base := base) (l := R) (by rw [HQ.out]; exact ho2)
      have c8 := RD.c8
      have htr : (⟨R.toArray⟩ : ByteArray).data.toList = R := rfl
      rw [htr] at HS
      generalize (⟨R.toArray⟩ : ByteArray) = Z at *
      generalize hSL : sumL R = SL at *
      have HSS := Lib.hid hSL
      clear hSL htr
      go_wp2_with fail
      refine HS.out.mono ?_
      rintro e w3 ⟨rfl, b3⟩
      have hr3 : w3.heap[w.heap.size]? = some (.cells z32 24 (0, 0)) := (b3.block _ (Array.getElem?_eq_some_iff.1 hr2).1).trans hr2
      have B3 := B2.trans (b3.mono B2.size)
      obtain ⟨hsz, hone⟩ := dig_ok (sumV R)
      rw [HSL.out] at hsz hone
      generalize hDG : digA SL = D at *
      have HDG := Lib.hid hDG
      clear hDG
      go_wp2_with (refine wpList_store_row rfl _ _ _ rfl w.heap.size D rfl rfl 24 _ hr3 (by rw [hsz]; kernel_rfl) (by rw [hsz]; rfl) hone ?_)
      refine bodyPost_ret_by (results_cell_row rfl _ _ w.heap.size 24 D (0, 0) _ rfl (setRow_heap _ _ _ D 24 (0, 0) hr3) Tryd.underlying24 rfl (by rw [hsz]; kernel_rfl)) rfl ⟨by rw [HSS.out, HDG.out], ?_⟩
      exact below_setRow B3 (Nat.le_refl _) _
    · have hnR : ((n : Int) == (q : Int)) = false := by simp; omega
      refine wp_region_lin (S := (fun w' => Rd g n V (.slice ra q rc) w' ∧ w'.cell? ⟨g, 8, none⟩ = some (.slice ra q rc) ∧ w'.cell? ⟨g, 9, none⟩ = some (.int .i64 (n : Int)))) [(0, true), (1, true), (2, true), (3, true), (4, true), (5, true), (6, true), (7, true), (8, true), (9, true), (10, true), (11, true), (12, true), (13, true), (14, true), (15, true), (16, true), (17, true)] (by kernel_rfl) (by kernel_rfl) rfl (by kernel_rfl) ?_ (fun hHeld => ?_)
      · (try dsimp only); exact ⟨RD, RD.c8, RD.c9⟩
      refine wpL_calm (o := { dst := some 8, op := Go.Op.move (Go.Operand.tmp 0), type := 38, pos := "sha.go:124", after := #[], guard := none }) (v := ?_) rfl (Or.inl ⟨by rfl, ?_⟩) ?_; rotate_left; (focus (intro w hSw; (try dsimp only at hSw); go_simp; (try (with_reducible rfl)); done)); try simp only [Act.put, List.setIfInBounds_toArray, List.set_cons_zero, List.set_cons_succ]
      refine wpL_calm (o := { dst := some 9, op := Go.Op.nilCheck (Go.Operand.tmp 8), type := 0, pos := "sha.go:124", after := #[{ on := 0, ground := Go.Ground.data }], guard := none }) (v := ?_) rfl (Or.inl ⟨by rfl, ?_⟩) ?_; rotate_left; (focus (intro w hSw; (try dsimp only at hSw); go_simp; (try (with_reducible rfl)); done)); try simp only [Act.put, List.setIfInBounds_toArray, List.set_cons_zero, List.set_cons_succ]
      refine wpL_calm (o := { dst := some 10, op := Go.Op.fieldAddr 60 (Go.Operand.tmp 9) 0, type := 0, pos := "sha.go:124", after := #[{ on := 1, ground := Go.Ground.data }], guard := none }) (v := ?_) rfl (Or.inl ⟨by rfl, ?_⟩) ?_; rotate_left; (focus (intro w hSw; (try dsimp only at hSw); go_simp; (try (with_reducible rfl)); done)); try simp only [Act.put, List.setIfInBounds_toArray, List.set_cons_zero, List.set_cons_succ]
      refine wpL_calm (o := { dst := some 11, op := Go.Op.load 29 (Go.Operand.tmp 10), type := 29, pos := "sha.go:124", after := #[{ on := 2, ground := Go.Ground.data }], guard := none }) rfl (yieldsIf_load_mid (by rfl) _ _ rfl g 0 rfl (vL V) _ (fun _ h => (words_h h.1.hg).r) Tryd.underlying29 rfl (by kernel_rfl)) ?_
      try simp only [Act.put, List.setIfInBounds_toArray, List.set_cons_zero, List.set_cons_succ]
      refine wpL_calm (o := { dst := some 12, op := Go.Op.load 29 (Go.Operand.global 0), type := 29, pos := "sha.go:124", after := #[], guard := none }) rfl (yieldsIf_load_mid (by rfl) _ _ rfl 0 0 rfl (vL v0) _ (fun _ h => h.1.f) Tryd.underlying29 rfl (by kernel_rfl)) ?_
      try simp only [Act.put, List.setIfInBounds_toArray, List.set_cons_zero, List.set_cons_succ]
      refine wpL_calm (o := { dst := some 13, op := Go.Op.binOp Go.BinOp.eql 29 (Go.Operand.tmp 11) (Go.Operand.tmp 12) 29, type := 4, pos := "sha.go:124", after := #[{ on := 3, ground := Go.Ground.data }, { on := 4, ground := Go.Ground.data }], guard := none }) (v := ?_) rfl (Or.inl ⟨by rfl, ?_⟩) ?_; rotate_left; (focus (intro w hSw; (try dsimp only at hSw); go_simp; (try (with_reducible rfl)); done)); try simp only [Act.put, List.setIfInBounds_toArray, List.set_cons_zero, List.set_cons_succ]
      refine wpL_calm (o := { dst := some 14, op := Go.Op.move (Go.Operand.tmp 13), type := 4, pos := "sha.go:124", after := #[{ on := 5, ground := Go.Ground.data }], guard := none }) (v := ?_) rfl (Or.inl ⟨by rfl, ?_⟩) ?_; rotate_left; (focus (intro w hSw; (try dsimp only at hSw); go_simp; (try (with_reducible rfl)); done)); try simp only [Act.put, List.setIfInBounds_toArray, List.set_cons_zero, List.set_cons_succ]
      refine wpL_calm (o := { dst := some 15, op := Go.Op.move (Go.Operand.tmp 0), type := 38, pos := "sha.go:124", after := #[{ on := 6, ground := Go.Ground.guard }], guard := some (6, true) }) (v := ?_) rfl (Or.inl ⟨by rfl, ?_⟩) ?_; rotate_left; (focus (intro w hSw; (try dsimp only at hSw); go_simp; (try (with_reducible rfl)); done)); try simp only [Act.put, List.setIfInBounds_toArray, List.set_cons_zero, List.set_cons_succ]
      refine wpL_calm (o := { dst := some 16, op := Go.Op.nilCheck (Go.Operand.tmp 15), type := 0, pos := "sha.go:124", after := #[{ on := 7, ground := Go.Ground.data }, { on := 6, ground := Go.Ground.guard }], guard := some (6, true) }) (v := ?_) rfl (Or.inl ⟨by rfl, ?_⟩) ?_; rotate_left; (focus (intro w hSw; (try dsimp only at hSw); go_simp; (try (with_reducible rfl)); done)); try simp only [Act.put, List.setIfInBounds_toArray, List.set_cons_zero, List.set_cons_succ]
      refine wpL_calm (o := { dst := some 17, op := Go.Op.fieldAddr 60 (Go.Operand.tmp 16) 2, type := 0, pos := "sha.go:124", after := #[{ on := 8, ground := Go.Ground.data }, { on := 6, ground := Go.Ground.guard }], guard := some (6, true) }) (v := ?_) rfl (Or.inl ⟨by rfl, ?_⟩) ?_; rotate_left; (focus (intro w hSw; (try dsimp only at hSw); go_simp; (try (with_reducible rfl)); done)); try simp only [Act.put, List.setIfInBounds_toArray, List.set_cons_zero, List.set_cons_succ]
      refine wpL_calm (o := { dst := some 18, op := Go.Op.load 3 (Go.Operand.tmp 17), type := 3, pos := "sha.go:124", after := #[{ on := 9, ground := Go.Ground.data }, { on := 6, ground := Go.Ground.guard }], guard := some (6, true) }) (v := ?_) rfl (Or.inl ⟨by rfl, ?_⟩) ?_; rotate_left; (focus (intro w hSw; (try dsimp only at hSw); go_simp; (try (with_reducible rfl)); done)); try simp only [Act.put, List.setIfInBounds_toArray, List.set_cons_zero, List.set_cons_succ]
      refine wpL_calm (o := { dst := some 19, op := Go.Op.move (Go.Operand.tmp 0), type := 38, pos := "sha.go:124", after := #[{ on := 6, ground := Go.Ground.guard }], guard := some (6, true) }) (v := ?_) rfl (Or.inl ⟨by rfl, ?_⟩) ?_; rotate_left; (focus (intro w hSw; (try dsimp only at hSw); go_simp; (try (with_reducible rfl)); done)); try simp only [Act.put, List.setIfInBounds_toArray, List.set_cons_zero, List.set_cons_succ]
      refine wpL_calm (o := { dst := some 20, op := Go.Op.nilCheck (Go.Operand.tmp 19), type := 0, pos := "sha.go:124", after := #[{ on := 11, ground := Go.Ground.data }, { on := 6, ground := Go.Ground.guard }], guard := some (6, true) }) (v := ?_) rfl (Or.inl ⟨by rfl, ?_⟩) ?_; rotate_left; (focus (intro w hSw; (try dsimp only at hSw); go_simp; (try (with_reducible rfl)); done)); try simp only [Act.put, List.setIfInBounds_toArray, List.set_cons_zero, List.set_cons_succ]
      refine wpL_calm (o := { dst := some 21, op := Go.Op.fieldAddr 60 (Go.Operand.tmp 20) 1, type := 0, pos := "sha.go:124", after := #[{ on := 12, ground := Go.Ground.data }, { on := 6, ground := Go.Ground.guard }], guard := some (6, true) }) (v := ?_) rfl (Or.inl ⟨by rfl, ?_⟩) ?_; rotate_left; (focus (intro w hSw; (try dsimp only at hSw); go_simp; (try (with_reducible rfl)); done)); try simp only [Act.put, List.setIfInBounds_toArray, List.set_cons_zero, List.set_cons_succ]
      refine wpL_calm (o := { dst := some 22, op := Go.Op.load 49 (Go.Operand.tmp 21), type := 49, pos := "sha.go:124", after := #[{ on := 13, ground := Go.Ground.data }, { on := 6, ground := Go.Ground.guard }], guard := some (6, true) }) (v := ?_) rfl (Or.inl ⟨by rfl, ?_⟩) ?_; rotate_left; (focus (intro w hSw; (try dsimp only at hSw); go_simp; (try (with_reducible rfl)); done)); try simp only [Act.put, List.setIfInBounds_toArray, List.set_cons_zero, List.set_cons_succ]
      refine wpL_calm (o := { dst := some 23, op := Go.Op.call { callee := Go.Callee.builtin Go.Builtin.len, args := #[Go.Operand.tmp 22], argTypes := #[49] }, type := 3, pos := "sha.go:124", after := #[{ on := 14, ground := Go.Ground.data }, { on := 6, ground := Go.Ground.guard }], guard := some (6, true) }) (v := ?_) rfl (Or.inl ⟨by rfl, ?_⟩) ?_; rotate_left; (focus (intro w hSw; (try dsimp only at hSw); go_simp; (try (with_reducible rfl)); done)); try simp only [Act.put, List.setIfInBounds_toArray, List.set_cons_zero, List.set_cons_succ]
      refine wpL_calm (o := { dst := some 24, op := Go.Op.binOp Go.BinOp.eql 3 (Go.Operand.tmp 18) (Go.Operand.tmp 23) 3, type := 4, pos := "sha.go:124", after := #[{ on := 10, ground := Go.Ground.data }, { on := 15, ground := Go.Ground.data }, { on := 6, ground := Go.Ground.guard }], guard := some (6, true) }) (v := ?_) rfl (Or.inl ⟨by rfl, ?_⟩) ?_; rotate_left; (focus (intro w hSw; (try dsimp only at hSw); go_simp; (try (with_reducible rfl)); done)); try simp only [Act.put, List.setIfInBounds_toArray, List.set_cons_zero, List.set_cons_succ]
      refine wpL_calm (o := { dst := some 25, op := Go.Op.pick (Go.Operand.tmp 14) (Go.Operand.tmp 24) (Go.Operand.const (Go.Value.bool false)), type := 4, pos := "sha.go:124", after := #[{ on := 6, ground := Go.Ground.data }, { on := 16, ground := Go.Ground.data }], guard := none }) (v := ?_) rfl (Or.inl ⟨by rfl, ?_⟩) ?_; rotate_left; (focus (intro w hSw; (try dsimp only at hSw); go_simp; (try (with_reducible rfl)); done)); try simp only [Act.put, List.setIfInBounds_toArray, List.set_cons_zero, List.set_cons_succ]
      refine wpL_nil ?_
      refine NoPanic.normal ?_
      clear hHeld hEQ
      generalize World.drew w1 = w2 at *
      obtain ⟨w3, HW3, hv3, b3⟩ := stored_w8r w2 V
      have rV := (words_h RD.hg).r
      go_upto_region 6 with (first | (refine wpList_load_mid rfl 29 _ rfl g 0 rfl (vL V) _ rV Tryd.underlying29 rfl (by kernel_rfl) ?_) | (refine wpList_store_row rfl _ _ _ rfl w2.heap.size (vL V).toArray rfl rfl 29 _ (heap_alloc_new _ _) (by kernel_rfl) rfl (by simp [vL, Value.oneCell']) ?_))
      rw [HW3.out]
      clear HW3 rV
      have hgl2 : g < w2.heap.size := (Array.getElem?_eq_some_iff.1 RD.hg).1
      have G3 := G2.below b3
      have B3 := B2.trans (b3.mono B2.size)
      have hwl2 : w.heap.size < w2.heap.size := (Array.getElem?_eq_some_iff.1 hr2).1
      have hr3 : w3.heap[w.heap.size]? = some (.cells z32 24 (0, 0)) := (b3.block _ hwl2).trans hr2
      have W3 := Lib.hid (words_of hv3)
      have hs3 : w2.heap.size < w3.heap.size := (Array.getElem?_eq_some_iff.1 hv3).1
      have c8 : w3.drew.cell? ⟨g, 8, none⟩ = some (.slice ra q rc) := (b3.cell (p := ⟨g, 8, none⟩) hgl2).trans RD.c8
      have c9 : w3.drew.cell? ⟨g, 9, none⟩ = some (.int .i64 (n : Int)) := (b3.cell (p := ⟨g, 9, none⟩) hgl2).trans RD.c9
      have hb3 : BytesAt w3.drew ra R := fun h0 => by
        obtain ⟨g', o, h1, h2, h3⟩ := hrb2 h0
        exact ⟨g', o, h1, Nat.lt_of_lt_of_le h2 b3.size, range_below h3 b3.drew h2⟩
      have hK2 := G2.sk
      clear RD hrb2 ho2 hv3 G2 B2 hr2 b3
      generalize w2.heap.size = g3 at *
      have D3 : Below w3.drew.heap.size w3.drew w3.drew := Below.refl _ _
      have hgl3 : g < w3.drew.heap.size := Nat.lt_trans hgl2 hs3
      refine wp_region_lin (S := (fun w' => w'.cell? ⟨g, 8, none⟩ = some (.slice ra q rc) ∧ w'.cell? ⟨g, 9, none⟩ = some (.int .i64 (n : Int)))) [(0, true), (1, true), (2, true), (3, true), (5, true), (6, true), (7, true), (8, true), (4, false), (9, false), (10, false), (11, true)] (by kernel_rfl) (by kernel_rfl) rfl (by kernel_rfl) ?_ (fun hHeld => ?_)
      · (try dsimp only); exact ⟨c8, c9⟩
      (refine wpL_calm (o := { dst := some 36, op := Go.Op.move (Go.Operand.tmp 0), type := 38, pos := "sha.go:128", after := #[], guard := none }) (v := ?_) rfl (Or.inl ⟨by rfl, ?_⟩) ?_; rotate_left; (focus (intro w hSw; (try dsimp only at hSw); go_simp; (try (with_reducible rfl)); done)); try simp only [Act.put, List.setIfInBounds_toArray, List.set_cons_zero, List.set_cons_succ])
      (refine wpL_calm (o := { dst := some 37, op := Go.Op.nilCheck (Go.Operand.tmp 36), type := 0, pos := "sha.go:128", after := #[{ on := 0, ground := Go.Ground.data }], guard := none }) (v := ?_) rfl (Or.inl ⟨by rfl, ?_⟩) ?_; rotate_left; (focus (intro w hSw; (try dsimp only at hSw); go_simp; (try (with_reducible rfl)); done)); try simp only [Act.put, List.setIfInBounds_toArray, List.set_cons_zero, List.set_cons_succ])
      (refine wpL_calm (o := { dst := some 38, op := Go.Op.fieldAddr 60 (Go.Operand.tmp 37) 1, type := 0, pos := "sha.go:128", after := #[{ on := 1, ground := Go.Ground.data }], guard := none }) (v := ?_) rfl (Or.inl ⟨by rfl, ?_⟩) ?_; rotate_left; (focus (intro w hSw; (try dsimp only at hSw); go_simp; (try (with_reducible rfl)); done)); try simp only [Act.put, List.setIfInBounds_toArray, List.set_cons_zero, List.set_cons_succ])
      (refine wpL_calm (o := { dst := some 39, op := Go.Op.load 49 (Go.Operand.tmp 38), type := 49, pos := "sha.go:128", after := #[{ on := 2, ground := Go.Ground.data }], guard := none }) (v := ?_) rfl (Or.inl ⟨by rfl, ?_⟩) ?_; rotate_left; (focus (intro w hSw; (try dsimp only at hSw); go_simp; (try (with_reducible rfl)); done)); try simp only [Act.put, List.setIfInBounds_toArray, List.set_cons_zero, List.set_cons_succ])
      (refine wpL_calm (o := { dst := some 41, op := Go.Op.move (Go.Operand.tmp 0), type := 38, pos := "sha.go:128", after := #[], guard := none }) (v := ?_) rfl (Or.inl ⟨by rfl, ?_⟩) ?_; rotate_left; (focus (intro w hSw; (try dsimp only at hSw); go_simp; (try (with_reducible rfl)); done)); try simp only [Act.put, List.setIfInBounds_toArray, List.set_cons_zero, List.set_cons_succ])
      (refine wpL_calm (o := { dst := some 42, op := Go.Op.nilCheck (Go.Operand.tmp 41), type := 0, pos := "sha.go:128", after := #[{ on := 5, ground := Go.Ground.data }], guard := none }) (v := ?_) rfl (Or.inl ⟨by rfl, ?_⟩) ?_; rotate_left; (focus (intro w hSw; (try dsimp only at hSw); go_simp; (try (with_reducible rfl)); done)); try simp only [Act.put, List.setIfInBounds_toArray, List.set_cons_zero, List.set_cons_succ])
      (refine wpL_calm (o := { dst := some 43, op := Go.Op.fieldAddr 60 (Go.Operand.tmp 42) 2, type := 0, pos := "sha.go:128", after := #[{ on := 6, ground := Go.Ground.data }], guard := none }) (v := ?_) rfl (Or.inl ⟨by rfl, ?_⟩) ?_; rotate_left; (focus (intro w hSw; (try dsimp only at hSw); go_simp; (try (with_reducible rfl)); done)); try simp only [Act.put, List.setIfInBounds_toArray, List.set_cons_zero, List.set_cons_succ])
      (refine wpL_calm (o := { dst := some 44, op := Go.Op.load 3 (Go.Operand.tmp 43), type := 3, pos := "sha.go:128", after := #[{ on := 7, ground := Go.Ground.data }], guard := none }) (v := ?_) rfl (Or.inl ⟨by rfl, ?_⟩) ?_; rotate_left; (focus (intro w hSw; (try dsimp only at hSw); go_simp; (try (with_reducible rfl)); done)); try simp only [Act.put, List.setIfInBounds_toArray, List.set_cons_zero, List.set_cons_succ])
      refine wpL_loud1 (o := { dst := some 40, op := Go.Op.call { callee := Go.Callee.builtin Go.Builtin.append, args := #[Go.Operand.const (Go.Value.slice none 0 0), Go.Operand.tmp 39], argTypes := #[49, 49] }, type := 49, pos := "sha.go:128", after := #[{ on := 3, ground := Go.Ground.data }], guard := none }) rfl (fun K hK => ?_)
      (rw [if_pos (by rfl)]; refine wp_append_src w3.drew _ _ 49 49 rfl w3.drew.heap.size 5 i0 (.int .u8 0) 1 1 Tryd.underlying49 hi hz0 hz1 hz2 rfl (by decide) (.slice none 0 0) 0 [] rfl (World.ownsRow_nil _ _ _ _) (.slice ra q rc) q (bv R) rfl (src_of Tryd.underlying49 hb3 HQ.out) (by unfold maxLen; omega) (by omega) (Nat.le_refl _) ?_; intro v4 w4 O4 G4; replace O4 := own_nilapp O4; have D4 : Below w3.drew.heap.size w3.drew w4 := D3.grown G4 (Nat.le_refl _) (fun k e => by cases e))
      try go_wp2_with fail
      refine hK.out _ _ ?_ (fun hHeld => ?_)
      · (try dsimp only); exact ⟨(D4.cell (p := ⟨g, 8, none⟩) hgl3).trans c8, (D4.cell (p := ⟨g, 9, none⟩) hgl3).trans c9⟩
      clear hK K
      try simp only [Act.put, List.setIfInBounds_toArray, List.set_cons_zero, List.set_cons_succ]
      refine wpL_loud1 (o := { dst := some 45, op := Go.Op.call { callee := Go.Callee.value (Go.Operand.func 25), args := #[Go.Operand.tmp 44], argTypes := #[3] }, type := 49, pos := "sha.go:128", after := #[{ on := 8, ground := Go.Ground.data }, { on := 4, ground := Go.Ground.chain }], guard := none }) rfl (fun K hK => ?_)
      (go_simp; go_at_call 25; refine (HTL.out _).mono ?_; rintro e w5 ⟨rfl, ht5, b5⟩; have D5 : Below w3.drew.heap.size w3.drew w5 := D4.trans (b5.mono D4.size))
      try go_wp2_with fail
      refine hK.out _ _ ?_ (fun hHeld => ?_)
      · (try dsimp only); exact ⟨(D5.cell (p := ⟨g, 8, none⟩) hgl3).trans c8, (D5.cell (p := ⟨g, 9, none⟩) hgl3).trans c9⟩
      clear hK K
      try simp only [Act.put, List.setIfInBounds_toArray, List.set_cons_zero, List.set_cons_succ]
      refine wpL_loud1 (o := { dst := some 46, op := Go.Op.call { callee := Go.Callee.builtin Go.Builtin.append, args := #[Go.Operand.tmp 40, Go.Operand.tmp 45], argTypes := #[49, 49] }, type := 49, pos := "sha.go:128", after := #[{ on := 4, ground := Go.Ground.data }, { on := 9, ground := Go.Ground.data }, { on := 9, ground := Go.Ground.chain }], guard := none }) rfl (fun K hK => ?_)
      (rw [if_pos (by rfl)]; refine wp_append_src w5 _ _ 49 49 rfl w3.drew.heap.size 5 i0 (.int .u8 0) 1 1 Tryd.underlying49 hi hz0 hz1 hz2 rfl (by decide) v4 q (bv R) rfl (own_below O4 b5) (.slice (some ⟨w4.heap.size, 0, none⟩) (tlen n) (tlen n)) (tlen n) (bv (tailL n)) rfl (src_of Tryd.underlying49 (tail_bytes ht5) htl) (by unfold maxLen; omega) (by omega) (Nat.le_trans D4.size b5.size) ?_; intro v6 w6 O6 G6; have D6 : Below w3.drew.heap.size w3.drew w6 := D5.grown G6 D5.size (fun k e => ((own_below O4 b5).lt k e).1); replace O6 := own_app HQ.out htl O6; rw [HL6.out] at O6; obtain ⟨a6, c6, rfl, h61, h62, h63, h64, h65⟩ := own_slice O6; have hlt6 := O6.lt; have ho6 : ∀ g' o s', a6 = some ⟨g', o, s'⟩ → g' ≠ g3 := fun g' o s' e => (by have := hlt6 g' (h64 g' o s' e); have hs3' : g3 < w3.drew.heap.size := hs3; omega))
      try go_wp2_with fail
      refine hK.out _ _ ?_ (fun hHeld => ?_)
      · (try dsimp only); exact ⟨(D6.cell (p := ⟨g, 8, none⟩) hgl3).trans c8, (D6.cell (p := ⟨g, 9, none⟩) hgl3).trans c9⟩
      clear hK K
      try simp only [Act.put, List.setIfInBounds_toArray, List.set_cons_zero, List.set_cons_succ]
      (refine wpL_calm (o := { dst := some 4, op := Go.Op.assign (Go.Operand.tmp 46), type := 49, pos := "sha.go:128", after := #[{ on := 10, ground := Go.Ground.data }, { on := 10, ground := Go.Ground.chain }, { on := 0, ground := Go.Ground.phase }, { on := 1, ground := Go.Ground.phase }, { on := 2, ground := Go.Ground.phase }, { on := 3, ground := Go.Ground.phase }, { on := 4, ground := Go.Ground.phase }, { on := 5, ground := Go.Ground.phase }, { on := 6, ground := Go.Ground.phase }, { on := 7, ground := Go.Ground.phase }, { on := 8, ground := Go.Ground.phase }, { on := 9, ground := Go.Ground.phase }, { on := 10, ground := Go.Ground.phase }], guard := none }) (v := ?_) rfl (Or.inl ⟨by rfl, ?_⟩) ?_; rotate_left; (focus (intro w hSw; (try dsimp only at hSw); go_simp; (try (with_reducible rfl)); done)); try simp only [Act.put, List.setIfInBounds_toArray, List.set_cons_zero, List.set_cons_succ])
      refine wpL_nil ?_
      refine NoPanic.normal ?_
      clear hHeld c8 c9 hb3 D3 D4 D5 O4 O6 G6 b5 ht5 G4 hlt6 h64 h65
      have hd6 : Below w3.heap.size w3 w6 := ⟨D6.os, D6.tape, D6.output, D6.size, D6.block⟩
      have G6 := G3.below hd6
      have hr6 : w6.heap[w.heap.size]? = some (.cells z32 24 (0, 0)) := (hd6.block _ (Nat.lt_trans hwl2 hs3)).trans hr3
      have B6 := B3.trans (hd6.mono B3.size)
      have W6 : WordsAt w6 g3 0 V := ⟨range_below W3.out.r hd6 hs3, there_below W3.out.t hd6 hs3, Nat.lt_of_lt_of_le hs3 hd6.size⟩
      have HWA := Lib.hid (workAll_any L6 V g3 0 a6 c6 w6 G6.k (by omega) G6.sk W6 h63 ho6 h61 h62)
      rw [HW.out] at HWA
      clear D6 hd6 G3 hr3 B3 W3 W6 h63 ho6 h61 h62
      go_wp2_with fail
      refine HWA.out.mono ?_
      rintro e w7 ⟨⟨a7, c7, rfl, _⟩, W7, g7, _⟩
      have hr7 : w7.heap[w.heap.size]? = some (.cells z32 24 (0, 0)) := (g7.block _ (Array.getElem?_eq_some_iff.1 hr6).1 (fun e => by cases e; omega)).trans hr6
      have B7 := B6.grown g7 B6.size (fun k e => by cases e; omega)
      clear HWA hr6 B6 g7 G6
      obtain ⟨hsz, hone⟩ := dig_ok (sumV t)
      generalize sumV t = V7 at *
      have rV := W7.r
      go_wp2_with (refine wpList_load_mid rfl 29 _ rfl g3 0 rfl (vL V7) _ rV Tryd.underlying29 rfl (by kernel_rfl) ?_)
      refine (HL.out _ _).mono ?_
      rintro e w8 ⟨rfl, b8⟩
      have hr8 : w8.heap[w.heap.size]? = some (.cells z32 24 (0, 0)) := (b8.block _ (Array.getElem?_eq_some_iff.1 hr7).1).trans hr7
      have B8 := B7.trans (b8.mono B7.size)
      rw [HSL.out] at hsz hone
      have HS2 := HSL.out
      clear rV W7 hr7 b8 B7
      rw [HS2]
      generalize hDG : digA (sumL t) = D at *
      have HDG := Lib.hid hDG
      clear hDG
      go_wp2_with (refine wpList_store_row rfl _ _ _ rfl w.heap.size D rfl rfl 24 _ hr8 (by rw [hsz]; kernel_rfl) (by rw [hsz]; rfl) hone ?_)
      refine bodyPost_ret_by (results_cell_row rfl _ _ w.heap.size 24 D (0, 0) _ rfl (setRow_heap _ _ _ D 24 (0, 0) hr8) Tryd.underlying24 rfl (by rw [hsz]; kernel_rfl)) rfl ⟨by rw [HDG.out], ?_⟩
      exact below_setRow B8 (Nat.le_refl _) _
end Go.Proofs.YtndhegdhkoileaaDoor
