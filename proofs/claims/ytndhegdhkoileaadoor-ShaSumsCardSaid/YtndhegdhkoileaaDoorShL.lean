/- Contracts (cellaret): sha.New, Hasher.Add. -/
import Derived.Test.YtndhegdhkoileaaDoorShK
namespace Go.Proofs.YtndhegdhkoileaaDoor
open Go.RowKit Go.Deep
set_option linter.unusedVariables false
set_option linter.unusedSimpArgs false
theorem zero_h : ∀ w, (zeroValue 60).run Tryd.prog w = .ok (.agg #[.int .u32 0, .int .u32 0, .int .u32 0, .int .u32 0, .int .u32 0, .int .u32 0, .int .u32 0, .int .u32 0, .slice none 0 0, .int .i64 0]) w := fun w => by kernel_rfl
theorem Gl.at_ {w w' : World} {base : Nat} (h : Gl w) (hb : Below base w w') (h1 : 0 < base) (h2 : 1 < base) : Gl w' :=
  ⟨fun j v hv => (hb.cell (p := ⟨0, 0 + j, none⟩) h1).trans (h.f j v hv), fun j v hv => (hb.cell (p := ⟨1, 0 + j, none⟩) h2).trans (h.k j v hv), Nat.lt_of_lt_of_le h.sf hb.size, Nat.lt_of_lt_of_le h.sk hb.size⟩
theorem own_slice {w : World} {base n : Nat} {v : Value} {l : List UInt8} (h : w.ownsRow base 5 1 v n (bv l)) : ∃ a c, v = .slice a n c ∧ n ≤ c ∧ c ≤ 9223372036854775807 ∧ BytesAt w a l ∧ (∀ g o s, a = some ⟨g, o, s⟩ → v.ownBlock = some g) ∧ l.length = n := by
  have hl : l.length = n := by have := h.1; simpa [bv] using this
  rcases h.2 with ⟨rfl, rfl⟩ | ⟨g, cap, cur, rfl, hb, hg, hnc, hcm, _⟩
  · exact ⟨none, 0, rfl, Nat.le_refl _, by omega, (fun h0 => absurd h0 (by omega)), (fun g o s e => by cases e), hl⟩
  · refine ⟨some ⟨g, 0, none⟩, cap, rfl, hnc, by unfold maxLen at hcm; omega, fun h0 => ⟨g, 0, rfl, (Array.getElem?_eq_some_iff.1 hg).1, fun j u hu => ?_⟩, fun g' o s e => by cases e; rfl, hl⟩
    have := h.cells (g := g) rfl j u hu
    rw [Nat.zero_add]
    rwa [Addr.add_mid, Nat.zero_add] at this
theorem own_join {w : World} {base : Nat} {v : Value} {R L : List UInt8} {s : ByteArray} (hL : R ++ s.data.toList = L) (h : w.ownsRow base 5 1 v (R.length + s.size) (bv R ++ byteCells s)) : w.ownsRow base 5 1 v L.length (bv L) := by
  subst hL
  rw [List.length_append, ← Lib.size_eq]
  unfold bv at h ⊢
  rw [List.map_append]
  exact h
theorem own_drew {w : World} {base n : Nat} {v : Value} {xs : List Value} (h : w.ownsRow base 5 1 v n xs) : w.drew.ownsRow base 5 1 v n xs := h.kept (row := none) ⟨rfl, rfl, rfl, Nat.le_refl _, fun _ _ _ => rfl⟩ (by cases v.ownBlock <;> simp)
/-- Bytes put behind a slice of one's own. -/
structure Put2 (base g n : Nat) (V : V8) (r : Value) (L : List UInt8) (w w2 : World) (ao : Option Addr) (cp : Nat) : Prop where
  hg : w2.heap[g]? = some (.cells (hcells V r n) 60 (0, 0))
  B : Below base w w2
  sz : base ≤ w2.heap.size
  b : BytesAt w2 ao L
  c : L.length ≤ cp
  m : cp ≤ 9223372036854775807
  ne : ∀ g' o s, ao = some ⟨g', o, s⟩ → g' ≠ g
theorem own_nilapp {w : World} {base q : Nat} {v : Value} {xs : List Value} (h : w.ownsRow base 5 1 v (0 + q) ([] ++ xs)) : w.ownsRow base 5 1 v q xs := by
  rw [Nat.zero_add, List.nil_append] at h; exact h
theorem put2 {base g n : Nat} {V : V8} {r v2 : Value} {R L : List UInt8} {s : ByteArray} {w w1 w2 : World} (hL : R ++ s.data.toList = L) (hg1 : w1.heap[g]? = some (.cells (hcells V r n) 60 (0, 0))) (ho1 : w1.ownsRow base 5 1 r R.length (bv R)) (B1 : Below base w w1) (hs : base ≤ w1.heap.size)
    (O2 : w2.ownsRow base 5 1 v2 (R.length + s.size) (bv R ++ byteCells s)) (G2 : w1.drew.grownBy w2 r.ownBlock) : ∃ ao cp, v2 = .slice ao L.length cp ∧ Put2 base g n V r L w w2 ao cp := by
  have O := own_join hL O2
  have hrne := own_ne_g hg1 ho1
  have hg2 := (G2.block g (Array.getElem?_eq_some_iff.1 hg1).1 (fun e => hrne e.symm)).trans hg1
  have hne := own_ne_g hg2 O
  obtain ⟨ao, cp, rfl, h1, h2, h3, h4, h5⟩ := own_slice O
  exact ⟨ao, cp, rfl, hg2, B1.drew.grown G2 hs (fun k e => ((own_drew ho1).lt k e).1), Nat.le_trans hs G2.size, h3, h1, h2, fun g' o s e e2 => hne (by rw [h4 g' o s e, e2])⟩
theorem src_of {P : Program} {w : World} {a : Option Addr} {n c : Nat} {l : List UInt8} {tx e' : TypeId} (hk : P.underlying tx = some (.slice e')) (h : BytesAt w a l) (hn : l.length = n) : Src P 1 tx (.slice a n c) n (bv l) w := by
  by_cases h0 : n = 0
  · subst h0
    have : l = [] := List.eq_nil_of_length_eq_zero hn
    subst this
    cases a with
    | none => exact Src.ofNil w hk c
    | some a => exact Src.ofSlice w hk a 0 c [] rfl (fun j u hu => by simp at hu) (fun u hu => by cases hu)
  · obtain ⟨g, o, rfl, _, hr⟩ := h (by omega)
    refine Src.ofSlice w hk _ n c (bv l) (by simp [bv, hn]) (fun j u hu => ?_) (fun u hu => ?_)
    · rw [Addr.add_mid]; exact hr j u hu
    · obtain ⟨_, _, rfl⟩ := List.mem_map.1 hu; rfl
set_option maxRecDepth 100000 in
set_option maxHeartbeats 1000000 in
theorem new_any (base : Nat) (w : World) (hG : Gl w) (hb : base ≤ w.heap.size) : Calls Tryd.prog 16 #[] w fun e w' => e = .returned (.pointer (some ⟨w.heap.size, 0, none⟩)) ∧ HashAt base w' w.heap.size [] ∧ Below w.heap.size w w' := by
  have hz := zero_h
  have k1 := hG.f
  go_enter Tryd.func16, Tryd.ntmps16
  go_wp2_with (refine wpList_load_mid rfl 29 _ rfl 0 0 rfl (vL v0) _ k1 Tryd.underlying29 rfl (by kernel_rfl) ?_)
  go_ret
  exact ⟨rfl, ⟨hb, .slice none 0 0, heap_alloc_new _ _, World.ownsRow_nil _ _ _ _⟩, (Below.refl _ _).alloc (Nat.le_refl _) _⟩
attribute [local irreducible] work blk klist kL layV padL wv0 rst
set_option maxRecDepth 100000 in
set_option maxHeartbeats 2000000 in
theorem add_any (base g : Nat) (t : List UInt8) (s : ByteArray) (w : World) (hG : Gl w) (hbf : 0 < base) (hbk : 1 < base) (hbs : base ≤ w.heap.size) (hH : HashAt base w g t) (hn : t.length + s.size ≤ 140737488350000) :
    Calls Tryd.prog 17 #[.pointer (some ⟨g, 0, none⟩), .string s] w fun e w' => e = .returned (.pointer (some ⟨g, 0, none⟩)) ∧ HashAt base w' g (t ++ s.data.toList) ∧ Below base w w' := by
  obtain ⟨i0, hi, hz0, hz1, hz2⟩ := info_parts' info_u8'
  obtain ⟨hbg, r, hg, ho⟩ := hH
  have hsl := Lib.size_eq s
  have hrl := rst_len t
  have HA := Lib.hid (wv0_app t s.data.toList)
  have HR := Lib.hid (rst_app t s.data.toList)
  have hlen : (t ++ s.data.toList).length = t.length + s.size := by rw [List.length_append, hsl]
  have HSL := Lib.hid hsl
  clear hsl
  generalize ht' : t ++ s.data.toList = t' at HA HR hlen ⊢
  clear ht'
  generalize rst t = R at *
  generalize wv0 t = V0 at *
  generalize t.length = n at *
  obtain ⟨L, hL⟩ : ∃ L, R ++ s.data.toList = L := ⟨_, rfl⟩
  rw [hL] at HA HR
  have HL := Lib.hid hL
  clear hL
  have c9 : w.cell? ⟨g, 9, none⟩ = some (.int .i64 (n : Int)) := cell_of_row w g 9 _ _ _ hg
  have f9 : w.frozen? ⟨g, 9, none⟩ = false := frozen_of_row w g _ _ _ hg
  have hov : (n : Int) + (s.size : Int) ≤ 140737488350000 := by omega
  have HG0 := Lib.hid hg
  have HO0 := Lib.hid ho
  clear hg ho
  go_enter Tryd.func17, Tryd.ntmps17
  go_wp2_with fail
  have hg1 : (w.setCell ⟨g, 9, none⟩ (.int .i64 ((n : Int) + (s.size : Int)))).heap[g]? = some (.cells (hcells V0 r (n + s.size)) 60 (0, 0)) := by
    have := heap_setCell_same w g 9 _ _ (.int .i64 ((n : Int) + (s.size : Int))) HG0.out
    rw [this]; rfl
  have ho1 := own_set (j := 9) (u := .int .i64 ((n : Int) + (s.size : Int))) HG0.out HO0.out
  have B1 : Below base w (w.setCell ⟨g, 9, none⟩ (.int .i64 ((n : Int) + (s.size : Int)))) := (Below.refl _ _).setCell (p := ⟨g, 9, none⟩) hbg _
  clear c9 f9 HG0 HO0
  generalize w.setCell ⟨g, 9, none⟩ (.int .i64 ((n : Int) + (s.size : Int))) = w1 at *
  have G1 := hG.at_ B1 hbf hbk
  have hs1 : base ≤ w1.heap.size := Nat.le_trans hbs B1.size
  have c8 : w1.drew.cell? ⟨g, 8, none⟩ = some r := cell_of_row w1 g 8 _ _ _ hg1
  have ho1d := own_drew ho1
  have hkg : 1 ≠ g := by omega
  refine wp_region_lin (S := (fun w' => w'.cell? ⟨g, 8, none⟩ = some r)) [(0, true), (1, true), (2, true), (3, true), (4, true), (5, true), (6, true), (7, true), (8, false), (9, false), (10, true)] (by kernel_rfl) (by kernel_rfl) rfl (by kernel_rfl) ?_ (fun hHeld => ?_)
  · (try dsimp only); exact c8
  (refine wpL_calm (o := { dst := some 17, op := Go.Op.move (Go.Operand.tmp 0), type := 38, pos := "sha.go:114", after := #[], guard := none }) (v := ?_) rfl (Or.inl ⟨by rfl, ?_⟩) ?_; rotate_left; (focus (intro w hSw; (try dsimp only at hSw); go_simp; (try (with_reducible rfl)); done)); try simp only [Act.put, List.setIfInBounds_toArray, List.set_cons_zero, List.set_cons_succ])
  (refine wpL_calm (o := { dst := some 18, op := Go.Op.nilCheck (Go.Operand.tmp 17), type := 0, pos := "sha.go:114", after := #[{ on := 0, ground := Go.Ground.data }], guard := none }) (v := ?_) rfl (Or.inl ⟨by rfl, ?_⟩) ?_; rotate_left; (focus (intro w hSw; (try dsimp only at hSw); go_simp; (try (with_reducible rfl)); done)); try simp only [Act.put, List.setIfInBounds_toArray, List.set_cons_zero, List.set_cons_succ])
  (refine wpL_calm (o := { dst := some 19, op := Go.Op.fieldAddr 60 (Go.Operand.tmp 18) 0, type := 0, pos := "sha.go:114", after := #[{ on := 1, ground := Go.Ground.data }], guard := none }) (v := ?_) rfl (Or.inl ⟨by rfl, ?_⟩) ?_; rotate_left; (focus (intro w hSw; (try dsimp only at hSw); go_simp; (try (with_reducible rfl)); done)); try simp only [Act.put, List.setIfInBounds_toArray, List.set_cons_zero, List.set_cons_succ])
  (refine wpL_calm (o := { dst := some 20, op := Go.Op.move (Go.Operand.tmp 0), type := 38, pos := "sha.go:114", after := #[], guard := none }) (v := ?_) rfl (Or.inl ⟨by rfl, ?_⟩) ?_; rotate_left; (focus (intro w hSw; (try dsimp only at hSw); go_simp; (try (with_reducible rfl)); done)); try simp only [Act.put, List.setIfInBounds_toArray, List.set_cons_zero, List.set_cons_succ])
  (refine wpL_calm (o := { dst := some 21, op := Go.Op.nilCheck (Go.Operand.tmp 20), type := 0, pos := "sha.go:114", after := #[{ on := 3, ground := Go.Ground.data }], guard := none }) (v := ?_) rfl (Or.inl ⟨by rfl, ?_⟩) ?_; rotate_left; (focus (intro w hSw; (try dsimp only at hSw); go_simp; (try (with_reducible rfl)); done)); try simp only [Act.put, List.setIfInBounds_toArray, List.set_cons_zero, List.set_cons_succ])
  (refine wpL_calm (o := { dst := some 22, op := Go.Op.fieldAddr 60 (Go.Operand.tmp 21) 1, type := 0, pos := "sha.go:114", after := #[{ on := 4, ground := Go.Ground.data }], guard := none }) (v := ?_) rfl (Or.inl ⟨by rfl, ?_⟩) ?_; rotate_left; (focus (intro w hSw; (try dsimp only at hSw); go_simp; (try (with_reducible rfl)); done)); try simp only [Act.put, List.setIfInBounds_toArray, List.set_cons_zero, List.set_cons_succ])
  (refine wpL_calm (o := { dst := some 23, op := Go.Op.load 49 (Go.Operand.tmp 22), type := 49, pos := "sha.go:114", after := #[{ on := 5, ground := Go.Ground.data }], guard := none }) (v := ?_) rfl (Or.inl ⟨by rfl, ?_⟩) ?_; rotate_left; (focus (intro w hSw; (try dsimp only at hSw); go_simp; (try (with_reducible rfl)); done)); try simp only [Act.put, List.setIfInBounds_toArray, List.set_cons_zero, List.set_cons_succ])
  (refine wpL_calm (o := { dst := some 24, op := Go.Op.move (Go.Operand.tmp 1), type := 9, pos := "sha.go:114", after := #[], guard := none }) (v := ?_) rfl (Or.inl ⟨by rfl, ?_⟩) ?_; rotate_left; (focus (intro w hSw; (try dsimp only at hSw); go_simp; (try (with_reducible rfl)); done)); try simp only [Act.put, List.setIfInBounds_toArray, List.set_cons_zero, List.set_cons_succ])
  refine wpL_loud1 (o := { dst := some 25, op := Go.Op.call { callee := Go.Callee.builtin Go.Builtin.append, args := #[Go.Operand.tmp 23, Go.Operand.tmp 24], argTypes := #[49, 9] }, type := 49, pos := "sha.go:114", after := #[{ on := 6, ground := Go.Ground.data }, { on := 7, ground := Go.Ground.data }], guard := none }) rfl (fun K hK => ?_)
  (rw [if_pos (by rfl)]; refine wp_append_src w1.drew _ _ 49 9 rfl base 5 i0 (.int .u8 0) 1 1 Tryd.underlying49 hi hz0 hz1 hz2 rfl (by decide) r R.length (bv R) rfl ho1d (.string s) s.size (byteCells s) rfl (Src.ofString _ Tryd.underlying9 s) (by unfold maxLen; omega) (by omega) hs1 ?_; intro v2 w2 O2 G2; obtain ⟨ao, cp, rfl, P2⟩ := put2 HL.out hg1 ho1 B1 hs1 O2 G2; have hg2 := P2.hg)
  try go_wp2_with fail
  refine hK.out _ _ ?_ (fun hHeld => ?_)
  · (try dsimp only); exact cell_of_row w2 g 8 _ _ _ hg2
  clear hK K
  try simp only [Act.put, List.setIfInBounds_toArray, List.set_cons_zero, List.set_cons_succ]
  refine wpL_loud1 (o := { dst := some 26, op := Go.Op.call { callee := Go.Callee.value (Go.Operand.func 23), args := #[Go.Operand.tmp 19, Go.Operand.tmp 25], argTypes := #[51, 49] }, type := 49, pos := "sha.go:114", after := #[{ on := 2, ground := Go.Ground.data }, { on := 8, ground := Go.Ground.data }, { on := 8, ground := Go.Ground.chain }], guard := none }) rfl (fun K hK => ?_)
  (go_simp; go_at_call 23; refine (workAll_any L V0 g 0 ao cp w2 (hG.at_ P2.B hbf hbk).k hkg (hG.at_ P2.B hbf hbk).sk (words_h hg2) P2.b P2.ne P2.c P2.m).mono ?_; rintro e w3 ⟨⟨a3, c3, rfl, hc3, hc4, hb3, hbl3⟩, W3, g3, k3⟩; have hg3 := h_after hg2 k3 W3)
  try go_wp2_with fail
  refine hK.out _ _ ?_ (fun hHeld => ?_)
  · (try dsimp only); exact cell_of_row w3 g 8 _ _ _ hg3
  clear hK K
  try simp only [Act.put, List.setIfInBounds_toArray, List.set_cons_zero, List.set_cons_succ]
  (refine wpL_calm (o := { dst := some 5, op := Go.Op.assign (Go.Operand.tmp 26), type := 49, pos := "sha.go:114", after := #[{ on := 9, ground := Go.Ground.data }, { on := 9, ground := Go.Ground.chain }, { on := 0, ground := Go.Ground.phase }, { on := 1, ground := Go.Ground.phase }, { on := 2, ground := Go.Ground.phase }, { on := 3, ground := Go.Ground.phase }, { on := 4, ground := Go.Ground.phase }, { on := 5, ground := Go.Ground.phase }, { on := 6, ground := Go.Ground.phase }, { on := 7, ground := Go.Ground.phase }, { on := 8, ground := Go.Ground.phase }, { on := 9, ground := Go.Ground.phase }], guard := none }) (v := ?_) rfl (Or.inl ⟨by rfl, ?_⟩) ?_; rotate_left; (focus (intro w hSw; (try dsimp only at hSw); go_simp; (try (with_reducible rfl)); done)); try simp only [Act.put, List.setIfInBounds_toArray, List.set_cons_zero, List.set_cons_succ])
  refine wpL_nil ?_
  refine NoPanic.normal ?_
  have B3 : Below base w w3 := P2.B.grown g3 P2.sz (fun k e => by cases e; exact hbg)
  have hs3 : base ≤ w3.heap.size := Nat.le_trans P2.sz g3.size
  rw [← HA.out] at hg3
  rw [← HR.out] at hb3
  have hlr : (rst t').length = L.length % 64 := by rw [HR.out, List.length_drop]; omega
  clear hHeld c8 ho1d hkg G1 hg1 ho1 B1 hs1 P2 G2 O2 hg2 hbl3 W3 g3 k3 HA HR HL hc3 hc4
  rw [← hlen] at hg3
  generalize hR' : rst t' = R' at *
  generalize hV' : wv0 t' = V' at *
  generalize hN' : t'.length = n' at *
  have HRR := Lib.hid hR'
  have HVV := Lib.hid hV'
  have HNN := Lib.hid hN'
  clear hR' hV' hN'
  have hq : L.length % 64 ≤ 63 := by omega
  generalize L.length % 64 = q at *
  go_wp2_with (at_builtin; refine wpList_append_src w3 rfl _ _ 49 49 rfl base 5 i0 (.int .u8 0) 1 1 Tryd.underlying49 hi hz0 hz1 hz2 rfl (by decide) (.slice none 0 0) 0 [] rfl (World.ownsRow_nil _ _ _ _) (.slice a3 q c3) q (bv R') rfl (src_of Tryd.underlying49 hb3 hlr) (by unfold maxLen; omega) (by omega) hs3 ?_; intro v4 w4 O4 G4; replace O4 := own_nilapp O4; have hg4 : w4.heap[g]? = _ := (G4.block g (Array.getElem?_eq_some_iff.1 hg3).1 (fun e => by cases e)).trans hg3; have c8 : w4.cell? ⟨g, 8, none⟩ = some r := cell_of_row w4 g 8 _ _ _ hg4; have f8 := frozen_of_row w4 g 8 _ _ hg4; have O4h := Lib.hid O4; have hg4h := Lib.hid hg4; obtain ⟨a4, c4, rfl, _⟩ := own_slice O4; clear O4 hg4)
  have hg5 := heap_setCell_same w4 g 8 _ _ (.slice a4 q c4) hg4h.out
  have O5 := own_set (j := 8) (u := .slice a4 q c4) hg4h.out O4h.out
  have B5 : Below base w (w4.setCell ⟨g, 8, none⟩ (.slice a4 q c4)) := (B3.grown G4 hs3 (fun k e => by cases e)).setCell (p := ⟨g, 8, none⟩) hbg _
  go_ret
  refine ⟨rfl, ⟨hbg, .slice a4 q c4, ?_, ?_⟩, B5⟩
  · rw [HVV.out, HNN.out]; exact hg5
  · rw [HRR.out, hlr]; exact O5
end Go.Proofs.YtndhegdhkoileaaDoor
