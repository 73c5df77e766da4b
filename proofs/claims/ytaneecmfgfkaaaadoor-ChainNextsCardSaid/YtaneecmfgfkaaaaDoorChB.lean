/- Contracts (cellaret): the closure that goes from anchor to anchor. -/
import Derived.Test.YtaneecmfgfkaaaaDoorChA
namespace Go.Proofs.YtaneecmfgfkaaaaDoor
open Go.RowKit Go.Deep Go.Maps
set_option linter.unusedVariables false
set_option linter.unusedSimpArgs false
def nxB : ByteArray := ⟨#[110, 101, 120, 116]⟩
theorem nxB_size : nxB.size = 4 := rfl
/-- All blocks as one text. -/
def catL (L : List ByteArray) : List UInt8 := Lib.join (L.map (·.data.toList)) []
theorem catL_flat (L : List ByteArray) : catL L = (L.map (·.data.toList)).flatten := by
  unfold catL Lib.join
  induction L with
  | nil => rfl
  | cons b L ih =>
    cases L with
    | nil => simp [List.intercalate]
    | cons b2 L =>
      have e : ([] : List UInt8).intercalate (((b :: b2 :: L).map (·.data.toList))) = b.data.toList ++ ([] : List UInt8).intercalate ((b2 :: L).map (·.data.toList)) := by simp [List.intercalate]
      rw [e, ih]
      simp
theorem catL_len (L : List ByteArray) (h : okB L = true) : (catL L).length ≤ 5120 := by
  rw [catL_flat]
  obtain ⟨⟨_, h1⟩, h2⟩ := okB_inv L h
  have : ∀ M : List ByteArray, (∀ b ∈ M, b.size = 64) → ((M.map (·.data.toList)).flatten).length = 64 * M.length := by
    intro M
    induction M with
    | nil => intro _; rfl
    | cons b M ih =>
      intro hb
      have h3 := ih (fun x hx => hb x (by simp [hx]))
      have h4 := hb b (by simp)
      rw [Lib.size_eq] at h4
      simp only [List.map_cons, List.flatten_cons, List.length_append, List.length_cons, h3, h4]
      omega
  rw [this L h2]
  omega
/-- The text that the next anchor is the sum of. -/
def nextT (a : List UInt8) (L : List ByteArray) : List UInt8 := [110, 101, 120, 116] ++ a ++ catL L
def nextL (a : List UInt8) (L : List ByteArray) : List UInt8 := sumL (nextT a L)
theorem nextT_eq (a : List UInt8) (L : List ByteArray) : nxB ++ sB a ++ sB (catL L) = sB (nextT a L) := by
  show sB [110, 101, 120, 116] ++ sB a ++ sB (catL L) = _
  rw [sB_app, sB_app]
  rfl
theorem nextL_len (a : List UInt8) (L : List ByteArray) : (nextL a L).length = 32 := sumL_len _
/-- Like KeptX, but for one block. -/
structure KeptA (A : Nat) (w w' : World) (X X' : Option OrS) : Prop where
  keep : ∀ k o, w.heap[k]? = some o → FreeX X k → k ≠ A → w'.heap[k]? = some o
  free : ∀ k, k < w.heap.size → FreeX X k → FreeX X' k
  size : w.heap.size ≤ w'.heap.size
theorem KeptA.trans {A : Nat} {w w1 w2 : World} {X X1 X2 : Option OrS} (h : KeptA A w w1 X X1) (h' : KeptA A w1 w2 X1 X2) : KeptA A w w2 X X2 :=
  ⟨fun k o hk hf hne => h'.keep k o (h.keep k o hk hf hne) (h.free k (Array.getElem?_eq_some_iff.1 hk).1 hf) hne, fun k hk hf => h'.free k (Nat.lt_of_lt_of_le hk h.size) (h.free k hk hf), Nat.le_trans h.size h'.size⟩
theorem KeptX.toA {w w' : World} {X X' : Option OrS} (h : KeptX w w' X X') (A : Nat) : KeptA A w w' X X' := ⟨fun k o hk hf _ => h.keep k o hk hf, h.free, h.size⟩
theorem KeptA.rowA {A : Nat} {w w' : World} {X X' : Option OrS} (h : KeptA A w w' X X') (Y : Array Value) : KeptA A w (w'.setRow A Y) X X' :=
  ⟨fun k o hk hf hne => (setRow_other w' A k Y hne).trans (h.keep k o hk hf hne), h.free, by rw [size_setRow]; exact h.size⟩
theorem KeptA.row {A : Nat} {w w' : World} {X X' : Option OrS} (h : KeptA A w w' X X') (q : Nat) (Y : Array Value) (hq : w.heap.size ≤ q) : KeptA A w (w'.setRow q Y) X X' :=
  ⟨fun k o hk hf hne => (setRow_other w' q k Y (fun e => by have := (Array.getElem?_eq_some_iff.1 hk).1; omega)).trans (h.keep k o hk hf hne), h.free, by rw [size_setRow]; exact h.size⟩
theorem KeptA.cell {A : Nat} {w w' : World} {X X' : Option OrS} (h : KeptA A w w' X X') {p : Addr} {v : Value} (hp : w.cell? p = some v) (hf : FreeX X p.block) (hne : p.block ≠ A) : w'.cell? p = some v := by
  have hlt := block_lt_of_cell hp
  have h1 : w.heap[p.block]? = some w.heap[p.block] := Array.getElem?_eq_getElem hlt
  have h2 := h.keep _ _ h1 hf hne
  exact (World.cell?_of_block (w := w) (h2.trans h1.symm)).trans hp
/-- Texts in a block that is neither the oracle's nor A. -/
def TxtN (A : Nat) (w : World) (X : Option OrS) (a : Option Addr) (L : List ByteArray) : Prop := 0 < L.length → ∃ g o, a = some ⟨g, o, none⟩ ∧ g < w.heap.size ∧ FreeX X g ∧ g ≠ A ∧ ∀ i (h : i < L.length), w.cell? ⟨g, o + i, none⟩ = some (.string L[i])
theorem TxtN.kept {A : Nat} {w w' : World} {X X' : Option OrS} {a : Option Addr} {L : List ByteArray} (h : TxtN A w X a L) (hk : KeptA A w w' X X') : TxtN A w' X' a L := fun h0 => by
  obtain ⟨g, o, h1, h2, h3, h5, h4⟩ := h h0
  exact ⟨g, o, h1, Nat.lt_of_lt_of_le h2 hk.size, hk.free g h2 h3, h5, fun i hi => hk.cell (p := ⟨g, o + i, none⟩) (h4 i hi) h3 h5⟩
attribute [local irreducible] digA sumL z32 sB nxB catL
set_option maxRecDepth 100000 in
set_option maxHeartbeats 4000000 in
theorem gath_any (base : Nat) (o : Option Addr) (X : Option OrS) (a : List UInt8) (L : List ByteArray) (la : Option Addr) (n c p A : Nat) (w : World) (hG : Gl w) (hbf : 0 < base) (hbk : 1 < base) (hX : OrX base w o X) (hF : FewX X 1000000) (ha : a.length = 32)
    (hn : L.length = n) (hc : n ≤ c) (hok : okB L = true) (hT : TxtN A w X la L) (hA : w.heap[A]? = some (.cells (digA a) 34 (0, 0))) (hAf : FreeX X A) (hAb : base ≤ A) (hp : w.cell? ⟨p, 0, none⟩ = some (.pointer o)) (hpf : FreeX X p) :
    Calls Tryd.prog 51 #[.slice la n c, .pointer (some ⟨p, 0, none⟩), .pointer (some ⟨A, 0, none⟩)] w fun e w' => ∃ X', e = .returned (.agg (digA (nextL a L))) ∧ w'.heap[A]? = some (.cells (digA (nextL a L)) 34 (0, 0)) ∧ OrX base w' o X' ∧ SumX X X' (nextT a L) ∧ Below base w w' ∧ KeptA A w w' X X' := by
  have hz := zero_dig
  obtain ⟨⟨hl0, hl80⟩, hl64⟩ := okB_inv L hok
  have hcl := catL_len L hok
  obtain ⟨g, oo, rfl, hgl, hgf, hgA, hcells⟩ := hT hl0
  have hb0 := hX.base
  obtain ⟨w1, HW1, hr1, B1⟩ : ∃ w1, Hid (w.alloc (.cells z32 34) = w1) ∧ w1.heap[w.heap.size]? = some (.cells z32 34 (0, 0)) ∧ Below w.heap.size w w1 := ⟨_, Lib.hid rfl, heap_alloc_new _ _, (Below.refl _ _).alloc (Nat.le_refl _) _⟩
  have hAl := (Array.getElem?_eq_some_iff.1 hA).1
  have hpl := block_lt_of_cell hp
  have hA1 := (B1.block A hAl).trans hA
  have hp1 := (B1.cell (p := ⟨p, 0, none⟩) hpl).trans hp
  have HJ : Hid (∀ w2 : World, Below w1.heap.size w1 w2 → Calls Tryd.prog 52 #[.slice (some ⟨g, oo, none⟩) n c, .string ⟨#[]⟩] w2 fun e w' => e = .returned (.string (sB (catL L))) ∧ Below w2.heap.size w2 w') := Lib.hid (fun w2 b2 => by
    have hg1 : g < w1.heap.size := Nat.lt_of_lt_of_le hgl B1.size
    have := Tryd.strings_Join g oo c L ⟨#[]⟩ w2 (fun j x hj => by
      obtain ⟨hj1, rfl⟩ := List.getElem?_eq_some_iff.1 hj
      exact (b2.cell (p := ⟨g, oo + j, none⟩) hg1).trans ((B1.cell (p := ⟨g, oo + j, none⟩) hgl).trans (hcells j hj1))) (Nat.lt_of_lt_of_le hg1 b2.size) (by omega) (by omega) (by with_unfolding_all (show (catL L).length ≤ 140737488355328); omega)
    rw [hn] at this
    with_unfolding_all exact this)
  have hcs : (sB (catL L)).size ≤ 5120 := by rw [sB_size]; exact hcl
  have has : (sB a).size = 32 := by rw [sB_size]; exact ha
  have hadd1 : ∀ V : World, (Op.stringOp .add (⟨#[110, 101, 120, 116]⟩ : ByteArray) (sB a)).run Tryd.prog V = .ok (.string (nxB ++ sB a)) V := fun V => by with_unfolding_all exact run_string_add_sum V nxB (sB a) (by rw [nxB_size, has]; omega)
  have hadd2 : ∀ V : World, (Op.stringOp .add (nxB ++ sB a) (sB (catL L))).run Tryd.prog V = .ok (.string (sB (nextT a L))) V := fun V => by rw [← nextT_eq]; exact run_string_add_sum V _ _ (by rw [ByteArray.size_append, nxB_size, has]; omega)
  have hts : (sB (nextT a L)).size ≤ 10000 := by rw [← nextT_eq, ByteArray.size_append, ByteArray.size_append, nxB_size, has]; omega
  have HS := Lib.hid (fun w hw hx => sum_x base o X (sB (nextT a L)) w hw hbf hbk hx hF (by omega))
  rw [sB_list] at HS
  have HCV : Hid (∀ w2 : World, w2.heap[A]? = some (.cells (digA a) 34 (0, 0)) → (convert 65 9 (.slice (some ⟨A, 0, none⟩) 32 32)).run Tryd.prog w2 = .ok (.string (sB a)) w2) := Lib.hid (fun w2 h => conv_dig h ha)
  have hdz : (digA (nextL a L)).size = 32 := by with_unfolding_all (rw [digA_size, nextL_len])
  have hone : (digA (nextL a L)).all (·.oneCell') = true := by with_unfolding_all exact digA_one _
  have HDN : Hid (sumL (nextT a L) = nextL a L) := Lib.hid rfl
  rw [HDN.out] at HS
  have hX1 := hX.below B1
  have G1 := hG.below B1
  have hRb : FreeX X w.heap.size := hX.free w.heap.size (Nat.le_refl _)
  have HADD1 := Lib.hid hadd1
  have HADD2 := Lib.hid hadd2
  have HXF := Lib.hid hF
  have hdA : (digA a).size = 32 := by with_unfolding_all (rw [digA_size, ha])
  have HX1 : Hid (OrX base w1 o X) := Lib.hid hX1
  have HK1 : Hid (KeptX w w1 X X) := Lib.hid (KeptX.below B1)
  clear hcells hadd1 hadd2 hcl hcs has hts hF hl64 hn hok ha hX hG hX1 HDN
  generalize digA (nextL a L) = DN at *
  generalize digA a = DA at *
  generalize sB a = aB at *
  generalize sB (catL L) = cB at *
  generalize sB (nextT a L) = tB at *
  generalize nextT a L = tl at *
  generalize nxB = nB at *
  have hRA : A ≠ w.heap.size := by omega
  have hs1 := (Array.getElem?_eq_some_iff.1 hr1).1
  go_enter Tryd.func51, Tryd.ntmps51
  go_upto_region 1 with fail
  rw [HW1.out]
  clear HW1
  have hadd1 := HADD1.out
  have hadd2 := HADD2.out
  refine wp_region_lin (S := (fun w' => w'.cell? ⟨p, 0, none⟩ = some (.pointer o) ∧ w'.heap[A]? = some (.cells DA 34 (0, 0)))) [(0, true), (1, true), (2, true), (3, true), (4, true), (5, false), (6, true), (7, false), (8, false)] (by kernel_rfl) (by kernel_rfl) rfl (by kernel_rfl) ?_ (fun hHeld => ?_)
  · (try dsimp only); exact ⟨hp1, hA1⟩
  (refine wpL_calm (o := { dst := some 5, op := Go.Op.load 23 (Go.Operand.tmp 1), type := 23, pos := "chain.go:45", after := #[], guard := none }) (v := ?_) rfl (Or.inl ⟨by rfl, ?_⟩) ?_; rotate_left; (focus (intro w hSw; (try dsimp only at hSw); go_simp; (try (with_reducible rfl)); done)); try simp only [Act.put, List.setIfInBounds_toArray, List.set_cons_zero, List.set_cons_succ])
  (refine wpL_calm (o := { dst := some 6, op := Go.Op.slice 34 (Go.Operand.tmp 2) none none none, type := 65, pos := "chain.go:45", after := #[], guard := none }) (v := ?_) rfl (Or.inl ⟨by rfl, ?_⟩) ?_; rotate_left; (focus (intro w hSw; (try dsimp only at hSw); go_simp; (try (with_reducible rfl)); done)); try simp only [Act.put, List.setIfInBounds_toArray, List.set_cons_zero, List.set_cons_succ])
  refine wpL_calm (o := { dst := some 7, op := Go.Op.convert 65 9 (Go.Operand.tmp 6), type := 9, pos := "chain.go:45", after := #[{ on := 1, ground := Go.Ground.data }], guard := none }) (v := .string aB) rfl (Or.inl ⟨by rfl, ?_⟩) ?_; (focus (intro w hSw; have hl := HCV.out _ hSw.2; go_simp))
  try simp only [Act.put, List.setIfInBounds_toArray, List.set_cons_zero, List.set_cons_succ]
  (refine wpL_calm (o := { dst := some 8, op := Go.Op.binOp Go.BinOp.add 9 (Go.Operand.const (Go.Value.string { data := #[110, 101, 120, 116] })) (Go.Operand.tmp 7) 9, type := 9, pos := "chain.go:45", after := #[{ on := 2, ground := Go.Ground.data }], guard := none }) (v := ?_) rfl (Or.inl ⟨by rfl, ?_⟩) ?_; rotate_left; (focus (intro w hSw; (try dsimp only at hSw); go_simp; (try (with_reducible rfl)); done)); try simp only [Act.put, List.setIfInBounds_toArray, List.set_cons_zero, List.set_cons_succ])
  (refine wpL_calm (o := { dst := some 9, op := Go.Op.move (Go.Operand.tmp 0), type := 25, pos := "chain.go:45", after := #[], guard := none }) (v := ?_) rfl (Or.inl ⟨by rfl, ?_⟩) ?_; rotate_left; (focus (intro w hSw; (try dsimp only at hSw); go_simp; (try (with_reducible rfl)); done)); try simp only [Act.put, List.setIfInBounds_toArray, List.set_cons_zero, List.set_cons_succ])
  refine wpL_loud1 (o := { dst := some 10, op := Go.Op.call { callee := Go.Callee.value (Go.Operand.func 52), args := #[Go.Operand.tmp 9, Go.Operand.const (Go.Value.string { data := #[] })], argTypes := #[25, 9] }, type := 9, pos := "chain.go:45", after := #[{ on := 4, ground := Go.Ground.data }], guard := none }) rfl (fun K hK => ?_)
  (go_simp; go_at_call 52; refine (HJ.out _ (Below.refl _ _).drew).mono ?_; rintro e w2 ⟨rfl, b2⟩; have hA2 := (b2.block (w := w1.drew) A (Nat.lt_of_lt_of_le hAl B1.size)).trans hA1; have hp2 := (b2.cell (w := w1.drew) (p := ⟨p, 0, none⟩) (Nat.lt_of_lt_of_le hpl B1.size)).trans hp1; have b12 : Below w1.heap.size w1 w2 := (Below.refl _ _).drew.trans b2)
  try go_wp2_with fail
  refine hK.out _ _ ?_ (fun hHeld => ?_)
  · (try dsimp only); exact ⟨hp2, hA2⟩
  clear hK K
  try simp only [Act.put, List.setIfInBounds_toArray, List.set_cons_zero, List.set_cons_succ]
  (refine wpL_calm (o := { dst := some 11, op := Go.Op.binOp Go.BinOp.add 9 (Go.Operand.tmp 8) (Go.Operand.tmp 10) 9, type := 9, pos := "chain.go:45", after := #[{ on := 3, ground := Go.Ground.data }, { on := 5, ground := Go.Ground.data }], guard := none }) (v := ?_) rfl (Or.inl ⟨by rfl, ?_⟩) ?_; rotate_left; (focus (intro w hSw; (try dsimp only at hSw); go_simp; (try (with_reducible rfl)); done)); try simp only [Act.put, List.setIfInBounds_toArray, List.set_cons_zero, List.set_cons_succ])
  refine wpL_loud0 (o := { dst := some 12, op := Go.Op.call { callee := Go.Callee.value (Go.Operand.func 13), args := #[Go.Operand.tmp 5, Go.Operand.tmp 11], argTypes := #[23, 9] }, type := 34, pos := "chain.go:45", after := #[{ on := 0, ground := Go.Ground.data }, { on := 6, ground := Go.Ground.data }, { on := 5, ground := Go.Ground.chain }], guard := none }) rfl (by kernel_rfl) (fun K hK => ?_)
  (go_simp; go_at_call 13; refine (HS.out w2 (G1.below b12) (HX1.out.below b12)).mono ?_; rintro e w3 ⟨X', rfl, X3, S3, b3, K3⟩; have K12 := HK1.out.trans (KeptX.below (X := X) b12); have K13 := K12.trans K3; have hA3 := K3.keep _ _ hA2 hAf; have hr3 := K3.keep _ _ ((b12.block _ hs1).trans hr1) hRb; have hf3 := K13.free A hAl hAf; have hfR := K3.free w.heap.size (Nat.lt_of_lt_of_le hs1 b12.size) hRb; have B3 := ((B1.mono hb0).trans (b12.mono (Nat.le_trans hb0 B1.size))).trans b3; have HX3 := Lib.hid X3; have HS3 := Lib.hid S3; have HK3 := Lib.hid K13; clear X3 S3 K13 K12 K3 b3)
  try go_wp2_with fail
  refine hK.out _ _ ?_
  clear hK K
  try simp only [Act.put, List.setIfInBounds_toArray, List.set_cons_zero, List.set_cons_succ]
  refine wpL_loud0 (o := { dst := none, op := Go.Op.store 34 (Go.Operand.tmp 2) (Go.Operand.tmp 12), type := 0, pos := "chain.go:45", after := #[{ on := 7, ground := Go.Ground.data }, { on := 7, ground := Go.Ground.chain }, { on := 0, ground := Go.Ground.phase }, { on := 1, ground := Go.Ground.phase }, { on := 2, ground := Go.Ground.phase }, { on := 3, ground := Go.Ground.phase }, { on := 4, ground := Go.Ground.phase }, { on := 5, ground := Go.Ground.phase }, { on := 6, ground := Go.Ground.phase }, { on := 7, ground := Go.Ground.phase }], guard := none }) rfl (by kernel_rfl) (fun K hK => ?_)
  (rw [if_pos (by rfl)]; refine wp_store_row _ _ _ rfl A DN rfl rfl 34 _ hA3 (by rw [hdz]; kernel_rfl) (by rw [hdz, hdA]) hone ?_)
  refine hK.out _ _ ?_
  clear hK K
  try simp only [Act.put, List.setIfInBounds_toArray, List.set_cons_zero, List.set_cons_succ]
  refine wpL_nil ?_
  refine NoPanic.normal ?_
  have hA4 := setRow_heap w3 A DA DN 34 (0, 0) hA3
  have hr4 := (setRow_other w3 A w.heap.size DN (Ne.symm hRA)).trans hr3
  clear hA3 hr3 hadd1 hadd2
  go_wp2_with (first | (refine wpList_load_row rfl _ _ rfl A rfl 34 DN (0, 0) _ hA4 Tryd.underlying34 rfl (by rw [hdz]; kernel_rfl) ?_) | (refine wpList_store_row rfl _ _ _ rfl w.heap.size DN rfl rfl 34 _ hr4 (by rw [hdz]; kernel_rfl) (by rw [hdz]; with_unfolding_all rfl) hone ?_))
  refine bodyPost_ret_by (results_cell_row rfl _ _ w.heap.size 34 DN (0, 0) _ rfl (setRow_heap _ _ _ DN 34 (0, 0) hr4) Tryd.underlying34 rfl (by rw [hdz]; kernel_rfl)) rfl ⟨X', rfl, ?_, ?_, HS3.out, ?_, ?_⟩
  · exact (setRow_other _ w.heap.size A DN hRA).trans hA4
  · exact (HX3.out.row A DN hf3).row w.heap.size DN hfR
  · exact below_setRow (below_setRow B3 hAb _) hb0 _
  · exact ((HK3.out.toA A).rowA DN).row w.heap.size DN (Nat.le_refl _)
end Go.Proofs.YtaneecmfgfkaaaaDoor
