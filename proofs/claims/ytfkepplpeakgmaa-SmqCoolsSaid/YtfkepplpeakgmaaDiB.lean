/- Contracts of package dice (cellaret): Pick, Order. -/
import Derived.Test.YtfkepplpeakgmaaDiA
import Derived.Laws.IdiomCopy
namespace Go.Proofs.Ytfkepplpeakgmaa
open Go.RowKit Go.Deep
set_option linter.unusedVariables false

set_option maxRecDepth 100000 in
theorem pick_range (draw : Int) (ao : Option Addr) (len cap : Nat) (w : World) (h : draw < 0) :
    Calls Try.prog 28 #[.int .i64 draw, .slice ao len cap] w fun e w' => e = .returned (.tuple #[.int .i64 0, .int .i64 0, .int .i64 3]) ∧ w = w' := by
  go_enter Try.func28, Try.ntmps28
  go_wp2
  go_ret3
  exact ⟨rfl, rfl⟩
set_option maxRecDepth 100000 in
theorem pick_big (draw : Int) (ao : Option Addr) (len cap : Nat) (w : World) (h : 0 ≤ draw) (hl : 64 < len) :
    Calls Try.prog 28 #[.int .i64 draw, .slice ao len cap] w fun e w' => e = .returned (.tuple #[.int .i64 0, .int .i64 0, .int .i64 4]) ∧ w = w' := by
  go_enter Try.func28, Try.ntmps28
  go_wp2_with fail
  refine (total_big ao len cap _ hl).mono ?_
  rintro e w' ⟨rfl, rfl⟩
  go_wp2
  go_ret3
  exact ⟨rfl, rfl⟩
set_option maxRecDepth 100000 in
set_option maxHeartbeats 400000 in
theorem pick_err (draw : Int) (ao : Option Addr) (len cap : Nat) (ws : List Int) (w : World) (h : 0 ≤ draw) (hl : len ≤ 64) (hat : IntsAt w ao len ws) (E : Int) (hE : (E != 0) = true) (hT : Hid (∀ r, totE ws len r → r = (0, E))) :
    Calls Try.prog 28 #[.int .i64 draw, .slice ao len cap] w fun e w' => e = .returned (.tuple #[.int .i64 0, .int .i64 0, .int .i64 E]) ∧ w = w' := by
  go_enter Try.func28, Try.ntmps28
  go_wp2_with fail
  refine (total_any ao len cap ws _ hl hat).mono ?_
  rintro e w' ⟨⟨x, y, rfl, ht⟩, rfl⟩
  have := hT.out _ ht
  simp only [Prod.mk.injEq] at this
  obtain ⟨rfl, rfl⟩ := this
  clear ht hT
  go_wp2
  go_ret3
  exact ⟨rfl, rfl⟩
set_option maxRecDepth 100000 in
set_option maxHeartbeats 1000000 in
theorem pick_ok (draw S k q i : Nat) (ao : Option Addr) (len cap : Nat) (ws : List Int) (w : World) (hd : draw ≤ 9223372036854775807) (hl : len ≤ 64) (hat : IntsAt w ao len ws)
    (hall : Hid (∀ j, j < len → fits (ws.getD j 0))) (hS : Hid (wsum ws len = (S : Int))) (hS1 : 1 ≤ S) (hS2 : S ≤ 67108864) (hk : Hid (draw % S = k)) (hq : Hid (draw / S = q)) (hi : i < len) (hp : Hid (wsum ws i ≤ k ∧ (k : Int) < wsum ws (i + 1))) :
    Calls Try.prog 28 #[.int .i64 draw, .slice ao len cap] w fun e w' => e = .returned (.tuple #[.int .i64 i, .int .i64 q, .int .i64 0]) ∧ Below w.heap.size w w' := by
  have hc := World.cell?_alloc_new w #[.int .i64 (draw : Int)] 3 0
  have hf : (w.alloc (.cells #[.int .i64 (draw : Int)] 3)).frozen? ⟨w.heap.size, 0, none⟩ = false := by simp
  have B0 : Below w.heap.size w (w.alloc (.cells #[.int .i64 (draw : Int)] 3)) := (Below.refl _ _).alloc (Nat.le_refl _) _
  have hkS : k < S := by rw [← hk.out]; exact Nat.mod_lt _ hS1
  have HT : Hid (∀ r, totE ws len r → r = ((S : Int), 0)) := Lib.hid (fun r hr => by rw [hr.2 hall.out, hS.out, if_neg (by omega)])
  have HAT := Lib.hid hat
  clear hat
  go_enter Try.func28, Try.ntmps28
  go_wp2_with fail
  refine (total_any ao len cap ws _ hl HAT.out).mono ?_
  rintro e w' ⟨⟨x, y, rfl, ht⟩, rfl⟩
  have := HT.out _ ht
  simp only [Prod.mk.injEq] at this
  obtain ⟨rfl, rfl⟩ := this
  clear ht HT
  go_wp2_with fail
  refine (roller_any _ _).mono ?_
  rintro e w' ⟨rfl, rfl⟩
  generalize w.alloc (.cells #[.int .i64 (draw : Int)] 3) = w0 at hc hf B0 ⊢
  go_wp2_with fail
  refine (roll_any _ draw S k q _ hc hf hd hS1 hk hq).mono ?_
  rintro e w1 ⟨rfl, d, hw1⟩
  have B1 : Below w.heap.size w w1 := by rw [← hw1]; exact below_drewN (B0.setCell (p := ⟨w.heap.size, 0, none⟩) (Nat.le_refl _) _) _
  clear hw1 B0 hc hf
  have HA1 := Lib.hid (HAT.out.below B1)
  clear HAT
  go_wp2
  go_loop [9, 31] (fun x y => ∃ (j : Nat) (z : Int), x = .int .i64 z ∧ y = .int .i64 j ∧ j ≤ i ∧ 0 ≤ z ∧ z ≤ 67108864 ∧ Hid (z + wsum ws j = k))
    (fun _ y => len - (intOf y).toNat)
  case atStart => exact ⟨0, k, rfl, rfl, by omega, by omega, by omega, Lib.hid (by simp [wsum])⟩
  case round =>
    obtain ⟨j, z, rfl, rfl, hj, hz0, hz1, HZ⟩ := hrel
    have hlt : j < len := by omega
    obtain ⟨b, off, rfl, hb, hcs⟩ := HA1.out (by omega)
    have c0 := hcs j hlt
    clear hcs
    by_cases e : j = i
    · subst e
      have hlt2 : z < ws.getD j 0 := by
        have h1 := hp.out.2
        have h2 := HZ.out
        have h3 : wsum ws (j + 1) = wsum ws j + ws.getD j 0 := rfl
        omega
      generalize ws.getD j 0 = u at c0 hlt2
      go_wp2
      go_ret3
      exact ⟨rfl, B1⟩
    · have hfj := hall.out j hlt
      have hge : ws.getD j 0 ≤ z ∧ Hid (z - ws.getD j 0 + wsum ws (j + 1) = k) := by
        have h1 := hp.out.1
        have h2 := HZ.out
        have h3 : wsum ws (j + 1) = wsum ws j + ws.getD j 0 := rfl
        have h4 := wsum_mono ws (j + 1) i (by omega) (fun m hm => hall.out m (by omega))
        exact ⟨by omega, Lib.hid (by omega)⟩
      obtain ⟨hge, HN⟩ := hge
      generalize ws.getD j 0 = u at c0 hge HN hfj
      obtain ⟨f1, f2⟩ := hfj
      go_wp2
      go_round
      case rel => exact ⟨j + 1, z - u, by go_num, by go_num, by omega, by omega, by omega, HN⟩
      case measure => simp [intOf]; omega

/-- The order of a draw: how many are left, the draw's rest, the numbers' rest, what there is. -/
def orderGo : Nat → Nat → List Int → List Int → List Int
  | 0, _, _, out => out
  | s + 1, left, zs, out => orderGo s (left / zs.length) (zs.eraseIdx (left % zs.length)) (out ++ [zs.getD (left % zs.length) 0])
def orderL (draw n : Nat) : List Int := orderGo n draw ((List.range n).map Int.ofNat) []

/-- Numbers that lie in a block of their own. -/
structure Rest (w : World) (g cap : Nat) (zs : List Int) : Prop where
  cells : ∀ j, j < zs.length → w.cell? ⟨g, j, none⟩ = some (.int .i64 (zs.getD j 0))
  free : ∀ j, j < zs.length → w.frozen? ⟨g, j, none⟩ = false
  hcap : zs.length ≤ cap
  most : cap ≤ maxLen
  lt : g < w.heap.size
theorem Rest.same {w w' : World} {g cap : Nat} {zs : List Int} (h : Rest w g cap zs) (hb : w'.heap[g]? = w.heap[g]?) (hs : w.heap.size ≤ w'.heap.size) : Rest w' g cap zs :=
  ⟨fun j hj => (World.cell?_of_block (a := ⟨g, j, none⟩) hb).trans (h.cells j hj), fun j hj => (World.frozen?_of_block (a := ⟨g, j, none⟩) hb).trans (h.free j hj), h.hcap, h.most, Nat.lt_of_lt_of_le h.lt hs⟩
def moved (zs : List Int) (k : Nat) : List Value := (zs.drop (k + 1)).map (Value.int .i64)
theorem moved_length (zs : List Int) (k : Nat) : (moved zs k).length = zs.length - (k + 1) := by simp [moved]
theorem moved_get {zs : List Int} {k j : Nat} (hj : j < zs.length - (k + 1)) : (moved zs k)[j]? = some (.int .i64 (zs.getD (k + 1 + j) 0)) := by
  simp [moved, List.getD, show k + 1 + j < zs.length by omega]
theorem size_setCells0 (g : Nat) : ∀ (vs : List Value) (o : Nat) (w : World), (w.setCells g o vs).heap.size = w.heap.size
  | [], _, _ => rfl
  | v :: r, o, w => by rw [World.setCells, size_setCells0 g r]; simp [World.setCell]
theorem below_setCells0 {B g : Nat} (hg : B ≤ g) : ∀ (vs : List Value) (o : Nat) {a w : World}, Below B a w → Below B a (w.setCells g o vs)
  | [], _, _, _, h => h
  | v :: r, o, a, w, h => by rw [World.setCells]; exact below_setCells0 hg r _ (h.setCell (p := ⟨g, o, none⟩) hg v)
theorem block_setCells0 (g : Nat) : ∀ (vs : List Value) (o : Nat) (w : World) (k : Nat), k ≠ g → (w.setCells g o vs).heap[k]? = w.heap[k]?
  | [], _, _, _, _ => rfl
  | v :: r, o, w, k, hk => by rw [World.setCells, block_setCells0 g r _ _ k hk]; exact Below.heap_setCell w _ v k hk
theorem Rest.erase {w : World} {g cap : Nat} {zs : List Int} (h : Rest w g cap zs) (k : Nat) (hk : k < zs.length) : Rest (w.setCells g k (moved zs k)) g cap (zs.eraseIdx k) := by
  have hl : (zs.eraseIdx k).length = zs.length - 1 := by rw [List.length_eraseIdx, if_pos hk]
  refine ⟨fun j hj => ?_, fun j hj => ?_, by have := h.hcap; omega, h.most, ?_⟩
  · rw [hl] at hj
    by_cases hjk : j < k
    · rw [World.cell?_setCells_out _ _ _ _ _ (fun _ _ => .inl hjk), h.cells j (by omega)]
      rw [List.getD_eq_getElem?_getD, List.getD_eq_getElem?_getD, List.getElem?_eraseIdx_of_lt hjk]
    · have hm := World.cell?_setCells_in g (moved zs k) k w (fun i hi => by
        rw [moved_length] at hi
        rw [h.cells (k + i) (by omega)]; rfl) (j - k) (by rw [moved_length]; omega)
      rw [show k + (j - k) = j from by omega] at hm
      have hg := moved_get (zs := zs) (k := k) (j := j - k) (by omega)
      rw [List.getElem?_eq_getElem (by rw [moved_length]; omega)] at hg
      rw [hm, hg, List.getD_eq_getElem?_getD, List.getD_eq_getElem?_getD, List.getElem?_eraseIdx_of_ge (by omega), show k + 1 + (j - k) = j + 1 from by omega]
  · rw [World.frozen?_setCells]
    exact h.free j (by omega)
  · rw [size_setCells0]; exact h.lt
theorem Rest.of {w : World} {base g n cap : Nat} {zs : List Int} {e : TypeId} (h : w.ownsRow base e 1 (.slice (some ⟨g, 0, none⟩) n cap) n (zs.map (Value.int .i64))) : zs.length = n ∧ base ≤ g ∧ Rest w g cap zs := by
  have hl : zs.length = n := by have := h.1; simpa using this
  rcases h.2 with ⟨h0, _⟩ | ⟨g', cap', cur, h0, hb, hg, hn, hm, hsz, ht⟩
  · simp at h0
  · simp only [Value.slice.injEq, Option.some.injEq, Addr.mk.injEq] at h0
    obtain ⟨⟨rfl, _, _⟩, _, rfl⟩ := h0
    refine ⟨hl, hb, ⟨fun j hj => ?_, fun j hj => ?_, by omega, hm, ?_⟩⟩
    · have := h.cells (g := g) rfl j (.int .i64 (zs.getD j 0)) (by simp [List.getD, hj])
      simpa [Addr.add_lit] using this
    · unfold World.frozen?
      simp [hg]
    · exact (Array.getElem?_eq_some_iff.1 hg).1

/-- The state of Order's second loop. -/
structure Ord (w0 wi : World) (base b0 B : Nat) (x y : Value) (left : Nat) (zs out : List Int) : Prop where
  rest : zs = [] ∨ ∃ g cap, x = .slice (some ⟨g, 0, none⟩) zs.length cap ∧ base ≤ g ∧ g < b0 ∧ Rest wi g cap zs
  roll : wi.cell? ⟨b0, 0, none⟩ = some (.int .i64 left)
  free : wi.frozen? ⟨b0, 0, none⟩ = false
  b0B : b0 < B
  bb0 : base ≤ b0
  out : wi.ownsRow B 3 1 y out.length (out.map (Value.int .i64))
  Bsz : B ≤ wi.heap.size
  below : Below base w0 wi
theorem Ord.rolled {w0 wi : World} {base b0 B : Nat} {x y : Value} {left : Nat} {zs out : List Int} (h : Ord w0 wi base b0 B x y left zs out) (q d : Nat) : Ord w0 ((wi.setCell ⟨b0, 0, none⟩ (.int .i64 q)).drewN d) base b0 B x y q zs out := by
  have hsz : ((wi.setCell ⟨b0, 0, none⟩ (.int .i64 q)).drewN d).heap.size = wi.heap.size := by simp [World.setCell, World.drewN]
  refine ⟨?_, ?_, ?_, h.b0B, h.bb0, ?_, by rw [hsz]; exact h.Bsz, ?_⟩
  · rcases h.rest with h0 | ⟨g, cap, h1, h2, h3, h4⟩
    · exact .inl h0
    · exact .inr ⟨g, cap, h1, h2, h3, h4.same (Below.heap_setCell wi ⟨b0, 0, none⟩ _ g (by show g ≠ b0; omega)) (by rw [hsz]; exact Nat.le_refl _)⟩
  · have := h.roll
    show (wi.setCell ⟨b0, 0, none⟩ (.int .i64 q)).cell? _ = _
    exact World.cell?_setCell_same _ _ _ this
  · have := h.free
    show (wi.setCell ⟨b0, 0, none⟩ (.int .i64 q)).frozen? _ = _
    rw [World.frozen?_setCell]; exact this
  · refine h.out.kept (row := some b0) ⟨rfl, rfl, rfl, by rw [hsz]; exact Nat.le_refl _, fun k hk hne => Below.heap_setCell wi _ _ k (fun e => hne (by rw [e]))⟩ ?_
    cases hv : y.ownBlock with
    | none => exact .inl rfl
    | some k => exact .inr (fun e => by have := (h.out.lt k hv).1; have := h.b0B; simp at e; omega)
  · exact below_drewN (h.below.setCell (p := ⟨b0, 0, none⟩) h.bb0 _) _
theorem Ord.alloc {w0 wi : World} {base b0 B : Nat} {x y : Value} {left : Nat} {zs out : List Int} (h : Ord w0 wi base b0 B x y left zs out) (o : Obj) : Ord w0 (wi.alloc o) base b0 B x y left zs out := by
  have hb : Below wi.heap.size wi (wi.alloc o) := (Below.refl _ _).alloc (Nat.le_refl _) _
  have hB := h.Bsz
  have h0 := h.b0B
  refine ⟨?_, (hb.cell (p := ⟨b0, 0, none⟩) (by show b0 < _; omega)).trans h.roll, (hb.frozen (p := ⟨b0, 0, none⟩) (by show b0 < _; omega)).trans h.free, h0, h.bb0, h.out.alloc _, by have := hb.size; omega, h.below.trans (hb.mono (by have := h.bb0; omega))⟩
  rcases h.rest with h0 | ⟨g, cap, h1, h2, h3, h4⟩
  · exact .inl h0
  · exact .inr ⟨g, cap, h1, h2, h3, h4.same (hb.block g (by omega)) hb.size⟩
theorem Ord.grown {w0 wi w2 : World} {base b0 B : Nat} {x y y2 : Value} {left : Nat} {zs out out2 : List Int} (h : Ord w0 wi base b0 B x y left zs out) (hg : wi.grownBy w2 y.ownBlock) (h2 : w2.ownsRow B 3 1 y2 out2.length (out2.map (Value.int .i64))) : Ord w0 w2 base b0 B x y2 left zs out2 := by
  have hB := h.Bsz
  have h0 := h.b0B
  have hne : ∀ k, k < B → some k ≠ y.ownBlock := fun k hk e => by
    have := (h.out.lt k e.symm).1
    omega
  have hblk : ∀ k, k < B → w2.heap[k]? = wi.heap[k]? := fun k hk => hg.block k (by omega) (hne k hk)
  refine ⟨?_, (World.cell?_of_block (a := ⟨b0, 0, none⟩) (hblk b0 h0)).trans h.roll, (World.frozen?_of_block (a := ⟨b0, 0, none⟩) (hblk b0 h0)).trans h.free, h0, h.bb0, h2, by have := hg.size; omega, h.below.grown hg (by have := h.bb0; omega) (fun k e => by have := (h.out.lt k e).1; have := h.bb0; omega)⟩
  rcases h.rest with h0 | ⟨g, cap, h1, h2, h3, h4⟩
  · exact .inl h0
  · exact .inr ⟨g, cap, h1, h2, h3, h4.same (hblk g (by omega)) hg.size⟩
theorem Ord.erased {w0 wi : World} {base b0 B g cap : Nat} {x y : Value} {left : Nat} {zs out : List Int} (h : Ord w0 wi base b0 B x y left zs out) (hgb : base ≤ g) (hg0 : g < b0) (hr : Rest wi g cap zs) (k : Nat) (hk : k < zs.length) (d : Nat) :
    Ord w0 ((wi.drewN d).setCells g k (moved zs k)) base b0 B (.slice (some ⟨g, 0, none⟩) (zs.eraseIdx k).length cap) y left (zs.eraseIdx k) out := by
  have hb0 := h.b0B
  have hblk : ∀ m, m ≠ g → ((wi.drewN d).setCells g k (moved zs k)).heap[m]? = wi.heap[m]? := fun m hm => block_setCells0 g _ _ (wi.drewN d) m hm
  have hsz : ((wi.drewN d).setCells g k (moved zs k)).heap.size = wi.heap.size := size_setCells0 g _ _ (wi.drewN d)
  have hr' : Rest (wi.drewN d) g cap zs := hr.same rfl (Nat.le_refl _)
  refine ⟨.inr ⟨g, cap, rfl, hgb, hg0, hr'.erase k hk⟩, (World.cell?_of_block (a := ⟨b0, 0, none⟩) (hblk b0 (by omega))).trans h.roll, (World.frozen?_of_block (a := ⟨b0, 0, none⟩) (hblk b0 (by omega))).trans h.free, hb0, h.bb0, ?_, by rw [hsz]; exact h.Bsz, below_setCells0 hgb _ _ (below_drewN h.below d)⟩
  refine h.out.kept (row := some g) ⟨?_, ?_, ?_, by rw [hsz]; exact Nat.le_refl _, fun m hm hne => hblk m (fun e => hne (by rw [e]))⟩ ?_
  · exact (below_setCells0 (B := 0) (Nat.zero_le _) _ _ (Below.refl 0 (wi.drewN d))).os
  · exact (below_setCells0 (B := 0) (Nat.zero_le _) _ _ (Below.refl 0 (wi.drewN d))).tape
  · exact (below_setCells0 (B := 0) (Nat.zero_le _) _ _ (Below.refl 0 (wi.drewN d))).output
  · cases hv : y.ownBlock with
    | none => exact .inl rfl
    | some m => exact .inr (fun e => by have := (h.out.lt m hv).1; simp at e; omega)
end Go.Proofs.Ytfkepplpeakgmaa
