/- The reference of package aes (cellaret): rows of rows; a key's words' bytes. -/
import Derived.Test.YtbbanhjcchnhpaaAgD
import Derived.Great.BuildSlice
namespace Go.Proofs.Ytbbanhjcchnhpaa
open Go.RowKit Go.Deep
set_option linter.unusedVariables false
set_option linter.unusedSimpArgs false
theorem wp_build4 {P : Program} {o : Oper} {a : Act} {w : World} {K : Act → World → Prop} {Q : Exit → Act → World → Prop} (t e : TypeId) (x0 x1 x2 x3 : Operand) (ho : o.op = .buildSlice t 4 #[(0, x0), (1, x1), (2, x2), (3, x3)])
    (ie : TypeInfo) (hu : P.underlying t = some (.slice e)) (hie : P.info? e = some ie) (hz : ie.zero = some (.int .i64 0)) (hsz : ie.size = 1) (n0 n1 n2 n3 : Int) (h0 : a.eval x0 = .int .i64 n0) (h1 : a.eval x1 = .int .i64 n1) (h2 : a.eval x2 = .int .i64 n2) (h3 : a.eval x3 = .int .i64 n3)
    (h : K (a.put o.dst (.slice (some ⟨w.heap.size, 0, none⟩) 4 4)) (w.alloc (.cells #[.int .i64 n0, .int .i64 n1, .int .i64 n2, .int .i64 n3] e))) : o.wp P a w K Q := by
  refine wp_buildSlice t e 4 _ ho _ ie (.int .i64 0) hu hie hz (by rw [hsz]; decide) (by rw [hsz]; decide) ?_ h
  rw [hsz]
  simp only [List.map_toArray, List.map_cons, List.map_nil, h0, h1, h2, h3]
  simp [go_sem]
theorem info_rowG : (Try.prog.info? 35).map (fun i => (i.zero, i.size, i.bytes)) = some (some (.slice none 0 0), 1, 24) := by kernel_rfl
theorem nilRowG (w : World) (cs : Array Value) (hcs : cs.size = 0) : (w.alloc (.cells cs 3)).ownsRow w.heap.size 3 1 (.slice (some ⟨w.heap.size, 0, none⟩) 0 0) 0 [] :=
  ⟨rfl, Or.inr ⟨w.heap.size, 0, cs, rfl, Nat.le_refl _, heap_alloc_new _ _, Nat.le_refl _, by decide, by simpa using hcs, by simp⟩⟩
/-- A row of four numbers of one's own. -/
structure XRow (w : World) (b : Nat) (f : Nat → Nat) : Prop where
  lt : b < w.heap.size
  cell : ∀ r, r < 4 → w.cell? ⟨b, r, none⟩ = some (.int .i64 (f r : Int))
  free : ∀ r, w.frozen? ⟨b, r, none⟩ = false
theorem XRow.of_own {w : World} {base : Nat} {v : Value} {l : List Value} {f : Nat → Nat} {t : TypeId} (h : w.ownsRow base t 1 v 4 l) (hl : ∀ r, r < 4 → l[r]? = some (.int .i64 (f r : Int))) : ∃ b c, v = .slice (some ⟨b, 0, none⟩) 4 c ∧ base ≤ b ∧ XRow w b f := by
  rcases h.2 with ⟨rfl, h0⟩ | ⟨g, cap, cur, rfl, hb, hg, hnc, hcm, _⟩
  · omega
  · refine ⟨g, cap, rfl, hb, (Array.getElem?_eq_some_iff.1 hg).1, fun r hr => ?_, fun r => frozen_of_row _ g r _ _ hg⟩
    have := h.cells (g := g) rfl r _ (hl r hr)
    rwa [Addr.add_mid, Nat.zero_add] at this
theorem XRow.of_lit {w : World} {b : Nat} {n0 n1 n2 n3 : Int} {t : TypeId} {f : Nat → Nat} (h : w.heap[b]? = some (.cells #[.int .i64 n0, .int .i64 n1, .int .i64 n2, .int .i64 n3] t (0, 0))) (h0 : n0 = (f 0 : Int)) (h1 : n1 = (f 1 : Int)) (h2 : n2 = (f 2 : Int)) (h3 : n3 = (f 3 : Int)) : XRow w b f := by
  subst h0 h1 h2 h3
  refine ⟨(Array.getElem?_eq_some_iff.1 h).1, fun r hr => ?_, fun r => frozen_of_row _ b r _ _ h⟩
  rw [cell_of_row _ b r _ _ _ h]
  rcases (show r = 0 ∨ r = 1 ∨ r = 2 ∨ r = 3 by omega) with rfl | rfl | rfl | rfl <;> rfl
theorem XRow.congr {w : World} {b : Nat} {f g : Nat → Nat} (h : XRow w b f) (e : ∀ r, r < 4 → f r = g r) : XRow w b g := ⟨h.lt, fun r hr => by rw [h.cell r hr, e r hr], h.free⟩
theorem XRow.below {w w' : World} {b : Nat} {f : Nat → Nat} (h : XRow w b f) (hb : Below w.heap.size w w') : XRow w' b f := ⟨Nat.lt_of_lt_of_le h.lt hb.size, fun r hr => (hb.cell (p := ⟨b, r, none⟩) h.lt).trans (h.cell r hr), fun r => (hb.frozen (p := ⟨b, r, none⟩) h.lt).trans (h.free r)⟩
theorem XRow.set {w : World} {b : Nat} {f : Nat → Nat} (h : XRow w b f) (k : Nat) (hk : k < 4) (v : Nat) : XRow (w.setCell ⟨b, k, none⟩ (.int .i64 (v : Int))) b (fun r => if r = k then v else f r) := by
  refine ⟨by simpa [World.setCell] using h.lt, fun r hr => ?_, fun r => by rw [World.frozen?_setCell]; exact h.free r⟩
  by_cases e : r = k
  · subst e
    rw [World.cell?_setCell_same _ _ _ (h.cell r hr)]
    show _ = some (Value.int .i64 ((if r = r then v else f r : Nat) : Int))
    rw [if_pos rfl]
  · rw [World.cell?_setCell_other _ _ _ _ (by intro e'; simp only [Addr.mk.injEq] at e'; omega), h.cell r hr, if_neg e]
theorem XRow.drew {w : World} {b : Nat} {f : Nat → Nat} (h : XRow w b f) : XRow w.drew b f := ⟨h.lt, h.cell, h.free⟩
/-- So many rows' addresses. -/
def slV (bs cs : Nat → Nat) (n : Nat) : List Value := (List.range n).map fun i => .slice (some ⟨bs i, 0, none⟩) 4 (cs i)
theorem slV_get (bs cs : Nat → Nat) (n i : Nat) (hi : i < n) : (slV bs cs n)[i]? = some (.slice (some ⟨bs i, 0, none⟩) 4 (cs i)) := by unfold slV; rw [List.getElem?_map, List.getElem?_range hi]; rfl
theorem slV_succ (bs cs : Nat → Nat) (n b c : Nat) : slV (fun i => if i = n then b else bs i) (fun i => if i = n then c else cs i) (n + 1) = slV bs cs n ++ [.slice (some ⟨b, 0, none⟩) 4 c] := by
  unfold slV
  rw [List.range_succ, List.map_append]
  have : (List.range n).map (fun i => Value.slice (some ⟨if i = n then b else bs i, 0, none⟩) 4 (if i = n then c else cs i)) = (List.range n).map fun i => Value.slice (some ⟨bs i, 0, none⟩) 4 (cs i) := List.map_congr_left fun i hi => by
    have : i ≠ n := by have := List.mem_range.1 hi; omega
    rw [if_neg this, if_neg this]
  rw [this]
  simp
/-- The key's words so far. -/
structure WIn (base : Nat) (w : World) (v : Value) (n : Nat) (W : Nat → UInt32) (bs cs : Nat → Nat) : Prop where
  own : w.ownsRow base 35 1 v n (slV bs cs n)
  wlt : ∀ i, i < n → bs i < w.heap.size
  far : ∀ i, i < n → v.ownBlock ≠ some (bs i)
  word : ∀ i, i < n → ∀ r, r < 4 → w.cell? ⟨bs i, r, none⟩ = some (.int .i64 ((byW (W i) r).toNat : Int))
theorem WIn.below {base n : Nat} {w w' : World} {v : Value} {W : Nat → UInt32} {bs cs : Nat → Nat} (h : WIn base w v n W bs cs) (hb : Below w.heap.size w w') : WIn base w' v n W bs cs :=
  ⟨own_belowG h.own hb, fun i hi => Nat.lt_of_lt_of_le (h.wlt i hi) hb.size, h.far, fun i hi r hr => (hb.cell (p := ⟨bs i, r, none⟩) (h.wlt i hi)).trans (h.word i hi r hr)⟩
theorem WIn.drew {base n : Nat} {w : World} {v : Value} {W : Nat → UInt32} {bs cs : Nat → Nat} (h : WIn base w v n W bs cs) : WIn base w.drew v n W bs cs := ⟨h.own, h.wlt, h.far, h.word⟩
theorem WIn.push {base n : Nat} {wi W2 w1 : World} {v v' : Value} {W : Nat → UInt32} {bs cs : Nat → Nat} (h : WIn base wi v n W bs cs) (hb : Below wi.heap.size wi W2) {xb c : Nat} (hxb : wi.heap.size ≤ xb) (hx : XRow W2 xb (fun r => (byW (W n) r).toNat))
    (hown : w1.ownsRow base 35 1 v' (n + 1) (slV bs cs n ++ [.slice (some ⟨xb, 0, none⟩) 4 c])) (hg : W2.grownBy w1 v.ownBlock) : WIn base w1 v' (n + 1) W (fun i => if i = n then xb else bs i) (fun i => if i = n then c else cs i) := by
  have hvx : v.ownBlock ≠ some xb := fun e => by have := (h.own.lt xb e).2; omega
  have hword : ∀ i, i < n + 1 → ∀ r, r < 4 → w1.cell? ⟨if i = n then xb else bs i, r, none⟩ = some (.int .i64 ((byW (W i) r).toNat : Int)) := fun i hi r hr => by
    by_cases e : i = n
    · subst e
      rw [if_pos rfl]
      exact (hg.cell_far ⟨xb, r, none⟩ hx.lt (fun e => hvx e.symm)).trans (hx.cell r hr)
    · rw [if_neg e]
      have hlt := h.wlt i (by omega)
      exact (hg.cell_far ⟨bs i, r, none⟩ (Nat.lt_of_lt_of_le hlt hb.size) (fun q => h.far i (by omega) q.symm)).trans ((hb.cell (p := ⟨bs i, r, none⟩) hlt).trans (h.word i (by omega) r hr))
  have hlt1 : ∀ i, i < n + 1 → (if i = n then xb else bs i) < w1.heap.size := fun i hi => by
    by_cases e : i = n
    · rw [if_pos e]; exact Nat.lt_of_lt_of_le hx.lt hg.size
    · rw [if_neg e]; exact Nat.lt_of_lt_of_le (h.wlt i (by omega)) (Nat.le_trans hb.size hg.size)
  refine ⟨by rw [slV_succ]; exact hown, hlt1, fun i hi q => ?_, hword⟩
  have h0 : ∃ p l k, (slV bs cs n ++ [Value.slice (some ⟨xb, 0, none⟩) 4 c])[0]? = some (.slice p l k) := by
    by_cases e : n = 0
    · subst e; exact ⟨_, _, _, rfl⟩
    · rw [List.getElem?_append_left (by unfold slV; simp; omega), slV_get bs cs n 0 (by omega)]
      exact ⟨_, _, _, rfl⟩
  obtain ⟨p, l, k, h0⟩ := h0
  have h1 := hown.cells q 0 _ h0
  have h2 := hword i hi 0 (by omega)
  rw [Addr.add_mid, Nat.zero_add, h2] at h1
  cases h1
theorem WIn.done {base n : Nat} {w : World} {v : Value} {W : Nat → UInt32} {bs cs : Nat → Nat} (h : WIn base w v n W bs cs) (hn : 0 < n) : ∃ rb rc, v = .slice (some ⟨rb, 0, none⟩) n rc ∧ n ≤ rc ∧ base ≤ rb ∧ WAt w rb n W bs cs := by
  obtain ⟨g, c, rfl, h1, h2, h3, h4⟩ := own_rowG h.own hn
  exact ⟨g, c, rfl, h1, h2, h3, fun i hi => h4 i _ (slV_get bs cs n i hi), h.wlt, h.word⟩
/-! What a word's bytes are. -/
theorem byW_be (a b c d : UInt8) (r : Nat) (hr : r < 4) : byW (be4 a b c d) r = if r = 0 then a else if r = 1 then b else if r = 2 then c else d := by
  obtain ⟨h0, h1, h2, h3⟩ := byW_be4 a b c d
  rcases (show r = 0 ∨ r = 1 ∨ r = 2 ∨ r = 3 by omega) with rfl | rfl | rfl | rfl
  · exact h0
  · exact h1
  · exact h2
  · exact h3
theorem byW_img (x : UInt32) (r : Nat) (hr : r < 4) : byW (imgW x) r = bx (byW x r) := by
  unfold imgW
  rw [byW_be _ _ _ _ r hr]
  rcases (show r = 0 ∨ r = 1 ∨ r = 2 ∨ r = 3 by omega) with rfl | rfl | rfl | rfl <;> rfl
theorem byW_xor (x y : UInt32) (r : Nat) (hr : r < 4) : byW (x ^^^ y) r = byW x r ^^^ byW y r := by
  rw [← UInt8.toNat_inj, UInt8.toNat_xor]
  unfold byW
  rw [UInt8.toNat_ofNat', UInt8.toNat_ofNat', UInt8.toNat_ofNat', UInt32.toNat_xor]
  rw [show (256 : Nat) ^ (3 - r) = 2 ^ (8 * (3 - r)) by rw [Nat.pow_mul]]
  apply Nat.eq_of_testBit_eq
  intro i
  simp only [Nat.testBit_xor, Nat.testBit_mod_two_pow, Nat.testBit_div_two_pow]
  cases decide (i < 8) <;> simp
theorem rolW_be (x : UInt32) : rolW x = be4 (byW x 1) (byW x 2) (byW x 3) (byW x 0) := by
  have h := rolW_walk x
  have hx := x.toNat_lt
  obtain ⟨e0, e1, e2, e3⟩ := byW_int x
  rw [← UInt32.toNat_inj, be4_nat]
  have h1 : rolW x = (x <<< UInt32.ofNat 8) ||| (x >>> UInt32.ofNat 24) := rfl
  have h2 : (rolW x).toNat = (x.toNat * 256 % 4294967296) ||| (x.toNat / 16777216) := by
    rw [h1, UInt32.toNat_or, UInt32.toNat_shiftLeft, UInt32.toNat_shiftRight]
    simp [Nat.shiftLeft_eq, Nat.shiftRight_eq_div_pow]
  have h3 : (x.toNat * 256 % 4294967296) ||| (x.toNat / 16777216) = x.toNat * 256 % 4294967296 + x.toNat / 16777216 := by
    have h4 : x.toNat * 256 % 4294967296 = (x.toNat % 16777216) <<< 8 := by rw [Nat.shiftLeft_eq]; omega
    rw [h4, ← Nat.shiftLeft_add_eq_or_of_lt (show x.toNat / 16777216 < 2 ^ 8 by omega)]
  have h5 : x.toNat * 256 % 4294967296 = (x.toNat % 16777216) * 256 := by omega
  have h6 : x.toNat % 16777216 = (x.toNat / 65536 % 256) * 65536 + (x.toNat / 256 % 256) * 256 + x.toNat % 256 := by omega
  have n0 : (byW x 0).toNat = x.toNat / 16777216 := by clear h2 h3 h5 h6; omega
  have n1 : (byW x 1).toNat = x.toNat / 65536 % 256 := by clear h2 h3 h5 h6; omega
  have n2 : (byW x 2).toNat = x.toNat / 256 % 256 := by clear h2 h3 h5 h6; omega
  have n3 : (byW x 3).toNat = x.toNat % 256 := by clear h2 h3 h5 h6; omega
  rw [h2, h3, h5, h6, n0, n1, n2, n3]
  clear h2 h3 h5 h6 n0 n1 n2 n3 e0 e1 e2 e3 h
  generalize x.toNat / 65536 % 256 = a
  generalize x.toNat / 256 % 256 = b
  omega
theorem byW_rol (x : UInt32) (r : Nat) (hr : r < 4) : byW (rolW x) r = byW x ((r + 1) % 4) := by
  rw [rolW_be, byW_be _ _ _ _ r hr]
  rcases (show r = 0 ∨ r = 1 ∨ r = 2 ∨ r = 3 by omega) with rfl | rfl | rfl | rfl <;> rfl
theorem byW_pow (p r : Nat) (hp : p < 256) (hr : r < 4) : byW (UInt32.ofNat p <<< UInt32.ofNat 24) r = if r = 0 then UInt8.ofNat p else 0 := by
  have h := pow_walk p hp
  have h1 : (UInt32.ofNat p <<< UInt32.ofNat 24).toNat = p * 16777216 := by omega
  unfold byW
  rw [h1]
  rcases (show r = 0 ∨ r = 1 ∨ r = 2 ∨ r = 3 by omega) with rfl | rfl | rfl | rfl
  · rw [if_pos rfl]; rw [show p * 16777216 / 256 ^ (3 - 0) = p by omega]
  · rw [if_neg (by omega), ← UInt8.toNat_inj, UInt8.toNat_ofNat']; simp; omega
  · rw [if_neg (by omega), ← UInt8.toNat_inj, UInt8.toNat_ofNat']; simp; omega
  · rw [if_neg (by omega), ← UInt8.toNat_inj, UInt8.toNat_ofNat']; simp; omega
/-- The bytes of what is added to the word eight ahead. -/
def f1N (y : UInt32) (i r : Nat) : Nat := if i % 8 = 0 then boxN (byW y ((r + 1) % 4)).toNat ^^^ (if r = 0 then pwI i else 0) else (byW y r).toNat
def f2N (y : UInt32) (i r : Nat) : Nat := if i % 8 = 4 then boxN (byW y r).toNat else f1N y i r
theorem f2N_tW (W : Nat → UInt32) (i r : Nat) (hr : r < 4) : f2N (W (i - 1)) i r = (byW (tW W (pwI i) i) r).toNat := by
  have hp := pwI_lt i
  unfold f2N f1N tW
  by_cases h0 : i % 8 = 0
  · rw [if_neg (by omega), if_pos h0, if_pos h0, byW_xor _ _ r hr, byW_img _ r hr, byW_rol _ r hr, byW_pow _ r hp hr, UInt8.toNat_xor, bx_nat]
    by_cases e : r = 0
    · rw [if_pos e, if_pos e, UInt8.toNat_ofNat', Nat.mod_eq_of_lt hp]
    · rw [if_neg e, if_neg e]; rfl
  · by_cases h4 : i % 8 = 4
    · rw [if_pos h4, if_neg h0, if_pos h4, byW_img _ r hr, bx_nat]
    · rw [if_neg h4, if_neg h0, if_neg h0, if_neg h4]
theorem word_next (l : List UInt8) (i r : Nat) (h8 : 8 ≤ i) (h60 : i < 60) (hr : r < 4) : f2N (wI l 60 (i - 1)) i r ^^^ (byW (wI l 60 (i - 8)) r).toNat = (byW (wI l 60 i) r).toNat := by
  rw [f2N_tW _ i r hr, wI_rec l i h8 h60]
  unfold nextW
  rw [byW_xor _ _ r hr, UInt8.toNat_xor, Nat.xor_comm]
theorem pw_pow (i : Nat) (h : i < 60) (h8 : 8 ≤ i) (h0 : i % 8 = 0) : gpow 2 (i / 8 - 1) = pwI i := by
  have := all1 (p := fun i => decide (8 ≤ i → i % 8 = 0 → gpow 2 (i / 8 - 1) = pwI i)) 60 (by decide +kernel) i h
  exact of_decide_eq_true this h8 h0
theorem word_key (l : List UInt8) (i r : Nat) (hi : i < 8) (hr : r < 4) : byW (wI l 60 i) r = bAt l (4 * i + r) := by
  rw [wI_key l 60 i (by omega) hi]
  unfold kw
  rw [byW_be _ _ _ _ r hr]
  rcases (show r = 0 ∨ r = 1 ∨ r = 2 ∨ r = 3 by omega) with rfl | rfl | rfl | rfl <;> rfl
end Go.Proofs.Ytbbanhjcchnhpaa
