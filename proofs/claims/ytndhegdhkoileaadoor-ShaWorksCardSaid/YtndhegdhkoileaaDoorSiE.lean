/- The reference of layer 3: Block. Made by genblk.py. -/
import Derived.Test.YtndhegdhkoileaaDoorSiD
import Derived.Test.YtndhegdhkoileaaDoorShX
import Derived.Test.YtndhegdhkoileaaDoorShK
import Derived.Great.BuildSlice
namespace Go.Proofs.YtndhegdhkoileaaDoor
open Go.RowKit Go.Deep
set_option linter.unusedVariables false
set_option linter.unusedSimpArgs false
def vN (v : V8) : List Nat := [v.a.toNat, v.b.toNat, v.c.toNat, v.d.toNat, v.e.toNat, v.f.toNat, v.g.toNat, v.h.toNat]
/-- Eight words as numbers in memory. -/
structure Vat (w : World) (g : Nat) (v : V8) : Prop where
  c0 : w.cell? ⟨g, 0, none⟩ = some (.int .i64 (v.a.toNat : Int))
  c1 : w.cell? ⟨g, 1, none⟩ = some (.int .i64 (v.b.toNat : Int))
  c2 : w.cell? ⟨g, 2, none⟩ = some (.int .i64 (v.c.toNat : Int))
  c3 : w.cell? ⟨g, 3, none⟩ = some (.int .i64 (v.d.toNat : Int))
  c4 : w.cell? ⟨g, 4, none⟩ = some (.int .i64 (v.e.toNat : Int))
  c5 : w.cell? ⟨g, 5, none⟩ = some (.int .i64 (v.f.toNat : Int))
  c6 : w.cell? ⟨g, 6, none⟩ = some (.int .i64 (v.g.toNat : Int))
  c7 : w.cell? ⟨g, 7, none⟩ = some (.int .i64 (v.h.toNat : Int))
  lt : g < w.heap.size
theorem Vat.below {w w' : World} {g : Nat} {v : V8} (h : Vat w g v) (hb : Below w.heap.size w w') : Vat w' g v :=
  ⟨(hb.cell (p := ⟨g, 0, none⟩) h.lt).trans h.c0, (hb.cell (p := ⟨g, 1, none⟩) h.lt).trans h.c1, (hb.cell (p := ⟨g, 2, none⟩) h.lt).trans h.c2, (hb.cell (p := ⟨g, 3, none⟩) h.lt).trans h.c3, (hb.cell (p := ⟨g, 4, none⟩) h.lt).trans h.c4, (hb.cell (p := ⟨g, 5, none⟩) h.lt).trans h.c5, (hb.cell (p := ⟨g, 6, none⟩) h.lt).trans h.c6, (hb.cell (p := ⟨g, 7, none⟩) h.lt).trans h.c7, Nat.lt_of_lt_of_le h.lt hb.size⟩
theorem Vat.seven {w : World} {g : Nat} {v : V8} (h : Vat w g v) (o : Obj) : (w.alloc o).cell? ⟨g, 0, none⟩ = some (.int .i64 (v.a.toNat : Int)) ∧ (w.alloc o).cell? ⟨g, 1, none⟩ = some (.int .i64 (v.b.toNat : Int)) ∧ (w.alloc o).cell? ⟨g, 2, none⟩ = some (.int .i64 (v.c.toNat : Int)) ∧ (w.alloc o).cell? ⟨g, 3, none⟩ = some (.int .i64 (v.d.toNat : Int)) ∧ (w.alloc o).cell? ⟨g, 4, none⟩ = some (.int .i64 (v.e.toNat : Int)) ∧ (w.alloc o).cell? ⟨g, 5, none⟩ = some (.int .i64 (v.f.toNat : Int)) ∧ (w.alloc o).cell? ⟨g, 6, none⟩ = some (.int .i64 (v.g.toNat : Int)) :=
  have q := h.below ((Below.refl w.heap.size w).alloc (Nat.le_refl _) o)
  ⟨q.c0, q.c1, q.c2, q.c3, q.c4, q.c5, q.c6⟩
theorem Vat.drew {w : World} {g : Nat} {v : V8} (h : Vat w g v) : Vat w.drew g v := ⟨h.c0, h.c1, h.c2, h.c3, h.c4, h.c5, h.c6, h.c7, h.lt⟩
theorem Vat.of {w : World} {g : Nat} {v : V8} (h : w.rangeAt g 0 (nv (vN v))) (hl : g < w.heap.size) : Vat w g v :=
  ⟨h 0 _ rfl, h 1 _ rfl, h 2 _ rfl, h 3 _ rfl, h 4 _ rfl, h 5 _ rfl, h 6 _ rfl, h 7 _ rfl, hl⟩
theorem Vat.at {w : World} {g : Nat} {v : V8} (h : Vat w g v) (i : Nat) (hi : i < 8) : w.cell? ⟨g, i, none⟩ = some (.int .i64 ((v.at i).toNat : Int)) := by
  rcases (show i = 0 ∨ i = 1 ∨ i = 2 ∨ i = 3 ∨ i = 4 ∨ i = 5 ∨ i = 6 ∨ i = 7 by omega) with rfl | rfl | rfl | rfl | rfl | rfl | rfl | rfl
  · exact h.c0
  · exact h.c1
  · exact h.c2
  · exact h.c3
  · exact h.c4
  · exact h.c5
  · exact h.c6
  · exact h.c7
/-- A row of numbers at a block's head. -/
def NAt (w : World) (g : Nat) (L : List Nat) : Prop := w.rangeAt g 0 (nv L) ∧ g < w.heap.size
theorem NAt.cell {w : World} {g : Nat} {L : List Nat} (h : NAt w g L) (i : Nat) (hi : i < L.length) : w.cell? ⟨g, i, none⟩ = some (.int .i64 (lget L i : Int)) := by
  have := h.1 i (.int .i64 (lget L i : Int)) (by unfold nv lget; rw [List.getElem?_map, List.getElem?_eq_getElem hi]; rfl)
  rwa [Nat.zero_add] at this
theorem NAt.below {w w' : World} {g : Nat} {L : List Nat} (h : NAt w g L) (hb : Below w.heap.size w w') : NAt w' g L :=
  ⟨fun j u hu => (hb.cell (p := ⟨g, 0 + j, none⟩) h.2).trans (h.1 j u hu), Nat.lt_of_lt_of_le h.2 hb.size⟩
/-- The first words of a block, as numbers. -/
def wN (l : List UInt8) (k : Nat) : List Nat := (wl l k).map (·.toNat)
theorem wN_len (l : List UInt8) (k : Nat) : (wN l k).length = k := by unfold wN; rw [List.length_map, wl_length]
theorem wN_zero (l : List UInt8) : wN l 0 = [] := rfl
theorem wl_snoc (l : List UInt8) (k : Nat) (hk : k < 64) : wl l (k + 1) = wl l k ++ [wd l k] := by
  have h1 := wd_at l k (k + 1) (by omega) (by omega)
  rw [wl_succ] at h1
  rw [wAt_last _ _ k (wl_length l k)] at h1
  rw [wl_succ, h1]
theorem wN_snoc (l : List UInt8) (k : Nat) (hk : k < 64) : wN l (k + 1) = wN l k ++ [(wd l k).toNat] := by unfold wN; rw [wl_snoc l k hk, List.map_append]; rfl
theorem wN_at (l : List UInt8) (k j : Nat) (hj : j < k) (hk : k ≤ 64) : lget (wN l k) j = (wd l j).toNat := by
  rw [← wd_at l j k hj hk]
  unfold wN lget wAt
  rw [List.getElem?_map, List.getElem?_eq_getElem (by rw [wl_length]; omega)]
  rfl
def kN : List Nat := klist.map (·.toNat)
theorem kN_lget (k : Nat) (hk : k < 64) : lget kN k = (kc k).toNat := by
  unfold kN lget kc
  have : k < klist.length := hk
  rw [List.getElem?_map, List.getElem?_eq_getElem this, List.getD_eq_getElem?_getD, List.getElem?_eq_getElem this]
  rfl
theorem kN_len : kN.length = 64 := rfl
theorem be4_int (a b c d : UInt8) : (a.toNat : Int) * 16777216 + (b.toNat : Int) * 65536 + (c.toNat : Int) * 256 + (d.toNat : Int) = ((be4 a b c d).toNat : Int) := by
  have h1 := a.toNat_lt
  have h2 := b.toNat_lt
  have h3 := c.toNat_lt
  have h4 := d.toNat_lt
  unfold be4
  rw [UInt32.toNat_ofNat', Nat.mod_eq_of_lt (by omega)]
  omega
theorem str_idx (s : ByteArray) (l : List UInt8) (hs : s.data.toList = l) (i : Nat) (hi : i < l.length) (w : World) : (Instr.index 9 (.string s) (.int .i64 (i : Int))).run Tryd.prog w = .ok (.int .u8 ((bAt l i).toNat : Int)) w := by
  subst hs
  have hsz : i < s.size := by rw [Lib.size_eq]; exact hi
  rw [run_index_string w 9 s .i64 (i : Int) Tryd.underlying9, dif_pos ⟨by omega, by omega⟩]
  have : s[(i : Int).toNat]'(by omega) = bAt s.data.toList i := by
    unfold bAt
    rw [List.getElem?_eq_getElem hi]
    rfl
  rw [this]
/-- The first k of the sums of two rows of eight. -/
def outN (v V : V8) (k : Nat) : List Nat := (List.range k).map fun i => (v.at i + V.at i).toNat
theorem outN_snoc (v V : V8) (k : Nat) : outN v V (k + 1) = outN v V k ++ [(v.at k + V.at k).toNat] := by unfold outN; rw [List.range_succ, List.map_append]; rfl
theorem blk_out (v : V8) (l : List UInt8) : outN v (rounds (wl l 64) v 64) 8 = vN (blk v l) := by
  unfold blk outN
  generalize rounds (wl l 64) v 64 = V
  rfl
theorem nilRow_ownsI (w : World) (base : Nat) (hb : base ≤ w.heap.size) (cs : Array Value) (hcs : cs.size = 0) : (w.alloc (.cells cs 3)).ownsRow base 3 1 (.slice (some ⟨w.heap.size, 0, none⟩) 0 0) 0 [] :=
  ⟨rfl, Or.inr ⟨w.heap.size, 0, cs, rfl, hb, heap_alloc_new _ _, Nat.le_refl _, by decide, by simpa using hcs, by simp⟩⟩
theorem srcI_of {P : Program} {w : World} {g n c : Nat} {l : List Nat} {tx e' : TypeId} (hk : P.underlying tx = some (.slice e')) (h : w.rangeAt g 0 (nv l)) (hn : l.length = n) : Src P 1 tx (.slice (some ⟨g, 0, none⟩) n c) n (nv l) w := by
  refine Src.ofSlice w hk _ n c (nv l) (by simp [nv, hn]) (fun j u hu => ?_) (fun u hu => ?_)
  · rw [Addr.add_mid]; exact h j u hu
  · obtain ⟨_, _, rfl⟩ := List.mem_map.1 hu; rfl
theorem one_dcell (w : World) (t : TypeId) (v : Value) : ∀ j u, [v][j]? = some u → (w.alloc (.cells #[v] t)).drew.cell? ((⟨w.heap.size, 0, none⟩ : Addr).add j) = some u := one_cell_at w t v
theorem own_nilappI {w : World} {base q : Nat} {v : Value} {xs : List Value} (h : w.ownsRow base 3 1 v (0 + q) ([] ++ xs)) : w.ownsRow base 3 1 v q xs := by
  rw [Nat.zero_add, List.nil_append] at h; exact h
theorem own_rowI {w : World} {base : Nat} {v : Value} {l : List Nat} {n : Nat} (h : w.ownsRow base 3 1 v n (nv l)) (hn : 0 < n) : ∃ g c, v = .slice (some ⟨g, 0, none⟩) n c ∧ n ≤ c ∧ base ≤ g ∧ g < w.heap.size ∧ w.rangeAt g 0 (nv l) := by
  rcases h.2 with ⟨rfl, rfl⟩ | ⟨g, cap, cur, rfl, hb, hg, hnc, hcm, _⟩
  · omega
  · refine ⟨g, cap, rfl, hnc, hb, (Array.getElem?_eq_some_iff.1 hg).1, fun j u hu => ?_⟩
    have := h.cells (g := g) rfl j u hu
    rw [Nat.zero_add]
    rwa [Addr.add_mid, Nat.zero_add] at this
theorem own_weak {w : World} {base b n size : Nat} {e : TypeId} {v : Value} {xs : List Value} (h : w.ownsRow base e size v n xs) (hb : b ≤ base) : w.ownsRow b e size v n xs := by
  refine ⟨h.1, ?_⟩
  rcases h.2 with h | ⟨g, cap, cur, rfl, q1, q2, q3⟩
  · exact Or.inl h
  · exact Or.inr ⟨g, cap, cur, rfl, Nat.le_trans hb q1, q2, q3⟩
theorem rounds_step (l : List UInt8) (v : V8) (n : Nat) : rounds (wl l 64) v (n + 1) = rnd (rounds (wl l 64) v n) (kc n) (wd l n) := rfl
theorem r03add_ex (x y : UInt32) (w : World) : Calls Tryd.prog 26 #[.int .i64 (x.toNat : Int), .int .i64 (y.toNat : Int)] w fun e w' => ∃ z : UInt32, e = .returned (.int .i64 (z.toNat : Int)) ∧ Hid (z = x + y) ∧ w = w' :=
  (r03add_any x y w).mono fun _ _ h => ⟨_, h.1, Lib.hid rfl, h.2⟩
theorem wp_build8 {P : Program} {o : Oper} {a : Act} {w : World} {K : Act → World → Prop} {Q : Exit → Act → World → Prop} (t e : TypeId) (x0 x1 x2 x3 x4 x5 x6 x7 : Operand) (ho : o.op = .buildSlice t 8 #[(0, x0), (1, x1), (2, x2), (3, x3), (4, x4), (5, x5), (6, x6), (7, x7)])
    (ie : TypeInfo) (hu : P.underlying t = some (.slice e)) (hie : P.info? e = some ie) (hz : ie.zero = some (.int .i64 0)) (hsz : ie.size = 1) (n0 n1 n2 n3 n4 n5 n6 n7 : Int) (h0 : a.eval x0 = .int .i64 n0) (h1 : a.eval x1 = .int .i64 n1) (h2 : a.eval x2 = .int .i64 n2) (h3 : a.eval x3 = .int .i64 n3) (h4 : a.eval x4 = .int .i64 n4) (h5 : a.eval x5 = .int .i64 n5) (h6 : a.eval x6 = .int .i64 n6) (h7 : a.eval x7 = .int .i64 n7)
    (h : K (a.put o.dst (.slice (some ⟨w.heap.size, 0, none⟩) 8 8)) (w.alloc (.cells #[.int .i64 n0, .int .i64 n1, .int .i64 n2, .int .i64 n3, .int .i64 n4, .int .i64 n5, .int .i64 n6, .int .i64 n7] e))) : o.wp P a w K Q := by
  refine wp_buildSlice t e 8 _ ho _ ie (.int .i64 0) hu hie hz (by rw [hsz]; decide) (by rw [hsz]; decide) ?_ h
  rw [hsz]
  simp only [List.map_toArray, List.map_cons, List.map_nil, h0, h1, h2, h3, h4, h5, h6, h7]
  simp [go_sem]
theorem rnd_eq (V : V8) (k w : UInt32) : rnd V k w = ⟨V.h + bs1 V.e + chw V.e V.f V.g + k + w + (bs0 V.a + mjw V.a V.b V.c), V.a, V.b, V.c, V.d + (V.h + bs1 V.e + chw V.e V.f V.g + k + w), V.e, V.f, V.g⟩ := rfl
attribute [local irreducible] wl wd kc rounds kN wN be4 sg0 sg1 bs0 bs1 chw mjw blk outN

set_option maxRecDepth 100000 in
set_option maxHeartbeats 16000000 in
theorem block_any (v : V8) (s : ByteArray) (l : List UInt8) (hs : s.data.toList = l) (hl : l.length = 64) (gh ch gk ck : Nat) (w : World) (hh : w.rangeAt gh 0 (nv (vN v))) (hhl : gh < w.heap.size) (hk : NAt w gk kN) :
    Calls Tryd.prog 14 #[.slice (some ⟨gh, 0, none⟩) 8 ch, .string s, .slice (some ⟨gk, 0, none⟩) 64 ck] w fun e w' => ∃ r, e = .returned r ∧ w'.ownsRow w.heap.size 3 1 r 8 (nv (vN (blk v l))) ∧ Below w.heap.size w w' := by
  obtain ⟨i0, hi, hz0, hz1, hz2⟩ := info_parts' info_i64'
  have HIX := Lib.hid (fun i hi w => str_idx s l hs i (by rw [hl]; exact hi) w)
  have HSN := Lib.hid (wN_snoc l)
  have HLO := Lib.hid (wd_low l)
  have HHI := Lib.hid (wd_high l)
  have HWA := Lib.hid (wN_at l)
  have HWL := Lib.hid (wN_len l)
  have HW0 := Lib.hid (wN_zero l)
  have HKL := Lib.hid kN_lget
  have HKN := Lib.hid kN_len
  have HRS := Lib.hid (rounds_step l v)
  have HR0 : Hid (rounds (wl l 64) v 0 = v) := Lib.hid (by with_unfolding_all rfl)
  have HBO := Lib.hid (blk_out v l)
  have HH := Lib.hid hh
  have HK := Lib.hid hk
  have hkl := hk.2
  clear hh hk hs hl
  go_enter Tryd.func14, Tryd.ntmps14
  go_wp2_with fail
  generalize hgb : w.heap.size = B at *
  have HGB := Lib.hid hgb
  clear hgb
  go_loopw [7, 8] (fun r i wi => ∃ k : Nat, i = .int .i64 k ∧ k ≤ 64 ∧ Hid (wi.ownsRow B 3 1 r k (nv (wN l k))) ∧ Hid (Below B w wi)) (fun _ i _ => 64 - (intOf i).toNat)
  case atStart => exact ⟨0, rfl, by omega, Lib.hid (by rw [HW0.out]; exact World.ownsRow_nil _ _ _ _), Lib.hid (Below.refl _ _)⟩
  case round =>
    obtain ⟨k, rfl, hk, HO, HB⟩ := hrel
    have HSZ : B ≤ wr.heap.size := by rw [← HGB.out]; exact HB.out.size
    by_cases hlt : k < 64
    · have hli : (k : Int) < 64 := by omega
      have HS1 := Lib.hid (HSN.out k hlt)
      by_cases h16 : k < 16
      · as_aux_lemma =>
        have h16' : (k : Int) < 16 := by omega
        obtain ⟨a, c, rfl, hc1, hc2⟩ := own_sl HO.out
        have ix0 := HIX.out (4 * k) (by omega)
        have ix1 := HIX.out (4 * k + 1) (by omega)
        have ix2 := HIX.out (4 * k + 2) (by omega)
        have ix3 := HIX.out (4 * k + 3) (by omega)
        rw [show ((4 * k : Nat) : Int) = 4 * (k : Int) from by push_cast; rfl] at ix0
        rw [show ((4 * k + 1 : Nat) : Int) = 4 * (k : Int) + 1 from by push_cast; rfl] at ix1
        rw [show ((4 * k + 2 : Nat) : Int) = 4 * (k : Int) + 2 from by push_cast; rfl] at ix2
        rw [show ((4 * k + 3 : Nat) : Int) = 4 * (k : Int) + 3 from by push_cast; rfl] at ix3
        have hbe := be4_int (bAt l (4 * k)) (bAt l (4 * k + 1)) (bAt l (4 * k + 2)) (bAt l (4 * k + 3))
        rw [← HLO.out k h16] at hbe
        have HBE := Lib.hid hbe
        clear hbe
        have l0 := (bAt l (4 * k)).toNat_lt
        have l1 := (bAt l (4 * k + 1)).toNat_lt
        have l2 := (bAt l (4 * k + 2)).toNat_lt
        have l3 := (bAt l (4 * k + 3)).toNat_lt
        generalize (bAt l (4 * k)).toNat = b0 at *
        generalize (bAt l (4 * k + 1)).toNat = b1 at *
        generalize (bAt l (4 * k + 2)).toNat = b2 at *
        generalize (bAt l (4 * k + 3)).toNat = b3 at *
        have y0 := wrap64 (4 * (k : Int)) (by omega) (by omega)
        have y1 := wrap64 (4 * (k : Int) + 1) (by omega) (by omega)
        have y2 := wrap64 (4 * (k : Int) + 2) (by omega) (by omega)
        have y3 := wrap64 (4 * (k : Int) + 3) (by omega) (by omega)
        have z0 := wrap64 (b0 : Int) (by omega) (by omega)
        have z1 := wrap64 (b1 : Int) (by omega) (by omega)
        have z2 := wrap64 (b2 : Int) (by omega) (by omega)
        have z3 := wrap64 (b3 : Int) (by omega) (by omega)
        have m0 := wrap64 ((b0 : Int) * 16777216) (by omega) (by omega)
        have m1 := wrap64 ((b1 : Int) * 65536) (by omega) (by omega)
        have m2 := wrap64 ((b2 : Int) * 256) (by omega) (by omega)
        have s1 := wrap64 ((b0 : Int) * 16777216 + (b1 : Int) * 65536) (by omega) (by omega)
        have s2 := wrap64 ((b0 : Int) * 16777216 + (b1 : Int) * 65536 + (b2 : Int) * 256) (by omega) (by omega)
        have s3 := wrap64 ((b0 : Int) * 16777216 + (b1 : Int) * 65536 + (b2 : Int) * 256 + (b3 : Int)) (by omega) (by omega)
        go_wp2_with fail
        refine wp_region_lin (S := (fun _ => True)) [(0, true), (1, true), (2, true), (3, true), (4, true), (5, true), (6, true), (7, true), (8, true), (9, true), (10, true), (11, true), (12, true), (13, true), (14, true), (15, true), (16, true), (17, true), (18, true), (19, true), (20, true), (21, true), (22, true), (23, true), (24, true), (25, true), (26, true), (27, true), (28, true), (29, true), (30, false), (31, false), (32, true)] (by kernel_rfl) (by kernel_rfl) rfl (by kernel_rfl) ?_ (fun hHeld => ?_)
        · (try dsimp only); try exact trivial
        (refine wpL_calm (o := { dst := some 22, op := Go.Op.move (Go.Operand.tmp 7), type := 33, pos := "ref.go:139", after := #[], guard := none }) (v := ?_) rfl (Or.inl ⟨by rfl, ?_⟩) ?_; rotate_left; (focus (intro w hSw; (try dsimp only at hSw); go_simp; (try (with_reducible rfl)); done)); try simp only [Act.put, List.setIfInBounds_toArray, List.set_cons_zero, List.set_cons_succ])
        (refine wpL_calm (o := { dst := some 23, op := Go.Op.move (Go.Operand.tmp 1), type := 9, pos := "ref.go:139", after := #[], guard := none }) (v := ?_) rfl (Or.inl ⟨by rfl, ?_⟩) ?_; rotate_left; (focus (intro w hSw; (try dsimp only at hSw); go_simp; (try (with_reducible rfl)); done)); try simp only [Act.put, List.setIfInBounds_toArray, List.set_cons_zero, List.set_cons_succ])
        (refine wpL_calm (o := { dst := some 24, op := Go.Op.move (Go.Operand.tmp 8), type := 3, pos := "ref.go:139", after := #[], guard := none }) (v := ?_) rfl (Or.inl ⟨by rfl, ?_⟩) ?_; rotate_left; (focus (intro w hSw; (try dsimp only at hSw); go_simp; (try (with_reducible rfl)); done)); try simp only [Act.put, List.setIfInBounds_toArray, List.set_cons_zero, List.set_cons_succ])
        (refine wpL_calm (o := { dst := some 25, op := Go.Op.binOp Go.BinOp.mul 3 (Go.Operand.const (Go.Value.int Go.IntKind.i64 4)) (Go.Operand.tmp 24) 3, type := 3, pos := "ref.go:139", after := #[{ on := 2, ground := Go.Ground.data }], guard := none }) (v := ?_) rfl (Or.inl ⟨by rfl, ?_⟩) ?_; rotate_left; (focus (intro w hSw; (try dsimp only at hSw); go_simp; (try (with_reducible rfl)); done)); try simp only [Act.put, List.setIfInBounds_toArray, List.set_cons_zero, List.set_cons_succ])
        (refine wpL_calm (o := { dst := some 26, op := Go.Op.index 9 (Go.Operand.tmp 23) (Go.Operand.tmp 25), type := 5, pos := "ref.go:139", after := #[{ on := 1, ground := Go.Ground.data }, { on := 3, ground := Go.Ground.data }], guard := none }) (v := ?_) rfl (Or.inl ⟨by rfl, ?_⟩) ?_; rotate_left; (focus (intro w hSw; (try dsimp only at hSw); go_simp; (try (with_reducible rfl)); done)); try simp only [Act.put, List.setIfInBounds_toArray, List.set_cons_zero, List.set_cons_succ])
        (refine wpL_calm (o := { dst := some 27, op := Go.Op.convert 5 3 (Go.Operand.tmp 26), type := 3, pos := "ref.go:139", after := #[{ on := 4, ground := Go.Ground.data }], guard := none }) (v := ?_) rfl (Or.inl ⟨by rfl, ?_⟩) ?_; rotate_left; (focus (intro w hSw; (try dsimp only at hSw); go_simp; (try (with_reducible rfl)); done)); try simp only [Act.put, List.setIfInBounds_toArray, List.set_cons_zero, List.set_cons_succ])
        (refine wpL_calm (o := { dst := some 28, op := Go.Op.binOp Go.BinOp.mul 3 (Go.Operand.tmp 27) (Go.Operand.const (Go.Value.int Go.IntKind.i64 16777216)) 3, type := 3, pos := "ref.go:139", after := #[{ on := 5, ground := Go.Ground.data }], guard := none }) (v := ?_) rfl (Or.inl ⟨by rfl, ?_⟩) ?_; rotate_left; (focus (intro w hSw; (try dsimp only at hSw); go_simp; (try (with_reducible rfl)); done)); try simp only [Act.put, List.setIfInBounds_toArray, List.set_cons_zero, List.set_cons_succ])
        (refine wpL_calm (o := { dst := some 29, op := Go.Op.move (Go.Operand.tmp 1), type := 9, pos := "ref.go:139", after := #[], guard := none }) (v := ?_) rfl (Or.inl ⟨by rfl, ?_⟩) ?_; rotate_left; (focus (intro w hSw; (try dsimp only at hSw); go_simp; (try (with_reducible rfl)); done)); try simp only [Act.put, List.setIfInBounds_toArray, List.set_cons_zero, List.set_cons_succ])
        (refine wpL_calm (o := { dst := some 30, op := Go.Op.move (Go.Operand.tmp 8), type := 3, pos := "ref.go:139", after := #[], guard := none }) (v := ?_) rfl (Or.inl ⟨by rfl, ?_⟩) ?_; rotate_left; (focus (intro w hSw; (try dsimp only at hSw); go_simp; (try (with_reducible rfl)); done)); try simp only [Act.put, List.setIfInBounds_toArray, List.set_cons_zero, List.set_cons_succ])
        (refine wpL_calm (o := { dst := some 31, op := Go.Op.binOp Go.BinOp.mul 3 (Go.Operand.const (Go.Value.int Go.IntKind.i64 4)) (Go.Operand.tmp 30) 3, type := 3, pos := "ref.go:139", after := #[{ on := 8, ground := Go.Ground.data }], guard := none }) (v := ?_) rfl (Or.inl ⟨by rfl, ?_⟩) ?_; rotate_left; (focus (intro w hSw; (try dsimp only at hSw); go_simp; (try (with_reducible rfl)); done)); try simp only [Act.put, List.setIfInBounds_toArray, List.set_cons_zero, List.set_cons_succ])
        (refine wpL_calm (o := { dst := some 32, op := Go.Op.binOp Go.BinOp.add 3 (Go.Operand.tmp 31) (Go.Operand.const (Go.Value.int Go.IntKind.i64 1)) 3, type := 3, pos := "ref.go:139", after := #[{ on := 9, ground := Go.Ground.data }], guard := none }) (v := ?_) rfl (Or.inl ⟨by rfl, ?_⟩) ?_; rotate_left; (focus (intro w hSw; (try dsimp only at hSw); go_simp; (try (with_reducible rfl)); done)); try simp only [Act.put, List.setIfInBounds_toArray, List.set_cons_zero, List.set_cons_succ])
        (refine wpL_calm (o := { dst := some 33, op := Go.Op.index 9 (Go.Operand.tmp 29) (Go.Operand.tmp 32), type := 5, pos := "ref.go:139", after := #[{ on := 7, ground := Go.Ground.data }, { on := 10, ground := Go.Ground.data }], guard := none }) (v := ?_) rfl (Or.inl ⟨by rfl, ?_⟩) ?_; rotate_left; (focus (intro w hSw; (try dsimp only at hSw); go_simp; (try (with_reducible rfl)); done)); try simp only [Act.put, List.setIfInBounds_toArray, List.set_cons_zero, List.set_cons_succ])
        (refine wpL_calm (o := { dst := some 34, op := Go.Op.convert 5 3 (Go.Operand.tmp 33), type := 3, pos := "ref.go:139", after := #[{ on := 11, ground := Go.Ground.data }], guard := none }) (v := ?_) rfl (Or.inl ⟨by rfl, ?_⟩) ?_; rotate_left; (focus (intro w hSw; (try dsimp only at hSw); go_simp; (try (with_reducible rfl)); done)); try simp only [Act.put, List.setIfInBounds_toArray, List.set_cons_zero, List.set_cons_succ])
        (refine wpL_calm (o := { dst := some 35, op := Go.Op.binOp Go.BinOp.mul 3 (Go.Operand.tmp 34) (Go.Operand.const (Go.Value.int Go.IntKind.i64 65536)) 3, type := 3, pos := "ref.go:139", after := #[{ on := 12, ground := Go.Ground.data }], guard := none }) (v := ?_) rfl (Or.inl ⟨by rfl, ?_⟩) ?_; rotate_left; (focus (intro w hSw; (try dsimp only at hSw); go_simp; (try (with_reducible rfl)); done)); try simp only [Act.put, List.setIfInBounds_toArray, List.set_cons_zero, List.set_cons_succ])
        (refine wpL_calm (o := { dst := some 36, op := Go.Op.binOp Go.BinOp.add 3 (Go.Operand.tmp 28) (Go.Operand.tmp 35) 3, type := 3, pos := "ref.go:139", after := #[{ on := 6, ground := Go.Ground.data }, { on := 13, ground := Go.Ground.data }], guard := none }) (v := ?_) rfl (Or.inl ⟨by rfl, ?_⟩) ?_; rotate_left; (focus (intro w hSw; (try dsimp only at hSw); go_simp; (try (with_reducible rfl)); done)); try simp only [Act.put, List.setIfInBounds_toArray, List.set_cons_zero, List.set_cons_succ])
        (refine wpL_calm (o := { dst := some 37, op := Go.Op.move (Go.Operand.tmp 1), type := 9, pos := "ref.go:139", after := #[], guard := none }) (v := ?_) rfl (Or.inl ⟨by rfl, ?_⟩) ?_; rotate_left; (focus (intro w hSw; (try dsimp only at hSw); go_simp; (try (with_reducible rfl)); done)); try simp only [Act.put, List.setIfInBounds_toArray, List.set_cons_zero, List.set_cons_succ])
        (refine wpL_calm (o := { dst := some 38, op := Go.Op.move (Go.Operand.tmp 8), type := 3, pos := "ref.go:139", after := #[], guard := none }) (v := ?_) rfl (Or.inl ⟨by rfl, ?_⟩) ?_; rotate_left; (focus (intro w hSw; (try dsimp only at hSw); go_simp; (try (with_reducible rfl)); done)); try simp only [Act.put, List.setIfInBounds_toArray, List.set_cons_zero, List.set_cons_succ])
        (refine wpL_calm (o := { dst := some 39, op := Go.Op.binOp Go.BinOp.mul 3 (Go.Operand.const (Go.Value.int Go.IntKind.i64 4)) (Go.Operand.tmp 38) 3, type := 3, pos := "ref.go:139", after := #[{ on := 16, ground := Go.Ground.data }], guard := none }) (v := ?_) rfl (Or.inl ⟨by rfl, ?_⟩) ?_; rotate_left; (focus (intro w hSw; (try dsimp only at hSw); go_simp; (try (with_reducible rfl)); done)); try simp only [Act.put, List.setIfInBounds_toArray, List.set_cons_zero, List.set_cons_succ])
        (refine wpL_calm (o := { dst := some 40, op := Go.Op.binOp Go.BinOp.add 3 (Go.Operand.tmp 39) (Go.Operand.const (Go.Value.int Go.IntKind.i64 2)) 3, type := 3, pos := "ref.go:139", after := #[{ on := 17, ground := Go.Ground.data }], guard := none }) (v := ?_) rfl (Or.inl ⟨by rfl, ?_⟩) ?_; rotate_left; (focus (intro w hSw; (try dsimp only at hSw); go_simp; (try (with_reducible rfl)); done)); try simp only [Act.put, List.setIfInBounds_toArray, List.set_cons_zero, List.set_cons_succ])
        (refine wpL_calm (o := { dst := some 41, op := Go.Op.index 9 (Go.Operand.tmp 37) (Go.Operand.tmp 40), type := 5, pos := "ref.go:139", after := #[{ on := 15, ground := Go.Ground.data }, { on := 18, ground := Go.Ground.data }], guard := none }) (v := ?_) rfl (Or.inl ⟨by rfl, ?_⟩) ?_; rotate_left; (focus (intro w hSw; (try dsimp only at hSw); go_simp; (try (with_reducible rfl)); done)); try simp only [Act.put, List.setIfInBounds_toArray, List.set_cons_zero, List.set_cons_succ])
        (refine wpL_calm (o := { dst := some 42, op := Go.Op.convert 5 3 (Go.Operand.tmp 41), type := 3, pos := "ref.go:139", after := #[{ on := 19, ground := Go.Ground.data }], guard := none }) (v := ?_) rfl (Or.inl ⟨by rfl, ?_⟩) ?_; rotate_left; (focus (intro w hSw; (try dsimp only at hSw); go_simp; (try (with_reducible rfl)); done)); try simp only [Act.put, List.setIfInBounds_toArray, List.set_cons_zero, List.set_cons_succ])
        (refine wpL_calm (o := { dst := some 43, op := Go.Op.binOp Go.BinOp.mul 3 (Go.Operand.tmp 42) (Go.Operand.const (Go.Value.int Go.IntKind.i64 256)) 3, type := 3, pos := "ref.go:139", after := #[{ on := 20, ground := Go.Ground.data }], guard := none }) (v := ?_) rfl (Or.inl ⟨by rfl, ?_⟩) ?_; rotate_left; (focus (intro w hSw; (try dsimp only at hSw); go_simp; (try (with_reducible rfl)); done)); try simp only [Act.put, List.setIfInBounds_toArray, List.set_cons_zero, List.set_cons_succ])
        (refine wpL_calm (o := { dst := some 44, op := Go.Op.binOp Go.BinOp.add 3 (Go.Operand.tmp 36) (Go.Operand.tmp 43) 3, type := 3, pos := "ref.go:139", after := #[{ on := 14, ground := Go.Ground.data }, { on := 21, ground := Go.Ground.data }], guard := none }) (v := ?_) rfl (Or.inl ⟨by rfl, ?_⟩) ?_; rotate_left; (focus (intro w hSw; (try dsimp only at hSw); go_simp; (try (with_reducible rfl)); done)); try simp only [Act.put, List.setIfInBounds_toArray, List.set_cons_zero, List.set_cons_succ])
        (refine wpL_calm (o := { dst := some 45, op := Go.Op.move (Go.Operand.tmp 1), type := 9, pos := "ref.go:139", after := #[], guard := none }) (v := ?_) rfl (Or.inl ⟨by rfl, ?_⟩) ?_; rotate_left; (focus (intro w hSw; (try dsimp only at hSw); go_simp; (try (with_reducible rfl)); done)); try simp only [Act.put, List.setIfInBounds_toArray, List.set_cons_zero, List.set_cons_succ])
        (refine wpL_calm (o := { dst := some 46, op := Go.Op.move (Go.Operand.tmp 8), type := 3, pos := "ref.go:139", after := #[], guard := none }) (v := ?_) rfl (Or.inl ⟨by rfl, ?_⟩) ?_; rotate_left; (focus (intro w hSw; (try dsimp only at hSw); go_simp; (try (with_reducible rfl)); done)); try simp only [Act.put, List.setIfInBounds_toArray, List.set_cons_zero, List.set_cons_succ])
        (refine wpL_calm (o := { dst := some 47, op := Go.Op.binOp Go.BinOp.mul 3 (Go.Operand.const (Go.Value.int Go.IntKind.i64 4)) (Go.Operand.tmp 46) 3, type := 3, pos := "ref.go:139", after := #[{ on := 24, ground := Go.Ground.data }], guard := none }) (v := ?_) rfl (Or.inl ⟨by rfl, ?_⟩) ?_; rotate_left; (focus (intro w hSw; (try dsimp only at hSw); go_simp; (try (with_reducible rfl)); done)); try simp only [Act.put, List.setIfInBounds_toArray, List.set_cons_zero, List.set_cons_succ])
        (refine wpL_calm (o := { dst := some 48, op := Go.Op.binOp Go.BinOp.add 3 (Go.Operand.tmp 47) (Go.Operand.const (Go.Value.int Go.IntKind.i64 3)) 3, type := 3, pos := "ref.go:139", after := #[{ on := 25, ground := Go.Ground.data }], guard := none }) (v := ?_) rfl (Or.inl ⟨by rfl, ?_⟩) ?_; rotate_left; (focus (intro w hSw; (try dsimp only at hSw); go_simp; (try (with_reducible rfl)); done)); try simp only [Act.put, List.setIfInBounds_toArray, List.set_cons_zero, List.set_cons_succ])
        (refine wpL_calm (o := { dst := some 49, op := Go.Op.index 9 (Go.Operand.tmp 45) (Go.Operand.tmp 48), type := 5, pos := "ref.go:139", after := #[{ on := 23, ground := Go.Ground.data }, { on := 26, ground := Go.Ground.data }], guard := none }) (v := ?_) rfl (Or.inl ⟨by rfl, ?_⟩) ?_; rotate_left; (focus (intro w hSw; (try dsimp only at hSw); go_simp; (try (with_reducible rfl)); done)); try simp only [Act.put, List.setIfInBounds_toArray, List.set_cons_zero, List.set_cons_succ])
        (refine wpL_calm (o := { dst := some 50, op := Go.Op.convert 5 3 (Go.Operand.tmp 49), type := 3, pos := "ref.go:139", after := #[{ on := 27, ground := Go.Ground.data }], guard := none }) (v := ?_) rfl (Or.inl ⟨by rfl, ?_⟩) ?_; rotate_left; (focus (intro w hSw; (try dsimp only at hSw); go_simp; (try (with_reducible rfl)); done)); try simp only [Act.put, List.setIfInBounds_toArray, List.set_cons_zero, List.set_cons_succ])
        (refine wpL_calm (o := { dst := some 51, op := Go.Op.binOp Go.BinOp.add 3 (Go.Operand.tmp 44) (Go.Operand.tmp 50) 3, type := 3, pos := "ref.go:139", after := #[{ on := 22, ground := Go.Ground.data }, { on := 28, ground := Go.Ground.data }], guard := none }) (v := ?_) rfl (Or.inl ⟨by rfl, ?_⟩) ?_; rotate_left; (focus (intro w hSw; (try dsimp only at hSw); go_simp; (try (with_reducible rfl)); done)); try simp only [Act.put, List.setIfInBounds_toArray, List.set_cons_zero, List.set_cons_succ])
        refine wpL_loud1 (o := { dst := some 52, op := Go.Op.buildSlice 33 1 #[(0, Go.Operand.tmp 51)], type := 33, pos := "ref.go:139", after := #[{ on := 29, ground := Go.Ground.data }], guard := none }) rfl (fun K hK => ?_)
        go_simp
        refine hK.out _ _ ?_ (fun hHeld => ?_)
        · (try dsimp only); try trivial
        clear hK K
        try simp only [Act.put, List.setIfInBounds_toArray, List.set_cons_zero, List.set_cons_succ]
        refine wpL_loud1 (o := { dst := some 53, op := Go.Op.call { callee := Go.Callee.builtin Go.Builtin.append, args := #[Go.Operand.tmp 22, Go.Operand.tmp 52], argTypes := #[33, 33] }, type := 33, pos := "ref.go:139", after := #[{ on := 0, ground := Go.Ground.data }, { on := 30, ground := Go.Ground.data }], guard := none }) rfl (fun K hK => ?_)
        (rw [if_pos (by rfl)]; refine wp_append_own _ _ _ 33 rfl B 3 i0 (.int .i64 0) 1 8 Tryd.underlying33 hi hz0 hz1 hz2 rfl (by decide) _ _ _ rfl (own_alloc HO.out _) ⟨wr.heap.size, 0, none⟩ 1 1 [.int .i64 ((b0 : Int) * 16777216 + (b1 : Int) * 65536 + (b2 : Int) * 256 + (b3 : Int))] rfl rfl (one_dcell wr _ _) (by simp [Value.oneCell']) (by unfold maxLen; omega) (by omega) (by simp; omega) ?_; intro v2 w2 O2 G2 _)
        try go_wp2_with fail
        refine hK.out _ _ ?_ (fun hHeld => ?_)
        · (try dsimp only); try trivial
        clear hK K
        try simp only [Act.put, List.setIfInBounds_toArray, List.set_cons_zero, List.set_cons_succ]
        (refine wpL_calm (o := { dst := some 7, op := Go.Op.assign (Go.Operand.tmp 53), type := 33, pos := "ref.go:139", after := #[{ on := 31, ground := Go.Ground.data }, { on := 31, ground := Go.Ground.chain }, { on := 0, ground := Go.Ground.phase }, { on := 1, ground := Go.Ground.phase }, { on := 2, ground := Go.Ground.phase }, { on := 3, ground := Go.Ground.phase }, { on := 4, ground := Go.Ground.phase }, { on := 5, ground := Go.Ground.phase }, { on := 6, ground := Go.Ground.phase }, { on := 7, ground := Go.Ground.phase }, { on := 8, ground := Go.Ground.phase }, { on := 9, ground := Go.Ground.phase }, { on := 10, ground := Go.Ground.phase }, { on := 11, ground := Go.Ground.phase }, { on := 12, ground := Go.Ground.phase }, { on := 13, ground := Go.Ground.phase }, { on := 14, ground := Go.Ground.phase }, { on := 15, ground := Go.Ground.phase }, { on := 16, ground := Go.Ground.phase }, { on := 17, ground := Go.Ground.phase }, { on := 18, ground := Go.Ground.phase }, { on := 19, ground := Go.Ground.phase }, { on := 20, ground := Go.Ground.phase }, { on := 21, ground := Go.Ground.phase }, { on := 22, ground := Go.Ground.phase }, { on := 23, ground := Go.Ground.phase }, { on := 24, ground := Go.Ground.phase }, { on := 25, ground := Go.Ground.phase }, { on := 26, ground := Go.Ground.phase }, { on := 27, ground := Go.Ground.phase }, { on := 28, ground := Go.Ground.phase }, { on := 29, ground := Go.Ground.phase }, { on := 30, ground := Go.Ground.phase }, { on := 31, ground := Go.Ground.phase }], guard := none }) (v := ?_) rfl (Or.inl ⟨by rfl, ?_⟩) ?_; rotate_left; (focus (intro w hSw; (try dsimp only at hSw); go_simp; (try (with_reducible rfl)); done)); try simp only [Act.put, List.setIfInBounds_toArray, List.set_cons_zero, List.set_cons_succ])
        refine wpL_nil ?_
        refine NoPanic.normal ?_
        have HO2 := Lib.hid O2
        clear O2 y0 y1 y2 y3 z0 z1 z2 z3 m0 m1 m2 s1 s2 s3 ix0 ix1 ix2 ix3
        go_wp2_with fail
        have hB2 : Below B w w2 := ((HB.out.alloc HSZ _).drew).grown G2 (by simp; omega) (fun j e => (HO.out.lt j e).1)
        go_roundw
        case rel => exact ⟨k + 1, by go_num, by omega, Lib.hid (by rw [HS1.out, nv_app]; have := HO2.out; rw [HBE.out] at this; exact this), Lib.hid hB2⟩
        case measure => simp [intOf]; omega
      · as_aux_lemma =>
        have h16' : ¬ (k : Int) < 16 := by omega
        obtain ⟨gw, cw, rfl, hc1, hbg, hgw, hrw⟩ := own_rowI HO.out (by omega)
        have HN : NAt wr gw (wN l k) := ⟨hrw, hgw⟩
        have HHI1 := Lib.hid (HHI.out k hlt (by omega))
        have c2 := HN.cell (k - 2) (by rw [HWL.out]; omega)
        have c7 := HN.cell (k - 7) (by rw [HWL.out]; omega)
        have c15 := HN.cell (k - 15) (by rw [HWL.out]; omega)
        have c16 := HN.cell (k - 16) (by rw [HWL.out]; omega)
        rw [HWA.out k _ (by omega) hk] at c2 c7 c15 c16
        have e2 : IntKind.i64.wrap ((k : Int) - 2) = ((k - 2 : Nat) : Int) := by rw [wrap64 _ (by omega) (by omega)]; omega
        have e7 : IntKind.i64.wrap ((k : Int) - 7) = ((k - 7 : Nat) : Int) := by rw [wrap64 _ (by omega) (by omega)]; omega
        have r15 : (k : Int) - 15 = ((k - 15 : Nat) : Int) := by omega
        have r16 : (k : Int) - 16 = ((k - 16 : Nat) : Int) := by omega
        have t2 : k - 2 < k := by omega
        have t7 : k - 7 < k := by omega
        have t15 : k - 15 < k := by omega
        have t16 : k - 16 < k := by omega
        have u15 : (15 : Int) ≤ (k : Int) := by omega
        have u16 : (16 : Int) ≤ (k : Int) := by omega
        generalize wd l (k - 2) = x2 at *
        generalize wd l (k - 7) = x7 at *
        generalize wd l (k - 15) = x15 at *
        generalize wd l (k - 16) = x16 at *
        generalize k - 2 = j2 at *
        generalize k - 7 = j7 at *
        generalize k - 15 = j15 at *
        generalize k - 16 = j16 at *
        have t2' : (j2 : Int) < (k : Int) := by omega
        have t7' : (j7 : Int) < (k : Int) := by omega
        have t15' : (j15 : Int) < (k : Int) := by omega
        have t16' : (j16 : Int) < (k : Int) := by omega
        have HR15 := Lib.hid r15
        have HR16 := Lib.hid r16
        clear r15 r16 hrw HN
        go_wp2_with fail
        refine wp_region_lin (S := (fun w' => w'.cell? ⟨gw, j2, none⟩ = some (.int .i64 (x2.toNat : Int)) ∧ w'.cell? ⟨gw, j7, none⟩ = some (.int .i64 (x7.toNat : Int)))) [(0, true), (1, true), (2, true), (3, true), (4, true), (5, true), (7, true), (8, true), (9, true), (10, true), (11, true), (6, false), (12, false), (13, true)] (by kernel_rfl) (by kernel_rfl) rfl (by kernel_rfl) ?_ (fun hHeld => ?_)
        · (try dsimp only); exact ⟨c2, c7⟩
        (refine wpL_calm (o := { dst := some 54, op := Go.Op.move (Go.Operand.tmp 7), type := 33, pos := "ref.go:142", after := #[], guard := none }) (v := ?_) rfl (Or.inl ⟨by rfl, ?_⟩) ?_; rotate_left; (focus (intro w hSw; (try dsimp only at hSw); go_simp; (try (with_reducible rfl)); done)); try simp only [Act.put, List.setIfInBounds_toArray, List.set_cons_zero, List.set_cons_succ])
        (refine wpL_calm (o := { dst := some 55, op := Go.Op.move (Go.Operand.tmp 8), type := 3, pos := "ref.go:142", after := #[], guard := none }) (v := ?_) rfl (Or.inl ⟨by rfl, ?_⟩) ?_; rotate_left; (focus (intro w hSw; (try dsimp only at hSw); go_simp; (try (with_reducible rfl)); done)); try simp only [Act.put, List.setIfInBounds_toArray, List.set_cons_zero, List.set_cons_succ])
        (refine wpL_calm (o := { dst := some 56, op := Go.Op.binOp Go.BinOp.sub 3 (Go.Operand.tmp 55) (Go.Operand.const (Go.Value.int Go.IntKind.i64 2)) 3, type := 3, pos := "ref.go:142", after := #[{ on := 1, ground := Go.Ground.data }], guard := none }) (v := ?_) rfl (Or.inl ⟨by rfl, ?_⟩) ?_; rotate_left; (focus (intro w hSw; (try dsimp only at hSw); go_simp; (try (with_reducible rfl)); done)); try simp only [Act.put, List.setIfInBounds_toArray, List.set_cons_zero, List.set_cons_succ])
        (refine wpL_calm (o := { dst := some 57, op := Go.Op.indexAddr 33 (Go.Operand.tmp 54) (Go.Operand.tmp 56), type := 0, pos := "ref.go:142", after := #[{ on := 0, ground := Go.Ground.data }, { on := 2, ground := Go.Ground.data }], guard := none }) (v := ?_) rfl (Or.inl ⟨by rfl, ?_⟩) ?_; rotate_left; (focus (intro w hSw; (try dsimp only at hSw); go_simp; (try (with_reducible rfl)); done)); try simp only [Act.put, List.setIfInBounds_toArray, List.set_cons_zero, List.set_cons_succ])
        (refine wpL_calm (o := { dst := some 58, op := Go.Op.load 3 (Go.Operand.tmp 57), type := 3, pos := "ref.go:142", after := #[{ on := 3, ground := Go.Ground.data }], guard := none }) (v := ?_) rfl (Or.inl ⟨by rfl, ?_⟩) ?_; rotate_left; (focus (intro w hSw; (try dsimp only at hSw); go_simp; (try (with_reducible rfl)); done)); try simp only [Act.put, List.setIfInBounds_toArray, List.set_cons_zero, List.set_cons_succ])
        (refine wpL_calm (o := { dst := some 59, op := Go.Op.build 56 #[(0, Go.Operand.const (Go.Value.int Go.IntKind.i64 17)), (1, Go.Operand.const (Go.Value.int Go.IntKind.i64 19)), (2, Go.Operand.const (Go.Value.int Go.IntKind.i64 10))], type := 56, pos := "ref.go:142", after := #[], guard := none }) (v := ?_) rfl (Or.inl ⟨by rfl, ?_⟩) ?_; rotate_left; (focus (intro w hSw; (try dsimp only at hSw); go_simp; (try (with_reducible rfl)); done)); try simp only [Act.put, List.setIfInBounds_toArray, List.set_cons_zero, List.set_cons_succ])
        (refine wpL_calm (o := { dst := some 61, op := Go.Op.move (Go.Operand.tmp 7), type := 33, pos := "ref.go:142", after := #[], guard := none }) (v := ?_) rfl (Or.inl ⟨by rfl, ?_⟩) ?_; rotate_left; (focus (intro w hSw; (try dsimp only at hSw); go_simp; (try (with_reducible rfl)); done)); try simp only [Act.put, List.setIfInBounds_toArray, List.set_cons_zero, List.set_cons_succ])
        (refine wpL_calm (o := { dst := some 62, op := Go.Op.move (Go.Operand.tmp 8), type := 3, pos := "ref.go:142", after := #[], guard := none }) (v := ?_) rfl (Or.inl ⟨by rfl, ?_⟩) ?_; rotate_left; (focus (intro w hSw; (try dsimp only at hSw); go_simp; (try (with_reducible rfl)); done)); try simp only [Act.put, List.setIfInBounds_toArray, List.set_cons_zero, List.set_cons_succ])
        (refine wpL_calm (o := { dst := some 63, op := Go.Op.binOp Go.BinOp.sub 3 (Go.Operand.tmp 62) (Go.Operand.const (Go.Value.int Go.IntKind.i64 7)) 3, type := 3, pos := "ref.go:142", after := #[{ on := 8, ground := Go.Ground.data }], guard := none }) (v := ?_) rfl (Or.inl ⟨by rfl, ?_⟩) ?_; rotate_left; (focus (intro w hSw; (try dsimp only at hSw); go_simp; (try (with_reducible rfl)); done)); try simp only [Act.put, List.setIfInBounds_toArray, List.set_cons_zero, List.set_cons_succ])
        (refine wpL_calm (o := { dst := some 64, op := Go.Op.indexAddr 33 (Go.Operand.tmp 61) (Go.Operand.tmp 63), type := 0, pos := "ref.go:142", after := #[{ on := 7, ground := Go.Ground.data }, { on := 9, ground := Go.Ground.data }], guard := none }) (v := ?_) rfl (Or.inl ⟨by rfl, ?_⟩) ?_; rotate_left; (focus (intro w hSw; (try dsimp only at hSw); go_simp; (try (with_reducible rfl)); done)); try simp only [Act.put, List.setIfInBounds_toArray, List.set_cons_zero, List.set_cons_succ])
        (refine wpL_calm (o := { dst := some 65, op := Go.Op.load 3 (Go.Operand.tmp 64), type := 3, pos := "ref.go:142", after := #[{ on := 10, ground := Go.Ground.data }], guard := none }) (v := ?_) rfl (Or.inl ⟨by rfl, ?_⟩) ?_; rotate_left; (focus (intro w hSw; (try dsimp only at hSw); go_simp; (try (with_reducible rfl)); done)); try simp only [Act.put, List.setIfInBounds_toArray, List.set_cons_zero, List.set_cons_succ])
        refine wpL_loud1 (o := { dst := some 60, op := Go.Op.call { callee := Go.Callee.value (Go.Operand.func 27), args := #[Go.Operand.tmp 58, Go.Operand.tmp 59, Go.Operand.const (Go.Value.bool true)], argTypes := #[3, 56, 4] }, type := 3, pos := "ref.go:142", after := #[{ on := 4, ground := Go.Ground.data }, { on := 5, ground := Go.Ground.data }], guard := none }) rfl (fun K hK => ?_)
        (go_simp; go_at_call 27; refine (three_sg1 x2 _).mono ?_; rintro e w1 ⟨rfl, b1⟩)
        try go_wp2_with fail
        refine hK.out _ _ ?_ (fun hHeld => ?_)
        · (try dsimp only); exact ⟨(b1.cell (p := ⟨gw, j2, none⟩) hgw).trans c2, (b1.cell (p := ⟨gw, j7, none⟩) hgw).trans c7⟩
        clear hK K
        try simp only [Act.put, List.setIfInBounds_toArray, List.set_cons_zero, List.set_cons_succ]
        refine wpL_loud1 (o := { dst := some 66, op := Go.Op.call { callee := Go.Callee.value (Go.Operand.func 26), args := #[Go.Operand.tmp 60, Go.Operand.tmp 65], argTypes := #[3, 3] }, type := 3, pos := "ref.go:142", after := #[{ on := 6, ground := Go.Ground.data }, { on := 11, ground := Go.Ground.data }, { on := 6, ground := Go.Ground.chain }], guard := none }) rfl (fun K hK => ?_)
        (go_simp; go_at_call 26; refine (r03add_ex _ _ _).mono ?_; rintro e w1' ⟨n1, rfl, HN1, rfl⟩)
        try go_wp2_with fail
        refine hK.out _ _ ?_ (fun hHeld => ?_)
        · (try dsimp only); exact hHeld
        clear hK K
        try simp only [Act.put, List.setIfInBounds_toArray, List.set_cons_zero, List.set_cons_succ]
        (refine wpL_calm (o := { dst := some 9, op := Go.Op.assign (Go.Operand.tmp 66), type := 3, pos := "ref.go:142", after := #[{ on := 12, ground := Go.Ground.data }, { on := 12, ground := Go.Ground.chain }, { on := 0, ground := Go.Ground.phase }, { on := 1, ground := Go.Ground.phase }, { on := 2, ground := Go.Ground.phase }, { on := 3, ground := Go.Ground.phase }, { on := 4, ground := Go.Ground.phase }, { on := 5, ground := Go.Ground.phase }, { on := 6, ground := Go.Ground.phase }, { on := 7, ground := Go.Ground.phase }, { on := 8, ground := Go.Ground.phase }, { on := 9, ground := Go.Ground.phase }, { on := 10, ground := Go.Ground.phase }, { on := 11, ground := Go.Ground.phase }, { on := 12, ground := Go.Ground.phase }], guard := none }) (v := ?_) rfl (Or.inl ⟨by rfl, ?_⟩) ?_; rotate_left; (focus (intro w hSw; (try dsimp only at hSw); go_simp; (try (with_reducible rfl)); done)); try simp only [Act.put, List.setIfInBounds_toArray, List.set_cons_zero, List.set_cons_succ])
        refine wpL_nil ?_
        refine NoPanic.normal ?_
        have hgw1 : gw < w1.heap.size := Nat.lt_of_lt_of_le hgw b1.size
        have c15 := (b1.cell (p := ⟨gw, j15, none⟩) hgw).trans c15
        have c16 := (b1.cell (p := ⟨gw, j16, none⟩) hgw).trans c16
        have HO1 := own_below' (w := wr.drew) HO.out b1
        have B1 : Below B w w1 := HB.out.drew.trans (b1.mono HSZ)
        have hs1 : B ≤ w1.heap.size := Nat.le_trans HSZ b1.size
        clear hHeld c2 c7 e2 e7 b1 HO HB
        have r15 := HR15.out
        go_wp2_with fail
        refine (three_sg0 x15 _).mono ?_
        rintro e w2 ⟨rfl, b2⟩
        have c16 := (b2.cell (p := ⟨gw, j16, none⟩) hgw1).trans c16
        have HO2 := own_below' HO1 b2
        have B2 : Below B w w2 := B1.trans (b2.mono hs1)
        have hs2 : B ≤ w2.heap.size := Nat.le_trans hs1 b2.size
        clear c15 b2 HO1 B1 r15
        go_wp2_with fail
        refine (r03add_ex _ _ _).mono ?_
        rintro e w2' ⟨n2, rfl, HN2, rfl⟩
        have r16 := HR16.out
        go_wp2_with fail
        refine (r03add_ex _ _ _).mono ?_
        rintro e w2' ⟨n3, rfl, HN3, rfl⟩
        clear r16 c16
        have HOO := Lib.hid HO2
        clear HO2
        go_wp2_with (at_builtin; refine wpList_append_own _ rfl _ _ 33 rfl B 3 i0 (.int .i64 0) 1 8 Tryd.underlying33 hi hz0 hz1 hz2 rfl (by decide) _ _ _ rfl (HOO.out.alloc _) ⟨w2.heap.size, 0, none⟩ 1 1 [.int .i64 (n3.toNat : Int)] rfl rfl (one_cell_at w2 _ _) (by intro u hu; simp at hu; subst hu; rfl) (by unfold maxLen; omega) (by omega) (by simp; omega) ?_; intro v' w3 O3 G3 _; obtain ⟨a3, c3, rfl, _, _⟩ := own_sl O3)
        have B3 : Below B w w3 := (B2.alloc hs2 _).grown G3 (by simp; omega) (fun j e => (HOO.out.lt j e).1)
        have HO3 := Lib.hid O3
        clear O3
        go_wp2_with fail
        go_roundw
        case rel => exact ⟨k + 1, by go_num, by omega, Lib.hid (by rw [HS1.out, nv_app, HHI1.out, ← HN1.out, ← HN2.out, ← HN3.out]; exact HO3.out), Lib.hid B3⟩
        case measure => simp [intOf]; omega
    · as_aux_lemma =>
      obtain rfl : k = 64 := by omega
      rw [show ((64 : Nat) : Int) = 64 from rfl]
      obtain ⟨gw, cw, rfl, hc1, hbg, hgw, hrw⟩ := own_rowI HO.out (by omega)
      have NW : NAt wr gw (wN l 64) := ⟨hrw, hgw⟩
      have hgh : gh < B := hhl
      have hgk : gk < B := hkl
      have hhr : wr.rangeAt gh 0 (nv (vN v)) := fun j u hu => (HB.out.cell (p := ⟨gh, 0 + j, none⟩) hgh).trans (HH.out j u hu)
      have hkr : NAt wr gk kN := ⟨fun j u hu => (HB.out.cell (p := ⟨gk, 0 + j, none⟩) hgk).trans (HK.out.1 j u hu), by omega⟩
      have hhr1 : (wr.alloc (.cells #[] 3)).rangeAt gh 0 (nv (vN v)) := fun j u hu => (((Below.refl wr.heap.size wr).alloc (Nat.le_refl _) (.cells #[] 3)).cell (p := ⟨gh, 0 + j, none⟩) (by show gh < wr.heap.size; omega)).trans (hhr j u hu)
      have HHR1 := Lib.hid hhr1
      have HVR := Lib.hid hhr
      clear hhr1 hhr hrw HO
      go_wp2_with (at_builtin; refine wpList_append_src _ rfl _ _ 33 33 rfl wr.heap.size 3 i0 (.int .i64 0) 1 8 Tryd.underlying33 hi hz0 hz1 hz2 rfl (by decide) (.slice (some ⟨wr.heap.size, 0, none⟩) 0 0) 0 [] rfl (nilRow_ownsI wr _ (Nat.le_refl _) #[] rfl) (.slice (some ⟨gh, 0, none⟩) 8 ch) 8 (nv (vN v)) rfl (srcI_of Tryd.underlying33 HHR1.out rfl) (by unfold maxLen; omega) (by omega) (by simp) ?_; intro v2 w2 O2 G2; replace O2 := own_nilappI O2; obtain ⟨g2, c2, rfl, hc21, hbg2, hgl2, hr2⟩ := own_rowI O2 (by omega))
      have b2 : Below wr.heap.size wr w2 := ((Below.refl wr.heap.size wr).alloc (Nat.le_refl _) _).grown G2 (by simp) (fun j e => by cases e; exact Nat.le_refl _)
      have V2 : Vat w2 g2 v := Vat.of hr2 hgl2
      have NW2 := Lib.hid (NW.below b2)
      have NK2 := Lib.hid (hkr.below b2)
      have VH2 : Vat w2 gh v := (Vat.of HVR.out (by omega)).below b2
      have HVH2 := Lib.hid VH2
      have B2 := Lib.hid (HB.out.trans (b2.mono HSZ))
      have hs2 : B ≤ w2.heap.size := Nat.le_trans HSZ b2.size
      clear b2 O2 G2 hr2 hkr NW HB HHR1 HVR VH2 hgw hbg2
      go_wp2_with fail
      go_loopw [10, 11] (fun r i wi => ∃ k g c : Nat, r = .slice (some ⟨g, 0, none⟩) 8 c ∧ i = .int .i64 k ∧ k ≤ 64 ∧ 8 ≤ c ∧ Hid (Vat wi g (rounds (wl l 64) v k)) ∧ Hid (Below w2.heap.size w2 wi)) (fun _ i _ => 64 - (intOf i).toNat)
      case atStart => exact ⟨0, g2, c2, rfl, rfl, by omega, hc21, Lib.hid (by rw [HR0.out]; exact V2), Lib.hid (Below.refl _ _)⟩
      clear V2
      case round =>
        obtain ⟨k, g, c, rfl, rfl, hk, hc8, HV, HB⟩ := hrel
        have HSZ := HB.out.size
        by_cases hlt : k < 64
        · as_aux_lemma =>
          have hli : (k : Int) < 64 := by omega
          have HST := Lib.hid (HRS.out k)
          generalize rounds (wl l 64) v k = V at *
          have NWr := NW2.out.below HB.out
          have NKr := NK2.out.below HB.out
          have cw := NWr.cell k (by rw [HWL.out]; exact hlt)
          have ck := NKr.cell k (by rw [HKN.out]; exact hlt)
          rw [HWA.out 64 k hlt (Nat.le_refl _)] at cw
          rw [HKL.out k hlt] at ck
          generalize wd l k = wk at *
          generalize kc k = kk at *
          have hgw := NWr.2
          have hgk2 := NKr.2
          have HVr := HV.out
          have CW := Lib.hid cw
          have CK := Lib.hid ck
          clear NWr NKr cw ck

          have q14 := HVr.drew
          go_wp2_with fail
          refine wp_region_lin (S := (fun w' => w'.cell? ⟨g, 7, none⟩ = some (.int .i64 (V.h.toNat : Int)) ∧ w'.cell? ⟨g, 4, none⟩ = some (.int .i64 (V.e.toNat : Int)))) [(0, true), (1, true), (2, true), (3, true), (4, true), (5, true), (6, true), (7, false), (8, false), (9, true)] (by kernel_rfl) (by kernel_rfl) rfl (by kernel_rfl) ?_ (fun hHeld => ?_)
          · (try dsimp only); exact ⟨q14.c7, q14.c4⟩
          (refine wpL_calm (o := { dst := some 93, op := Go.Op.move (Go.Operand.tmp 10), type := 33, pos := "ref.go:148", after := #[], guard := none }) (v := ?_) rfl (Or.inl ⟨by rfl, ?_⟩) ?_; rotate_left; (focus (intro w hSw; (try dsimp only at hSw); go_simp; (try (with_reducible rfl)); done)); try simp only [Act.put, List.setIfInBounds_toArray, List.set_cons_zero, List.set_cons_succ])
          (refine wpL_calm (o := { dst := some 94, op := Go.Op.indexAddr 33 (Go.Operand.tmp 93) (Go.Operand.const (Go.Value.int Go.IntKind.i64 7)), type := 0, pos := "ref.go:148", after := #[{ on := 0, ground := Go.Ground.data }], guard := none }) (v := ?_) rfl (Or.inl ⟨by rfl, ?_⟩) ?_; rotate_left; (focus (intro w hSw; (try dsimp only at hSw); go_simp; (try (with_reducible rfl)); done)); try simp only [Act.put, List.setIfInBounds_toArray, List.set_cons_zero, List.set_cons_succ])
          (refine wpL_calm (o := { dst := some 95, op := Go.Op.load 3 (Go.Operand.tmp 94), type := 3, pos := "ref.go:148", after := #[{ on := 1, ground := Go.Ground.data }], guard := none }) (v := ?_) rfl (Or.inl ⟨by rfl, ?_⟩) ?_; rotate_left; (focus (intro w hSw; (try dsimp only at hSw); go_simp; (try (with_reducible rfl)); done)); try simp only [Act.put, List.setIfInBounds_toArray, List.set_cons_zero, List.set_cons_succ])
          (refine wpL_calm (o := { dst := some 96, op := Go.Op.move (Go.Operand.tmp 10), type := 33, pos := "ref.go:148", after := #[], guard := none }) (v := ?_) rfl (Or.inl ⟨by rfl, ?_⟩) ?_; rotate_left; (focus (intro w hSw; (try dsimp only at hSw); go_simp; (try (with_reducible rfl)); done)); try simp only [Act.put, List.setIfInBounds_toArray, List.set_cons_zero, List.set_cons_succ])
          (refine wpL_calm (o := { dst := some 97, op := Go.Op.indexAddr 33 (Go.Operand.tmp 96) (Go.Operand.const (Go.Value.int Go.IntKind.i64 4)), type := 0, pos := "ref.go:148", after := #[{ on := 3, ground := Go.Ground.data }], guard := none }) (v := ?_) rfl (Or.inl ⟨by rfl, ?_⟩) ?_; rotate_left; (focus (intro w hSw; (try dsimp only at hSw); go_simp; (try (with_reducible rfl)); done)); try simp only [Act.put, List.setIfInBounds_toArray, List.set_cons_zero, List.set_cons_succ])
          (refine wpL_calm (o := { dst := some 98, op := Go.Op.load 3 (Go.Operand.tmp 97), type := 3, pos := "ref.go:148", after := #[{ on := 4, ground := Go.Ground.data }], guard := none }) (v := ?_) rfl (Or.inl ⟨by rfl, ?_⟩) ?_; rotate_left; (focus (intro w hSw; (try dsimp only at hSw); go_simp; (try (with_reducible rfl)); done)); try simp only [Act.put, List.setIfInBounds_toArray, List.set_cons_zero, List.set_cons_succ])
          (refine wpL_calm (o := { dst := some 99, op := Go.Op.build 56 #[(0, Go.Operand.const (Go.Value.int Go.IntKind.i64 6)), (1, Go.Operand.const (Go.Value.int Go.IntKind.i64 11)), (2, Go.Operand.const (Go.Value.int Go.IntKind.i64 25))], type := 56, pos := "ref.go:148", after := #[], guard := none }) (v := ?_) rfl (Or.inl ⟨by rfl, ?_⟩) ?_; rotate_left; (focus (intro w hSw; (try dsimp only at hSw); go_simp; (try (with_reducible rfl)); done)); try simp only [Act.put, List.setIfInBounds_toArray, List.set_cons_zero, List.set_cons_succ])
          refine wpL_loud1 (o := { dst := some 100, op := Go.Op.call { callee := Go.Callee.value (Go.Operand.func 27), args := #[Go.Operand.tmp 98, Go.Operand.tmp 99, Go.Operand.const (Go.Value.bool false)], argTypes := #[3, 56, 4] }, type := 3, pos := "ref.go:148", after := #[{ on := 5, ground := Go.Ground.data }, { on := 6, ground := Go.Ground.data }], guard := none }) rfl (fun K hK => ?_)
          (go_simp; go_at_call 27; refine (three_bs1 V.e _).mono ?_; rintro e u1 ⟨rfl, d1⟩)
          try go_wp2_with fail
          refine hK.out _ _ ?_ (fun hHeld => ?_)
          · (try dsimp only); exact ⟨(d1.cell (p := ⟨g, 7, none⟩) q14.lt).trans q14.c7, (d1.cell (p := ⟨g, 4, none⟩) q14.lt).trans q14.c4⟩
          clear hK K
          try simp only [Act.put, List.setIfInBounds_toArray, List.set_cons_zero, List.set_cons_succ]
          refine wpL_loud1 (o := { dst := some 101, op := Go.Op.call { callee := Go.Callee.value (Go.Operand.func 26), args := #[Go.Operand.tmp 95, Go.Operand.tmp 100], argTypes := #[3, 3] }, type := 3, pos := "ref.go:148", after := #[{ on := 2, ground := Go.Ground.data }, { on := 7, ground := Go.Ground.data }, { on := 7, ground := Go.Ground.chain }], guard := none }) rfl (fun K hK => ?_)
          (go_simp; go_at_call 26; refine (r03add_ex _ _ _).mono ?_; rintro e u1' ⟨x1, rfl, HX1, rfl⟩)
          try go_wp2_with fail
          refine hK.out _ _ ?_ (fun hHeld => ?_)
          · (try dsimp only); exact hHeld
          clear hK K
          try simp only [Act.put, List.setIfInBounds_toArray, List.set_cons_zero, List.set_cons_succ]
          (refine wpL_calm (o := { dst := some 12, op := Go.Op.assign (Go.Operand.tmp 101), type := 3, pos := "ref.go:148", after := #[{ on := 8, ground := Go.Ground.data }, { on := 8, ground := Go.Ground.chain }, { on := 0, ground := Go.Ground.phase }, { on := 1, ground := Go.Ground.phase }, { on := 2, ground := Go.Ground.phase }, { on := 3, ground := Go.Ground.phase }, { on := 4, ground := Go.Ground.phase }, { on := 5, ground := Go.Ground.phase }, { on := 6, ground := Go.Ground.phase }, { on := 7, ground := Go.Ground.phase }, { on := 8, ground := Go.Ground.phase }], guard := none }) (v := ?_) rfl (Or.inl ⟨by rfl, ?_⟩) ?_; rotate_left; (focus (intro w hSw; (try dsimp only at hSw); go_simp; (try (with_reducible rfl)); done)); try simp only [Act.put, List.setIfInBounds_toArray, List.set_cons_zero, List.set_cons_succ])
          refine wpL_nil ?_
          refine NoPanic.normal ?_
          clear hHeld
          have V1 := q14.below d1
          have hsu1 : wr.heap.size ≤ u1.heap.size := d1.size
          have D1 : Below wr.heap.size wr u1 := (Below.refl wr.heap.size wr).drew.trans d1
          clear d1 q14
          have q15 := V1.drew
          go_wp2_with fail
          refine wp_region_lin (S := (fun w' => w'.cell? ⟨g, 4, none⟩ = some (.int .i64 (V.e.toNat : Int)) ∧ w'.cell? ⟨g, 5, none⟩ = some (.int .i64 (V.f.toNat : Int)) ∧ w'.cell? ⟨g, 6, none⟩ = some (.int .i64 (V.g.toNat : Int)))) [(0, true), (1, true), (2, true), (3, true), (4, true), (5, true), (6, true), (7, true), (8, true), (9, true), (10, false), (11, false), (12, true)] (by kernel_rfl) (by kernel_rfl) rfl (by kernel_rfl) ?_ (fun hHeld => ?_)
          · (try dsimp only); exact ⟨q15.c4, q15.c5, q15.c6⟩
          (refine wpL_calm (o := { dst := some 102, op := Go.Op.move (Go.Operand.tmp 12), type := 3, pos := "ref.go:149", after := #[], guard := none }) (v := ?_) rfl (Or.inl ⟨by rfl, ?_⟩) ?_; rotate_left; (focus (intro w hSw; (try dsimp only at hSw); go_simp; (try (with_reducible rfl)); done)); try simp only [Act.put, List.setIfInBounds_toArray, List.set_cons_zero, List.set_cons_succ])
          (refine wpL_calm (o := { dst := some 103, op := Go.Op.move (Go.Operand.tmp 10), type := 33, pos := "ref.go:149", after := #[], guard := none }) (v := ?_) rfl (Or.inl ⟨by rfl, ?_⟩) ?_; rotate_left; (focus (intro w hSw; (try dsimp only at hSw); go_simp; (try (with_reducible rfl)); done)); try simp only [Act.put, List.setIfInBounds_toArray, List.set_cons_zero, List.set_cons_succ])
          (refine wpL_calm (o := { dst := some 104, op := Go.Op.indexAddr 33 (Go.Operand.tmp 103) (Go.Operand.const (Go.Value.int Go.IntKind.i64 4)), type := 0, pos := "ref.go:149", after := #[{ on := 1, ground := Go.Ground.data }], guard := none }) (v := ?_) rfl (Or.inl ⟨by rfl, ?_⟩) ?_; rotate_left; (focus (intro w hSw; (try dsimp only at hSw); go_simp; (try (with_reducible rfl)); done)); try simp only [Act.put, List.setIfInBounds_toArray, List.set_cons_zero, List.set_cons_succ])
          (refine wpL_calm (o := { dst := some 105, op := Go.Op.load 3 (Go.Operand.tmp 104), type := 3, pos := "ref.go:149", after := #[{ on := 2, ground := Go.Ground.data }], guard := none }) (v := ?_) rfl (Or.inl ⟨by rfl, ?_⟩) ?_; rotate_left; (focus (intro w hSw; (try dsimp only at hSw); go_simp; (try (with_reducible rfl)); done)); try simp only [Act.put, List.setIfInBounds_toArray, List.set_cons_zero, List.set_cons_succ])
          (refine wpL_calm (o := { dst := some 106, op := Go.Op.move (Go.Operand.tmp 10), type := 33, pos := "ref.go:149", after := #[], guard := none }) (v := ?_) rfl (Or.inl ⟨by rfl, ?_⟩) ?_; rotate_left; (focus (intro w hSw; (try dsimp only at hSw); go_simp; (try (with_reducible rfl)); done)); try simp only [Act.put, List.setIfInBounds_toArray, List.set_cons_zero, List.set_cons_succ])
          (refine wpL_calm (o := { dst := some 107, op := Go.Op.indexAddr 33 (Go.Operand.tmp 106) (Go.Operand.const (Go.Value.int Go.IntKind.i64 5)), type := 0, pos := "ref.go:149", after := #[{ on := 4, ground := Go.Ground.data }], guard := none }) (v := ?_) rfl (Or.inl ⟨by rfl, ?_⟩) ?_; rotate_left; (focus (intro w hSw; (try dsimp only at hSw); go_simp; (try (with_reducible rfl)); done)); try simp only [Act.put, List.setIfInBounds_toArray, List.set_cons_zero, List.set_cons_succ])
          (refine wpL_calm (o := { dst := some 108, op := Go.Op.load 3 (Go.Operand.tmp 107), type := 3, pos := "ref.go:149", after := #[{ on := 5, ground := Go.Ground.data }], guard := none }) (v := ?_) rfl (Or.inl ⟨by rfl, ?_⟩) ?_; rotate_left; (focus (intro w hSw; (try dsimp only at hSw); go_simp; (try (with_reducible rfl)); done)); try simp only [Act.put, List.setIfInBounds_toArray, List.set_cons_zero, List.set_cons_succ])
          (refine wpL_calm (o := { dst := some 109, op := Go.Op.move (Go.Operand.tmp 10), type := 33, pos := "ref.go:149", after := #[], guard := none }) (v := ?_) rfl (Or.inl ⟨by rfl, ?_⟩) ?_; rotate_left; (focus (intro w hSw; (try dsimp only at hSw); go_simp; (try (with_reducible rfl)); done)); try simp only [Act.put, List.setIfInBounds_toArray, List.set_cons_zero, List.set_cons_succ])
          (refine wpL_calm (o := { dst := some 110, op := Go.Op.indexAddr 33 (Go.Operand.tmp 109) (Go.Operand.const (Go.Value.int Go.IntKind.i64 6)), type := 0, pos := "ref.go:149", after := #[{ on := 7, ground := Go.Ground.data }], guard := none }) (v := ?_) rfl (Or.inl ⟨by rfl, ?_⟩) ?_; rotate_left; (focus (intro w hSw; (try dsimp only at hSw); go_simp; (try (with_reducible rfl)); done)); try simp only [Act.put, List.setIfInBounds_toArray, List.set_cons_zero, List.set_cons_succ])
          (refine wpL_calm (o := { dst := some 111, op := Go.Op.load 3 (Go.Operand.tmp 110), type := 3, pos := "ref.go:149", after := #[{ on := 8, ground := Go.Ground.data }], guard := none }) (v := ?_) rfl (Or.inl ⟨by rfl, ?_⟩) ?_; rotate_left; (focus (intro w hSw; (try dsimp only at hSw); go_simp; (try (with_reducible rfl)); done)); try simp only [Act.put, List.setIfInBounds_toArray, List.set_cons_zero, List.set_cons_succ])
          refine wpL_loud1 (o := { dst := some 112, op := Go.Op.call { callee := Go.Callee.value (Go.Operand.func 28), args := #[Go.Operand.tmp 105, Go.Operand.tmp 108, Go.Operand.tmp 111], argTypes := #[3, 3, 3] }, type := 3, pos := "ref.go:149", after := #[{ on := 3, ground := Go.Ground.data }, { on := 6, ground := Go.Ground.data }, { on := 9, ground := Go.Ground.data }], guard := none }) rfl (fun K hK => ?_)
          (go_simp; go_at_call 28; refine (pick_any V.e V.f V.g _).mono ?_; rintro e u2 ⟨rfl, d2⟩)
          try go_wp2_with fail
          refine hK.out _ _ ?_ (fun hHeld => ?_)
          · (try dsimp only); exact ⟨(d2.cell (p := ⟨g, 4, none⟩) q15.lt).trans q15.c4, (d2.cell (p := ⟨g, 5, none⟩) q15.lt).trans q15.c5, (d2.cell (p := ⟨g, 6, none⟩) q15.lt).trans q15.c6⟩
          clear hK K
          try simp only [Act.put, List.setIfInBounds_toArray, List.set_cons_zero, List.set_cons_succ]
          refine wpL_loud1 (o := { dst := some 113, op := Go.Op.call { callee := Go.Callee.value (Go.Operand.func 26), args := #[Go.Operand.tmp 102, Go.Operand.tmp 112], argTypes := #[3, 3] }, type := 3, pos := "ref.go:149", after := #[{ on := 0, ground := Go.Ground.data }, { on := 10, ground := Go.Ground.data }, { on := 10, ground := Go.Ground.chain }], guard := none }) rfl (fun K hK => ?_)
          (go_simp; go_at_call 26; refine (r03add_ex _ _ _).mono ?_; rintro e u2' ⟨x2, rfl, HX2, rfl⟩)
          try go_wp2_with fail
          refine hK.out _ _ ?_ (fun hHeld => ?_)
          · (try dsimp only); exact hHeld
          clear hK K
          try simp only [Act.put, List.setIfInBounds_toArray, List.set_cons_zero, List.set_cons_succ]
          (refine wpL_calm (o := { dst := some 12, op := Go.Op.assign (Go.Operand.tmp 113), type := 3, pos := "ref.go:149", after := #[{ on := 11, ground := Go.Ground.data }, { on := 11, ground := Go.Ground.chain }, { on := 0, ground := Go.Ground.phase }, { on := 1, ground := Go.Ground.phase }, { on := 2, ground := Go.Ground.phase }, { on := 3, ground := Go.Ground.phase }, { on := 4, ground := Go.Ground.phase }, { on := 5, ground := Go.Ground.phase }, { on := 6, ground := Go.Ground.phase }, { on := 7, ground := Go.Ground.phase }, { on := 8, ground := Go.Ground.phase }, { on := 9, ground := Go.Ground.phase }, { on := 10, ground := Go.Ground.phase }, { on := 11, ground := Go.Ground.phase }], guard := none }) (v := ?_) rfl (Or.inl ⟨by rfl, ?_⟩) ?_; rotate_left; (focus (intro w hSw; (try dsimp only at hSw); go_simp; (try (with_reducible rfl)); done)); try simp only [Act.put, List.setIfInBounds_toArray, List.set_cons_zero, List.set_cons_succ])
          refine wpL_nil ?_
          refine NoPanic.normal ?_
          clear hHeld
          have V2 := q15.below d2
          have hsu2 : wr.heap.size ≤ u2.heap.size := Nat.le_trans hsu1 d2.size
          have D2 : Below wr.heap.size wr u2 := D1.drew.trans (d2.mono hsu1)
          clear d2 q15 V1
          have ck2 : u2.drew.cell? ⟨gk, k, none⟩ = some (.int .i64 (kk.toNat : Int)) := (D2.cell (p := ⟨gk, k, none⟩) hgk2).trans CK.out
          have cw2 : u2.drew.cell? ⟨gw, k, none⟩ = some (.int .i64 (wk.toNat : Int)) := (D2.cell (p := ⟨gw, k, none⟩) hgw).trans CW.out
          go_wp2_with fail
          refine wp_region_lin (S := (fun w' => w'.cell? ⟨gk, k, none⟩ = some (.int .i64 (kk.toNat : Int)) ∧ w'.cell? ⟨gw, k, none⟩ = some (.int .i64 (wk.toNat : Int)))) [(0, true), (1, true), (2, true), (3, true), (4, true), (6, true), (7, true), (8, true), (9, true), (5, false), (10, false), (11, true)] (by kernel_rfl) (by kernel_rfl) rfl (by kernel_rfl) ?_ (fun hHeld => ?_)
          · (try dsimp only); exact ⟨ck2, cw2⟩
          (refine wpL_calm (o := { dst := some 114, op := Go.Op.move (Go.Operand.tmp 12), type := 3, pos := "ref.go:150", after := #[], guard := none }) (v := ?_) rfl (Or.inl ⟨by rfl, ?_⟩) ?_; rotate_left; (focus (intro w hSw; (try dsimp only at hSw); go_simp; (try (with_reducible rfl)); done)); try simp only [Act.put, List.setIfInBounds_toArray, List.set_cons_zero, List.set_cons_succ])
          (refine wpL_calm (o := { dst := some 115, op := Go.Op.move (Go.Operand.tmp 2), type := 33, pos := "ref.go:150", after := #[], guard := none }) (v := ?_) rfl (Or.inl ⟨by rfl, ?_⟩) ?_; rotate_left; (focus (intro w hSw; (try dsimp only at hSw); go_simp; (try (with_reducible rfl)); done)); try simp only [Act.put, List.setIfInBounds_toArray, List.set_cons_zero, List.set_cons_succ])
          (refine wpL_calm (o := { dst := some 116, op := Go.Op.move (Go.Operand.tmp 11), type := 3, pos := "ref.go:150", after := #[], guard := none }) (v := ?_) rfl (Or.inl ⟨by rfl, ?_⟩) ?_; rotate_left; (focus (intro w hSw; (try dsimp only at hSw); go_simp; (try (with_reducible rfl)); done)); try simp only [Act.put, List.setIfInBounds_toArray, List.set_cons_zero, List.set_cons_succ])
          (refine wpL_calm (o := { dst := some 117, op := Go.Op.indexAddr 33 (Go.Operand.tmp 115) (Go.Operand.tmp 116), type := 0, pos := "ref.go:150", after := #[{ on := 1, ground := Go.Ground.data }, { on := 2, ground := Go.Ground.data }], guard := none }) (v := ?_) rfl (Or.inl ⟨by rfl, ?_⟩) ?_; rotate_left; (focus (intro w hSw; (try dsimp only at hSw); go_simp; (try (with_reducible rfl)); done)); try simp only [Act.put, List.setIfInBounds_toArray, List.set_cons_zero, List.set_cons_succ])
          (refine wpL_calm (o := { dst := some 118, op := Go.Op.load 3 (Go.Operand.tmp 117), type := 3, pos := "ref.go:150", after := #[{ on := 3, ground := Go.Ground.data }], guard := none }) (v := ?_) rfl (Or.inl ⟨by rfl, ?_⟩) ?_; rotate_left; (focus (intro w hSw; (try dsimp only at hSw); go_simp; (try (with_reducible rfl)); done)); try simp only [Act.put, List.setIfInBounds_toArray, List.set_cons_zero, List.set_cons_succ])
          (refine wpL_calm (o := { dst := some 120, op := Go.Op.move (Go.Operand.tmp 7), type := 33, pos := "ref.go:150", after := #[], guard := none }) (v := ?_) rfl (Or.inl ⟨by rfl, ?_⟩) ?_; rotate_left; (focus (intro w hSw; (try dsimp only at hSw); go_simp; (try (with_reducible rfl)); done)); try simp only [Act.put, List.setIfInBounds_toArray, List.set_cons_zero, List.set_cons_succ])
          (refine wpL_calm (o := { dst := some 121, op := Go.Op.move (Go.Operand.tmp 11), type := 3, pos := "ref.go:150", after := #[], guard := none }) (v := ?_) rfl (Or.inl ⟨by rfl, ?_⟩) ?_; rotate_left; (focus (intro w hSw; (try dsimp only at hSw); go_simp; (try (with_reducible rfl)); done)); try simp only [Act.put, List.setIfInBounds_toArray, List.set_cons_zero, List.set_cons_succ])
          (refine wpL_calm (o := { dst := some 122, op := Go.Op.indexAddr 33 (Go.Operand.tmp 120) (Go.Operand.tmp 121), type := 0, pos := "ref.go:150", after := #[{ on := 6, ground := Go.Ground.data }, { on := 7, ground := Go.Ground.data }], guard := none }) (v := ?_) rfl (Or.inl ⟨by rfl, ?_⟩) ?_; rotate_left; (focus (intro w hSw; (try dsimp only at hSw); go_simp; (try (with_reducible rfl)); done)); try simp only [Act.put, List.setIfInBounds_toArray, List.set_cons_zero, List.set_cons_succ])
          (refine wpL_calm (o := { dst := some 123, op := Go.Op.load 3 (Go.Operand.tmp 122), type := 3, pos := "ref.go:150", after := #[{ on := 8, ground := Go.Ground.data }], guard := none }) (v := ?_) rfl (Or.inl ⟨by rfl, ?_⟩) ?_; rotate_left; (focus (intro w hSw; (try dsimp only at hSw); go_simp; (try (with_reducible rfl)); done)); try simp only [Act.put, List.setIfInBounds_toArray, List.set_cons_zero, List.set_cons_succ])
          refine wpL_loud1 (o := { dst := some 119, op := Go.Op.call { callee := Go.Callee.value (Go.Operand.func 26), args := #[Go.Operand.tmp 114, Go.Operand.tmp 118], argTypes := #[3, 3] }, type := 3, pos := "ref.go:150", after := #[{ on := 0, ground := Go.Ground.data }, { on := 4, ground := Go.Ground.data }], guard := none }) rfl (fun K hK => ?_)
          (go_simp; go_at_call 26; refine (r03add_ex _ _ _).mono ?_; rintro e u2' ⟨x3, rfl, HX3, rfl⟩)
          try go_wp2_with fail
          refine hK.out _ _ ?_ (fun hHeld => ?_)
          · (try dsimp only); exact hHeld
          clear hK K
          try simp only [Act.put, List.setIfInBounds_toArray, List.set_cons_zero, List.set_cons_succ]
          refine wpL_loud1 (o := { dst := some 124, op := Go.Op.call { callee := Go.Callee.value (Go.Operand.func 26), args := #[Go.Operand.tmp 119, Go.Operand.tmp 123], argTypes := #[3, 3] }, type := 3, pos := "ref.go:150", after := #[{ on := 5, ground := Go.Ground.data }, { on := 9, ground := Go.Ground.data }, { on := 5, ground := Go.Ground.chain }], guard := none }) rfl (fun K hK => ?_)
          (go_simp; go_at_call 26; refine (r03add_ex _ _ _).mono ?_; rintro e u2' ⟨x4, rfl, HX4, rfl⟩)
          try go_wp2_with fail
          refine hK.out _ _ ?_ (fun hHeld => ?_)
          · (try dsimp only); exact hHeld
          clear hK K
          try simp only [Act.put, List.setIfInBounds_toArray, List.set_cons_zero, List.set_cons_succ]
          (refine wpL_calm (o := { dst := some 12, op := Go.Op.assign (Go.Operand.tmp 124), type := 3, pos := "ref.go:150", after := #[{ on := 10, ground := Go.Ground.data }, { on := 10, ground := Go.Ground.chain }, { on := 0, ground := Go.Ground.phase }, { on := 1, ground := Go.Ground.phase }, { on := 2, ground := Go.Ground.phase }, { on := 3, ground := Go.Ground.phase }, { on := 4, ground := Go.Ground.phase }, { on := 5, ground := Go.Ground.phase }, { on := 6, ground := Go.Ground.phase }, { on := 7, ground := Go.Ground.phase }, { on := 8, ground := Go.Ground.phase }, { on := 9, ground := Go.Ground.phase }, { on := 10, ground := Go.Ground.phase }], guard := none }) (v := ?_) rfl (Or.inl ⟨by rfl, ?_⟩) ?_; rotate_left; (focus (intro w hSw; (try dsimp only at hSw); go_simp; (try (with_reducible rfl)); done)); try simp only [Act.put, List.setIfInBounds_toArray, List.set_cons_zero, List.set_cons_succ])
          refine wpL_nil ?_
          refine NoPanic.normal ?_
          clear hHeld ck2 cw2
          have q17 := V2.drew.drew
          go_wp2_with fail
          refine wp_region_lin (S := (fun w' => w'.cell? ⟨g, 0, none⟩ = some (.int .i64 (V.a.toNat : Int)) ∧ w'.cell? ⟨g, 1, none⟩ = some (.int .i64 (V.b.toNat : Int)) ∧ w'.cell? ⟨g, 2, none⟩ = some (.int .i64 (V.c.toNat : Int)))) [(0, true), (1, true), (2, true), (3, true), (5, true), (6, true), (7, true), (8, true), (9, true), (10, true), (11, true), (12, true), (13, true), (4, false), (14, false), (15, false), (16, true)] (by kernel_rfl) (by kernel_rfl) rfl (by kernel_rfl) ?_ (fun hHeld => ?_)
          · (try dsimp only); exact ⟨q17.c0, q17.c1, q17.c2⟩
          (refine wpL_calm (o := { dst := some 125, op := Go.Op.move (Go.Operand.tmp 10), type := 33, pos := "ref.go:151", after := #[], guard := none }) (v := ?_) rfl (Or.inl ⟨by rfl, ?_⟩) ?_; rotate_left; (focus (intro w hSw; (try dsimp only at hSw); go_simp; (try (with_reducible rfl)); done)); try simp only [Act.put, List.setIfInBounds_toArray, List.set_cons_zero, List.set_cons_succ])
          (refine wpL_calm (o := { dst := some 126, op := Go.Op.indexAddr 33 (Go.Operand.tmp 125) (Go.Operand.const (Go.Value.int Go.IntKind.i64 0)), type := 0, pos := "ref.go:151", after := #[{ on := 0, ground := Go.Ground.data }], guard := none }) (v := ?_) rfl (Or.inl ⟨by rfl, ?_⟩) ?_; rotate_left; (focus (intro w hSw; (try dsimp only at hSw); go_simp; (try (with_reducible rfl)); done)); try simp only [Act.put, List.setIfInBounds_toArray, List.set_cons_zero, List.set_cons_succ])
          (refine wpL_calm (o := { dst := some 127, op := Go.Op.load 3 (Go.Operand.tmp 126), type := 3, pos := "ref.go:151", after := #[{ on := 1, ground := Go.Ground.data }], guard := none }) (v := ?_) rfl (Or.inl ⟨by rfl, ?_⟩) ?_; rotate_left; (focus (intro w hSw; (try dsimp only at hSw); go_simp; (try (with_reducible rfl)); done)); try simp only [Act.put, List.setIfInBounds_toArray, List.set_cons_zero, List.set_cons_succ])
          (refine wpL_calm (o := { dst := some 128, op := Go.Op.build 56 #[(0, Go.Operand.const (Go.Value.int Go.IntKind.i64 2)), (1, Go.Operand.const (Go.Value.int Go.IntKind.i64 13)), (2, Go.Operand.const (Go.Value.int Go.IntKind.i64 22))], type := 56, pos := "ref.go:151", after := #[], guard := none }) (v := ?_) rfl (Or.inl ⟨by rfl, ?_⟩) ?_; rotate_left; (focus (intro w hSw; (try dsimp only at hSw); go_simp; (try (with_reducible rfl)); done)); try simp only [Act.put, List.setIfInBounds_toArray, List.set_cons_zero, List.set_cons_succ])
          (refine wpL_calm (o := { dst := some 130, op := Go.Op.move (Go.Operand.tmp 10), type := 33, pos := "ref.go:151", after := #[], guard := none }) (v := ?_) rfl (Or.inl ⟨by rfl, ?_⟩) ?_; rotate_left; (focus (intro w hSw; (try dsimp only at hSw); go_simp; (try (with_reducible rfl)); done)); try simp only [Act.put, List.setIfInBounds_toArray, List.set_cons_zero, List.set_cons_succ])
          (refine wpL_calm (o := { dst := some 131, op := Go.Op.indexAddr 33 (Go.Operand.tmp 130) (Go.Operand.const (Go.Value.int Go.IntKind.i64 0)), type := 0, pos := "ref.go:151", after := #[{ on := 5, ground := Go.Ground.data }], guard := none }) (v := ?_) rfl (Or.inl ⟨by rfl, ?_⟩) ?_; rotate_left; (focus (intro w hSw; (try dsimp only at hSw); go_simp; (try (with_reducible rfl)); done)); try simp only [Act.put, List.setIfInBounds_toArray, List.set_cons_zero, List.set_cons_succ])
          (refine wpL_calm (o := { dst := some 132, op := Go.Op.load 3 (Go.Operand.tmp 131), type := 3, pos := "ref.go:151", after := #[{ on := 6, ground := Go.Ground.data }], guard := none }) (v := ?_) rfl (Or.inl ⟨by rfl, ?_⟩) ?_; rotate_left; (focus (intro w hSw; (try dsimp only at hSw); go_simp; (try (with_reducible rfl)); done)); try simp only [Act.put, List.setIfInBounds_toArray, List.set_cons_zero, List.set_cons_succ])
          (refine wpL_calm (o := { dst := some 133, op := Go.Op.move (Go.Operand.tmp 10), type := 33, pos := "ref.go:151", after := #[], guard := none }) (v := ?_) rfl (Or.inl ⟨by rfl, ?_⟩) ?_; rotate_left; (focus (intro w hSw; (try dsimp only at hSw); go_simp; (try (with_reducible rfl)); done)); try simp only [Act.put, List.setIfInBounds_toArray, List.set_cons_zero, List.set_cons_succ])
          (refine wpL_calm (o := { dst := some 134, op := Go.Op.indexAddr 33 (Go.Operand.tmp 133) (Go.Operand.const (Go.Value.int Go.IntKind.i64 1)), type := 0, pos := "ref.go:151", after := #[{ on := 8, ground := Go.Ground.data }], guard := none }) (v := ?_) rfl (Or.inl ⟨by rfl, ?_⟩) ?_; rotate_left; (focus (intro w hSw; (try dsimp only at hSw); go_simp; (try (with_reducible rfl)); done)); try simp only [Act.put, List.setIfInBounds_toArray, List.set_cons_zero, List.set_cons_succ])
          (refine wpL_calm (o := { dst := some 135, op := Go.Op.load 3 (Go.Operand.tmp 134), type := 3, pos := "ref.go:151", after := #[{ on := 9, ground := Go.Ground.data }], guard := none }) (v := ?_) rfl (Or.inl ⟨by rfl, ?_⟩) ?_; rotate_left; (focus (intro w hSw; (try dsimp only at hSw); go_simp; (try (with_reducible rfl)); done)); try simp only [Act.put, List.setIfInBounds_toArray, List.set_cons_zero, List.set_cons_succ])
          (refine wpL_calm (o := { dst := some 136, op := Go.Op.move (Go.Operand.tmp 10), type := 33, pos := "ref.go:151", after := #[], guard := none }) (v := ?_) rfl (Or.inl ⟨by rfl, ?_⟩) ?_; rotate_left; (focus (intro w hSw; (try dsimp only at hSw); go_simp; (try (with_reducible rfl)); done)); try simp only [Act.put, List.setIfInBounds_toArray, List.set_cons_zero, List.set_cons_succ])
          (refine wpL_calm (o := { dst := some 137, op := Go.Op.indexAddr 33 (Go.Operand.tmp 136) (Go.Operand.const (Go.Value.int Go.IntKind.i64 2)), type := 0, pos := "ref.go:151", after := #[{ on := 11, ground := Go.Ground.data }], guard := none }) (v := ?_) rfl (Or.inl ⟨by rfl, ?_⟩) ?_; rotate_left; (focus (intro w hSw; (try dsimp only at hSw); go_simp; (try (with_reducible rfl)); done)); try simp only [Act.put, List.setIfInBounds_toArray, List.set_cons_zero, List.set_cons_succ])
          (refine wpL_calm (o := { dst := some 138, op := Go.Op.load 3 (Go.Operand.tmp 137), type := 3, pos := "ref.go:151", after := #[{ on := 12, ground := Go.Ground.data }], guard := none }) (v := ?_) rfl (Or.inl ⟨by rfl, ?_⟩) ?_; rotate_left; (focus (intro w hSw; (try dsimp only at hSw); go_simp; (try (with_reducible rfl)); done)); try simp only [Act.put, List.setIfInBounds_toArray, List.set_cons_zero, List.set_cons_succ])
          refine wpL_loud1 (o := { dst := some 129, op := Go.Op.call { callee := Go.Callee.value (Go.Operand.func 27), args := #[Go.Operand.tmp 127, Go.Operand.tmp 128, Go.Operand.const (Go.Value.bool false)], argTypes := #[3, 56, 4] }, type := 3, pos := "ref.go:151", after := #[{ on := 2, ground := Go.Ground.data }, { on := 3, ground := Go.Ground.data }], guard := none }) rfl (fun K hK => ?_)
          (go_simp; go_at_call 27; refine (three_bs0 V.a _).mono ?_; rintro e u3 ⟨rfl, d3⟩)
          try go_wp2_with fail
          refine hK.out _ _ ?_ (fun hHeld => ?_)
          · (try dsimp only); exact ⟨(d3.cell (p := ⟨g, 0, none⟩) q17.lt).trans q17.c0, (d3.cell (p := ⟨g, 1, none⟩) q17.lt).trans q17.c1, (d3.cell (p := ⟨g, 2, none⟩) q17.lt).trans q17.c2⟩
          clear hK K
          try simp only [Act.put, List.setIfInBounds_toArray, List.set_cons_zero, List.set_cons_succ]
          refine wpL_loud1 (o := { dst := some 139, op := Go.Op.call { callee := Go.Callee.value (Go.Operand.func 29), args := #[Go.Operand.tmp 132, Go.Operand.tmp 135, Go.Operand.tmp 138], argTypes := #[3, 3, 3] }, type := 3, pos := "ref.go:151", after := #[{ on := 7, ground := Go.Ground.data }, { on := 10, ground := Go.Ground.data }, { on := 13, ground := Go.Ground.data }, { on := 4, ground := Go.Ground.chain }], guard := none }) rfl (fun K hK => ?_)
          (go_simp; go_at_call 29; refine (most_any V.a V.b V.c _).mono ?_; rintro e u4 ⟨rfl, d4⟩)
          try go_wp2_with fail
          refine hK.out _ _ ?_ (fun hHeld => ?_)
          · (try dsimp only); exact ⟨(d4.cell (p := ⟨g, 0, none⟩) (q17.below d3).lt).trans (q17.below d3).c0, (d4.cell (p := ⟨g, 1, none⟩) (q17.below d3).lt).trans (q17.below d3).c1, (d4.cell (p := ⟨g, 2, none⟩) (q17.below d3).lt).trans (q17.below d3).c2⟩
          clear hK K
          try simp only [Act.put, List.setIfInBounds_toArray, List.set_cons_zero, List.set_cons_succ]
          refine wpL_loud1 (o := { dst := some 140, op := Go.Op.call { callee := Go.Callee.value (Go.Operand.func 26), args := #[Go.Operand.tmp 129, Go.Operand.tmp 139], argTypes := #[3, 3] }, type := 3, pos := "ref.go:151", after := #[{ on := 4, ground := Go.Ground.data }, { on := 14, ground := Go.Ground.data }, { on := 14, ground := Go.Ground.chain }], guard := none }) rfl (fun K hK => ?_)
          (go_simp; go_at_call 26; refine (r03add_ex _ _ _).mono ?_; rintro e u4' ⟨y1, rfl, HY1, rfl⟩)
          try go_wp2_with fail
          refine hK.out _ _ ?_ (fun hHeld => ?_)
          · (try dsimp only); exact hHeld
          clear hK K
          try simp only [Act.put, List.setIfInBounds_toArray, List.set_cons_zero, List.set_cons_succ]
          (refine wpL_calm (o := { dst := some 13, op := Go.Op.assign (Go.Operand.tmp 140), type := 3, pos := "ref.go:151", after := #[{ on := 15, ground := Go.Ground.data }, { on := 15, ground := Go.Ground.chain }, { on := 0, ground := Go.Ground.phase }, { on := 1, ground := Go.Ground.phase }, { on := 2, ground := Go.Ground.phase }, { on := 3, ground := Go.Ground.phase }, { on := 4, ground := Go.Ground.phase }, { on := 5, ground := Go.Ground.phase }, { on := 6, ground := Go.Ground.phase }, { on := 7, ground := Go.Ground.phase }, { on := 8, ground := Go.Ground.phase }, { on := 9, ground := Go.Ground.phase }, { on := 10, ground := Go.Ground.phase }, { on := 11, ground := Go.Ground.phase }, { on := 12, ground := Go.Ground.phase }, { on := 13, ground := Go.Ground.phase }, { on := 14, ground := Go.Ground.phase }, { on := 15, ground := Go.Ground.phase }], guard := none }) (v := ?_) rfl (Or.inl ⟨by rfl, ?_⟩) ?_; rotate_left; (focus (intro w hSw; (try dsimp only at hSw); go_simp; (try (with_reducible rfl)); done)); try simp only [Act.put, List.setIfInBounds_toArray, List.set_cons_zero, List.set_cons_succ])
          refine wpL_nil ?_
          refine NoPanic.normal ?_
          clear hHeld
          have V4 := (q17.below d3).below d4
          have hsu3 : wr.heap.size ≤ u3.heap.size := Nat.le_trans hsu2 d3.size
          have hsu4 : wr.heap.size ≤ u4.heap.size := Nat.le_trans hsu3 d4.size
          have D4 : Below wr.heap.size wr u4 := (D2.drew.drew.trans (d3.mono hsu2)).trans (d4.mono hsu3)
          clear d3 d4 q17 V2 D1 D2
          have q18 := V4.drew
          have hst := HST.out
          rw [rnd_eq, ← HX1.out, ← HX2.out, ← HX3.out, ← HX4.out, ← HY1.out] at hst
          have HST2 := Lib.hid hst
          clear hst HST
          go_wp2_with fail
          refine wp_region_lin (S := (fun w' => w'.cell? ⟨g, 0, none⟩ = some (.int .i64 (V.a.toNat : Int)) ∧ w'.cell? ⟨g, 1, none⟩ = some (.int .i64 (V.b.toNat : Int)) ∧ w'.cell? ⟨g, 2, none⟩ = some (.int .i64 (V.c.toNat : Int)) ∧ w'.cell? ⟨g, 3, none⟩ = some (.int .i64 (V.d.toNat : Int)) ∧ w'.cell? ⟨g, 4, none⟩ = some (.int .i64 (V.e.toNat : Int)) ∧ w'.cell? ⟨g, 5, none⟩ = some (.int .i64 (V.f.toNat : Int)) ∧ w'.cell? ⟨g, 6, none⟩ = some (.int .i64 (V.g.toNat : Int)))) [(0, true), (1, true), (3, true), (4, true), (5, true), (6, true), (7, true), (8, true), (9, true), (10, true), (11, true), (12, true), (13, true), (14, true), (15, true), (17, true), (18, true), (19, true), (20, true), (21, true), (22, true), (23, true), (24, true), (25, true), (2, false), (16, false), (26, false), (27, true)] (by kernel_rfl) (by kernel_rfl) rfl (by kernel_rfl) ?_ (fun hHeld => ?_)
          · (try dsimp only); exact ⟨q18.c0, q18.c1, q18.c2, q18.c3, q18.c4, q18.c5, q18.c6⟩
          (refine wpL_calm (o := { dst := some 141, op := Go.Op.move (Go.Operand.tmp 12), type := 3, pos := "ref.go:152", after := #[], guard := none }) (v := ?_) rfl (Or.inl ⟨by rfl, ?_⟩) ?_; rotate_left; (focus (intro w hSw; (try dsimp only at hSw); go_simp; (try (with_reducible rfl)); done)); try simp only [Act.put, List.setIfInBounds_toArray, List.set_cons_zero, List.set_cons_succ])
          (refine wpL_calm (o := { dst := some 142, op := Go.Op.move (Go.Operand.tmp 13), type := 3, pos := "ref.go:152", after := #[], guard := none }) (v := ?_) rfl (Or.inl ⟨by rfl, ?_⟩) ?_; rotate_left; (focus (intro w hSw; (try dsimp only at hSw); go_simp; (try (with_reducible rfl)); done)); try simp only [Act.put, List.setIfInBounds_toArray, List.set_cons_zero, List.set_cons_succ])
          (refine wpL_calm (o := { dst := some 144, op := Go.Op.move (Go.Operand.tmp 10), type := 33, pos := "ref.go:152", after := #[], guard := none }) (v := ?_) rfl (Or.inl ⟨by rfl, ?_⟩) ?_; rotate_left; (focus (intro w hSw; (try dsimp only at hSw); go_simp; (try (with_reducible rfl)); done)); try simp only [Act.put, List.setIfInBounds_toArray, List.set_cons_zero, List.set_cons_succ])
          (refine wpL_calm (o := { dst := some 145, op := Go.Op.indexAddr 33 (Go.Operand.tmp 144) (Go.Operand.const (Go.Value.int Go.IntKind.i64 0)), type := 0, pos := "ref.go:152", after := #[{ on := 3, ground := Go.Ground.data }], guard := none }) (v := ?_) rfl (Or.inl ⟨by rfl, ?_⟩) ?_; rotate_left; (focus (intro w hSw; (try dsimp only at hSw); go_simp; (try (with_reducible rfl)); done)); try simp only [Act.put, List.setIfInBounds_toArray, List.set_cons_zero, List.set_cons_succ])
          (refine wpL_calm (o := { dst := some 146, op := Go.Op.load 3 (Go.Operand.tmp 145), type := 3, pos := "ref.go:152", after := #[{ on := 4, ground := Go.Ground.data }], guard := none }) (v := ?_) rfl (Or.inl ⟨by rfl, ?_⟩) ?_; rotate_left; (focus (intro w hSw; (try dsimp only at hSw); go_simp; (try (with_reducible rfl)); done)); try simp only [Act.put, List.setIfInBounds_toArray, List.set_cons_zero, List.set_cons_succ])
          (refine wpL_calm (o := { dst := some 147, op := Go.Op.move (Go.Operand.tmp 10), type := 33, pos := "ref.go:152", after := #[], guard := none }) (v := ?_) rfl (Or.inl ⟨by rfl, ?_⟩) ?_; rotate_left; (focus (intro w hSw; (try dsimp only at hSw); go_simp; (try (with_reducible rfl)); done)); try simp only [Act.put, List.setIfInBounds_toArray, List.set_cons_zero, List.set_cons_succ])
          (refine wpL_calm (o := { dst := some 148, op := Go.Op.indexAddr 33 (Go.Operand.tmp 147) (Go.Operand.const (Go.Value.int Go.IntKind.i64 1)), type := 0, pos := "ref.go:152", after := #[{ on := 6, ground := Go.Ground.data }], guard := none }) (v := ?_) rfl (Or.inl ⟨by rfl, ?_⟩) ?_; rotate_left; (focus (intro w hSw; (try dsimp only at hSw); go_simp; (try (with_reducible rfl)); done)); try simp only [Act.put, List.setIfInBounds_toArray, List.set_cons_zero, List.set_cons_succ])
          (refine wpL_calm (o := { dst := some 149, op := Go.Op.load 3 (Go.Operand.tmp 148), type := 3, pos := "ref.go:152", after := #[{ on := 7, ground := Go.Ground.data }], guard := none }) (v := ?_) rfl (Or.inl ⟨by rfl, ?_⟩) ?_; rotate_left; (focus (intro w hSw; (try dsimp only at hSw); go_simp; (try (with_reducible rfl)); done)); try simp only [Act.put, List.setIfInBounds_toArray, List.set_cons_zero, List.set_cons_succ])
          (refine wpL_calm (o := { dst := some 150, op := Go.Op.move (Go.Operand.tmp 10), type := 33, pos := "ref.go:152", after := #[], guard := none }) (v := ?_) rfl (Or.inl ⟨by rfl, ?_⟩) ?_; rotate_left; (focus (intro w hSw; (try dsimp only at hSw); go_simp; (try (with_reducible rfl)); done)); try simp only [Act.put, List.setIfInBounds_toArray, List.set_cons_zero, List.set_cons_succ])
          (refine wpL_calm (o := { dst := some 151, op := Go.Op.indexAddr 33 (Go.Operand.tmp 150) (Go.Operand.const (Go.Value.int Go.IntKind.i64 2)), type := 0, pos := "ref.go:152", after := #[{ on := 9, ground := Go.Ground.data }], guard := none }) (v := ?_) rfl (Or.inl ⟨by rfl, ?_⟩) ?_; rotate_left; (focus (intro w hSw; (try dsimp only at hSw); go_simp; (try (with_reducible rfl)); done)); try simp only [Act.put, List.setIfInBounds_toArray, List.set_cons_zero, List.set_cons_succ])
          (refine wpL_calm (o := { dst := some 152, op := Go.Op.load 3 (Go.Operand.tmp 151), type := 3, pos := "ref.go:152", after := #[{ on := 10, ground := Go.Ground.data }], guard := none }) (v := ?_) rfl (Or.inl ⟨by rfl, ?_⟩) ?_; rotate_left; (focus (intro w hSw; (try dsimp only at hSw); go_simp; (try (with_reducible rfl)); done)); try simp only [Act.put, List.setIfInBounds_toArray, List.set_cons_zero, List.set_cons_succ])
          (refine wpL_calm (o := { dst := some 153, op := Go.Op.move (Go.Operand.tmp 10), type := 33, pos := "ref.go:152", after := #[], guard := none }) (v := ?_) rfl (Or.inl ⟨by rfl, ?_⟩) ?_; rotate_left; (focus (intro w hSw; (try dsimp only at hSw); go_simp; (try (with_reducible rfl)); done)); try simp only [Act.put, List.setIfInBounds_toArray, List.set_cons_zero, List.set_cons_succ])
          (refine wpL_calm (o := { dst := some 154, op := Go.Op.indexAddr 33 (Go.Operand.tmp 153) (Go.Operand.const (Go.Value.int Go.IntKind.i64 3)), type := 0, pos := "ref.go:152", after := #[{ on := 12, ground := Go.Ground.data }], guard := none }) (v := ?_) rfl (Or.inl ⟨by rfl, ?_⟩) ?_; rotate_left; (focus (intro w hSw; (try dsimp only at hSw); go_simp; (try (with_reducible rfl)); done)); try simp only [Act.put, List.setIfInBounds_toArray, List.set_cons_zero, List.set_cons_succ])
          (refine wpL_calm (o := { dst := some 155, op := Go.Op.load 3 (Go.Operand.tmp 154), type := 3, pos := "ref.go:152", after := #[{ on := 13, ground := Go.Ground.data }], guard := none }) (v := ?_) rfl (Or.inl ⟨by rfl, ?_⟩) ?_; rotate_left; (focus (intro w hSw; (try dsimp only at hSw); go_simp; (try (with_reducible rfl)); done)); try simp only [Act.put, List.setIfInBounds_toArray, List.set_cons_zero, List.set_cons_succ])
          (refine wpL_calm (o := { dst := some 156, op := Go.Op.move (Go.Operand.tmp 12), type := 3, pos := "ref.go:152", after := #[], guard := none }) (v := ?_) rfl (Or.inl ⟨by rfl, ?_⟩) ?_; rotate_left; (focus (intro w hSw; (try dsimp only at hSw); go_simp; (try (with_reducible rfl)); done)); try simp only [Act.put, List.setIfInBounds_toArray, List.set_cons_zero, List.set_cons_succ])
          (refine wpL_calm (o := { dst := some 158, op := Go.Op.move (Go.Operand.tmp 10), type := 33, pos := "ref.go:152", after := #[], guard := none }) (v := ?_) rfl (Or.inl ⟨by rfl, ?_⟩) ?_; rotate_left; (focus (intro w hSw; (try dsimp only at hSw); go_simp; (try (with_reducible rfl)); done)); try simp only [Act.put, List.setIfInBounds_toArray, List.set_cons_zero, List.set_cons_succ])
          (refine wpL_calm (o := { dst := some 159, op := Go.Op.indexAddr 33 (Go.Operand.tmp 158) (Go.Operand.const (Go.Value.int Go.IntKind.i64 4)), type := 0, pos := "ref.go:152", after := #[{ on := 17, ground := Go.Ground.data }], guard := none }) (v := ?_) rfl (Or.inl ⟨by rfl, ?_⟩) ?_; rotate_left; (focus (intro w hSw; (try dsimp only at hSw); go_simp; (try (with_reducible rfl)); done)); try simp only [Act.put, List.setIfInBounds_toArray, List.set_cons_zero, List.set_cons_succ])
          (refine wpL_calm (o := { dst := some 160, op := Go.Op.load 3 (Go.Operand.tmp 159), type := 3, pos := "ref.go:152", after := #[{ on := 18, ground := Go.Ground.data }], guard := none }) (v := ?_) rfl (Or.inl ⟨by rfl, ?_⟩) ?_; rotate_left; (focus (intro w hSw; (try dsimp only at hSw); go_simp; (try (with_reducible rfl)); done)); try simp only [Act.put, List.setIfInBounds_toArray, List.set_cons_zero, List.set_cons_succ])
          (refine wpL_calm (o := { dst := some 161, op := Go.Op.move (Go.Operand.tmp 10), type := 33, pos := "ref.go:152", after := #[], guard := none }) (v := ?_) rfl (Or.inl ⟨by rfl, ?_⟩) ?_; rotate_left; (focus (intro w hSw; (try dsimp only at hSw); go_simp; (try (with_reducible rfl)); done)); try simp only [Act.put, List.setIfInBounds_toArray, List.set_cons_zero, List.set_cons_succ])
          (refine wpL_calm (o := { dst := some 162, op := Go.Op.indexAddr 33 (Go.Operand.tmp 161) (Go.Operand.const (Go.Value.int Go.IntKind.i64 5)), type := 0, pos := "ref.go:152", after := #[{ on := 20, ground := Go.Ground.data }], guard := none }) (v := ?_) rfl (Or.inl ⟨by rfl, ?_⟩) ?_; rotate_left; (focus (intro w hSw; (try dsimp only at hSw); go_simp; (try (with_reducible rfl)); done)); try simp only [Act.put, List.setIfInBounds_toArray, List.set_cons_zero, List.set_cons_succ])
          (refine wpL_calm (o := { dst := some 163, op := Go.Op.load 3 (Go.Operand.tmp 162), type := 3, pos := "ref.go:152", after := #[{ on := 21, ground := Go.Ground.data }], guard := none }) (v := ?_) rfl (Or.inl ⟨by rfl, ?_⟩) ?_; rotate_left; (focus (intro w hSw; (try dsimp only at hSw); go_simp; (try (with_reducible rfl)); done)); try simp only [Act.put, List.setIfInBounds_toArray, List.set_cons_zero, List.set_cons_succ])
          (refine wpL_calm (o := { dst := some 164, op := Go.Op.move (Go.Operand.tmp 10), type := 33, pos := "ref.go:152", after := #[], guard := none }) (v := ?_) rfl (Or.inl ⟨by rfl, ?_⟩) ?_; rotate_left; (focus (intro w hSw; (try dsimp only at hSw); go_simp; (try (with_reducible rfl)); done)); try simp only [Act.put, List.setIfInBounds_toArray, List.set_cons_zero, List.set_cons_succ])
          (refine wpL_calm (o := { dst := some 165, op := Go.Op.indexAddr 33 (Go.Operand.tmp 164) (Go.Operand.const (Go.Value.int Go.IntKind.i64 6)), type := 0, pos := "ref.go:152", after := #[{ on := 23, ground := Go.Ground.data }], guard := none }) (v := ?_) rfl (Or.inl ⟨by rfl, ?_⟩) ?_; rotate_left; (focus (intro w hSw; (try dsimp only at hSw); go_simp; (try (with_reducible rfl)); done)); try simp only [Act.put, List.setIfInBounds_toArray, List.set_cons_zero, List.set_cons_succ])
          (refine wpL_calm (o := { dst := some 166, op := Go.Op.load 3 (Go.Operand.tmp 165), type := 3, pos := "ref.go:152", after := #[{ on := 24, ground := Go.Ground.data }], guard := none }) (v := ?_) rfl (Or.inl ⟨by rfl, ?_⟩) ?_; rotate_left; (focus (intro w hSw; (try dsimp only at hSw); go_simp; (try (with_reducible rfl)); done)); try simp only [Act.put, List.setIfInBounds_toArray, List.set_cons_zero, List.set_cons_succ])
          refine wpL_loud1 (o := { dst := some 143, op := Go.Op.call { callee := Go.Callee.value (Go.Operand.func 26), args := #[Go.Operand.tmp 141, Go.Operand.tmp 142], argTypes := #[3, 3] }, type := 3, pos := "ref.go:152", after := #[{ on := 0, ground := Go.Ground.data }, { on := 1, ground := Go.Ground.data }], guard := none }) rfl (fun K hK => ?_)
          (go_simp; go_at_call 26; refine (r03add_ex _ _ _).mono ?_; rintro e u4' ⟨z1, rfl, HZ1, rfl⟩)
          try go_wp2_with fail
          refine hK.out _ _ ?_ (fun hHeld => ?_)
          · (try dsimp only); exact hHeld
          clear hK K
          try simp only [Act.put, List.setIfInBounds_toArray, List.set_cons_zero, List.set_cons_succ]
          refine wpL_loud1 (o := { dst := some 157, op := Go.Op.call { callee := Go.Callee.value (Go.Operand.func 26), args := #[Go.Operand.tmp 155, Go.Operand.tmp 156], argTypes := #[3, 3] }, type := 3, pos := "ref.go:152", after := #[{ on := 14, ground := Go.Ground.data }, { on := 15, ground := Go.Ground.data }, { on := 2, ground := Go.Ground.chain }], guard := none }) rfl (fun K hK => ?_)
          (go_simp; go_at_call 26; refine (r03add_ex _ _ _).mono ?_; rintro e u4' ⟨z2, rfl, HZ2, rfl⟩)
          try go_wp2_with fail
          refine hK.out _ _ ?_ (fun hHeld => ?_)
          · (try dsimp only); exact hHeld
          clear hK K
          try simp only [Act.put, List.setIfInBounds_toArray, List.set_cons_zero, List.set_cons_succ]
          refine wpL_loud1 (o := { dst := some 167, op := Go.Op.buildSlice 33 8 #[(0, Go.Operand.tmp 143), (1, Go.Operand.tmp 146), (2, Go.Operand.tmp 149), (3, Go.Operand.tmp 152), (4, Go.Operand.tmp 157), (5, Go.Operand.tmp 160), (6, Go.Operand.tmp 163), (7, Go.Operand.tmp 166)], type := 33, pos := "ref.go:152", after := #[{ on := 2, ground := Go.Ground.data }, { on := 5, ground := Go.Ground.data }, { on := 8, ground := Go.Ground.data }, { on := 11, ground := Go.Ground.data }, { on := 16, ground := Go.Ground.data }, { on := 19, ground := Go.Ground.data }, { on := 22, ground := Go.Ground.data }, { on := 25, ground := Go.Ground.data }], guard := none }) rfl (fun K hK => ?_)
          (rw [if_pos (by rfl)]; refine wp_build8 33 3 _ _ _ _ _ _ _ _ rfl i0 Tryd.underlying33 hi hz0 hz1 (z1.toNat : Int) (V.a.toNat : Int) (V.b.toNat : Int) (V.c.toNat : Int) (z2.toNat : Int) (V.e.toNat : Int) (V.f.toNat : Int) (V.g.toNat : Int) rfl rfl rfl rfl rfl rfl rfl rfl ?_)
          refine hK.out _ _ ?_ (fun hHeld => ?_)
          · (try dsimp only); exact q18.seven _
          clear hK K
          try simp only [Act.put, List.setIfInBounds_toArray, List.set_cons_zero, List.set_cons_succ]
          (refine wpL_calm (o := { dst := some 10, op := Go.Op.assign (Go.Operand.tmp 167), type := 33, pos := "ref.go:152", after := #[{ on := 26, ground := Go.Ground.data }, { on := 16, ground := Go.Ground.chain }, { on := 0, ground := Go.Ground.phase }, { on := 1, ground := Go.Ground.phase }, { on := 2, ground := Go.Ground.phase }, { on := 3, ground := Go.Ground.phase }, { on := 4, ground := Go.Ground.phase }, { on := 5, ground := Go.Ground.phase }, { on := 6, ground := Go.Ground.phase }, { on := 7, ground := Go.Ground.phase }, { on := 8, ground := Go.Ground.phase }, { on := 9, ground := Go.Ground.phase }, { on := 10, ground := Go.Ground.phase }, { on := 11, ground := Go.Ground.phase }, { on := 12, ground := Go.Ground.phase }, { on := 13, ground := Go.Ground.phase }, { on := 14, ground := Go.Ground.phase }, { on := 15, ground := Go.Ground.phase }, { on := 16, ground := Go.Ground.phase }, { on := 17, ground := Go.Ground.phase }, { on := 18, ground := Go.Ground.phase }, { on := 19, ground := Go.Ground.phase }, { on := 20, ground := Go.Ground.phase }, { on := 21, ground := Go.Ground.phase }, { on := 22, ground := Go.Ground.phase }, { on := 23, ground := Go.Ground.phase }, { on := 24, ground := Go.Ground.phase }, { on := 25, ground := Go.Ground.phase }, { on := 26, ground := Go.Ground.phase }], guard := none }) (v := ?_) rfl (Or.inl ⟨by rfl, ?_⟩) ?_; rotate_left; (focus (intro w hSw; (try dsimp only at hSw); go_simp; (try (with_reducible rfl)); done)); try simp only [Act.put, List.setIfInBounds_toArray, List.set_cons_zero, List.set_cons_succ])
          refine wpL_nil ?_
          refine NoPanic.normal ?_
          clear hHeld
          have D5 := D4.drew.alloc hsu4 (.cells #[.int .i64 (z1.toNat : Int), .int .i64 (V.a.toNat : Int), .int .i64 (V.b.toNat : Int), .int .i64 (V.c.toNat : Int), .int .i64 (z2.toNat : Int), .int .i64 (V.e.toNat : Int), .int .i64 (V.f.toNat : Int), .int .i64 (V.g.toNat : Int)] 3)
          have hnew := heap_alloc_new u4.drew (.cells #[.int .i64 (z1.toNat : Int), .int .i64 (V.a.toNat : Int), .int .i64 (V.b.toNat : Int), .int .i64 (V.c.toNat : Int), .int .i64 (z2.toNat : Int), .int .i64 (V.e.toNat : Int), .int .i64 (V.f.toNat : Int), .int .i64 (V.g.toNat : Int)] 3)
          have D6 : Below w2.heap.size w2 _ := HB.out.trans (D5.mono HSZ)
          have V6 := Lib.hid (Vat.mk (v := ⟨z1, V.a, V.b, V.c, z2, V.e, V.f, V.g⟩) (cell_of_row _ u4.drew.heap.size 0 _ _ _ hnew) (cell_of_row _ u4.drew.heap.size 1 _ _ _ hnew) (cell_of_row _ u4.drew.heap.size 2 _ _ _ hnew) (cell_of_row _ u4.drew.heap.size 3 _ _ _ hnew) (cell_of_row _ u4.drew.heap.size 4 _ _ _ hnew) (cell_of_row _ u4.drew.heap.size 5 _ _ _ hnew) (cell_of_row _ u4.drew.heap.size 6 _ _ _ hnew) (cell_of_row _ u4.drew.heap.size 7 _ _ _ hnew) (Array.getElem?_eq_some_iff.1 hnew).1)
          have HD6 := Lib.hid D6
          have HST3 : Hid (rounds (wl l 64) v (k + 1) = ⟨z1, V.a, V.b, V.c, z2, V.e, V.f, V.g⟩) := Lib.hid (by rw [HST2.out, ← HZ1.out, ← HZ2.out])
          clear D6 D5 hnew D4 V4 q18
          go_wp2_with fail
          go_roundw
          case rel => exact ⟨k + 1, _, 8, rfl, by go_num, by omega, Nat.le_refl _, Lib.hid (by rw [HST3.out]; exact V6.out), HD6⟩
          case measure => simp [intOf]; omega
        · as_aux_lemma =>
          obtain rfl : k = 64 := by omega
          obtain ⟨wm, hwm⟩ : ∃ x, x = wr := ⟨_, rfl⟩
          subst hwm
          rw [show ((64 : Nat) : Int) = 64 from rfl]
          have HBO2 := HBO.out
          generalize rounds (wl l 64) v 64 = V at *
          have HBO3 := Lib.hid HBO2
          clear HBO2
          have HVH := Lib.hid (HVH2.out.below HB.out)
          have B3 := Lib.hid (B2.out.trans (HB.out.mono hs2))
          have hsr : B ≤ wm.heap.size := Nat.le_trans hs2 HSZ
          clear HB NW2 NK2
          go_wp2_with fail
          go_loopw [14, 15] (fun r i wi => ∃ k : Nat, i = .int .i64 k ∧ k ≤ 8 ∧ Hid (wi.ownsRow wm.heap.size 3 1 r k (nv (outN v V k))) ∧ Hid (Below wm.heap.size wm wi)) (fun _ i _ => 8 - (intOf i).toNat)
          case atStart => exact ⟨0, rfl, by omega, Lib.hid (by with_unfolding_all exact World.ownsRow_nil _ _ _ _), Lib.hid (Below.refl _ _)⟩
          case round =>
            obtain ⟨k, rfl, hk, HO, HB⟩ := hrel
            have HSZ3 := HB.out.size
            by_cases hlt : k < 8
            · as_aux_lemma =>
              have hli : (k : Int) < 8 := by omega
              obtain ⟨a, c', rfl, hc1, hc2⟩ := own_sl HO.out
              have VH := HVH.out.below HB.out
              have VV := HV.out.below HB.out
              have ch_ := VH.at k hlt
              have cv_ := VV.at k hlt
              have hlh := VH.lt
              have hlv := VV.lt
              have HS1 := Lib.hid (outN_snoc v V k)
              clear VH VV
              generalize v.at k = x at *
              generalize V.at k = y at *
              go_wp2_with fail
              refine wp_region_lin (S := (fun w' => w'.cell? ⟨gh, k, none⟩ = some (.int .i64 (x.toNat : Int)) ∧ w'.cell? ⟨g, k, none⟩ = some (.int .i64 (y.toNat : Int)))) [(0, true), (1, true), (2, true), (3, true), (4, true), (5, true), (6, true), (7, true), (8, true), (9, false), (10, false), (11, false), (12, true)] (by kernel_rfl) (by kernel_rfl) rfl (by kernel_rfl) ?_ (fun hHeld => ?_)
              · (try dsimp only); exact ⟨ch_, cv_⟩
              (refine wpL_calm (o := { dst := some 172, op := Go.Op.move (Go.Operand.tmp 14), type := 33, pos := "ref.go:156", after := #[], guard := none }) (v := ?_) rfl (Or.inl ⟨by rfl, ?_⟩) ?_; rotate_left; (focus (intro w hSw; (try dsimp only at hSw); go_simp; (try (with_reducible rfl)); done)); try simp only [Act.put, List.setIfInBounds_toArray, List.set_cons_zero, List.set_cons_succ])
              (refine wpL_calm (o := { dst := some 173, op := Go.Op.move (Go.Operand.tmp 0), type := 33, pos := "ref.go:156", after := #[], guard := none }) (v := ?_) rfl (Or.inl ⟨by rfl, ?_⟩) ?_; rotate_left; (focus (intro w hSw; (try dsimp only at hSw); go_simp; (try (with_reducible rfl)); done)); try simp only [Act.put, List.setIfInBounds_toArray, List.set_cons_zero, List.set_cons_succ])
              (refine wpL_calm (o := { dst := some 174, op := Go.Op.move (Go.Operand.tmp 15), type := 3, pos := "ref.go:156", after := #[], guard := none }) (v := ?_) rfl (Or.inl ⟨by rfl, ?_⟩) ?_; rotate_left; (focus (intro w hSw; (try dsimp only at hSw); go_simp; (try (with_reducible rfl)); done)); try simp only [Act.put, List.setIfInBounds_toArray, List.set_cons_zero, List.set_cons_succ])
              (refine wpL_calm (o := { dst := some 175, op := Go.Op.indexAddr 33 (Go.Operand.tmp 173) (Go.Operand.tmp 174), type := 0, pos := "ref.go:156", after := #[{ on := 1, ground := Go.Ground.data }, { on := 2, ground := Go.Ground.data }], guard := none }) (v := ?_) rfl (Or.inl ⟨by rfl, ?_⟩) ?_; rotate_left; (focus (intro w hSw; (try dsimp only at hSw); go_simp; (try (with_reducible rfl)); done)); try simp only [Act.put, List.setIfInBounds_toArray, List.set_cons_zero, List.set_cons_succ])
              (refine wpL_calm (o := { dst := some 176, op := Go.Op.load 3 (Go.Operand.tmp 175), type := 3, pos := "ref.go:156", after := #[{ on := 3, ground := Go.Ground.data }], guard := none }) (v := ?_) rfl (Or.inl ⟨by rfl, ?_⟩) ?_; rotate_left; (focus (intro w hSw; (try dsimp only at hSw); go_simp; (try (with_reducible rfl)); done)); try simp only [Act.put, List.setIfInBounds_toArray, List.set_cons_zero, List.set_cons_succ])
              (refine wpL_calm (o := { dst := some 177, op := Go.Op.move (Go.Operand.tmp 10), type := 33, pos := "ref.go:156", after := #[], guard := none }) (v := ?_) rfl (Or.inl ⟨by rfl, ?_⟩) ?_; rotate_left; (focus (intro w hSw; (try dsimp only at hSw); go_simp; (try (with_reducible rfl)); done)); try simp only [Act.put, List.setIfInBounds_toArray, List.set_cons_zero, List.set_cons_succ])
              (refine wpL_calm (o := { dst := some 178, op := Go.Op.move (Go.Operand.tmp 15), type := 3, pos := "ref.go:156", after := #[], guard := none }) (v := ?_) rfl (Or.inl ⟨by rfl, ?_⟩) ?_; rotate_left; (focus (intro w hSw; (try dsimp only at hSw); go_simp; (try (with_reducible rfl)); done)); try simp only [Act.put, List.setIfInBounds_toArray, List.set_cons_zero, List.set_cons_succ])
              (refine wpL_calm (o := { dst := some 179, op := Go.Op.indexAddr 33 (Go.Operand.tmp 177) (Go.Operand.tmp 178), type := 0, pos := "ref.go:156", after := #[{ on := 5, ground := Go.Ground.data }, { on := 6, ground := Go.Ground.data }], guard := none }) (v := ?_) rfl (Or.inl ⟨by rfl, ?_⟩) ?_; rotate_left; (focus (intro w hSw; (try dsimp only at hSw); go_simp; (try (with_reducible rfl)); done)); try simp only [Act.put, List.setIfInBounds_toArray, List.set_cons_zero, List.set_cons_succ])
              (refine wpL_calm (o := { dst := some 180, op := Go.Op.load 3 (Go.Operand.tmp 179), type := 3, pos := "ref.go:156", after := #[{ on := 7, ground := Go.Ground.data }], guard := none }) (v := ?_) rfl (Or.inl ⟨by rfl, ?_⟩) ?_; rotate_left; (focus (intro w hSw; (try dsimp only at hSw); go_simp; (try (with_reducible rfl)); done)); try simp only [Act.put, List.setIfInBounds_toArray, List.set_cons_zero, List.set_cons_succ])
              refine wpL_loud1 (o := { dst := some 181, op := Go.Op.call { callee := Go.Callee.value (Go.Operand.func 26), args := #[Go.Operand.tmp 176, Go.Operand.tmp 180], argTypes := #[3, 3] }, type := 3, pos := "ref.go:156", after := #[{ on := 4, ground := Go.Ground.data }, { on := 8, ground := Go.Ground.data }], guard := none }) rfl (fun K hK => ?_)
              (go_simp; go_at_call 26; refine (r03add_ex _ _ _).mono ?_; rintro e w1' ⟨z, rfl, HZ, rfl⟩)
              try go_wp2_with fail
              refine hK.out _ _ ?_ (fun hHeld => ?_)
              · (try dsimp only); exact hHeld
              clear hK K
              try simp only [Act.put, List.setIfInBounds_toArray, List.set_cons_zero, List.set_cons_succ]
              refine wpL_loud1 (o := { dst := some 182, op := Go.Op.buildSlice 33 1 #[(0, Go.Operand.tmp 181)], type := 33, pos := "ref.go:156", after := #[{ on := 9, ground := Go.Ground.data }], guard := none }) rfl (fun K hK => ?_)
              go_simp
              refine hK.out _ _ ?_ (fun hHeld => ?_)
              · (try dsimp only); exact ⟨(((Below.refl wr.heap.size wr).alloc (Nat.le_refl _) _).cell (p := ⟨gh, k, none⟩) hlh).trans ch_, (((Below.refl wr.heap.size wr).alloc (Nat.le_refl _) _).cell (p := ⟨g, k, none⟩) hlv).trans cv_⟩
              clear hK K
              try simp only [Act.put, List.setIfInBounds_toArray, List.set_cons_zero, List.set_cons_succ]
              refine wpL_loud1 (o := { dst := some 183, op := Go.Op.call { callee := Go.Callee.builtin Go.Builtin.append, args := #[Go.Operand.tmp 172, Go.Operand.tmp 182], argTypes := #[33, 33] }, type := 33, pos := "ref.go:156", after := #[{ on := 0, ground := Go.Ground.data }, { on := 10, ground := Go.Ground.data }, { on := 9, ground := Go.Ground.chain }], guard := none }) rfl (fun K hK => ?_)
              (rw [if_pos (by rfl)]; refine wp_append_own _ _ _ 33 rfl wm.heap.size 3 i0 (.int .i64 0) 1 8 Tryd.underlying33 hi hz0 hz1 hz2 rfl (by decide) _ _ _ rfl (own_alloc HO.out _) ⟨wr.heap.size, 0, none⟩ 1 1 [.int .i64 (z.toNat : Int)] rfl rfl (one_dcell wr _ _) (by simp [Value.oneCell']) (by unfold maxLen; omega) (by omega) (by simp; omega) ?_; intro v2 w2 O2 G2 _; have hB2 : Below wm.heap.size wm w2 := ((HB.out.alloc HSZ3 _).drew).grown G2 (by simp; omega) (fun j e => (HO.out.lt j e).1))
              try go_wp2_with fail
              refine hK.out _ _ ?_ (fun hHeld => ?_)
              · (try dsimp only); exact ⟨((HVH.out.below hB2).at k hlt).trans (by rw [← ch_]; exact ((HVH.out.below HB.out).at k hlt).symm), ((HV.out.below hB2).at k hlt).trans (by rw [← cv_]; exact ((HV.out.below HB.out).at k hlt).symm)⟩
              clear hK K
              try simp only [Act.put, List.setIfInBounds_toArray, List.set_cons_zero, List.set_cons_succ]
              (refine wpL_calm (o := { dst := some 14, op := Go.Op.assign (Go.Operand.tmp 183), type := 33, pos := "ref.go:156", after := #[{ on := 11, ground := Go.Ground.data }, { on := 11, ground := Go.Ground.chain }, { on := 0, ground := Go.Ground.phase }, { on := 1, ground := Go.Ground.phase }, { on := 2, ground := Go.Ground.phase }, { on := 3, ground := Go.Ground.phase }, { on := 4, ground := Go.Ground.phase }, { on := 5, ground := Go.Ground.phase }, { on := 6, ground := Go.Ground.phase }, { on := 7, ground := Go.Ground.phase }, { on := 8, ground := Go.Ground.phase }, { on := 9, ground := Go.Ground.phase }, { on := 10, ground := Go.Ground.phase }, { on := 11, ground := Go.Ground.phase }], guard := none }) (v := ?_) rfl (Or.inl ⟨by rfl, ?_⟩) ?_; rotate_left; (focus (intro w hSw; (try dsimp only at hSw); go_simp; (try (with_reducible rfl)); done)); try simp only [Act.put, List.setIfInBounds_toArray, List.set_cons_zero, List.set_cons_succ])
              refine wpL_nil ?_
              refine NoPanic.normal ?_
              have HO2 := Lib.hid O2
              clear O2 hHeld
              go_wp2_with fail
              go_roundw
              case rel => exact ⟨k + 1, by go_num, by omega, Lib.hid (by rw [HS1.out, nv_app, ← HZ.out]; exact HO2.out), Lib.hid hB2⟩
              case measure => simp [intOf]; omega
            · as_aux_lemma =>
              obtain rfl : k = 8 := by omega
              rw [show ((8 : Nat) : Int) = 8 from rfl]
              go_wp2_with fail
              go_ret
              rw [HGB.out]
              exact ⟨_, rfl, by rw [← HBO3.out]; exact own_weak HO.out hsr, B3.out.trans (HB.out.mono hsr)⟩
end Go.Proofs.YtndhegdhkoileaaDoor
