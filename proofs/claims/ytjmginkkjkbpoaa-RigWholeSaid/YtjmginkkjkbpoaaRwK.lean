/- Both rigs; the law's block and writes. -/
import Derived.Test.YtjmginkkjkbpoaaRwI
import Derived.Test.YtjmginkkjkbpoaaRwJ
namespace Go.Proofs.Ytjmginkkjkbpoaa
open Go.RowKit Go.Deep
set_option linter.unusedVariables false
set_option linter.unusedSimpArgs false
/-- Both rigs, side by side. -/
structure Bo (B C : Nat) (w : World) (p : RgP) (last : ByteArray) (cs x g0 g1 : Nat) : Prop where
  rg : RgOK B w p last cs
  xx : ∃ S, XAt w C x g0 g1 S
  hc : p.g1 < C
  hw : C ≤ w.heap.size
  hb : B ≤ C
section
variable {B C cs ds x g0 g1 : Nat} {w w' : World} {p : RgP} {last last' : ByteArray}
theorem RgOK.ord (h : RgOK B w p last cs) : B ≤ p.R ∧ p.R < p.r0 ∧ p.r0 < p.g0 ∧ p.g0 < p.r1 ∧ p.r1 < p.g1 := by
  obtain ⟨S, c0, c1, h1, _⟩ := h
  have o := h1.ok
  exact ⟨o.bR, o.b0, o.b1, o.b2, o.b3⟩
theorem RgOK.ref (h : RgOK B w p last cs) (hb : Below C w w') (hc : p.g1 < C) (hw : C ≤ w.heap.size) : RgOK B w' p last cs := by
  obtain ⟨S, c0, c1, h1, h2⟩ := h
  have o := h1.ok
  have hb0 := o.b0
  have hb1 := o.b1
  have hb2 := o.b2
  have hb3 := o.b3
  have hq : ∀ k, k ≤ p.g1 → w'.heap[k]? = w.heap[k]? := fun k hk => hb.block k (by omega)
  exact ⟨S, c0, c1, ⟨(hq _ (by omega)).trans h1.row, h1.d0.off (hq _ (by omega)) (hq _ (by omega)), h1.d1.off (hq _ (by omega)) (hq _ (by omega)), o⟩, h2⟩
theorem XAt.rig {S : XrS} (h : XAt w C x g0 g1 S) (k : Kq B p.l w w') (hp : p.R < p.r0 ∧ p.r0 < p.r1) (hc : p.r1 < C) : XAt w' C x g0 g1 S := by
  have hq : ∀ k, C ≤ k → k < w.heap.size → w'.heap[k]? = w.heap[k]? := fun i h1 h2 => k.other i h2 (by unfold RgP.l; simp; omega)
  exact ⟨(hq _ h.bx h.lt).trans h.row, h.bx, h.d0.of_block (hq _ h.d0.1 h.d0.lt) (fun k h1 h2 _ _ => hq k h1 h2), h.d1.of_block (hq _ h.d1.1 h.d1.lt) (fun k h1 h2 _ _ => hq k h1 h2), h.ne, h.ok⟩
/-- A call of the rig. -/
theorem Bo.rig (h : Bo B C w p last cs x g0 g1) (r : RgOK B w' p last' ds) (k : Kq B p.l w w') : Bo B C w' p last' ds x g0 g1 := by
  obtain ⟨S, hX⟩ := h.xx
  have o := h.rg.ord
  have hc := h.hc
  exact ⟨r, ⟨S, hX.rig k (by omega) (by omega)⟩, h.hc, Nat.le_trans h.hw k.below.size, h.hb⟩
/-- A call of the reference's rig. -/
theorem Bo.ref (h : Bo B C w p last cs x g0 g1) (m : XMid C x g0 g1 w w') : Bo B C w' p last cs x g0 g1 := by
  obtain ⟨S, hX, k⟩ := m
  exact ⟨h.rg.ref k.below h.hc h.hw, ⟨S, hX⟩, h.hc, Nat.le_trans h.hw k.below.size, h.hb⟩
theorem Bo.below (h : Bo B C w p last cs x g0 g1) (hb : Below w.heap.size w w') : Bo B C w' p last cs x g0 g1 := by
  obtain ⟨S, hX⟩ := h.xx
  exact ⟨h.rg.below hb, ⟨S, hX.below hb⟩, h.hc, Nat.le_trans h.hw hb.size, h.hb⟩
theorem Bo.more (h : Bo B C w p last cs x g0 g1) (hc : cs ≤ ds) : Bo B C w p last ds x g0 g1 := ⟨h.rg.more hc, h.xx, h.hc, h.hw, h.hb⟩
theorem Bo.bw (h : Bo B C w p last cs x g0 g1) : B ≤ w.heap.size := Nat.le_trans h.hb h.hw
/-- A block of one's own, behind a call of the rig. -/
theorem Bo.rigRow (h : Bo B C w p last cs x g0 g1) (k : Kq B p.l w w') {b : Nat} {o : Obj} (hb : C ≤ b) (hr : w.heap[b]? = some o) : w'.heap[b]? = some o := by
  have q := h.rg.ord
  have hc := h.hc
  exact (k.other b (Array.getElem?_eq_some_iff.1 hr).1 (by unfold RgP.l; simp; omega)).trans hr
theorem Bo.refRow (m : XMid C x g0 g1 w w') {b : Nat} {o : Obj} (hr : w.heap[b]? = some o) (hb : b ∉ xrl x g0 g1) : w'.heap[b]? = some o := by
  obtain ⟨S, hX, k⟩ := m
  exact (k.other b (Array.getElem?_eq_some_iff.1 hr).1 hb).trans hr
theorem Bo.new (h : Bo B C w p last cs x g0 g1) {b : Nat} (hb : w.heap.size ≤ b) : b ∉ xrl x g0 g1 := by
  obtain ⟨S, hX⟩ := h.xx
  have h1 := hX.lt
  have h2 := hX.d0.lt
  have h3 := hX.d1.lt
  unfold xrl
  simp
  omega
theorem XMid.bel (m : XMid C x g0 g1 w w') (hb : B ≤ C) : Below B w w' := by
  obtain ⟨S, hX, k⟩ := m
  exact k.below.mono hb
end
theorem XPost.mid {C x g0 g1 : Nat} {w w' : World} {e : Ending} (h : XPost C x g0 g1 w e w') : ∃ z : Int, e = .returned (.int .i64 z) ∧ XMid C x g0 g1 w w' := by
  obtain ⟨z, S, h1, h2, h3⟩ := h
  exact ⟨z, h1, S, h2, h3⟩
theorem act_info : (Try.prog.info? 34).map (·.size) = some 12 := by kernel_rfl
/-- A call of the law: an answer, both rigs, and nothing below changed. -/
def DoP (B C : Nat) (p : RgP) (last : ByteArray) (cs x g0 g1 : Nat) (w : World) (e : Ending) (w' : World) : Prop := ∃ b : Bool, e = .returned (.bool b) ∧ Bo B C w' p last cs x g0 g1 ∧ Below B w w'
theorem box12 (w : World) (A : Array Value) : ∃ w1, Hid (w.alloc (.cells A 34) = w1) ∧ Hid (w1.heap[w.heap.size]? = some (.cells A 34 (0, 0))) ∧ Hid (Below w.heap.size w w1) := ⟨_, Lib.hid rfl, Lib.hid (heap_alloc_new _ _), Lib.hid ((Below.refl _ _).alloc (Nat.le_refl _) _)⟩
set_option maxRecDepth 100000 in
set_option maxHeartbeats 2000000 in
theorem block12_any (k d i m : Int) (s : ByteArray) (raw : Bool) (x0 x1 x2 y0 y1 y2 : Value) (t : ByteArray) (w : World) : Calls Try.prog 35 #[.agg #[.int .i64 k, .int .i64 d, .int .i64 i, .int .i64 m, .string s, .bool raw, x0, x1, x2, y0, y1, y2], .string t] w fun e w' => e = .returned (.int .i64 (rtE d i t)) ∧ Below w.heap.size w w' := by
  obtain ⟨w1, HW, HR, HB⟩ := box12 w #[.int .i64 k, .int .i64 d, .int .i64 i, .int .i64 m, .string s, .bool raw, x0, x1, x2, y0, y1, y2]
  have PM := Lib.hid (fun w => may12_any k d i m s raw x0 x1 x2 y0 y1 y2 w)
  have HZ : Hid ((rbE d i ≠ 0 → rtE d i t = rbE d i) ∧ (rbE d i = 0 → t.size = 64 → rtE d i t = 0) ∧ (rbE d i = 0 → t.size ≠ 64 → rtE d i t = 6)) := Lib.hid (by
    unfold rbE rtE txE
    rw [show (((288 : Nat) : Int)) = 288 from rfl]
    by_cases h1 : d = 0 ∨ d = 1
    · rw [if_pos h1, if_pos h1]
      by_cases h2 : i < 0 ∨ 288 ≤ i
      · rw [if_pos h2, if_pos h2]; exact ⟨fun _ => rfl, fun h => absurd h (by decide), fun h => absurd h (by decide)⟩
      · rw [if_neg h2, if_neg h2]
        exact ⟨fun h => absurd rfl h, fun _ h => by rw [if_pos h], fun _ h => by rw [if_neg h]⟩
    · rw [if_neg h1, if_neg h1]; exact ⟨fun _ => rfl, fun h => absurd h (by decide), fun h => absurd h (by decide)⟩)
  generalize rbE d i = z at *
  generalize rtE d i t = r at *
  by_cases h0 : z = 0
  · subst h0
    by_cases h64 : t.size = 64
    · obtain rfl := HZ.out.2.1 rfl h64
      have n64 : ((t.size : Int) != 64) = false := by simp; omega
      clear h64 HZ
      go_enter Try.func35, Try.ntmps35
      go_upto_region 1 with fail
      rw [HW.out]
      go_wp2_with (refine wpList_load_row rfl _ _ rfl w.heap.size rfl 34 _ (0, 0) _ HR.out Try.underlying34 rfl act_info ?_)
      refine (PM.out _).mono ?_
      rintro e w2 ⟨rfl, b2⟩
      go_wp2_with fail
      go_ret
      exact ⟨rfl, HB.out.trans (b2.mono HB.out.size)⟩
    · obtain rfl := HZ.out.2.2 rfl h64
      have n64 : ((t.size : Int) != 64) = true := by simp; omega
      clear h64 HZ
      go_enter Try.func35, Try.ntmps35
      go_upto_region 1 with fail
      rw [HW.out]
      go_wp2_with (refine wpList_load_row rfl _ _ rfl w.heap.size rfl 34 _ (0, 0) _ HR.out Try.underlying34 rfl act_info ?_)
      refine (PM.out _).mono ?_
      rintro e w2 ⟨rfl, b2⟩
      go_wp2_with fail
      go_ret
      exact ⟨rfl, HB.out.trans (b2.mono HB.out.size)⟩
  · obtain rfl := HZ.out.1 h0
    have hb : (r == 0) = false := by simpa using h0
    clear h0 HZ
    go_enter Try.func35, Try.ntmps35
    go_upto_region 1 with fail
    rw [HW.out]
    go_wp2_with (refine wpList_load_row rfl _ _ rfl w.heap.size rfl 34 _ (0, 0) _ HR.out Try.underlying34 rfl act_info ?_)
    refine (PM.out _).mono ?_
    rintro e w2 ⟨rfl, b2⟩
    go_wp2_with fail
    go_ret
    exact ⟨rfl, HB.out.trans (b2.mono HB.out.size)⟩
end Go.Proofs.Ytjmginkkjkbpoaa
