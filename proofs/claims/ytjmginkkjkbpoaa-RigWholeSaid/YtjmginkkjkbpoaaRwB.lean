/- The reference's devices: Write, Tamper, Flush. -/
import Derived.Test.YtjmginkkjkbpoaaRwA
namespace Go.Proofs.Ytjmginkkjkbpoaa
open Go.RowKit Go.Deep
set_option linter.unusedVariables false
set_option linter.unusedSimpArgs false
/-- A device of the reference at block g. -/
def DAt (w : World) (B g : Nat) : Prop := B ≤ g ∧ ∃ n s b, w.heap[g]? = some (.cells #[n, s, b] 79 (0, 0)) ∧ T64 w B n ∧ T64 w B s ∧ B288 w B b
theorem DAt.lt {w : World} {B g : Nat} (h : DAt w B g) : g < w.heap.size := by obtain ⟨_, n, s, b, hg, _⟩ := h; exact (Array.getElem?_eq_some_iff.1 hg).1
theorem T64.other {w : World} {B g k : Nat} {v u : Value} {cs : Array Value} {t : TypeId} {fr : Nat × Nat} (h : T64 w B v) (hg : w.heap[g]? = some (.cells cs t fr)) (ht : t ≠ 9) : T64 (w.setCell ⟨g, k, none⟩ u) B v :=
  h.of_block fun g' cs' _ hg' => Below.heap_setCell w ⟨g, k, none⟩ u g' (fun e => by
    have e' : g' = g := e
    subst e'
    rw [hg] at hg'
    injection hg' with hg'
    injection hg' with _ h2
    exact ht h2)
theorem B288.other {w : World} {B g k : Nat} {v u : Value} {cs : Array Value} {t : TypeId} {fr : Nat × Nat} (h : B288 w B v) (hg : w.heap[g]? = some (.cells cs t fr)) (ht : t ≠ 4) : B288 (w.setCell ⟨g, k, none⟩ u) B v :=
  h.of_block fun g' cs' _ hg' => Below.heap_setCell w ⟨g, k, none⟩ u g' (fun e => by
    have e' : g' = g := e
    subst e'
    rw [hg] at hg'
    injection hg' with hg'
    injection hg' with _ h2
    exact ht h2)
theorem DAt.below {w w' : World} {B g : Nat} (h : DAt w B g) (hb : Below w.heap.size w w') : DAt w' B g := by
  obtain ⟨h0, n, s, b, hg, h1, h2, h3⟩ := h
  exact ⟨h0, n, s, b, (hb.block g (Array.getElem?_eq_some_iff.1 hg).1).trans hg, h1.below hb, h2.below hb, h3.below hb⟩
theorem DAt.set {w : World} {B g k : Nat} {n s b n' s' b' u : Value} (hB : B ≤ g) (hg : w.heap[g]? = some (.cells #[n, s, b] 79 (0, 0))) (e : (#[n, s, b] : Array Value).setIfInBounds k u = #[n', s', b']) (h1 : T64 w B n') (h2 : T64 w B s') (h3 : B288 w B b') : DAt (w.setCell ⟨g, k, none⟩ u) B g :=
  ⟨hB, n', s', b', by rw [heap_set hg, e], h1.other hg (by decide), h2.other hg (by decide), h3.other hg (by decide)⟩
theorem dv_cells {w : World} {g : Nat} {n s b : Value} (hg : w.heap[g]? = some (.cells #[n, s, b] 79 (0, 0))) : w.cell? ⟨g, 0, none⟩ = some n ∧ w.cell? ⟨g, 1, none⟩ = some s ∧ w.cell? ⟨g, 2, none⟩ = some b ∧ ∀ j, w.frozen? ⟨g, j, none⟩ = false :=
  ⟨cell_of_row _ _ 0 _ _ _ hg, cell_of_row _ _ 1 _ _ _ hg, cell_of_row _ _ 2 _ _ _ hg, fun j => frozen_of_row _ _ j _ _ hg⟩
/-- After a store into a device's own cells all lists stay. -/
theorem dv_after {w : World} {B g k : Nat} {n s b u : Value} (hB : B ≤ g) (hg : w.heap[g]? = some (.cells #[n, s, b] 79 (0, 0))) : (w.setCell ⟨g, k, none⟩ u).heap[g]? = some (.cells ((#[n, s, b] : Array Value).setIfInBounds k u) 79 (0, 0)) := heap_set hg
theorem kq_one {B g : Nat} {w w' : World} (h : Kq B [g] w w') (k : Nat) (u : Value) (hB : B ≤ g) : Kq B [g] w (w'.setCell ⟨g, k, none⟩ u) := h.setCell k u hB (by simp)
set_option maxRecDepth 100000 in
set_option maxHeartbeats 2000000 in
theorem dvWrite_any (B g i : Nat) (s : ByteArray) (w : World) (hD : DAt w B g) (hi : i < 288) (hs : s.size = 64) (hBw : B ≤ w.heap.size) : Calls Try.prog 55 #[.pointer (some ⟨g, 0, none⟩), .int .i64 (i : Int), .string s] w fun e w' => e = .returned (.tuple #[]) ∧ DAt w' B g ∧ Kq B [g] w w' := by
  obtain ⟨hB, n, sf, b, hg, hn, hsf, hb⟩ := hD
  have HS := Lib.hid hs
  have P1 := Lib.hid (put_any B n i s w hn hi hs)
  have PM := Lib.hid (fun (w' : World) (h : B288 w' B b) => mark_any B b i true w' h hi)
  obtain ⟨d0, d1, d2, df⟩ := dv_cells hg
  have HG := Lib.hid hg
  have HSF := Lib.hid hsf
  have HBB := Lib.hid hb
  have hgl := (Array.getElem?_eq_some_iff.1 hg).1
  clear hn hs hsf hb hg df d1 d2
  go_enter Try.func55, Try.ntmps55
  go_wp2_with fail
  refine P1.out.mono ?_
  rintro e w1 ⟨v1, rfl, t1, b1⟩
  obtain ⟨a1, k1, rfl⟩ := t1.sl
  have hg1 := (b1.block g hgl).trans HG.out
  obtain ⟨c0, c1, c2, cf⟩ := dv_cells hg1
  have f0 := cf 0
  have HK1 : Hid (Kq B [g] w (w1.setCell ⟨g, 0, none⟩ (.slice a1 288 k1))) := Lib.hid (kq_one (Kq.of_below b1 hBw) 0 (.slice a1 288 k1) hB)
  have HG2 : Hid ((w1.setCell ⟨g, 0, none⟩ (.slice a1 288 k1)).heap[g]? = some (.cells #[.slice a1 288 k1, sf, b] 79 (0, 0))) := Lib.hid (heap_set hg1)
  have HT1 : Hid (T64 (w1.setCell ⟨g, 0, none⟩ (.slice a1 288 k1)) B (.slice a1 288 k1)) := Lib.hid ((t1.base hBw).other hg1 (by decide))
  have HT2 : Hid (T64 (w1.setCell ⟨g, 0, none⟩ (.slice a1 288 k1)) B sf) := Lib.hid ((HSF.out.below b1).other hg1 (by decide))
  have HT3 : Hid (B288 (w1.setCell ⟨g, 0, none⟩ (.slice a1 288 k1)) B b) := Lib.hid ((HBB.out.below b1).other hg1 (by decide))
  clear c1 c2 cf t1 b1 hg1 d0 HG HSF HBB
  go_upto_region 1 with fail
  clear c0 f0
  generalize w1.setCell ⟨g, 0, none⟩ (.slice a1 288 k1) = w2 at *
  obtain ⟨c0, c1, c2, cf⟩ := dv_cells HG2.out
  clear c0 c1 cf
  go_wp2_with fail
  refine (PM.out _ HT3.out).mono ?_
  rintro e w3 ⟨v3, rfl, t3, b3⟩
  obtain ⟨a3, k3, rfl⟩ := t3.sl
  have hz2 : B ≤ w2.heap.size := Nat.le_trans hBw HK1.out.below.size
  have hg2l := (Array.getElem?_eq_some_iff.1 HG2.out).1
  have hg3 := (b3.block g hg2l).trans HG2.out
  obtain ⟨e0, e1, e2, cf⟩ := dv_cells hg3
  have f2 := cf 2
  have HK3 : Hid (Kq B [g] w (w3.setCell ⟨g, 2, none⟩ (.slice a3 288 k3))) := Lib.hid (kq_one (HK1.out.trans (Kq.of_below b3 hz2)) 2 (.slice a3 288 k3) hB)
  have HD3 : Hid (DAt (w3.setCell ⟨g, 2, none⟩ (.slice a3 288 k3)) B g) := Lib.hid (DAt.set hB hg3 rfl (HT1.out.below b3) (HT2.out.below b3) (t3.base hz2))
  clear e0 e1 cf t3 b3 hg3 c2
  go_wp2_with fail
  go_end0
  exact ⟨rfl, HD3.out, HK3.out⟩
set_option maxRecDepth 100000 in
set_option maxHeartbeats 2000000 in
theorem dvTamper_any (B g i : Nat) (s : ByteArray) (w : World) (hD : DAt w B g) (hi : i < 288) (hs : s.size = 64) (hBw : B ≤ w.heap.size) : Calls Try.prog 36 #[.pointer (some ⟨g, 0, none⟩), .int .i64 (i : Int), .string s] w fun e w' => e = .returned (.tuple #[]) ∧ DAt w' B g ∧ Kq B [g] w w' := by
  obtain ⟨hB, n, sf, b, hg, hn, hsf, hb⟩ := hD
  have HS := Lib.hid hs
  have P1 := Lib.hid (put_any B n i s w hn hi hs)
  have PM := Lib.hid (fun (w' : World) (h : T64 w' B sf) => put_any B sf i s w' h hi HS.out)
  obtain ⟨d0, d1, d2, df⟩ := dv_cells hg
  have HG := Lib.hid hg
  have HSF := Lib.hid hsf
  have HBB := Lib.hid hb
  have hgl := (Array.getElem?_eq_some_iff.1 hg).1
  clear hn hs hsf hb hg df d1 d2
  go_enter Try.func36, Try.ntmps36
  go_wp2_with fail
  refine P1.out.mono ?_
  rintro e w1 ⟨v1, rfl, t1, b1⟩
  obtain ⟨a1, k1, rfl⟩ := t1.sl
  have hg1 := ((b1.block g hgl).trans HG.out)
  obtain ⟨c0, c1, c2, cf⟩ := dv_cells hg1
  have f0 := cf 0
  have HK1 : Hid (Kq B [g] w (w1.setCell ⟨g, 0, none⟩ (.slice a1 288 k1))) := Lib.hid (kq_one (Kq.of_below b1 hBw) 0 (.slice a1 288 k1) hB)
  have HG2 : Hid ((w1.setCell ⟨g, 0, none⟩ (.slice a1 288 k1)).heap[g]? = some (.cells #[.slice a1 288 k1, sf, b] 79 (0, 0))) := Lib.hid (heap_set hg1)
  have HT1 : Hid (T64 (w1.setCell ⟨g, 0, none⟩ (.slice a1 288 k1)) B (.slice a1 288 k1)) := Lib.hid ((t1.base hBw).other hg1 (by decide))
  have HT2 : Hid (T64 (w1.setCell ⟨g, 0, none⟩ (.slice a1 288 k1)) B sf) := Lib.hid ((HSF.out.below b1).other hg1 (by decide))
  have HT3 : Hid (B288 (w1.setCell ⟨g, 0, none⟩ (.slice a1 288 k1)) B b) := Lib.hid ((HBB.out.below b1).other hg1 (by decide))
  clear c1 c2 cf t1 b1 hg1 d0 HG HSF HBB
  go_upto_region 1 with fail
  clear c0 f0
  generalize w1.setCell ⟨g, 0, none⟩ (.slice a1 288 k1) = w2 at *
  obtain ⟨c0, c1, c2, cf⟩ := dv_cells HG2.out
  clear c0 c2 cf
  go_wp2_with fail
  refine (PM.out _ HT2.out).mono ?_
  rintro e w3 ⟨v3, rfl, t3, b3⟩
  obtain ⟨a3, k3, rfl⟩ := t3.sl
  have hz2 : B ≤ w2.heap.size := Nat.le_trans hBw HK1.out.below.size
  have hg2l := (Array.getElem?_eq_some_iff.1 HG2.out).1
  have hg3 := (b3.block g hg2l).trans HG2.out
  obtain ⟨e0, e1, e2, cf⟩ := dv_cells hg3
  have f1 := cf 1
  have HK3 : Hid (Kq B [g] w (w3.setCell ⟨g, 1, none⟩ (.slice a3 288 k3))) := Lib.hid (kq_one (HK1.out.trans (Kq.of_below b3 hz2)) 1 (.slice a3 288 k3) hB)
  have HD3 : Hid (DAt (w3.setCell ⟨g, 1, none⟩ (.slice a3 288 k3)) B g) := Lib.hid (DAt.set hB hg3 rfl (HT1.out.below b3) (t3.base hz2) (HT3.out.below b3))
  clear e0 e2 cf t3 b3 hg3 c1
  go_wp2_with fail
  go_end0
  exact ⟨rfl, HD3.out, HK3.out⟩
end Go.Proofs.Ytjmginkkjkbpoaa
