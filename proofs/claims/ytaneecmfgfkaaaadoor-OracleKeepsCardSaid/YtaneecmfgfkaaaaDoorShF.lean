/- Contracts (cellaret): sha.workAll. -/
import Derived.Test.YtaneecmfgfkaaaaDoorShE
namespace Go.Proofs.YtaneecmfgfkaaaaDoor
open Go.RowKit Go.Deep
set_option linter.unusedVariables false
set_option linter.unusedSimpArgs false
theorem work_snoc : ∀ (q : Nat) (v : V8) (l : List UInt8), work v l (q + 1) = blk (work v l q) ((l.drop (64 * q)).take 64)
  | 0, v, l => by simp [work]
  | q + 1, v, l => by
    show work (blk v (l.take 64)) (l.drop 64) (q + 1) = blk (work (blk v (l.take 64)) (l.drop 64) q) _
    rw [work_snoc q, List.drop_drop, show 64 + 64 * q = 64 * (q + 1) from by omega]
/-- Bytes behind a slice. -/
def BytesAt (w : World) (a : Option Addr) (l : List UInt8) : Prop := 0 < l.length → ∃ g o, a = some ⟨g, o, none⟩ ∧ g < w.heap.size ∧ w.rangeAt g o (bv l)
theorem range_take {w : World} {g o n : Nat} {l : List UInt8} (h : w.rangeAt g o (bv l)) : w.rangeAt g o (bv (l.take n)) := fun j u hu => by
  refine h j u ?_
  unfold bv at hu ⊢
  rw [List.map_take] at hu
  by_cases hj : j < n
  · rwa [List.getElem?_take, if_pos hj] at hu
  · rw [List.getElem?_take, if_neg hj] at hu; cases hu
theorem range_drop {w : World} {g o n : Nat} {l : List UInt8} (h : w.rangeAt g o (bv l)) : w.rangeAt g (o + n) (bv (l.drop n)) := fun j u hu => by
  unfold bv at hu
  rw [List.map_drop, List.getElem?_drop] at hu
  rw [Nat.add_assoc]
  exact h (n + j) u hu
theorem work_zero (v : V8) (l : List UInt8) : work v l 0 = v := rfl
attribute [local irreducible] work blk klist kL
set_option maxRecDepth 100000 in
set_option maxHeartbeats 2000000 in
theorem workAll_any (l : List UInt8) (v : V8) (gh oh : Nat) (ao : Option Addr) (cap : Nat) (w : World) (hK : w.rangeAt 1 0 kL) (h1h : 1 ≠ gh) (h1s : 1 < w.heap.size) (hh : WordsAt w gh oh v)
    (hb : BytesAt w ao l) (hbh : ∀ g o s, ao = some ⟨g, o, s⟩ → g ≠ gh) (hc : l.length ≤ cap) (hcm : cap ≤ 9223372036854775807) :
    Calls Tryd.prog 32 #[.pointer (some ⟨gh, oh, none⟩), .slice ao l.length cap] w fun e w' => (∃ a c, e = .returned (.slice a (l.length % 64) c) ∧ l.length % 64 ≤ c ∧ c ≤ cap ∧ BytesAt w' a (l.drop (64 * (l.length / 64))) ∧ (∀ g o s, a = some ⟨g, o, s⟩ → ∃ o' s', ao = some ⟨g, o', s'⟩)) ∧ WordsAt w' gh oh (work v l (l.length / 64)) ∧ w.grownBy w' (some gh) ∧ K8 w w' gh oh := by
  go_enter Tryd.func32, Tryd.ntmps32
  go_wp2_with fail
  refine (worker_any gh oh w).mono ?_
  rintro e w1 ⟨rfl, hw1⟩
  have B1 : Below w.heap.size w w1 := by rw [← hw1]; exact ((Below.refl _ _).alloc (Nat.le_refl _) _).alloc (by simp) _
  have hx1 : w1.cell? ⟨w.heap.size, 0, none⟩ = some (.pointer (some ⟨gh, oh, none⟩)) := by rw [← hw1]; simp
  have hr1 : w1.rowIs (w.heap.size + 1) 106 64 (fun j => wv ((fun _ => 0) j)) := by
    rw [← hw1]
    refine ⟨zero64, ?_, rfl, fun i hi => ?_⟩
    · have := heap_alloc_new (w.alloc (.cells #[.pointer (some ⟨gh, oh, none⟩)] 75)) (.cells zero64 106)
      simpa using this
    · unfold zero64; rw [List.getElem?_toArray, List.getElem?_replicate, if_pos hi]; rfl
  have hs1 : w.heap.size + 2 ≤ w1.heap.size := by rw [← hw1]; simp
  have hh1 : WordsAt w1 gh oh v := ⟨fun j u hu => (B1.cell (p := ⟨gh, oh + j, none⟩) hh.lt).trans (hh.r j u hu), there_below hh.t B1 hh.lt, by have := hh.lt; omega⟩
  have k1 : w1.rangeAt 1 0 kL := fun j u hu => (B1.cell (p := ⟨1, 0 + j, none⟩) h1s).trans (hK j u hu)
  have hb1 : BytesAt w1 ao l := fun h0 => by
    obtain ⟨g, o, h1, h2, h3⟩ := hb h0
    exact ⟨g, o, h1, by omega, fun j u hu => (B1.cell (p := ⟨g, o + j, none⟩) h2).trans (h3 j u hu)⟩
  have hbl : ∀ g o, 0 < l.length → ao = some ⟨g, o, none⟩ → g < w.heap.size := fun g o h0 e => by
    obtain ⟨g', o', h1, h2, _⟩ := hb h0
    rw [e] at h1; cases h1; exact h2
  have hghl := hh.lt
  have hghw : Hid (w1.heap[gh]? = w.heap[gh]?) := Lib.hid (B1.block gh hghl)
  clear hw1 hK hb
  generalize hgx : w.heap.size = gx at *
  have HB1 := Lib.hid B1
  have HG := Lib.hid hgx
  clear hgx B1
  go_wp2_with fail
  have hgxg : gh < gx := hghl
  have h1x : 1 < gx := h1s
  go_loopw [1] (fun s1 wi => ∃ (q : Nat) (a : Option Addr) (len cap' : Nat) (f : Nat → UInt32), s1 = .slice a len cap' ∧ 64 * q + len = l.length ∧ len ≤ cap' ∧ cap' ≤ cap ∧ Hid (BytesAt wi a (l.drop (64 * q))) ∧ Hid (∀ g o s, a = some ⟨g, o, s⟩ → ∃ o' s', ao = some ⟨g, o', s'⟩) ∧ Hid (WordsAt wi gh oh (work v l q)) ∧ Hid (wi.rowIs (gx + 1) 106 64 (fun j => wv (f j))) ∧ Hid (But2 w1 wi gh (gx + 1)) ∧ Hid (K8 w1 wi gh oh)) (fun s1 _ => (match s1 with | .slice _ n _ => n | _ => 0))
  case atStart => exact ⟨0, ao, l.length, cap, fun _ => 0, rfl, by omega, hc, Nat.le_refl _, Lib.hid (by simpa using hb1), Lib.hid (fun g o s e => ⟨o, s, e⟩), Lib.hid (by rw [work_zero]; exact hh1), Lib.hid hr1, Lib.hid (But2.refl _ _ _), Lib.hid (K8.ofSame rfl)⟩
  case round =>
    obtain ⟨q, a, len, cap', f, rfl, hq, hcl, hcc, hb, hbg, hh, hr, hM, hK8⟩ := hrel
    have hdl : (l.drop (64 * q)).length = len := by rw [List.length_drop]; omega
    by_cases hlt : 64 ≤ len
    · have hli : (64 : Int) ≤ len := by omega
      obtain ⟨g, o, rfl, hgl, hrg⟩ := hb.out (by omega)
      obtain ⟨o', s', hao⟩ := hbg.out g o none rfl
      obtain ⟨g0, o0, hao2, hg0, _⟩ := hb1 (by omega)
      have hgg : g0 = g := by rw [hao] at hao2; cases hao2; rfl
      have hggx : g < gx := by
        have := hbl g0 o0 (by omega) hao2
        rw [hgg] at this
        exact this
      have hggh : g ≠ gh := hbh g o' s' hao
      have hl64 : ((l.drop (64 * q)).take 64).length = 64 := by rw [List.length_take, hdl]; omega
      have HBG := Lib.hid hbg.out
      have HHR := Lib.hid hrg
      have hc64 : 64 ≤ cap' := by omega
      clear hao hao2 hgg hg0
      by_cases hcap : cap' = 64
      · subst hcap
        obtain rfl : len = 64 := by omega
        go_wp2_with fail
        refine (worker1_any ((l.drop (64 * q)).take 64) hl64 (work v l q) gh oh (gx + 1) gx g o 64 f wr (hM.out.range k1 (by omega) h1h (by omega)) h1h (by omega) (by have := hM.out.size; omega) (hM.out.cell hx1 (by show gx < _; omega) (by show gx ≠ gh; omega) (by show gx ≠ gx + 1; omega)) (by have := hM.out.size; omega) (by omega) (by omega) hh.out (by omega) hr.out (range_take hrg) hgl (by omega)).mono ?_
        rintro e w2 ⟨rfl, hh2, hr2, hM2, hk2⟩
        go_wp2_with fail
        go_roundw
        case rel => exact ⟨q + 1, some ⟨g, o, none⟩, 0, 0, wd ((l.drop (64 * q)).take 64), rfl, by omega, by omega, by omega, Lib.hid (fun h0 => by rw [List.length_drop] at h0; omega), Lib.hid (fun g' o2 s2 e => by cases e; exact HBG.out g o none rfl), Lib.hid (by rw [work_snoc]; exact hh2), Lib.hid hr2, Lib.hid (hM.out.trans hM2), Lib.hid (hK8.out.trans hk2)⟩
        case measure => show 0 < 64; omega
      · have hcl2 : 64 < cap' := by omega
        go_wp2_with fail
        refine (worker1_any ((l.drop (64 * q)).take 64) hl64 (work v l q) gh oh (gx + 1) gx g o 64 f wr (hM.out.range k1 (by omega) h1h (by omega)) h1h (by omega) (by have := hM.out.size; omega) (hM.out.cell hx1 (by show gx < _; omega) (by show gx ≠ gh; omega) (by show gx ≠ gx + 1; omega)) (by have := hM.out.size; omega) (by omega) (by omega) hh.out (by omega) hr.out (range_take hrg) hgl (by omega)).mono ?_
        rintro e w2 ⟨rfl, hh2, hr2, hM2, hk2⟩
        go_wp2_with fail
        go_roundw
        case rel => exact ⟨q + 1, some ⟨g, o + 64, none⟩, len - 64, cap' - 64, wd ((l.drop (64 * q)).take 64), rfl, by omega, by omega, by omega, Lib.hid (fun h0 => ⟨g, o + 64, rfl, by have := hM2.size; omega, by
            have := hM2.range (range_drop (n := 64) HHR.out) hgl hggh (by omega)
            rw [List.drop_drop, show 64 * q + 64 = 64 * (q + 1) from by omega] at this
            exact this⟩), Lib.hid (fun g' o2 s2 e => by cases e; exact HBG.out g o none rfl), Lib.hid (by rw [work_snoc]; exact hh2), Lib.hid hr2, Lib.hid (hM.out.trans hM2), Lib.hid (hK8.out.trans hk2)⟩
        case measure => show len - 64 < len; omega
    · have hlt2 : (len : Int) < 64 := by omega
      go_wp2_with fail
      go_ret
      have e1 : l.length % 64 = len := by omega
      have e2 : l.length / 64 = q := by omega
      have hsz := hM.out.size
      refine ⟨⟨a, cap', by rw [e1]; rfl, by omega, hcc, by rw [e2]; exact hb.out, hbg.out⟩, by rw [e2]; exact hh.out, ?_⟩
      refine ⟨⟨hM.out.os.trans HB1.out.os, hM.out.tape.trans HB1.out.tape, hM.out.output.trans HB1.out.output, by rw [HG.out]; omega, fun k hk hne => ?_⟩, (K8.ofSame hghw.out).trans hK8.out⟩
      rw [HG.out] at hk
      exact (hM.out.block k (by omega) (fun e => hne (by rw [e])) (by omega)).trans (HB1.out.block k hk)
end Go.Proofs.YtaneecmfgfkaaaaDoor
