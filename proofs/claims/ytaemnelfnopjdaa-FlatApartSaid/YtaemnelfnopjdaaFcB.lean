/- The reference of flat: its shape; New, States. -/
import Derived.Test.YtaemnelfnopjdaaFcA
import Derived.Test.YtaemnelfnopjdaaFaV
namespace Go.Proofs.Ytaemnelfnopjdaa
open Go.RowKit Go.Deep Go.Maps
set_option linter.unusedVariables false
set_option linter.unusedSimpArgs false
/-- A chain of the reference: its row's block and space, and its texts. -/
structure RC where
  b : Nat
  cap : Nat
  L : List (List UInt8)
def rcV (c : RC) : Value := .slice (some ⟨c.b, 0, none⟩) c.L.length c.cap
/-- A model of the reference at block g, its row of chains at gc. -/
structure RfW (w : World) (B g n : Nat) (cs : List RC) (gc cap : Nat) : Prop where
  hg : w.heap[g]? = some (.cells #[.int .i64 (n : Int), .slice (some ⟨gc, 0, none⟩) cs.length cap] 36 (0, 0))
  lc : gc < w.heap.size
  cap : cs.length ≤ cap
  cell : ∀ i (hi : i < cs.length), w.cell? ⟨gc, i, none⟩ = some (rcV cs[i])
  row : ∀ c ∈ cs, TxR w c.b c.L ∧ c.L.length ≤ c.cap ∧ c.L ≠ [] ∧ B ≤ c.b
  bg : B ≤ g
  bc : B ≤ gc
section
variable {w w' : World} {B g n gc cap : Nat} {cs : List RC}
theorem RfW.lt (h : RfW w B g n cs gc cap) : g < w.heap.size := (Array.getElem?_eq_some_iff.1 h.hg).1
theorem RfW.below (h : RfW w B g n cs gc cap) (k : Below w.heap.size w w') : RfW w' B g n cs gc cap :=
  ⟨(k.block g h.lt).trans h.hg, Nat.lt_of_lt_of_le h.lc k.size, h.cap, fun i hi => (k.cell (p := ⟨gc, i, none⟩) h.lc).trans (h.cell i hi), fun c hc => ⟨(h.row c hc).1.below k, (h.row c hc).2⟩, h.bg, h.bc⟩
theorem RfW.kq {A : Nat} {N : List Nat} (h : RfW w B g n cs gc cap) (k : Kq A N w w') (h1 : g ∉ N) (h2 : gc ∉ N) (h3 : ∀ c ∈ cs, c.b ∉ N) : RfW w' B g n cs gc cap :=
  ⟨k.row h1 h.hg, Nat.lt_of_lt_of_le h.lc k.below.size, h.cap, fun i hi => k.cell h2 (h.cell i hi), fun c hc => ⟨(h.row c hc).1.kq k (h3 c hc), (h.row c hc).2⟩, h.bg, h.bc⟩
end
set_option maxRecDepth 100000 in
set_option maxHeartbeats 4000000 in
theorem rnew_any (n : Nat) (w : World) (hn : n ≤ 64) : Calls Try.prog 9 #[.int .i64 (n : Int)] w fun e w' => ∃ g gc b, e = .returned (.pointer (some ⟨g, 0, none⟩)) ∧ RfW w' w.heap.size g n [⟨b, 1, [List.replicate (48 * n) 0]⟩] gc 1 ∧ Below w.heap.size w w' := by
  have CZ := Lib.hid (zeros_anyF (48 * n) w (by omega))
  obtain ⟨q, hq⟩ : ∃ q, Hid (48 * n = q) := ⟨_, Lib.hid rfl⟩
  have e48 : (48 : Int) * (n : Int) = (q : Int) := by have := hq.out; omega
  rw [hq.out] at CZ ⊢
  have hqb : q ≤ 3072 := by have := hq.out; omega
  go_enter Try.func9, Try.ntmps9
  go_wp2_with fail
  refine CZ.out.mono ?_
  rintro e w1 ⟨rfl, b1⟩
  have HB1 := Lib.hid b1
  obtain ⟨s, hs⟩ : ∃ s : ByteArray, (⟨(List.replicate q (0 : UInt8)).toArray⟩ : ByteArray) = s := ⟨_, rfl⟩
  rw [hs]
  obtain ⟨w2, hw2⟩ : ∃ w2, w1.alloc (.cells #[.string s] 9) = w2 := ⟨_, rfl⟩
  obtain ⟨w3, hw3⟩ : ∃ w3, w2.alloc (.cells #[.slice (some ⟨w1.heap.size, 0, none⟩) 1 1] 62) = w3 := ⟨_, rfl⟩
  obtain ⟨w4, hw4⟩ : ∃ w4, w3.alloc (.cells #[.int .i64 (n : Int), .slice (some ⟨w1.heap.size + 1, 0, none⟩) 1 1] 36) = w4 := ⟨_, rfl⟩
  have HW2 := Lib.hid hw2
  have HW3 := Lib.hid hw3
  have HW4 := Lib.hid hw4
  have b2 : Below w1.heap.size w1 w2 := by rw [← hw2]; exact (Below.refl _ _).alloc (Nat.le_refl _) _
  have b3 : Below w2.heap.size w2 w3 := by rw [← hw3]; exact (Below.refl _ _).alloc (Nat.le_refl _) _
  have b4 : Below w3.heap.size w3 w4 := by rw [← hw4]; exact (Below.refl _ _).alloc (Nat.le_refl _) _
  have s2 : w2.heap.size = w1.heap.size + 1 := by rw [← hw2]; simp
  have s3 : w3.heap.size = w2.heap.size + 1 := by rw [← hw3]; simp
  have s4 : w4.heap.size = w3.heap.size + 1 := by rw [← hw4]; simp
  have r2 : w2.cell? ⟨w1.heap.size, 0, none⟩ = some (.string s) := by rw [← hw2]; exact World.cell?_alloc_at _ _ _ _ rfl
  have r3 : w3.cell? ⟨w2.heap.size, 0, none⟩ = some (.slice (some ⟨w1.heap.size, 0, none⟩) 1 1) := by rw [← hw3]; exact World.cell?_alloc_at _ _ _ _ rfl
  have r4 : w4.heap[w3.heap.size]? = some (.cells #[.int .i64 (n : Int), .slice (some ⟨w1.heap.size + 1, 0, none⟩) 1 1] 36 (0, 0)) := by rw [← hw4]; exact heap_alloc_new _ _
  have r24 : w4.cell? ⟨w1.heap.size, 0, none⟩ = some (.string s) := (b4.cell (p := ⟨w1.heap.size, 0, none⟩) (by show w1.heap.size < _; omega)).trans ((b3.cell (p := ⟨w1.heap.size, 0, none⟩) (by show w1.heap.size < _; omega)).trans r2)
  have r34 : w4.cell? ⟨w2.heap.size, 0, none⟩ = some (.slice (some ⟨w1.heap.size, 0, none⟩) 1 1) := (b4.cell (p := ⟨w2.heap.size, 0, none⟩) (by show w2.heap.size < _; omega)).trans r3
  have hsz := b1.size
  rw [s3, s2] at r4
  rw [s2] at r34
  have HR : Hid (RfW w4 w.heap.size (w1.heap.size + 1 + 1) n [⟨w1.heap.size, 1, [List.replicate q 0]⟩] (w1.heap.size + 1) 1) := Lib.hid
    ⟨r4, by omega, Nat.le_refl _, fun i hi => by
      rcases i with _ | i
      · exact r34
      · simp at hi, fun c hc => by
      rw [List.mem_singleton.1 hc]
      refine ⟨⟨by show w1.heap.size < _; omega, fun i hi => ?_⟩, Nat.le_refl _, by simp, hsz⟩
      rcases i with _ | i
      · show w4.cell? ⟨w1.heap.size, 0, none⟩ = _
        rw [r24, ← hs]; rfl
      · simp at hi, by omega, by omega⟩
  have HB4 := Lib.hid (((HB1.out.trans (b2.mono hsz)).trans (b3.mono (show w.heap.size ≤ w2.heap.size by omega))).trans (b4.mono (show w.heap.size ≤ w3.heap.size by omega)))
  clear hw2 hw3 hw4 b1 b2 b3 b4 r2 r3 r4 r24 r34 hs s2 s3 s4 hsz CZ
  go_wp2_with fail
  go_ret
  (try rw [HW2.out]); (try rw [HW3.out]); (try rw [HW4.out])
  exact ⟨_, _, _, rfl, HR.out, HB4.out⟩
set_option maxRecDepth 100000 in
set_option maxHeartbeats 4000000 in
theorem rstates_any {w : World} {B g n gc cap : Nat} {cs : List RC} (h : RfW w B g n cs gc cap) (hl : cs.length ≤ 1000000) (hs : ∀ i, i ≤ cs.length → ((cs.take i).map (·.L.length)).sum ≤ 1000000000) : Calls Try.prog 13 #[.pointer (some ⟨g, 0, none⟩)] w fun e w' => e = .returned (.int .i64 ((cs.map (·.L.length)).sum : Nat)) ∧ w = w' := by
  have c1 := cell_of_row w g 1 _ _ _ h.hg
  have hcs : ∀ i, i < cs.length → ((cs.take (i + 1)).map (·.L.length)).sum = ((cs.take i).map (·.L.length)).sum + (cs[i]?.map (·.L.length)).getD 0 := fun i hi => by
    rw [← List.take_append_getElem hi, List.map_append, List.sum_append, List.getElem?_eq_getElem hi]; simp
  have HC := Lib.hid h.cell
  have hcap := h.cap
  obtain ⟨m, hm⟩ : ∃ m, Hid (cs.length = m) := ⟨_, Lib.hid rfl⟩
  have hfin : ((cs.take m).map (·.L.length)).sum = (cs.map (·.L.length)).sum := by rw [← hm.out, List.take_length]
  rw [← hfin]
  clear hfin h
  have HCS := Lib.hid hcs
  have HS := Lib.hid hs
  obtain ⟨F, hF⟩ : ∃ F : Nat → Nat, Hid ((fun i => ((cs.take i).map (·.L.length)).sum) = F) := ⟨_, Lib.hid rfl⟩
  have hFm : ∀ i, ((cs.take i).map (·.L.length)).sum = F i := fun i => by rw [← hF.out]
  have HCS := Lib.hid (fun i (hi : i < cs.length) => by have := HCS.out i hi; rw [hFm, hFm] at this; exact this)
  have HS := Lib.hid (fun i (hi : i ≤ cs.length) => by have := HS.out i hi; rw [hFm] at this; exact this)
  have hF0 : F 0 = 0 := by rw [← hF.out]; rfl
  rw [hFm]
  rw [hm.out] at hl hcap c1
  clear hcs hs hFm hF
  go_enter Try.func13, Try.ntmps13
  go_wp2_with fail
  go_loopw [3, 4] (fun s3 s4 wi => ∃ i : Nat, s3 = .int .i64 (F i : Int) ∧ s4 = .int .i64 (i : Int) ∧ i ≤ m ∧ wi = w) (fun _ s4 _ => m - (intOf s4).toNat)
  case atStart => exact ⟨0, by rw [hF0]; rfl, rfl, by omega, rfl⟩
  case round =>
    obtain ⟨i, rfl, rfl, hi, rfl⟩ := hrel
    by_cases him : i < m
    · as_aux_lemma =>
      have hil : i < cs.length := by rw [hm.out]; exact him
      have hc := HC.out i hil
      unfold rcV at hc
      have h1 := HCS.out i hil
      rw [List.getElem?_eq_getElem hil] at h1
      have h1 : F (i + 1) = F i + cs[i].L.length := h1
      have h2 := HS.out (i + 1) (by omega)
      obtain ⟨z, hz⟩ : ∃ z, cs[i].L.length = z := ⟨_, rfl⟩
      rw [hz] at h1 hc
      generalize cs[i].b = bb at *
      generalize cs[i].cap = cc at *
      obtain ⟨y, hy⟩ : ∃ y, F (i + 1) = y := ⟨_, rfl⟩
      obtain ⟨x, hx⟩ : ∃ x, F i = x := ⟨_, rfl⟩
      rw [hx] at h1
      rw [hy] at h1 h2
      have hxy : (x : Int) + (z : Int) = (y : Int) := by omega
      have hlt : (i : Int) < (m : Int) := by omega
      have HY := Lib.hid hy
      rw [hx]
      clear h1 hz hy hx
      go_wp2_with fail
      go_roundw
      case rel => exact ⟨i + 1, by rw [HY.out], by go_num, by omega, by trivial⟩
      case measure => simp [intOf]; omega
    · as_aux_lemma =>
      obtain rfl : i = m := by omega
      have hlt : ¬ (i : Int) < (i : Int) := by omega
      go_wp2_with fail
      go_ret
      exact ⟨rfl, rfl⟩
end Go.Proofs.Ytaemnelfnopjdaa
