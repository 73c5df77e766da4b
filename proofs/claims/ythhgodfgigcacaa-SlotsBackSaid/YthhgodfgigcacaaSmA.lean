/- Package slots: Read, its walk. -/
import Derived.Test.YthhgodfgigcacaaSlZ
namespace Go.Proofs.Ythhgodfgigcacaa
open Go.RowKit Go.Deep
set_option linter.unusedVariables false
set_option linter.unusedSimpArgs false
theorem baeq22 (s t : ByteArray) (h : (s.toList == t.toList) = true) : s = t := by
  have h' := eq_of_beq h
  rw [Lib.toList_data, Lib.toList_data] at h'
  exact ByteArray.ext (Array.ext' h')
theorem bane22 (s t : ByteArray) (h : ¬ s = t) : (s.toList == t.toList) = false := by
  cases hq : (s.toList == t.toList) with
  | false => rfl
  | true => exact absurd (baeq22 s t hq) h
theorem gap_zero {s : ByteArray} (hs : s.size = 48) : s.extract 32 48 = zz16 ↔ ∀ i, 32 ≤ i → i < 48 → bt s i = 0 := by
  have hl : ∀ j, j < 16 → (s.extract 32 48).data.toList[j]? = some (UInt8.ofNat (bt s (32 + j))) := fun j hj => by
    rw [← bt_of s (32 + j) (by omega), ByteArray.data_extract, Array.toList_extract]
    simp only [List.extract]
    rw [List.getElem?_take, if_pos (by omega), List.getElem?_drop]
  have hz : ∀ j, j < 16 → zz16.data.toList[j]? = some 0 := fun j hj => by
    unfold zz16
    show (List.replicate 16 (0 : UInt8))[j]? = some 0
    rw [List.getElem?_replicate, if_pos hj]
  constructor
  · intro h i h1 h2
    have a := hl (i - 32) (by omega)
    rw [h, hz (i - 32) (by omega), show 32 + (i - 32) = i by omega] at a
    exact of8 (bt_lt s _) (Option.some.inj a).symm
  · intro h
    apply ByteArray.ext
    apply Array.ext'
    apply List.ext_getElem?
    intro j
    by_cases hj : j < 16
    · rw [hl j hj, hz j hj, h (32 + j) (by omega) (by omega)]; rfl
    · rw [List.getElem?_eq_none (by rw [← Lib.size_eq, ByteArray.size_extract]; omega), List.getElem?_eq_none (by rw [← Lib.size_eq, zz16_size]; omega)]
def RdP (n : Nat) (s : ByteArray) (w : World) (e : Ending) (w' : World) : Prop := ((accP n s ∧ ∃ g, e = .returned (.tuple #[.pointer (some ⟨g, 0, none⟩), .int .i64 0]) ∧ TAt w' g n (TR s n) ∧ w.heap.size ≤ g) ∨ (¬ accP n s ∧ e = .returned (.tuple #[.pointer none, .int .i64 6]))) ∧ Below w.heap.size w w'
theorem RdP.no {n : Nat} {s : ByteArray} {w w' : World} (h : ¬ accP n s) (hb : Below w.heap.size w w') : RdP n s w (.returned (.tuple #[.pointer none, .int .i64 6])) w' := ⟨Or.inr ⟨h, rfl⟩, hb⟩
theorem RdP.yes {n g : Nat} {s : ByteArray} {w w' : World} (h : accP n s) (h2 : TAt w' g n (TR s n)) (h3 : w.heap.size ≤ g) (hb : Below w.heap.size w w') : RdP n s w (.returned (.tuple #[.pointer (some ⟨g, 0, none⟩), .int .i64 0])) w' := ⟨Or.inl ⟨h, g, rfl, h2, h3⟩, hb⟩
/-- The rounds that went well. -/
def Good (n : Nat) (s : ByteArray) (k : Nat) : Prop := ∀ j, j < k → okR s j = true ∧ (n ≤ j → XR s j = frS) ∧ (j < n → newR s j)
theorem newR_of {n k : Nat} {s : ByteArray} (h8 : n ≤ 8) (hk : k ≤ n) (ho : okR s k = true) (hf : fndO (TR s k) n (XR s k).g = none) : newR s k := by
  intro h0
  obtain ⟨q, _⟩ := (okP_Q _ _ _ _).1 ho
  have g2 : (XR s k).g ≤ 15 := (okQ_ok q).g2
  exact (fnd_new hk h8 (by unfold grpB; exact decide_eq_true ⟨h0, by omega⟩)).1 hf h0
theorem notR {n k i : Nat} {s : ByteArray} (h8 : n ≤ 8) (hc : XR s k = frS ∨ k < n) (hf : fndO (TR s k) n (XR s k).g = some i) : ¬ accP n s := by
  intro ha
  have hg : grpB (XR s k).g = true := by
    cases hq : grpB (XR s k).g with
    | true => rfl
    | false => unfold fndO at hf; rw [if_neg (by rw [hq]; simp)] at hf; exact absurd hf (by simp)
  have hk : k < n := by
    rcases hc with h | h
    · rw [h] at hg; exact absurd hg (by decide)
    · exact h
  have := (fnd_new (Nat.le_of_lt hk) h8 hg).2 (ha.one k hk).2.2
  rw [hf] at this
  exact absurd this (by simp)
set_option maxRecDepth 100000 in
set_option maxHeartbeats 16000000 in
theorem readT_no (n : Int) (s : ByteArray) (w : World) (h : n < 1 ∨ 8 < n) : Calls Try.prog 13 #[.int .i64 n, .string s] w fun e w' => e = .returned (.tuple #[.pointer none, .int .i64 2]) ∧ w = w' := by
  have CN := Lib.hid (newT_no n w h)
  clear h
  go_enter Try.func13, Try.ntmps13
  go_wp2_with fail
  refine CN.out.mono ?_
  rintro e w' ⟨rfl, rfl⟩
  go_wp2_with fail
  go_ret2
  exact ⟨rfl, rfl⟩
set_option maxRecDepth 100000 in
set_option maxHeartbeats 16000000 in
theorem readT_any (n : Nat) (s : ByteArray) (w : World) (h1 : 1 ≤ n) (h8 : n ≤ 8) : Calls Try.prog 13 #[.int .i64 (n : Int), .string s] w (RdP n s w) := by
  have CN := Lib.hid (newT_ok n w h1 h8)
  go_enter Try.func13, Try.ntmps13
  go_wp2_with fail
  refine CN.out.mono ?_
  rintro e w1 ⟨g, rfl, q1, hg, b1⟩
  have HT1 := Lib.hid q1
  have HB1 := Lib.hid b1
  have hgl := q1.lt
  clear q1 b1 CN
  by_cases hs : s.size = 48
  · have h48 : (s.size : Int) = 48 := by omega
    have CR := Lib.hid (read_any s w1)
    go_wp2_with fail
    refine CR.out.mono ?_
    rintro e w2 ⟨rfl, hw2⟩
    have hb2 : Below w1.heap.size w1 w2 := by rw [← hw2]; exact (Below.refl _ _).alloc (Nat.le_refl _) _
    have HR2 : Hid (Rd w2 w1.heap.size s ((4 * 0 : Nat) : Int)) := Lib.hid (by rw [← hw2]; exact Rd.new w1 s _)
    have HT2 := Lib.hid (HT1.out.below hb2)
    have HB2 := Lib.hid (HB1.out.trans (hb2.mono HB1.out.size))
    have hrw : w.heap.size ≤ w1.heap.size := HB1.out.size
    obtain ⟨rb, hrb⟩ : ∃ rb, w1.heap.size = rb := ⟨_, rfl⟩
    rw [hrb] at HR2 hgl hrw ⊢
    have hgr : g ≠ rb := by omega
    have HG0 : Hid (Good n s 0) := Lib.hid (fun j hj => absurd hj (by omega))
    have HT3 : Hid (TAt w2 g n (TR s 0)) := Lib.hid (HT2.out.congr (fun k _ => by unfold TR; rw [if_neg (by omega)]))
    clear hw2 hb2 CR HT1 HB1 hrb HT2
    go_wp2_with fail
    go_loopw [29, 9, 10, 11, 12, 13] (fun s29 _ _ _ _ _ wi => ∃ k : Nat, s29 = .int .i64 (k : Int) ∧ k ≤ 8 ∧ Hid (TAt wi g n (TR s k)) ∧ Hid (Rd wi rb s ((4 * k : Nat) : Int)) ∧ Hid (Below w.heap.size w wi) ∧ Hid (Good n s k)) (fun s29 _ _ _ _ _ _ => 8 - (intOf s29).toNat)
    case atStart => exact ⟨0, rfl, by omega, HT3, HR2, HB2, HG0⟩
    case round =>
      obtain ⟨k, rfl, hk, HT, HR, HB, HG⟩ := hrel
      clear HT3 HR2 HB2 HG0
      by_cases hlt : k < 8
      · have hli : (k : Int) < 8 := by omega
        have CS := Lib.hid (slot_any rb k s wr HR.out hs hlt)
        rw [show okP (bt s (4 * k)) (bt s (4 * k + 1)) (bt s (4 * k + 2)) (bt s (4 * k + 3)) = okR s k from rfl, show pS (bt s (4 * k)) (bt s (4 * k + 1)) (bt s (4 * k + 2)) = XR s k from rfl] at CS
        cases ho : okR s k with
        | false =>
          rw [ho] at CS
          have HN : Hid (¬ accP n s) := Lib.hid (fun ha => by have := (ha.all k hlt).1; rw [ho] at this; exact absurd this (by simp))
          clear ho
          go_wp2_with fail
          refine CS.out.mono ?_
          rintro e w3 ⟨x, he, _, g3⟩
          have he : e = .returned (.tuple #[.agg #[.int .i64 x.g, .bool x.v0, .bool x.v1, .bool x.v2, .bool x.v3, .bool x.d0, .bool x.d1, .bool x.d2, .bool x.d3, .int .i64 x.l], .bool false]) := he
          subst he
          have HB3 := Lib.hid (HB.out.grown g3 HB.out.size (fun j e => by cases e; omega))
          have HB4 := Lib.hid (HB3.out.alloc HB3.out.size (.cells #[.int .i64 x.g, .bool x.v0, .bool x.v1, .bool x.v2, .bool x.v3, .bool x.d0, .bool x.d1, .bool x.d2, .bool x.d3, .int .i64 x.l] 44))
          clear g3 CS HB
          go_upto_region 11 with fail
          obtain ⟨w4, hw4⟩ : ∃ w4, w3.alloc (.cells #[.int .i64 x.g, .bool x.v0, .bool x.v1, .bool x.v2, .bool x.v3, .bool x.d0, .bool x.d1, .bool x.d2, .bool x.d3, .int .i64 x.l] 44) = w4 := ⟨_, rfl⟩
          rw [hw4] at HB4 ⊢
          clear hw4
          go_wp2_with fail
          go_ret2
          exact RdP.no HN.out HB4.out
        | true =>
          rw [ho] at CS
          have HO := Lib.hid ho
          clear ho
          go_wp2_with fail
          refine CS.out.mono ?_
          rintro e w3 ⟨x, he, hx, g3⟩
          obtain ⟨rfl, r3⟩ := hx (by trivial)
          have he : e = .returned (.tuple #[.agg #[.int .i64 (XR s k).g, .bool (XR s k).v0, .bool (XR s k).v1, .bool (XR s k).v2, .bool (XR s k).v3, .bool (XR s k).d0, .bool (XR s k).d1, .bool (XR s k).d2, .bool (XR s k).d3, .int .i64 (XR s k).l], .bool true]) := he
          subst he
          have HB3 := Lib.hid (HB.out.grown g3 HB.out.size (fun j e => by cases e; omega))
          have HB4 := Lib.hid (HB3.out.alloc HB3.out.size (.cells #[.int .i64 (XR s k).g, .bool (XR s k).v0, .bool (XR s k).v1, .bool (XR s k).v2, .bool (XR s k).v3, .bool (XR s k).d0, .bool (XR s k).d1, .bool (XR s k).d2, .bool (XR s k).d3, .int .i64 (XR s k).l] 44))
          have hal : Below w3.heap.size w3 (w3.alloc (.cells #[.int .i64 (XR s k).g, .bool (XR s k).v0, .bool (XR s k).v1, .bool (XR s k).v2, .bool (XR s k).v3, .bool (XR s k).d0, .bool (XR s k).d1, .bool (XR s k).d2, .bool (XR s k).d3, .int .i64 (XR s k).l] 44)) := (Below.refl _ _).alloc (Nat.le_refl _) _
          have t3 : TAt w3 g n (TR s k) := World.rowIs.of_block HT.out (g3.block g HT.out.lt (by simpa using hgr))
          have HT4 := Lib.hid (t3.below hal)
          have HR4 := Lib.hid (r3.below hal)
          have hrow : (w3.alloc (.cells #[.int .i64 (XR s k).g, .bool (XR s k).v0, .bool (XR s k).v1, .bool (XR s k).v2, .bool (XR s k).v3, .bool (XR s k).d0, .bool (XR s k).d1, .bool (XR s k).d2, .bool (XR s k).d3, .int .i64 (XR s k).l] 44)).heap[w3.heap.size]? = some (.cells #[.int .i64 (XR s k).g, .bool (XR s k).v0, .bool (XR s k).v1, .bool (XR s k).v2, .bool (XR s k).v3, .bool (XR s k).d0, .bool (XR s k).d1, .bool (XR s k).d2, .bool (XR s k).d3, .int .i64 (XR s k).l] 44 (0, 0)) := heap_alloc_new _ _
          have hc : (w3.alloc (.cells #[.int .i64 (XR s k).g, .bool (XR s k).v0, .bool (XR s k).v1, .bool (XR s k).v2, .bool (XR s k).v3, .bool (XR s k).d0, .bool (XR s k).d1, .bool (XR s k).d2, .bool (XR s k).d3, .int .i64 (XR s k).l] 44)).cell? ⟨w3.heap.size, 0, none⟩ = some (.int .i64 (XR s k).g) ∧ (w3.alloc (.cells #[.int .i64 (XR s k).g, .bool (XR s k).v0, .bool (XR s k).v1, .bool (XR s k).v2, .bool (XR s k).v3, .bool (XR s k).d0, .bool (XR s k).d1, .bool (XR s k).d2, .bool (XR s k).d3, .int .i64 (XR s k).l] 44)).cell? ⟨w3.heap.size, 1, none⟩ = some (.bool (XR s k).v0) ∧ (w3.alloc (.cells #[.int .i64 (XR s k).g, .bool (XR s k).v0, .bool (XR s k).v1, .bool (XR s k).v2, .bool (XR s k).v3, .bool (XR s k).d0, .bool (XR s k).d1, .bool (XR s k).d2, .bool (XR s k).d3, .int .i64 (XR s k).l] 44)).cell? ⟨w3.heap.size, 2, none⟩ = some (.bool (XR s k).v1) ∧ (w3.alloc (.cells #[.int .i64 (XR s k).g, .bool (XR s k).v0, .bool (XR s k).v1, .bool (XR s k).v2, .bool (XR s k).v3, .bool (XR s k).d0, .bool (XR s k).d1, .bool (XR s k).d2, .bool (XR s k).d3, .int .i64 (XR s k).l] 44)).cell? ⟨w3.heap.size, 3, none⟩ = some (.bool (XR s k).v2) ∧ (w3.alloc (.cells #[.int .i64 (XR s k).g, .bool (XR s k).v0, .bool (XR s k).v1, .bool (XR s k).v2, .bool (XR s k).v3, .bool (XR s k).d0, .bool (XR s k).d1, .bool (XR s k).d2, .bool (XR s k).d3, .int .i64 (XR s k).l] 44)).cell? ⟨w3.heap.size, 4, none⟩ = some (.bool (XR s k).v3) ∧ (w3.alloc (.cells #[.int .i64 (XR s k).g, .bool (XR s k).v0, .bool (XR s k).v1, .bool (XR s k).v2, .bool (XR s k).v3, .bool (XR s k).d0, .bool (XR s k).d1, .bool (XR s k).d2, .bool (XR s k).d3, .int .i64 (XR s k).l] 44)).cell? ⟨w3.heap.size, 5, none⟩ = some (.bool (XR s k).d0) ∧ (w3.alloc (.cells #[.int .i64 (XR s k).g, .bool (XR s k).v0, .bool (XR s k).v1, .bool (XR s k).v2, .bool (XR s k).v3, .bool (XR s k).d0, .bool (XR s k).d1, .bool (XR s k).d2, .bool (XR s k).d3, .int .i64 (XR s k).l] 44)).cell? ⟨w3.heap.size, 6, none⟩ = some (.bool (XR s k).d1) ∧ (w3.alloc (.cells #[.int .i64 (XR s k).g, .bool (XR s k).v0, .bool (XR s k).v1, .bool (XR s k).v2, .bool (XR s k).v3, .bool (XR s k).d0, .bool (XR s k).d1, .bool (XR s k).d2, .bool (XR s k).d3, .int .i64 (XR s k).l] 44)).cell? ⟨w3.heap.size, 7, none⟩ = some (.bool (XR s k).d2) ∧ (w3.alloc (.cells #[.int .i64 (XR s k).g, .bool (XR s k).v0, .bool (XR s k).v1, .bool (XR s k).v2, .bool (XR s k).v3, .bool (XR s k).d0, .bool (XR s k).d1, .bool (XR s k).d2, .bool (XR s k).d3, .int .i64 (XR s k).l] 44)).cell? ⟨w3.heap.size, 8, none⟩ = some (.bool (XR s k).d3) ∧ (w3.alloc (.cells #[.int .i64 (XR s k).g, .bool (XR s k).v0, .bool (XR s k).v1, .bool (XR s k).v2, .bool (XR s k).v3, .bool (XR s k).d0, .bool (XR s k).d1, .bool (XR s k).d2, .bool (XR s k).d3, .int .i64 (XR s k).l] 44)).cell? ⟨w3.heap.size, 9, none⟩ = some (.int .i64 (XR s k).l) := ⟨row_cell22 hrow 0 _ rfl, row_cell22 hrow 1 _ rfl, row_cell22 hrow 2 _ rfl, row_cell22 hrow 3 _ rfl, row_cell22 hrow 4 _ rfl, row_cell22 hrow 5 _ rfl, row_cell22 hrow 6 _ rfl, row_cell22 hrow 7 _ rfl, row_cell22 hrow 8 _ rfl, row_cell22 hrow 9 _ rfl⟩
          clear g3 CS HB HB3 hal t3 r3 hrow hx HT HR
          obtain ⟨X, hX⟩ : ∃ X, XR s k = X := ⟨_, rfl⟩
          rw [hX] at HB4 HT4 HR4 hc ⊢
          go_upto_region 11 with fail
          obtain ⟨w4, hw4⟩ : ∃ w4, w3.alloc (.cells #[.int .i64 X.g, .bool X.v0, .bool X.v1, .bool X.v2, .bool X.v3, .bool X.d0, .bool X.d1, .bool X.d2, .bool X.d3, .int .i64 X.l] 44) = w4 := ⟨_, rfl⟩
          rw [hw4] at HB4 HT4 HR4 hc ⊢
          obtain ⟨c, hcc⟩ : ∃ c, w3.heap.size = c := ⟨_, rfl⟩
          rw [hcc] at hc ⊢
          clear hw4 hcc
          have HX := Lib.hid hX
          clear hX
          have CF := Lib.hid (isFree_any X w4)
          have HC := Lib.hid hc
          by_cases hbad : X ≠ frS ∧ n ≤ k
          · have HN : Hid (¬ accP n s) := Lib.hid (fun ha => hbad.1 (by rw [← HX.out]; exact (ha.all k hlt).2 hbad.2))
            have hge : (n : Int) ≤ (k : Int) := by omega
            rw [decide_eq_false hbad.1] at CF
            clear hbad HC
            go_wp2_with fail
            refine CF.out.mono ?_
            rintro e w5 ⟨rfl, b5⟩
            have HB5 := Lib.hid (HB4.out.trans (b5.mono HB4.out.size))
            clear b5 CF hc HB4 HT4 HR4
            go_wp2_with fail
            go_ret2
            exact RdP.no HN.out HB5.out
          · have hgood : X = frS ∨ k < n := by
              by_cases q : X = frS
              · exact Or.inl q
              · exact Or.inr (by by_cases q2 : k < n; exact q2; exact absurd ⟨q, by omega⟩ hbad)
            clear hbad
            have HGD := Lib.hid hgood
            have hcs : Hid (X = frS) ∨ (Hid (X ≠ frS) ∧ ¬ (n : Int) ≤ (k : Int)) := by
              by_cases q : X = frS
              · exact Or.inl (Lib.hid q)
              · exact Or.inr ⟨Lib.hid q, by rcases hgood with h | h; exact absurd h q; omega⟩
            clear hgood
            have key : ∀ w5, Hid (TAt w5 g n (TR s k)) → Hid (Rd w5 rb s ((4 * k + 4 : Nat) : Int)) → Hid (Below w.heap.size w w5) → Hid (w5.cell? ⟨c, 0, none⟩ = some (.int .i64 X.g) ∧ w5.cell? ⟨c, 1, none⟩ = some (.bool X.v0) ∧ w5.cell? ⟨c, 2, none⟩ = some (.bool X.v1) ∧ w5.cell? ⟨c, 3, none⟩ = some (.bool X.v2) ∧ w5.cell? ⟨c, 4, none⟩ = some (.bool X.v3) ∧ w5.cell? ⟨c, 5, none⟩ = some (.bool X.d0) ∧ w5.cell? ⟨c, 6, none⟩ = some (.bool X.d1) ∧ w5.cell? ⟨c, 7, none⟩ = some (.bool X.d2) ∧ w5.cell? ⟨c, 8, none⟩ = some (.bool X.d3) ∧ w5.cell? ⟨c, 9, none⟩ = some (.int .i64 X.l)) → True := fun _ _ _ _ _ => trivial
            clear key
            rcases hcs with hq | ⟨hq, hnk⟩
            all_goals
              first
                | rw [decide_eq_true hq.out] at CF
                | rw [decide_eq_false hq.out] at CF
              clear HC
              go_wp2_with fail
              refine CF.out.mono ?_
              rintro e w5 ⟨rfl, b5⟩
              have HB5 := Lib.hid (HB4.out.trans (b5.mono HB4.out.size))
              have HT5 := Lib.hid (HT4.out.below b5)
              have HR5 := Lib.hid (HR4.out.below b5)
              replace hc := ten_below b5 hc
              have CD := Lib.hid (findT_any g n (TR s k) X.g w5 HT5.out h8)
              clear b5 CF HB4 HT4 HR4
              cases hf : fndO (TR s k) n X.g with
              | some i =>
                have HN : Hid (¬ accP n s) := Lib.hid (by rw [← HX.out] at hf; exact notR h8 (by rw [HX.out]; exact HGD.out) hf)
                rw [hf] at CD
                unfold fstV at CD
                clear hf
                go_wp2_with fail
                refine CD.out.mono ?_
                rintro e w6 ⟨rfl, b6⟩
                have HB6 := Lib.hid (HB5.out.trans (b6.mono HB5.out.size))
                clear b6 CD hc HB5 HT5 HR5
                go_wp2_with fail
                go_ret2
                exact RdP.no HN.out HB6.out
              | none =>
                have HG2 : Hid (Good n s (k + 1)) := Lib.hid (fun j hj => by
                  by_cases e : j < k
                  · exact HG.out j e
                  · obtain rfl : j = k := by omega
                    refine ⟨HO.out, fun e2 => ?_, fun e2 => newR_of h8 (by omega) HO.out (by rw [HX.out]; exact hf)⟩
                    rw [HX.out]
                    rcases HGD.out with h | h
                    · exact h
                    · omega)
                rw [hf] at CD
                unfold fstV at CD
                clear hf
                go_wp2_with fail
                refine CD.out.mono ?_
                rintro e w6 ⟨rfl, b6⟩
                have HB6 := Lib.hid (HB5.out.trans (b6.mono HB5.out.size)).drew
                have HT6 := Lib.hid ((HT5.out.below b6).below (Below.refl _ _).drew)
                have HR6 := Lib.hid (HR5.out.below b6).drew
                replace hc := ten_below b6 hc
                clear b6 CD HB5 HT5 HR5
                go_upto_region 16 with fail
                refine wp_region_lin (S := (fun w' => w'.cell? ⟨c, 0, none⟩ = some (.int .i64 X.g) ∧ w'.cell? ⟨c, 1, none⟩ = some (.bool X.v0) ∧ w'.cell? ⟨c, 2, none⟩ = some (.bool X.v1) ∧ w'.cell? ⟨c, 3, none⟩ = some (.bool X.v2) ∧ w'.cell? ⟨c, 4, none⟩ = some (.bool X.v3) ∧ w'.cell? ⟨c, 5, none⟩ = some (.bool X.d0) ∧ w'.cell? ⟨c, 6, none⟩ = some (.bool X.d1) ∧ w'.cell? ⟨c, 7, none⟩ = some (.bool X.d2) ∧ w'.cell? ⟨c, 8, none⟩ = some (.bool X.d3) ∧ w'.cell? ⟨c, 9, none⟩ = some (.int .i64 X.l))) [(0, true), (1, true), (2, true), (3, true), (4, true), (5, true), (6, false)] (by kernel_rfl) (by kernel_rfl) rfl (by kernel_rfl) ?_ (fun hHeld => ?_)
                · (try dsimp only); exact hc
                generalize World.drew w6 = w7 at hHeld HT6 HB6 HR6 ⊢
                have hth := HT6.out.there hlt
                refine wpL_calm (o := { dst := some 57, op := Go.Op.move (Go.Operand.tmp 6), type := 23, pos := "slots.go:103", after := #[], guard := none }) (v := ?_) rfl (Or.inl ⟨by rfl, ?_⟩) ?_; rotate_left; (focus (intro w hSw; (try dsimp only at hSw); go_simp; (try (with_reducible rfl)); done)); try simp only [Act.put, List.setIfInBounds_toArray, List.set_cons_zero, List.set_cons_succ]
                refine wpL_calm (o := { dst := some 58, op := Go.Op.move (Go.Operand.tmp 9), type := 3, pos := "slots.go:103", after := #[], guard := none }) (v := ?_) rfl (Or.inl ⟨by rfl, ?_⟩) ?_; rotate_left; (focus (intro w hSw; (try dsimp only at hSw); go_simp; (try (with_reducible rfl)); done)); try simp only [Act.put, List.setIfInBounds_toArray, List.set_cons_zero, List.set_cons_succ]
                refine wpL_calm (o := { dst := some 59, op := Go.Op.load 44 (Go.Operand.tmp 10), type := 44, pos := "slots.go:103", after := #[], guard := none }) (v := ?_) rfl (Or.inl ⟨by rfl, ?_⟩) ?_; rotate_left; (focus (intro w hSw; (try dsimp only at hSw); go_simp; (try (with_reducible rfl)); done)); try simp only [Act.put, List.setIfInBounds_toArray, List.set_cons_zero, List.set_cons_succ]
                refine wpL_calm (o := { dst := some 60, op := Go.Op.nilCheck (Go.Operand.tmp 57), type := 0, pos := "slots.go:103", after := #[{ on := 0, ground := Go.Ground.data }], guard := none }) (v := ?_) rfl (Or.inl ⟨by rfl, ?_⟩) ?_; rotate_left; (focus (intro w hSw; (try dsimp only at hSw); go_simp; (try (with_reducible rfl)); done)); try simp only [Act.put, List.setIfInBounds_toArray, List.set_cons_zero, List.set_cons_succ]
                refine wpL_calm (o := { dst := some 61, op := Go.Op.fieldAddr 59 (Go.Operand.tmp 60) 1, type := 0, pos := "slots.go:103", after := #[{ on := 3, ground := Go.Ground.data }], guard := none }) (v := ?_) rfl (Or.inl ⟨by rfl, ?_⟩) ?_; rotate_left; (focus (intro w hSw; (try dsimp only at hSw); go_simp; (try (with_reducible rfl)); done)); try simp only [Act.put, List.setIfInBounds_toArray, List.set_cons_zero, List.set_cons_succ]
                refine wpL_calm (o := { dst := some 62, op := Go.Op.indexAddr 57 (Go.Operand.tmp 61) (Go.Operand.tmp 58), type := 0, pos := "slots.go:103", after := #[{ on := 4, ground := Go.Ground.data }, { on := 1, ground := Go.Ground.data }, { on := 0, ground := Go.Ground.phase }, { on := 1, ground := Go.Ground.phase }, { on := 2, ground := Go.Ground.phase }], guard := none }) (v := ?_) rfl (Or.inl ⟨by rfl, ?_⟩) ?_; rotate_left; (focus (intro w hSw; (try dsimp only at hSw); go_simp; (try (with_reducible rfl)); done)); try simp only [Act.put, List.setIfInBounds_toArray, List.set_cons_zero, List.set_cons_succ]
                refine wpL_loud0 (o := { dst := none, op := Go.Op.store 44 (Go.Operand.tmp 62) (Go.Operand.tmp 59), type := 0, pos := "slots.go:103", after := #[{ on := 5, ground := Go.Ground.data }, { on := 2, ground := Go.Ground.data }, { on := 0, ground := Go.Ground.phase }, { on := 1, ground := Go.Ground.phase }, { on := 2, ground := Go.Ground.phase }], guard := none }) rfl (by kernel_rfl) (fun K hK => ?_)
                (rw [if_pos (by rfl)]; refine wp_store_mid 44 _ _ rfl g (1 + k * 10) #[.int .i64 X.g, .bool X.v0, .bool X.v1, .bool X.v2, .bool X.v3, .bool X.d0, .bool X.d1, .bool X.d2, .bool X.d3, .int .i64 X.l] rfl rfl hth (by kernel_rfl) (by simp [Value.oneCell']) ?_)
                refine hK.out _ _ ?_
                clear hK K
                try simp only [Act.put, List.setIfInBounds_toArray, List.set_cons_zero, List.set_cons_succ]
                refine wpL_nil ?_
                refine NoPanic.normal ?_
                have HT8 : Hid (TAt (w7.setCells g (1 + k * 10) #[.int .i64 X.g, .bool X.v0, .bool X.v1, .bool X.v2, .bool X.v3, .bool X.d0, .bool X.d1, .bool X.d2, .bool X.d3, .int .i64 X.l].toList) g n (TR s (k + 1))) := Lib.hid ((HT6.out.put hlt X).congr (fun j hj => by
                  unfold upd TR
                  by_cases e : j = k
                  · subst e; rw [if_pos rfl, if_pos (by omega), HX.out]
                  · rw [if_neg e]
                    by_cases e2 : j < k
                    · rw [if_pos e2, if_pos (by omega)]
                    · rw [if_neg e2, if_neg (by omega)]))
                have HR8 : Hid (Rd (w7.setCells g (1 + k * 10) #[.int .i64 X.g, .bool X.v0, .bool X.v1, .bool X.v2, .bool X.v3, .bool X.d0, .bool X.d1, .bool X.d2, .bool X.d3, .int .i64 X.l].toList) rb s ((4 * (k + 1) : Nat) : Int)) := Lib.hid (HR6.out.same (block_sets (fun e => hgr e.symm) _ _ _) (Nat.le_of_eq (size_sets _ _ _ _).symm))
                have HB8 : Hid (Below w.heap.size w (w7.setCells g (1 + k * 10) #[.int .i64 X.g, .bool X.v0, .bool X.v1, .bool X.v2, .bool X.v3, .bool X.d0, .bool X.d1, .bool X.d2, .bool X.d3, .int .i64 X.l].toList)) := Lib.hid (below_sets hg _ _ _ HB6.out)
                clear hHeld hth hc HT6 HB6 HR6
                generalize w7.setCells g (1 + k * 10) #[.int .i64 X.g, .bool X.v0, .bool X.v1, .bool X.v2, .bool X.v3, .bool X.d0, .bool X.d1, .bool X.d2, .bool X.d3, .int .i64 X.l].toList = w8 at HT8 HR8 HB8 ⊢
                go_wp2_with fail
                go_roundw
                case rel => exact ⟨k + 1, by go_num, by omega, HT8, HR8, HB8, HG2⟩
                case measure => simp [intOf]; omega
      · obtain rfl : k = 8 := by omega
        rw [show ((8 : Nat) : Int) = 8 from rfl]
        have CB := Lib.hid (bytes_ok 16 rb wr s ((4 * 8 : Nat) : Int) HR.out (by omega) (by omega) (by omega))
        rw [show ((((4 * 8 : Nat) : Int)).toNat) = 32 from rfl, show ((((4 * 8 : Nat) : Int) + 16).toNat) = 48 from rfl] at CB
        have hgz := gap_zero hs
        have hmk := fun w' => make16 w'
        have hcv := fun w' => conv16 w'
        obtain ⟨z, hz⟩ : ∃ z, zz16 = z := ⟨_, rfl⟩
        rw [hz] at hcv hgz
        obtain ⟨E, hE⟩ : ∃ E, s.extract 32 48 = E := ⟨_, rfl⟩
        rw [hE] at hgz CB
        clear hE hz
        by_cases heq : E = z
        · have HA : Hid (accP n s) := Lib.hid (accP.of hs h8 HG.out (hgz.1 heq))
          have HT2 : Hid (TAt wr g n (TR s n)) := Lib.hid (HT.out.congr (fun k hk => HA.out.tab k hk))
          subst heq
          clear hgz HT HG
          go_wp2_with fail
          refine CB.out.mono ?_
          rintro e w3 ⟨rfl, r3, g3⟩
          have HB3 := Lib.hid (HB.out.grown g3 HB.out.size (fun j e => by cases e; omega))
          have HT3 : Hid (TAt w3 g n (TR s n)) := Lib.hid (World.rowIs.of_block HT2.out (g3.block g HT2.out.lt (by simpa using hgr)))
          have hm3 := hmk w3
          have hc3 := hcv w3
          have HB4 := Lib.hid (HB3.out.alloc HB3.out.size (.cells (madeCells #[.int .u8 0] 16) 5))
          have HT4 := Lib.hid (HT3.out.below ((Below.refl _ _).alloc (Nat.le_refl _) (.cells (madeCells #[.int .u8 0] 16) 5)))
          clear r3 g3 CB hmk hcv HT2 HB HB3 HT3
          go_wp2_with fail
          go_ret2
          exact RdP.yes HA.out HT4.out hg HB4.out
        · have HN : Hid (¬ accP n s) := Lib.hid (fun ha => heq (hgz.2 (fun i h1 h2 => ha.zero i (by omega) h2)))
          clear hgz HT HG
          go_wp2_with fail
          refine CB.out.mono ?_
          rintro e w3 ⟨rfl, r3, g3⟩
          have HB3 := Lib.hid (HB.out.grown g3 HB.out.size (fun j e => by cases e; omega))
          have hm3 := hmk w3
          have hc3 := hcv w3
          have HB4 := Lib.hid (HB3.out.alloc HB3.out.size (.cells (madeCells #[.int .u8 0] 16) 5))
          have hne := bane22 E z heq
          clear r3 g3 CB hmk hcv HB HB3
          go_wp2_with fail
          go_ret2
          exact RdP.no HN.out HB4.out
  · have h48 : ¬ (s.size : Int) = 48 := by omega
    have HN : Hid (¬ accP n s) := Lib.hid (fun ha => hs ha.size)
    go_wp2_with fail
    go_ret2
    exact RdP.no HN.out HB1.out
end Go.Proofs.Ythhgodfgigcacaa
