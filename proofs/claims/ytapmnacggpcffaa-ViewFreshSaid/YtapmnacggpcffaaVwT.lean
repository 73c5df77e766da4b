/- The law ViewFresh. -/
import Derived.Test.YtapmnacggpcffaaVwS
namespace Go.Proofs.Ytapmnacggpcffaa
open Go.ChangeShapes Go.WideShapes Go.Deep Go.RowKit
set_option linter.unusedVariables false
set_option linter.unusedSimpArgs false
theorem own_apartV {w : World} {base n size base' n' size' : Nat} {e e' : TypeId} {v v' : Value} {xs xs' : List Value} (h : w.ownsRow base e size v n xs) (h' : w.ownsRow base' e' size' v' n' xs') (he : e ≠ e') : v.ownBlock = none ∨ v.ownBlock ≠ v'.ownBlock := by
  rcases h.2 with ⟨rfl, rfl⟩ | ⟨g2, cap, cur, rfl, q1, q2, q3⟩
  · exact Or.inl rfl
  · rcases h'.2 with ⟨rfl, rfl⟩ | ⟨g3, cap', cur', rfl, p1, p2, p3⟩
    · exact Or.inr (by simp [Value.ownBlock])
    · refine Or.inr fun e1 => he ?_
      cases e1
      rw [q2] at p2; cases p2; rfl
theorem src_int {w : World} (z : Int) : Src Try.prog 1 39 (.slice (some ⟨w.heap.size, 0, none⟩) 1 1) 1 [.int .i64 z] (w.alloc (.cells #[.int .i64 z] 3)) :=
  Src.ofSlice _ Try.underlying39 ⟨w.heap.size, 0, none⟩ 1 1 [.int .i64 z] rfl (fun j v hv => by
    rcases j with _ | j
    · simp at hv; subst hv; exact World.cell?_alloc_at _ _ _ _ rfl
    · simp at hv) (fun u hu => by simp at hu; subst hu; rfl)
/-- No number stands twice. -/
def DstN (N : List Nb) : Prop := ∀ i j (hi : i < N.length) (hj : j < N.length), N[i].1 = N[j].1 → i = j
theorem DstN.nil : DstN [] := fun i _ hi => absurd hi (by simp)
theorem DstN.add {N : List Nb} (h : DstN N) {v : Int} {b : ByteArray} (hv : ∀ j (hj : j < N.length), N[j].1 ≠ v) : DstN (N ++ [(v, b)]) := by
  intro i j hi hj e
  rw [List.length_append] at hi hj
  have hi : i < N.length + 1 := hi
  have hj : j < N.length + 1 := hj
  by_cases h1 : i < N.length
  · by_cases h2 : j < N.length
    · rw [List.getElem_append_left h1, List.getElem_append_left h2] at e
      exact h i j h1 h2 e
    · obtain rfl : j = N.length := by omega
      rw [List.getElem_append_left h1] at e
      simp at e
      exact absurd e (hv i h1)
  · obtain rfl : i = N.length := by omega
    by_cases h2 : j < N.length
    · rw [List.getElem_append_left h2] at e
      simp at e
      exact absurd e.symm (hv j h2)
    · omega
theorem idxN_none {N : List Nb} {v : Int} (h : ∀ j (hj : j < N.length), N[j].1 ≠ v) : idxN N v = none := by
  unfold idxN
  rw [List.findIdx?_eq_none_iff]
  intro x hx
  obtain ⟨j, hj, rfl⟩ := List.getElem_of_mem hx
  simp [h j hj]
theorem idxN_at {N : List Nb} {v : Int} (hd : DstN N) {k : Nat} (hk : k < N.length) (h : N[k].1 = v) : idxN N v = some k := by
  cases h2 : idxN N v with
  | none =>
    unfold idxN at h2
    rw [List.findIdx?_eq_none_iff] at h2
    have := h2 N[k] (List.getElem_mem hk)
    simp [h] at this
  | some j =>
    obtain ⟨hj, e⟩ := idxN_some h2
    rw [hd j k hj hk (by rw [e, h])]
theorem frS_at {N : List Nb} {v : Int} {b : ByteArray} (hd : DstN N) {k : Nat} (hk : k < N.length) (h : N[k].1 = v) (hv : ¬ v < 0) : frS N v b = if N[k].2 = b then some N else none := by
  unfold frS
  rw [if_neg hv, idxN_at hd hk h]
  show (if (N.getD k (0, ⟨#[]⟩)).2 = b then some N else none) = _
  rw [List.getD_eq_getElem?_getD, List.getElem?_eq_getElem hk]; rfl
theorem frS_new {N : List Nb} {v : Int} {b : ByteArray} (h : ∀ j (hj : j < N.length), N[j].1 ≠ v) (hv : ¬ v < 0) : frS N v b = some (N ++ [(v, b)]) := by
  unfold frS
  rw [if_neg hv, idxN_none h]
theorem frS_neg {N : List Nb} {v : Int} {b : ByteArray} (hv : v < 0) : frS N v b = some N := by
  unfold frS
  rw [if_pos hv]
def intC (N : List Nb) : List Value := N.map fun p => .int .i64 p.1
/-- The law's two rows. -/
structure VfW (w : World) (B : Nat) (v9 v10 : Value) (N : List Nb) : Prop where
  nums : w.ownsRow B 3 1 v9 N.length (intC N)
  blks : w.ownsRow B 9 1 v10 N.length (strC N)
  hb : B ≤ w.heap.size
  dst : DstN N
theorem VfW.below {w w' : World} {B : Nat} {v9 v10 : Value} {N : List Nb} (h : VfW w B v9 v10 N) (b : Below w.heap.size w w') : VfW w' B v9 v10 N := ⟨h.nums.kept_below b, h.blks.kept_below b, Nat.le_trans h.hb b.size, h.dst⟩
/-- What the images come to, as long as no number has two blocks. -/
def VfI (L : List ByteArray) (s : ByteArray) (R : List ByteArray) (i : Nat) (N : List Nb) (tw : Bool) : Prop :=
  (tw = false → ∃ N0, frAll L [] = (frImg s 288 N0).bind (frAll R) ∧ frImg s i N0 = some N) ∧ (tw = true → frAll L [] = none)
theorem VfI.same {L R : List ByteArray} {s : ByteArray} {i : Nat} {N N' : List Nb} {tw : Bool} (h : VfI L s R i N tw) (hs : frS N (numV s i) (blkP s i) = some N') : VfI L s R (i + 1) N' tw :=
  ⟨fun e => by
    obtain ⟨N0, h1, h2⟩ := h.1 e
    exact ⟨N0, h1, by rw [frImg_succ, h2, Option.bind_some, hs]⟩, h.2⟩
theorem VfI.two {L R : List ByteArray} {s : ByteArray} {i : Nat} {N N' : List Nb} (h : VfI L s R i N false) (hi : i < 288) (hs : frS N (numV s i) (blkP s i) = none) : VfI L s R (i + 1) N' true :=
  ⟨fun e => (by cases e), fun _ => by
    obtain ⟨N0, h1, h2⟩ := h.1 rfl
    have h9 := frImg_none (s := s) (N := N0) (i := i + 1) (by rw [frImg_succ, h2, Option.bind_some, hs]) (288 - (i + 1))
    rw [show i + 1 + (288 - (i + 1)) = 288 by omega] at h9
    rw [h1, h9]; rfl⟩
theorem VfI.tw {L R : List ByteArray} {s : ByteArray} {i j : Nat} {N N' : List Nb} (h : VfI L s R i N true) : VfI L s R j N' true := ⟨fun e => by (cases e), h.2⟩
theorem VfI.start {L R : List ByteArray} {s : ByteArray} {N : List Nb} {tw : Bool} (h : (tw = false → frAll L [] = frAll (s :: R) N) ∧ (tw = true → frAll L [] = none)) : VfI L s R 224 N tw :=
  ⟨fun e => ⟨N, by rw [h.1 e]; rfl, frImg_224 s N⟩, h.2⟩
theorem VfI.done {L R : List ByteArray} {s : ByteArray} {N : List Nb} {tw : Bool} (h : VfI L s R 288 N tw) : (tw = false → frAll L [] = frAll R N) ∧ (tw = true → frAll L [] = none) :=
  ⟨fun e => by
    obtain ⟨N0, h1, h2⟩ := h.1 e
    rw [h1, h2]; rfl, h.2⟩
theorem four_cellsV {w : World} {g : Nat} {a b c d : Value} {t : TypeId} {f : Nat × Nat} (h : w.heap[g]? = some (.cells #[a, b, c, d] t f)) : w.cell? ⟨g, 2, none⟩ = some c := cell_of_row w g 2 _ _ _ h
attribute [local irreducible] imgT frImg frAll
set_option maxRecDepth 100000 in
set_option maxHeartbeats 16000000 in
theorem viewFresh_any (aL aM : Option Addr) (cL cM : Nat) (L M : List Cg) (w : World) (hL : CgAt w aL L) (hLn : L.length ≤ maxLen) (hM : CgAt w aM M) (hMn : M.length ≤ maxLen) :
    Calls Try.prog 5 #[.slice aL L.length cL, .slice aM M.length cM] w fun e w' => e = .returned (.bool true) ∧ Below w.heap.size w w' := by
  have HM := Lib.hid hM
  have hLn' : L.length ≤ 9223372036854775807 := by unfold maxLen at hLn; omega
  have hMn' : M.length ≤ 9223372036854775807 := by unfold maxLen at hMn; omega
  have C1 := Lib.hid (image_any aL cL L w hL hLn')
  have CIM := Lib.hid (fun w' h => image_any aM cM M w' h hMn')
  have hA := imgT_size L
  have hB := imgT_size M
  generalize imgT L = A at *
  generalize imgT M = B at *
  obtain ⟨vm, hvm⟩ : ∃ vm, Value.slice aM M.length cM = vm := ⟨_, rfl⟩
  obtain ⟨vl, hvl⟩ : ∃ vl, Value.slice aL L.length cL = vl := ⟨_, rfl⟩
  rw [hvm, hvl]
  rw [hvl] at C1
  clear hL hM hLn hMn hLn' hMn'
  obtain ⟨ii, hii, hiz0, hiz1, hiz2⟩ := info_parts33 info_int33
  obtain ⟨is, his, hsz0, hsz1, hsz2⟩ := info_parts33 info_strV
  go_enter Try.func5, Try.ntmps5
  go_wp2_with fail
  refine C1.out.mono ?_
  rintro e w1 ⟨rfl, b1⟩
  have HB1 := Lib.hid b1
  have C2 := Lib.hid (CIM.out w1 (HM.out.below b1))
  rw [hvm] at C2
  clear C1 CIM b1 hvm hvl HM
  go_wp2_with fail
  refine C2.out.mono ?_
  rintro e w2 ⟨rfl, b2⟩
  have HB2 := Lib.hid (HB1.out.trans (b2.mono HB1.out.size))
  obtain ⟨w3, hw3⟩ : ∃ w3, w2.alloc (.cells #[.string A, .string B] 9) = w3 := ⟨_, rfl⟩
  have b3 : Below w2.heap.size w2 w3 := by rw [← hw3]; exact (Below.refl _ _).alloc (Nat.le_refl _) _
  have C3 := Lib.hid (fresh_two A B hA hB w2 w3 hw3)
  unfold FreR at C3
  have HW3 := Lib.hid hw3
  have HB3 := Lib.hid (HB2.out.trans (b3.mono HB2.out.size))
  obtain ⟨n0, hn0⟩ : ∃ n0, Hid (freN [A, B] = n0) := ⟨_, Lib.hid rfl⟩
  obtain ⟨e0, he0⟩ : ∃ e0, Hid (freE [A, B] = e0) := ⟨_, Lib.hid rfl⟩
  rw [hn0.out, he0.out] at C3
  clear b2 b3 hw3 C2 HB1 HB2
  go_wp2_with fail
  rw [HW3.out]
  refine C3.out.mono ?_
  rintro e w4 ⟨rfl, b4⟩
  have HB4 := Lib.hid (HB3.out.trans (b4.mono HB3.out.size))
  clear b4 HB3 HW3 C3
  go_wp2_with fail
  go_loopw [9, 10, 11, 12] (fun s9 s10 s11 s12 wi => ∃ (d : Nat) (N : List Nb) (tw : Bool), s12 = .int .i64 (d : Int) ∧ d ≤ 2 ∧ (∃ a c, s9 = .slice a N.length c) ∧ (∃ a c, s10 = .slice a N.length c) ∧ s11 = .bool tw ∧ N.length ≤ 64 * d ∧ Hid (VfW wi w4.heap.size s9 s10 N) ∧ Hid ((tw = false → frAll [A, B] [] = frAll (([A, B] : List ByteArray).drop d) N) ∧ (tw = true → frAll [A, B] [] = none)) ∧ Hid (Below w4.heap.size w4 wi)) (fun _ _ _ s12 _ => 2 - (intOf s12).toNat)
  case atStart => exact ⟨0, [], false, rfl, by omega, ⟨_, _, rfl⟩, ⟨_, _, rfl⟩, rfl, by simp, Lib.hid ⟨World.ownsRow_nil _ _ _ _, World.ownsRow_nil _ _ _ _, Nat.le_refl _, DstN.nil⟩, Lib.hid ⟨fun _ => rfl, fun e => (by cases e)⟩, Lib.hid (Below.refl _ _)⟩
  case round =>
    obtain ⟨d, N, tw, rfl, hd, ⟨a9, c9, rfl⟩, ⟨a10, c10, rfl⟩, rfl, hNl, HV, HF, HB⟩ := hrel
    by_cases hlt : d < 2
    · as_aux_lemma =>
      have hli : (d : Int) < 2 := by omega
      obtain ⟨s, R, hsR, hs, hR, hsel⟩ : ∃ s R, Hid (([A, B] : List ByteArray).drop d = s :: R) ∧ s.size = 18432 ∧ Hid (([A, B] : List ByteArray).drop (d + 1) = R) ∧ Hid ((d = 0 → s = A) ∧ (d = 1 → s = B)) := by
        have : d = 0 ∨ d = 1 := by omega
        rcases this with rfl | rfl
        · exact ⟨A, [B], Lib.hid rfl, hA, Lib.hid rfl, Lib.hid ⟨fun _ => rfl, fun h => (by cases h)⟩⟩
        · exact ⟨B, [], Lib.hid rfl, hB, Lib.hid rfl, Lib.hid ⟨fun h => (by cases h), fun _ => rfl⟩⟩
      have HI0 := Lib.hid (VfI.start (L := [A, B]) (R := R) (s := s) (N := N) (tw := tw) (by rw [← hsR.out]; exact HF.out))
      clear hlt HF hsR
      go_upto_if 37 with fail
      go_cut [13] from 36 to 38 (fun s13 wx => s13 = .string s ∧ wx = wr)
      case first =>
        by_cases h1 : d = 1
        · have e := hsel.out.2 h1
          have hd1 : ((d : Int) == 1) = true := by rw [h1]; rfl
          clear h1
          subst e
          go_wp2_with fail
          go_meet
          exact ⟨rfl, rfl⟩
        · have e := hsel.out.1 (by omega)
          have hd1 : ((d : Int) == 1) = false := by
            have : d = 0 := by omega
            rw [this]; rfl
          clear h1
          subst e
          go_wp2_with fail
          go_meet
          exact ⟨rfl, rfl⟩
      case rest =>
        as_aux_lemma =>
        obtain ⟨rfl, rfl⟩ := hcut
        clear hsel
        have HV0 := HV
        have HB0 := HB
        clear HV HB
        go_wp2_with fail
        go_loopw [9, 10, 11, 14] (fun s9 s10 s11 s14 wi => ∃ (i : Nat) (N' : List Nb) (tw' : Bool), s14 = .int .i64 (i : Int) ∧ 224 ≤ i ∧ i ≤ 288 ∧ (∃ a c, s9 = .slice a N'.length c) ∧ (∃ a c, s10 = .slice a N'.length c) ∧ s11 = .bool tw' ∧ N'.length + 224 ≤ 64 * d + i ∧ Hid (VfW wi w4.heap.size s9 s10 N') ∧ Hid (VfI [A, B] s R i N' tw') ∧ Hid (Below w4.heap.size w4 wi)) (fun _ _ _ s14 _ => 288 - (intOf s14).toNat)
        case atStart => exact ⟨224, N, tw, rfl, by omega, by omega, ⟨_, _, rfl⟩, ⟨_, _, rfl⟩, rfl, by omega, HV0, HI0, HB0⟩
        case round =>
          obtain ⟨i, N', tw', rfl, hi1, hi, ⟨a9', c9', rfl⟩, ⟨a10', c10', rfl⟩, rfl, hNl', HV, HI, HB⟩ := hrel
          clear HV0 HI0 HB0
          by_cases hlt : i < 288
          · as_aux_lemma =>
            have hli : (i : Int) < 288 := by omega
            have hvb := numV_bd s i
            have CR := Lib.hid (rlook_any s i wr hs hlt)
            unfold seenA at CR
            have CB := Lib.hid (fun w' => rblock_any s i w' hs hlt)
            have HSAME := Lib.hid (fun N2 => VfI.same (N' := N2) HI.out)
            have HTWO : Hid (∀ N2, tw' = false → frS N' (numV s i) (blkP s i) = none → VfI [A, B] s R (i + 1) N2 true) := Lib.hid (fun N2 e h => by subst e; exact VfI.two HI.out hlt h)
            have HTW : Hid (∀ N2, tw' = true → VfI [A, B] s R (i + 1) N2 true) := Lib.hid (fun N2 e => by subst e; exact VfI.tw HI.out)
            clear HI
            generalize whatK (i : Int) = K at *
            generalize whatI (i : Int) = I at *
            generalize zerV s i = Z at *
            generalize numV s i = v at *
            generalize blkP s i = b at *
            go_wp2_with fail
            refine CR.out.mono ?_
            rintro e w5 ⟨rfl, b5⟩
            have HV5 := Lib.hid (HV.out.below b5)
            have HB5 := Lib.hid (HB.out.trans (b5.mono HB.out.size))
            obtain ⟨w6, hw6⟩ : ∃ w6, w5.alloc (.cells #[.int .i64 K, .int .i64 I, .int .i64 v, .bool Z] 33) = w6 := ⟨_, rfl⟩
            have b6 : Below w5.heap.size w5 w6 := by rw [← hw6]; exact (Below.refl _ _).alloc (Nat.le_refl _) _
            have HV6 := Lib.hid (HV5.out.below b6)
            have HB6 := Lib.hid (HB5.out.trans (b6.mono HB5.out.size))
            have kx : w6.cell? ⟨w5.heap.size, 2, none⟩ = some (.int .i64 v) := by rw [← hw6]; exact four_cellsV (heap_alloc_new _ _)
            have hxl : w5.heap.size < w6.heap.size := by rw [← hw6]; simp
            obtain ⟨gx, hgx⟩ : ∃ gx, Hid (w5.heap.size = gx) := ⟨_, Lib.hid rfl⟩
            rw [hgx.out] at kx hxl
            have HW6 := Lib.hid hw6
            clear hw6 b5 b6 CR HV HB HV5 HB5
            go_upto_region 16 with fail
            rw [HW6.out, hgx.out]
            clear HW6
            by_cases hv0 : v < 0
            · as_aux_lemma =>
              have HI1 := Lib.hid (HSAME.out _ (frS_neg hv0))
              clear HSAME HTWO HTW
              go_wp2_with fail
              go_roundw
              case rel => exact ⟨i + 1, N', tw', by go_num, by omega, by omega, ⟨_, _, rfl⟩, ⟨_, _, rfl⟩, rfl, by omega, HV6, HI1, HB6⟩
              case measure => simp [intOf]; omega
            · as_aux_lemma =>
              have hNb : N'.length ≤ 1000 := by omega
              go_wp2_with fail
              go_loopw [16, 17] (fun s16 s17 wi => ∃ (k : Nat) (a : Int), s17 = .int .i64 (k : Int) ∧ k ≤ N'.length ∧ s16 = .int .i64 a ∧ Hid ((a = -1 ∧ ∀ j (hj : j < N'.length), j < k → N'[j].1 ≠ v) ∨ (∃ (j : Nat) (hj : j < N'.length), a = (j : Int) ∧ N'[j].1 = v)) ∧ Hid (VfW wi w4.heap.size (.slice a9' N'.length c9') (.slice a10' N'.length c10') N') ∧ wi.cell? ⟨gx, 2, none⟩ = some (.int .i64 v) ∧ gx < wi.heap.size ∧ Hid (Below w4.heap.size w4 wi)) (fun _ s17 _ => N'.length - (intOf s17).toNat)
              case atStart => exact ⟨0, -1, rfl, by omega, rfl, Lib.hid (Or.inl ⟨rfl, fun j _ h => absurd h (by omega)⟩), HV6, kx, hxl, HB6⟩
              case round =>
                obtain ⟨k, a, rfl, hk, rfl, HK, HV, kx, hxl, HB⟩ := hrel
                clear HV6 HB6
                by_cases hkl : k < N'.length
                · as_aux_lemma =>
                  have hkli : (k : Int) < (N'.length : Int) := by omega
                  have hk0 : (0 : Int) ≤ (k : Int) := by omega
                  rcases HV.out.nums.2 with ⟨e9, h0⟩ | ⟨rg, cap, cur, e9, _⟩
                  · omega
                  injection e9 with e1 _ e3
                  subst e1 e3
                  have ck := HV.out.nums.cells (g := rg) rfl k (.int .i64 N'[k].1) (by unfold intC; rw [List.getElem?_map, List.getElem?_eq_getElem hkl]; rfl)
                  rw [Addr.add_lit, Nat.zero_add] at ck
                  obtain ⟨t, ht⟩ : ∃ t, Hid (N'[k].1 = t) := ⟨_, Lib.hid rfl⟩
                  rw [ht.out] at ck
                  go_upto_region 21 with fail
                  refine wp_region_lin (S := (fun w' => w'.cell? ⟨rg, k, none⟩ = some (.int .i64 t) ∧ w'.cell? ⟨gx, 2, none⟩ = some (.int .i64 v))) [(0, true), (1, true), (2, true), (3, true), (4, true), (5, true), (6, true)] (by kernel_rfl) (by kernel_rfl) rfl (by kernel_rfl) ?_ (fun hHeld => ?_)
                  · (try dsimp only); exact ⟨ck, kx⟩
                  (refine wpL_calm (o := { dst := some 55, op := Go.Op.move (Go.Operand.tmp 9), type := 39, pos := "law.go:117", after := #[], guard := none }) (v := ?_) rfl (Or.inl ⟨by rfl, ?_⟩) ?_; rotate_left; (focus (intro w hSw; (try dsimp only at hSw); go_simp; (try (with_reducible rfl)); done)); try simp only [Act.put, List.setIfInBounds_toArray, List.set_cons_zero, List.set_cons_succ])
                  (refine wpL_calm (o := { dst := some 56, op := Go.Op.move (Go.Operand.tmp 17), type := 3, pos := "law.go:117", after := #[], guard := none }) (v := ?_) rfl (Or.inl ⟨by rfl, ?_⟩) ?_; rotate_left; (focus (intro w hSw; (try dsimp only at hSw); go_simp; (try (with_reducible rfl)); done)); try simp only [Act.put, List.setIfInBounds_toArray, List.set_cons_zero, List.set_cons_succ])
                  (refine wpL_calm (o := { dst := some 57, op := Go.Op.indexAddr 39 (Go.Operand.tmp 55) (Go.Operand.tmp 56), type := 0, pos := "law.go:117", after := #[{ on := 0, ground := Go.Ground.data }, { on := 1, ground := Go.Ground.data }], guard := none }) (v := ?_) rfl (Or.inl ⟨by rfl, ?_⟩) ?_; rotate_left; (focus (intro w hSw; (try dsimp only at hSw); go_simp; (try (with_reducible rfl)); done)); try simp only [Act.put, List.setIfInBounds_toArray, List.set_cons_zero, List.set_cons_succ])
                  (refine wpL_calm (o := { dst := some 58, op := Go.Op.load 3 (Go.Operand.tmp 57), type := 3, pos := "law.go:117", after := #[{ on := 2, ground := Go.Ground.data }], guard := none }) (v := ?_) rfl (Or.inl ⟨by rfl, ?_⟩) ?_; rotate_left; (focus (intro w hSw; (try dsimp only at hSw); go_simp; (try (with_reducible rfl)); done)); try simp only [Act.put, List.setIfInBounds_toArray, List.set_cons_zero, List.set_cons_succ])
                  (refine wpL_calm (o := { dst := some 59, op := Go.Op.fieldAddr 33 (Go.Operand.tmp 15) 2, type := 0, pos := "law.go:117", after := #[], guard := none }) (v := ?_) rfl (Or.inl ⟨by rfl, ?_⟩) ?_; rotate_left; (focus (intro w hSw; (try dsimp only at hSw); go_simp; (try (with_reducible rfl)); done)); try simp only [Act.put, List.setIfInBounds_toArray, List.set_cons_zero, List.set_cons_succ])
                  (refine wpL_calm (o := { dst := some 60, op := Go.Op.load 3 (Go.Operand.tmp 59), type := 3, pos := "law.go:117", after := #[{ on := 4, ground := Go.Ground.data }], guard := none }) (v := ?_) rfl (Or.inl ⟨by rfl, ?_⟩) ?_; rotate_left; (focus (intro w hSw; (try dsimp only at hSw); go_simp; (try (with_reducible rfl)); done)); try simp only [Act.put, List.setIfInBounds_toArray, List.set_cons_zero, List.set_cons_succ])
                  (refine wpL_calm (o := { dst := some 61, op := Go.Op.binOp Go.BinOp.eql 3 (Go.Operand.tmp 58) (Go.Operand.tmp 60) 3, type := 4, pos := "law.go:117", after := #[{ on := 3, ground := Go.Ground.data }, { on := 5, ground := Go.Ground.data }], guard := none }) (v := ?_) rfl (Or.inl ⟨by rfl, ?_⟩) ?_; rotate_left; (focus (intro w hSw; (try dsimp only at hSw); go_simp; (try (with_reducible rfl)); done)); try simp only [Act.put, List.setIfInBounds_toArray, List.set_cons_zero, List.set_cons_succ])
                  refine wpL_nil ?_
                  refine NoPanic.normal ?_
                  have kx := hHeld.2
                  have HV7 : Hid (VfW wr.drew w4.heap.size (.slice (some ⟨rg, 0, none⟩) N'.length c9') (.slice a10' N'.length c10') N') := Lib.hid (HV.out.below (Below.refl _ _).drew)
                  have HB7 := Lib.hid HB.out.drew
                  have hxl : gx < wr.drew.heap.size := hxl
                  clear HV HB ck hHeld
                  generalize wr.drew = w7 at *
                  by_cases htv : t = v
                  · have hq : (t == v) = true := by rw [htv]; simp
                    have HK2 : Hid (((k : Int) = -1 ∧ ∀ j (hj : j < N'.length), j < k + 1 → N'[j].1 ≠ v) ∨ (∃ (j : Nat) (hj : j < N'.length), (k : Int) = (j : Int) ∧ N'[j].1 = v)) := Lib.hid (Or.inr ⟨k, hkl, rfl, by rw [ht.out, htv]⟩)
                    clear HK htv
                    go_wp2_with fail
                    go_roundw
                    case rel => exact ⟨k + 1, (k : Int), by go_num, by omega, rfl, HK2, HV7, kx, hxl, HB7⟩
                    case measure => simp [intOf]; omega
                  · have hq : (t == v) = false := by simpa using htv
                    have HK2 : Hid ((a = -1 ∧ ∀ j (hj : j < N'.length), j < k + 1 → N'[j].1 ≠ v) ∨ (∃ (j : Nat) (hj : j < N'.length), a = (j : Int) ∧ N'[j].1 = v)) := Lib.hid (by
                      rcases HK.out with ⟨h1, h2⟩ | h
                      · refine Or.inl ⟨h1, fun j hj hjk => ?_⟩
                        by_cases e : j = k
                        · subst e; rw [ht.out]; exact htv
                        · exact h2 j hj (by omega)
                      · exact Or.inr h)
                    clear HK htv
                    go_wp2_with fail
                    go_roundw
                    case rel => exact ⟨k + 1, a, by go_num, by omega, rfl, HK2, HV7, kx, hxl, HB7⟩
                    case measure => simp [intOf]; omega
                · as_aux_lemma =>
                  have hkli : ¬ (k : Int) < (N'.length : Int) := by omega
                  rcases HK.out with ⟨rfl, hno⟩ | ⟨j, hj, rfl, hjv⟩
                  · as_aux_lemma =>
                    have hno' : ∀ j (hj : j < N'.length), N'[j].1 ≠ v := fun j hj => hno j hj (by omega)
                    have HI1 := Lib.hid (HSAME.out _ (frS_new (b := b) hno' (by omega)))
                    have HD := Lib.hid (DstN.add (b := b) HV.out.dst hno')
                    have hrow := HV.out.nums
                    have hsrc := src_int (w := wr) v
                    have o1 : N'.length + 1 ≤ maxLen := by unfold maxLen; omega
                    have o2 : (N'.length + 1) * 8 ≤ 140737488355328 := by omega
                    have o2' : (N'.length + 1) * 16 ≤ 140737488355328 := by omega
                    have hBw := HV.out.hb
                    have o3 : w4.heap.size ≤ (wr.alloc (.cells #[.int .i64 v] 3)).heap.size := by simp; omega
                    clear HSAME HTWO HTW HK hno
                    go_wp2_with (at_builtin; refine wpList_append_src2 _ rfl _ _ 39 39 rfl w4.heap.size 3 ii (.int .i64 0) 1 8 Try.underlying39 hii hiz0 hiz1 hiz2 rfl (by decide) _ N'.length (intC N') rfl (hrow.alloc _) _ 1 [.int .i64 v] rfl hsrc o1 o2 o3 ?_)
                    intro v' w7 hown7 hg7 hloc7
                    have ba : Below wr.heap.size wr (wr.alloc (.cells #[.int .i64 v] 3)) := (Below.refl _ _).alloc (Nat.le_refl _) _
                    have HO7 := Lib.hid hown7
                    have HS7 := Lib.hid ((HV.out.blks.alloc (.cells #[.int .i64 v] 3)).kept hg7 (own_apartV (HV.out.blks.alloc (.cells #[.int .i64 v] 3)) (hrow.alloc (.cells #[.int .i64 v] 3)) (by decide)))
                    have HB7 := Lib.hid ((HB.out.trans (ba.mono hBw)).grown hg7 (by simp; omega) (fun j e => by have := (hrow.lt j e).1; omega))
                    have hB7 : w4.heap.size ≤ w7.heap.size := Nat.le_trans (Nat.le_trans hBw ba.size) hg7.size
                    obtain ⟨a7, c7, rfl⟩ := own_sl33 hown7
                    clear hown7 hg7 hloc7 hsrc ba hrow o1 o2 o3 HB hBw kx hxl
                    go_wp2_with fail
                    refine (CB.out w7).mono ?_
                    rintro e w' ⟨rfl, rfl⟩
                    have hrow := HS7.out
                    have hsrc := src_one (w := w7) b
                    have o1 : N'.length + 1 ≤ maxLen := by unfold maxLen; omega
                    have o3 : w4.heap.size ≤ (w7.alloc (.cells #[.string b] 9)).heap.size := by simp; omega
                    go_wp2_with (at_builtin; refine wpList_append_src2 _ rfl _ _ 48 48 rfl w4.heap.size 9 is (.string ⟨#[]⟩) 1 16 Try.underlying48 his hsz0 hsz1 hsz2 rfl (by decide) _ N'.length (strC N') rfl (hrow.alloc _) _ 1 [.string b] rfl hsrc o1 o2' o3 ?_)
                    intro v' w8 hown8 hg8 hloc8
                    have ba : Below w7.heap.size w7 (w7.alloc (.cells #[.string b] 9)) := (Below.refl _ _).alloc (Nat.le_refl _) _
                    have HN8 := Lib.hid ((HO7.out.alloc (.cells #[.string b] 9)).kept hg8 (own_apartV (HO7.out.alloc (.cells #[.string b] 9)) (hrow.alloc (.cells #[.string b] 9)) (by decide)))
                    have HB8 := Lib.hid ((HB7.out.trans (ba.mono hB7)).grown hg8 (by simp; omega) (fun j e => by have := (hrow.lt j e).1; omega))
                    have hB8 : w4.heap.size ≤ w8.heap.size := Nat.le_trans (Nat.le_trans hB7 ba.size) hg8.size
                    obtain ⟨a8, c8, rfl⟩ := own_sl33 hown8
                    have HV8 : Hid (VfW w8 w4.heap.size (.slice a7 (N'.length + 1) c7) (.slice a8 (N'.length + 1) c8) (N' ++ [(v, b)])) := Lib.hid ⟨by
                      have h := HN8.out
                      rw [List.length_append]
                      unfold intC at h ⊢
                      rw [List.map_append]
                      exact h, by
                      have h := hown8
                      rw [List.length_append]
                      unfold strC at h ⊢
                      rw [List.map_append]
                      exact h, hB8, HD.out⟩
                    clear hown8 hg8 hloc8 hsrc ba hrow o1 o2' o3 HB7 HO7 HS7 HN8 CB
                    go_wp2_with fail
                    go_roundw
                    case rel => exact ⟨i + 1, N' ++ [(v, b)], tw', by go_num, by omega, by omega, ⟨_, _, by rw [List.length_append]; rfl⟩, ⟨_, _, by rw [List.length_append]; rfl⟩, rfl, by rw [List.length_append]; simp only [List.length_cons, List.length_nil]; omega, HV8, HI1, HB8⟩
                    case measure => simp [intOf]; omega
                  · as_aux_lemma =>
                    have hj0 : ¬ ((j : Int) < 0) := by omega
                    have hji : (j : Int) < (N'.length : Int) := by omega
                    have hj1 : (0 : Int) ≤ (j : Int) := by omega
                    have HFR := Lib.hid (frS_at (b := b) HV.out.dst hj hjv (by omega))
                    rcases HV.out.blks.2 with ⟨e9, h0⟩ | ⟨rg, cap, cur, e9, _⟩
                    · omega
                    injection e9 with e1 _ e3
                    subst e1 e3
                    have ck := HV.out.blks.cells (g := rg) rfl j (.string N'[j].2) (by unfold strC; rw [List.getElem?_map, List.getElem?_eq_getElem hj]; rfl)
                    rw [Addr.add_lit, Nat.zero_add] at ck
                    obtain ⟨t, ht⟩ : ∃ t, Hid (N'[j].2 = t) := ⟨_, Lib.hid rfl⟩
                    rw [ht.out] at ck HFR
                    have HV7 : Hid (VfW wr.drew w4.heap.size (.slice a9' N'.length c9') (.slice (some ⟨rg, 0, none⟩) N'.length c10') N') := Lib.hid (HV.out.below (Below.refl _ _).drew)
                    have HB7 := Lib.hid HB.out.drew
                    clear HK HV HB
                    cases tw' with
                    | true =>
                      as_aux_lemma =>
                      have HI1 := Lib.hid (HTW.out N' rfl)
                      clear HSAME HTWO HTW
                      go_upto_region 26 with fail
                      refine wp_region_lin (S := (fun w' => True)) [(0, true), (1, true), (2, true), (3, true), (4, true), (5, true), (6, true), (7, true), (8, false), (9, true), (10, true), (11, true)] (by kernel_rfl) (by kernel_rfl) rfl (by kernel_rfl) ?_ (fun hHeld => ?_)
                      · (try dsimp only); try exact trivial
                      refine wpL_calm (o := { dst := some 76, op := Go.Op.move (Go.Operand.tmp 11), type := 4, pos := "law.go:125", after := #[], guard := none }) (v := ?_) rfl (Or.inl ⟨by rfl, ?_⟩) ?_; rotate_left; (focus (intro w hSw; (try dsimp only at hSw); go_simp; (try (with_reducible rfl)); done)); try simp only [Act.put, List.setIfInBounds_toArray, List.set_cons_zero, List.set_cons_succ]
                      refine wpL_calm (o := { dst := some 77, op := Go.Op.move (Go.Operand.tmp 76), type := 4, pos := "law.go:125", after := #[{ on := 0, ground := Go.Ground.data }], guard := none }) (v := ?_) rfl (Or.inl ⟨by rfl, ?_⟩) ?_; rotate_left; (focus (intro w hSw; (try dsimp only at hSw); go_simp; (try (with_reducible rfl)); done)); try simp only [Act.put, List.setIfInBounds_toArray, List.set_cons_zero, List.set_cons_succ]
                      refine wpL_calm (o := { dst := some 78, op := Go.Op.move (Go.Operand.tmp 10), type := 48, pos := "law.go:125", after := #[{ on := 1, ground := Go.Ground.guard }], guard := some (1, false) }) (v := undef) rfl (Or.inr ⟨by rfl, rfl⟩) ?_; try simp only [Act.put, List.setIfInBounds_toArray, List.set_cons_zero, List.set_cons_succ]
                      refine wpL_calm (o := { dst := some 79, op := Go.Op.move (Go.Operand.tmp 16), type := 3, pos := "law.go:125", after := #[{ on := 1, ground := Go.Ground.guard }], guard := some (1, false) }) (v := undef) rfl (Or.inr ⟨by rfl, rfl⟩) ?_; try simp only [Act.put, List.setIfInBounds_toArray, List.set_cons_zero, List.set_cons_succ]
                      refine wpL_calm (o := { dst := some 80, op := Go.Op.indexAddr 48 (Go.Operand.tmp 78) (Go.Operand.tmp 79), type := 0, pos := "law.go:125", after := #[{ on := 2, ground := Go.Ground.data }, { on := 3, ground := Go.Ground.data }, { on := 1, ground := Go.Ground.guard }], guard := some (1, false) }) (v := undef) rfl (Or.inr ⟨by rfl, rfl⟩) ?_; try simp only [Act.put, List.setIfInBounds_toArray, List.set_cons_zero, List.set_cons_succ]
                      refine wpL_calm (o := { dst := some 81, op := Go.Op.load 9 (Go.Operand.tmp 80), type := 9, pos := "law.go:125", after := #[{ on := 4, ground := Go.Ground.data }, { on := 1, ground := Go.Ground.guard }], guard := some (1, false) }) (v := undef) rfl (Or.inr ⟨by rfl, rfl⟩) ?_; try simp only [Act.put, List.setIfInBounds_toArray, List.set_cons_zero, List.set_cons_succ]
                      refine wpL_calm (o := { dst := some 82, op := Go.Op.move (Go.Operand.tmp 13), type := 9, pos := "law.go:125", after := #[{ on := 1, ground := Go.Ground.guard }], guard := some (1, false) }) (v := undef) rfl (Or.inr ⟨by rfl, rfl⟩) ?_; try simp only [Act.put, List.setIfInBounds_toArray, List.set_cons_zero, List.set_cons_succ]
                      refine wpL_calm (o := { dst := some 83, op := Go.Op.move (Go.Operand.tmp 14), type := 3, pos := "law.go:125", after := #[{ on := 1, ground := Go.Ground.guard }], guard := some (1, false) }) (v := undef) rfl (Or.inr ⟨by rfl, rfl⟩) ?_; try simp only [Act.put, List.setIfInBounds_toArray, List.set_cons_zero, List.set_cons_succ]
                      refine wpL_loud1 (o := { dst := some 84, op := Go.Op.call { callee := Go.Callee.value (Go.Operand.func 12), args := #[Go.Operand.tmp 82, Go.Operand.tmp 83], argTypes := #[9, 3] }, type := 9, pos := "law.go:125", after := #[{ on := 6, ground := Go.Ground.data }, { on := 7, ground := Go.Ground.data }, { on := 1, ground := Go.Ground.chain }, { on := 1, ground := Go.Ground.guard }], guard := some (1, false) }) rfl (fun K hK => ?_)
                      go_simp
                      try go_wp2_with fail
                      refine hK.out _ _ ?_ (fun hHeld => ?_)
                      · (try dsimp only); try trivial
                      clear hK K
                      try simp only [Act.put, List.setIfInBounds_toArray, List.set_cons_zero, List.set_cons_succ]
                      refine wpL_calm (o := { dst := some 85, op := Go.Op.binOp Go.BinOp.neq 9 (Go.Operand.tmp 81) (Go.Operand.tmp 84) 9, type := 4, pos := "law.go:125", after := #[{ on := 5, ground := Go.Ground.data }, { on := 8, ground := Go.Ground.data }, { on := 1, ground := Go.Ground.guard }], guard := some (1, false) }) (v := undef) rfl (Or.inr ⟨by rfl, rfl⟩) ?_; try simp only [Act.put, List.setIfInBounds_toArray, List.set_cons_zero, List.set_cons_succ]
                      refine wpL_calm (o := { dst := some 86, op := Go.Op.pick (Go.Operand.tmp 77) (Go.Operand.const (Go.Value.bool true)) (Go.Operand.tmp 85), type := 4, pos := "law.go:125", after := #[{ on := 1, ground := Go.Ground.data }, { on := 9, ground := Go.Ground.data }], guard := none }) (v := ?_) rfl (Or.inl ⟨by rfl, ?_⟩) ?_; rotate_left; (focus (intro w hSw; (try dsimp only at hSw); go_simp; (try (with_reducible rfl)); done)); try simp only [Act.put, List.setIfInBounds_toArray, List.set_cons_zero, List.set_cons_succ]
                      refine wpL_calm (o := { dst := some 11, op := Go.Op.assign (Go.Operand.tmp 86), type := 4, pos := "law.go:125", after := #[{ on := 10, ground := Go.Ground.data }, { on := 8, ground := Go.Ground.chain }, { on := 0, ground := Go.Ground.phase }, { on := 1, ground := Go.Ground.phase }, { on := 2, ground := Go.Ground.phase }, { on := 3, ground := Go.Ground.phase }, { on := 4, ground := Go.Ground.phase }, { on := 5, ground := Go.Ground.phase }, { on := 6, ground := Go.Ground.phase }, { on := 7, ground := Go.Ground.phase }, { on := 8, ground := Go.Ground.phase }, { on := 9, ground := Go.Ground.phase }, { on := 10, ground := Go.Ground.phase }], guard := none }) (v := ?_) rfl (Or.inl ⟨by rfl, ?_⟩) ?_; rotate_left; (focus (intro w hSw; (try dsimp only at hSw); go_simp; (try (with_reducible rfl)); done)); try simp only [Act.put, List.setIfInBounds_toArray, List.set_cons_zero, List.set_cons_succ]
                      refine wpL_nil ?_
                      refine NoPanic.normal ?_
                      generalize wr.drew = w7 at *
                      go_wp2_with fail
                      go_roundw
                      case rel => exact ⟨i + 1, N', true, by go_num, by omega, by omega, ⟨_, _, rfl⟩, ⟨_, _, rfl⟩, rfl, by omega, HV7, HI1, HB7⟩
                      case measure => simp [intOf]; omega
                    | false =>
                      as_aux_lemma =>
                      go_upto_region 26 with fail
                      refine wp_region_lin (S := (fun w' => w'.cell? ⟨rg, j, none⟩ = some (.string t))) [(0, true), (1, true), (2, true), (3, true), (4, true), (5, true), (6, true), (7, true), (8, false), (9, true), (10, true), (11, true)] (by kernel_rfl) (by kernel_rfl) rfl (by kernel_rfl) ?_ (fun hHeld => ?_)
                      · (try dsimp only); exact ck
                      refine wpL_calm (o := { dst := some 76, op := Go.Op.move (Go.Operand.tmp 11), type := 4, pos := "law.go:125", after := #[], guard := none }) (v := ?_) rfl (Or.inl ⟨by rfl, ?_⟩) ?_; rotate_left; (focus (intro w hSw; (try dsimp only at hSw); go_simp; (try (with_reducible rfl)); done)); try simp only [Act.put, List.setIfInBounds_toArray, List.set_cons_zero, List.set_cons_succ]
                      refine wpL_calm (o := { dst := some 77, op := Go.Op.move (Go.Operand.tmp 76), type := 4, pos := "law.go:125", after := #[{ on := 0, ground := Go.Ground.data }], guard := none }) (v := ?_) rfl (Or.inl ⟨by rfl, ?_⟩) ?_; rotate_left; (focus (intro w hSw; (try dsimp only at hSw); go_simp; (try (with_reducible rfl)); done)); try simp only [Act.put, List.setIfInBounds_toArray, List.set_cons_zero, List.set_cons_succ]
                      refine wpL_calm (o := { dst := some 78, op := Go.Op.move (Go.Operand.tmp 10), type := 48, pos := "law.go:125", after := #[{ on := 1, ground := Go.Ground.guard }], guard := some (1, false) }) (v := ?_) rfl (Or.inl ⟨by rfl, ?_⟩) ?_; rotate_left; (focus (intro w hSw; (try dsimp only at hSw); go_simp; (try (with_reducible rfl)); done)); try simp only [Act.put, List.setIfInBounds_toArray, List.set_cons_zero, List.set_cons_succ]
                      refine wpL_calm (o := { dst := some 79, op := Go.Op.move (Go.Operand.tmp 16), type := 3, pos := "law.go:125", after := #[{ on := 1, ground := Go.Ground.guard }], guard := some (1, false) }) (v := ?_) rfl (Or.inl ⟨by rfl, ?_⟩) ?_; rotate_left; (focus (intro w hSw; (try dsimp only at hSw); go_simp; (try (with_reducible rfl)); done)); try simp only [Act.put, List.setIfInBounds_toArray, List.set_cons_zero, List.set_cons_succ]
                      refine wpL_calm (o := { dst := some 80, op := Go.Op.indexAddr 48 (Go.Operand.tmp 78) (Go.Operand.tmp 79), type := 0, pos := "law.go:125", after := #[{ on := 2, ground := Go.Ground.data }, { on := 3, ground := Go.Ground.data }, { on := 1, ground := Go.Ground.guard }], guard := some (1, false) }) (v := ?_) rfl (Or.inl ⟨by rfl, ?_⟩) ?_; rotate_left; (focus (intro w hSw; (try dsimp only at hSw); go_simp; (try (with_reducible rfl)); done)); try simp only [Act.put, List.setIfInBounds_toArray, List.set_cons_zero, List.set_cons_succ]
                      refine wpL_calm (o := { dst := some 81, op := Go.Op.load 9 (Go.Operand.tmp 80), type := 9, pos := "law.go:125", after := #[{ on := 4, ground := Go.Ground.data }, { on := 1, ground := Go.Ground.guard }], guard := some (1, false) }) (v := ?_) rfl (Or.inl ⟨by rfl, ?_⟩) ?_; rotate_left; (focus (intro w hSw; (try dsimp only at hSw); go_simp; (try (with_reducible rfl)); done)); try simp only [Act.put, List.setIfInBounds_toArray, List.set_cons_zero, List.set_cons_succ]
                      refine wpL_calm (o := { dst := some 82, op := Go.Op.move (Go.Operand.tmp 13), type := 9, pos := "law.go:125", after := #[{ on := 1, ground := Go.Ground.guard }], guard := some (1, false) }) (v := ?_) rfl (Or.inl ⟨by rfl, ?_⟩) ?_; rotate_left; (focus (intro w hSw; (try dsimp only at hSw); go_simp; (try (with_reducible rfl)); done)); try simp only [Act.put, List.setIfInBounds_toArray, List.set_cons_zero, List.set_cons_succ]
                      refine wpL_calm (o := { dst := some 83, op := Go.Op.move (Go.Operand.tmp 14), type := 3, pos := "law.go:125", after := #[{ on := 1, ground := Go.Ground.guard }], guard := some (1, false) }) (v := ?_) rfl (Or.inl ⟨by rfl, ?_⟩) ?_; rotate_left; (focus (intro w hSw; (try dsimp only at hSw); go_simp; (try (with_reducible rfl)); done)); try simp only [Act.put, List.setIfInBounds_toArray, List.set_cons_zero, List.set_cons_succ]
                      refine wpL_loud1 (o := { dst := some 84, op := Go.Op.call { callee := Go.Callee.value (Go.Operand.func 12), args := #[Go.Operand.tmp 82, Go.Operand.tmp 83], argTypes := #[9, 3] }, type := 9, pos := "law.go:125", after := #[{ on := 6, ground := Go.Ground.data }, { on := 7, ground := Go.Ground.data }, { on := 1, ground := Go.Ground.chain }, { on := 1, ground := Go.Ground.guard }], guard := some (1, false) }) rfl (fun K hK => ?_)
                      (go_simp; go_at_call 12; refine (CB.out _).mono ?_; rintro e w4 ⟨rfl, rfl⟩)
                      try go_wp2_with fail
                      refine hK.out _ _ ?_ (fun hHeld => ?_)
                      · (try dsimp only); exact hHeld
                      clear hK K
                      try simp only [Act.put, List.setIfInBounds_toArray, List.set_cons_zero, List.set_cons_succ]
                      refine wpL_calm (o := { dst := some 85, op := Go.Op.binOp Go.BinOp.neq 9 (Go.Operand.tmp 81) (Go.Operand.tmp 84) 9, type := 4, pos := "law.go:125", after := #[{ on := 5, ground := Go.Ground.data }, { on := 8, ground := Go.Ground.data }, { on := 1, ground := Go.Ground.guard }], guard := some (1, false) }) (v := ?_) rfl (Or.inl ⟨by rfl, ?_⟩) ?_; rotate_left; (focus (intro w hSw; (try dsimp only at hSw); go_simp; (try (with_reducible rfl)); done)); try simp only [Act.put, List.setIfInBounds_toArray, List.set_cons_zero, List.set_cons_succ]
                      refine wpL_calm (o := { dst := some 86, op := Go.Op.pick (Go.Operand.tmp 77) (Go.Operand.const (Go.Value.bool true)) (Go.Operand.tmp 85), type := 4, pos := "law.go:125", after := #[{ on := 1, ground := Go.Ground.data }, { on := 9, ground := Go.Ground.data }], guard := none }) (v := ?_) rfl (Or.inl ⟨by rfl, ?_⟩) ?_; rotate_left; (focus (intro w hSw; (try dsimp only at hSw); go_simp; (try (with_reducible rfl)); done)); try simp only [Act.put, List.setIfInBounds_toArray, List.set_cons_zero, List.set_cons_succ]
                      refine wpL_calm (o := { dst := some 11, op := Go.Op.assign (Go.Operand.tmp 86), type := 4, pos := "law.go:125", after := #[{ on := 10, ground := Go.Ground.data }, { on := 8, ground := Go.Ground.chain }, { on := 0, ground := Go.Ground.phase }, { on := 1, ground := Go.Ground.phase }, { on := 2, ground := Go.Ground.phase }, { on := 3, ground := Go.Ground.phase }, { on := 4, ground := Go.Ground.phase }, { on := 5, ground := Go.Ground.phase }, { on := 6, ground := Go.Ground.phase }, { on := 7, ground := Go.Ground.phase }, { on := 8, ground := Go.Ground.phase }, { on := 9, ground := Go.Ground.phase }, { on := 10, ground := Go.Ground.phase }], guard := none }) (v := ?_) rfl (Or.inl ⟨by rfl, ?_⟩) ?_; rotate_left; (focus (intro w hSw; (try dsimp only at hSw); go_simp; (try (with_reducible rfl)); done)); try simp only [Act.put, List.setIfInBounds_toArray, List.set_cons_zero, List.set_cons_succ]
                      refine wpL_nil ?_
                      refine NoPanic.normal ?_
                      generalize wr.drew = w7 at *
                      by_cases htb : t = b
                      · as_aux_lemma =>
                        have HI1 := Lib.hid (HSAME.out N' (by rw [HFR.out, if_pos htb]))
                        have hbb : (!(t.toList == b.toList)) = false := by rw [htb]; simp
                        clear HSAME HTWO HTW HFR htb
                        rw [hbb]
                        go_wp2_with fail
                        go_roundw
                        case rel => exact ⟨i + 1, N', false, by go_num, by omega, by omega, ⟨_, _, rfl⟩, ⟨_, _, rfl⟩, rfl, by omega, HV7, HI1, HB7⟩
                        case measure => simp [intOf]; omega
                      · as_aux_lemma =>
                        have HI1 := Lib.hid (HTWO.out N' (by trivial) (by rw [HFR.out, if_neg htb]))
                        have hq : (t.toList == b.toList) = false := by
                          cases h : (t.toList == b.toList)
                          · rfl
                          · exact absurd (toList_eq33 h) htb
                        have hbb : (!(t.toList == b.toList)) = true := by rw [hq]; rfl
                        clear HSAME HTWO HTW HFR htb hq
                        rw [hbb]
                        go_wp2_with fail
                        go_roundw
                        case rel => exact ⟨i + 1, N', true, by go_num, by omega, by omega, ⟨_, _, rfl⟩, ⟨_, _, rfl⟩, rfl, by omega, HV7, HI1, HB7⟩
                        case measure => simp [intOf]; omega
          · as_aux_lemma =>
            have hli : ¬ (i : Int) < 288 := by omega
            obtain rfl : i = 288 := by omega
            have HF2 := Lib.hid (VfI.done HI.out)
            rw [← hR.out] at HF2
            go_wp2_with fail
            go_roundw
            case rel => exact ⟨d + 1, N', tw', by go_num, by omega, ⟨_, _, rfl⟩, ⟨_, _, rfl⟩, rfl, by omega, HV, HF2, HB⟩
            case measure => simp [intOf]; omega
    · as_aux_lemma =>
      have hli : ¬ (d : Int) < 2 := by omega
      obtain rfl : d = 2 := by omega
      have HBW := Lib.hid (HB4.out.trans (HB.out.mono HB4.out.size))
      obtain ⟨w5, hw5⟩ : ∃ w5, wr.alloc (.cells #[.string A, .string ⟨#[]⟩] 9) = w5 := ⟨_, rfl⟩
      have b5 : Below wr.heap.size wr w5 := by rw [← hw5]; exact (Below.refl _ _).alloc (Nat.le_refl _) _
      have C5 := Lib.hid (fresh_bad2 A wr w5 hw5)
      have HB5 := Lib.hid (HBW.out.trans (b5.mono HBW.out.size))
      have HW5 := Lib.hid hw5
      clear hw5 b5 HB HBW HV hA hB
      go_wp2_with fail
      rw [HW5.out]
      refine C5.out.mono ?_
      rintro e w' ⟨rfl, rfl⟩
      clear HW5 C5
      cases tw with
      | true =>
        as_aux_lemma =>
        obtain ⟨r1, r2⟩ := fre_none (HF.out.2 rfl)
        rw [hn0.out] at r1
        rw [he0.out] at r2
        subst r1 r2
        clear HF hn0 he0
        go_wp2_with fail
        refine (awake33 w5).mono ?_
        rintro e w6 ⟨rfl, b6⟩
        have HB6 := Lib.hid (HB5.out.trans (b6.mono HB5.out.size))
        go_wp2_with fail
        go_ret
        exact ⟨by first | rfl | simp, HB6.out⟩
      | false =>
        as_aux_lemma =>
        obtain ⟨r1, r2⟩ := fre_some (L := [A, B]) (N := N) (by rw [HF.out.1 rfl]; with_unfolding_all rfl)
        rw [hn0.out] at r1
        rw [he0.out] at r2
        subst r1 r2
        clear HF hn0 he0
        go_wp2_with fail
        refine (awake33 w5).mono ?_
        rintro e w6 ⟨rfl, b6⟩
        have HB6 := Lib.hid (HB5.out.trans (b6.mono HB5.out.size))
        go_wp2_with fail
        go_ret
        exact ⟨by first | rfl | simp, HB6.out⟩
section
variable {H : Type} {enc : TypeId × Value → H}
theorem viewFresh_walk (v : Value) (d : DataW H) (p : List MemPlace) (u : Value) (d2 : DataW H) (p2 : List MemPlace) (w : World) (hv : ∃ a len cap, v = .slice a len cap) (h : DataW.Trod enc Try.prog w 0 (fun _ => true) true 22 v d p) (hu : ∃ a len cap, u = .slice a len cap) (h' : DataW.Trod enc Try.prog w 0 (fun _ => true) true 22 u d2 p2) :
    Calls Try.prog 5 #[v, u] w fun e w' => e = .returned (.bool true) ∧ Below w.heap.size w w' := by
  obtain ⟨a', len', cap', rfl⟩ := hv
  obtain ⟨n, hh⟩ := h
  have ec : (Value.slice a' len' cap').cells.toList = [.slice a' len' cap'] := by simp [Value.cells]
  rw [ec] at hh
  obtain ⟨ao, len, cap, L, e, h1, h2, h3, h4, _⟩ := open_cgN hh
  obtain ⟨a2, len2, cap2, rfl⟩ := hu
  obtain ⟨n2, hh2⟩ := h'
  have ec2 : (Value.slice a2 len2 cap2).cells.toList = [.slice a2 len2 cap2] := by simp [Value.cells]
  rw [ec2] at hh2
  obtain ⟨ao2, len2', cap2', M, e2, g1, g2, g3, g4, _⟩ := open_cgN hh2
  rw [e, ← h3, e2, ← g3]
  exact viewFresh_any ao ao2 cap cap2' L M w h4 (by omega) g4 (by omega)
end
end Go.Proofs.Ytapmnacggpcffaa
