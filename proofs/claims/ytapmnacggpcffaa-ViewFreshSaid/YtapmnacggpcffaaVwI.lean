/- Package view: Fresh. -/
import Derived.Test.YtapmnacggpcffaaVwH
namespace Go.Proofs.Ytapmnacggpcffaa
open Go.RowKit Go.Deep
set_option linter.unusedVariables false
set_option linter.unusedSimpArgs false
theorem zero_intV : ∀ w, (zeroValue 3).run Try.prog w = .ok (.int .i64 0) w := fun w => by kernel_rfl
theorem info_strV : (Try.prog.info? 9).map (fun i => (i.zero, i.size, i.bytes)) = some (some (.string ⟨#[]⟩), 1, 16) := by kernel_rfl
/-- A slice of texts. -/
def TxAt (w : World) (ao : Option Addr) (L : List ByteArray) : Prop := 0 < L.length → ∃ g o, ao = some ⟨g, o, none⟩ ∧ g < w.heap.size ∧ ∀ i (hi : i < L.length), w.cell? ⟨g, o + i, none⟩ = some (.string L[i])
theorem TxAt.below {w w' : World} {ao : Option Addr} {L : List ByteArray} (h : TxAt w ao L) (b : Below w.heap.size w w') : TxAt w' ao L := fun hp => by
  obtain ⟨g, o, e, hg, hc⟩ := h hp
  exact ⟨g, o, e, Nat.lt_of_lt_of_le hg b.size, fun i hi => (b.cell (p := ⟨g, o + i, none⟩) hg).trans (hc i hi)⟩
theorem LkAt.same {w w' : World} {B b1 b2 : Nat} {s : ByteArray} (h : LkAt w B b1 b2 s) (h1 : w'.heap[b1]? = w.heap[b1]?) (h2 : w'.heap[b2]? = w.heap[b2]?) (hs : w.heap.size ≤ w'.heap.size) : LkAt w' B b1 b2 s := by
  have k1 : w'.cell? ⟨b1, 0, none⟩ = w.cell? ⟨b1, 0, none⟩ := by simp [World.cell?, h1]
  have k2 : w'.cell? ⟨b2, 0, none⟩ = w.cell? ⟨b2, 0, none⟩ := by simp [World.cell?, h2]
  exact ⟨h.1, h.2.1, Nat.lt_of_lt_of_le h.2.2.1 hs, Nat.lt_of_lt_of_le h.2.2.2.1 hs, k1.trans h.2.2.2.2.1, k2.trans h.2.2.2.2.2⟩
theorem src_one {w : World} (s : ByteArray) : Src Try.prog 1 48 (.slice (some ⟨w.heap.size, 0, none⟩) 1 1) 1 [.string s] (w.alloc (.cells #[.string s] 9)) :=
  Src.ofSlice _ Try.underlying48 ⟨w.heap.size, 0, none⟩ 1 1 [.string s] rfl (fun j v hv => by
    rcases j with _ | j
    · simp at hv; subst hv; exact World.cell?_alloc_at _ _ _ _ rfl
    · simp at hv) (fun u hu => by simp at hu; subst hu; rfl)
theorem field_num (K I N : Int) (Z : Bool) (w : World) : (Instr.field 33 (.agg #[.int .i64 K, .int .i64 I, .int .i64 N, .bool Z]) 2).run Try.prog w = .ok (.int .i64 N) w := by kernel_rfl
def strC (N : List Nb) : List Value := N.map fun p => .string p.2
/-- The state between two blocks. -/
structure FrW (w : World) (gm : Nat) (v : Value) (N : List Nb) (M : List Mi) : Prop where
  map : MiAt w gm M
  row : w.ownsRow (gm + 1) 9 1 v N.length (strC N)
  inv : FrI N M
theorem FrW.below {w w' : World} {gm : Nat} {v : Value} {N : List Nb} {M : List Mi} (h : FrW w gm v N M) (b : Below w.heap.size w w') : FrW w' gm v N M := ⟨h.map.block (b.block gm h.map.lt), h.row.kept_below b, h.inv⟩
theorem all_step {L : List ByteArray} {d : Nat} {N : List Nb} (hd : d < L.length) (h : frAll L [] = frAll (L.drop d) N) : frAll L [] = (frImg L[d] 288 N).bind (frAll (L.drop (d + 1))) := by
  rw [h, List.drop_eq_getElem_cons hd]; rfl
/-- What Fresh comes to. -/
def FreR (L : List ByteArray) (gm : Nat) (w : World) (e : Ending) (w' : World) : Prop := e = .returned (.tuple #[.int .i64 (freN L), .int .i64 (freE L)]) ∧ Below gm w w'
set_option maxRecDepth 100000 in
set_option maxHeartbeats 16000000 in
theorem fresh_any (ao : Option Addr) (c : Nat) (L : List ByteArray) (w : World) (hat : TxAt w ao L) (hsz : ∀ s ∈ L, s.size = 18432) (hn : L.length ≤ 100) : Calls Try.prog 14 #[.slice ao L.length c] w (FreR L w.heap.size w) := by
  have hmm := @run_makeMap Try.prog
  obtain ⟨i1, hi1, hy0, hy1, hy2⟩ := info_parts33 info_strV
  have h1 := World.ownsMap_made (H := Unit) w Try.prog 3 miR
  obtain ⟨w1, hw1⟩ : ∃ w1, w.alloc (.map #[] 0) = w1 := ⟨_, rfl⟩
  rw [hw1] at h1
  obtain ⟨gm, hgm⟩ : ∃ gm, Hid (w.heap.size = gm) := ⟨_, Lib.hid rfl⟩
  rw [hgm.out] at h1
  have HS1 : Hid (FrW w1 gm (.slice none 0 0) [] []) := Lib.hid ⟨MiAt.of h1, World.ownsRow_nil _ _ _ _, FrI.zero⟩
  have HB1 : Hid (Below gm w w1) := Lib.hid (by rw [← hw1, ← hgm.out]; exact (Below.refl _ _).alloc (Nat.le_refl _) _)
  have hs1 : gm + 1 ≤ w1.heap.size := by rw [← hw1, ← hgm.out]; simp
  have HW1 := Lib.hid hw1
  have HAT := Lib.hid hat
  have HSZ := Lib.hid hsz
  obtain ⟨n, hnn⟩ : ∃ n, Hid (L.length = n) := ⟨_, Lib.hid rfl⟩
  rw [hnn.out] at hn ⊢
  rw [hgm.out]
  clear hat hsz h1 hw1
  go_enter Try.func14, Try.ntmps14
  go_wp2_with fail
  go_loopw [17] (fun s17 wi => ∃ i : Nat, s17 = .int .i64 (i : Int) ∧ i ≤ n ∧ w = wi) (fun s17 _ => n - (intOf s17).toNat)
  case atStart => exact ⟨0, rfl, by omega, rfl⟩
  case round =>
    obtain ⟨i, rfl, hi, rfl⟩ := hrel
    by_cases hlt : i < n
    · as_aux_lemma =>
      have hli : (i : Int) < (n : Int) := by omega
      have hil : i < L.length := by rw [hnn.out]; exact hlt
      obtain ⟨g, o, rfl, hg, hc⟩ := HAT.out (by omega)
      have c0 := hc i hil
      have CI := Lib.hid (isImage_any L[i] w)
      rw [decide_eq_true (HSZ.out _ (List.getElem_mem hil))] at CI
      clear hc
      generalize L[i] = s at *
      go_wp2_with fail
      refine CI.out.mono ?_
      rintro e w' ⟨rfl, rfl⟩
      clear CI
      go_wp2_with fail
      go_roundw
      case rel => exact ⟨i + 1, by go_num, by omega, trivial⟩
      case measure => simp [intOf]; omega
    · as_aux_lemma =>
      have hli : ¬ (i : Int) < (n : Int) := by omega
      clear hlt hi
      go_upto_region 9 with fail
      rw [HW1.out, hgm.out]
      clear HW1 hmm
      go_wp2_with fail
      go_loopw [6, 28] (fun s6 s28 wi => ∃ (d : Nat) (N : List Nb) (M : List Mi), s28 = .int .i64 (d : Int) ∧ d ≤ n ∧ (∃ a c, s6 = .slice a N.length c) ∧ N.length ≤ 288 * d ∧ Hid (FrW wi gm s6 N M) ∧ Hid (frAll L [] = frAll (L.drop d) N) ∧ Hid (Below gm w wi) ∧ gm + 1 ≤ wi.heap.size) (fun _ s28 _ => n - (intOf s28).toNat)
      case atStart => exact ⟨0, [], [], rfl, by omega, ⟨_, _, rfl⟩, by simp, HS1, Lib.hid rfl, HB1, hs1⟩
      case round =>
        obtain ⟨d, N, M, rfl, hd, ⟨a6, c6, rfl⟩, hNl, HS, HA, HB, hsw⟩ := hrel
        clear HS1 HB1 hs1 hli
        by_cases hlt : d < n
        · as_aux_lemma =>
          have hli : (d : Int) < (n : Int) := by omega
          have hil : d < L.length := by rw [hnn.out]; exact hlt
          obtain ⟨g, o, rfl, hg, hc⟩ := HAT.out (by omega)
          rw [hgm.out] at hg
          have c0 := (HB.out.cell (p := ⟨g, o + d, none⟩) hg).trans (hc d hil)
          have HA2 := Lib.hid (all_step hil HA.out)
          have hs := HSZ.out _ (List.getElem_mem hil)
          clear hc HA
          generalize L[d] = s at *
          have CK := Lib.hid (looker_any s wr)
          have hrowlt : ∀ j, (Value.slice a6 N.length c6).ownBlock = some j → j < wr.heap.size := fun j e => (HS.out.row.lt j e).2
          go_wp2_with fail
          refine CK.out.mono ?_
          rintro e w2 ⟨b1, b2, rfl, hl, hb2⟩
          have HL2 := Lib.hid hl
          have HS2 := Lib.hid (HS.out.below hb2)
          have HB2 := Lib.hid (HB.out.trans (hb2.mono (by omega)))
          have hs2 := Nat.le_trans hsw hb2.size
          obtain ⟨D, hD⟩ : ∃ D, Hid (wr.heap.size = D) := ⟨_, Lib.hid rfl⟩
          obtain ⟨El, hEl⟩ : ∃ El, Hid (w2.heap.size = El) := ⟨_, Lib.hid rfl⟩
          rw [hD.out] at HL2 hrowlt
          have hb1D := HL2.out.1
          have hb2D := HL2.out.2.1
          have hb1E : b1 < El := by rw [← hEl.out]; exact HL2.out.2.2.1
          have hb2E : b2 < El := by rw [← hEl.out]; exact HL2.out.2.2.2.1
          have hgD : gm + 1 ≤ D := by rw [← hD.out]; exact hsw
          have hE2 : El ≤ w2.heap.size := by rw [hEl.out]; exact Nat.le_refl _
          clear CK hl hb2 HS HB hsw c0
          go_wp2_with fail
          go_loopw [6, 34] (fun s6 s34 wi => ∃ (i : Nat) (N' : List Nb) (M' : List Mi), s34 = .int .i64 (i : Int) ∧ i ≤ 288 ∧ (∃ a c, s6 = .slice a N'.length c) ∧ N'.length ≤ 288 * d + i ∧ Hid (FrW wi gm s6 N' M') ∧ Hid (frImg s i N = some N') ∧ Hid (LkAt wi D b1 b2 s) ∧ Hid (∀ j, s6.ownBlock = some j → j < D ∨ El ≤ j) ∧ Hid (Below gm w wi) ∧ El ≤ wi.heap.size) (fun _ s34 _ => 288 - (intOf s34).toNat)
          case atStart => exact ⟨0, N, M, rfl, by omega, ⟨_, _, rfl⟩, by omega, HS2, Lib.hid rfl, HL2, Lib.hid (fun j e => Or.inl (hrowlt j e)), HB2, hE2⟩
          case round =>
            obtain ⟨i, N', M', rfl, hi, ⟨a7, c7, rfl⟩, hNl', HS', HI, HL, HRB, HB', hEw⟩ := hrel
            by_cases hlt2 : i < 288
            · as_aux_lemma =>
              have hli2 : (i : Int) < 288 := by omega
              have hstep : frImg s (i + 1) N = frS N' (numV s i) (blkP s i) := by rw [frImg_succ, HI.out, Option.bind_some]
              have HSTEP := Lib.hid hstep
              have hvb := numV_bd s i
              have CL := Lib.hid (look1_any s i D b1 b2 wr hs hlt2 HL.out)
              unfold seenA at CL
              have CB := Lib.hid (fun w' => block_any s i w' hs hlt2)
              have heg := look1_enter
              generalize whatK (i : Int) = K at *
              generalize whatI (i : Int) = I at *
              generalize zerV s i = Z at *
              obtain ⟨v, hv⟩ : ∃ v, numV s i = v := ⟨_, rfl⟩
              rw [hv] at CL HSTEP hvb
              obtain ⟨b, hb⟩ : ∃ b, blkP s i = b := ⟨_, rfl⟩
              rw [hb] at HSTEP CB
              have hfld := field_num K I v Z
              clear hstep hv hb
              go_wp2_with fail
              refine CL.out.mono ?_
              rintro e w3 ⟨rfl, hb3⟩
              have HS3 := Lib.hid (HS'.out.below hb3)
              have HL3 := Lib.hid (HL.out.below hb3 HL.out.2.2.1 HL.out.2.2.2.1)
              have HB3 := Lib.hid (HB'.out.trans (hb3.mono (by omega)))
              have hE3 := Nat.le_trans hEw hb3.size
              clear CL hb3 HS' HL HB' hEw
              by_cases hv0 : v < 0
              · as_aux_lemma =>
                have HST : Hid (frImg s (i + 1) N = some N') := Lib.hid (by rw [HSTEP.out]; unfold frS; rw [if_pos hv0])
                go_wp2_with fail
                go_roundw
                case rel => exact ⟨i + 1, N', M', by go_num, by omega, ⟨_, _, rfl⟩, by omega, HS3, HST, HL3, HRB, HB3, hE3⟩
                case measure => simp [intOf]; omega
              · as_aux_lemma =>
                have hInI : InI v := by unfold InI; omega
                have HK := Lib.hid (key_of hInI)
                have HZ := Lib.hid zero_intV
                have HM := Lib.hid HS3.out.map
                have hat9 := mapI_at M' v (encI (0, 0))
                have hhas9 := mapI_has M' v
                rw [anyI_find] at hhas9
                have hfd := HS3.out.inv.at_ v
                cases hix : idxN N' v with
                | some k =>
                  as_aux_lemma =>
                  rw [hix] at hfd
                  have hfd : findI M' v = some (v, (k : Int)) := hfd
                  rw [hfd] at hat9 hhas9
                  have HA9 : Hid ((mapI M').atKey (keyL v) (encI (0, 0)) = encI (v, (k : Int))) := Lib.hid hat9
                  have HH9 : Hid (Maps.has (mapI M') (keyL v) = true) := Lib.hid hhas9
                  obtain ⟨hk, hkv⟩ := idxN_some hix
                  have HF9 : Hid (frImg s (i + 1) N = if N'[k].2 = b then some N' else none) := Lib.hid (by
                    rw [HSTEP.out]; unfold frS; rw [if_neg hv0, hix]
                    show (if (N'.getD k (0, ⟨#[]⟩)).2 = b then some N' else none) = _
                    rw [List.getD_eq_getElem?_getD, List.getElem?_eq_getElem hk]; rfl)
                  have hki : (k : Int) < (N'.length : Int) := by omega
                  have hk0 : (0 : Int) ≤ (k : Int) := by omega
                  rcases HS3.out.row.2 with ⟨e9, h0⟩ | ⟨rg, cap, cur, e9, _⟩
                  · omega
                  · injection e9 with e1 _ e3
                    subst e1 e3
                    have ck := HS3.out.row.cells (g := rg) rfl k (.string N'[k].2) (by unfold strC; rw [List.getElem?_map, List.getElem?_eq_getElem hk]; rfl)
                    rw [Addr.add_lit, Nat.zero_add] at ck
                    clear hfd hat9 hhas9 hix hkv HSTEP
                    generalize N'[k].2 = t at *
                    go_upto_region 19 with (at_lookup; refine wpList_lookup_own_ok _ rfl _ _ 59 rfl 3 3 intK Try.underlying59 miR (HZ.out _) (encI (0, 0)) [] rfl gm M'.length (mapI M') rfl HM.out _ (keyL v) rfl HK.out ?_; intro u ps hu; rw [HA9.out] at hu; obtain ⟨x, rfl, hx⟩ := miR_inv hu; injection hx with hx _; unfold encI at hx; injection hx with hx; injection hx with _ hx; have hx : (k : Int) = x := hx; subst hx; rw [HH9.out]; clear hu)
                    refine wp_region_lin (S := (fun w' => w'.cell? ⟨rg, k, none⟩ = some (.string t))) [(0, true), (1, true), (2, true), (3, true), (4, true), (5, true), (6, true), (7, true), (8, false), (9, true), (10, true)] (by kernel_rfl) (by kernel_rfl) rfl (by kernel_rfl) ?_ (fun hHeld => ?_)
                    · (try dsimp only); exact ck
                    refine wpL_calm (o := { dst := some 49, op := Go.Op.move (Go.Operand.tmp 14), type := 4, pos := "view.go:94", after := #[], guard := none }) (v := ?_) rfl (Or.inl ⟨by rfl, ?_⟩) ?_; rotate_left; (focus (intro w hSw; (try dsimp only at hSw); go_simp; (try (with_reducible rfl)); done)); try simp only [Act.put, List.setIfInBounds_toArray, List.set_cons_zero, List.set_cons_succ]
                    refine wpL_calm (o := { dst := some 50, op := Go.Op.move (Go.Operand.tmp 49), type := 4, pos := "view.go:94", after := #[{ on := 0, ground := Go.Ground.data }], guard := none }) (v := ?_) rfl (Or.inl ⟨by rfl, ?_⟩) ?_; rotate_left; (focus (intro w hSw; (try dsimp only at hSw); go_simp; (try (with_reducible rfl)); done)); try simp only [Act.put, List.setIfInBounds_toArray, List.set_cons_zero, List.set_cons_succ]
                    refine wpL_calm (o := { dst := some 51, op := Go.Op.move (Go.Operand.tmp 6), type := 48, pos := "view.go:94", after := #[{ on := 1, ground := Go.Ground.guard }], guard := some (1, true) }) (v := ?_) rfl (Or.inl ⟨by rfl, ?_⟩) ?_; rotate_left; (focus (intro w hSw; (try dsimp only at hSw); go_simp; (try (with_reducible rfl)); done)); try simp only [Act.put, List.setIfInBounds_toArray, List.set_cons_zero, List.set_cons_succ]
                    refine wpL_calm (o := { dst := some 52, op := Go.Op.move (Go.Operand.tmp 13), type := 3, pos := "view.go:94", after := #[{ on := 1, ground := Go.Ground.guard }], guard := some (1, true) }) (v := ?_) rfl (Or.inl ⟨by rfl, ?_⟩) ?_; rotate_left; (focus (intro w hSw; (try dsimp only at hSw); go_simp; (try (with_reducible rfl)); done)); try simp only [Act.put, List.setIfInBounds_toArray, List.set_cons_zero, List.set_cons_succ]
                    refine wpL_calm (o := { dst := some 53, op := Go.Op.indexAddr 48 (Go.Operand.tmp 51) (Go.Operand.tmp 52), type := 0, pos := "view.go:94", after := #[{ on := 2, ground := Go.Ground.data }, { on := 3, ground := Go.Ground.data }, { on := 1, ground := Go.Ground.guard }], guard := some (1, true) }) (v := ?_) rfl (Or.inl ⟨by rfl, ?_⟩) ?_; rotate_left; (focus (intro w hSw; (try dsimp only at hSw); go_simp; (try (with_reducible rfl)); done)); try simp only [Act.put, List.setIfInBounds_toArray, List.set_cons_zero, List.set_cons_succ]
                    refine wpL_calm (o := { dst := some 54, op := Go.Op.load 9 (Go.Operand.tmp 53), type := 9, pos := "view.go:94", after := #[{ on := 4, ground := Go.Ground.data }, { on := 1, ground := Go.Ground.guard }], guard := some (1, true) }) (v := ?_) rfl (Or.inl ⟨by rfl, ?_⟩) ?_; rotate_left; (focus (intro w hSw; (try dsimp only at hSw); go_simp; (try (with_reducible rfl)); done)); try simp only [Act.put, List.setIfInBounds_toArray, List.set_cons_zero, List.set_cons_succ]
                    refine wpL_calm (o := { dst := some 55, op := Go.Op.move (Go.Operand.tmp 9), type := 9, pos := "view.go:94", after := #[{ on := 1, ground := Go.Ground.guard }], guard := some (1, true) }) (v := ?_) rfl (Or.inl ⟨by rfl, ?_⟩) ?_; rotate_left; (focus (intro w hSw; (try dsimp only at hSw); go_simp; (try (with_reducible rfl)); done)); try simp only [Act.put, List.setIfInBounds_toArray, List.set_cons_zero, List.set_cons_succ]
                    refine wpL_calm (o := { dst := some 56, op := Go.Op.move (Go.Operand.tmp 11), type := 3, pos := "view.go:94", after := #[{ on := 1, ground := Go.Ground.guard }], guard := some (1, true) }) (v := ?_) rfl (Or.inl ⟨by rfl, ?_⟩) ?_; rotate_left; (focus (intro w hSw; (try dsimp only at hSw); go_simp; (try (with_reducible rfl)); done)); try simp only [Act.put, List.setIfInBounds_toArray, List.set_cons_zero, List.set_cons_succ]
                    refine wpL_loud1 (o := { dst := some 57, op := Go.Op.call { callee := Go.Callee.value (Go.Operand.func 20), args := #[Go.Operand.tmp 55, Go.Operand.tmp 56], argTypes := #[9, 3] }, type := 9, pos := "view.go:94", after := #[{ on := 6, ground := Go.Ground.data }, { on := 7, ground := Go.Ground.data }, { on := 1, ground := Go.Ground.chain }, { on := 1, ground := Go.Ground.guard }], guard := some (1, true) }) rfl (fun K hK => ?_)
                    (go_simp; go_at_call 20; refine (CB.out _).mono ?_; rintro e w4 ⟨rfl, rfl⟩)
                    try go_wp2_with fail
                    refine hK.out _ _ ?_ (fun hHeld => ?_)
                    · (try dsimp only); exact hHeld
                    clear hK K
                    try simp only [Act.put, List.setIfInBounds_toArray, List.set_cons_zero, List.set_cons_succ]
                    refine wpL_calm (o := { dst := some 58, op := Go.Op.binOp Go.BinOp.neq 9 (Go.Operand.tmp 54) (Go.Operand.tmp 57) 9, type := 4, pos := "view.go:94", after := #[{ on := 5, ground := Go.Ground.data }, { on := 8, ground := Go.Ground.data }, { on := 1, ground := Go.Ground.guard }], guard := some (1, true) }) (v := ?_) rfl (Or.inl ⟨by rfl, ?_⟩) ?_; rotate_left; (focus (intro w hSw; (try dsimp only at hSw); go_simp; (try (with_reducible rfl)); done)); try simp only [Act.put, List.setIfInBounds_toArray, List.set_cons_zero, List.set_cons_succ]
                    refine wpL_calm (o := { dst := some 59, op := Go.Op.pick (Go.Operand.tmp 50) (Go.Operand.tmp 58) (Go.Operand.const (Go.Value.bool false)), type := 4, pos := "view.go:94", after := #[{ on := 1, ground := Go.Ground.data }, { on := 9, ground := Go.Ground.data }], guard := none }) (v := ?_) rfl (Or.inl ⟨by rfl, ?_⟩) ?_; rotate_left; (focus (intro w hSw; (try dsimp only at hSw); go_simp; (try (with_reducible rfl)); done)); try simp only [Act.put, List.setIfInBounds_toArray, List.set_cons_zero, List.set_cons_succ]
                    refine wpL_nil ?_
                    refine NoPanic.normal ?_
                    have HS4 : Hid (FrW w3.drew gm (.slice (some ⟨rg, 0, none⟩) N'.length c7) N' M') := Lib.hid (HS3.out.below (Below.refl _ _).drew)
                    have HL4 : Hid (LkAt w3.drew D b1 b2 s) := Lib.hid (HL3.out.below (Below.refl w3.heap.size _).drew HL3.out.2.2.1 HL3.out.2.2.2.1)
                    have HB4 := Lib.hid HB3.out.drew
                    have hE4 : El ≤ w3.drew.heap.size := hE3
                    clear HS3 HL3 HB3 hE3 ck hHeld HM
                    generalize w3.drew = w4 at *
                    by_cases htb : t = b
                    · as_aux_lemma =>
                      have HST : Hid (frImg s (i + 1) N = some N') := Lib.hid (by rw [HF9.out, if_pos htb])
                      have hbb : (!(t.toList == b.toList)) = false := by rw [htb]; simp
                      rw [hbb]
                      go_wp2_with fail
                      go_roundw
                      case rel => exact ⟨i + 1, N', M', by go_num, by omega, ⟨_, _, rfl⟩, by omega, HS4, HST, HL4, HRB, HB4, hE4⟩
                      case measure => simp [intOf]; omega
                    · as_aux_lemma =>
                      have hnone : frAll L [] = none := by
                        have h9 := frImg_none (s := s) (N := N) (i := i + 1) (by rw [HF9.out, if_neg htb]) (288 - (i + 1))
                        rw [show i + 1 + (288 - (i + 1)) = 288 by omega] at h9
                        rw [HA2.out, h9]; rfl
                      obtain ⟨r1, r2⟩ := fre_none hnone
                      have hq : (t.toList == b.toList) = false := by
                        cases h : (t.toList == b.toList)
                        · rfl
                        · exact absurd (toList_eq33 h) htb
                      have hbb : (!(t.toList == b.toList)) = true := by rw [hq]; rfl
                      rw [hbb]
                      go_wp2_with fail
                      go_ret2
                      unfold FreR
                      rw [r1, r2]
                      exact ⟨rfl, HB4.out⟩
                | none =>
                  as_aux_lemma =>
                  rw [hix] at hfd
                  have hfd : findI M' v = none := hfd
                  rw [hfd] at hat9 hhas9
                  have HA9 : Hid ((mapI M').atKey (keyL v) (encI (0, 0)) = encI (v, 0)) := Lib.hid hat9
                  have HH9 : Hid (Maps.has (mapI M') (keyL v) = false) := Lib.hid hhas9
                  have HST : Hid (frImg s (i + 1) N = some (N' ++ [(v, b)])) := Lib.hid (by rw [HSTEP.out]; unfold frS; rw [if_neg hv0, hix])
                  have HINV := Lib.hid (HS3.out.inv.add (b := b) hInI hix)
                  have hml : M'.length = N'.length := HS3.out.inv.len
                  have hnl : M'.length < maxLen := by unfold maxLen; omega
                  have HR : Hid (miR (.int .i64 (N'.length : Int)) = some (encI (v, (N'.length : Int)), [])) := Lib.hid rfl
                  have hrow := HS3.out.row
                  clear hfd hat9 hhas9 hix HSTEP
                  go_upto_region 19 with (at_lookup; refine wpList_lookup_own_ok _ rfl _ _ 59 rfl 3 3 intK Try.underlying59 miR (HZ.out _) (encI (0, 0)) [] rfl gm M'.length (mapI M') rfl HM.out _ (keyL v) rfl HK.out ?_; intro u ps hu; rw [HA9.out] at hu; obtain ⟨x, rfl, hx⟩ := miR_inv hu; injection hx with hx _; unfold encI at hx; injection hx with hx; injection hx with _ hx; have hx : (0 : Int) = x := hx; subst hx; rw [HH9.out]; clear hu)
                  refine wp_region_lin (S := (fun _ => True)) [(0, true), (1, true), (2, true), (3, true), (4, true), (5, true), (6, true), (7, true), (8, false), (9, true), (10, true)] (by kernel_rfl) (by kernel_rfl) rfl (by kernel_rfl) ?_ (fun hHeld => ?_)
                  · (try dsimp only); try exact trivial
                  refine wpL_calm (o := { dst := some 49, op := Go.Op.move (Go.Operand.tmp 14), type := 4, pos := "view.go:94", after := #[], guard := none }) (v := ?_) rfl (Or.inl ⟨by rfl, ?_⟩) ?_; rotate_left; (focus (intro w hSw; (try dsimp only at hSw); go_simp; (try (with_reducible rfl)); done)); try simp only [Act.put, List.setIfInBounds_toArray, List.set_cons_zero, List.set_cons_succ]
                  refine wpL_calm (o := { dst := some 50, op := Go.Op.move (Go.Operand.tmp 49), type := 4, pos := "view.go:94", after := #[{ on := 0, ground := Go.Ground.data }], guard := none }) (v := ?_) rfl (Or.inl ⟨by rfl, ?_⟩) ?_; rotate_left; (focus (intro w hSw; (try dsimp only at hSw); go_simp; (try (with_reducible rfl)); done)); try simp only [Act.put, List.setIfInBounds_toArray, List.set_cons_zero, List.set_cons_succ]
                  refine wpL_calm (o := { dst := some 51, op := Go.Op.move (Go.Operand.tmp 6), type := 48, pos := "view.go:94", after := #[{ on := 1, ground := Go.Ground.guard }], guard := some (1, true) }) (v := undef) rfl (Or.inr ⟨by rfl, rfl⟩) ?_; try simp only [Act.put, List.setIfInBounds_toArray, List.set_cons_zero, List.set_cons_succ]
                  refine wpL_calm (o := { dst := some 52, op := Go.Op.move (Go.Operand.tmp 13), type := 3, pos := "view.go:94", after := #[{ on := 1, ground := Go.Ground.guard }], guard := some (1, true) }) (v := undef) rfl (Or.inr ⟨by rfl, rfl⟩) ?_; try simp only [Act.put, List.setIfInBounds_toArray, List.set_cons_zero, List.set_cons_succ]
                  refine wpL_calm (o := { dst := some 53, op := Go.Op.indexAddr 48 (Go.Operand.tmp 51) (Go.Operand.tmp 52), type := 0, pos := "view.go:94", after := #[{ on := 2, ground := Go.Ground.data }, { on := 3, ground := Go.Ground.data }, { on := 1, ground := Go.Ground.guard }], guard := some (1, true) }) (v := undef) rfl (Or.inr ⟨by rfl, rfl⟩) ?_; try simp only [Act.put, List.setIfInBounds_toArray, List.set_cons_zero, List.set_cons_succ]
                  refine wpL_calm (o := { dst := some 54, op := Go.Op.load 9 (Go.Operand.tmp 53), type := 9, pos := "view.go:94", after := #[{ on := 4, ground := Go.Ground.data }, { on := 1, ground := Go.Ground.guard }], guard := some (1, true) }) (v := undef) rfl (Or.inr ⟨by rfl, rfl⟩) ?_; try simp only [Act.put, List.setIfInBounds_toArray, List.set_cons_zero, List.set_cons_succ]
                  refine wpL_calm (o := { dst := some 55, op := Go.Op.move (Go.Operand.tmp 9), type := 9, pos := "view.go:94", after := #[{ on := 1, ground := Go.Ground.guard }], guard := some (1, true) }) (v := undef) rfl (Or.inr ⟨by rfl, rfl⟩) ?_; try simp only [Act.put, List.setIfInBounds_toArray, List.set_cons_zero, List.set_cons_succ]
                  refine wpL_calm (o := { dst := some 56, op := Go.Op.move (Go.Operand.tmp 11), type := 3, pos := "view.go:94", after := #[{ on := 1, ground := Go.Ground.guard }], guard := some (1, true) }) (v := undef) rfl (Or.inr ⟨by rfl, rfl⟩) ?_; try simp only [Act.put, List.setIfInBounds_toArray, List.set_cons_zero, List.set_cons_succ]
                  refine wpL_loud1 (o := { dst := some 57, op := Go.Op.call { callee := Go.Callee.value (Go.Operand.func 20), args := #[Go.Operand.tmp 55, Go.Operand.tmp 56], argTypes := #[9, 3] }, type := 9, pos := "view.go:94", after := #[{ on := 6, ground := Go.Ground.data }, { on := 7, ground := Go.Ground.data }, { on := 1, ground := Go.Ground.chain }, { on := 1, ground := Go.Ground.guard }], guard := some (1, true) }) rfl (fun K hK => ?_)
                  go_simp
                  try go_wp2_with fail
                  refine hK.out _ _ ?_ (fun hHeld => ?_)
                  · (try dsimp only); try trivial
                  clear hK K
                  try simp only [Act.put, List.setIfInBounds_toArray, List.set_cons_zero, List.set_cons_succ]
                  refine wpL_calm (o := { dst := some 58, op := Go.Op.binOp Go.BinOp.neq 9 (Go.Operand.tmp 54) (Go.Operand.tmp 57) 9, type := 4, pos := "view.go:94", after := #[{ on := 5, ground := Go.Ground.data }, { on := 8, ground := Go.Ground.data }, { on := 1, ground := Go.Ground.guard }], guard := some (1, true) }) (v := undef) rfl (Or.inr ⟨by rfl, rfl⟩) ?_; try simp only [Act.put, List.setIfInBounds_toArray, List.set_cons_zero, List.set_cons_succ]
                  refine wpL_calm (o := { dst := some 59, op := Go.Op.pick (Go.Operand.tmp 50) (Go.Operand.tmp 58) (Go.Operand.const (Go.Value.bool false)), type := 4, pos := "view.go:94", after := #[{ on := 1, ground := Go.Ground.data }, { on := 9, ground := Go.Ground.data }], guard := none }) (v := ?_) rfl (Or.inl ⟨by rfl, ?_⟩) ?_; rotate_left; (focus (intro w hSw; (try dsimp only at hSw); go_simp; (try (with_reducible rfl)); done)); try simp only [Act.put, List.setIfInBounds_toArray, List.set_cons_zero, List.set_cons_succ]
                  refine wpL_nil ?_
                  refine NoPanic.normal ?_
                  have HS4 : Hid (FrW w3.drew gm (.slice a7 N'.length c7) N' M') := Lib.hid (HS3.out.below (Below.refl _ _).drew)
                  have HL4 : Hid (LkAt w3.drew D b1 b2 s) := Lib.hid (HL3.out.below (Below.refl w3.heap.size _).drew HL3.out.2.2.1 HL3.out.2.2.2.1)
                  have HB4 := Lib.hid HB3.out.drew
                  have hE4 : El ≤ w3.drew.heap.size := hE3
                  clear HS3 HL3 HB3 hE3 hHeld HM hrow
                  generalize w3.drew = w4 at *
                  have HM := Lib.hid HS4.out.map
                  have hgm4 := HS4.out.map.lt
                  go_wp2_with (at_mapUpdate; refine wpList_mapUpdate_own _ rfl _ _ _ 59 rfl 3 3 intK Try.underlying59 miR gm M'.length (mapI M') rfl HM.out hnl _ _ (keyL v) rfl rfl HK.out (encI (v, (N'.length : Int))) [] HR.out ?_; intro w5 hown5 hg5)
                  have HM5 : Hid (MiAt w5 gm (setI M' (v, (N'.length : Int)))) := Lib.hid (MiAt.of (by rw [← mapI_put M' (v, (N'.length : Int))]; exact hown5))
                  have HR5 : Hid (w5.ownsRow (gm + 1) 9 1 (.slice a7 N'.length c7) N'.length (strC N')) := Lib.hid (HS4.out.row.kept hg5 (Or.inr (fun e => by have := (HS4.out.row.lt gm e).1; omega)))
                  have HL5 : Hid (LkAt w5 D b1 b2 s) := Lib.hid (HL4.out.same (hg5.block b1 HL4.out.2.2.1 (fun e => by injection e with e; omega)) (hg5.block b2 HL4.out.2.2.2.1 (fun e => by injection e with e; omega)) hg5.size)
                  have HB5 := Lib.hid (HB4.out.grown hg5 (by omega) (fun j e => by injection e with e; omega))
                  have hE5 := Nat.le_trans hE4 hg5.size
                  have hgm5 := Nat.lt_of_lt_of_le hgm4 hg5.size
                  clear hown5 hg5 HM HS4 HL4 HB4 hE4 hgm4
                  refine (CB.out w5).mono ?_
                  rintro e w6 ⟨rfl, rfl⟩
                  have hsrc := src_one (w := w5) b
                  have o1 : N'.length + 1 ≤ maxLen := by unfold maxLen; omega
                  have o2 : (N'.length + 1) * 16 ≤ 140737488355328 := by omega
                  have o3 : gm + 1 ≤ (w5.alloc (.cells #[.string b] 9)).heap.size := by simp; omega
                  go_wp2_with (at_builtin; refine wpList_append_src2 _ rfl _ _ 48 48 rfl (gm + 1) 9 i1 (.string ⟨#[]⟩) 1 16 Try.underlying48 hi1 hy0 hy1 hy2 rfl (by decide) _ N'.length (strC N') rfl (HR5.out.alloc _) _ 1 [.string b] rfl hsrc o1 o2 o3 ?_)
                  intro v' w6 hown6 hg6 hloc
                  have ba : Below w5.heap.size w5 (w5.alloc (.cells #[.string b] 9)) := (Below.refl _ _).alloc (Nat.le_refl _) _
                  have hnb : ∀ x, D ≤ x → x < El → some x ≠ (Value.slice a7 N'.length c7).ownBlock := fun x h1 h2 e => by
                    rcases HRB.out x e.symm with h | h
                    · omega
                    · omega
                  have hng : some gm ≠ (Value.slice a7 N'.length c7).ownBlock := fun e => by have := (HR5.out.lt gm e.symm).1; omega
                  have HM6 := Lib.hid (HM5.out.block ((hg6.block gm (by simp; omega) hng).trans (ba.block gm hgm5)))
                  have HS6 : Hid (FrW w6 gm v' (N' ++ [(v, b)]) (setI M' (v, (N'.length : Int)))) := Lib.hid ⟨HM6.out, by rw [List.length_append]; unfold strC at hown6 ⊢; rw [List.map_append]; exact hown6, HINV.out⟩
                  have HL6 : Hid (LkAt w6 D b1 b2 s) := Lib.hid (HL5.out.same ((hg6.block b1 (by have := HL5.out.2.2.1; simp; omega) (hnb b1 hb1D hb1E)).trans (ba.block b1 HL5.out.2.2.1)) ((hg6.block b2 (by have := HL5.out.2.2.2.1; simp; omega) (hnb b2 hb2D hb2E)).trans (ba.block b2 HL5.out.2.2.2.1)) (Nat.le_trans ba.size hg6.size))
                  have HB6 := Lib.hid ((HB5.out.trans (ba.mono (by omega))).grown hg6 (by simp; omega) (fun j e => by have := (HR5.out.lt j e).1; omega))
                  have HRB6 : Hid (∀ j, v'.ownBlock = some j → j < D ∨ El ≤ j) := Lib.hid (fun j e => by
                    rcases hloc with h | h
                    · exact HRB.out j (by rw [← h]; exact e)
                    · rw [h] at e
                      injection e with e
                      right
                      rw [← e]
                      first | omega | (simp; omega))
                  have hE6 : El ≤ w6.heap.size := Nat.le_trans hE5 (Nat.le_trans ba.size hg6.size)
                  obtain ⟨a', c', rfl⟩ := own_sl33 HS6.out.row
                  clear hown6 hg6 hloc ba hnb hng HM6 HM5 HR5 HL5 HB5 hE5 hsrc o1 o2 o3
                  go_wp2_with fail
                  go_roundw
                  case rel => exact ⟨i + 1, N' ++ [(v, b)], _, by go_num, by omega, ⟨_, _, rfl⟩, by simp; omega, HS6, HST, HL6, HRB6, HB6, hE6⟩
                  case measure => simp [intOf]; omega
            · as_aux_lemma =>
              have hli2 : ¬ (i : Int) < 288 := by omega
              obtain rfl : i = 288 := by omega
              have HA3 : Hid (frAll L [] = frAll (L.drop (d + 1)) N') := Lib.hid (by rw [HA2.out, HI.out]; rfl)
              go_wp2_with fail
              go_roundw
              case rel => exact ⟨d + 1, N', M', by go_num, by omega, ⟨_, _, rfl⟩, by omega, HS', HA3, HB', by omega⟩
              case measure => simp [intOf]; omega
        · as_aux_lemma =>
          have hli : ¬ (d : Int) < (n : Int) := by omega
          have hfin : frAll L [] = some N := by rw [HA.out, List.drop_eq_nil_of_le (by rw [hnn.out]; omega)]; rfl
          obtain ⟨r1, r2⟩ := fre_some hfin
          have hml : M.length = N.length := HS.out.inv.len
          have HMM := Lib.hid HS.out.map
          have HSI := Lib.hid (mapI_size M)
          go_wp2_with (at_len; refine wpList_len_own _ rfl _ 59 rfl 3 3 Try.underlying59 miR gm M.length (mapI M) rfl HMM.out ?_)
          go_ret2
          unfold FreR
          rw [r1, r2]
          exact ⟨by first | (rw [HSI.out, hml]; rfl) | (simp [HSI.out, hml]), HB.out⟩
end Go.Proofs.Ytapmnacggpcffaa
