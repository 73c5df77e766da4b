/- The reference of flat: Write. -/
import Derived.Test.YtaemnelfnopjdaaFcF
import Derived.Test.YtaemnelfnopjdaaFbB
namespace Go.Proofs.Ytaemnelfnopjdaa
open Go.RowKit Go.Deep Go.Maps Go.ChangeShapes Go.WideShapes
set_option linter.unusedVariables false
set_option linter.unusedSimpArgs false
/-- A text with a piece replaced. -/
def putT (A kk : Nat) (s : List UInt8) (x : List UInt8) : List UInt8 := x.take (48 * A) ++ (s ++ x.drop (48 * A + 48 * kk))
theorem RfW.lastC2 {w : World} {B g n gc cap : Nat} {cs : List RC} (h : RfW w B g n cs gc cap) {i : Nat} (hi : i < cs.length) (hL : cs[i].L.length ≤ 1000000) : ∃ ll bb cc, w.cell? ⟨gc, i, none⟩ = some (.slice (some ⟨bb, 0, none⟩) (ll + 1) cc) ∧ Calls Try.prog 44 #[.agg #[.slice (some ⟨bb, 0, none⟩) (ll + 1) cc]] w (fun e w' => e = .returned (.string ⟨(lastT cs[i]).toArray⟩) ∧ Below w.heap.size w w') ∧ bb = cs[i].b ∧ ll + 1 = cs[i].L.length := by
  have hc := h.cell i hi
  obtain ⟨ht, hcp, hn0, _⟩ := h.row _ (List.getElem_mem hi)
  generalize cs[i] = c at *
  unfold rcV at hc
  obtain ⟨L', x, hLx⟩ : ∃ L' x, c.L = L' ++ [x] := ⟨c.L.dropLast, c.L.getLast hn0, (List.dropLast_concat_getLast hn0).symm⟩
  have hlast : lastT c = x := by unfold lastT; rw [hLx]; simp
  have hlen : (L' ++ [x]).length = L'.length + 1 := by simp
  rw [hLx] at ht hcp hL hc
  rw [hlen] at hcp hL hc
  rw [hlast]
  exact ⟨_, _, _, hc, rlast_any c.cap ht (by omega) hcp, rfl, by rw [hLx, hlen]⟩
theorem TxR.of_range {w : World} {b : Nat} {L : List (List UInt8)} (hb : b < w.heap.size) (h : w.rangeAt b 0 (strF L)) : TxR w b L :=
  ⟨hb, fun i hi => by
    have := h i (.string ⟨(L[i]).toArray⟩) (by unfold strF; rw [List.getElem?_map, List.getElem?_eq_getElem hi]; rfl)
    rwa [Nat.zero_add] at this⟩
set_option maxRecDepth 100000 in
set_option maxHeartbeats 8000000 in
theorem rwrite_any {w : World} {B g n gc cap : Nat} {cs : List RC} (A kk : Nat) (s : ByteArray) (h : RfW w B g n cs gc cap) (hB : B ≤ w.heap.size) (hne : cs ≠ []) (hl : cs.length ≤ 1000000) (hL : ∀ c ∈ cs, c.L.length ≤ 1000000) (hsz : ∀ c ∈ cs, (lastT c).length ≤ 10000 ∧ 48 * A + s.size ≤ (lastT c).length) (hs : s.size = 48 * kk) (hA : A ≤ 64) : Calls Try.prog 25 #[.pointer (some ⟨g, 0, none⟩), .int .i64 (A : Int), .string s] w fun e w' => e = .returned (.tuple #[]) ∧ ∃ new gc' cap', RfW w' B g n new gc' cap' ∧ new.map RC.L = cs.map (fun c => c.L ++ [putT A kk s.data.toList (lastT c)]) ∧ Kq B [g] w w' ∧ (∀ c ∈ new, w.heap.size ≤ c.b) ∧ w.heap.size ≤ gc' := by
  obtain ⟨ic, hic, cz0, cz1, cz2⟩ := info_partsF info_rc
  obtain ⟨is, his, sz0, sz1, sz2⟩ := info_partsF info_str'
  have H := Lib.hid h
  have HL := Lib.hid hL
  have hcap := h.cap
  obtain ⟨qa, hqa⟩ : ∃ qa, 48 * A = qa := ⟨_, rfl⟩
  have ea : (48 : Int) * (A : Int) = (qa : Int) := by omega
  obtain ⟨qb, hqb⟩ : ∃ qb, qa + s.size = qb := ⟨_, rfl⟩
  have eb : (qa : Int) + (s.size : Int) = (qb : Int) := by omega
  rw [hqa, hqb] at hsz
  have HSZ := Lib.hid hsz
  obtain ⟨m, hm⟩ : ∃ m, Hid (cs.length = m) := ⟨_, Lib.hid rfl⟩
  obtain ⟨B1, hB1⟩ : ∃ B1, Hid (w.heap.size = B1) := ⟨_, Lib.hid rfl⟩
  have c1 := cell_of_row w g 1 _ _ _ h.hg
  rw [hm.out] at hl hcap c1
  have hglt := h.lt
  have hqa1 : qa ≤ 3072 := by omega
  have HQ := Lib.hid (And.intro hqa (And.intro hqb hs))
  clear h hL hsz hqa hqb hs
  go_enter Try.func25, Try.ntmps25
  go_wp2_with fail
  go_loopw [6, 7] (fun s2 s3 wi => ∃ (i : Nat) (new : List RC) (vo : Option Addr) (co : Nat), s2 = .slice vo i co ∧ s3 = .int .i64 (i : Int) ∧ i ≤ m ∧ Hid (new.length = i) ∧ Hid (OutW wi B1 B1 (.slice vo i co) new) ∧ Hid (new.map RC.L = (cs.take i).map (fun c => c.L ++ [putT A kk s.data.toList (lastT c)])) ∧ Hid (Below w.heap.size w wi)) (fun _ s3 _ => m - (intOf s3).toNat)
  case atStart => exact ⟨0, [], none, 0, rfl, rfl, by omega, Lib.hid rfl, Lib.hid (OutW.nil _ _ _), Lib.hid rfl, Lib.hid (Below.refl _ _)⟩
  case round =>
    obtain ⟨i, new, vo, co, rfl, rfl, hi, hnl, HO, HM, HW⟩ := hrel
    have c1 := (HW.out.cell (p := ⟨g, 1, none⟩) hglt).trans c1
    by_cases him : i < m
    · as_aux_lemma =>
      have hil : i < cs.length := by rw [hm.out]; exact him
      have hmem := List.getElem_mem hil
      obtain ⟨ll, bb, cc, hc, CLa, hbE, hlE⟩ := (H.out.below HW.out).lastC2 hil (HL.out _ hmem)
      obtain ⟨hz1, hz0⟩ := HSZ.out _ hmem
      have HROW := Lib.hid ((H.out.row _ hmem).1)
      have htk := Lib.hid (List.take_append_getElem hil)
      have hLl := HL.out _ hmem
      have HBE := Lib.hid (And.intro hbE hlE)
      have hll : ll + 1 ≤ 1000000 := by omega
      clear hbE hlE hLl
      obtain ⟨S, hS⟩ : ∃ S : ByteArray, Hid ((⟨(lastT cs[i]).toArray⟩ : ByteArray) = S) := ⟨_, Lib.hid rfl⟩
      have hSz : S.size = (lastT cs[i]).length := by rw [← hS.out, bytes_size]
      rw [hS.out] at CLa
      have CLi := Lib.hid CLa
      have hgcl : gc < wr.heap.size := (H.out.below HW.out).lc
      have l2 : (qb : Int) ≤ (S.size : Int) := by omega
      have l1 : (qa : Int) ≤ (S.size : Int) := by omega
      have wa : IntKind.i64.wrap (qa : Int) = (qa : Int) := by rw [IntKind.wrap_i64]; omega
      have wb : IntKind.i64.wrap (qb : Int) = (qb : Int) := by rw [IntKind.wrap_i64]; omega
      have l0 : (0 : Int) ≤ (qa : Int) := by omega
      have l3 : (0 : Int) ≤ (qb : Int) := by omega
      have hji : (i : Int) < (m : Int) := by omega
      obtain ⟨X1, hX1⟩ : ∃ X1, S.extract 0 qa = X1 := ⟨_, rfl⟩
      obtain ⟨X2, hX2⟩ : ∃ X2, S.extract qb S.size = X2 := ⟨_, rfl⟩
      have hx1 : X1.size = qa := by rw [← hX1, ByteArray.size_extract]; omega
      have hx2 : X2.size ≤ 10000 := by rw [← hX2, ByteArray.size_extract]; omega
      have hc1 : (9223372036854775807 < X1.size + s.size) = False := by simp; omega
      have hc2 : (9223372036854775807 < (X1 ++ s).size + X2.size) = False := by rw [ByteArray.size_append]; simp; omega
      have hc2' : (9223372036854775807 < X1.size + s.size + X2.size) = False := by simp; omega
      obtain ⟨NBT, hNBT⟩ : ∃ NBT, X1 ++ s ++ X2 = NBT := ⟨_, rfl⟩
      have hput : (⟨(putT A kk s.data.toList (lastT cs[i])).toArray⟩ : ByteArray) = NBT := by
        rw [← hNBT, ← hX1, ← hX2, ← hS.out]
        exact (cat_now (lastT cs[i]) s A kk qa qb HQ.out.1.symm (by rw [← HQ.out.2.1, HQ.out.2.2, ← HQ.out.1])).symm
      have HPUT := Lib.hid hput
      clear hSz hz0 hz1 CLa hx1 hx2 hput
      go_wp2_with fail
      refine CLi.out.mono ?_
      rintro e w1 ⟨rfl, b1⟩
      have HO1 := Lib.hid (HO.out.below b1)
      have HW1 := Lib.hid (HW.out.trans (b1.mono HW.out.size))
      have c1 := (b1.cell (p := ⟨g, 1, none⟩) (Nat.lt_of_lt_of_le hglt HW.out.size)).trans c1
      have hc := (b1.cell (p := ⟨gc, i, none⟩) hgcl).trans hc
      clear CLi b1
      go_upto_region 5 with fail
      refine wp_region_lin_all (S := (fun _ => True)) [(0, true), (1, true), (2, true), (3, true), (4, true), (5, true), (6, true), (7, true), (8, true), (9, true), (10, true), (11, true), (12, true), (13, true), (14, true)] (by kernel_rfl) (by kernel_rfl) rfl (by kernel_rfl) ?_ (fun hHeld => ?_)
      · (try dsimp only); try exact trivial
      (refine wpL_calm (o := { dst := some 26, op := Go.Op.move (Go.Operand.tmp 8), type := 9, pos := "ref.go:50", after := #[], guard := none }) (v := ?_) rfl (Or.inl ⟨by rfl, ?_⟩) ?_; rotate_left; (focus (intro w hSw; (try dsimp only at hSw); go_simp; (try (with_reducible rfl)); done)); try simp only [Act.put, List.setIfInBounds_toArray, List.set_cons_zero, List.set_cons_succ])
      (refine wpL_calm (o := { dst := some 27, op := Go.Op.move (Go.Operand.tmp 1), type := 3, pos := "ref.go:50", after := #[], guard := none }) (v := ?_) rfl (Or.inl ⟨by rfl, ?_⟩) ?_; rotate_left; (focus (intro w hSw; (try dsimp only at hSw); go_simp; (try (with_reducible rfl)); done)); try simp only [Act.put, List.setIfInBounds_toArray, List.set_cons_zero, List.set_cons_succ])
      (refine wpL_calm (o := { dst := some 28, op := Go.Op.binOp Go.BinOp.mul 3 (Go.Operand.const (Go.Value.int Go.IntKind.i64 48)) (Go.Operand.tmp 27) 3, type := 3, pos := "ref.go:50", after := #[{ on := 1, ground := Go.Ground.data }], guard := none }) (v := ?_) rfl (Or.inl ⟨by rfl, ?_⟩) ?_; rotate_left; (focus (intro w hSw; (try dsimp only at hSw); go_simp; (try (with_reducible rfl)); done)); try simp only [Act.put, List.setIfInBounds_toArray, List.set_cons_zero, List.set_cons_succ])
      (refine wpL_calm (o := { dst := some 29, op := Go.Op.slice 9 (Go.Operand.tmp 26) none (some (Go.Operand.tmp 28)) none, type := 9, pos := "ref.go:50", after := #[{ on := 0, ground := Go.Ground.data }, { on := 2, ground := Go.Ground.data }], guard := none }) (v := ?_) rfl (Or.inl ⟨by rfl, ?_⟩) ?_; rotate_left; (focus (intro w hSw; (try dsimp only at hSw); go_simp; (try (with_reducible rfl)); done)); try simp only [Act.put, List.setIfInBounds_toArray, List.set_cons_zero, List.set_cons_succ])
      (refine wpL_calm (o := { dst := some 30, op := Go.Op.move (Go.Operand.tmp 2), type := 9, pos := "ref.go:50", after := #[], guard := none }) (v := ?_) rfl (Or.inl ⟨by rfl, ?_⟩) ?_; rotate_left; (focus (intro w hSw; (try dsimp only at hSw); go_simp; (try (with_reducible rfl)); done)); try simp only [Act.put, List.setIfInBounds_toArray, List.set_cons_zero, List.set_cons_succ])
      (refine wpL_calm (o := { dst := some 31, op := Go.Op.binOp Go.BinOp.add 9 (Go.Operand.tmp 29) (Go.Operand.tmp 30) 9, type := 9, pos := "ref.go:50", after := #[{ on := 3, ground := Go.Ground.data }, { on := 4, ground := Go.Ground.data }], guard := none }) (v := ?_) rfl (Or.inl ⟨by rfl, ?_⟩) ?_; rotate_left; (focus (intro w hSw; (try dsimp only at hSw); go_simp; (try (with_reducible rfl)); done)); try simp only [Act.put, List.setIfInBounds_toArray, List.set_cons_zero, List.set_cons_succ])
      (refine wpL_calm (o := { dst := some 32, op := Go.Op.move (Go.Operand.tmp 8), type := 9, pos := "ref.go:50", after := #[], guard := none }) (v := ?_) rfl (Or.inl ⟨by rfl, ?_⟩) ?_; rotate_left; (focus (intro w hSw; (try dsimp only at hSw); go_simp; (try (with_reducible rfl)); done)); try simp only [Act.put, List.setIfInBounds_toArray, List.set_cons_zero, List.set_cons_succ])
      (refine wpL_calm (o := { dst := some 33, op := Go.Op.move (Go.Operand.tmp 1), type := 3, pos := "ref.go:50", after := #[], guard := none }) (v := ?_) rfl (Or.inl ⟨by rfl, ?_⟩) ?_; rotate_left; (focus (intro w hSw; (try dsimp only at hSw); go_simp; (try (with_reducible rfl)); done)); try simp only [Act.put, List.setIfInBounds_toArray, List.set_cons_zero, List.set_cons_succ])
      (refine wpL_calm (o := { dst := some 34, op := Go.Op.binOp Go.BinOp.mul 3 (Go.Operand.const (Go.Value.int Go.IntKind.i64 48)) (Go.Operand.tmp 33) 3, type := 3, pos := "ref.go:50", after := #[{ on := 7, ground := Go.Ground.data }], guard := none }) (v := ?_) rfl (Or.inl ⟨by rfl, ?_⟩) ?_; rotate_left; (focus (intro w hSw; (try dsimp only at hSw); go_simp; (try (with_reducible rfl)); done)); try simp only [Act.put, List.setIfInBounds_toArray, List.set_cons_zero, List.set_cons_succ])
      (refine wpL_calm (o := { dst := some 35, op := Go.Op.move (Go.Operand.tmp 2), type := 9, pos := "ref.go:50", after := #[], guard := none }) (v := ?_) rfl (Or.inl ⟨by rfl, ?_⟩) ?_; rotate_left; (focus (intro w hSw; (try dsimp only at hSw); go_simp; (try (with_reducible rfl)); done)); try simp only [Act.put, List.setIfInBounds_toArray, List.set_cons_zero, List.set_cons_succ])
      (refine wpL_calm (o := { dst := some 36, op := Go.Op.call { callee := Go.Callee.builtin Go.Builtin.len, args := #[Go.Operand.tmp 35], argTypes := #[9] }, type := 3, pos := "ref.go:50", after := #[{ on := 9, ground := Go.Ground.data }], guard := none }) (v := ?_) rfl (Or.inl ⟨by rfl, ?_⟩) ?_; rotate_left; (focus (intro w hSw; (try dsimp only at hSw); go_simp; (try (with_reducible rfl)); done)); try simp only [Act.put, List.setIfInBounds_toArray, List.set_cons_zero, List.set_cons_succ])
      (refine wpL_calm (o := { dst := some 37, op := Go.Op.binOp Go.BinOp.add 3 (Go.Operand.tmp 34) (Go.Operand.tmp 36) 3, type := 3, pos := "ref.go:50", after := #[{ on := 8, ground := Go.Ground.data }, { on := 10, ground := Go.Ground.data }], guard := none }) (v := ?_) rfl (Or.inl ⟨by rfl, ?_⟩) ?_; rotate_left; (focus (intro w hSw; (try dsimp only at hSw); go_simp; (try (with_reducible rfl)); done)); try simp only [Act.put, List.setIfInBounds_toArray, List.set_cons_zero, List.set_cons_succ])
      (refine wpL_calm (o := { dst := some 38, op := Go.Op.slice 9 (Go.Operand.tmp 32) (some (Go.Operand.tmp 37)) none none, type := 9, pos := "ref.go:50", after := #[{ on := 6, ground := Go.Ground.data }, { on := 11, ground := Go.Ground.data }], guard := none }) (v := ?_) rfl (Or.inl ⟨by rfl, ?_⟩) ?_; rotate_left; (focus (intro w hSw; (try dsimp only at hSw); go_simp; (try (with_reducible rfl)); done)); try simp only [Act.put, List.setIfInBounds_toArray, List.set_cons_zero, List.set_cons_succ])
      (refine wpL_calm (o := { dst := some 39, op := Go.Op.binOp Go.BinOp.add 9 (Go.Operand.tmp 31) (Go.Operand.tmp 38) 9, type := 9, pos := "ref.go:50", after := #[{ on := 5, ground := Go.Ground.data }, { on := 12, ground := Go.Ground.data }], guard := none }) (v := ?_) rfl (Or.inl ⟨by rfl, ?_⟩) ?_; rotate_left; (focus (intro w hSw; (try dsimp only at hSw); go_simp; (try (with_reducible rfl)); done)); try simp only [Act.put, List.setIfInBounds_toArray, List.set_cons_zero, List.set_cons_succ])
      (refine wpL_calm (o := { dst := some 8, op := Go.Op.assign (Go.Operand.tmp 39), type := 9, pos := "ref.go:50", after := #[{ on := 13, ground := Go.Ground.data }, { on := 0, ground := Go.Ground.phase }, { on := 1, ground := Go.Ground.phase }, { on := 2, ground := Go.Ground.phase }, { on := 3, ground := Go.Ground.phase }, { on := 4, ground := Go.Ground.phase }, { on := 5, ground := Go.Ground.phase }, { on := 6, ground := Go.Ground.phase }, { on := 7, ground := Go.Ground.phase }, { on := 8, ground := Go.Ground.phase }, { on := 9, ground := Go.Ground.phase }, { on := 10, ground := Go.Ground.phase }, { on := 11, ground := Go.Ground.phase }, { on := 12, ground := Go.Ground.phase }, { on := 13, ground := Go.Ground.phase }], guard := none }) (v := ?_) rfl (Or.inl ⟨by rfl, ?_⟩) ?_; rotate_left; (focus (intro w hSw; (try dsimp only at hSw); go_simp; (try (with_reducible rfl)); done)); try simp only [Act.put, List.setIfInBounds_toArray, List.set_cons_zero, List.set_cons_succ])
      refine wpL_nil ?_
      refine NoPanic.normal ?_
      have hc : w1.drew.cell? ⟨gc, i, none⟩ = _ := hc
      have c1 : w1.drew.cell? ⟨g, 1, none⟩ = _ := c1
      have HO2 := Lib.hid (HO1.out.below (Below.refl w1.heap.size w1).drew)
      have HW2 := Lib.hid HW1.out.drew
      generalize w1.drew = w2 at *
      (try rw [hNBT])
      clear hX1 hX2 HO1 HW1
      have hw2 := HW2.out.size
      obtain ⟨w3, hw3⟩ : ∃ w3, Hid (w2.alloc (.cells #[] 9) = w3) := ⟨_, Lib.hid rfl⟩
      have b3 : Below w2.heap.size w2 w3 := by rw [← hw3.out]; exact (Below.refl _ _).alloc (Nat.le_refl _) _
      have s3 : w3.heap.size = w2.heap.size + 1 := by rw [← hw3.out]; simp
      have hcA : (w2.alloc (.cells #[] 9)).cell? ⟨gc, i, none⟩ = some (.slice (some ⟨bb, 0, none⟩) (ll + 1) cc) := by rw [hw3.out]; exact (b3.cell (p := ⟨gc, i, none⟩) (Nat.lt_of_lt_of_le H.out.lc hw2)).trans hc
      have c1A : (w2.alloc (.cells #[] 9)).cell? ⟨g, 1, none⟩ = some (.slice (some ⟨gc, 0, none⟩) m cap) := by rw [hw3.out]; exact (b3.cell (p := ⟨g, 1, none⟩) (Nat.lt_of_lt_of_le hglt hw2)).trans c1
      obtain ⟨p, hp⟩ : ∃ p, Hid (w2.heap.size = p) := ⟨_, Lib.hid rfl⟩
      have hrow : w3.ownsRow p 9 1 (.slice (some ⟨p, 0, none⟩) 0 0) 0 [] := by
        rw [← hp.out, ← hw3.out]; exact own_of_block (cur := #[]) (heap_alloc_new _ _) rfl (Nat.le_refl _) (by unfold maxLen; decide)
      have htx3 : TxR w3 cs[i].b cs[i].L := HROW.out.below (HW2.out.trans (b3.mono hw2))
      have hsrc : Src Try.prog 1 49 (.slice (some ⟨bb, 0, none⟩) (ll + 1) cc) (ll + 1) (strF cs[i].L) w3 := Src.ofSlice _ Try.underlying49 ⟨bb, 0, none⟩ (ll + 1) cc _ (by unfold strF; rw [List.length_map, Nat.mul_one]; exact HBE.out.2.symm) (fun j u hu => by
        unfold strF at hu
        rw [List.getElem?_map] at hu
        rcases Nat.lt_or_ge j cs[i].L.length with hj | hj
        · rw [List.getElem?_eq_getElem hj] at hu
          have := htx3.2 j hj
          rw [← HBE.out.1] at this
          simp at hu
          subst hu
          rw [Addr.add_mid, Nat.zero_add]
          exact this
        · rw [List.getElem?_eq_none hj] at hu; cases hu) (fun u hu => by
        unfold strF at hu
        obtain ⟨x, _, rfl⟩ := List.mem_map.1 hu
        rfl)
      have o1 : 0 + (ll + 1) ≤ maxLen := by unfold maxLen; omega
      have o2 : (0 + (ll + 1)) * 16 ≤ 140737488355328 := by omega
      have o3 : p ≤ w3.heap.size := by rw [← hp.out]; exact b3.size
      have o4 : ll + 1 + 1 ≤ maxLen := by unfold maxLen; omega
      have o5 : (ll + 1 + 1) * 16 ≤ 140737488355328 := by omega
      have o7 : i + 1 ≤ maxLen := by unfold maxLen; omega
      have o8 : (i + 1) * 24 ≤ 140737488355328 := by omega
      have HXL : Hid (strF (cs[i].L ++ [putT A kk s.data.toList (lastT cs[i])]) = strF cs[i].L ++ [.string NBT]) := Lib.hid (by rw [strF_app]; unfold strF; rw [List.map_singleton, HPUT.out])
      have HO3 := Lib.hid (HO2.out.below b3)
      have HB3 := Lib.hid (HW2.out.trans (b3.mono hw2))
      have HLEN : Hid ((cs[i].L ++ [putT A kk s.data.toList (lastT cs[i])]).length = ll + 1 + 1) := Lib.hid (by rw [List.length_append, HBE.out.2]; rfl)
      obtain ⟨NL, hNL⟩ : ∃ NL, Hid (cs[i].L ++ [putT A kk s.data.toList (lastT cs[i])] = NL) := ⟨_, Lib.hid rfl⟩
      rw [hNL.out] at HXL HLEN
      obtain ⟨SL, hSL⟩ : ∃ SL, Hid (strF cs[i].L = SL) := ⟨_, Lib.hid rfl⟩
      rw [hSL.out] at HXL hsrc
      have HOL : Hid (∀ j, (Value.slice vo i co).ownBlock = some j → j < p) := Lib.hid (fun j e => by have := (HO2.out.row.lt j e).2; rw [hp.out] at this; exact this)
      have HPS : Hid (p ≤ w2.heap.size ∧ w.heap.size ≤ p) := Lib.hid ⟨by rw [hp.out]; exact Nat.le_refl _, by rw [← hp.out]; exact hw2⟩
      have b3p : Below p w2 w3 := by rw [← hp.out]; exact b3
      have him1 : i < m := him
      have hiM : i + 1 ≤ 1000000 := by omega
      clear HO3 htx3
      go_wp2_with (at_builtin; (try rw [hw3.out]); (try rw [hp.out]); first
        | (refine wpList_append_src2 _ rfl _ _ 34 34 rfl B1 62 ic (.agg #[.slice none 0 0]) 1 24 Try.underlying34 hic cz0 cz1 cz2 rfl (by decide) (.slice vo i co) i (new.map rcV) rfl r8 _ 1 [.slice (some ⟨b7, 0, none⟩) (ll + 1 + 1) c7] rfl src8 o7 o8 o9 ?_; intro v9 w9 O9 G9 L9; obtain ⟨a9, c9, rfl⟩ := own_slF O9)
        | (refine wpList_append_src2 _ rfl _ _ 49 49 rfl p 9 is (.string ⟨#[]⟩) 1 16 Try.underlying49 his sz0 sz1 sz2 rfl (by decide) (.slice a5 (ll + 1) c5) (ll + 1) SL rfl r5 _ 1 [.string NBT] rfl src5 o4 o5 o6 ?_; intro v7 w7 O7 G7 L7; obtain ⟨b7, c7, hv7, hc7, hp7, hlt7, hr7⟩ := own_rowG O7 (Nat.succ_pos _); subst hv7; have k7 := (Kq.of_grownO G7 o6 (fun k e => (O5.lt k e).1)).below; rw [← HXL.out] at hr7; have HALL : Hid (Below w2.heap.size w2 w7) := Lib.hid (by rw [hp.out]; exact ((b3p.trans k5).trans ((Below.refl p w5).alloc p5 _)).trans k7); have HTX : Hid (TxR w7 b7 NL) := Lib.hid (TxR.of_range hlt7 hr7); have b8 : Below w7.heap.size w7 (w7.alloc (.cells #[.slice (some ⟨b7, 0, none⟩) (ll + 1 + 1) c7] 62)) := (Below.refl _ _).alloc (Nat.le_refl _) _; have HA8 := Lib.hid (HALL.out.trans (b8.mono HALL.out.size)); have HO8 := Lib.hid (HO2.out.below HA8.out); have r8 := HO8.out.row; rw [hnl.out] at r8; have src8 := src_rc (w := w7) (.slice (some ⟨b7, 0, none⟩) (ll + 1 + 1) c7) rfl; have o9 : B1 ≤ (w7.alloc (.cells #[.slice (some ⟨b7, 0, none⟩) (ll + 1 + 1) c7] 62)).heap.size := (by rw [← hB1.out]; exact Nat.le_trans HW2.out.size HA8.out.size); have HTX8 := Lib.hid (HTX.out.below b8); clear k7 hr7 k5 r5 src5 b8)
        | (refine wpList_append_src2 _ rfl _ _ 49 49 rfl p 9 is (.string ⟨#[]⟩) 1 16 Try.underlying49 his sz0 sz1 sz2 rfl (by decide) (.slice (some ⟨p, 0, none⟩) 0 0) 0 [] rfl hrow _ (ll + 1) SL rfl hsrc o1 o2 o3 ?_; intro v5 w5 O5 G5 L5; rw [Nat.zero_add, List.nil_append] at O5; obtain ⟨a5, c5, rfl⟩ := own_slF O5; have k5 := (Kq.of_grownO G5 o3 (fun k e => by cases e; exact Nat.le_refl _)).below; have p5 : p ≤ w5.heap.size := Nat.le_trans o3 k5.size; have r5 : (w5.alloc (.cells #[.string NBT] 9)).ownsRow p 9 1 (.slice a5 (ll + 1) c5) (ll + 1) SL := own_at_block O5 (fun j e => Below.heap_alloc _ _ j (O5.lt j e).2); have src5 := src_str (w := w5) NBT; have o6 : p ≤ (w5.alloc (.cells #[.string NBT] 9)).heap.size := Nat.le_trans p5 (by simp)))
      have HRV : Hid (rcV ⟨b7, c7, NL⟩ = .slice (some ⟨b7, 0, none⟩) (ll + 1 + 1) c7) := Lib.hid (by unfold rcV; rw [HLEN.out])
      obtain ⟨A9, B9⟩ := OutW.app (c := ⟨b7, c7, NL⟩) HO8.out o9 ⟨HTX8.out, by rw [HLEN.out]; exact hc7, fun e => by have := HLEN.out; have e : NL = [] := e; rw [e] at this; simp at this, by rw [← hB1.out]; exact Nat.le_trans HPS.out.2 hp7⟩ (fun e => by have := HOL.out b7 e; omega) (by rw [hnl.out, HRV.out]; exact O9) G9 L9
      have HO9 := Lib.hid A9
      have HW9 := Lib.hid ((HW2.out.trans (HA8.out.mono hw2)).trans (by rw [hB1.out]; exact B9))
      clear O9 G9 L9 A9 B9 O7 G7 L7 O5 G5 L5
      go_roundw
      case rel => exact ⟨i + 1, new ++ [⟨b7, c7, NL⟩], a9, c9, rfl, by go_num, by omega, Lib.hid (by rw [List.length_append, hnl.out]; rfl), HO9, Lib.hid (by rw [← htk.out, List.map_append, List.map_append, HM.out, ← hNL.out]; simp), HW9⟩
      case measure => simp [intOf]; omega
    · as_aux_lemma =>
      obtain rfl : i = m := by omega
      have hlt : ¬ (i : Int) < (i : Int) := by omega
      have H2 := Lib.hid (H.out.below HW.out)
      have hfull : new.map RC.L = cs.map (fun c => c.L ++ [putT A kk s.data.toList (lastT c)]) := by rw [HM.out, List.take_of_length_le (by rw [hm.out]; exact Nat.le_refl _)]
      have hnn : new ≠ [] := fun e => hne (by have := congrArg List.length hfull; rw [e] at this; simp at this; exact List.length_eq_zero_iff.1 this.symm)
      have HF := Lib.hid hfull
      have hBB : B ≤ B1 := by rw [← hB1.out]; exact hB
      obtain ⟨gc', cap', e1, f1, k1, q1⟩ := RfW.set H2.out (⟨HO.out.row, fun c hc => ⟨(HO.out.tx c hc).1, (HO.out.tx c hc).2.1, (HO.out.tx c hc).2.2.1, Nat.le_trans hBB (HO.out.tx c hc).2.2.2⟩, HO.out.ne⟩ : OutW wr B B1 (.slice vo i co) new) hBB hnn (fun c hc e2 => by have := (HO.out.tx c hc).2.2.2; rw [← hB1.out] at this; omega)
      have HR := Lib.hid f1
      have HK := Lib.hid ((Kq.of_below (HW.out) hB).trans k1)
      have HQ2 : Hid ((∀ c ∈ new, w.heap.size ≤ c.b) ∧ w.heap.size ≤ gc') := Lib.hid ⟨fun c hc => by rw [hB1.out]; exact (HO.out.tx c hc).2.2.2, by rw [hB1.out]; exact q1⟩
      have f0 := frozen_of_row wr g 1 _ _ H2.out.hg
      clear f1 k1 q1 hfull
      go_wp2_with fail
      go_end0
      exact ⟨rfl, new, gc', ⟨_, HR.out⟩, HF.out, HK.out, HQ2.out.1, HQ2.out.2⟩
end Go.Proofs.Ytaemnelfnopjdaa
