/- Package flat: Discard. -/
import Derived.Test.YtaemnelfnopjdaaFaI
namespace Go.Proofs.Ytaemnelfnopjdaa
open Go.RowKit Go.Deep Go.Maps
set_option linter.unusedVariables false
set_option linter.unusedSimpArgs false
theorem info_intZ : (Try.prog.info? 3).map (fun i => (i.zero, i.size, i.bytes)) = some (some (.int .i64 0), 1, 8) := by kernel_rfl
theorem made_ch {w0 w1 : World} {n : Nat} (h : w0.alloc (.cells (madeCells #[.int .i64 0] n) 3) = w1) : ChAt w1 (some ⟨w0.heap.size, 0, none⟩) (List.replicate n 0) := by
  have r : w1.rowIs w0.heap.size 3 n (fun _ => .int .i64 0) := by rw [← h]; exact World.rowIs_made w0 (.int .i64 0) n 3
  refine ⟨fun hp => ⟨_, 0, rfl, World.rowIs.lt r, fun i hi => ?_⟩, fun a e => by
    cases e
    obtain ⟨c, hc, _⟩ := r
    exact ⟨(Array.getElem?_eq_some_iff.1 hc).1, tyAt_cells hc⟩⟩
  rw [List.length_replicate] at hi
  have := r.cell hi
  rw [Nat.zero_add, this, List.getElem_replicate]; rfl
section
variable {w : World} {B g : Nat} {OL CL : List Nat} {M : Fl}
set_option maxRecDepth 100000 in
set_option maxHeartbeats 4000000 in
theorem discard_no (a n : Int) (h : FlW w B g OL CL M) (hm : M.n ≤ 64) (hn : n ≤ 9223372036854775807) (hr : refF M.n a n ≠ 0) : Calls Try.prog 17 #[.pointer (some ⟨g, 0, none⟩), .int .i64 a, .int .i64 n] w fun e w' => e = .returned (.int .i64 (refF M.n a n)) ∧ w = w' := by
  have CR := Lib.hid (h.refused a n hm hn)
  generalize refF M.n a n = r at *
  have hr1 : (r == 0) = false := by simpa using hr
  clear h hr
  go_enter Try.func17, Try.ntmps17
  go_wp2_with fail
  refine CR.out.mono ?_
  rintro e w' ⟨rfl, rfl⟩
  clear CR
  go_wp2_with fail
  go_ret
  exact ⟨rfl, rfl⟩
set_option maxRecDepth 100000 in
set_option maxHeartbeats 8000000 in
theorem discard_yes (a n : Int) (h : FlW w B g OL CL M) (hm : M.n ≤ 64) (hr : refF M.n a n = 0) (hCn : M.C.length ≤ 100000) : Calls Try.prog 17 #[.pointer (some ⟨g, 0, none⟩), .int .i64 a, .int .i64 n] w fun e w' => e = .returned (.int .i64 0) ∧ FlS w w' B g OL CL { M with C := M.C ++ [(a.toNat, List.replicate n.toNat 0)] } := by
  obtain ⟨q1, q2, q3⟩ := refF_ok hr
  have CR := Lib.hid (h.refused a n hm (by omega))
  rw [hr] at CR
  obtain ⟨A, rfl⟩ : ∃ A : Nat, a = (A : Int) := ⟨a.toNat, by omega⟩
  obtain ⟨N, rfl⟩ : ∃ N : Nat, n = (N : Int) := ⟨n.toNat, by omega⟩
  obtain ⟨ic, hic, hcz0, hcz1, hcz2⟩ := info_partsF info_chF
  have H := Lib.hid h
  obtain ⟨vt, vf, vc, cm, bm, D, hfl, rfl, rfl⟩ := h
  have hmk := run_make_row' (P := Try.prog) 67 3 (.int .i64 0) 8 Try.underlying67 info_intZ rfl .i64 .i64 N (by omega) (by omega)
  have hfd := hfl.below (Below.refl w.heap.size w).drew
  have c4 := cell_of_row w g 4 _ _ _ hfl.hg
  obtain ⟨ac9, cc9, evc⟩ := own_slF hfl.hc
  obtain ⟨m, hmm⟩ : ∃ m, Hid (M.C.length = m) := ⟨_, Lib.hid rfl⟩
  have hrow := hfd.hc
  rw [hmm.out] at hrow evc hCn
  subst evc
  have HFL := Lib.hid hfl
  have HFD := Lib.hid hfd
  have HDW : Hid (Below w.heap.size w w.drew) := Lib.hid (Below.refl w.heap.size w).drew
  have HROW := Lib.hid hrow
  clear hfl hfd hr hrow
  go_enter Try.func17, Try.ntmps17
  go_wp2_with fail
  refine CR.out.mono ?_
  rintro e w' ⟨rfl, rfl⟩
  clear CR
  go_upto_region 4 with fail
  have hdc : w.drew.cell? ⟨g, 4, none⟩ = some (.slice ac9 m cc9) := c4
  clear c4
  have hgl : g < w.drew.heap.size := HFD.out.lt
  have hbw : B ≤ w.drew.heap.size := HFD.out.bw
  have o1 : m + 1 ≤ maxLen := by unfold maxLen; omega
  have o2 : (m + 1) * 32 ≤ 140737488355328 := by omega
  refine wp_region_lin (S := (fun w' => w'.cell? ⟨g, 4, none⟩ = some (.slice ac9 m cc9))) [(0, true), (1, true), (2, true), (3, true), (4, true), (5, true), (6, true), (7, false), (8, true), (9, false), (10, false), (11, true), (12, true), (13, false)] (by kernel_rfl) (by kernel_rfl) rfl (by kernel_rfl) ?_ (fun hHeld => ?_)
  · (try dsimp only); exact hdc
  generalize World.drew w = w0 at *
  (refine wpL_calm (o := { dst := some 15, op := Go.Op.move (Go.Operand.tmp 0), type := 23, pos := "flat.go:120", after := #[], guard := none }) (v := ?_) rfl (Or.inl ⟨by rfl, ?_⟩) ?_; rotate_left; (focus (intro w hSw; (try dsimp only at hSw); go_simp; (try (with_reducible rfl)); done)); try simp only [Act.put, List.setIfInBounds_toArray, List.set_cons_zero, List.set_cons_succ])
  (refine wpL_calm (o := { dst := some 16, op := Go.Op.move (Go.Operand.tmp 0), type := 23, pos := "flat.go:120", after := #[], guard := none }) (v := ?_) rfl (Or.inl ⟨by rfl, ?_⟩) ?_; rotate_left; (focus (intro w hSw; (try dsimp only at hSw); go_simp; (try (with_reducible rfl)); done)); try simp only [Act.put, List.setIfInBounds_toArray, List.set_cons_zero, List.set_cons_succ])
  (refine wpL_calm (o := { dst := some 17, op := Go.Op.nilCheck (Go.Operand.tmp 16), type := 0, pos := "flat.go:120", after := #[{ on := 1, ground := Go.Ground.data }], guard := none }) (v := ?_) rfl (Or.inl ⟨by rfl, ?_⟩) ?_; rotate_left; (focus (intro w hSw; (try dsimp only at hSw); go_simp; (try (with_reducible rfl)); done)); try simp only [Act.put, List.setIfInBounds_toArray, List.set_cons_zero, List.set_cons_succ])
  (refine wpL_calm (o := { dst := some 18, op := Go.Op.fieldAddr 60 (Go.Operand.tmp 17) 4, type := 0, pos := "flat.go:120", after := #[{ on := 2, ground := Go.Ground.data }], guard := none }) (v := ?_) rfl (Or.inl ⟨by rfl, ?_⟩) ?_; rotate_left; (focus (intro w hSw; (try dsimp only at hSw); go_simp; (try (with_reducible rfl)); done)); try simp only [Act.put, List.setIfInBounds_toArray, List.set_cons_zero, List.set_cons_succ])
  (refine wpL_calm (o := { dst := some 19, op := Go.Op.load 58 (Go.Operand.tmp 18), type := 58, pos := "flat.go:120", after := #[{ on := 3, ground := Go.Ground.data }], guard := none }) (v := ?_) rfl (Or.inl ⟨by rfl, ?_⟩) ?_; rotate_left; (focus (intro w hSw; (try dsimp only at hSw); go_simp; (try (with_reducible rfl)); done)); try simp only [Act.put, List.setIfInBounds_toArray, List.set_cons_zero, List.set_cons_succ])
  (refine wpL_calm (o := { dst := some 20, op := Go.Op.move (Go.Operand.tmp 1), type := 3, pos := "flat.go:120", after := #[], guard := none }) (v := ?_) rfl (Or.inl ⟨by rfl, ?_⟩) ?_; rotate_left; (focus (intro w hSw; (try dsimp only at hSw); go_simp; (try (with_reducible rfl)); done)); try simp only [Act.put, List.setIfInBounds_toArray, List.set_cons_zero, List.set_cons_succ])
  (refine wpL_calm (o := { dst := some 21, op := Go.Op.move (Go.Operand.tmp 2), type := 3, pos := "flat.go:120", after := #[], guard := none }) (v := ?_) rfl (Or.inl ⟨by rfl, ?_⟩) ?_; rotate_left; (focus (intro w hSw; (try dsimp only at hSw); go_simp; (try (with_reducible rfl)); done)); try simp only [Act.put, List.setIfInBounds_toArray, List.set_cons_zero, List.set_cons_succ])
  refine wpL_loud1 (o := { dst := some 22, op := Go.Op.makeSlice 67 (Go.Operand.tmp 21) (Go.Operand.tmp 21), type := 67, pos := "flat.go:120", after := #[{ on := 6, ground := Go.Ground.data }, { on := 6, ground := Go.Ground.data }], guard := none }) rfl (fun K hK => ?_)
  go_simp
  refine hK.out _ _ ?_ (fun hHeld => ?_)
  · (try dsimp only); exact (((Below.refl w0.heap.size w0).alloc (Nat.le_refl _) _).cell (p := ⟨g, 4, none⟩) hgl).trans hdc
  clear hK K
  try simp only [Act.put, List.setIfInBounds_toArray, List.set_cons_zero, List.set_cons_succ]
  obtain ⟨w1, hw1⟩ : ∃ w1, w0.alloc (.cells (madeCells #[.int .i64 0] N) 3) = w1 := ⟨_, rfl⟩
  rw [hw1] at hHeld ⊢
  have hb1 : Below w0.heap.size w0 w1 := by rw [← hw1]; exact (Below.refl _ _).alloc (Nat.le_refl _) _
  have hg1 : g < w1.heap.size := Nat.lt_of_lt_of_le hgl hb1.size
  (refine wpL_calm (o := { dst := some 23, op := Go.Op.build 70 #[(0, Go.Operand.tmp 20), (1, Go.Operand.tmp 22)], type := 70, pos := "flat.go:120", after := #[{ on := 5, ground := Go.Ground.data }, { on := 7, ground := Go.Ground.data }], guard := none }) (v := ?_) rfl (Or.inl ⟨by rfl, ?_⟩) ?_; rotate_left; (focus (intro w hSw; (try dsimp only at hSw); go_simp; (try (with_reducible rfl)); done)); try simp only [Act.put, List.setIfInBounds_toArray, List.set_cons_zero, List.set_cons_succ])
  refine wpL_loud1 (o := { dst := some 24, op := Go.Op.buildSlice 58 1 #[(0, Go.Operand.tmp 23)], type := 58, pos := "flat.go:120", after := #[{ on := 8, ground := Go.Ground.data }], guard := none }) rfl (fun K hK => ?_)
  go_simp
  refine hK.out _ _ ?_ (fun hHeld => ?_)
  · (try dsimp only); exact (((Below.refl w1.heap.size w1).alloc (Nat.le_refl _) _).cell (p := ⟨g, 4, none⟩) hg1).trans hHeld
  clear hK K
  try simp only [Act.put, List.setIfInBounds_toArray, List.set_cons_zero, List.set_cons_succ]
  obtain ⟨w2, hw2⟩ : ∃ w2, w1.alloc (.cells #[.int .i64 (A : Int), .slice (some ⟨w0.heap.size, 0, none⟩) N N] 70) = w2 := ⟨_, rfl⟩
  rw [hw2] at hHeld ⊢
  have hb2 : Below w1.heap.size w1 w2 := by rw [← hw2]; exact (Below.refl _ _).alloc (Nat.le_refl _) _
  have hsrc := src_ch (w := w1) (.int .i64 (A : Int)) (.slice (some ⟨w0.heap.size, 0, none⟩) N N) rfl rfl
  rw [hw2] at hsrc
  have hb02 : Below w0.heap.size w0 w2 := hb1.trans (hb2.mono hb1.size)
  have hrow2 := own_at_block HROW.out (fun j e => hb02.block j (HROW.out.lt j e).2)
  have o3 : B ≤ w2.heap.size := Nat.le_trans hbw hb02.size
  have hg2 := (HFD.out.below hb02).hg
  have hg2l : g < w2.heap.size := Nat.lt_of_lt_of_le hgl hb02.size
  refine wpL_loud1 (o := { dst := some 25, op := Go.Op.call { callee := Go.Callee.builtin Go.Builtin.append, args := #[Go.Operand.tmp 19, Go.Operand.tmp 24], argTypes := #[58, 58] }, type := 58, pos := "flat.go:120", after := #[{ on := 4, ground := Go.Ground.data }, { on := 9, ground := Go.Ground.data }], guard := none }) rfl (fun K hK => ?_)
  (rw [if_pos (by rfl)]; refine wp_append_src2 _ _ _ 58 58 rfl B 70 ic (.agg #[.int .i64 0, .slice none 0 0]) 2 32 Try.underlying58 hic hcz0 hcz1 hcz2 rfl (by decide) (.slice ac9 m cc9) m (cm.flatMap chC) rfl hrow2 (.slice (some ⟨w1.heap.size, 0, none⟩) 1 1) 1 [.int .i64 (A : Int), .slice (some ⟨w0.heap.size, 0, none⟩) N N] rfl hsrc o1 o2 o3 ?_; intro v5 w5 O5 G5 L5; have hg5 : w5.heap[g]? = some (.cells #[.int .i64 (M.n : Int), vt, .map (some bm), vf, .slice ac9 m cc9] 60 (0, 0)) := (G5.block g hg2l (fun e => (HFL.out.fc e.symm).2.2.1 rfl)).trans hg2; have c05 := cell_of_row w5 g 4 _ _ _ hg5; have f05 := frozen_of_row w5 g 4 _ _ hg5; obtain ⟨a5, c5, rfl⟩ := own_slF O5)
  try go_wp2_with fail
  refine hK.out _ _ ?_ (fun hHeld => ?_)
  · (try dsimp only); exact c05
  clear hK K
  try simp only [Act.put, List.setIfInBounds_toArray, List.set_cons_zero, List.set_cons_succ]
  (refine wpL_calm (o := { dst := some 26, op := Go.Op.nilCheck (Go.Operand.tmp 15), type := 0, pos := "flat.go:120", after := #[{ on := 0, ground := Go.Ground.data }, { on := 0, ground := Go.Ground.phase }, { on := 1, ground := Go.Ground.phase }, { on := 2, ground := Go.Ground.phase }, { on := 3, ground := Go.Ground.phase }, { on := 4, ground := Go.Ground.phase }, { on := 5, ground := Go.Ground.phase }, { on := 6, ground := Go.Ground.phase }, { on := 7, ground := Go.Ground.phase }, { on := 8, ground := Go.Ground.phase }, { on := 9, ground := Go.Ground.phase }, { on := 10, ground := Go.Ground.phase }], guard := none }) (v := ?_) rfl (Or.inl ⟨by rfl, ?_⟩) ?_; rotate_left; (focus (intro w hSw; (try dsimp only at hSw); go_simp; (try (with_reducible rfl)); done)); try simp only [Act.put, List.setIfInBounds_toArray, List.set_cons_zero, List.set_cons_succ])
  (refine wpL_calm (o := { dst := some 27, op := Go.Op.fieldAddr 60 (Go.Operand.tmp 26) 4, type := 0, pos := "flat.go:120", after := #[{ on := 11, ground := Go.Ground.data }, { on := 0, ground := Go.Ground.phase }, { on := 1, ground := Go.Ground.phase }, { on := 2, ground := Go.Ground.phase }, { on := 3, ground := Go.Ground.phase }, { on := 4, ground := Go.Ground.phase }, { on := 5, ground := Go.Ground.phase }, { on := 6, ground := Go.Ground.phase }, { on := 7, ground := Go.Ground.phase }, { on := 8, ground := Go.Ground.phase }, { on := 9, ground := Go.Ground.phase }, { on := 10, ground := Go.Ground.phase }], guard := none }) (v := ?_) rfl (Or.inl ⟨by rfl, ?_⟩) ?_; rotate_left; (focus (intro w hSw; (try dsimp only at hSw); go_simp; (try (with_reducible rfl)); done)); try simp only [Act.put, List.setIfInBounds_toArray, List.set_cons_zero, List.set_cons_succ])
  refine wpL_loud0 (o := { dst := none, op := Go.Op.store 58 (Go.Operand.tmp 27) (Go.Operand.tmp 25), type := 0, pos := "flat.go:120", after := #[{ on := 12, ground := Go.Ground.data }, { on := 10, ground := Go.Ground.data }, { on := 10, ground := Go.Ground.chain }, { on := 0, ground := Go.Ground.phase }, { on := 1, ground := Go.Ground.phase }, { on := 2, ground := Go.Ground.phase }, { on := 3, ground := Go.Ground.phase }, { on := 4, ground := Go.Ground.phase }, { on := 5, ground := Go.Ground.phase }, { on := 6, ground := Go.Ground.phase }, { on := 7, ground := Go.Ground.phase }, { on := 8, ground := Go.Ground.phase }, { on := 9, ground := Go.Ground.phase }, { on := 10, ground := Go.Ground.phase }], guard := none }) rfl (by kernel_rfl) (fun K hK => ?_)
  go_simp
  refine hK.out _ _ ?_
  clear hK K
  try simp only [Act.put, List.setIfInBounds_toArray, List.set_cons_zero, List.set_cons_succ]
  refine wpL_nil ?_
  refine NoPanic.normal ?_
  have hch := (made_ch hw1).below hb2
  have hFIN := HFD.out.add_c (a := A) (b := List.replicate N 0) (ao := some ⟨w0.heap.size, 0, none⟩) (c := N) hb02 hch (by rw [List.length_replicate]; rw [hmm.out]; exact O5) G5 L5
  have HEND : Hid (FlS w (w5.setCell ⟨g, 4, none⟩ (.slice a5 (m + 1) c5)) B g (OwnL g vt vf (.slice ac9 m cc9) bm) (chL cm) { M with C := M.C ++ [((A : Int).toNat, List.replicate (N : Int).toNat 0)] }) := Lib.hid (by
    obtain ⟨OL2, CL2, f2, k2, n2, m2⟩ := hFIN
    have kd : Kq B (OwnL g vt vf (.slice ac9 m cc9) bm) w w0 := Kq.of_below HDW.out H.out.bw
    exact FlS.join kd (fun k hk => Or.inl hk) (fun k hk => Or.inl hk) f2 k2 n2 m2 (fun x hx => by cases hx; exact HDW.out.size))
  go_wp2_with fail
  go_ret
  exact ⟨rfl, HEND.out⟩
end
end Go.Proofs.Ytaemnelfnopjdaa
