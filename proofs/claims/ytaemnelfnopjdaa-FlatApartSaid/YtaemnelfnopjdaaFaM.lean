/- Package flat: Saw. -/
import Derived.Test.YtaemnelfnopjdaaFaK
import Derived.Test.YtaemnelfnopjdaaFaL
namespace Go.Proofs.Ytaemnelfnopjdaa
open Go.RowKit Go.Deep Go.Maps
set_option linter.unusedVariables false
set_option linter.unusedSimpArgs false
theorem sift1_enter (args : Array Value) (w : World) : (callFunc 45 args).run Try.prog w = .ok (.enter 45 args) w := by go_simp
set_option maxRecDepth 100000 in
set_option maxHeartbeats 2000000 in
theorem sifter_any (g : Nat) (w : World) : Calls Try.prog 36 #[.pointer (some ⟨g, 0, none⟩)] w fun e w' => e = .returned (.func (.func 45) #[] #[.pointer (some ⟨w.heap.size, 0, none⟩)]) ∧ w'.cell? ⟨w.heap.size, 0, none⟩ = some (.pointer (some ⟨g, 0, none⟩)) ∧ w.heap.size < w'.heap.size ∧ Below w.heap.size w w' := by
  go_enter Try.func36, Try.ntmps36
  go_wp2_with fail
  go_ret
  exact ⟨rfl, World.cell?_alloc_at _ _ _ _ rfl, by simp, (Below.refl _ _).alloc (Nat.le_refl _) _⟩
def sawB (M : Fl) (a : Int) (s : ByteArray) : Bool := decide (refF M.n a (wholeN s.size) = 0) && decide (allIn M.T (pcs s.data.toList (wholeN s.size))) && !(sawL M a.toNat (numL M.T (pcs s.data.toList (wholeN s.size)))).isEmpty
def sawM (M : Fl) (a : Int) (s : ByteArray) : Fl := if sawB M a s = true then { M with F := sawL M a.toNat (numL M.T (pcs s.data.toList (wholeN s.size))) } else M
section
variable {w w2 : World} {B g bm : Nat} {M : Fl} {vt vf vc v : Value} {cm : List Ch} {D : DataW Unit} {OL CL : List Nat}
/-- New first states. -/
theorem FlAt.set_f (h : FlAt w B g M vt vf vc cm bm D) {F : List (List Nat)} {B0 : Nat} (hB : B ≤ B0) (O : w.ownsRow B0 56 64 v F.length (F.flatMap nC)) : FlAt (w.setCell ⟨g, 3, none⟩ v) B g { M with F := F } vt v vc cm bm D :=
  have ho : ∀ k, k ≠ g → (w.setCell ⟨g, 3, none⟩ v).heap[k]? = w.heap[k]? := fun k hk => Below.heap_setCell w ⟨g, 3, none⟩ v k hk
  { hg := fl_set3 h.hg
    bg := h.bg
    ht := own_at_block h.ht (fun k e => ho k (h.tf e).2.2.1)
    hm := map_at_block h.hm (ho bm (fun e => h.gbm e.symm))
    bb := h.bb
    ix := h.ix
    hf := own_setF (own_weakF O hB) h.hg (by decide)
    hc := own_at_block h.hc (fun k e => ho k (h.fc e).2.2.1)
    ch := fun c hc => (h.ch c hc).same (by simp [World.setCell]) (fun a ea => ho a.block (fun e1 => by have := ((h.ch c hc).2 a ea).2; rw [e1, tyAt_cells h.hg] at this; revert this; decide))
    ce := h.ce }
set_option maxRecDepth 100000 in
set_option maxHeartbeats 8000000 in
theorem saw_any (a : Int) (s : ByteArray) (h : FlW w B g OL CL M) (hn : M.n ≤ 64) (hs : s.size ≤ 1000000) (hC : ChOk M.n M.C) (hCn : M.C.length ≤ 1000000) (hF : ∀ f ∈ M.F, f.length = 64) (hFn : M.F.length ≤ 2000000000) : Calls Try.prog 18 #[.pointer (some ⟨g, 0, none⟩), .int .i64 a, .string s] w fun e w' => e = .returned (.bool (sawB M a s)) ∧ FlS w w' B g OL CL (sawM M a s) := by
  have hwn : wholeN s.size ≤ 1000000 := by unfold wholeN; split <;> omega
  have CW := Lib.hid (fun w => whole_any s w hs)
  obtain ⟨k, hk⟩ : ∃ k, wholeN s.size = k := ⟨_, rfl⟩
  obtain ⟨w1, hw1⟩ : ∃ w1, w.alloc (.cells #[.int .i64 a] 3) = w1 := ⟨_, rfl⟩
  have b1 : Below w.heap.size w w1 := by rw [← hw1]; exact (Below.refl _ _).alloc (Nat.le_refl _) _
  have s1 : w1.heap.size = w.heap.size + 1 := by rw [← hw1]; simp
  have k4 : w1.cell? ⟨w.heap.size, 0, none⟩ = some (.int .i64 a) := by rw [← hw1]; exact World.cell?_alloc_at _ _ _ _ rfl
  obtain ⟨q4, hq4⟩ : ∃ q4, Hid (w.heap.size = q4) := ⟨_, Lib.hid rfl⟩
  have H := Lib.hid h
  have hd1 : Below w.heap.size w w1.drew := b1.drew
  have HD1 := Lib.hid (h.below hd1)
  have HB1 := Lib.hid hd1
  have CR := Lib.hid ((h.below hd1).refused a (k : Int) hn (by omega))
  have HSB : Hid (sawB M a s = (decide (refF M.n a (k : Int) = 0) && decide (allIn M.T (pcs s.data.toList k)) && !(sawL M a.toNat (numL M.T (pcs s.data.toList k))).isEmpty)) := Lib.hid (by rw [← hk]; rfl)
  have HSM : Hid (sawM M a s = if sawB M a s = true then { M with F := sawL M a.toNat (numL M.T (pcs s.data.toList k)) } else M) := Lib.hid (by rw [← hk]; rfl)
  have HHC := Lib.hid hC
  have HHF := Lib.hid hF
  rw [hk] at CW hwn
  rw [hq4.out] at k4
  have HW1 := Lib.hid hw1
  have hq4l : q4 < w1.drew.heap.size := by rw [← hq4.out]; show w.heap.size < w1.heap.size; omega
  obtain ⟨r, hr⟩ : ∃ r, Hid (refF M.n a (k : Int) = r) := ⟨_, Lib.hid rfl⟩
  rw [hr.out] at CR
  have hk4d : w1.drew.cell? ⟨q4, 0, none⟩ = some (.int .i64 a) := k4
  clear h b1 hd1 hC hF hw1 s1
  go_enter Try.func18, Try.ntmps18
  go_upto_region 1 with fail
  rw [HW1.out, hq4.out]
  clear HW1
  refine wp_region_lin (S := (fun w' => w'.cell? ⟨q4, 0, none⟩ = some (.int .i64 a))) [(0, true), (1, true), (2, true), (3, false), (4, false), (5, true)] (by kernel_rfl) (by kernel_rfl) rfl (by kernel_rfl) ?_ (fun hHeld => ?_)
  · (try dsimp only); exact k4
  (refine wpL_calm (o := { dst := some 11, op := Go.Op.move (Go.Operand.tmp 0), type := 23, pos := "flat.go:174", after := #[], guard := none }) (v := ?_) rfl (Or.inl ⟨by rfl, ?_⟩) ?_; rotate_left; (focus (intro w hSw; (try dsimp only at hSw); go_simp; (try (with_reducible rfl)); done)); try simp only [Act.put, List.setIfInBounds_toArray, List.set_cons_zero, List.set_cons_succ])
  (refine wpL_calm (o := { dst := some 12, op := Go.Op.load 3 (Go.Operand.tmp 4), type := 3, pos := "flat.go:174", after := #[], guard := none }) (v := ?_) rfl (Or.inl ⟨by rfl, ?_⟩) ?_; rotate_left; (focus (intro w hSw; (try dsimp only at hSw); go_simp; (try (with_reducible rfl)); done)); try simp only [Act.put, List.setIfInBounds_toArray, List.set_cons_zero, List.set_cons_succ])
  (refine wpL_calm (o := { dst := some 13, op := Go.Op.move (Go.Operand.tmp 2), type := 9, pos := "flat.go:174", after := #[], guard := none }) (v := ?_) rfl (Or.inl ⟨by rfl, ?_⟩) ?_; rotate_left; (focus (intro w hSw; (try dsimp only at hSw); go_simp; (try (with_reducible rfl)); done)); try simp only [Act.put, List.setIfInBounds_toArray, List.set_cons_zero, List.set_cons_succ])
  refine wpL_loud1 (o := { dst := some 14, op := Go.Op.call { callee := Go.Callee.value (Go.Operand.func 32), args := #[Go.Operand.tmp 13], argTypes := #[9] }, type := 3, pos := "flat.go:174", after := #[{ on := 2, ground := Go.Ground.data }], guard := none }) rfl (fun K hK => ?_)
  (go_simp; go_at_call 32; refine (CW.out _).mono ?_; rintro e w4 ⟨rfl, rfl⟩)
  try go_wp2_with fail
  refine hK.out _ _ ?_ (fun hHeld => ?_)
  · (try dsimp only); exact hHeld
  clear hK K
  try simp only [Act.put, List.setIfInBounds_toArray, List.set_cons_zero, List.set_cons_succ]
  refine wpL_loud1 (o := { dst := some 15, op := Go.Op.call { callee := Go.Callee.value (Go.Operand.func 31), args := #[Go.Operand.tmp 11, Go.Operand.tmp 12, Go.Operand.tmp 14], argTypes := #[23, 3, 3] }, type := 24, pos := "flat.go:174", after := #[{ on := 0, ground := Go.Ground.data }, { on := 1, ground := Go.Ground.data }, { on := 3, ground := Go.Ground.data }, { on := 3, ground := Go.Ground.chain }], guard := none }) rfl (fun K hK => ?_)
  (go_simp; go_at_call 31; refine CR.out.mono ?_; rintro e w4 ⟨rfl, rfl⟩)
  try go_wp2_with fail
  refine hK.out _ _ ?_ (fun hHeld => ?_)
  · (try dsimp only); exact hHeld
  clear hK K
  try simp only [Act.put, List.setIfInBounds_toArray, List.set_cons_zero, List.set_cons_succ]
  (refine wpL_calm (o := { dst := some 16, op := Go.Op.binOp Go.BinOp.neq 24 (Go.Operand.tmp 15) (Go.Operand.const (Go.Value.int Go.IntKind.i64 0)) 24, type := 4, pos := "flat.go:174", after := #[{ on := 4, ground := Go.Ground.data }], guard := none }) (v := ?_) rfl (Or.inl ⟨by rfl, ?_⟩) ?_; rotate_left; (focus (intro w hSw; (try dsimp only at hSw); go_simp; (try (with_reducible rfl)); done)); try simp only [Act.put, List.setIfInBounds_toArray, List.set_cons_zero, List.set_cons_succ])
  refine wpL_nil ?_
  refine NoPanic.normal ?_
  clear CW CR k4 hHeld
  generalize w1.drew = w2 at *
  by_cases hr0 : r = 0
  · as_aux_lemma =>
    have hr0' : (r != 0) = false := by rw [hr0]; rfl
    have hz := hr.out.trans hr0
    obtain ⟨p1, p2, p3⟩ := refF_ok hz
    have hsz := whole_ok (n := s.size) (by rw [hk]; exact p1)
    rw [hk] at hsz
    obtain ⟨A, rfl⟩ : ∃ A : Nat, a = (A : Int) := ⟨a.toNat, by omega⟩
    obtain ⟨vt, vf, vc, cm, bm, D, hfl, rfl, rfl⟩ := HD1.out
    have HFL := Lib.hid hfl
    have CN := Lib.hid (numbers_any s k hfl hsz (by omega))
    unfold NumR at CN
    have hpl := pcs_len s.data.toList k
    obtain ⟨PS, hPS⟩ : ∃ PS, pcs s.data.toList k = PS := ⟨_, rfl⟩
    have hTo : ((A : Int)).toNat = A := by omega
    rw [hPS] at CN HSB HSM hpl
    rw [hz, hTo] at HSB
    rw [hTo] at HSM
    have hAk : A + k ≤ 64 := by omega
    clear hfl hr hz p1 p2 p3 hPS hTo hr0 HD1
    go_wp2_with fail
    refine CN.out.mono ?_
    rintro e w3 ⟨a3, n3, c3, kn, rfl, b3, hy, hno⟩
    have HB3 := Lib.hid (HB1.out.trans (b3.mono HB1.out.size))
    have HY := Lib.hid hy
    have HNO := Lib.hid hno
    have k43 : w3.cell? ⟨q4, 0, none⟩ = some (.int .i64 (A : Int)) := (b3.cell (p := ⟨q4, 0, none⟩) hq4l).trans hk4d
    have hq43 : q4 < w3.heap.size := Nat.lt_of_lt_of_le hq4l b3.size
    have HF3 := Lib.hid (HFL.out.below b3)
    have HS3 := Lib.hid b3.size
    obtain ⟨w4, hw4⟩ : ∃ w4, w3.alloc (.cells #[.slice a3 n3 c3] 67) = w4 := ⟨_, rfl⟩
    have b4 : Below w3.heap.size w3 w4 := by rw [← hw4]; exact (Below.refl _ _).alloc (Nat.le_refl _) _
    have k7 : w4.cell? ⟨w3.heap.size, 0, none⟩ = some (.slice a3 n3 c3) := by rw [← hw4]; exact World.cell?_alloc_at _ _ _ _ rfl
    have l7 : w3.heap.size < w4.heap.size := by rw [← hw4]; simp
    have HB4 := Lib.hid (HB3.out.trans (b4.mono HB3.out.size))
    have k44 : w4.cell? ⟨q4, 0, none⟩ = some (.int .i64 (A : Int)) := (b4.cell (p := ⟨q4, 0, none⟩) hq43).trans k43
    have hq44 : q4 < w4.heap.size := Nat.lt_of_lt_of_le hq43 b4.size
    have HF4 := Lib.hid (HF3.out.below b4)
    have HB34 := Lib.hid b4
    obtain ⟨q7, hq7⟩ : ∃ q7, Hid (w3.heap.size = q7) := ⟨_, Lib.hid rfl⟩
    have HW4 := Lib.hid hw4
    rw [hq7.out] at k7 l7
    clear CN b3 hy hno b4 hw4 k43 hq43 hk4d hHeld
    go_upto_region 4 with fail
    rw [HW4.out, hq7.out]
    clear HW4
    by_cases hall : allIn M.T PS
    · as_aux_lemma =>
      obtain ⟨rfl, hn3, hrow⟩ := HY.out hall
      have hn3k : n3 = k := by omega
      have hbl : (numL M.T PS).length = n3 := by unfold numL; rw [List.length_map]; exact hn3.symm
      obtain ⟨bs, hbs⟩ : ∃ bs, Hid (numL M.T PS = bs) := ⟨_, Lib.hid rfl⟩
      rw [hbs.out] at hrow hbl
      have hrow' := hrow
      rw [← hbl] at hrow'
      have hch := (int_row_ch (c := c3) hrow').1
      have HNA := Lib.hid (hch.below HB34.out)
      have CSF := Lib.hid (sifter_any g w4)
      have hent := sift1_enter
      rw [← hbl] at k7
      rw [← hbl]
      have habk : A + bs.length ≤ 64 := by omega
      clear HY HNO hrow hrow' hch HF3 HS3 HB3
      go_wp2_with fail
      refine CSF.out.mono ?_
      rintro e w5 ⟨rfl, k1, l1, b5⟩
      have HB5 := Lib.hid (HB4.out.trans (b5.mono HB4.out.size))
      have CI := Lib.hid (sift1_any bs A w4.heap.size q4 q7 a3 c3 (HF4.out.below b5) hn HHC.out hCn HHF.out hFn (HNA.out.below b5) habk k1 ((b5.cell (p := ⟨q4, 0, none⟩) hq44).trans k44) ((b5.cell (p := ⟨q7, 0, none⟩) l7).trans k7) l1 (Nat.lt_of_lt_of_le hq44 b5.size) (Nat.lt_of_lt_of_le l7 b5.size))
      unfold SiftR at CI
      have HF5 := Lib.hid (HF4.out.below b5)
      have hs5 := HB5.out.size
      clear CSF b5 k1 l1 k44 k7
      go_wp2_with fail
      refine CI.out.mono ?_
      rintro e w6 ⟨x6, c6, rfl, hO6, b6⟩
      have HB6 := Lib.hid (HB5.out.trans (b6.mono hs5))
      have HF6 := Lib.hid (HF5.out.below b6)
      have HO6 := Lib.hid hO6
      have hgr := HF6.out.hg
      have c36 := cell_of_row w6 g 3 _ _ _ hgr
      have f36 := frozen_of_row w6 g 3 _ _ hgr
      have HSB2 : Hid (sawB M (A : Int) s = !(sawL M A bs).isEmpty) := Lib.hid (by rw [HSB.out, decide_eq_true hall, hbs.out]; simp)
      rw [hbs.out] at HSM
      have HSET := Lib.hid (HF6.out.set_f (F := sawL M A bs) (v := .slice x6 (sawL M A bs).length c6) (Nat.le_trans H.out.bw hs5) HO6.out)
      have HLE : Hid ((sawL M A bs).isEmpty = decide ((sawL M A bs).length = 0)) := Lib.hid (by cases sawL M A bs <;> simp)
      generalize sawL M A bs = SL at *
      obtain ⟨m, hm⟩ : ∃ m, Hid (SL.length = m) := ⟨_, Lib.hid rfl⟩
      rw [hm.out] at HSET HLE hO6
      rw [hm.out]
      clear CI b6 hO6 hgr HB4 HF4 HF5 HB5 HNA
      by_cases hm0 : m = 0
      · as_aux_lemma =>
        have hB : sawB M (A : Int) s = false := by rw [HSB2.out, HLE.out, decide_eq_true hm0]; rfl
        have hM : sawM M (A : Int) s = M := by rw [HSM.out, hB]; rfl
        have HEND := Lib.hid (FlS.of_below H.out HB6.out)
        subst hm0
        clear HSET HSB2 HSM HSB
        go_wp2_with fail
        go_ret
        exact ⟨by rw [hB]; rfl, by rw [hM]; exact HEND.out⟩
      · as_aux_lemma =>
        have hB : sawB M (A : Int) s = true := by rw [HSB2.out, HLE.out, decide_eq_false hm0]; rfl
        have hM : sawM M (A : Int) s = { M with F := SL } := by rw [HSM.out, if_pos hB]
        have hmi : ((m : Int) == 0) = false := by simp; omega
        have HEND : Hid (FlS w (w6.setCell ⟨g, 3, none⟩ (.slice x6 m c6)) B g (OwnL g vt vf vc bm) (chL cm) { M with F := SL }) := Lib.hid (by
          have k6 : Kq B (OwnL g vt vf vc bm) w w6 := Kq.of_below HB6.out H.out.bw
          refine ⟨_, _, ⟨vt, _, vc, cm, bm, D, HSET.out, rfl, rfl⟩, k6.setCell 3 _ HF6.out.bg (mem_own.2 (Or.inl rfl)), fun j hj => ?_, fun j hj => Or.inl hj⟩
          rcases mem_own.1 hj with h1 | h1 | h1 | h1 | h1
          · exact Or.inl (mem_own.2 (Or.inl h1))
          · exact Or.inl (mem_own.2 (Or.inr (Or.inl h1)))
          · exact Or.inl (mem_own.2 (Or.inr (Or.inr (Or.inl h1))))
          · have hh := HO6.out
            rw [hm.out] at hh
            exact Or.inr (Nat.le_trans hs5 (hh.lt j h1).1)
          · exact Or.inl (mem_own.2 (Or.inr (Or.inr (Or.inr (Or.inr h1))))))
        clear HSET HSB2 HSM HSB
        go_wp2_with fail
        go_ret
        exact ⟨by rw [hB]; rfl, by rw [hM]; exact HEND.out⟩
    · as_aux_lemma =>
      obtain ⟨rfl, rfl⟩ := HNO.out hall
      have hB : sawB M (A : Int) s = false := by rw [HSB.out, decide_eq_false hall]; simp
      have hM : sawM M (A : Int) s = M := by rw [HSM.out, hB]; rfl
      have HEND := Lib.hid (FlS.of_below H.out HB4.out)
      clear HY HNO HSB HSM
      go_wp2_with fail
      go_ret
      exact ⟨by rw [hB]; rfl, by rw [hM]; exact HEND.out⟩
  · as_aux_lemma =>
    have hr0' : (r != 0) = true := by simpa using hr0
    have hB : sawB M a s = false := by rw [HSB.out, hr.out, decide_eq_false hr0]; rfl
    have hM : sawM M a s = M := by rw [HSM.out, hB]; rfl
    have HEND := Lib.hid (FlS.of_below H.out HB1.out)
    go_wp2_with fail
    go_ret
    exact ⟨by rw [hB]; rfl, by rw [hM]; exact HEND.out⟩
end
end Go.Proofs.Ytaemnelfnopjdaa
