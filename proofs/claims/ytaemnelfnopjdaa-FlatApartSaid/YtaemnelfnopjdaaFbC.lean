/- Package flat: Copy. -/
import Derived.Test.YtaemnelfnopjdaaFaX
import Derived.Test.YtaemnelfnopjdaaFaJ
namespace Go.Proofs.Ytaemnelfnopjdaa
open Go.RowKit Go.Deep Go.Maps
set_option linter.unusedVariables false
set_option linter.unusedSimpArgs false
theorem own_src {P : Program} {w : World} {B n size : Nat} {e tx : TypeId} {v : Value} {xs : List Value} (hk : P.underlying tx = some (.slice e)) (h : w.ownsRow B e size v n xs) (h1 : ∀ u ∈ xs, u.oneCell' = true) : Src P size tx v n xs w := by
  have hlen := h.1
  rcases h.2 with ⟨rfl, rfl⟩ | ⟨g, cap, cur, rfl, q1, q2, q3⟩
  · have : xs = [] := List.length_eq_zero_iff.1 (by rw [hlen]; omega)
    subst this
    exact Src.ofNil w hk 0
  · exact Src.ofSlice w hk ⟨g, 0, none⟩ n cap xs hlen (fun j u hu => h.cells rfl j u hu) h1
theorem below_grown_none {w w' : World} (h : w.grownBy w' none) : Below w.heap.size w w' := ⟨h.os, h.tape, h.output, h.size, fun k hk => h.block k hk (fun e => by cases e)⟩
theorem nCf_one (L : List (List Nat)) : ∀ u ∈ L.flatMap nC, u.oneCell' = true := fun u hu => by
  obtain ⟨s, _, h⟩ := List.mem_flatMap.1 hu
  exact nC_one s u h
theorem chf_one (L : List Ch) : ∀ u ∈ L.flatMap chC, u.oneCell' = true := fun u hu => by
  obtain ⟨c, _, h⟩ := List.mem_flatMap.1 hu
  unfold chC at h
  simp at h
  rcases h with rfl | rfl <;> rfl
theorem setcell_pre {w : World} {g j k : Nat} {v : Value} (h : k ≠ g) : (w.setCell ⟨g, j, none⟩ v).heap[k]? = w.heap[k]? := Below.heap_setCell w ⟨g, j, none⟩ v k h
section
variable {w w4 w5 w7 : World} {B g bm : Nat} {M : Fl} {vt vf vc v5 : Value} {cm : List Ch} {D : DataW Unit}
/-- A text more. -/
theorem FlAt.add_t (h : FlAt w B g M vt vf vc cm bm D) {s : List UInt8} (hin : s ∉ M.T) (k4 : Below w.heap.size w w4)
    (O5 : w5.ownsRow B 9 1 v5 (M.T.length + 1) (strF M.T ++ [.string ⟨s.toArray⟩])) (G5 : w4.grownBy w5 vt.ownBlock)
    (M7 : w7.ownsMap Try.prog 9 (plainElem Try.prog 3) bm (M.T.length + 1) (D.put (kS s) (.lit (.int .i64 (M.T.length : Int))))) (G7 : (w5.setCell ⟨g, 1, none⟩ v5).grownBy w7 (some bm)) :
    FlAt w7 B g { M with T := M.T ++ [s] } v5 vf vc cm bm (D.put (kS s) (.lit (.int .i64 (M.T.length : Int)))) ∧ Below B w w7 := by
  have h4 := h.below k4
  have hb4 : B ≤ w4.heap.size := h4.bw
  have hs6 : (w5.setCell ⟨g, 1, none⟩ v5).heap.size = w5.heap.size := by simp [World.setCell]
  have hg5 : w5.heap[g]? = some (.cells #[.int .i64 (M.n : Int), vt, .map (some bm), vf, vc] 60 (0, 0)) := (G5.block g h4.lt (fun e => (h4.tf e.symm).2.2.1 rfl)).trans h4.hg
  have hg6 := fl_set1 (v := v5) hg5
  have O6 := own_setF (j := 1) (u := v5) O5 hg5 (by decide)
  have hm5 := map_at_block h4.hm (G5.block bm (World.ownsMap.lt h4.hm) (fun e => (h4.tf e.symm).2.2.2 rfl))
  have hm6 := map_at_block hm5 (setcell_pre (g := g) (j := 1) (v := v5) (fun e => map_block hm5 hg5 e.symm))
  have hg7 := (G7.block g (by rw [hs6]; exact (Array.getElem?_eq_some_iff.1 hg5).1) (fun e => map_block hm6 hg6 (Option.some.inj e))).trans hg6
  have O7 := own_grown O6 G7 (Or.inr (own_nomap O6 hm6))
  have oth : ∀ k, k < w4.heap.size → vt.ownBlock ≠ some k → k ≠ g → k ≠ bm → w7.heap[k]? = w4.heap[k]? := fun k hk h1 h2 h3 =>
    (G7.block k (by rw [hs6]; exact Nat.lt_of_lt_of_le hk G5.size) (fun e => h3 (Option.some.inj e))).trans ((setcell_pre h2).trans (G5.block k hk (fun e => h1 e.symm)))
  have hlen : (M.T ++ [s]).length = M.T.length + 1 := by rw [List.length_append]; rfl
  refine ⟨{ hg := hg7, bg := h.bg, ht := ?_, hm := ?_, bb := h.bb, ix := (h.ix).put h.hm.isMap s hin, hf := ?_, hc := ?_, ch := fun c hc => ?_, ce := h.ce }, ?_⟩
  · show w7.ownsRow B 9 1 v5 (M.T ++ [s]).length _
    rw [hlen, List.map_append]
    exact O7
  · show w7.ownsMap Try.prog 9 _ bm (M.T ++ [s]).length _
    rw [hlen]; exact M7
  · exact own_at_block h4.hf (fun k e => oth k (h4.hf.lt k e).2 (h4.ff e).1 (h4.ff e).2.2.1 (h4.ff e).2.2.2)
  · exact own_at_block h4.hc (fun k e => oth k (h4.hc.lt k e).2 (h4.fc e).1 (h4.fc e).2.2.1 (h4.fc e).2.2.2)
  · have hx := h4.ch c hc
    refine hx.same (by have := G7.size; rw [hs6] at this; exact Nat.le_trans G5.size this) (fun a ea => oth a.block (hx.2 a ea).1 (fun e => ?_) (fun e => ?_) (fun e => ?_))
    · have := (hx.2 a ea).2; rw [tyAt_row h4.ht e] at this; revert this; decide
    · have := (hx.2 a ea).2; rw [e, tyAt_cells h4.hg] at this; revert this; decide
    · have := (hx.2 a ea).2; rw [e, tyAt_map h4.hm] at this; cases this
  · have b5 : Below B w w5 := (k4.mono h.bw).grown G5 hb4 (fun k e => (h4.ht.lt k e).1)
    have b6 : Below B w (w5.setCell ⟨g, 1, none⟩ v5) := b5.setCell (p := ⟨g, 1, none⟩) h.bg v5
    exact b6.grown G7 (by rw [hs6]; exact Nat.le_trans hb4 G5.size) (fun k e => by cases e; exact h.bb)
/-- Changes, of another model's blocks. -/
theorem FlAt.set_c (h : FlAt w B g M vt vf vc cm bm D) {C : List (Nat × List Nat)} {cm' : List Ch} {B0 : Nat} (hB : B ≤ B0) (O : w.ownsRow B0 70 2 v5 C.length (cm'.flatMap chC)) (hch : ∀ c ∈ cm', ChAt w c.o c.b) (hce : C = cm'.map chP) : FlAt (w.setCell ⟨g, 4, none⟩ v5) B g { M with C := C } vt vf v5 cm' bm D :=
  have ho : ∀ k, k ≠ g → (w.setCell ⟨g, 4, none⟩ v5).heap[k]? = w.heap[k]? := fun k hk => Below.heap_setCell w ⟨g, 4, none⟩ v5 k hk
  { hg := fl_set4 h.hg
    bg := h.bg
    ht := own_at_block h.ht (fun k e => ho k (h.tf e).2.2.1)
    hm := map_at_block h.hm (ho bm (fun e => h.gbm e.symm))
    bb := h.bb
    ix := h.ix
    hf := own_at_block h.hf (fun k e => ho k (h.ff e).2.2.1)
    hc := own_setF (own_weakF O hB) h.hg (by decide)
    ch := fun c hc => (hch c hc).same (by simp [World.setCell]) (fun a ea => ho a.block (fun e1 => by have := ((hch c hc).2 a ea).2; rw [e1, tyAt_cells h.hg] at this; revert this; decide))
    ce := hce }
end
section
variable {w : World} {B g : Nat} {M : Fl} {OL CL : List Nat}
set_option maxRecDepth 100000 in
set_option maxHeartbeats 8000000 in
theorem copy_any (h : FlW w B g OL CL M) (hok : FlOk M) (hT : M.T.length ≤ 100000) (hFn : M.F.length ≤ 2000000000) (hCn : M.C.length ≤ 100000) : Calls Try.prog 22 #[.pointer (some ⟨g, 0, none⟩)] w fun e w' => ∃ g' OL', e = .returned (.pointer (some ⟨g', 0, none⟩)) ∧ FlW w' w.heap.size g' OL' CL M ∧ Below w.heap.size w w' := by
  obtain ⟨vt, vf, vc, cm, bm, D, h, rfl, rfl⟩ := h
  have hmm := @run_makeMap Try.prog
  have H := Lib.hid h
  have HOK := Lib.hid hok
  have c0 := cell_of_row w g 0 _ _ _ h.hg
  have c1 := cell_of_row w g 1 _ _ _ h.hg
  obtain ⟨w1, hw1⟩ : ∃ w1, w.alloc (.map #[] 0) = w1 := ⟨_, rfl⟩
  obtain ⟨w2, hw2⟩ : ∃ w2, w1.alloc (.cells #[.int .i64 (M.n : Int), .slice none 0 0, .map (some w.heap.size), .slice none 0 0, .slice none 0 0] 60) = w2 := ⟨_, rfl⟩
  have b1 : Below w.heap.size w w1 := by rw [← hw1]; exact (Below.refl _ _).alloc (Nat.le_refl _) _
  have s1 : w1.heap.size = w.heap.size + 1 := by rw [← hw1]; simp
  have b2 : Below w1.heap.size w1 w2 := by rw [← hw2]; exact (Below.refl _ _).alloc (Nat.le_refl _) _
  have s2 : w2.heap.size = w.heap.size + 1 + 1 := by rw [← hw2, ← s1]; simp
  have m1 : w1.ownsMap Try.prog 9 (plainElem Try.prog 3) w.heap.size 0 (DataW.map [] : DataW Unit) := by rw [← hw1]; exact World.ownsMap_made (H := Unit) w Try.prog 9 _
  have m2 := map_at_block m1 (b2.block w.heap.size (by omega))
  have r2 : w2.heap[w.heap.size + 1]? = some (.cells #[.int .i64 (M.n : Int), .slice none 0 0, .map (some w.heap.size), .slice none 0 0, .slice none 0 0] 60 (0, 0)) := by rw [← hw2, ← s1]; exact heap_alloc_new _ _
  have HI0 : Hid (FlAt w2 w.heap.size (w.heap.size + 1) ⟨M.n, M.T.take 0, [], []⟩ (.slice none 0 0) (.slice none 0 0) (.slice none 0 0) [] w.heap.size (DataW.map [])) := Lib.hid
    { hg := r2, bg := by omega, ht := World.ownsRow_nil _ _ _ _, hm := m2, bb := Nat.le_refl _, ix := Idx.nil, hf := World.ownsRow_nil _ _ _ _, hc := World.ownsRow_nil _ _ _ _, ch := fun c hc => (by cases hc), ce := rfl }
  have HB2 : Hid (Below w.heap.size w w2) := Lib.hid (b1.trans (b2.mono b1.size))
  have HS1 : Hid (w1.heap.size = w.heap.size + 1) := Lib.hid s1
  have HW1 := Lib.hid hw1
  have HW2 := Lib.hid hw2
  obtain ⟨B0, hB0⟩ : ∃ B0, Hid (w.heap.size = B0) := ⟨_, Lib.hid rfl⟩
  have hbz : B0 ≤ w2.heap.size := by rw [← hB0.out]; exact HB2.out.size
  rw [hB0.out] at HI0 HB2 HS1 HW2
  obtain ⟨ta, tc, evt⟩ := own_slF h.ht
  obtain ⟨tn, htn⟩ : ∃ tn, Hid (M.T.length = tn) := ⟨_, Lib.hid rfl⟩
  rw [htn.out] at evt hT
  subst evt
  obtain ⟨is, his, hz0, hz1, hz2⟩ := info_partsF info_str'
  clear h hok b1 s1 b2 s2 m1 m2 r2 hw1 hw2
  go_enter Try.func22, Try.ntmps22
  go_upto_region 4 with fail
  rw [HW1.out]
  try rw [hB0.out]
  rw [HW2.out]
  try rw [HS1.out]
  have c12 := cell_of_row w2 g 1 _ _ _ (H.out.below (by rw [hB0.out]; exact HB2.out)).hg
  clear HW1 HW2 HS1 hmm c0 c1
  go_wp2_with fail
  go_loopw [20] (fun s20 wi => ∃ (i : Nat) (a' : Option Addr) (c' : Nat) (D' : DataW Unit), s20 = .int .i64 (i : Int) ∧ i ≤ tn ∧ Hid (FlAt wi B0 (B0 + 1) ⟨M.n, M.T.take i, [], []⟩ (.slice a' i c') (.slice none 0 0) (.slice none 0 0) [] B0 D') ∧ Hid (Below B0 w wi) ∧ B0 ≤ wi.heap.size) (fun s20 _ => tn - (intOf s20).toNat)
  case atStart => exact ⟨0, none, 0, DataW.map [], rfl, by omega, HI0, HB2, hbz⟩
  case round =>
    obtain ⟨i, a', c', D', rfl, hi, HI, HB, hwi⟩ := hrel
    clear c12 HI0 HB2 hbz
    have Hi := Lib.hid (H.out.below (by rw [hB0.out]; exact HB.out))
    by_cases hlt : i < tn
    · as_aux_lemma =>
      have hli : (i : Int) < (tn : Int) := by omega
      have h0i : (0 : Int) ≤ (i : Int) := by omega
      have hiT : i < M.T.length := by rw [htn.out]; exact hlt
      obtain ⟨gt, ct, et, _, _, hgtl, hrt⟩ := own_rowG Hi.out.ht (by omega)
      have hct := hrt i (.string ⟨(M.T[i]).toArray⟩) (by rw [List.getElem?_map, List.getElem?_eq_getElem hiT]; rfl)
      rw [Nat.zero_add] at hct
      rw [htn.out] at et
      injection et with e1 _ e3
      subst e1 e3
      have hnot : M.T[i] ∉ M.T.take i := fun hm => by
        have hnd := HOK.out.nd
        have e0 : M.T = M.T.take i ++ (M.T[i] :: M.T.drop (i + 1)) := by rw [← List.drop_eq_getElem_cons hiT, List.take_append_drop]
        have hnd2 : (M.T.take i ++ (M.T[i] :: M.T.drop (i + 1))).Nodup := by rw [← e0]; exact hnd
        exact (List.nodup_append.1 hnd2).2.2 _ hm M.T[i] (List.mem_cons_self ..) rfl
      have ht48 := HOK.out.t48 _ (List.getElem_mem hiT)
      have htk : M.T.take (i + 1) = M.T.take i ++ [M.T[i]] := (List.take_append_getElem hiT).symm
      have hTl : (M.T.take i).length = i := by rw [List.length_take]; omega
      obtain ⟨tx, htx⟩ : ∃ tx, Hid (M.T[i] = tx) := ⟨_, Lib.hid rfl⟩
      rw [htx.out] at hct hnot ht48 htk
      obtain ⟨s, hs⟩ : ∃ s, Hid ((⟨tx.toArray⟩ : ByteArray) = s) := ⟨_, Lib.hid rfl⟩
      rw [hs.out] at hct
      have hgI := HI.out.hg
      have k1 := cell_of_row wr (B0 + 1) 1 _ _ _ hgI
      have hmI := HI.out.hm
      have hrow : wr.ownsRow B0 9 1 (.slice a' i c') i (strF (M.T.take i)) := by
        have := HI.out.ht
        rw [show (⟨M.n, M.T.take i, [], []⟩ : Fl).T = M.T.take i from rfl, hTl] at this
        exact this
      have hmI' : wr.ownsMap Try.prog 9 (plainElem Try.prog 3) B0 i D' := by
        have := hmI
        rw [show (⟨M.n, M.T.take i, [], []⟩ : Fl).T = M.T.take i from rfl, hTl] at this
        exact this
      have HKEY := Lib.hid (show keyOf Try.prog 9 (.string s) = some (kS tx) by
        have : s.data.toList = tx := by rw [← hs.out]
        rw [← this]
        exact Go.WideMaps.keyOf_string_mk Try.underlying9 (by rw [← hs.out, bytes_size, ht48]; unfold maxLen; decide))
      have HWF := Lib.hid (nat_wf i (by omega))
      have HN : Hid (i < maxLen) := Lib.hid (by unfold maxLen; omega)
      obtain ⟨w4, hw4⟩ : ∃ w4, wr.alloc (.cells #[.string s] 9) = w4 := ⟨_, rfl⟩
      have b4 : Below wr.heap.size wr w4 := by rw [← hw4]; exact (Below.refl _ _).alloc (Nat.le_refl _) _
      have hsrc := src_str (w := wr) s
      rw [hw4] at hsrc
      have hrow4 := own_at_block hrow (fun j e => b4.block j (hrow.lt j e).2)
      have o1 : i + 1 ≤ maxLen := by unfold maxLen; omega
      have o2 : (i + 1) * 16 ≤ 140737488355328 := by omega
      have o3 : B0 ≤ w4.heap.size := Nat.le_trans hwi b4.size
      have hgl4 : B0 + 1 < w4.heap.size := Nat.lt_of_lt_of_le HI.out.lt b4.size
      have HW4 := Lib.hid hw4
      have h4g := (HI.out.below b4).hg
      have hm4 := map_at_block hmI' (b4.block B0 (World.ownsMap.lt hmI'))
      have HST : Hid (strF [tx] = [.string s]) := Lib.hid (by rw [← hs.out]; rfl)
      clear hw4 hmI hgI
      go_wp2_with (first | (at_builtin; rw [HW4.out]; refine wpList_append_src2 _ rfl _ _ 49 49 rfl B0 9 is (.string ⟨#[]⟩) 1 16 Try.underlying49 his hz0 hz1 hz2 rfl (by decide) (.slice a' i c') i (strF (M.T.take i)) rfl hrow4 _ 1 [.string s] rfl hsrc o1 o2 o3 ?_; intro v5 w5 O5 G5 L5; obtain ⟨a5, c5, rfl⟩ := own_slF O5; have hg5 := (G5.block (B0 + 1) hgl4 (fun e => (HI.out.tf e.symm).2.2.1 rfl)).trans h4g; have c05 := cell_of_row w5 (B0 + 1) 1 _ _ _ hg5; have f05 := frozen_of_row w5 (B0 + 1) 1 _ _ hg5; have c25 := cell_of_row w5 (B0 + 1) 2 _ _ _ hg5; have hm5 := map_at_block hm4 (G5.block B0 (World.ownsMap.lt hm4) (fun e => (HI.out.tf e.symm).2.2.2 rfl))) | (at_mapUpdate; have hm6 := map_at_block hm5 (setcell_pre (g := B0 + 1) (j := 1) (v := .slice a5 (i + 1) c5) (fun e => map_block hm5 hg5 e.symm)); refine wpList_mapUpdate_own _ rfl _ _ _ 54 rfl 9 3 lawS Try.underlying54 _ B0 i D' rfl hm6 HN.out _ _ (kS tx) rfl rfl HKEY.out (.lit (.int .i64 (i : Int))) [] (plainElem_int Try.underlying3 HWF.out) ?_; intro w7 M7 G7))
      have hadd := HI.out.add_t (s := tx) (w4 := w4) (w5 := w5) (w7 := w7) (v5 := .slice a5 (i + 1) c5) hnot b4 (by rw [show (⟨M.n, M.T.take i, [], []⟩ : Fl).T = M.T.take i from rfl, hTl, hs.out]; exact O5) G5 (by rw [show (⟨M.n, M.T.take i, [], []⟩ : Fl).T = M.T.take i from rfl, hTl]; exact M7) G7
      rw [show (⟨M.n, M.T.take i, [], []⟩ : Fl).T = M.T.take i from rfl, hTl] at hadd
      have HI2 : Hid (FlAt w7 B0 (B0 + 1) ⟨M.n, M.T.take (i + 1), [], []⟩ (.slice a5 (i + 1) c5) (.slice none 0 0) (.slice none 0 0) [] B0 (D'.put (kS tx) (.lit (.int .i64 (i : Int))))) := Lib.hid (by rw [htk]; exact hadd.1)
      have HB7 := Lib.hid (HB.out.trans hadd.2)
      have hw7 : B0 ≤ w7.heap.size := Nat.le_trans hwi hadd.2.size
      clear hadd O5 G5 L5 M7 G7 hm4 h4g hrow4 hsrc c05 f05 c25 hg5 hrow hmI' k1 hct HI HB Hi
      go_wp2_with fail
      go_roundw
      case rel => exact ⟨i + 1, a5, c5, _, by go_num, by omega, HI2, HB7, hw7⟩
      case measure => simp [intOf]; omega
    · as_aux_lemma =>
      have hli : ¬ (i : Int) < (tn : Int) := by omega
      obtain rfl : i = tn := by omega
      obtain ⟨Z, hZ, hZi⟩ := info_stF
      obtain ⟨ist, hist, hsz0, hsz1, hsz2⟩ := info_partsF hZi
      obtain ⟨ic, hic, hcz0, hcz1, hcz2⟩ := info_partsF info_chF
      have k3 := cell_of_row wr (B0 + 1) 3 _ _ _ HI.out.hg
      have fk3 := frozen_of_row wr (B0 + 1) 3 _ _ HI.out.hg
      have j3 := cell_of_row wr g 3 _ _ _ Hi.out.hg
      have hsrcF := own_src (tx := 57) Try.underlying57 Hi.out.hf (nCf_one M.F)
      have o1 : 0 + M.F.length ≤ maxLen := by unfold maxLen; omega
      have o2 : (0 + M.F.length) * 512 ≤ 140737488355328 := by omega
      have q1 : 0 + M.C.length ≤ maxLen := by unfold maxLen; omega
      have q2 : (0 + M.C.length) * 32 ≤ 140737488355328 := by omega
      have hgne : g < B0 := by rw [← hB0.out]; exact H.out.lt
      go_wp2_with (first | (at_builtin; refine wpList_append_src2 _ rfl _ _ 57 57 rfl B0 56 ist Z 64 512 Try.underlying57 hist hsz0 hsz1 hsz2 hZ (by decide) (.slice none 0 0) 0 [] rfl (World.ownsRow_nil _ _ _ _) vf M.F.length (M.F.flatMap nC) rfl hsrcF o1 o2 hwi ?_; intro v5 w5 O5 G5 L5; rw [Nat.zero_add, List.nil_append] at O5; obtain ⟨a5, c5, rfl⟩ := own_slF O5; have b5 : Below wr.heap.size wr w5 := below_grown_none G5; have HI5 := HI.out.below b5; have H5 := Hi.out.below b5; have k35 := cell_of_row w5 (B0 + 1) 3 _ _ _ HI5.hg; have f35 := frozen_of_row w5 (B0 + 1) 3 _ _ HI5.hg; have k45 := cell_of_row w5 (B0 + 1) 4 _ _ _ HI5.hg; have f45 := frozen_of_row w5 (B0 + 1) 4 _ _ HI5.hg; have j45 := cell_of_row w5 g 4 _ _ _ H5.hg) | (at_builtin; have b6 : Below B0 w5 (w5.setCell ⟨B0 + 1, 3, none⟩ (.slice a5 M.F.length c5)) := (Below.refl B0 w5).setCell (p := ⟨B0 + 1, 3, none⟩) (by show B0 ≤ B0 + 1; omega) _; have bw6 : Below B0 w (w5.setCell ⟨B0 + 1, 3, none⟩ (.slice a5 M.F.length c5)) := (HB.out.trans (b5.mono hwi)).trans b6; have H6 := H.out.below (by rw [hB0.out]; exact bw6); have HI6 := HI5.set_f (F := M.F) (v := .slice a5 M.F.length c5) (Nat.le_refl _) O5; have hsrcC := own_src (tx := 58) Try.underlying58 H6.hc (chf_one cm); refine wpList_append_src2 _ rfl _ _ 58 58 rfl B0 70 ic (.agg #[.int .i64 0, .slice none 0 0]) 2 32 Try.underlying58 hic hcz0 hcz1 hcz2 rfl (by decide) (.slice none 0 0) 0 [] rfl (World.ownsRow_nil _ _ _ _) vc M.C.length (cm.flatMap chC) rfl hsrcC q1 q2 HI6.bw ?_; intro v8 w8 O8 G8 L8; rw [Nat.zero_add, List.nil_append] at O8; obtain ⟨a8, c8, rfl⟩ := own_slF O8; have b8 := below_grown_none G8; have HI8 := HI6.below b8; have H8 := H6.below b8; have k48 := cell_of_row w8 (B0 + 1) 4 _ _ _ HI8.hg; have f48 := frozen_of_row w8 (B0 + 1) 4 _ _ HI8.hg))
      have HI9 := HI8.set_c (C := M.C) (cm' := cm) (v5 := .slice a8 M.C.length c8) (Nat.le_refl _) O8 H8.ch H.out.ce
      have hMe : ({ n := M.n, T := M.T.take i, F := M.F, C := M.C } : Fl) = M := by rw [List.take_of_length_le (by rw [htn.out]; exact Nat.le_refl _)]
      have HEND : Hid (FlW (w8.setCell ⟨B0 + 1, 4, none⟩ (.slice a8 M.C.length c8)) B0 (B0 + 1) (OwnL (B0 + 1) (.slice a' i c') (.slice a5 M.F.length c5) (.slice a8 M.C.length c8) B0) (chL cm) M) := Lib.hid ⟨_, _, _, _, _, _, by
        have := HI9
        rw [← hMe]
        exact this, rfl, rfl⟩
      have HBE : Hid (Below B0 w (w8.setCell ⟨B0 + 1, 4, none⟩ (.slice a8 M.C.length c8))) := Lib.hid ((bw6.trans (b8.mono HI6.bw)).setCell (p := ⟨B0 + 1, 4, none⟩) (by show B0 ≤ B0 + 1; omega) _)
      clear O5 O8 G5 G8 L5 L8 b5 b6 b8 bw6 HI5 HI6 HI8 HI9 H5 H6 H8 k35 f35 k45 f45 j45 k48 f48 k3 fk3 j3 hsrcF hsrcC
      go_wp2_with fail
      go_ret
      exact ⟨_, rfl, ⟨_, by rw [hB0.out]; exact HEND.out⟩, by rw [hB0.out]; exact HBE.out⟩
end
end Go.Proofs.Ytaemnelfnopjdaa
