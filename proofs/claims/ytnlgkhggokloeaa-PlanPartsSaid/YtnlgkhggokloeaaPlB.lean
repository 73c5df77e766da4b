/- Package plan: last. -/
import Derived.Test.YtnlgkhggokloeaaPlA
namespace Go.Proofs.Ytnlgkhggokloeaa
open Go.RowKit Go.Deep
set_option linter.unusedVariables false
set_option linter.unusedSimpArgs false
theorem mi_r (a b : Int) : miR (.int .i64 b) = some (encI (a, b), []) := rfl
theorem MiAt.put {w : World} {b n : Nat} {M : List Mi} {a i : Int} (h : w.ownsMap Try.prog 3 miR b n ((mapI (delI M a)).put (keyL a) (encI (a, i)))) : MiAt w b (setI M (a, i)) := by
  have e := mapI_put (delI M a) (a, i)
  rw [show setI (delI M a) (a, i) = setI M (a, i) from setI_del M (a, i)] at e
  exact MiAt.of (by rw [← e]; exact h)
theorem MiAt.del {w : World} {b n : Nat} {M : List Mi} {a : Int} (h : w.ownsMap Try.prog 3 miR b n ((mapI M).del (keyL a))) : MiAt w b (delI M a) := MiAt.of (by rw [← mapI_del]; exact h)
theorem delI_len (M : List Mi) (a : Int) : (delI M a).length ≤ M.length := List.length_filter_le _ _
theorem srtI_nodup {M : List Mi} (h : SrtI M) : (M.map (·.1)).Nodup := by
  rw [List.Nodup, List.pairwise_map]
  exact List.Pairwise.imp (fun h e => by omega) h
theorem ColI.permI {M : List Mi} {left : Lit → Bool} {ss : List Int} (h : ColI (mapI M) left ss) (hs : SrtI M) (hl : ∀ kl, left kl = false) : ss.Perm (M.map (·.1)) := by
  refine (List.perm_ext_iff_of_nodup h.1 (srtI_nodup hs)).2 fun x => ?_
  rw [h.2 x, mapI_has, hl]
  simp
theorem findI_srt : ∀ {L : List Mi}, SrtI L → ∀ i (hi : i < L.length), findI L L[i].1 = some L[i]
  | x :: r, h, 0, _ => by
    unfold findI
    show List.find? _ (x :: r) = some x
    rw [List.find?_cons_of_pos (by simp)]
  | x :: r, h, i + 1, hi => by
    have h' := List.pairwise_cons.1 h
    have hi' : i < r.length := by simpa using hi
    have ih := findI_srt h'.2 i hi'
    have hlt := h'.1 r[i] (List.getElem_mem hi')
    unfold findI at ih ⊢
    show List.find? (fun p => decide (p.1 = r[i].1)) (x :: r) = some r[i]
    rw [List.find?_cons_of_neg (by simp; omega)]
    exact ih
theorem zero_int : ∀ w, (zeroValue 3).run Try.prog w = .ok (.int .i64 0) w := fun w => by kernel_rfl
set_option maxRecDepth 100000 in
theorem look_mi {w : World} {b i : Nat} {M : List Mi} (h : MiAt w b M) (hs : SrtI M) (hw : WfI M) (hi : i < M.length) : (Instr.lookup 67 (.map (some b)) (.int .i64 M[i].1) false).run Try.prog w = .ok (.int .i64 M[i].2) w := by
  obtain ⟨v, ps, hrun, hv⟩ := World.ownsMap.lookup h intK Try.underlying67 (zero_int w) (zd := encI (0, 0)) (zp := []) rfl (key_of (hw M[i] (List.getElem_mem hi)))
  rw [mapI_at, findI_srt hs i hi] at hv
  obtain ⟨x, rfl, hx⟩ := miR_inv hv
  injection hx with hx _
  unfold encI at hx
  injection hx with hx
  injection hx with _ hx
  rw [hx]
  exact hrun
theorem srt_all (l : List Pu) : Srt (setAll [] l) := by
  have : ∀ i, i ≤ l.length → Srt (setAll [] (l.take i)) := by
    intro i
    induction i with
    | zero => intro _; exact List.Pairwise.nil
    | succ i ih =>
      intro hi
      rw [take_snoc l i (by omega), setAll_snoc]
      exact srt_set (ih (by omega)) _
  have h := this l.length (Nat.le_refl _)
  rwa [List.take_length] at h
theorem LastI.keys {l : List Pu} {M : List Mi} (h : LastI l l.length M) : M.map (·.1) = (setAll [] l).map (·.1) := by
  have he : M.map (atI l) = setAll [] l := by have := h.eq; rwa [List.take_length] at this
  rw [← he, List.map_map]
  apply List.map_congr_left
  intro y hy
  exact (h.key y hy).symm
/-- The sort of a row that lies in a register. -/
theorem sort_reg {base : Nat} {w : World} {ss : List Int} {v : Value} {L : List Pu} (hn : ss.length < 1000000) (ho : w.ownsRow base 3 1 v ss.length (ss.map (Value.int .i64))) (hp : ss.Perm (L.map (·.1))) (hs : Srt L) : Calls Try.prog 32 #[v] w fun e w' => e = .returned (.tuple #[]) ∧ Below base w w' ∧ ∃ ao c, v = .slice ao L.length c ∧ Hid (IntsO base w' ao (L.map (·.1))) := by
  have hlen : ss.length = L.length := by rw [hp.length_eq, List.length_map]
  rcases ho.2 with ⟨rfl, h0⟩ | ⟨g, cap, cur, rfl, hbg, hg, hnc, hcm, hcs, htk⟩
  · refine (Try.slices_Sort_int_none none 0 w).mono ?_
    rintro e w' ⟨rfl, rfl⟩
    exact ⟨rfl, Below.refl _ _, none, 0, by rw [← hlen, h0], Lib.hid (fun hp => by rw [List.length_map] at hp; omega)⟩
  · have hH := holds_of_blockI (ss := ss) hg (by simpa using htk)
    have hgl : g < w.heap.size := (Array.getElem?_eq_some_iff.1 hg).1
    refine (Try.slices_Sort_int g 0 cap ss w hH hgl (by omega)).mono ?_
    rintro e w' ⟨rfl, n, os, rfl⟩
    have hgr := grownBy_sortedI (w := w) (g := g) (n := n) (os := os) (ss.mergeSort fun x y => decide (x ≤ y)).toArray
    have hown := ownsRow_sortedI (n := n) (os := os) (ts := ss.mergeSort fun x y => decide (x ≤ y)) (by simp) hbg hg hnc hcm (by simpa using hcs)
    rw [sort_perm hp hs] at hown hgr ⊢
    refine ⟨rfl, (Below.refl _ _).grown hgr (Nat.le_trans hbg (Nat.le_of_lt hgl)) (fun j e => by injection e with e; omega), some ⟨g, 0, none⟩, cap, by rw [hlen], Lib.hid (fun hp => ⟨g, 0, rfl, hbg, Nat.lt_of_lt_of_le hgl hgr.size, fun i hi => ?_⟩)⟩
    have := hown.cells (g := g) rfl i (.int .i64 ((L.map (·.1)).getD i 0)) (by rw [List.getElem?_map, List.getD_eq_getElem?_getD, List.getElem?_eq_getElem hi]; rfl)
    rw [Addr.add_lit] at this
    exact this
set_option maxRecDepth 100000 in
set_option maxHeartbeats 8000000 in
theorem last_any (ao : Option Addr) (c : Nat) (l : List Pu) (w : World) (hat : PuAt w ao l) (hn : l.length ≤ 50000) (hw : Wf l) : Calls Try.prog 25 #[.slice ao l.length c] w (PuR (setAll [] l) w) := by
  have hmm := @run_makeMap Try.prog
  have h1 := World.ownsMap_made (H := Unit) w Try.prog 3 miR
  obtain ⟨w1, hw1⟩ : ∃ w1, w.alloc (.map #[] 0) = w1 := ⟨_, rfl⟩
  have B1 : Below w.heap.size w w1 := by rw [← hw1]; exact (Below.refl _ _).alloc (Nat.le_refl _) _
  have S1 : w1.heap.size = w.heap.size + 1 := by rw [← hw1]; simp
  rw [hw1] at h1
  have HM1 : Hid (MiAt w1 w.heap.size []) := Lib.hid (MiAt.of h1)
  have HAT := Lib.hid hat
  have HWL := Lib.hid hw
  obtain ⟨n, hnn⟩ : ∃ n, Hid (l.length = n) := ⟨_, Lib.hid rfl⟩
  obtain ⟨N, hN⟩ : ∃ N, Hid (w.heap.size = N) := ⟨_, Lib.hid rfl⟩
  have HW1 := Lib.hid hw1
  have HB1 := Lib.hid B1
  rw [hnn.out] at hn ⊢
  rw [hN.out] at HM1 HB1 S1
  obtain ⟨i0, hi0, hz0, hz1, hz2⟩ := info_partsO info_i64O
  clear h1 hat hw hw1 B1
  go_enter Try.func25, Try.ntmps25
  go_upto_region 2 with fail
  rw [HW1.out, hN.out]
  clear HW1
  go_wp2_with fail
  go_loopw [14] (fun s14 wi => ∃ (i : Nat) (M : List Mi), s14 = .int .i64 (i : Int) ∧ i ≤ n ∧ Hid (MiAt wi N M) ∧ Hid (LastI l i M) ∧ M.length ≤ i ∧ Hid (Below N w wi) ∧ N < wi.heap.size) (fun s14 _ => n - (intOf s14).toNat)
  case atStart => exact ⟨0, [], rfl, by omega, HM1, Lib.hid (LastI.zero l), by simp, HB1, by omega⟩
  case round =>
    obtain ⟨i, M, rfl, hi, HM, HL, hMl, HB, hNw⟩ := hrel
    clear HM1 HB1 S1
    by_cases hlt : i < n
    · as_aux_lemma =>
      have hli : (i : Int) < (n : Int) := by omega
      have hil : i < l.length := by rw [hnn.out]; exact hlt
      obtain ⟨g, o, rfl, hg, hc⟩ := HAT.out (by omega)
      rw [hN.out] at hg
      have c0 := (HB.out.cell (p := ⟨g, o + i * 2, none⟩) hg).trans (hc i hil).1
      have c1 := (HB.out.cell (p := ⟨g, o + i * 2 + 1, none⟩) hg).trans (hc i hil).2
      have ha := HWL.out _ (List.getElem_mem hil)
      have HL2 := Lib.hid (HL.out.step hil ha)
      have hml2 := setI_len M (l[i].1, (i : Int))
      clear hc
      generalize l[i] = z at *
      obtain ⟨a, s⟩ := z
      have c0 : wr.cell? ⟨g, o + i * 2, none⟩ = some (.int .i64 a) := c0
      have c1 : wr.cell? ⟨g, o + i * 2 + 1, none⟩ = some (.string s) := c1
      have hml2 : (setI M (a, (i : Int))).length ≤ M.length + 1 := hml2
      have HK := Lib.hid (key_of ha)
      obtain ⟨w2, hw2⟩ : ∃ w2, wr.alloc (.cells #[.int .i64 a, .string s] 48) = w2 := ⟨_, rfl⟩
      obtain ⟨gx, hgx⟩ : ∃ gx, Hid (wr.heap.size = gx) := ⟨_, Lib.hid rfl⟩
      have b2 : Below wr.heap.size wr w2 := by rw [← hw2]; exact (Below.refl _ _).alloc (Nat.le_refl _) _
      have x0 : w2.cell? ⟨gx, 0, none⟩ = some (.int .i64 a) := by rw [← hgx.out, ← hw2]; exact World.cell?_alloc_at _ _ _ _ rfl
      have HM2 := Lib.hid (HM.out.block (b2.block N hNw))
      have HB2 := Lib.hid (HB.out.trans (b2.mono (Nat.le_of_lt hNw)))
      have hN2 : N < w2.heap.size := Nat.lt_of_lt_of_le hNw b2.size
      have hNgx : N < gx := by have := hgx.out; omega
      have HW2 := Lib.hid hw2
      clear hw2 b2 HM HL ha
      go_upto_region 5 with fail
      rw [HW2.out, hgx.out]
      clear HW2 c0 c1
      have hnl : (delI M a).length < maxLen := by have := delI_len M a; unfold maxLen; omega
      have HR := Lib.hid (mi_r a (i : Int))
      go_wp2_with (first | (at_delete; refine wpList_delete_own _ rfl _ _ 67 3 rfl 3 intK Try.underlying67 miR N M.length (mapI M) rfl HM2.out _ (keyL a) rfl HK.out ?_; intro w3 hown hturn; have HM3 := Lib.hid (MiAt.del hown); have k3 := Kq.of_grown (A := N) hturn.grown (Nat.le_of_lt hN2) (Nat.le_refl _); have x0 := k3.cell (by simp; omega) x0; have HB3 := Lib.hid (HB2.out.trans k3.below); have hN3 : N < w3.heap.size := Nat.lt_of_lt_of_le hN2 k3.below.size; clear hown hturn k3 HM2 HB2) | (at_mapUpdate; refine wpList_mapUpdate_own _ rfl _ _ _ 67 rfl 3 3 intK Try.underlying67 miR N (delI M a).length (mapI (delI M a)) rfl HM3.out hnl _ _ (keyL a) rfl rfl HK.out (encI (a, (i : Int))) [] HR.out ?_; intro w4 hown4 hg4))
      have HM4 := Lib.hid (MiAt.put hown4)
      have k4 := Kq.of_grown (A := N) hg4 (Nat.le_of_lt hN3) (Nat.le_refl _)
      have HB4 := Lib.hid (HB3.out.trans k4.below)
      have hN4 : N < w4.heap.size := Nat.lt_of_lt_of_le hN3 k4.below.size
      clear hown4 hg4 k4 HM3 HB3 x0
      try go_wp2_with fail
      go_roundw
      case rel => exact ⟨i + 1, setI M (a, (i : Int)), by go_num, by omega, HM4, HL2, by omega, HB4, hN4⟩
      case measure => simp [intOf]; omega
    · as_aux_lemma =>
      have hli : ¬ (i : Int) < (n : Int) := by omega
      have hin : i = n := by omega
      have HL2 : Hid (LastI l l.length M) := Lib.hid (by rw [hnn.out, ← hin]; exact HL.out)
      obtain ⟨r, hr⟩ : ∃ r, Hid (wr.heap.size = r) := ⟨_, Lib.hid rfl⟩
      have hNr : N < r := by rw [← hr.out]; exact hNw
      clear HL
      go_wp2_with (at_range; refine wpList_range_own _ rfl _ 67 rfl 3 3 intK Try.underlying67 miR N M.length (mapI M) rfl HM.out ?_; intro w3 hrg0 hg0 hs0)
      rw [hr.out] at hrg0 hs0 ⊢
      have HRG0 := Lib.hid hrg0
      have hb23 : Below wr.heap.size wr w3 := (Below.refl _ _).grown hg0 (Nat.le_refl _) (fun j e => by cases e)
      have HM3 := Lib.hid (HM.out.block (hb23.block N hNw))
      have HB3 := Lib.hid (HB.out.trans (hb23.mono (Nat.le_of_lt hNw)))
      have hs3 : r + 1 ≤ w3.heap.size := by omega
      have hN3 : N < w3.heap.size := by omega
      have HCN : Hid (([] : List Int).length + Maps.size (mapI M) ≤ M.length) := Lib.hid (by rw [mapI_size]; simp)
      clear hrg0 hg0 hs0 hb23 HM HB
      try go_frame
      go_loopw [6] (fun s6 wi => ∃ (left : Lit → Bool) (cnt : Nat) (ss : List Int), Hid (wi.ranges Try.prog 3 miR N r M.length (mapI M) left cnt) ∧ Hid (ColI (mapI M) left ss) ∧ Hid (wi.ownsRow (r + 1) 3 1 s6 ss.length (ss.map (Value.int .i64))) ∧ (∃ a m c, s6 = .slice a m c) ∧ Hid (ss.length + cnt ≤ M.length) ∧ Hid (Below N w wi) ∧ r + 1 ≤ wi.heap.size ∧ Hid (wi.heap[N]? = w3.heap[N]?)) (fun _ wi => wi.rangeLeft N r)
      case atStart => exact ⟨_, _, [], HRG0, Lib.hid (ColI.start _), Lib.hid (World.ownsRow_nil _ _ _ _), ⟨_, _, _, rfl⟩, HCN, HB3, hs3, Lib.hid rfl⟩
      case round =>
        obtain ⟨left, cnt, ss, HRG, HC, HO, ⟨a6, m6, c6, rfl⟩, HLc, HB, hrs, HE⟩ := hrel
        clear HRG0 HCN HB3
        go_wp2_with (at_next; refine wpList_next_ranges _ rfl _ rfl 3 intK miR (Value.int .i64) (Value.int .i64) (fun key kl hk => by obtain ⟨x, hx, _⟩ := Maps.keyOf_int_inv Try.underlying3 hk; exact ⟨x, hx⟩) (fun v y hv => by obtain ⟨c, hc, _⟩ := miR_inv hv; exact ⟨c, hc⟩) N r M.length (mapI M) left cnt rfl HRG.out ?_ ?_)
        · intro hc0 hl0
          as_aux_lemma =>
          have HP := HC.out.permI HL2.out.srt hl0
          rw [HL2.out.keys] at HP
          have CS := Lib.hid (sort_reg (by have := HLc.out; omega) HO.out HP (srt_all l))
          have HMx := Lib.hid (HM3.out.block HE.out)
          clear HP hl0 hc0 HRG HC
          go_wp2_with fail
          refine CS.out.mono ?_
          rintro e w5 ⟨rfl, b5, ao6, c6', e6, HI⟩
          injection e6 with e1 e2 e3
          subst e1 e2 e3
          have HB5 := Lib.hid (HB.out.trans (b5.mono (by omega)))
          have HM5 := Lib.hid (HMx.out.block (b5.block N (by omega)))
          have hN5 : N < w5.heap.size := by have := b5.size; omega
          have hsl : (setAll [] l).length ≤ 50000 := by have := HL2.out.len; rw [List.take_length] at this; omega
          obtain ⟨i1, hi1, hy0, hy1, hy2⟩ := info_partsO info_putO
          clear b5 CS HMx HB HO HLc
          have HKY := Lib.hid HL2.out.keys
          have HSE : ∃ S, Hid (setAll [] l = S) := ⟨_, Lib.hid rfl⟩
          obtain ⟨S, HSE⟩ := HSE
          rw [HSE.out] at hsl HI HKY ⊢
          have HMS : Hid (M.length = S.length) := Lib.hid (by have := congrArg List.length HKY.out; simpa using this)
          have HLA : Hid (∀ j (hj : j < S.length) w', MiAt w' N M → ∃ (k : Nat) (hk : k < l.length), l[k] = S[j] ∧ (Instr.lookup 67 (.map (some N)) (.int .i64 S[j].1) false).run Try.prog w' = .ok (.int .i64 (k : Int)) w') := Lib.hid (fun j hj w' hm => by
            have hse := HSE.out
            subst hse
            have hjM : j < M.length := by rw [HMS.out]; exact hj
            obtain ⟨k, hk, hs, e1, e2, e3⟩ := HL2.out.at hjM
            have h9 := look_mi hm HL2.out.srt HL2.out.wf hjM
            rw [e1, ← e3] at h9
            exact ⟨k, hk, e2, h9⟩)
          clear HL2 HKY HMS
          go_wp2_with fail
          go_loopw [8, 41] (fun s8 s41 wi => ∃ (j : Nat) (D : List Pu), s41 = .int .i64 (j : Int) ∧ j ≤ S.length ∧ (∃ a m c, s8 = .slice a m c) ∧ Hid (S.take j = D) ∧ D.length = j ∧ Hid (wi.ownsRow w5.heap.size 48 2 s8 D.length (puC D)) ∧ Hid (Below w5.heap.size w5 wi)) (fun _ s41 _ => S.length - (intOf s41).toNat)
          case atStart => exact ⟨0, [], rfl, by omega, ⟨_, _, _, rfl⟩, Lib.hid rfl, rfl, Lib.hid (World.ownsRow_nil _ _ _ _), Lib.hid (Below.refl _ _)⟩
          case round =>
            obtain ⟨j, D, rfl, hj, ⟨a8, m8, c8, rfl⟩, HT, hD, HO, HB6⟩ := hrel
            by_cases hjl : j < S.length
            · as_aux_lemma =>
              have hji : (j : Int) < (S.length : Int) := by omega
              obtain ⟨gp, op, rfl, _, hgp, hcp⟩ := HI.out (by rw [List.length_map]; omega)
              have p0 := (HB6.out.cell (p := ⟨gp, op + j, none⟩) hgp).trans (hcp j (by rw [List.length_map]; exact hjl))
              have e0 : (S.map (·.1)).getD j 0 = S[j].1 := by rw [List.getD_eq_getElem?_getD, List.getElem?_map, List.getElem?_eq_getElem hjl]; rfl
              rw [e0] at p0
              obtain ⟨k, hk, ek, hlook⟩ := HLA.out j hjl wr (HM5.out.block (HB6.out.block N hN5))
              have hki : (k : Int) < (n : Int) := by have := hnn.out; omega
              obtain ⟨g, o, rfl, hg, hc⟩ := HAT.out (by omega)
              have B0 := HB5.out.trans (HB6.out.mono (Nat.le_of_lt hN5))
              have hg' : g < N := by rw [← hN.out]; exact hg
              have c0 := (B0.cell (p := ⟨g, o + k * 2, none⟩) hg').trans (hc k hk).1
              have c1 := (B0.cell (p := ⟨g, o + k * 2 + 1, none⟩) hg').trans (hc k hk).2
              rw [ek] at c0 c1
              have HT2 : Hid (S.take (j + 1) = D ++ [S[j]]) := Lib.hid (by rw [take_snoc S j hjl, HT.out])
              have hbs := HB6.out.size
              clear hcp hc B0 e0 ek
              generalize S[j] = z at *
              obtain ⟨x, s⟩ := z
              have c0 : wr.cell? ⟨g, o + k * 2, none⟩ = some (.int .i64 x) := c0
              have c1 : wr.cell? ⟨g, o + k * 2 + 1, none⟩ = some (.string s) := c1
              have p0 : wr.cell? ⟨gp, op + j, none⟩ = some (.int .i64 x) := p0
              have hlook : (Instr.lookup 67 (.map (some N)) (.int .i64 x) false).run Try.prog wr = .ok (.int .i64 (k : Int)) wr := hlook
              go_wp2_with (at_builtin; refine wpList_append_own _ rfl _ _ 25 rfl w5.heap.size 48 i1 (.agg #[.int .i64 0, .string ⟨#[]⟩]) 2 24 Try.underlying25 hi1 hy0 hy1 hy2 rfl (by decide) _ D.length (puC D) rfl (HO.out.alloc _) ⟨wr.heap.size, 0, none⟩ 1 1 [.int .i64 x, .string s] rfl rfl (box_cells wr x s) (box_one x s) (by unfold maxLen; omega) (by omega) (by simp; omega) ?_)
              intro v' w6 hown hgr _
              have HB7 := Lib.hid ((HB6.out.alloc hbs _).grown hgr (by simp; omega) (fun j e => (HO.out.lt j e).1))
              have HO7 : Hid (w6.ownsRow w5.heap.size 48 2 v' (D ++ [(x, s)]).length (puC (D ++ [(x, s)]))) := Lib.hid (by rw [puC_snoc, List.length_append, hD]; exact hown)
              obtain ⟨a', c', rfl⟩ := own_slO hown
              clear hown hgr HO HB6 c0 c1 p0 hlook
              go_wp2_with fail
              go_roundw
              case rel => exact ⟨j + 1, D ++ [(x, s)], by go_num, by omega, ⟨_, _, _, rfl⟩, HT2, by simp; omega, HO7, HB7⟩
              case measure => simp [intOf]; omega
            · as_aux_lemma =>
              have hji : ¬ (j : Int) < (S.length : Int) := by omega
              have hjs : j = S.length := by omega
              obtain rfl : S = D := by have := HT.out; rw [hjs, List.take_length] at this; exact this
              obtain ⟨a9, c9, e9, _, _, hpu⟩ := own_pu (N := w5.heap.size) (L := S) HO.out
              injection e9 with e1 e2 e3
              subst e1 e2 e3
              have HPU := Lib.hid hpu
              have HBF : Hid (Below w.heap.size w wr) := Lib.hid (by rw [hN.out]; exact HB5.out.trans (HB6.out.mono (Nat.le_of_lt hN5)))
              clear hpu HO HB6 hjs hD hj hjl HT
              go_wp2_with fail
              go_ret
              rw [HSE.out]
              exact ⟨_, _, rfl, HPU.out, HBF.out⟩
        · intro x yv kl yd yp w4 cnt4 hkey hlk hv hat hrg4 hlt4 hg4 hs4 hen
          as_aux_lemma =>
          obtain ⟨x', ex, rfl, hwx⟩ := Maps.keyOf_int_inv Try.underlying3 hkey
          cases ex
          have HC2 := Lib.hid (HC.out.step (x := x) hlk hat)
          have HO4 := Lib.hid (HO.out.kept hg4 (Or.inr (fun e => by have := (HO.out.lt r e).1; omega)))
          have HRG4 := Lib.hid hrg4
          have HLT := Lib.hid hlt4
          have HRO := Lib.hid HRG.out.left_eq
          have hss : ss.length ≤ 50000 := by have := HLc.out; omega
          have b4 : Below N wr w4 := (Below.refl _ _).grown hg4 (by omega) (fun j e => by injection e with e; omega)
          have HB4 := Lib.hid (HB.out.trans b4)
          have hrs4 : r + 1 ≤ w4.heap.size := Nat.le_trans hrs b4.size
          have HE4 : Hid (w4.heap[N]? = w3.heap[N]?) := Lib.hid ((hg4.block N (by omega) (fun e => by injection e with e; omega)).trans HE.out)
          clear hkey hlk hv hat hrg4 hlt4 hg4 hs4 hwx HC HRG HB HE b4 HO
          go_wp2_with (at_builtin; refine wpList_append_own _ rfl _ _ 43 rfl (r + 1) 3 i0 (.int .i64 0) 1 8 Try.underlying43 hi0 hz0 hz1 hz2 rfl (by decide) _ ss.length (ss.map (Value.int .i64)) rfl (HO4.out.alloc _) ⟨w4.heap.size, 0, none⟩ 1 1 [.int .i64 x] rfl rfl (cell_one_new _ _ _) (fun u hu => by simp at hu; subst hu; rfl) (by unfold maxLen; omega) (by omega) (by simp; omega) ?_)
          intro v' w5 hown hg _
          have hbn : ∀ j, (Value.slice a6 m6 c6).ownBlock = some j → r + 1 ≤ j := fun j e => (HO4.out.lt j e).1
          have h1 : some N ≠ (Value.slice a6 m6 c6).ownBlock := fun e => by have := hbn N e.symm; omega
          have h2 : some r ≠ (Value.slice a6 m6 c6).ownBlock := fun e => by have := hbn r e.symm; omega
          have HRG5 := Lib.hid ((HRG4.out.alloc _).kept hg h1 h2)
          have b5 : Below N w4 w5 := ((Below.refl N w4).alloc (by omega) _).grown hg (by simp; omega) (fun j e => by have := hbn j e; omega)
          have HB5 := Lib.hid (HB4.out.trans b5)
          have ba : Below w4.heap.size w4 (w4.alloc (.cells #[.int .i64 x] 3)) := (Below.refl _ _).alloc (Nat.le_refl _) _
          have HE5 : Hid (w5.heap[N]? = w3.heap[N]?) := Lib.hid ((hg.block N (by simp; omega) (fun e => h1 e)).trans ((ba.block N (by omega)).trans HE4.out))
          have HO5 : Hid (w5.ownsRow (r + 1) 3 1 v' (ss ++ [x]).length ((ss ++ [x]).map (Value.int .i64))) := Lib.hid (by rw [List.length_append, List.map_append]; exact hown)
          have HL5 : Hid ((ss ++ [x]).length + cnt4 ≤ M.length) := Lib.hid (by have := HLc.out; have := HLT.out; simp; omega)
          have hrs5 := Nat.le_trans hrs4 b5.size
          obtain ⟨a', c', rfl⟩ := own_slO hown
          clear hown hg hbn h1 h2 b5 ba HO4 HRG4 HB4 HE4
          go_wp2_with fail
          go_roundw
          case rel => exact ⟨_, cnt4, ss ++ [x], HRG5, HC2, HO5, ⟨_, _, _, rfl⟩, HL5, HB5, hrs5, HE5⟩
          case measure => rw [HRG5.out.left_eq, HRO.out]; exact HLT.out
end Go.Proofs.Ytnlgkhggokloeaa
