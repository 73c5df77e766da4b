/- The reference of flat: Safe. -/
import Derived.Test.YtaemnelfnopjdaaFcC
namespace Go.Proofs.Ytaemnelfnopjdaa
open Go.RowKit Go.Deep Go.Maps
set_option linter.unusedVariables false
set_option linter.unusedSimpArgs false
theorem info_rc : (Try.prog.info? 62).map (fun i => (i.zero, i.size, i.bytes)) = some (some (.agg #[.slice none 0 0]), 1, 24) := by kernel_rfl
theorem src_rc {w : World} (v : Value) (h1 : v.oneCell' = true) : Src Try.prog 1 34 (.slice (some ⟨w.heap.size, 0, none⟩) 1 1) 1 [v] (w.alloc (.cells #[v] 62)) :=
  Src.ofSlice _ Try.underlying34 ⟨w.heap.size, 0, none⟩ 1 1 [v] rfl (fun j u hu => by
    rcases j with _ | j
    · simp at hu; subst hu; exact World.cell?_alloc_at _ _ _ _ rfl
    · simp at hu) (fun u hu => by simp at hu; subst hu; exact h1)
/-- A chain's last state. -/
def lastT (c : RC) : List UInt8 := c.L.getLastD []
set_option maxRecDepth 100000 in
set_option maxHeartbeats 8000000 in
theorem rsafe_any {w : World} {B g n gc cap : Nat} {cs : List RC} (h : RfW w B g n cs gc cap) (hB : B ≤ w.heap.size) (hne : cs ≠ []) (hl : cs.length ≤ 1000000) (hL : ∀ c ∈ cs, c.L.length ≤ 1000000) : Calls Try.prog 28 #[.pointer (some ⟨g, 0, none⟩)] w fun e w' => e = .returned (.tuple #[]) ∧ ∃ new gc' cap', RfW w' B g n new gc' cap' ∧ new.map RC.L = cs.map (fun c => [lastT c]) ∧ Kq B [g] w w' ∧ (∀ c ∈ new, w.heap.size ≤ c.b) ∧ w.heap.size ≤ gc' := by
  obtain ⟨ic, hic, cz0, cz1, cz2⟩ := info_partsF info_rc
  have H := Lib.hid h
  have HL := Lib.hid hL
  have hcap := h.cap
  obtain ⟨m, hm⟩ : ∃ m, Hid (cs.length = m) := ⟨_, Lib.hid rfl⟩
  obtain ⟨B1, hB1⟩ : ∃ B1, Hid (w.heap.size = B1) := ⟨_, Lib.hid rfl⟩
  have c1 := cell_of_row w g 1 _ _ _ h.hg
  rw [hm.out] at hl hcap c1
  have hglt := h.lt
  clear h hL
  go_enter Try.func28, Try.ntmps28
  go_wp2_with fail
  go_loopw [2, 3] (fun s2 s3 wi => ∃ (i : Nat) (new : List RC) (vo : Option Addr) (co : Nat), s2 = .slice vo i co ∧ s3 = .int .i64 (i : Int) ∧ i ≤ m ∧ Hid (new.length = i) ∧ Hid (OutW wi B1 B1 (.slice vo i co) new) ∧ Hid (new.map RC.L = (cs.take i).map (fun c => [lastT c])) ∧ Hid (Below w.heap.size w wi)) (fun _ s3 _ => m - (intOf s3).toNat)
  case atStart => exact ⟨0, [], none, 0, rfl, rfl, by omega, Lib.hid rfl, Lib.hid (OutW.nil _ _ _), Lib.hid rfl, Lib.hid (Below.refl _ _)⟩
  case round =>
    obtain ⟨i, new, vo, co, rfl, rfl, hi, hnl, HO, HM, HW⟩ := hrel
    have c1 := (HW.out.cell (p := ⟨g, 1, none⟩) hglt).trans c1
    by_cases him : i < m
    · as_aux_lemma =>
      have hil : i < cs.length := by rw [hm.out]; exact him
      have hmem := List.getElem_mem hil
      have hc := (HW.out.cell (p := ⟨gc, i, none⟩) H.out.lc).trans (H.out.cell i hil)
      obtain ⟨ht, hcp, hn0, hbb⟩ := H.out.row _ hmem
      have hLl := HL.out _ hmem
      have htk := List.take_append_getElem hil
      unfold rcV at hc
      obtain ⟨c, hcc⟩ : ∃ c, cs[i] = c := ⟨_, rfl⟩
      rw [hcc] at hc ht hcp hn0 hbb hLl htk
      obtain ⟨L', x, hLx⟩ : ∃ L' x, c.L = L' ++ [x] := ⟨c.L.dropLast, c.L.getLast hn0, (List.dropLast_concat_getLast hn0).symm⟩
      have hlast : lastT c = x := by unfold lastT; rw [hLx]; simp
      rw [hLx] at ht hcp hLl hc
      have hlen : (L' ++ [x]).length = L'.length + 1 := by simp
      rw [hlen] at hcp hLl hc
      have CLa := Lib.hid (rlast_any c.cap (ht.below HW.out) (by omega) hcp)
      obtain ⟨bb, hbbx⟩ : ∃ bb, c.b = bb := ⟨_, rfl⟩
      obtain ⟨cc, hccx⟩ : ∃ cc, c.cap = cc := ⟨_, rfl⟩
      rw [hbbx, hccx] at CLa hc
      generalize L'.length = ll at *
      have hji : (i : Int) < (m : Int) := by omega
      have HT := Lib.hid htk
      have HLX := Lib.hid hlast
      clear ht hcp hLl hlen hLx hn0 hbb hmem hlast htk hcc
      go_wp2_with fail
      refine CLa.out.mono ?_
      rintro e w1 ⟨rfl, b1⟩
      have HO1 := Lib.hid (HO.out.below b1)
      have HW1 := Lib.hid (HW.out.trans (b1.mono HW.out.size))
      clear CLa b1
      obtain ⟨s, hs⟩ : ∃ s : ByteArray, Hid ((⟨x.toArray⟩ : ByteArray) = s) := ⟨_, Lib.hid rfl⟩
      rw [hs.out]
      obtain ⟨w2, hw2⟩ : ∃ w2, w1.alloc (.cells #[.string s] 9) = w2 := ⟨_, rfl⟩
      have b2 : Below w1.heap.size w1 w2 := by rw [← hw2]; exact (Below.refl _ _).alloc (Nat.le_refl _) _
      have s2 : w2.heap.size = w1.heap.size + 1 := by rw [← hw2]; simp
      have r2 : w2.cell? ⟨w1.heap.size, 0, none⟩ = some (.string s) := by rw [← hw2]; exact World.cell?_alloc_at _ _ _ _ rfl
      obtain ⟨p, hp⟩ : ∃ p, Hid (w1.heap.size = p) := ⟨_, Lib.hid rfl⟩
      obtain ⟨w3, hw3⟩ : ∃ w3, w2.alloc (.cells #[.slice (some ⟨p, 0, none⟩) 1 1] 62) = w3 := ⟨_, rfl⟩
      have b3 : Below w2.heap.size w2 w3 := by rw [← hw3]; exact (Below.refl _ _).alloc (Nat.le_refl _) _
      have hsrc := src_rc (w := w2) (.slice (some ⟨p, 0, none⟩) 1 1) rfl
      rw [hw3, s2, hp.out] at hsrc
      rw [hp.out] at r2 s2
      have b23 := b2.trans (b3.mono b2.size)
      have HO3 := Lib.hid (HO1.out.below b23)
      have HW3 := Lib.hid (HW1.out.trans (b23.mono HW1.out.size))
      have r3 : w3.cell? ⟨p, 0, none⟩ = some (.string s) := (b3.cell (p := ⟨p, 0, none⟩) (by show p < _; omega)).trans r2
      have HTX : Hid (TxR w3 p [x] ∧ [x].length ≤ 1 ∧ [x] ≠ [] ∧ B1 ≤ p) := Lib.hid ⟨⟨Nat.lt_of_lt_of_le (show p < w2.heap.size by omega) b3.size, fun i hi => by
        rcases i with _ | i
        · show w3.cell? ⟨p, 0, none⟩ = _
          rw [r3, ← hs.out]; rfl
        · simp at hi⟩, Nat.le_refl _, by simp, by rw [← hB1.out, ← hp.out]; exact HW1.out.size⟩
      have HNE : Hid ((Value.slice vo i co).ownBlock ≠ some p) := Lib.hid (fun e => by have := (HO1.out.row.lt p e).2; rw [hp.out] at this; omega)
      have hrow := HO3.out.row
      rw [hnl.out] at hrow
      have o1 : i + 1 ≤ maxLen := by unfold maxLen; omega
      have o2 : (i + 1) * 24 ≤ 140737488355328 := by omega
      have o3 : B1 ≤ w3.heap.size := by rw [← hB1.out]; exact HW3.out.size
      have HE2 := Lib.hid hw2
      have HE3 := Lib.hid hw3
      clear hw2 hw3 b2 b3 b23 r2 r3 s2 HO1 HW1
      go_wp2_with (at_builtin; (try rw [HE2.out]); (try rw [hp.out]); (try rw [HE3.out]); refine wpList_append_src2 _ rfl _ _ 34 34 rfl B1 62 ic (.agg #[.slice none 0 0]) 1 24 Try.underlying34 hic cz0 cz1 cz2 rfl (by decide) (.slice vo i co) i (new.map rcV) rfl hrow _ 1 [.slice (some ⟨p, 0, none⟩) 1 1] rfl hsrc o1 o2 o3 ?_; intro v5 w5 O5 G5 L5; obtain ⟨a5, c5, rfl⟩ := own_slF O5)
      obtain ⟨A5, B5⟩ := OutW.app (c := ⟨p, 1, [x]⟩) HO3.out o3 HTX.out HNE.out (by rw [hnl.out]; exact O5) G5 L5
      have HO5 := Lib.hid A5
      have HW5 := Lib.hid (HW3.out.trans (by rw [hB1.out]; exact B5))
      clear O5 G5 L5 A5 B5 hrow hsrc o1 o2 o3
      go_roundw
      case rel => exact ⟨i + 1, new ++ [⟨p, 1, [x]⟩], a5, c5, rfl, by go_num, by omega, Lib.hid (by rw [List.length_append, hnl.out]; rfl), HO5, Lib.hid (by rw [← HT.out, List.map_append, List.map_append, HM.out]; simp [HLX.out]), HW5⟩
      case measure => simp [intOf]; omega
    · as_aux_lemma =>
      obtain rfl : i = m := by omega
      have hlt : ¬ (i : Int) < (i : Int) := by omega
      have H2 := Lib.hid (H.out.below HW.out)
      have hfull : new.map RC.L = cs.map (fun c => [lastT c]) := by rw [HM.out, List.take_of_length_le (by rw [hm.out]; exact Nat.le_refl _)]
      have hnn : new ≠ [] := fun e => hne (by have := congrArg List.length hfull; rw [e] at this; simp at this; exact List.length_eq_zero_iff.1 this.symm)
      have HF := Lib.hid hfull
      have hBB : B ≤ B1 := by rw [← hB1.out]; exact hB
      obtain ⟨gc', cap', e1, f1, k1, q1⟩ := RfW.set H2.out (⟨HO.out.row, fun c hc => ⟨(HO.out.tx c hc).1, (HO.out.tx c hc).2.1, (HO.out.tx c hc).2.2.1, Nat.le_trans hBB (HO.out.tx c hc).2.2.2⟩, HO.out.ne⟩ : OutW wr B B1 (.slice vo i co) new) hBB hnn (fun c hc e2 => by have := (HO.out.tx c hc).2.2.2; rw [← hB1.out] at this; omega)
      have HR := Lib.hid f1
      have HK := Lib.hid ((Kq.of_below (HW.out) hB).trans k1)
      have HQ : Hid ((∀ c ∈ new, w.heap.size ≤ c.b) ∧ w.heap.size ≤ gc') := Lib.hid ⟨fun c hc => by rw [hB1.out]; exact (HO.out.tx c hc).2.2.2, by rw [hB1.out]; exact q1⟩
      have f0 := frozen_of_row wr g 1 _ _ H2.out.hg
      clear f1 k1 q1 hfull
      go_wp2_with fail
      go_end0
      exact ⟨rfl, new, gc', ⟨_, HR.out⟩, HF.out, HK.out, HQ.out.1, HQ.out.2⟩
end Go.Proofs.Ytaemnelfnopjdaa
