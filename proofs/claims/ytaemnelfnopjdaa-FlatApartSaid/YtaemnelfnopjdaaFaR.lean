/- Package flat: the closure of Crash. -/
import Derived.Test.YtaemnelfnopjdaaFaQ
namespace Go.Proofs.Ytaemnelfnopjdaa
open Go.RowKit Go.Deep Go.Maps
set_option linter.unusedVariables false
set_option linter.unusedSimpArgs false
theorem add_enter (args : Array Value) (w : World) : (callFunc 42 args).run Try.prog w = .ok (.enter 42 args) w := by go_simp
section
variable {w : World} {B q2 q3 : Nat} {L : List (List Nat)} {OL : List Nat}
attribute [local irreducible] stA
set_option maxRecDepth 100000 in
set_option maxHeartbeats 4000000 in
theorem add_old (s : List Nat) (h : CrW w B q2 q3 OL L) (hs : okS s) (hin : s ∈ L) (hB : B ≤ w.heap.size) : Calls Try.prog 42 #[.agg (stA s), .pointer (some ⟨q2, 0, none⟩), .pointer (some ⟨q3, 0, none⟩)] w fun e w' => e = .returned (.tuple #[]) ∧ Below w.heap.size w w' := by
  obtain ⟨w1, HW1, r1, b1, s1⟩ := st_box w s
  obtain ⟨v, bm, D, h, rfl⟩ := h
  have h1 := h.same (w' := w1) (fun k hk => b1.block k (h.lt hk).1)
  have c2 := cell_of_row w1 q2 0 _ _ _ h1.h2
  have hm1 := h1.hm
  have HKEY := Lib.hid (kSt_key hs)
  have HHAS : Hid (has D (kSt s) = true) := Lib.hid (by rw [h.sd s hs]; exact decide_eq_true hin)
  have HB1 := Lib.hid b1
  obtain ⟨gs, hgs⟩ : ∃ gs, Hid (w.heap.size = gs) := ⟨_, Lib.hid rfl⟩
  rw [hgs.out] at r1
  have hinf := stA_info hs.1
  generalize L.length = n at *
  generalize stA s = SA at *
  clear h h1 b1 s1 hin
  go_enter Try.func42, Try.ntmps42
  go_upto_region 1 with fail
  rw [HW1.out, hgs.out]
  clear HW1
  go_upto_region 2 with (first | (refine wpList_load_row rfl _ _ rfl gs rfl 56 SA (0, 0) _ r1 Try.underlying56 rfl hinf ?_) | (at_lookup; refine wpList_lookup_own_ok_int _ rfl _ _ 86 rfl 56 3 .i64 lawSt Try.underlying86 Try.underlying3 (zeroI _) bm n D rfl hm1 _ (kSt s) rfl HKEY.out ?_; intro c hat hwc; rw [HHAS.out]; clear hat hwc))
  clear r1 hinf hm1 c2
  go_wp2_with fail
  go_end0
  exact ⟨rfl, HB1.out⟩
set_option maxRecDepth 100000 in
set_option maxHeartbeats 8000000 in
theorem add_new (s : List Nat) (h : CrW w B q2 q3 OL L) (hs : okS s) (hin : s ∉ L) (hB : B ≤ w.heap.size) (hL : L.length ≤ 3000000000) : Calls Try.prog 42 #[.agg (stA s), .pointer (some ⟨q2, 0, none⟩), .pointer (some ⟨q3, 0, none⟩)] w fun e w' => e = .returned (.tuple #[]) ∧ CrS w w' B q2 q3 OL (L ++ [s]) := by
  obtain ⟨Z, hZ, hZi⟩ := info_stF
  obtain ⟨ist, hist, hsz0, hsz1, hsz2⟩ := info_partsF hZi
  obtain ⟨w1, HW1, r1, b1, s1⟩ := st_box w s
  obtain ⟨v, bm, D, h, rfl⟩ := h
  have H0 := Lib.hid h
  have h1 := h.same (w' := w1) (fun k hk => b1.block k (h.lt hk).1)
  have H1 := Lib.hid h1
  have c2 := cell_of_row w1 q2 0 _ _ _ h1.h2
  have c3 := cell_of_row w1 q3 0 _ _ _ h1.h3
  have hm1 := h1.hm
  have HKEY := Lib.hid (kSt_key hs)
  have HHAS : Hid (has D (kSt s) = false) := Lib.hid (by rw [h.sd s hs]; exact decide_eq_false hin)
  have HWF := Lib.hid (nat_wf2 L.length (by omega))
  have HN : Hid (L.length < maxLen) := Lib.hid (by unfold maxLen; omega)
  have HSD := Lib.hid (h.sd.put h.hm.isMap hs (.lit (.int .i64 (L.length : Int))))
  have HOKS := Lib.hid hs
  have HB1 := Lib.hid b1
  obtain ⟨gs, hgs⟩ : ∃ gs, Hid (w.heap.size = gs) := ⟨_, Lib.hid rfl⟩
  rw [hgs.out] at r1
  have hinf := stA_info hs.1
  have hcz : (Value.agg (stA s)).cells.size = 64 := stA_size hs.1
  have hgsl : gs < w1.heap.size := (Array.getElem?_eq_some_iff.1 r1).1
  have hgsL : ∀ k ∈ CrL q2 q3 v bm, k ≠ gs := fun k hk => by have := (h.lt hk).1; rw [hgs.out] at this; omega
  have HGSL := Lib.hid hgsL
  have HSRC : Hid (∀ (u u1 : World), u.alloc (.cells (stA s) 56) = u1 → Src Try.prog 64 57 (.slice (some ⟨u.heap.size, 0, none⟩) 1 1) 1 (nC s) u1) := Lib.hid (fun u u1 hu => src_st hs.1 hu)
  obtain ⟨va, vc, ev⟩ := own_slF h.hr
  obtain ⟨n, hn⟩ : ∃ n, Hid (L.length = n) := ⟨_, Lib.hid rfl⟩
  rw [hn.out] at hm1 HWF HN HSD ev hL
  subst ev
  have o1 : n + 1 ≤ maxLen := by unfold maxLen; omega
  have o2 : (n + 1) * 512 ≤ 140737488355328 := by omega
  have hB1 : B ≤ w1.heap.size := Nat.le_trans hB b1.size
  have hq3l : q3 < w1.heap.size := (Array.getElem?_eq_some_iff.1 h1.h3).1
  have hq2l : q2 < w1.heap.size := (Array.getElem?_eq_some_iff.1 h1.h2).1
  have hrow1 := h1.hr
  rw [hn.out] at hrow1
  clear h h1 b1 s1 hin hgsL hs
  go_enter Try.func42, Try.ntmps42
  go_upto_region 1 with fail
  rw [HW1.out, hgs.out]
  clear HW1
  go_upto_region 2 with (first | (refine wpList_load_row rfl _ _ rfl gs rfl 56 (stA s) (0, 0) _ r1 Try.underlying56 rfl hinf ?_) | (at_lookup; refine wpList_lookup_own_ok_int _ rfl _ _ 86 rfl 56 3 .i64 lawSt Try.underlying86 Try.underlying3 (zeroI _) bm n D rfl hm1 _ (kSt s) rfl HKEY.out ?_; intro c hat hwc; rw [HHAS.out]; clear hat hwc))
  go_wp2_with (first | (refine wpList_load_row rfl _ _ rfl gs rfl 56 (stA s) (0, 0) _ r1 Try.underlying56 rfl hinf ?_) | (at_mapUpdate; refine wpList_mapUpdate_own _ rfl _ _ _ 86 rfl 56 3 lawSt Try.underlying86 _ bm n D rfl hm1 HN.out _ _ (kSt s) rfl rfl HKEY.out (.lit (.int .i64 (n : Int))) [] (plainElem_int Try.underlying3 HWF.out) ?_; intro w2 M2 G2; have r2 := (G2.block gs hgsl (fun e => HGSL.out bm (CrL_mem.2 (Or.inr (Or.inr (Or.inl rfl)))) (Option.some.inj e).symm)).trans r1; have h32 := (G2.block q3 hq3l (fun e => H1.out.ne3m (Option.some.inj e))).trans H1.out.h3; have c32 := cell_of_row w2 q3 0 _ _ _ h32; have hrow2 := own_grown hrow1 G2 (Or.inr (own_nomap hrow1 hm1)); obtain ⟨w4, hw4⟩ : ∃ w4, w2.alloc (.cells (stA s) 56) = w4 := ⟨_, rfl⟩; have b4 : Below w2.heap.size w2 w4 := (by rw [← hw4]; exact (Below.refl _ _).alloc (Nat.le_refl _) _); have hsrc := HSRC.out _ _ hw4; have HW4 := Lib.hid hw4; have hrow4 := own_at_block hrow2 (fun j e => b4.block j (hrow2.lt j e).2); have o3 : B ≤ w4.heap.size := Nat.le_trans (Nat.le_trans hB1 G2.size) b4.size; have hcl0 : (Value.agg (stA s)).cells = stA s := rfl; clear hw4) | (refine wpList_load_row rfl _ _ rfl gs rfl 56 (stA s) (0, 0) _ r2 Try.underlying56 rfl hinf ?_) | (refine wpList_build1 rfl 57 56 _ rfl ist Z 64 Try.underlying57 hist hsz0 hsz1 (by decide) (by decide) (.agg (stA s)) rfl hcz ?_) | (at_builtin; (first | rw [HW4.out] | rw [hcl0, HW4.out]); refine wpList_append_src2 _ rfl _ _ 57 57 rfl B 56 ist Z 64 512 Try.underlying57 hist hsz0 hsz1 hsz2 hZ (by decide) (.slice va n vc) n (L.flatMap nC) rfl hrow4 _ 1 (nC s) rfl hsrc o1 o2 o3 ?_; intro v5 w5 O5 G5 L5; have h35 := (G5.block q3 (Nat.lt_of_lt_of_le (Array.getElem?_eq_some_iff.1 h32).1 b4.size) (fun e => (H1.out.nev e.symm).2.1 rfl)).trans ((b4.block q3 (Array.getElem?_eq_some_iff.1 h32).1).trans h32); have c35 := cell_of_row w5 q3 0 _ _ _ h35; have f35 := frozen_of_row w5 q3 0 _ _ h35; obtain ⟨a5, c5, rfl⟩ := own_slF O5))
  have hmm2 := World.ownsMap.lt M2
  have e62 : ∀ k, k < w1.heap.size → k ≠ bm → (Value.slice va n vc).ownBlock ≠ some k → k ≠ q3 → (w5.setCell ⟨q3, 0, none⟩ (.slice a5 (n + 1) c5)).heap[k]? = w1.heap[k]? := fun k hk h1 h2 h3 =>
    (Below.heap_setCell w5 ⟨q3, 0, none⟩ _ k h3).trans ((G5.block k (Nat.lt_of_lt_of_le (Nat.lt_of_lt_of_le hk G2.size) b4.size) (fun e => h2 e.symm)).trans ((b4.block k (Nat.lt_of_lt_of_le hk G2.size)).trans (G2.block k hk (fun e => h1 (Option.some.inj e)))))
  have m4 := map_at_block M2 (b4.block bm hmm2)
  have m5 := map_at_block m4 (G5.block bm (Nat.lt_of_lt_of_le hmm2 b4.size) (fun e => (H1.out.nev e.symm).2.2 rfl))
  have m6 := map_at_block m5 (Below.heap_setCell w5 ⟨q3, 0, none⟩ (.slice a5 (n + 1) c5) bm (fun e => H1.out.ne3m e.symm))
  have h36 : (w5.setCell ⟨q3, 0, none⟩ (.slice a5 (n + 1) c5)).heap[q3]? = some (.cells #[.slice a5 (n + 1) c5] 57 (0, 0)) := heap_setCell_same w5 q3 0 _ 57 _ h35
  have O6 := own_setF (j := 0) (u := .slice a5 (n + 1) c5) O5 h35 (by decide)
  have s6 : (w5.setCell ⟨q3, 0, none⟩ (.slice a5 (n + 1) c5)).heap.size = w5.heap.size := by simp [World.setCell]
  have h26 := (e62 q2 hq2l H1.out.ne2m (fun e => (H1.out.nev e).1 rfl) H1.out.ne23).trans H1.out.h2
  have hlen : (L ++ [s]).length = n + 1 := by rw [List.length_append, hn.out]; rfl
  have hflat : (L ++ [s]).flatMap nC = L.flatMap nC ++ nC s := by rw [List.flatMap_append]; simp
  have KK : Kq B (CrL q2 q3 (.slice va n vc) bm) w (w5.setCell ⟨q3, 0, none⟩ (.slice a5 (n + 1) c5)) := by
    have k1 : Kq B (CrL q2 q3 (.slice va n vc) bm) w w1 := Kq.of_below HB1.out hB
    have k2 := k1.trans ((Kq.of_grown G2 hB1 H1.out.bb).wide (M := CrL q2 q3 (.slice va n vc) bm) (fun k hk => CrL_mem.2 (Or.inr (Or.inr (Or.inl (by simpa using hk))))))
    have k4 := k2.trans (Kq.of_below (L := CrL q2 q3 (.slice va n vc) bm) b4 (Nat.le_trans hB1 G2.size))
    have k5 := k4.trans ((Kq.of_grownO G5 o3 (fun k e => (hrow4.lt k e).1)).wide (M := CrL q2 q3 (.slice va n vc) bm) (fun k hk => CrL_mem.2 (Or.inr (Or.inr (Or.inr (by simpa using hk))))))
    exact k5.setCell 0 _ H1.out.b3 (CrL_mem.2 (Or.inr (Or.inl rfl)))
  have HEND : Hid (CrS w (w5.setCell ⟨q3, 0, none⟩ (.slice a5 (n + 1) c5)) B q2 q3 (CrL q2 q3 (.slice va n vc) bm) (L ++ [s])) := Lib.hid (by
    refine ⟨CrL q2 q3 (.slice a5 (n + 1) c5) bm, ⟨.slice a5 (n + 1) c5, bm, D.put (kSt s) (.lit (.int .i64 (n : Int))), ?_, rfl⟩, KK, fun k hk => ?_⟩
    · exact
        { h2 := h26
          h3 := h36
          hm := by rw [hlen]; exact m6
          hr := by rw [hlen, hflat]; exact O6
          sd := HSD.out
          ok := fun x hx => by
            rcases List.mem_append.1 hx with hx | hx
            · exact H0.out.ok x hx
            · rw [List.mem_singleton.1 hx]; exact HOKS.out
          b2 := H0.out.b2
          b3 := H0.out.b3
          bb := H0.out.bb }
    · rcases CrL_mem.1 hk with h | h | h | h
      · exact Or.inl (CrL_mem.2 (Or.inl h))
      · exact Or.inl (CrL_mem.2 (Or.inr (Or.inl h)))
      · exact Or.inl (CrL_mem.2 (Or.inr (Or.inr (Or.inl h))))
      · rcases L5 with h5 | h5
        · exact Or.inl (CrL_mem.2 (Or.inr (Or.inr (Or.inr (by rw [← h5]; exact h)))))
        · rw [h5] at h
          cases h
          exact Or.inr (Nat.le_trans HB1.out.size (Nat.le_trans G2.size b4.size)))
  clear KK m4 m5 m6 h36 O6 O5 G5 L5 G2 M2 e62 h26 hrow4 hrow2 hrow1 c35 f35 h35 r1 r2 h32 c32 c2 c3
  go_end0
  exact ⟨rfl, HEND.out⟩
theorem add_any (s : List Nat) (h : CrW w B q2 q3 OL L) (hs : okS s) (hB : B ≤ w.heap.size) (hL : L.length ≤ 3000000000) : Calls Try.prog 42 #[.agg (stA s), .pointer (some ⟨q2, 0, none⟩), .pointer (some ⟨q3, 0, none⟩)] w fun e w' => e = .returned (.tuple #[]) ∧ CrS w w' B q2 q3 OL (addL L s) := by
  unfold addL
  by_cases hin : s ∈ L
  · rw [if_pos hin]
    refine (add_old s h hs hin hB).mono ?_
    rintro e w' ⟨rfl, b⟩
    exact ⟨rfl, OL, h.same (fun k hk => b.block k (h.lt hk).1), Kq.of_below b hB, fun k hk => Or.inl hk⟩
  · rw [if_neg hin]
    exact add_new s h hs hin hB hL
end
end Go.Proofs.Ytaemnelfnopjdaa
