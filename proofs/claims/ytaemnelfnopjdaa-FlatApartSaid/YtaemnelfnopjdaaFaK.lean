/- Package flat: numbers. -/
import Derived.Test.YtaemnelfnopjdaaFaI
namespace Go.Proofs.Ytaemnelfnopjdaa
open Go.RowKit Go.Deep Go.Maps
set_option linter.unusedVariables false
set_option linter.unusedSimpArgs false
def numL (T ps : List (List UInt8)) : List Nat := ps.map fun p => T.idxOf p
def allIn (T ps : List (List UInt8)) : Prop := ∀ p ∈ ps, p ∈ T
instance (T ps : List (List UInt8)) : Decidable (allIn T ps) := by unfold allIn; infer_instance
theorem numL_succ (T : List (List UInt8)) (l : List UInt8) (i : Nat) : numL T (pcs l (i + 1)) = numL T (pcs l i) ++ [T.idxOf (pcF l i)] := by unfold numL; rw [pcs_succ, List.map_append]; rfl
theorem allIn_succ {T : List (List UInt8)} {l : List UInt8} {i : Nat} (h : allIn T (pcs l i)) (h2 : pcF l i ∈ T) : allIn T (pcs l (i + 1)) := fun p hp => by
  rw [pcs_succ] at hp
  rcases List.mem_append.1 hp with h1 | h1
  · exact h p h1
  · rw [List.mem_singleton.1 h1]; exact h2
theorem pcs_mem {l : List UInt8} {i k : Nat} (h : i < k) : pcF l i ∈ pcs l k := by
  unfold pcs
  exact List.mem_map.2 ⟨i, List.mem_range.2 h, rfl⟩
/-- What numbers tells. -/
def NumR (T ps : List (List UInt8)) (w : World) (e : Ending) (w' : World) : Prop :=
  ∃ a n c b, e = .returned (.tuple #[.slice a n c, .bool b]) ∧ Below w.heap.size w w' ∧ (allIn T ps → b = true ∧ n = ps.length ∧ w'.ownsRow w.heap.size 3 1 (.slice a n c) n (nC (numL T ps))) ∧ (¬ allIn T ps → b = false ∧ n = 0)
section
variable {w : World} {B g bm : Nat} {M : Fl} {vt vf vc : Value} {cm : List Ch} {D : DataW Unit}
set_option maxRecDepth 100000 in
set_option maxHeartbeats 8000000 in
theorem numbers_any (s : ByteArray) (k : Nat) (h : FlAt w B g M vt vf vc cm bm D) (hs : s.size = 48 * k) (hk : k ≤ 64) : Calls Try.prog 35 #[.pointer (some ⟨g, 0, none⟩), .string s] w (NumR M.T (pcs s.data.toList k) w) := by
  have CC := Lib.hid (cut_any s k w hs (by omega))
  have HPL := Lib.hid (pcs_len s.data.toList)
  have HPG : Hid (∀ i, i < k → (strF (pcs s.data.toList k))[i]? = some (.string ⟨(pcF s.data.toList i).toArray⟩)) := Lib.hid (fun i hi => by
    unfold strF pcs
    rw [List.getElem?_map, List.getElem?_map, List.getElem?_range hi]; rfl)
  have HPZ : Hid (∀ i, (pcF s.data.toList i).length ≤ 48) := Lib.hid (fun i => by unfold pcF; rw [List.length_take]; omega)
  have HNS := Lib.hid (numL_succ M.T s.data.toList)
  have HAS := Lib.hid (fun i => allIn_succ (T := M.T) (l := s.data.toList) (i := i))
  have HPM := Lib.hid (fun i (h : i < k) => pcs_mem (l := s.data.toList) h)
  have HA0 : Hid (allIn M.T (pcs s.data.toList 0)) := Lib.hid (fun p hp => by cases hp)
  have HN0 : Hid (numL M.T (pcs s.data.toList 0) = []) := Lib.hid rfl
  generalize strF (pcs s.data.toList k) = SP at *
  generalize pcF s.data.toList = PC at *
  generalize pcs s.data.toList = PS at *
  obtain ⟨ii, hii, hiz0, hiz1, hiz2⟩ := info_partsF info_intF
  have H := Lib.hid h
  clear h
  go_enter Try.func35, Try.ntmps35
  go_wp2_with fail
  go_step3
  go_wp2_with fail
  go_step3
  go_wp2_with fail
  refine CC.out.mono ?_
  rintro e w2 ⟨ac, cc, rfl, hcut, b2⟩
  have HCUT := Lib.hid hcut
  have HH2 := Lib.hid (H.out.below b2)
  have HB2 := Lib.hid b2
  have HR0 : Hid (w2.ownsRow w2.heap.size 3 1 (.slice none 0 0) 0 (nC (numL M.T (PS 0)))) := Lib.hid (by rw [HN0.out]; exact World.ownsRow_nil _ _ _ _)
  clear CC hcut b2
  go_wp2_with fail
  go_loopw [6, 7, 15] (fun s6 s7 s15 wi => ∃ i : Nat, s15 = .int .i64 (i : Int) ∧ s7 = .bool true ∧ i ≤ k ∧ (∃ a c, s6 = .slice a i c) ∧ Hid (allIn M.T (PS i)) ∧ Hid (wi.ownsRow w2.heap.size 3 1 s6 i (nC (numL M.T (PS i)))) ∧ Hid (Below w2.heap.size w2 wi) ∧ w2.heap.size ≤ wi.heap.size) (fun _ _ s15 _ => k - (intOf s15).toNat)
  case atStart => exact ⟨0, rfl, rfl, by omega, ⟨_, _, rfl⟩, HA0, HR0, Lib.hid (Below.refl _ _), Nat.le_refl _⟩
  case round =>
    obtain ⟨i, rfl, rfl, hi, ⟨a6, c6, rfl⟩, HA, HR, HB, hwi⟩ := hrel
    clear HR0 HA0
    by_cases hlt : i < k
    · as_aux_lemma =>
      have hli : (i : Int) < (k : Int) := by omega
      have h0k : (0 : Int) ≤ (i : Int) := by omega
      rcases HCUT.out.2 with ⟨e9, h0⟩ | ⟨rg, cap, cur, e9, hbr, hgr, _⟩
      · omega
      injection e9 with e1 _ e3
      subst e1 e3
      have ck := HCUT.out.cells (g := rg) rfl i _ (HPG.out i hlt)
      rw [Addr.add_lit, Nat.zero_add] at ck
      have ck := (HB.out.cell (p := ⟨rg, i, none⟩) (Array.getElem?_eq_some_iff.1 hgr).1).trans ck
      have HHi := Lib.hid (HH2.out.below HB.out)
      have hm1 := HHi.out.hm
      have c2 := cell_of_row wr g 2 _ _ _ HHi.out.hg
      have HIXS := Lib.hid (HHi.out.ix (PC i))
      obtain ⟨x, hx⟩ : ∃ x, Hid ((⟨(PC i).toArray⟩ : ByteArray) = x) := ⟨_, Lib.hid rfl⟩
      have hxl : x.data.toList = PC i := by rw [← hx.out]
      have HKEY := Lib.hid (show keyOf Try.prog 9 (.string x) = some (kS (PC i)) by
        rw [← hxl]
        exact Go.WideMaps.keyOf_string_mk Try.underlying9 (by rw [← hx.out, bytes_size]; have := HPZ.out i; unfold maxLen; omega))
      rw [hx.out] at ck
      clear hx hxl hgr HH2
      generalize M.T.length = tn at *
      by_cases hin : PC i ∈ M.T
      · as_aux_lemma =>
        have HHAS : Hid (has D (kS (PC i)) = true) := Lib.hid (by rw [HIXS.out.1]; exact decide_eq_true hin)
        have HIX := Lib.hid (HIXS.out.2 hin)
        have HA2 := Lib.hid (HAS.out i HA.out hin)
        obtain ⟨ix, hix⟩ : ∃ ix, Hid (M.T.idxOf (PC i) = ix) := ⟨_, Lib.hid rfl⟩
        rw [hix.out] at HIX
        have hrow := HR.out
        have hsrc := src_intF (w := wr) (ix : Int)
        have o1 : i + 1 ≤ maxLen := by unfold maxLen; omega
        have o2 : (i + 1) * 8 ≤ 140737488355328 := by omega
        have o3 : w2.heap.size ≤ (wr.alloc (.cells #[.int .i64 (ix : Int)] 3)).heap.size := by simp; omega
        go_upto_region 7 with (at_lookup; refine wpList_lookup_own_ok_int _ rfl _ _ 54 rfl 9 3 .i64 lawS Try.underlying54 Try.underlying3 (zeroI _) bm tn D rfl hm1 _ (kS (PC i)) rfl HKEY.out ?_; intro c hat hwc; rw [HIX.out] at hat; obtain rfl : (ix : Int) = c := (by injection hat with hat; injection hat); rw [HHAS.out]; clear hat hwc)
        go_wp2_with (at_builtin; refine wpList_append_src2 _ rfl _ _ 67 67 rfl w2.heap.size 3 ii (.int .i64 0) 1 8 Try.underlying67 hii hiz0 hiz1 hiz2 rfl (by decide) (.slice a6 i c6) i (nC (numL M.T (PS i))) rfl (hrow.alloc _) _ 1 [.int .i64 (ix : Int)] rfl hsrc o1 o2 o3 ?_)
        intro v' w7 hown7 hg7 hloc7
        have ba : Below wr.heap.size wr (wr.alloc (.cells #[.int .i64 (ix : Int)] 3)) := (Below.refl _ _).alloc (Nat.le_refl _) _
        have HB7 := Lib.hid ((HB.out.trans (ba.mono hwi)).grown hg7 o3 (fun j e => (hrow.lt j e).1))
        have hw7 : w2.heap.size ≤ w7.heap.size := Nat.le_trans o3 hg7.size
        obtain ⟨a7, c7, rfl⟩ := own_slF hown7
        have HRN : Hid (w7.ownsRow w2.heap.size 3 1 (.slice a7 (i + 1) c7) (i + 1) (nC (numL M.T (PS (i + 1))))) := Lib.hid (by
          rw [HNS.out i, nC_app, hix.out]; exact hown7)
        clear hown7 hg7 hloc7 ba hrow hsrc o1 o2 o3 HR HB HHi hm1 c2 ck
        go_wp2_with fail
        go_roundw
        case rel => exact ⟨i + 1, by go_num, rfl, by omega, ⟨_, _, rfl⟩, HA2, HRN, HB7, hw7⟩
        case measure => simp [intOf]; omega
      · as_aux_lemma =>
        have HHAS : Hid (has D (kS (PC i)) = false) := Lib.hid (by rw [HIXS.out.1]; exact decide_eq_false hin)
        have HNO : Hid (¬ allIn M.T (PS k)) := Lib.hid (fun h => hin (h _ (HPM.out i hlt)))
        have HBW := Lib.hid (HB2.out.trans (HB.out.mono HB2.out.size))
        go_upto_region 7 with (at_lookup; refine wpList_lookup_own_ok_int _ rfl _ _ 54 rfl 9 3 .i64 lawS Try.underlying54 Try.underlying3 (zeroI _) bm tn D rfl hm1 _ (kS (PC i)) rfl HKEY.out ?_; intro c hat hwc; rw [HHAS.out]; clear hat hwc)
        clear hm1 c2 ck HHi HR HA HB
        go_wp2_with fail
        go_ret2
        exact ⟨_, _, _, _, rfl, HBW.out, fun h => absurd h HNO.out, fun _ => ⟨rfl, rfl⟩⟩
    · as_aux_lemma =>
      have hli : ¬ (i : Int) < (k : Int) := by omega
      obtain rfl : i = k := by omega
      have HBW := Lib.hid (HB2.out.trans (HB.out.mono HB2.out.size))
      have hb2 := HB2.out.size
      go_wp2_with fail
      go_ret2
      exact ⟨_, _, _, _, rfl, HBW.out, fun _ => ⟨rfl, (HPL.out i).symm, own_weakF HR.out hb2⟩, fun h => absurd HA.out h⟩
end
end Go.Proofs.Ytaemnelfnopjdaa
