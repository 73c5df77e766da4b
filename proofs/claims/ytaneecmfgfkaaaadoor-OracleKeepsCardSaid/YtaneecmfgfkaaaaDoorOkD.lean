/- The reference's Keep and Forget (layer 6). -/
import Derived.Test.YtaneecmfgfkaaaaDoorOkC
namespace Go.Proofs.YtaneecmfgfkaaaaDoor
open Go.RowKit Go.Deep Go.Maps
set_option linter.unusedVariables false
set_option linter.unusedSimpArgs false
def dropM (m : List ByteArray) (s : ByteArray) (k : Nat) : List ByteArray := (m.take k).filter fun x => !(x.toList == s.toList)
theorem dropM_zero (m : List ByteArray) (s : ByteArray) : dropM m s 0 = [] := rfl
theorem dropM_yes (m : List ByteArray) (s : ByteArray) (k : Nat) (h : k < m.length) (hs : ((m[k]).toList == s.toList) = false) : dropM m s (k + 1) = dropM m s k ++ [m[k]] := by
  unfold dropM
  have e : List.filter (fun x : ByteArray => !(x.toList == s.toList)) [m[k]] = [m[k]] := List.filter_cons_of_pos (p := fun x : ByteArray => !(x.toList == s.toList)) (by rw [hs]; rfl)
  rw [List.take_add_one, List.getElem?_eq_getElem h, Option.toList_some, List.filter_append, e]
theorem dropM_no (m : List ByteArray) (s : ByteArray) (k : Nat) (h : k < m.length) (hs : ((m[k]).toList == s.toList) = true) : dropM m s (k + 1) = dropM m s k := by
  unfold dropM
  have e : List.filter (fun x : ByteArray => !(x.toList == s.toList)) [m[k]] = [] := List.filter_cons_of_neg (p := fun x : ByteArray => !(x.toList == s.toList)) (by rw [hs]; simp)
  rw [List.take_add_one, List.getElem?_eq_getElem h, Option.toList_some, List.filter_append, e, List.append_nil]
theorem dropM_len (m : List ByteArray) (s : ByteArray) (k : Nat) : (dropM m s k).length ≤ k := Nat.le_trans (List.length_filter_le _ _) (by rw [List.length_take]; omega)
/-- Is it among the first k? -/
def isIn (m : List ByteArray) (s : ByteArray) (k : Nat) : Bool := (m.take k).any fun x => x.toList == s.toList
theorem isIn_zero (m : List ByteArray) (s : ByteArray) : isIn m s 0 = false := rfl
theorem isIn_step (m : List ByteArray) (s : ByteArray) (k : Nat) (h : k < m.length) : isIn m s (k + 1) = (isIn m s k || ((m[k]).toList == s.toList)) := by
  unfold isIn
  rw [List.take_add_one, List.getElem?_eq_getElem h, Option.toList_some, List.any_append]
  simp
theorem ba_list_eq (s t : ByteArray) (h : (s.toList == t.toList) = true) : s = t := by
  have h1 : s.toList = t.toList := by simpa using h
  rw [Lib.toList_data, Lib.toList_data] at h1
  cases s; cases t
  simp only [ByteArray.mk.injEq]
  exact Array.toList_inj.1 h1
theorem isIn_iff (m : List ByteArray) (s : ByteArray) : isIn m s m.length = true ↔ s ∈ m := by
  unfold isIn
  rw [List.take_length, List.any_eq_true]
  exact ⟨fun ⟨x, hx, e⟩ => by rw [← ba_list_eq x s e]; exact hx, fun h => ⟨s, h, by simp⟩⟩
theorem dropM_mem (m : List ByteArray) (s x : ByteArray) : x ∈ dropM m s m.length ↔ x ∈ m ∧ x ≠ s := by
  unfold dropM
  rw [List.take_length, List.mem_filter]
  refine ⟨fun ⟨h1, h2⟩ => ⟨h1, fun e => by subst e; simp at h2⟩, fun ⟨h1, h2⟩ => ⟨h1, by rw [ba_list_ne x s h2]; rfl⟩⟩
theorem str_cellsK (W : World) (s : ByteArray) : ∀ j u, [Value.string s][j]? = some u → (W.alloc (.cells #[.string s] 9)).cell? ((⟨W.heap.size, 0, none⟩ : Addr).add j) = some u := one_cell_at W _ _
theorem str_oneK (s : ByteArray) : ∀ u ∈ [Value.string s], u.oneCell' = true := fun u hu => by rw [List.mem_singleton.1 hu]; rfl
theorem strs_oneK (m : List ByteArray) : ∀ u ∈ m.map Value.string, u.oneCell' = true := fun u hu => by
  obtain ⟨x, _, rfl⟩ := List.mem_map.1 hu
  rfl
def keepM (m : List ByteArray) (s : ByteArray) : List ByteArray := if isIn m s m.length = true then m else m ++ [s]
attribute [local irreducible] dropM isIn
set_option maxRecDepth 100000 in
set_option maxHeartbeats 4000000 in
theorem refForget_any (base : Nat) (m : List ByteArray) (a : Option Addr) (n c : Nat) (s : ByteArray) (w : World) (hbw : base ≤ w.heap.size) (hO : w.ownsRow base 9 1 (.slice a n c) n (m.map Value.string)) (hm : m.length = n) (hn : n ≤ 1000) :
    Calls Tryd.prog 10 #[.slice a n c, .string s] w fun e w' => ∃ a' c', e = .returned (.tuple #[.slice a' (dropM m s n).length c', .bool (isIn m s n)]) ∧ w'.ownsRow base 9 1 (.slice a' (dropM m s n).length c') (dropM m s n).length ((dropM m s n).map Value.string) ∧ Below w.heap.size w w' ∧ ∀ k, (Value.slice a' (dropM m s n).length c').ownBlock = some k → w.heap.size ≤ k := by
  obtain ⟨is_, hsi, hsz0, hsz1, hsz2⟩ := info_parts' info_str'
  have HM := Lib.hid hm
  have HO := Lib.hid hO
  have HD0 := Lib.hid (dropM_zero m s)
  have HI0 := Lib.hid (isIn_zero m s)
  have HDY := Lib.hid (dropM_yes m s)
  have HDN := Lib.hid (dropM_no m s)
  have HDL := Lib.hid (dropM_len m s)
  have HIS := Lib.hid (isIn_step m s)
  clear hm hO
  go_enter Tryd.func10, Tryd.ntmps10
  go_wp2_with fail
  go_loopw [8, 6, 7] (fun x v is wi => ∃ k : Nat, x = .int .i64 (k : Int) ∧ k ≤ n ∧ is = .bool (isIn m s k) ∧ Hid (wi.ownsRow w.heap.size 9 1 v (dropM m s k).length ((dropM m s k).map Value.string) ∧ Below w.heap.size w wi)) (fun x _ _ _ => n - (intOf x).toNat)
  case atStart => exact ⟨0, rfl, by omega, by rw [HI0.out], Lib.hid ⟨by rw [HD0.out]; exact World.ownsRow_nil _ _ _ _, Below.refl _ _⟩⟩
  case round =>
    obtain ⟨k, rfl, hk, rfl, HK⟩ := hrel
    obtain ⟨a0, c0, rfl, hc1, hc2⟩ := own_sl HK.out.1
    by_cases hlt : k < n
    · have hkm : k < m.length := by rw [HM.out]; exact hlt
      have hli : (k : Int) < (n : Int) := by omega
      obtain ⟨g, rfl, hg, hcl⟩ := own_cell HO.out k hkm
      have hcell := (HK.out.2.cell (p := ⟨g, k, none⟩) hg).trans hcl
      have HY := Lib.hid (HDY.out k hkm)
      have HN := Lib.hid (HDN.out k hkm)
      have HS := Lib.hid (HIS.out k hkm)
      have hdl := HDL.out k
      generalize (m[k]'hkm) = t at *
      cases hr : (t.toList == s.toList) with
      | true =>
        as_aux_lemma =>
        rw [hr] at HN HS
        have HN2 := Lib.hid (HN.out (by rfl))
        have HS2 : Hid (isIn m s (k + 1) = true) := Lib.hid (by rw [HS.out, Bool.or_true])
        clear HN HY HS
        go_wp2_with fail
        go_roundw
        case rel => exact ⟨k + 1, by go_num, by omega, by rw [HS2.out], Lib.hid ⟨by rw [HN2.out]; exact HK.out.1, HK.out.2⟩⟩
        case measure => simp [intOf]; omega
      | false =>
        as_aux_lemma =>
        rw [hr] at HY HS
        have HY2 := Lib.hid (HY.out (by rfl))
        have HS2 : Hid (isIn m s (k + 1) = isIn m s k) := Lib.hid (by rw [HS.out, Bool.or_false])
        have HOW := Lib.hid HK.out.1
        have HBE := Lib.hid HK.out.2
        have hszw := HBE.out.size
        clear HN HY HS HK
        obtain ⟨N, HNN⟩ : ∃ N, Hid ((dropM m s k).length = N) := ⟨_, Lib.hid rfl⟩
        obtain ⟨VL, HVL⟩ : ∃ VL, Hid ((dropM m s k).map Value.string = VL) := ⟨_, Lib.hid rfl⟩
        rw [HNN.out, HVL.out] at HOW
        rw [HNN.out] at hdl
        simp only [HNN.out]
        go_wp2_with (at_builtin; refine wpList_append_src2 _ rfl _ _ 25 25 rfl w.heap.size 9 is_ (.string ⟨#[]⟩) 1 16 Tryd.underlying25 hsi hsz0 hsz1 hsz2 (by with_unfolding_all rfl) (by decide) (.slice a0 N c0) N _ rfl (HOW.out.alloc _) (.slice (some ⟨wr.heap.size, 0, none⟩) 1 1) 1 [.string t] rfl (Src.ofSlice _ Tryd.underlying25 ⟨wr.heap.size, 0, none⟩ 1 1 [.string t] rfl (str_cellsK wr t) (str_oneK t)) (by unfold maxLen; omega) (by omega) (by simp; omega) ?_; intro v5 w5 O5 G5 A5; obtain ⟨a5, c5, rfl, _, _⟩ := own_sl O5)
        have B5 : Below w.heap.size w w5 := (HBE.out.alloc hszw _).grown G5 (by simp; omega) (fun j e => (HOW.out.lt j e).1)
        go_wp2_with fail
        go_roundw
        case rel => exact ⟨k + 1, by go_num, by omega, by rw [HS2.out], Lib.hid ⟨by rw [HY2.out, List.length_append, List.map_append, HNN.out, HVL.out]; exact O5, B5⟩⟩
        case measure => simp [intOf]; omega
    · as_aux_lemma =>
      obtain rfl : k = n := by omega
      have HOW := Lib.hid HK.out.1
      have HB := Lib.hid HK.out.2
      clear HK
      go_wp2_with fail
      go_ret2
      exact ⟨a0, c0, by first | done | rfl, own_weak HOW.out hbw, HB.out, fun k e => (HOW.out.lt k e).1⟩
theorem nilRow_ownsS (w : World) (base : Nat) (hb : base ≤ w.heap.size) (cs : Array Value) (hcs : cs.size = 0) : (w.alloc (.cells cs 9)).ownsRow base 9 1 (.slice (some ⟨w.heap.size, 0, none⟩) 0 0) 0 [] :=
  ⟨rfl, Or.inr ⟨w.heap.size, 0, cs, rfl, hb, heap_alloc_new w _, Nat.le_refl _, Nat.zero_le _, by rw [hcs], by simp⟩⟩
set_option maxRecDepth 100000 in
set_option maxHeartbeats 4000000 in
theorem refKeep_any (base : Nat) (m : List ByteArray) (a : Option Addr) (n c : Nat) (s : ByteArray) (w : World) (hbw : base ≤ w.heap.size) (hO : w.ownsRow base 9 1 (.slice a n c) n (m.map Value.string)) (hm : m.length = n) (hn : n ≤ 1000) :
    Calls Tryd.prog 12 #[.slice a n c, .string s] w fun e w' => ∃ a' c', e = .returned (.slice a' (keepM m s).length c') ∧ w'.ownsRow base 9 1 (.slice a' (keepM m s).length c') (keepM m s).length ((keepM m s).map Value.string) ∧ Below w.heap.size w w' ∧ ∀ k, (Value.slice a' (keepM m s).length c').ownBlock = some k → (Value.slice a n c).ownBlock = some k ∨ w.heap.size ≤ k := by
  obtain ⟨is_, hsi, hsz0, hsz1, hsz2⟩ := info_parts' info_str'
  have HM := Lib.hid hm
  have HO := Lib.hid hO
  have HI0 := Lib.hid (isIn_zero m s)
  have HIS := Lib.hid (isIn_step m s)
  have HKY : Hid (isIn m s n = true → keepM m s = m) := Lib.hid (fun h => by unfold keepM; rw [hm, h]; rfl)
  have HKN : Hid (isIn m s n = false → keepM m s = m ++ [s]) := Lib.hid (fun h => by unfold keepM; rw [hm, h]; rfl)
  have HIN : Hid (∀ k (h : k < m.length), ((m[k]).toList == s.toList) = true → isIn m s n = true) := Lib.hid (fun k h e => by rw [← hm]; exact (isIn_iff m s).2 (by rw [← ba_list_eq _ _ e]; exact List.getElem_mem h))
  clear hm hO
  go_enter Tryd.func12, Tryd.ntmps12
  go_wp2_with fail
  go_loop [5] (fun x => ∃ k : Nat, x = .int .i64 (k : Int) ∧ k ≤ n ∧ Hid (isIn m s k = false)) (fun x => n - (intOf x).toNat)
  case atStart => exact ⟨0, rfl, by omega, HI0⟩
  case round =>
    obtain ⟨k, rfl, hk, HK⟩ := hrel
    by_cases hlt : k < n
    · have hkm : k < m.length := by rw [HM.out]; exact hlt
      have hli : (k : Int) < (n : Int) := by omega
      obtain ⟨g, rfl, hg, hcell⟩ := own_cell HO.out k hkm
      have HS := Lib.hid (HIS.out k hkm)
      have HN := Lib.hid (HIN.out k hkm)
      generalize (m[k]'hkm) = t at *
      cases hr : (t.toList == s.toList) with
      | true =>
        as_aux_lemma =>
        rw [hr] at HN
        have HKE := Lib.hid (HKY.out (HN.out (by rfl)))
        go_wp2_with fail
        go_ret
        exact ⟨some ⟨g, 0, none⟩, c, by rw [HKE.out, HM.out]; first | done | rfl, by rw [HKE.out, HM.out]; exact HO.out, Below.refl _ _, fun k e => Or.inl (by rw [HKE.out, HM.out] at e; exact e)⟩
      | false =>
        as_aux_lemma =>
        rw [hr] at HS
        have HS2 : Hid (isIn m s (k + 1) = false) := Lib.hid (by rw [HS.out, HK.out]; rfl)
        clear HN HS HK
        go_wp2_with fail
        go_round
        case rel => exact ⟨k + 1, by go_num, by omega, HS2⟩
        case measure => simp [intOf]; omega
    · as_aux_lemma =>
      obtain rfl : k = n := by omega
      have HKE := Lib.hid (HKN.out HK.out)
      have HSRC : Hid (∀ w1, Below w.heap.size w w1 → Src Tryd.prog 1 25 (.slice a k c) k (m.map Value.string) w1) := Lib.hid (fun w1 hb => by
        rcases HO.out.2 with ⟨e, h0⟩ | ⟨g, cap, cur, e, q1, q2, _⟩
        · cases e
          have hm0 : m = [] := List.length_eq_zero_iff.1 HM.out
          subst hm0
          exact Src.ofNil w1 Tryd.underlying25 0
        · cases e
          exact Src.ofSlice w1 Tryd.underlying25 ⟨g, 0, none⟩ k c (m.map Value.string) (by rw [List.length_map, HM.out, Nat.mul_one]) (fun j u hu => (hb.cell (p := (⟨g, 0, none⟩ : Addr).add j) (by have := (Array.getElem?_eq_some_iff.1 q2).1; unfold Addr.add; split <;> simpa using this)).trans (HO.out.cells (g := g) rfl j u hu)) (strs_oneK m))
      have hb1 := (Below.refl w.heap.size w).alloc (Nat.le_refl _) (.cells #[] 9)
      have hnn := nilRow_ownsS w w.heap.size (Nat.le_refl _) #[] rfl
      have HV := Lib.hid (rfl : m.map Value.string = m.map Value.string)
      clear HK HIS HIN HI0 HKY HKN
      go_wp2_with (first | (at_builtin; refine wpList_append_src2 _ rfl _ _ 25 25 rfl w.heap.size 9 is_ (.string ⟨#[]⟩) 1 16 Tryd.underlying25 hsi hsz0 hsz1 hsz2 (by with_unfolding_all rfl) (by decide) (.slice (some ⟨w.heap.size, 0, none⟩) 0 0) 0 [] rfl hnn (.slice a k c) k (m.map Value.string) rfl (HSRC.out _ hb1) (by unfold maxLen; omega) (by omega) (by simp) ?_; intro v2 w2 O2 G2 A2; rw [Nat.zero_add, List.nil_append] at O2; obtain ⟨a2, c2, rfl, _, _⟩ := own_sl O2; have B2 : Below w.heap.size w w2 := hb1.grown G2 (by simp) (fun j e => (hnn.lt j e).1); have hsz2' := B2.size) | (at_builtin; refine wpList_append_src2 _ rfl _ _ 25 25 rfl w.heap.size 9 is_ (.string ⟨#[]⟩) 1 16 Tryd.underlying25 hsi hsz0 hsz1 hsz2 (by with_unfolding_all rfl) (by decide) (.slice a2 k c2) k (m.map Value.string) rfl (O2.alloc _) (.slice (some ⟨w2.heap.size, 0, none⟩) 1 1) 1 [.string s] rfl (Src.ofSlice _ Tryd.underlying25 ⟨w2.heap.size, 0, none⟩ 1 1 [.string s] rfl (str_cellsK w2 s) (str_oneK s)) (by unfold maxLen; omega) (by omega) (by simp; omega) ?_; intro v3 w3 O3 G3 A3; obtain ⟨a3, c3, rfl, _, _⟩ := own_sl O3; have B3 : Below w.heap.size w w3 := (B2.alloc hsz2' _).grown G3 (by simp; omega) (fun j e => (O2.lt j e).1)))
      have HE : Hid (∃ a' c', (Value.slice a3 (k + 1) c3) = .slice a' (keepM m s).length c' ∧ w3.ownsRow base 9 1 (.slice a' (keepM m s).length c') (keepM m s).length ((keepM m s).map Value.string) ∧ Below w.heap.size w w3 ∧ ∀ q, (Value.slice a' (keepM m s).length c').ownBlock = some q → (Value.slice a k c).ownBlock = some q ∨ w.heap.size ≤ q) := Lib.hid (by
        have e1 : (m ++ [s]).length = k + 1 := by rw [List.length_append, HM.out]; rfl
        rw [HKE.out, e1, List.map_append]
        exact ⟨a3, c3, rfl, own_weak O3 hbw, B3, fun q e => Or.inr (O3.lt q e).1⟩)
      go_wp2_with fail
      go_ret
      obtain ⟨a', c', q1, q2, q3, q4⟩ := HE.out
      exact ⟨a', c', by rw [← q1]; first | done | rfl, q2, q3, q4⟩
end Go.Proofs.YtaneecmfgfkaaaaDoor
