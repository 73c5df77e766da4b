/- Package flat: states (rows of 64 numbers), like, behind. -/
import Derived.Test.YtaemnelfnopjdaaFap
import Derived.Laws.CopyOwn
import Derived.Laws.Tables
namespace Go.Proofs.Ytaemnelfnopjdaa
open Go.RowKit Go.Deep
set_option linter.unusedVariables false
set_option linter.unusedSimpArgs false
def nC (s : List Nat) : List Value := s.map fun (x : Nat) => .int .i64 (x : Int)
theorem nC_len (s : List Nat) : (nC s).length = s.length := by unfold nC; rw [List.length_map]
theorem nC_app (a b : List Nat) : nC (a ++ b) = nC a ++ nC b := by unfold nC; rw [List.map_append]
theorem nC_get (s : List Nat) (i : Nat) : (nC s)[i]? = s[i]?.map fun (x : Nat) => Value.int .i64 (x : Int) := by unfold nC; rw [List.getElem?_map]
theorem nC_one (s : List Nat) : ∀ v ∈ nC s, v.oneCell' = true := fun v hv => by
  obtain ⟨x, _, rfl⟩ := List.mem_map.1 hv
  rfl
def stA (s : List Nat) : Array Value := (nC s).toArray
theorem stA_size {s : List Nat} (h : s.length = 64) : (stA s).size = 64 := by unfold stA; rw [List.size_toArray, nC_len, h]
theorem stA_one (s : List Nat) : (stA s).all (·.oneCell') = true := by
  unfold stA
  rw [List.all_toArray, List.all_eq_true]
  exact fun v hv => nC_one s v hv
theorem info_st : (Try.prog.info? 56).map (·.size) = some 64 := by kernel_rfl
theorem stA_info {s : List Nat} (h : s.length = 64) : (Try.prog.info? 56).map (·.size) = some (stA s).size := by rw [stA_size h]; exact info_st
/-- Numbers behind a slice. -/
def NatAt (w : World) (ao : Option Addr) (b : List Nat) : Prop := 0 < b.length → ∃ g o, ao = some ⟨g, o, none⟩ ∧ g < w.heap.size ∧ ∀ i (hi : i < b.length), w.cell? ⟨g, o + i, none⟩ = some (.int .i64 (b[i] : Int))
theorem NatAt.below {w w' : World} {ao : Option Addr} {b : List Nat} (h : NatAt w ao b) (k : Below w.heap.size w w') : NatAt w' ao b := fun hp => by
  obtain ⟨g, o, e, hg, hc⟩ := h hp
  exact ⟨g, o, e, Nat.lt_of_lt_of_le hg k.size, fun i hi => (k.cell (p := ⟨g, o + i, none⟩) hg).trans (hc i hi)⟩
/-- A state has these blocks from a place on. -/
def likeB (s : List Nat) (a : Nat) (b : List Nat) : Bool := (s.drop a).take b.length == b
theorem likeB_yes {s b : List Nat} {a : Nat} (hs : a + b.length ≤ s.length) (h : ∀ i (hi : i < b.length), s[a + i]? = some b[i]) : likeB s a b = true := by
  unfold likeB
  rw [beq_iff_eq]
  apply List.ext_getElem?
  intro i
  by_cases hi : i < b.length
  · rw [List.getElem?_take, if_pos hi, List.getElem?_drop, h i hi, List.getElem?_eq_getElem hi]
  · rw [List.getElem?_take, if_neg hi, List.getElem?_eq_none (by omega)]
theorem likeB_no {s b : List Nat} {a i : Nat} (hi : i < b.length) (h : s[a + i]? ≠ some b[i]) : likeB s a b = false := by
  unfold likeB
  rw [beq_eq_false_iff_ne]
  intro e
  apply h
  have := congrArg (fun l : List Nat => l[i]?) e
  rw [List.getElem?_take, if_pos hi, List.getElem?_drop, List.getElem?_eq_getElem hi] at this
  exact this
/-- Blocks laid over a state. -/
def spl (s : List Nat) (a : Nat) (b : List Nat) : List Nat := s.take a ++ (b ++ s.drop (a + b.length))
theorem spl_len {s b : List Nat} {a : Nat} (h : a + b.length ≤ s.length) : (spl s a b).length = s.length := by
  unfold spl
  rw [List.length_append, List.length_append, List.length_take, List.length_drop]
  omega
theorem spl_cells {s b : List Nat} {a : Nat} : splice (nC s) a (nC b) = nC (spl s a b) := by
  unfold splice spl
  rw [nC_app, nC_app]
  unfold nC
  rw [List.length_map, List.map_take, List.map_drop]
theorem st_box (w : World) (s : List Nat) : ∃ w1, Hid (w.alloc (.cells (stA s) 56) = w1) ∧ w1.heap[w.heap.size]? = some (.cells (stA s) 56 (0, 0)) ∧ Below w.heap.size w w1 ∧ w1.heap.size = w.heap.size + 1 :=
  ⟨_, Lib.hid rfl, heap_alloc_new _ _, (Below.refl _ _).alloc (Nat.le_refl _) _, by simp⟩
theorem st_cell {w : World} {g : Nat} {s : List Nat} (h : w.heap[g]? = some (.cells (stA s) 56 (0, 0))) {i : Nat} (hi : i < s.length) : w.cell? ⟨g, i, none⟩ = some (.int .i64 (s[i] : Int)) := by
  rw [cell_of_row w g i _ _ _ h]
  unfold stA
  rw [List.getElem?_toArray, nC_get, List.getElem?_eq_getElem hi]; rfl
set_option maxRecDepth 100000 in
set_option maxHeartbeats 2000000 in
theorem like_any (s b : List Nat) (a : Nat) (ao : Option Addr) (c : Nat) (w : World) (hs : s.length = 64) (hb : NatAt w ao b) (hab : a + b.length ≤ 64) : Calls Try.prog 38 #[.agg (stA s), .int .i64 (a : Int), .slice ao b.length c] w fun e w' => e = .returned (.bool (likeB s a b)) ∧ Below w.heap.size w w' := by
  obtain ⟨w1, HW1, r1, b1, s1⟩ := st_box w s
  have HB := Lib.hid (hb.below b1)
  have HB1 := Lib.hid b1
  have HC := Lib.hid (fun i (hi : i < s.length) => st_cell r1 hi)
  obtain ⟨gs, hgs⟩ : ∃ gs, Hid (w.heap.size = gs) := ⟨_, Lib.hid rfl⟩
  obtain ⟨n, hn⟩ : ∃ n, Hid (b.length = n) := ⟨_, Lib.hid rfl⟩
  rw [hgs.out] at HC
  rw [hn.out] at hab ⊢
  have HY := Lib.hid (fun h => likeB_yes (s := s) (b := b) (a := a) (by rw [hn.out, hs]; exact hab) h)
  have HN := Lib.hid (fun i hi h => likeB_no (s := s) (b := b) (a := a) (i := i) hi h)
  generalize likeB s a b = R at *
  clear hb b1 r1 s1
  go_enter Try.func38, Try.ntmps38
  go_upto_region 1 with fail
  rw [HW1.out, hgs.out]
  clear HW1
  go_wp2_with fail
  go_loopw [11] (fun s11 wi => ∃ i : Nat, s11 = .int .i64 (i : Int) ∧ i ≤ n ∧ Hid (∀ j (hj : j < b.length), j < i → s[a + j]? = some b[j]) ∧ w1 = wi) (fun s11 _ => n - (intOf s11).toNat)
  case atStart => exact ⟨0, rfl, by omega, Lib.hid (fun j _ h => absurd h (by omega)), rfl⟩
  case round =>
    obtain ⟨i, rfl, hi, HE, rfl⟩ := hrel
    by_cases hlt : i < n
    · as_aux_lemma =>
      have hli : (i : Int) < (n : Int) := by omega
      have hib : i < b.length := by rw [hn.out]; exact hlt
      obtain ⟨g, o, rfl, hg, hc⟩ := HB.out (by omega)
      have c0 := hc i hib
      have hai : a + i < s.length := by omega
      have c1 := HC.out (a + i) hai
      have HN2 := Lib.hid (HN.out i hib)
      have HE3 : Hid (∀ z, s[a + i]? = some z → z = b[i] → ∀ j (hj : j < b.length), j < i + 1 → s[a + j]? = some b[j]) := Lib.hid (fun z hz1 hz2 j hj h => by
        by_cases e : j = i
        · subst e; rw [hz1, hz2]
        · exact HE.out j hj (by omega))
      have hgt := List.getElem?_eq_getElem hai
      obtain ⟨q, hq⟩ : ∃ q, Hid (a + i = q) := ⟨_, Lib.hid rfl⟩
      rw [hq.out] at HN2
      simp only [hq.out] at hai c1 HE3 hgt
      have e1 : (a : Int) + (i : Int) = (q : Int) := by have := hq.out; omega
      have h1 : (q : Int) < 64 := by omega
      have h2 : (0 : Int) ≤ (q : Int) := by omega
      obtain ⟨x, hx⟩ : ∃ x, Hid (s[q] = x) := ⟨_, Lib.hid rfl⟩
      obtain ⟨y, hy⟩ : ∃ y, Hid (b[i] = y) := ⟨_, Lib.hid rfl⟩
      rw [hx.out] at c1
      rw [hy.out] at c0
      clear hc hlt
      by_cases hxy : x = y
      · have hq : ((x : Int) != (y : Int)) = false := by rw [hxy]; simp
        have HE2 := Lib.hid (HE3.out x (by rw [hgt, hx.out]) (by rw [hy.out, hxy]))
        subst hxy
        clear HE HE3 HN2 hx hy hgt
        go_wp2_with fail
        go_roundw
        case rel => exact ⟨i + 1, by go_num, by omega, HE2, trivial⟩
        case measure => simp [intOf]; omega
      · have hq : ((x : Int) != (y : Int)) = true := by simp; omega
        have hR : R = false := HN2.out (by rw [hgt, hx.out, hy.out]; simpa using hxy)
        subst hR
        clear HE HE3 HN2 hx hy hxy hgt
        go_wp2_with fail
        go_ret
        exact ⟨rfl, HB1.out⟩
    · as_aux_lemma =>
      have hli : ¬ (i : Int) < (n : Int) := by omega
      have hR : R = true := HY.out (fun j hj => HE.out j hj (by have := hn.out; omega))
      subst hR
      go_wp2_with fail
      go_ret
      exact ⟨rfl, HB1.out⟩
end Go.Proofs.Ytaemnelfnopjdaa
