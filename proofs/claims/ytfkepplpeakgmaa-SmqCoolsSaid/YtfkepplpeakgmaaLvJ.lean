/- Package level: List (a walker with a callback that appends). -/
import Derived.Test.YtfkepplpeakgmaaLvI
import Derived.Deep.AppendLies
namespace Go.Proofs.Ytfkepplpeakgmaa
open Go.RowKit Go.Deep
set_option linter.unusedVariables false
set_option linter.unusedSimpArgs false
theorem info_partsD {P : Program} {t : TypeId} {z : Value} {n m : Nat} (h : (P.info? t).map (fun i => (i.zero, i.size, i.bytes)) = some (some z, n, m)) : ∃ i, P.info? t = some i ∧ i.zero = some z ∧ i.size = n ∧ i.bytes = m := by
  cases hq : P.info? t with
  | none => simp [hq] at h
  | some i => simp [hq] at h; exact ⟨i, rfl, h.1, h.2.1, h.2.2⟩
theorem info_i64D : (Try.prog.info? 3).map (fun i => (i.zero, i.size, i.bytes)) = some (some (.int .i64 0), 1, 8) := by kernel_rfl
theorem own_belowD {w w' : World} {base n size : Nat} {e : TypeId} {v : Value} {xs : List Value} (h3 : w.ownsRow base e size v n xs) (hb : Below w.heap.size w w') : w'.ownsRow base e size v n xs := by
  refine ⟨h3.1, ?_⟩
  rcases h3.2 with h | ⟨g2, cap, cur, rfl, q1, q2, q3⟩
  · exact Or.inl h
  · exact Or.inr ⟨g2, cap, cur, rfl, q1, (hb.block g2 (Array.getElem?_eq_some_iff.1 q2).1).trans q2, q3⟩
/-- A row that grows behind a cell of its own at block l. -/
structure UnAtD (base l : Nat) (w0 w : World) (xs : List Value) : Prop where
  row : ∃ v, w.cell? ⟨l, 0, none⟩ = some v ∧ w.ownsRow base 3 1 v xs.length xs
  free : w.frozen? ⟨l, 0, none⟩ = false
  below : Below l w0 w
  other : ∀ k, k < base → k ≠ l → w.heap[k]? = w0.heap[k]?
  size : base ≤ w.heap.size
theorem own_slD {w : World} {base n size : Nat} {e : TypeId} {v : Value} {xs : List Value} (h : w.ownsRow base e size v n xs) : ∃ a c, v = .slice a n c := by
  rcases h.2 with ⟨rfl, rfl⟩ | ⟨g, cap, cur, rfl, hb, hg, hnc, hcm, _⟩
  · exact ⟨none, 0, rfl⟩
  · exact ⟨some ⟨g, 0, none⟩, cap, rfl⟩
theorem grown_setD (w : World) (l : Nat) (v : Value) : w.grownBy (w.setCell ⟨l, 0, none⟩ v) (some l) :=
  ⟨rfl, rfl, rfl, by simp [World.setCell], fun k hk hn => Below.heap_setCell w ⟨l, 0, none⟩ v k (fun e => hn (by rw [show k = l from e]))⟩
theorem UnAtD.push {base l : Nat} {w0 w w1 : World} {xs : List Value} {v v' x : Value} {o : Obj} (hU : UnAtD base l w0 w xs) (hl : l < base) (hv : w.cell? ⟨l, 0, none⟩ = some v) (ho : w.ownsRow base 3 1 v xs.length xs) (hown : w1.ownsRow base 3 1 v' (xs.length + 1) (xs ++ [x])) (hg : (w.alloc o).grownBy w1 v.ownBlock) :
    w1.cell? ⟨l, 0, none⟩ = some v ∧ w1.frozen? ⟨l, 0, none⟩ = false ∧ UnAtD base l w0 (w1.setCell ⟨l, 0, none⟩ v') (xs ++ [x]) := by
  have hvl : v.ownBlock ≠ some l := fun e => by have := (ho.lt l e).1; omega
  have hvl' : v'.ownBlock ≠ some l := fun e => by have := (hown.lt l e).1; omega
  have hll := block_lt_of_cell hv
  have hll : l < w.heap.size := hll
  have hB := ((Below.refl w.heap.size w).alloc (Nat.le_refl _) o)
  have c1 : (w.alloc o).cell? ⟨l, 0, none⟩ = some v := (hB.cell (p := ⟨l, 0, none⟩) hll).trans hv
  have f1 : (w.alloc o).frozen? ⟨l, 0, none⟩ = false := (hB.frozen (p := ⟨l, 0, none⟩) hll).trans hU.free
  have hla : l < (w.alloc o).heap.size := by simp; omega
  have c2 : w1.cell? ⟨l, 0, none⟩ = some v := (hg.cell_far ⟨l, 0, none⟩ hla (fun e => hvl e.symm)).trans c1
  have f2 : w1.frozen? ⟨l, 0, none⟩ = false := (hg.frozen_far ⟨l, 0, none⟩ hla (fun e => hvl e.symm)).trans f1
  have hsz : w.heap.size ≤ w1.heap.size := by have := hg.size; simp at this; omega
  refine ⟨c2, f2, ⟨v', World.cell?_setCell_same _ _ _ c2, ?_⟩, by rw [World.frozen?_setCell]; exact f2, ?_, fun k hk hn => ?_, ?_⟩
  · rw [List.length_append]
    exact hown.kept (grown_setD w1 l v') (Or.inr hvl')
  · have b1 : Below l w0 (w.alloc o) := hU.below.alloc (Nat.le_of_lt hll) o
    exact ((b1.grown hg (by simp; omega) (fun j e => by have := (ho.lt j e).1; omega)).setCell (p := ⟨l, 0, none⟩) (Nat.le_refl _) v')
  · have hkw : k < w.heap.size := Nat.lt_of_lt_of_le hk hU.size
    rw [Below.heap_setCell w1 ⟨l, 0, none⟩ v' k hn]
    exact (hg.block k (by simp; omega) (fun e => by have := (ho.lt k e.symm).1; omega)).trans ((hB.block k hkw).trans (hU.other k hk hn))
  · have := hU.size
    simp [World.setCell]
    omega
set_option maxRecDepth 100000 in
set_option maxHeartbeats 2000000 in
theorem list1_any (base l i : Nat) (xs : List Value) (w0 w : World) (hl : l < base) (hU : Hid (UnAtD base l w0 w xs)) (hx : xs.length ≤ 1000) (hi : i ≤ 1000) : Calls Try.prog 48 #[.int .i64 (i : Int), .pointer (some ⟨l, 0, none⟩)] w fun e w' => e = .returned (.tuple #[]) ∧ UnAtD base l w0 w' (xs ++ [.int .i64 (i : Int)]) := by
  obtain ⟨i0, hi0, hz0, hz1, hz2⟩ := info_partsD info_i64D
  obtain ⟨v, hc, ho⟩ := hU.out.row
  have HO := Lib.hid ho
  have hf := hU.out.free
  have hll := block_lt_of_cell hc
  have hbs := hU.out.size
  clear ho
  go_enter Try.func48, Try.ntmps48
  go_wp2_with (at_builtin; refine wpList_append_own _ rfl _ _ 39 rfl base 3 i0 (.int .i64 0) 1 8 Try.underlying39 hi0 hz0 hz1 hz2 rfl (by decide) v xs.length xs rfl (HO.out.alloc _) ⟨w.heap.size, 0, none⟩ 1 1 [.int .i64 (i : Int)] rfl rfl ?c1 ?c2 (by unfold maxLen; omega) (by omega) (by simp; omega) ?_)
  case c2 => first | rfl | (intro u hu; simp at hu; subst hu; rfl)
  intro v' w1 hown hg _
  obtain ⟨d1, d2, d3⟩ := hU.out.push hl hc HO.out hown hg
  have HU' := Lib.hid d3
  obtain ⟨a', c', rfl⟩ := own_slD hown
  clear hown hg d3 hc HO hU hf
  go_wp2_with fail
  go_end0
  exact ⟨rfl, HU'.out⟩
theorem list1_enter (args : Array Value) (w : World) : (callFunc 48 args).run Try.prog w = .ok (.enter 48 args) w := by go_simp
theorem seg_next {F : Nat → Int} {l : Nat} {p q : Int} {L : List Nat} (h : seg F l p L q) : ∀ k (hk : k < L.length), F (33 + L[k]) = hdO (L.drop (k + 1)) q := by
  induction L generalizing p with
  | nil => intro k hk; simp at hk
  | cons x xs ih =>
    intro k hk
    cases k with
    | zero => exact h.1.2.2
    | succ k => exact ih h.2 k (by simpa using hk)
theorem hdO_drop {L : List Nat} {k : Nat} (hk : k < L.length) (q : Int) : hdO (L.drop k) q = (L[k] : Int) := by
  rw [List.drop_eq_getElem_cons hk]; rfl
set_option maxRecDepth 100000 in
theorem walker_any (g : Nat) (l : Int) (w : World) : Calls Try.prog 47 #[.pointer (some ⟨g, 0, none⟩), .int .i64 l] w fun e w' => e = .returned (.func (.func 58) #[] #[.pointer (some ⟨w.heap.size, 0, none⟩), .pointer (some ⟨w.heap.size + 1, 0, none⟩)]) ∧ w'.cell? ⟨w.heap.size, 0, none⟩ = some (.pointer (some ⟨g, 0, none⟩)) ∧ w'.cell? ⟨w.heap.size + 1, 0, none⟩ = some (.int .i64 l) ∧ Below w.heap.size w w' := by
  go_enter Try.func47, Try.ntmps47
  go_wp2_with fail
  go_ret
  refine ⟨rfl, ?_, ?_, ((Below.refl _ _).alloc (Nat.le_refl _) _).alloc (by simp) _⟩
  · exact cell_of_row _ _ 0 _ _ _ (heap_alloc2_old w _ _)
  · have := heap_alloc_new (w.alloc (.cells #[.pointer (some ⟨g, 0, none⟩)] 48)) (.cells #[.int .i64 l] 3)
    rw [show (w.alloc (.cells #[.pointer (some ⟨g, 0, none⟩)] 48)).heap.size = w.heap.size + 1 by simp] at this
    exact cell_of_row _ _ 0 _ _ _ this
/-- Where a thing stands in a row. -/
def posL : List Nat → Nat → Nat
  | [], _ => 0
  | y :: ys, x => if y = x then 0 else posL ys x + 1
theorem posL_at {L : List Nat} (h : L.Nodup) : ∀ k (hk : k < L.length), posL L L[k] = k := by
  induction L with
  | nil => intro k hk; simp at hk
  | cons x xs ih =>
    intro k hk
    cases k with
    | zero => exact if_pos rfl
    | succ k =>
      have hk' : k < xs.length := by simpa using hk
      have hne : x ≠ xs[k] := fun e => (List.nodup_cons.1 h).1 (e ▸ List.getElem_mem hk')
      show (if x = xs[k] then 0 else posL xs xs[k] + 1) = k + 1
      rw [if_neg hne, ih (List.nodup_cons.1 h).2 k hk']
def meaL (L : List Nat) (x : Int) : Nat := if x = -1 then 0 else L.length - posL L x.toNat
theorem meaL_at {L : List Nat} (h : L.Nodup) (k : Nat) (hk : k ≤ L.length) : meaL L (hdO (L.drop k) (-1)) = L.length - k := by
  by_cases e : k < L.length
  · rw [hdO_drop e]
    unfold meaL
    rw [if_neg (by omega), Int.toNat_natCast, posL_at h k e]
  · rw [List.drop_eq_nil_of_le (by omega)]
    unfold meaL
    rw [show hdO [] (-1) = -1 from rfl, if_pos rfl]
    omega
set_option maxRecDepth 100000 in
set_option maxHeartbeats 2000000 in
theorem walkL (g pq pl fn l : Nat) (F : Nat → Int) (L : List Nat) (c : Value) (J : Nat → World → Prop) (w : World) (hl : l < 4) (hF : Row F l L) (hL : ∀ x ∈ L, x < 16)
    (hD : Hid (QAt w g F)) (hP : Hid (w.cell? ⟨pq, 0, none⟩ = some (.pointer (some ⟨g, 0, none⟩)))) (hP2 : Hid (w.cell? ⟨pl, 0, none⟩ = some (.int .i64 (l : Int)))) (hJ : Hid (∀ d, J 0 (w.drewN d)))
    (heg : ∀ (args : Array Value) (w : World), (callFunc fn args).run Try.prog w = .ok (.enter fn args) w)
    (hstep : Hid (∀ k (hk : k < L.length), ∀ w, QAt w g F → w.cell? ⟨pq, 0, none⟩ = some (.pointer (some ⟨g, 0, none⟩)) → J k w → Calls Try.prog fn #[.int .i64 (L[k] : Int), c] w fun e w' => e = .returned (.tuple #[]) ∧ QAt w' g F ∧ w'.cell? ⟨pq, 0, none⟩ = some (.pointer (some ⟨g, 0, none⟩)) ∧ J (k + 1) w')) :
    Calls Try.prog 58 #[.func (.func fn) #[] #[c], .pointer (some ⟨pq, 0, none⟩), .pointer (some ⟨pl, 0, none⟩)] w fun e w' => e = .returned (.tuple #[]) ∧ J L.length w' := by
  have hl' : (l : Int) < 4 := by omega
  have c0 := hD.out.cell (49 + l) (by omega)
  rw [hF.fi] at c0
  have p0 := hP.out
  have p1 := hP2.out
  have HF := Lib.hid hF
  have HLL := Lib.hid hL
  have H0 : Hid (∀ x, hdO L (-1) = x → x = hdO (L.drop 0) (-1)) := Lib.hid (fun x h => by rw [List.drop_zero]; exact h.symm)
  obtain ⟨x0, hx0⟩ : ∃ x, hdO L (-1) = x := ⟨_, rfl⟩
  rw [hx0] at c0
  have H0 := Lib.hid (H0.out x0 hx0)
  clear hx0 hF hL
  go_enter Try.func58, Try.ntmps58
  go_upto_region 0 with fail
  go_cut [4] from 5 to 10 (fun s4 wx => s4 = .int .i64 x0 ∧ Hid (∃ d, w.drewN d = wx))
  case first =>
    go_quiet (fail)
    go_wp2_with fail
    go_meet
    exact ⟨rfl, Lib.hid ⟨_, rfl⟩⟩
  case rest =>
  obtain ⟨rfl, hd⟩ := hcut
  have HD1 : Hid (QAt wc g F) := Lib.hid (by obtain ⟨d, rfl⟩ := hd.out; exact hD.out.drewN d)
  have HP1 : Hid (wc.cell? ⟨pq, 0, none⟩ = some (.pointer (some ⟨g, 0, none⟩))) := Lib.hid (by obtain ⟨d, rfl⟩ := hd.out; exact hP.out)
  have HJ1 : Hid (J 0 wc) := Lib.hid (by obtain ⟨d, rfl⟩ := hd.out; exact hJ.out d)
  clear hd hD hP hP2 hJ c0 p0 p1
  go_wp2_with fail
  go_loopw [4] (fun x wi => ∃ k : Nat, x = .int .i64 (hdO (L.drop k) (-1)) ∧ k ≤ L.length ∧ Hid (QAt wi g F) ∧ Hid (wi.cell? ⟨pq, 0, none⟩ = some (.pointer (some ⟨g, 0, none⟩))) ∧ Hid (J k wi)) (fun x _ => meaL L (intOf x))
  case atStart => exact ⟨0, by rw [H0.out], by omega, HD1, HP1, HJ1⟩
  case round =>
    obtain ⟨k, rfl, hk, HD, HP, HJ⟩ := hrel
    have HMK := Lib.hid (meaL_at HF.out.nd k hk)
    by_cases hlt : k < L.length
    · have e1 := hdO_drop hlt (-1)
      have HMK2 := Lib.hid (meaL_at HF.out.nd (k + 1) hlt)
      have hx16 := HLL.out L[k] (List.getElem_mem hlt)
      have hn := seg_next HF.out.sg k hlt
      have CS := Lib.hid (hstep.out k hlt _ HD.out HP.out HJ.out)
      rw [e1] at HMK ⊢
      generalize hxk : L[k] = xk at *
      clear hxk
      have hb : ((xk : Int) != -1) = true := by simp
      have hx' : (xk : Int) < 16 := by omega
      obtain ⟨z, hz⟩ : ∃ z, Hid (hdO (L.drop (k + 1)) (-1) = z) := ⟨_, Lib.hid rfl⟩
      rw [hz.out] at hn HMK2
      clear HD1 HP1 HJ1 e1 H0
      go_wp2_with fail
      refine (CS.out).mono ?_
      rintro e w1 ⟨rfl, d1, q1, j1⟩
      have HDn := Lib.hid d1
      have HPn := Lib.hid q1
      have HJn := Lib.hid j1
      clear d1 q1 j1 CS HD HP HJ
      have p0 := HPn.out
      have c3 := HDn.out.cell (33 + xk) (by omega)
      rw [hn] at c3
      clear hn
      go_wp2_with fail
      go_roundw
      case rel => exact ⟨k + 1, by rw [hz.out], by omega, HDn, HPn, HJn⟩
      case measure =>
        have h1 := HMK.out
        have h2 := HMK2.out
        show meaL L z < meaL L (xk : Int)
        rw [h1, h2]
        omega
    · obtain rfl : k = L.length := by omega
      rw [List.drop_length]
      have hm : hdO [] (-1) = -1 := rfl
      rw [hm]
      clear HD1 HP1 HJ1 H0 HMK
      go_wp2_with fail
      go_end0
      exact ⟨rfl, HJ.out⟩
end Go.Proofs.Ytfkepplpeakgmaa
