/- Package over: Puts, Copy, Over. -/
import Derived.Test.YtbjlmpcbjppfdaaOvC
namespace Go.Proofs.Ytbjlmpcbjppfdaa
open Go.RowKit Go.Deep
set_option linter.unusedVariables false
set_option linter.unusedSimpArgs false
def puC (ps : List Pu) : List Value := ps.flatMap fun p => [.int .i64 p.1, .string p.2]
theorem puC_len (ps : List Pu) : (puC ps).length = ps.length * 2 := by
  induction ps with
  | nil => rfl
  | cons p r ih => unfold puC at ih ⊢; rw [List.flatMap_cons, List.length_append, ih]; simp; omega
theorem puC_snoc (ps : List Pu) (p : Pu) : puC (ps ++ [p]) = puC ps ++ [.int .i64 p.1, .string p.2] := by
  unfold puC
  rw [List.flatMap_append]
  simp
theorem puC_get (ps : List Pu) : ∀ i (hi : i < ps.length), (puC ps)[i * 2]? = some (.int .i64 ps[i].1) ∧ (puC ps)[i * 2 + 1]? = some (.string ps[i].2) := by
  induction ps with
  | nil => intro i hi; simp at hi
  | cons p r ih =>
    intro i hi
    have e : puC (p :: r) = [.int .i64 p.1, .string p.2] ++ puC r := by unfold puC; rw [List.flatMap_cons]
    rw [e]
    cases i with
    | zero => exact ⟨rfl, rfl⟩
    | succ i =>
      have h := ih i (by simpa using hi)
      rw [show (i + 1) * 2 = i * 2 + 2 by omega]
      exact h
theorem info_putO : (Try.prog.info? 29).map (fun i => (i.zero, i.size, i.bytes)) = some (some (.agg #[.int .i64 0, .string ⟨#[]⟩]), 2, 24) := by kernel_rfl
/-- A row of blocks that grows behind a cell of its own at block l. -/
structure UnP (base l : Nat) (w0 w : World) (xs : List Pu) : Prop where
  row : ∃ v, w.cell? ⟨l, 0, none⟩ = some v ∧ w.ownsRow base 29 2 v xs.length (puC xs)
  free : w.frozen? ⟨l, 0, none⟩ = false
  below : Below l w0 w
  other : ∀ k, k < base → k ≠ l → w.heap[k]? = w0.heap[k]?
  size : base ≤ w.heap.size
section
variable {base l : Nat} {w0 w w1 : World} {xs : List Pu}
theorem UnP.belowW (h : UnP base l w0 w xs) (b : Below w.heap.size w w1) : UnP base l w0 w1 xs := by
  obtain ⟨v, hc, ho⟩ := h.row
  have hll : l < w.heap.size := block_lt_of_cell hc
  refine ⟨⟨v, (b.cell (p := ⟨l, 0, none⟩) hll).trans hc, ?_⟩, (b.frozen (p := ⟨l, 0, none⟩) hll).trans h.free, h.below.trans (b.mono (Nat.le_of_lt hll)), fun k hk hn => (b.block k (Nat.lt_of_lt_of_le hk h.size)).trans (h.other k hk hn), Nat.le_trans h.size b.size⟩
  refine ⟨ho.1, ?_⟩
  rcases ho.2 with h | ⟨g2, cap, cur, rfl, q1, q2, q3⟩
  · exact Or.inl h
  · exact Or.inr ⟨g2, cap, cur, rfl, q1, (b.block g2 (Array.getElem?_eq_some_iff.1 q2).1).trans q2, q3⟩
theorem UnP.push {v v' : Value} {x : Pu} {o : Obj} (hU : UnP base l w0 w xs) (hl : l < base) (hv : w.cell? ⟨l, 0, none⟩ = some v) (ho : w.ownsRow base 29 2 v xs.length (puC xs)) (hown : w1.ownsRow base 29 2 v' (xs.length + 1) (puC xs ++ [.int .i64 x.1, .string x.2])) (hg : (w.alloc o).grownBy w1 v.ownBlock) :
    w1.cell? ⟨l, 0, none⟩ = some v ∧ w1.frozen? ⟨l, 0, none⟩ = false ∧ UnP base l w0 (w1.setCell ⟨l, 0, none⟩ v') (xs ++ [x]) := by
  have hvl : v.ownBlock ≠ some l := fun e => by have := (ho.lt l e).1; omega
  have hvl' : v'.ownBlock ≠ some l := fun e => by have := (hown.lt l e).1; omega
  have hll : l < w.heap.size := block_lt_of_cell hv
  have hB := ((Below.refl w.heap.size w).alloc (Nat.le_refl _) o)
  have c1 : (w.alloc o).cell? ⟨l, 0, none⟩ = some v := (hB.cell (p := ⟨l, 0, none⟩) hll).trans hv
  have f1 : (w.alloc o).frozen? ⟨l, 0, none⟩ = false := (hB.frozen (p := ⟨l, 0, none⟩) hll).trans hU.free
  have hla : l < (w.alloc o).heap.size := by simp; omega
  have c2 : w1.cell? ⟨l, 0, none⟩ = some v := (hg.cell_far ⟨l, 0, none⟩ hla (fun e => hvl e.symm)).trans c1
  have f2 : w1.frozen? ⟨l, 0, none⟩ = false := (hg.frozen_far ⟨l, 0, none⟩ hla (fun e => hvl e.symm)).trans f1
  have hsz : w.heap.size ≤ w1.heap.size := by have := hg.size; simp at this; omega
  refine ⟨c2, f2, ⟨v', World.cell?_setCell_same _ _ _ c2, ?_⟩, by rw [World.frozen?_setCell]; exact f2, ?_, fun k hk hn => ?_, ?_⟩
  · rw [List.length_append, puC_snoc]
    exact hown.kept (grown_setO w1 l v') (Or.inr hvl')
  · have b1 : Below l w0 (w.alloc o) := hU.below.alloc (Nat.le_of_lt hll) o
    exact ((b1.grown hg (by simp; omega) (fun j e => by have := (ho.lt j e).1; omega)).setCell (p := ⟨l, 0, none⟩) (Nat.le_refl _) v')
  · have hkw : k < w.heap.size := Nat.lt_of_lt_of_le hk hU.size
    rw [Below.heap_setCell w1 ⟨l, 0, none⟩ v' k hn]
    exact (hg.block k (by simp; omega) (fun e => by have := (ho.lt k e.symm).1; omega)).trans ((hB.block k hkw).trans (hU.other k hk hn))
  · have := hU.size
    simp [World.setCell]
    omega
end
set_option maxRecDepth 100000 in
set_option maxHeartbeats 4000000 in
theorem puts1_any (base l : Nat) (x : Pu) (xs : List Pu) (w0 w : World) (hl : l < base) (hU : Hid (UnP base l w0 w xs)) (hx : xs.length ≤ 100000) : Calls Try.prog 23 #[putV x, .pointer (some ⟨l, 0, none⟩)] w fun e w' => e = .returned (.tuple #[]) ∧ UnP base l w0 w' (xs ++ [x]) := by
  obtain ⟨a, s⟩ := x
  obtain ⟨i0, hi0, hz0, hz1, hz2⟩ := info_partsO info_putO
  obtain ⟨w1, hw1⟩ : ∃ w1, w.alloc (.cells #[.int .i64 a, .string s] 29) = w1 := ⟨_, rfl⟩
  have B1 : Below w.heap.size w w1 := by rw [← hw1]; exact (Below.refl _ _).alloc (Nat.le_refl _) _
  have y0 : w1.cell? ⟨w.heap.size, 0, none⟩ = some (.int .i64 a) := by rw [← hw1]; exact World.cell?_alloc_at _ _ _ _ rfl
  have y1 : w1.cell? ⟨w.heap.size, 1, none⟩ = some (.string s) := by rw [← hw1]; exact World.cell?_alloc_at _ _ _ _ rfl
  have HU1 := Lib.hid (hU.out.belowW B1)
  have HW := Lib.hid hw1
  obtain ⟨v, hc, ho⟩ := HU1.out.row
  have HO := Lib.hid ho
  have hf := HU1.out.free
  have hll := block_lt_of_cell hc
  have hbs := HU1.out.size
  clear ho B1 hw1 hU
  unfold putV
  go_enter Try.func23, Try.ntmps23
  go_upto_region 1 with fail
  rw [HW.out]
  clear HW
  go_wp2_with (at_builtin; refine wpList_append_own _ rfl _ _ 25 rfl base 29 i0 (.agg #[.int .i64 0, .string ⟨#[]⟩]) 2 24 Try.underlying25 hi0 hz0 hz1 hz2 rfl (by decide) v xs.length (puC xs) rfl (HO.out.alloc _) ⟨w1.heap.size, 0, none⟩ 1 1 [.int .i64 a, .string s] rfl rfl ?c1 ?c2 ?c3 ?c4 ?c5 ?_)
  case c2 => exact ⟨rfl, rfl⟩
  case c3 => unfold maxLen; omega
  case c4 => omega
  case c5 => first | omega | (simp; omega)
  · intro v' w2 hown hg _
    obtain ⟨d1, d2, d3⟩ := HU1.out.push (x := (a, s)) hl hc HO.out hown hg
    have HU2 := Lib.hid d3
    obtain ⟨a', c', rfl⟩ := own_slO hown
    clear hown hg d3 hc HO HU1 hf
    go_wp2_with fail
    go_end0
    exact ⟨rfl, HU2.out⟩
theorem puts1_enter (args : Array Value) (w : World) : (callFunc 23 args).run Try.prog w = .ok (.enter 23 args) w := by go_simp
/-- What a row of blocks is, as a result. -/
def PuO (N : Nat) (w : World) (v : Value) (L : List Pu) : Prop := w.ownsRow N 29 2 v L.length (puC L)
theorem take_snoc {α : Type} (L : List α) (i : Nat) (hi : i < L.length) : L.take (i + 1) = L.take i ++ [L[i]] := by rw [List.take_succ_eq_append_getElem hi]
/-- The sheet, or none. -/
def PvAt (w : World) (B : Nat) (pv : Option Addr) (b : Nat) (L : List Pu) : Prop := (pv = none ∧ L = []) ∨ ∃ p, pv = some ⟨p, 0, none⟩ ∧ ShAt w B p b L
theorem ShAt.same {w w' : World} {B p b : Nat} {L : List Pu} (q : ShAt w B p b L) (h1 : w'.heap[p]? = w.heap[p]?) (h2 : w'.heap[b]? = w.heap[b]?) : ShAt w' B p b L := { q with row := World.rowIs.of_block q.row h1, map := q.map.block h2 }
theorem PvAt.below {w w' : World} {B b0 : Nat} {pv : Option Addr} {L : List Pu} (h : PvAt w B pv b0 L) (b : Below w.heap.size w w') : PvAt w' B pv b0 L := by
  rcases h with h | ⟨p, e, q⟩
  · exact Or.inl h
  · exact Or.inr ⟨p, e, q.below b⟩
theorem PvAt.lt {w : World} {B b p : Nat} {L : List Pu} (h : PvAt w B (some ⟨p, 0, none⟩) b L) : ShAt w B p b L := by
  rcases h with ⟨e, _⟩ | ⟨p', e, q⟩
  · cases e
  · injection e with e
    injection e with e
    subst e
    exact q
theorem tellerP (w : World) (B b : Nat) (pv : Option Addr) (L : List Pu) (h : PvAt w B pv b L) (hn : L.length < 100000) : Calls Try.prog 22 #[.pointer pv] w fun e w' => ∃ l bx ao c, e = .returned (.func (.func 27) #[] #[.pointer (some ⟨l, 0, none⟩), .pointer (some ⟨bx, 0, none⟩)]) ∧ TeAt w.heap.size w' l bx (.pointer pv) ao c (L.map (·.1)) ∧ Below w.heap.size w w' := by
  rcases h with ⟨rfl, rfl⟩ | ⟨p, rfl, q⟩
  · exact teller_nil w
  · exact teller_any q hn
theorem own_baseO {w : World} {B C size n : Nat} {e : TypeId} {v : Value} {xs : List Value} (h : w.ownsRow B e size v n xs) (hc : C ≤ B) : w.ownsRow C e size v n xs := by
  refine ⟨h.1, ?_⟩
  rcases h.2 with hh | ⟨g2, cap, cur, rfl, q1, q⟩
  · exact Or.inl hh
  · exact Or.inr ⟨g2, cap, cur, rfl, Nat.le_trans hc q1, q⟩
set_option maxRecDepth 100000 in
set_option maxHeartbeats 4000000 in
theorem oputs_any (B b : Nat) (pv : Option Addr) (L : List Pu) (w : World) (h : PvAt w B pv b L) (hn : L.length < 100000) : Calls Try.prog 10 #[.pointer pv] w fun e w' => ∃ v, e = .returned v ∧ PuO w.heap.size w' v L ∧ Below w.heap.size w w' := by
  obtain ⟨w1, hw1⟩ : ∃ w1, w.alloc (.cells #[.slice none 0 0] 25) = w1 := ⟨_, rfl⟩
  have B1 : Below w.heap.size w w1 := by rw [← hw1]; exact (Below.refl _ _).alloc (Nat.le_refl _) _
  have S1 : w1.heap.size = w.heap.size + 1 := by rw [← hw1]; simp
  have y0 : w1.cell? ⟨w.heap.size, 0, none⟩ = some (.slice none 0 0) := by rw [← hw1]; exact World.cell?_alloc_at _ _ _ _ rfl
  have f0 : w1.frozen? ⟨w.heap.size, 0, none⟩ = false := by rw [← hw1]; simp
  have HP0 := Lib.hid h
  have HP1 := Lib.hid (h.below B1)
  have CT := Lib.hid (tellerP w1 B b pv L HP1.out hn)
  have HB1 := Lib.hid B1
  have HS1 := Lib.hid S1
  have HY := Lib.hid y0
  have HF := Lib.hid f0
  have HW := Lib.hid hw1
  clear hw1 B1 S1 y0 f0 h
  go_enter Try.func10, Try.ntmps10
  go_upto_region 2 with fail
  rw [HW.out]
  clear HW
  go_wp2_with fail
  refine CT.out.mono ?_
  rintro e w2 ⟨l, bx, ao, c, rfl, t2, b2⟩
  have hlw : w.heap.size < w1.heap.size := by rw [HS1.out]; omega
  have HP2 := Lib.hid (HP1.out.below b2)
  have HU2 : Hid (UnP w2.heap.size w.heap.size w2 w2 (L.take 0)) := Lib.hid
    { row := ⟨_, (b2.cell (p := ⟨w.heap.size, 0, none⟩) hlw).trans HY.out, World.ownsRow_nil _ _ _ _⟩
      free := (b2.frozen (p := ⟨w.heap.size, 0, none⟩) hlw).trans HF.out
      below := Below.refl _ _
      other := fun _ _ _ => rfl
      size := Nat.le_refl _ }
  have HB2 := Lib.hid (HB1.out.trans (b2.mono HB1.out.size))
  have hl2 : w.heap.size < w2.heap.size := Nat.lt_of_lt_of_le hlw b2.size
  have HT2 := Lib.hid t2
  have CW := Lib.hid (teller1_any w1.heap.size l bx c 23 (.pointer pv) (.pointer (some ⟨w.heap.size, 0, none⟩)) ao L (fun i wx => UnP w2.heap.size w.heap.size w2 wx (L.take i)) w2 hn HU2 puts1_enter
    (Lib.hid (fun i wx hU => ⟨HT2.out.same hU.size (fun j hj hj2 => hU.other j hj2 (by omega)), fun hi => by
      rcases HP2.out with ⟨_, rfl⟩ | ⟨p, rfl, q⟩
      · exact absurd hi (by simp)
      · have q0 := HP0.out.lt
        have h1 := q0.lt
        have h2 := q0.blt
        exact ⟨B, p, b, rfl, q.same (hU.other p q.lt (by omega)) (hU.other b q.blt (by omega))⟩⟩))
    (Lib.hid (fun i hi wx hU => by
      have := puts1_any w2.heap.size w.heap.size L[i] (L.take i) w2 wx hl2 (Lib.hid hU) (by rw [List.length_take]; omega)
      rw [← take_snoc L i hi] at this
      exact this)))
  clear t2 b2 CT HP0 HP1 HP2 HB1 HU2 HT2 HY HF
  go_wp2_with fail
  refine CW.out.mono ?_
  rintro e w3 ⟨rfl, hU⟩
  rw [List.take_length] at hU
  obtain ⟨v, hc, ho⟩ := hU.row
  have HO := Lib.hid (own_baseO ho (Nat.le_of_lt hl2))
  have HB3 : Hid (Below w.heap.size w w3) := Lib.hid (HB2.out.trans hU.below)
  obtain ⟨a', c', rfl⟩ := own_slO ho
  clear ho hU CW
  go_wp2_with fail
  go_ret
  exact ⟨_, rfl, HO.out, HB3.out⟩
theorem ins_last {x : Pu} : ∀ {L : List Pu}, (∀ y ∈ L, y.1 < x.1) → insL x L = L ++ [x]
  | [], _ => rfl
  | y :: r, h => by
    have h1 := h y (by simp)
    unfold insL
    rw [if_neg (by omega), ins_last (fun z hz => h z (by simp [hz]))]
    rfl
theorem set_last {x : Pu} {L : List Pu} (h : ∀ y ∈ L, y.1 < x.1) : setL L x = L ++ [x] := by
  unfold setL
  have : delL L x.1 = L := by
    unfold delL
    rw [List.filter_eq_self]
    intro y hy
    have := h y hy
    simp
    omega
  rw [this]
  exact ins_last h
def setAll (M L : List Pu) : List Pu := L.foldl setL M
theorem setAll_snoc (M L : List Pu) (x : Pu) : setAll M (L ++ [x]) = setL (setAll M L) x := by unfold setAll; rw [List.foldl_append]; rfl
theorem setAll_len (M : List Pu) : ∀ (L : List Pu), (setAll M L).length ≤ M.length + L.length := by
  intro L
  induction L generalizing M with
  | nil => exact Nat.le_refl _
  | cons x r ih =>
    show (setAll (setL M x) r).length ≤ _
    have h1 := ih (setL M x)
    have h2 := setL_len M x
    simp only [List.length_cons]
    omega
theorem setAll_srt {L : List Pu} (h : Srt L) : setAll [] L = L := by
  have : ∀ i, i ≤ L.length → setAll [] (L.take i) = L.take i := by
    intro i
    induction i with
    | zero => intro _; rfl
    | succ i ih =>
      intro hi
      rw [take_snoc L i (by omega), setAll_snoc, ih (by omega)]
      refine set_last (fun y hy => ?_)
      obtain ⟨j, hj, e⟩ := List.getElem_of_mem hy
      have hj' : j < i := by rw [List.length_take] at hj; omega
      have hp := List.pairwise_iff_getElem.1 h j i (by omega) (by omega) hj'
      rw [List.getElem_take] at e
      rw [← e]
      exact hp
  have := this L.length (Nat.le_refl _)
  rwa [List.take_length] at this
/-- A sheet that a callback fills: its pointer in the cell lc. -/
structure CoP (base lc pc bc : Nat) (w0 w : World) (M : List Pu) : Prop where
  sh : ShAt w base pc bc M
  cell : w.cell? ⟨lc, 0, none⟩ = some (.pointer (some ⟨pc, 0, none⟩))
  kq : Kq base [pc, bc] w0 w
  l1 : lc ≠ pc
  l2 : lc ≠ bc
set_option maxRecDepth 100000 in
set_option maxHeartbeats 4000000 in
theorem copy1_any (base lc pc bc : Nat) (x : Pu) (M : List Pu) (w0 w : World) (hU : Hid (CoP base lc pc bc w0 w M)) (hx : M.length < 100000) (hi : InI x.1) : Calls Try.prog 24 #[putV x, .pointer (some ⟨lc, 0, none⟩)] w fun e w' => e = .returned (.tuple #[]) ∧ CoP base lc pc bc w0 w' (setL M x) := by
  obtain ⟨a, s⟩ := x
  obtain ⟨w1, hw1⟩ : ∃ w1, w.alloc (.cells #[.int .i64 a, .string s] 29) = w1 := ⟨_, rfl⟩
  have B1 : Below w.heap.size w w1 := by rw [← hw1]; exact (Below.refl _ _).alloc (Nat.le_refl _) _
  have y0 : w1.cell? ⟨w.heap.size, 0, none⟩ = some (.int .i64 a) := by rw [← hw1]; exact World.cell?_alloc_at _ _ _ _ rfl
  have y1 : w1.cell? ⟨w.heap.size, 1, none⟩ = some (.string s) := by rw [← hw1]; exact World.cell?_alloc_at _ _ _ _ rfl
  have q1 := hU.out.sh.below B1
  have c0 := (B1.cell (p := ⟨lc, 0, none⟩) (block_lt_of_cell hU.out.cell)).trans hU.out.cell
  have HC := Lib.hid c0
  have HK1 := Lib.hid (hU.out.kq.trans (Kq.of_below (L := [pc, bc]) B1 hU.out.sh.bw))
  have CS := Lib.hid (oset_any (a, s) q1 hi hx)
  have HW := Lib.hid hw1
  clear B1 hw1 q1
  unfold putV
  go_enter Try.func24, Try.ntmps24
  go_upto_region 1 with fail
  rw [HW.out]
  clear HW
  go_wp2_with fail
  refine CS.out.mono ?_
  rintro e w2 ⟨rfl, q2, k2⟩
  have HQ2 := Lib.hid q2
  have HK2 := Lib.hid k2
  clear q2 k2 CS c0 y0 y1
  go_wp2_with fail
  go_end0
  exact ⟨rfl, { sh := HQ2.out, cell := HK2.out.cell (by have := hU.out.l1; have := hU.out.l2; simp; omega) HC.out, kq := HK1.out.trans HK2.out, l1 := hU.out.l1, l2 := hU.out.l2 }⟩
theorem copy1_enter (args : Array Value) (w : World) : (callFunc 24 args).run Try.prog w = .ok (.enter 24 args) w := by go_simp
set_option maxRecDepth 100000 in
set_option maxHeartbeats 4000000 in
theorem over1_any (base lc pc bc : Nat) (x : Pu) (M : List Pu) (w0 w : World) (hU : Hid (CoP base lc pc bc w0 w M)) (hx : M.length < 100000) (hi : InI x.1) : Calls Try.prog 25 #[putV x, .pointer (some ⟨lc, 0, none⟩)] w fun e w' => e = .returned (.tuple #[]) ∧ CoP base lc pc bc w0 w' (setL M x) := by
  obtain ⟨a, s⟩ := x
  obtain ⟨w1, hw1⟩ : ∃ w1, w.alloc (.cells #[.int .i64 a, .string s] 29) = w1 := ⟨_, rfl⟩
  have B1 : Below w.heap.size w w1 := by rw [← hw1]; exact (Below.refl _ _).alloc (Nat.le_refl _) _
  have y0 : w1.cell? ⟨w.heap.size, 0, none⟩ = some (.int .i64 a) := by rw [← hw1]; exact World.cell?_alloc_at _ _ _ _ rfl
  have y1 : w1.cell? ⟨w.heap.size, 1, none⟩ = some (.string s) := by rw [← hw1]; exact World.cell?_alloc_at _ _ _ _ rfl
  have q1 := hU.out.sh.below B1
  have c0 := (B1.cell (p := ⟨lc, 0, none⟩) (block_lt_of_cell hU.out.cell)).trans hU.out.cell
  have HC := Lib.hid c0
  have HK1 := Lib.hid (hU.out.kq.trans (Kq.of_below (L := [pc, bc]) B1 hU.out.sh.bw))
  have CS := Lib.hid (oset_any (a, s) q1 hi hx)
  have HW := Lib.hid hw1
  clear B1 hw1 q1
  unfold putV
  go_enter Try.func25, Try.ntmps25
  go_upto_region 1 with fail
  rw [HW.out]
  clear HW
  go_wp2_with fail
  refine CS.out.mono ?_
  rintro e w2 ⟨rfl, q2, k2⟩
  have HQ2 := Lib.hid q2
  have HK2 := Lib.hid k2
  clear q2 k2 CS c0 y0 y1
  go_wp2_with fail
  go_end0
  exact ⟨rfl, { sh := HQ2.out, cell := HK2.out.cell (by have := hU.out.l1; have := hU.out.l2; simp; omega) HC.out, kq := HK1.out.trans HK2.out, l1 := hU.out.l1, l2 := hU.out.l2 }⟩
theorem over1_enter (args : Array Value) (w : World) : (callFunc 25 args).run Try.prog w = .ok (.enter 25 args) w := by go_simp
theorem CoP.step {N l bx c B b base lc pc bc : Nat} {w0 w : World} {pv : Option Addr} {ao : Option Addr} {M L : List Pu} {i : Nat} (hU : CoP base lc pc bc w0 w M) (hT : TeAt N w0 l bx (.pointer pv) ao c (L.map (·.1))) (hP : PvAt w0 B pv b L) (h1 : pc < N) (h2 : bc < N) (h3 : ∀ p, pv = some ⟨p, 0, none⟩ → p < base ∧ b < base) :
    TeAt N w l bx (.pointer pv) ao c (L.map (·.1)) ∧ (i < L.length → ∃ B p b, (Value.pointer pv) = .pointer (some ⟨p, 0, none⟩) ∧ ShAt w B p b L) := by
  refine ⟨hT.same hU.kq.below.size (fun j hj hj2 => hU.kq.other j hj2 (by simp; omega)), fun hi => ?_⟩
  rcases hP with ⟨_, rfl⟩ | ⟨p, rfl, q⟩
  · exact absurd hi (by simp)
  · have h4 := h3 p rfl
    have h5 := hU.sh.bp
    have h6 := hU.sh.bb
    exact ⟨B, p, b, rfl, q.same (hU.kq.other p q.lt (by simp; omega)) (hU.kq.other b q.blt (by simp; omega))⟩
set_option maxRecDepth 100000 in
set_option maxHeartbeats 4000000 in
theorem ocopy_any (B b : Nat) (pv : Option Addr) (L : List Pu) (w : World) (h : PvAt w B pv b L) (hn : L.length < 50000) (hs : Srt L) (hw : Wf L) : Calls Try.prog 13 #[.pointer pv] w fun e w' => ∃ pc bc, e = .returned (.pointer (some ⟨pc, 0, none⟩)) ∧ ShAt w' w.heap.size pc bc L ∧ Below w.heap.size w w' := by
  have CN := Lib.hid (onew_any w)
  have HP0 := Lib.hid h
  have HSR := Lib.hid hs
  have HWF := Lib.hid hw
  clear h hs hw
  go_enter Try.func13, Try.ntmps13
  go_wp2_with fail
  refine CN.out.mono ?_
  rintro e w1 ⟨pc, bc, rfl, q1, b1⟩
  obtain ⟨w2, hw2⟩ : ∃ w2, w1.alloc (.cells #[.pointer (some ⟨pc, 0, none⟩)] 23) = w2 := ⟨_, rfl⟩
  have B2 : Below w1.heap.size w1 w2 := by rw [← hw2]; exact (Below.refl _ _).alloc (Nat.le_refl _) _
  have S2 : w2.heap.size = w1.heap.size + 1 := by rw [← hw2]; simp
  have Y2 : w2.cell? ⟨w1.heap.size, 0, none⟩ = some (.pointer (some ⟨pc, 0, none⟩)) := by rw [← hw2]; exact World.cell?_alloc_at _ _ _ _ rfl
  have HQ2 := Lib.hid (q1.below B2)
  have hpl := q1.lt
  have hbl := q1.blt
  have HB2 := Lib.hid (b1.trans (B2.mono b1.size))
  have HP2 := Lib.hid (HP0.out.below b1 |>.below B2)
  have HY := Lib.hid Y2
  have hS2 := S2
  have HW := Lib.hid hw2
  obtain ⟨lc, hlc⟩ : ∃ lc, Hid (w1.heap.size = lc) := ⟨_, Lib.hid rfl⟩
  clear CN q1 b1 B2 S2 Y2 hw2
  go_upto_region 2 with fail
  rw [HW.out]
  rw [hlc.out] at HY hpl hbl hS2 ⊢
  clear HW
  have CT := Lib.hid (tellerP w2 B b pv L HP2.out (by omega))
  go_wp2_with fail
  refine CT.out.mono ?_
  rintro e w3 ⟨l, bx, ao, c, rfl, t3, b3⟩
  have HU3 : Hid (CoP w.heap.size lc pc bc w3 w3 (setAll [] (L.take 0))) := Lib.hid
    { sh := HQ2.out.below b3
      cell := (b3.cell (p := ⟨lc, 0, none⟩) (show lc < w2.heap.size by omega)).trans HY.out
      kq := Kq.refl _ _ _
      l1 := by omega
      l2 := by omega }
  have HT3 := Lib.hid t3
  have HP3 := Lib.hid (HP2.out.below b3)
  have HB3 := Lib.hid (HB2.out.trans (b3.mono HB2.out.size))
  have CW := Lib.hid (teller1_any w2.heap.size l bx c 24 (.pointer pv) (.pointer (some ⟨lc, 0, none⟩)) ao L (fun i wx => CoP w.heap.size lc pc bc w3 wx (setAll [] (L.take i))) w3 (by omega) HU3 copy1_enter
    (Lib.hid (fun i wx hU => hU.step HT3.out HP3.out (by omega) (by omega) (fun p e => by have := HP0.out; rw [e] at this; exact ⟨this.lt.lt, this.lt.blt⟩)))
    (Lib.hid (fun i hi wx hU => by
      have := copy1_any w.heap.size lc pc bc L[i] (setAll [] (L.take i)) w3 wx (Lib.hid hU) (by have := setAll_len [] (L.take i); rw [List.length_take] at this; simp at this; omega) (HWF.out _ (List.getElem_mem hi))
      rw [← setAll_snoc, ← take_snoc L i hi] at this
      exact this)))
  clear CT t3 b3 HP2 HP0 HT3 HU3 HQ2 HY HB2
  go_wp2_with fail
  refine CW.out.mono ?_
  rintro e w4 ⟨rfl, hU⟩
  rw [List.take_length, setAll_srt HSR.out] at hU
  have c4 := hU.cell
  have HU := Lib.hid hU
  have HB4 := Lib.hid (HB3.out.trans hU.kq.below)
  clear hU CW
  go_wp2_with fail
  go_ret
  exact ⟨_, _, rfl, HU.out.sh, HB4.out⟩
set_option maxRecDepth 100000 in
set_option maxHeartbeats 4000000 in
theorem oover_any (B b B' b' : Nat) (pv pt : Option Addr) (L M : List Pu) (w : World) (h : PvAt w B pv b L) (ht : PvAt w B' pt b' M) (hn : L.length < 20000) (hm : M.length < 20000) (hw : Wf L) (hsm : Srt M) (hwm : Wf M) : Calls Try.prog 16 #[.pointer pv, .pointer pt] w fun e w' => ∃ pc bc, e = .returned (.pointer (some ⟨pc, 0, none⟩)) ∧ ShAt w' w.heap.size pc bc (setAll M L) ∧ Below w.heap.size w w' := by
  have CN := Lib.hid (ocopy_any B' b' pt M w ht (by omega) hsm hwm)
  have HP0 := Lib.hid h
  have HWF := Lib.hid hw
  clear h ht hw hsm hwm
  go_enter Try.func16, Try.ntmps16
  go_wp2_with fail
  refine CN.out.mono ?_
  rintro e w1 ⟨pc, bc, rfl, q1, b1⟩
  obtain ⟨w2, hw2⟩ : ∃ w2, w1.alloc (.cells #[.pointer (some ⟨pc, 0, none⟩)] 23) = w2 := ⟨_, rfl⟩
  have B2 : Below w1.heap.size w1 w2 := by rw [← hw2]; exact (Below.refl _ _).alloc (Nat.le_refl _) _
  have S2 : w2.heap.size = w1.heap.size + 1 := by rw [← hw2]; simp
  have Y2 : w2.cell? ⟨w1.heap.size, 0, none⟩ = some (.pointer (some ⟨pc, 0, none⟩)) := by rw [← hw2]; exact World.cell?_alloc_at _ _ _ _ rfl
  have HQ2 := Lib.hid (q1.below B2)
  have hpl := q1.lt
  have hbl := q1.blt
  have HB2 := Lib.hid (b1.trans (B2.mono b1.size))
  have HP2 := Lib.hid (HP0.out.below b1 |>.below B2)
  have HY := Lib.hid Y2
  have hS2 := S2
  have HW := Lib.hid hw2
  obtain ⟨lc, hlc⟩ : ∃ lc, Hid (w1.heap.size = lc) := ⟨_, Lib.hid rfl⟩
  clear CN q1 b1 B2 S2 Y2 hw2
  go_upto_region 2 with fail
  rw [HW.out]
  rw [hlc.out] at HY hpl hbl hS2 ⊢
  clear HW
  have CT := Lib.hid (tellerP w2 B b pv L HP2.out (by omega))
  go_wp2_with fail
  refine CT.out.mono ?_
  rintro e w3 ⟨l, bx, ao, c, rfl, t3, b3⟩
  have HU3 : Hid (CoP w.heap.size lc pc bc w3 w3 (setAll M (L.take 0))) := Lib.hid
    { sh := HQ2.out.below b3
      cell := (b3.cell (p := ⟨lc, 0, none⟩) (show lc < w2.heap.size by omega)).trans HY.out
      kq := Kq.refl _ _ _
      l1 := by omega
      l2 := by omega }
  have HT3 := Lib.hid t3
  have HP3 := Lib.hid (HP2.out.below b3)
  have HB3 := Lib.hid (HB2.out.trans (b3.mono HB2.out.size))
  have CW := Lib.hid (teller1_any w2.heap.size l bx c 25 (.pointer pv) (.pointer (some ⟨lc, 0, none⟩)) ao L (fun i wx => CoP w.heap.size lc pc bc w3 wx (setAll M (L.take i))) w3 (by omega) HU3 over1_enter
    (Lib.hid (fun i wx hU => hU.step HT3.out HP3.out (by omega) (by omega) (fun p e => by have := HP0.out; rw [e] at this; exact ⟨this.lt.lt, this.lt.blt⟩)))
    (Lib.hid (fun i hi wx hU => by
      have := over1_any w.heap.size lc pc bc L[i] (setAll M (L.take i)) w3 wx (Lib.hid hU) (by have := setAll_len M (L.take i); rw [List.length_take] at this; omega) (HWF.out _ (List.getElem_mem hi))
      rw [← setAll_snoc, ← take_snoc L i hi] at this
      exact this)))
  clear CT t3 b3 HP2 HP0 HT3 HU3 HQ2 HY HB2
  go_wp2_with fail
  refine CW.out.mono ?_
  rintro e w4 ⟨rfl, hU⟩
  rw [List.take_length] at hU
  have c4 := hU.cell
  have HU := Lib.hid hU
  have HB4 := Lib.hid (HB3.out.trans hU.kq.below)
  clear hU CW
  go_wp2_with fail
  go_ret
  exact ⟨_, _, rfl, HU.out.sh, HB4.out⟩
end Go.Proofs.Ytbjlmpcbjppfdaa
