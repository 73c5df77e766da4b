/- The reference's devices (layer 10) as parts of the reference's rig (layer 12): lists of 288 texts and of 288 bools, whatever they hold; put, mark. -/
import Derived.Test.YtjmginkkjkbpoaaRiM
import Derived.Laws.AppendOwn
import Derived.Great.BuildSlice
namespace Go.Proofs.Ytjmginkkjkbpoaa
open Go.RowKit Go.Deep
set_option linter.unusedVariables false
set_option linter.unusedSimpArgs false
/-- A list of 288 texts of 64 bytes. -/
def T64 (w : World) (B : Nat) (v : Value) : Prop := ∃ (g c : Nat) (T : Nat → ByteArray), v = .slice (some ⟨g, 0, none⟩) 288 c ∧ 288 ≤ c ∧ c ≤ maxLen ∧ B ≤ g ∧ (∃ cs, w.heap[g]? = some (.cells cs 9 (0, 0))) ∧ ∀ i, i < 288 → w.cell? ⟨g, i, none⟩ = some (.string (T i)) ∧ (T i).size = 64
/-- A list of 288 bools. -/
def B288 (w : World) (B : Nat) (v : Value) : Prop := ∃ (g c : Nat) (T : Nat → Bool), v = .slice (some ⟨g, 0, none⟩) 288 c ∧ 288 ≤ c ∧ c ≤ maxLen ∧ B ≤ g ∧ (∃ cs, w.heap[g]? = some (.cells cs 4 (0, 0))) ∧ ∀ i, i < 288 → w.cell? ⟨g, i, none⟩ = some (.bool (T i))
theorem T64.of_block {w w' : World} {B : Nat} {v : Value} (h : T64 w B v) (hb : ∀ g cs, B ≤ g → w.heap[g]? = some (.cells cs 9 (0, 0)) → w'.heap[g]? = w.heap[g]?) : T64 w' B v := by
  obtain ⟨g, c, T, h1, h2, h2', h3, ⟨cs, h4⟩, h5⟩ := h
  have hq := hb g cs h3 h4
  exact ⟨g, c, T, h1, h2, h2', h3, ⟨cs, hq.trans h4⟩, fun i hi => ⟨(World.cell?_of_block (a := ⟨g, i, none⟩) hq).trans (h5 i hi).1, (h5 i hi).2⟩⟩
theorem B288.of_block {w w' : World} {B : Nat} {v : Value} (h : B288 w B v) (hb : ∀ g cs, B ≤ g → w.heap[g]? = some (.cells cs 4 (0, 0)) → w'.heap[g]? = w.heap[g]?) : B288 w' B v := by
  obtain ⟨g, c, T, h1, h2, h2', h3, ⟨cs, h4⟩, h5⟩ := h
  have hq := hb g cs h3 h4
  exact ⟨g, c, T, h1, h2, h2', h3, ⟨cs, hq.trans h4⟩, fun i hi => (World.cell?_of_block (a := ⟨g, i, none⟩) hq).trans (h5 i hi)⟩
theorem T64.below {w w' : World} {B : Nat} {v : Value} (h : T64 w B v) (hb : Below w.heap.size w w') : T64 w' B v := h.of_block fun g cs _ hg => hb.block g (Array.getElem?_eq_some_iff.1 hg).1
theorem B288.below {w w' : World} {B : Nat} {v : Value} (h : B288 w B v) (hb : Below w.heap.size w w') : B288 w' B v := h.of_block fun g cs _ hg => hb.block g (Array.getElem?_eq_some_iff.1 hg).1
theorem T64.base {w : World} {B C : Nat} {v : Value} (h : T64 w B v) (hc : C ≤ B) : T64 w C v := by
  obtain ⟨g, c, T, h1, h2, h2', h3, h4⟩ := h
  exact ⟨g, c, T, h1, h2, h2', Nat.le_trans hc h3, h4⟩
theorem B288.base {w : World} {B C : Nat} {v : Value} (h : B288 w B v) (hc : C ≤ B) : B288 w C v := by
  obtain ⟨g, c, T, h1, h2, h2', h3, h4⟩ := h
  exact ⟨g, c, T, h1, h2, h2', Nat.le_trans hc h3, h4⟩
theorem T64.sl {w : World} {B : Nat} {v : Value} (h : T64 w B v) : ∃ a c, v = .slice a 288 c := by obtain ⟨g, c, T, h1, _⟩ := h; exact ⟨_, _, h1⟩
theorem B288.sl {w : World} {B : Nat} {v : Value} (h : B288 w B v) : ∃ a c, v = .slice a 288 c := by obtain ⟨g, c, T, h1, _⟩ := h; exact ⟨_, _, h1⟩
def txV (T : Nat → ByteArray) (n : Nat) : List Value := (List.range n).map fun i => .string (T i)
def boV (T : Nat → Bool) (n : Nat) : List Value := (List.range n).map fun i => .bool (T i)
theorem txV_len (T : Nat → ByteArray) (n : Nat) : (txV T n).length = n := by simp [txV]
theorem boV_len (T : Nat → Bool) (n : Nat) : (boV T n).length = n := by simp [boV]
theorem txV_get (T : Nat → ByteArray) (n j : Nat) (u : Value) (h : (txV T n)[j]? = some u) : j < n ∧ u = .string (T j) := by
  have hj : j < n := by have := (List.getElem?_eq_some_iff.1 h).1; rwa [txV_len] at this
  unfold txV at h
  rw [List.getElem?_map, List.getElem?_range hj] at h
  simp at h
  exact ⟨hj, h.symm⟩
theorem boV_get (T : Nat → Bool) (n j : Nat) (u : Value) (h : (boV T n)[j]? = some u) : j < n ∧ u = .bool (T j) := by
  have hj : j < n := by have := (List.getElem?_eq_some_iff.1 h).1; rwa [boV_len] at this
  unfold boV at h
  rw [List.getElem?_map, List.getElem?_range hj] at h
  simp at h
  exact ⟨hj, h.symm⟩
theorem txV_one (T : Nat → ByteArray) (n : Nat) : ∀ u ∈ txV T n, u.oneCell' = true := fun u hu => by
  obtain ⟨_, _, rfl⟩ := List.mem_map.1 hu
  rfl
theorem boV_one (T : Nat → Bool) (n : Nat) : ∀ u ∈ boV T n, u.oneCell' = true := fun u hu => by
  obtain ⟨_, _, rfl⟩ := List.mem_map.1 hu
  rfl
theorem own_T64 {w : World} {B : Nat} {v : Value} {T : Nat → ByteArray} (h : w.ownsRow B 9 1 v 288 (txV T 288)) (hs : ∀ i, i < 288 → (T i).size = 64) : T64 w B v := by
  rcases h.2 with ⟨_, h0⟩ | ⟨g, cap, cur, rfl, hb, hg, hnc, hcm, hcs, htk⟩
  · omega
  · refine ⟨g, cap, T, rfl, hnc, hcm, hb, ⟨cur, hg⟩, fun i hi => ⟨?_, hs i hi⟩⟩
    have := h.cells (g := g) rfl i (.string (T i)) (by unfold txV; rw [List.getElem?_map, List.getElem?_range hi]; rfl)
    rw [Addr.add_lit, Nat.zero_add] at this
    exact this
theorem own_B288 {w : World} {B : Nat} {v : Value} {T : Nat → Bool} (h : w.ownsRow B 4 1 v 288 (boV T 288)) : B288 w B v := by
  rcases h.2 with ⟨_, h0⟩ | ⟨g, cap, cur, rfl, hb, hg, hnc, hcm, hcs, htk⟩
  · omega
  · refine ⟨g, cap, T, rfl, hnc, hcm, hb, ⟨cur, hg⟩, fun i hi => ?_⟩
    have := h.cells (g := g) rfl i (.bool (T i)) (by unfold boV; rw [List.getElem?_map, List.getElem?_range hi]; rfl)
    rw [Addr.add_lit, Nat.zero_add] at this
    exact this
theorem heap_set {w : World} {g i : Nat} {v : Value} {cs : Array Value} {t : TypeId} (hg : w.heap[g]? = some (.cells cs t (0, 0))) : (w.setCell ⟨g, i, none⟩ v).heap[g]? = some (.cells (cs.setIfInBounds i v) t (0, 0)) := by
  simp only [World.setCell]
  rw [Array.getElem?_modify, if_pos rfl, hg]
  rfl
theorem T64.set {w : World} {B g c i : Nat} {s : ByteArray} (h : T64 w B (.slice (some ⟨g, 0, none⟩) 288 c)) (hi : i < 288) (hs : s.size = 64) : T64 (w.setCell ⟨g, i, none⟩ (.string s)) B (.slice (some ⟨g, 0, none⟩) 288 c) := by
  obtain ⟨g', c', T, h1, h2, h2', h3, ⟨cs, h4⟩, h5⟩ := h
  injection h1 with e1 _ e2
  injection e1 with e1
  injection e1 with e1 _ _
  subst e1 e2
  refine ⟨g, c, fun k => if k = i then s else T k, rfl, h2, h2', h3, ⟨_, heap_set h4⟩, fun k hk => ?_⟩
  dsimp only
  by_cases e : k = i
  · subst e
    rw [if_pos rfl]
    exact ⟨by rw [World.cell?_setCell_same' _ _ _ (by rw [(h5 k hk).1]; rfl)], hs⟩
  · rw [if_neg e, World.cell?_setCell_other _ _ _ _ (by intro q; injection q with _ q _; exact e q.symm)]
    exact h5 k hk
theorem B288.set {w : World} {B g c i : Nat} {s : Bool} (h : B288 w B (.slice (some ⟨g, 0, none⟩) 288 c)) (hi : i < 288) : B288 (w.setCell ⟨g, i, none⟩ (.bool s)) B (.slice (some ⟨g, 0, none⟩) 288 c) := by
  obtain ⟨g', c', T, h1, h2, h2', h3, ⟨cs, h4⟩, h5⟩ := h
  injection h1 with e1 _ e2
  injection e1 with e1
  injection e1 with e1 _ _
  subst e1 e2
  refine ⟨g, c, fun k => if k = i then s else T k, rfl, h2, h2', h3, ⟨_, heap_set h4⟩, fun k hk => ?_⟩
  dsimp only
  by_cases e : k = i
  · subst e
    rw [if_pos rfl, World.cell?_setCell_same' _ _ _ (by rw [h5 k hk]; rfl)]
  · rw [if_neg e, World.cell?_setCell_other _ _ _ _ (by intro q; injection q with _ q _; exact e q.symm)]
    exact h5 k hk
theorem inf12 {P : Program} {t : TypeId} {z : Value} {n m : Nat} (h : (P.info? t).map (fun i => (i.zero, i.size, i.bytes)) = some (some z, n, m)) : ∃ i, P.info? t = some i ∧ i.zero = some z ∧ i.size = n ∧ i.bytes = m := by
  cases hq : P.info? t with
  | none => simp [hq] at h
  | some i => simp [hq] at h; exact ⟨i, rfl, h.1, h.2.1, h.2.2⟩
theorem inf12s : (Try.prog.info? 9).map (fun i => (i.zero, i.size, i.bytes)) = some (some (.string ⟨#[]⟩), 1, 16) := by kernel_rfl
theorem inf12b : (Try.prog.info? 4).map (fun i => (i.zero, i.size, i.bytes)) = some (some (.bool false), 1, 1) := by kernel_rfl
theorem nilRow12 (w : World) (base : Nat) (e : TypeId) (hb : base ≤ w.heap.size) : (w.alloc (.cells #[] e)).ownsRow base e 1 (.slice (some ⟨w.heap.size, 0, none⟩) 0 0) 0 [] :=
  ⟨rfl, Or.inr ⟨w.heap.size, 0, #[], rfl, hb, heap_alloc_new _ _, Nat.le_refl _, by decide, rfl, by simp⟩⟩
set_option maxRecDepth 100000 in
set_option maxHeartbeats 2000000 in
theorem put_any (B : Nat) (v : Value) (i : Nat) (s : ByteArray) (w : World) (hT : T64 w B v) (hi : i < 288) (hs : s.size = 64) : Calls Try.prog 58 #[v, .int .i64 (i : Int), .string s] w fun e w' => ∃ v', e = .returned v' ∧ T64 w' w.heap.size v' ∧ Below w.heap.size w w' := by
  obtain ⟨is, his, hs0, hs1, hs2⟩ := inf12 inf12s
  obtain ⟨g, c, T, rfl, hc, hcm, hB, ⟨cs, hg⟩, hcell⟩ := hT
  have bn : Below w.heap.size w (w.alloc (.cells #[] 9)) := (Below.refl _ _).alloc (Nat.le_refl _) _
  have hgl := (Array.getElem?_eq_some_iff.1 hg).1
  have HNW : Hid (∀ j u, (txV T 288)[j]? = some u → (w.alloc (.cells #[] 9)).cell? ((⟨g, 0, none⟩ : Addr).add j) = some u) := Lib.hid (fun j u hu => by
    obtain ⟨hj, rfl⟩ := txV_get T 288 j u hu
    rw [Addr.add_lit, Nat.zero_add]
    exact (bn.cell (p := ⟨g, j, none⟩) hgl).trans (hcell j hj).1)
  have HSZ : Hid (∀ i, i < 288 → (T i).size = 64) := Lib.hid (fun i hi => (hcell i hi).2)
  have HNR := Lib.hid (nilRow12 w w.heap.size 9 (Nat.le_refl _))
  have HSS := Lib.hid hs
  have hii : (i : Int) < 288 := by omega
  clear hcell hg hs
  go_enter Try.func58, Try.ntmps58
  go_wp2_with (at_builtin; refine wpList_append_own _ rfl _ _ 77 rfl w.heap.size 9 is (.string ⟨#[]⟩) 1 16 Try.underlying77 his hs0 hs1 hs2 rfl (by decide) _ 0 [] rfl HNR.out ⟨g, 0, none⟩ 288 c (txV T 288) rfl (by rw [txV_len]) HNW.out (txV_one T 288) (by unfold maxLen; omega) (by omega) (by simp) ?_)
  intro v' w' O G _
  try rw [List.nil_append] at O
  try rw [Nat.zero_add] at O
  have HT := Lib.hid (own_T64 O HSZ.out)
  have b2 : Below w.heap.size w w' := bn.grown G (by simp) (fun q hq => (HNR.out.lt q hq).1)
  have HB2 := Lib.hid b2
  obtain ⟨g2, c2, T2, rfl, hc2, _, hB2, ⟨cs2, hg2⟩, hcell2⟩ := own_T64 O HSZ.out
  have hcc := (hcell2 i hi).1
  have hff := frozen_of_row _ _ i _ _ hg2
  clear O G b2 bn hcell2 hg2
  go_wp2_with fail
  go_ret
  exact ⟨_, rfl, HT.out.set hi HSS.out, HB2.out.setCell (p := ⟨g2, i, none⟩) hB2 _⟩
set_option maxRecDepth 100000 in
set_option maxHeartbeats 2000000 in
theorem mark_any (B : Nat) (v : Value) (i : Nat) (s : Bool) (w : World) (hT : B288 w B v) (hi : i < 288) : Calls Try.prog 68 #[v, .int .i64 (i : Int), .bool s] w fun e w' => ∃ v', e = .returned v' ∧ B288 w' w.heap.size v' ∧ Below w.heap.size w w' := by
  obtain ⟨is, his, hs0, hs1, hs2⟩ := inf12 inf12b
  obtain ⟨g, c, T, rfl, hc, hcm, hB, ⟨cs, hg⟩, hcell⟩ := hT
  have bn : Below w.heap.size w (w.alloc (.cells #[] 4)) := (Below.refl _ _).alloc (Nat.le_refl _) _
  have hgl := (Array.getElem?_eq_some_iff.1 hg).1
  have HNW : Hid (∀ j u, (boV T 288)[j]? = some u → (w.alloc (.cells #[] 4)).cell? ((⟨g, 0, none⟩ : Addr).add j) = some u) := Lib.hid (fun j u hu => by
    obtain ⟨hj, rfl⟩ := boV_get T 288 j u hu
    rw [Addr.add_lit, Nat.zero_add]
    exact (bn.cell (p := ⟨g, j, none⟩) hgl).trans (hcell j hj))
  have HNR := Lib.hid (nilRow12 w w.heap.size 4 (Nat.le_refl _))
  have hii : (i : Int) < 288 := by omega
  clear hcell hg
  go_enter Try.func68, Try.ntmps68
  go_wp2_with (at_builtin; refine wpList_append_own _ rfl _ _ 30 rfl w.heap.size 4 is (.bool false) 1 1 Try.underlying30 his hs0 hs1 hs2 rfl (by decide) _ 0 [] rfl HNR.out ⟨g, 0, none⟩ 288 c (boV T 288) rfl (by rw [boV_len]) HNW.out (boV_one T 288) (by unfold maxLen; omega) (by omega) (by simp) ?_)
  intro v' w' O G _
  try rw [List.nil_append] at O
  try rw [Nat.zero_add] at O
  have HT := Lib.hid (own_B288 O)
  have b2 : Below w.heap.size w w' := bn.grown G (by simp) (fun q hq => (HNR.out.lt q hq).1)
  have HB2 := Lib.hid b2
  obtain ⟨g2, c2, T2, rfl, hc2, _, hB2, ⟨cs2, hg2⟩, hcell2⟩ := own_B288 O
  have hcc := hcell2 i hi
  have hff := frozen_of_row _ _ i _ _ hg2
  clear O G b2 bn hcell2 hg2
  go_wp2_with fail
  go_ret
  exact ⟨_, rfl, HT.out.set hi, HB2.out.setCell (p := ⟨g2, i, none⟩) hB2 _⟩
end Go.Proofs.Ytjmginkkjkbpoaa
