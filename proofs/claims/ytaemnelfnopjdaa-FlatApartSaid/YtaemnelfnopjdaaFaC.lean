/- Package flat: a model in memory. -/
import Derived.Test.YtaemnelfnopjdaaFaB
import Derived.Maps.OwnSet
import Derived.Maps.Views
import Derived.Maps.OwnOps
import Derived.Carry
import Derived.Laws.ResultCell
import Derived.Below
import Derived.OneCell
import Derived.Great.BuildSlice
namespace Go.Proofs.Ytaemnelfnopjdaa
open Go.RowKit Go.Deep Go.Maps
set_option linter.unusedVariables false
set_option linter.unusedSimpArgs false
/-- What a text reads as. -/
def kS (x : List UInt8) : Lit := .string x
theorem kS_ne {s t : List UInt8} (h : s ≠ t) : kS s ≠ kS t := fun e => h (by
  unfold kS at e
  injection e)
/-- A map of places tells of each text where it is. -/
def Idx (D : DataW Unit) (l : List (List UInt8)) : Prop := ∀ s : List UInt8, has D (kS s) = decide (s ∈ l) ∧ (s ∈ l → D.atKey (kS s) (.lit (.int .i64 0)) = .lit (.int .i64 (l.idxOf s : Int)))
theorem Idx.nil : Idx (.map []) [] := fun s => ⟨by simp [has], fun h => by cases h⟩
theorem kS_lit (s : List UInt8) : WideAt.IsKeyLit (kS s) := by unfold kS; simp [WideAt.IsKeyLit]
theorem Idx.put {D : DataW Unit} {l : List (List UInt8)} (h : Idx D l) (hD : IsMap D) (s : List UInt8) (hs : s ∉ l) : Idx (D.put (kS s) (.lit (.int .i64 (l.length : Int)))) (l ++ [s]) := fun t => by
  by_cases e : t = s
  · subst e
    refine ⟨by rw [has_put_same hD (kS_lit t)]; simp, fun _ => ?_⟩
    rw [atKey_put_same hD (kS_lit t), List.idxOf_append, if_neg hs]
    simp
  · refine ⟨by rw [has_put_other (kS_ne e), (h t).1]; simp [e], fun ht => ?_⟩
    have htl : t ∈ l := by
      rcases List.mem_append.1 ht with h | h
      · exact h
      · exact absurd (List.mem_singleton.1 h) e
    rw [atKey_put_other (kS_ne e), (h t).2 htl, List.idxOf_append, if_pos htl]
theorem wp_build1 {P : Program} {o : Oper} {a : Act} {w : World} {K : Act → World → Prop} {Q : Exit → Act → World → Prop} (t e : TypeId) (x : Operand) (ho : o.op = .buildSlice t 1 #[(0, x)])
    (ie : TypeInfo) (z : Value) (size : Nat) (hu : P.underlying t = some (.slice e)) (hie : P.info? e = some ie) (hz : ie.zero = some z) (hsz : ie.size = size) (hpos : 0 < size) (hsm : size ≤ 1000) (v : Value) (hv : a.eval x = v) (hvs : v.cells.size = size)
    (h : K (a.put o.dst (.slice (some ⟨w.heap.size, 0, none⟩) 1 1)) (w.alloc (.cells v.cells e))) : o.wp P a w K Q := by
  refine wp_buildSlice t e 1 _ ho v.cells ie z hu hie hz (by rw [hsz]; omega) (by rw [hsz]; omega) ?_ h
  rw [hsz]
  obtain ⟨r, h1, h2, h3⟩ := Great.fill_dense hpos [v] 0 ((Array.range (1 * size)).map (z.cells[· % z.cells.size]!)) (by simpa using hvs) (by simp)
  have hr : r = v.cells := by
    apply Array.ext_getElem?
    intro k
    rw [h3 k]
    by_cases hk : k < size
    · rw [if_pos (by simp; omega), Nat.div_eq_of_lt hk, Nat.mod_eq_of_lt hk]; rfl
    · rw [if_neg (by simp; omega), Array.getElem?_eq_none (by simp; omega), Array.getElem?_eq_none (by omega)]
  rw [← hr]
  simpa [hv] using h1
theorem wp_mapUpdate_own {H : Type} {P : Program} {w : World} {o : Oper} {a : Act} {K : Act → World → Prop} {Q : Exit → Act → World → Prop}
    (m x v : Operand) (t : TypeId) (hop : o.op = Op.mapUpdate t m x v)
    (k e : TypeId) (Ky : Keyed P k) (ht : P.underlying t = some (.map k e)) (R : Value → Option (DataW H × List MemPlace)) (b n : Nat) (D : DataW H)
    (hm : a.eval m = .map (some b)) (hown : w.ownsMap P k R b n D) (hn : n < maxLen) (key val : Value) (kl : Lit) (hx : a.eval x = key) (hv : a.eval v = val) (hkey : keyOf P k key = some kl)
    (d : DataW H) (ps : List MemPlace) (hval : R val = some (d, ps))
    (hK : ∀ w', w'.ownsMap P k R b (n + 1) (D.put kl d) → w.grownBy w' (some b) → K (a.put o.dst undef) w') : o.wp P a w K Q := by
  obtain ⟨w', hrun, r1, r2⟩ := hown.update Ky ht hn hkey hval
  unfold Oper.wp
  simp [execOp, hop, hm, hx, hv, hrun, Result.andThen]
  exact hK w' r1 r2
theorem info_str' : (Try.prog.info? 9).map (fun i => (i.zero, i.size, i.bytes)) = some (some (.string ⟨#[]⟩), 1, 16) := by kernel_rfl
theorem own_nomap {w : World} {base n size b : Nat} {e : TypeId} {v : Value} {xs : List Value} {R : Value → Option (DataW Unit × List MemPlace)} {k : TypeId} {D : DataW Unit} {m : Nat} (h : w.ownsRow base e size v n xs) (hm : w.ownsMap Try.prog k R b m D) : v.ownBlock ≠ some b := fun e1 => by
  obtain ⟨es, clock, hb, _⟩ := hm
  rcases h.2 with ⟨rfl, rfl⟩ | ⟨g2, cap, cur, rfl, q1, q2, q3⟩
  · cases e1
  · cases e1
    rw [hb] at q2; cases q2
theorem own_apart {w : World} {base n size base' n' size' : Nat} {e e' : TypeId} {v v' : Value} {xs xs' : List Value} (h : w.ownsRow base e size v n xs) (h' : w.ownsRow base' e' size' v' n' xs') (he : e ≠ e') : v.ownBlock = none ∨ v.ownBlock ≠ v'.ownBlock := by
  rcases h.2 with ⟨rfl, rfl⟩ | ⟨g2, cap, cur, rfl, q1, q2, q3⟩
  · exact Or.inl rfl
  · rcases h'.2 with ⟨rfl, rfl⟩ | ⟨g3, cap', cur', rfl, p1, p2, p3⟩
    · exact Or.inr (by simp [Value.ownBlock])
    · refine Or.inr fun e1 => he ?_
      cases e1
      rw [q2] at p2; cases p2; rfl
theorem own_nostruct {w : World} {base n size g : Nat} {e T : TypeId} {v : Value} {xs : List Value} {cs : Array Value} (h : w.ownsRow base e size v n xs) (hg : w.heap[g]? = some (.cells cs T (0, 0))) (he : e ≠ T) : v.ownBlock ≠ some g := fun e1 => by
  rcases h.2 with ⟨rfl, rfl⟩ | ⟨g2, cap, cur, rfl, q1, q2, q3⟩
  · cases e1
  · cases e1
    rw [hg] at q2; cases q2; exact he rfl
theorem own_grown {w w' : World} {base n size : Nat} {e : TypeId} {v : Value} {xs : List Value} {row : Option Nat} (h : w.ownsRow base e size v n xs) (hg : w.grownBy w' row) (hne : v.ownBlock = none ∨ v.ownBlock ≠ row) : w'.ownsRow base e size v n xs := by
  refine ⟨h.1, ?_⟩
  rcases h.2 with h2 | ⟨g2, cap, cur, rfl, q1, q2, q3⟩
  · exact Or.inl h2
  · refine Or.inr ⟨g2, cap, cur, rfl, q1, (hg.block g2 (Array.getElem?_eq_some_iff.1 q2).1 ?_).trans q2, q3⟩
    rcases hne with h | h
    · cases h
    · exact h
theorem map_at_block {w w' : World} {b n : Nat} {k : TypeId} {R : Value → Option (DataW Unit × List MemPlace)} {D : DataW Unit} (h : w.ownsMap Try.prog k R b n D) (hb : w'.heap[b]? = w.heap[b]?) : w'.ownsMap Try.prog k R b n D := by
  obtain ⟨es, clock, hb0, F, hs, hD⟩ := h
  exact ⟨es, clock, hb.trans hb0, F, hs, hD⟩
theorem map_block {w : World} {b n g : Nat} {k T : TypeId} {R : Value → Option (DataW Unit × List MemPlace)} {D : DataW Unit} {cs : Array Value} (h : w.ownsMap Try.prog k R b n D) (hg : w.heap[g]? = some (.cells cs T (0, 0))) : g ≠ b := fun e => by
  obtain ⟨es, clock, hb0, _⟩ := h
  rw [← e, hg] at hb0; cases hb0
theorem lawS : Keyed Try.prog 9 := string_keyed Try.underlying9
theorem zeroI (w : World) : (zeroValue 3).run Try.prog w = .ok (.int .i64 0) w := by kernel_rfl
theorem nat_wf (n : Nat) (h : n ≤ 1000000) : (Lit.int .i64 (n : Int)).wf = true := by
  have h1 : IntKind.i64.min ≤ (n : Int) ∧ (n : Int) ≤ IntKind.i64.max := by
    rw [show IntKind.i64.min = -9223372036854775808 from by decide, show IntKind.i64.max = 9223372036854775807 from by decide]
    omega
  simpa [Lit.wf] using h1
theorem info_partsF {P : Program} {e : TypeId} {z : Value} {n b : Nat} (h : (P.info? e).map (fun i => (i.zero, i.size, i.bytes)) = some (some z, n, b)) : ∃ i, P.info? e = some i ∧ i.zero = some z ∧ i.size = n ∧ i.bytes = b := by
  cases h9 : P.info? e with
  | none => rw [h9] at h; cases h
  | some i =>
    rw [h9] at h
    simp only [Option.map_some, Option.some.injEq, Prod.mk.injEq] at h
    exact ⟨i, rfl, h.1, h.2.1, h.2.2⟩
/-- What type of cells a block holds. -/
def tyAt (w : World) (k : Nat) : Option TypeId := match w.heap[k]? with
  | some (.cells _ t _) => some t
  | _ => none
theorem tyAt_cells {w : World} {k : Nat} {cs : Array Value} {t : TypeId} {f : Nat × Nat} (h : w.heap[k]? = some (.cells cs t f)) : tyAt w k = some t := by unfold tyAt; rw [h]
theorem tyAt_row {w : World} {base n size k : Nat} {e : TypeId} {v : Value} {xs : List Value} (h : w.ownsRow base e size v n xs) (hk : v.ownBlock = some k) : tyAt w k = some e := by
  rcases h.2 with ⟨rfl, rfl⟩ | ⟨g2, cap, cur, rfl, q1, q2, q3⟩
  · cases hk
  · cases hk; exact tyAt_cells q2
theorem tyAt_map {w : World} {b n : Nat} {k : TypeId} {R : Value → Option (DataW Unit × List MemPlace)} {D : DataW Unit} (h : w.ownsMap Try.prog k R b n D) : tyAt w b = none := by
  obtain ⟨es, clock, hb0, _⟩ := h
  unfold tyAt; rw [hb0]
theorem tyAt_same {w w' : World} {k : Nat} (h : w'.heap[k]? = w.heap[k]?) : tyAt w' k = tyAt w k := by unfold tyAt; rw [h]
theorem own_at_block {w w' : World} {base n size : Nat} {e : TypeId} {v : Value} {xs : List Value} (h : w.ownsRow base e size v n xs) (hb : ∀ k, v.ownBlock = some k → w'.heap[k]? = w.heap[k]?) : w'.ownsRow base e size v n xs := by
  refine ⟨h.1, ?_⟩
  rcases h.2 with h2 | ⟨g2, cap, cur, rfl, q1, q2, q3⟩
  · exact Or.inl h2
  · exact Or.inr ⟨g2, cap, cur, rfl, q1, (hb g2 rfl).trans q2, q3⟩
/-- A change's numbers: read, never written. -/
def ChAt (w : World) (ao : Option Addr) (b : List Nat) : Prop := NatAt w ao b ∧ ∀ a, ao = some a → a.block < w.heap.size ∧ tyAt w a.block = some 3
theorem NatAt.same {w w' : World} {ao : Option Addr} {b : List Nat} (h : NatAt w ao b) (hs : w.heap.size ≤ w'.heap.size) (k : ∀ a, ao = some a → w'.heap[a.block]? = w.heap[a.block]?) : NatAt w' ao b := fun hp => by
  obtain ⟨g, o, e, hg, hc⟩ := h hp
  have hk := k _ e
  exact ⟨g, o, e, Nat.lt_of_lt_of_le hg hs, fun i hi => by
    have := hc i hi
    simp only [World.cell?] at this ⊢
    rw [hk]; exact this⟩
theorem ChAt.same {w w' : World} {ao : Option Addr} {b : List Nat} (h : ChAt w ao b) (hs : w.heap.size ≤ w'.heap.size) (k : ∀ a, ao = some a → w'.heap[a.block]? = w.heap[a.block]?) : ChAt w' ao b :=
  ⟨h.1.same hs k, fun a e => ⟨Nat.lt_of_lt_of_le (h.2 a e).1 hs, (tyAt_same (k a e)).trans (h.2 a e).2⟩⟩
theorem ChAt.below {w w' : World} {ao : Option Addr} {b : List Nat} (h : ChAt w ao b) (k : Below w.heap.size w w') : ChAt w' ao b := h.same k.size (fun a e => k.block a.block (h.2 a e).1)
/-- A model: how many blocks, texts, first states, changes. -/
structure Fl where
  n : Nat
  T : List (List UInt8)
  F : List (List Nat)
  C : List (Nat × List Nat)
structure Ch where
  a : Nat
  b : List Nat
  o : Option Addr
  c : Nat
def chC (c : Ch) : List Value := [.int .i64 (c.a : Int), .slice c.o c.b.length c.c]
/-- The blocks of the changes' numbers. -/
def chL (cm : List Ch) : List Nat := cm.flatMap fun c => (c.o.map (·.block)).toList
theorem chL_mem {cm : List Ch} {j : Nat} : j ∈ chL cm ↔ ∃ c ∈ cm, ∃ a, c.o = some a ∧ a.block = j := by
  unfold chL
  simp [List.mem_flatMap, Option.mem_toList]
def chP (c : Ch) : Nat × List Nat := (c.a, c.b)
structure FlAt (w : World) (B g : Nat) (M : Fl) (vt vf vc : Value) (cm : List Ch) (bm : Nat) (D : DataW Unit) : Prop where
  hg : w.heap[g]? = some (.cells #[.int .i64 (M.n : Int), vt, .map (some bm), vf, vc] 60 (0, 0))
  bg : B ≤ g
  ht : w.ownsRow B 9 1 vt M.T.length (M.T.map fun x => Value.string ⟨x.toArray⟩)
  hm : w.ownsMap Try.prog 9 (plainElem Try.prog 3) bm M.T.length D
  bb : B ≤ bm
  ix : Idx D M.T
  hf : w.ownsRow B 56 64 vf M.F.length (M.F.flatMap nC)
  hc : w.ownsRow B 70 2 vc M.C.length (cm.flatMap chC)
  ch : ∀ c ∈ cm, ChAt w c.o c.b
  ce : M.C = cm.map chP
def OwnL (g : Nat) (vt vf vc : Value) (bm : Nat) : List Nat := g :: bm :: (vt.ownBlock.toList ++ vf.ownBlock.toList ++ vc.ownBlock.toList)
section
variable {w w' : World} {B g bm : Nat} {M : Fl} {vt vf vc : Value} {cm : List Ch} {D : DataW Unit}
theorem FlAt.lt (h : FlAt w B g M vt vf vc cm bm D) : g < w.heap.size := (Array.getElem?_eq_some_iff.1 h.hg).1
theorem FlAt.bw (h : FlAt w B g M vt vf vc cm bm D) : B ≤ w.heap.size := Nat.le_trans h.bg (Nat.le_of_lt h.lt)
theorem mem_own {k : Nat} : k ∈ OwnL g vt vf vc bm ↔ k = g ∨ k = bm ∨ vt.ownBlock = some k ∨ vf.ownBlock = some k ∨ vc.ownBlock = some k := by
  unfold OwnL
  simp [Option.mem_toList]
theorem FlAt.own_lt (h : FlAt w B g M vt vf vc cm bm D) {k : Nat} (hk : k ∈ OwnL g vt vf vc bm) : k < w.heap.size ∧ B ≤ k := by
  rcases mem_own.1 hk with rfl | rfl | e | e | e
  · exact ⟨h.lt, h.bg⟩
  · exact ⟨World.ownsMap.lt h.hm, h.bb⟩
  · exact ⟨(h.ht.lt k e).2, (h.ht.lt k e).1⟩
  · exact ⟨(h.hf.lt k e).2, (h.hf.lt k e).1⟩
  · exact ⟨(h.hc.lt k e).2, (h.hc.lt k e).1⟩
theorem FlAt.own_ty (h : FlAt w B g M vt vf vc cm bm D) {k : Nat} (hk : k ∈ OwnL g vt vf vc bm) : tyAt w k = some 60 ∨ tyAt w k = none ∨ tyAt w k = some 9 ∨ tyAt w k = some 56 ∨ tyAt w k = some 70 := by
  rcases mem_own.1 hk with rfl | rfl | e | e | e
  · exact Or.inl (tyAt_cells h.hg)
  · exact Or.inr (Or.inl (tyAt_map h.hm))
  · exact Or.inr (Or.inr (Or.inl (tyAt_row h.ht e)))
  · exact Or.inr (Or.inr (Or.inr (Or.inl (tyAt_row h.hf e))))
  · exact Or.inr (Or.inr (Or.inr (Or.inr (tyAt_row h.hc e))))
theorem FlAt.noint (h : FlAt w B g M vt vf vc cm bm D) {k : Nat} (hk : tyAt w k = some 3) : k ∉ OwnL g vt vf vc bm := fun hm => by
  rcases h.own_ty hm with e | e | e | e | e <;> rw [hk] at e <;> revert e <;> decide
theorem FlAt.ch_ty (h : FlAt w B g M vt vf vc cm bm D) {j : Nat} (hj : j ∈ chL cm) : j < w.heap.size ∧ tyAt w j = some 3 := by
  obtain ⟨c, hc, a, e, rfl⟩ := chL_mem.1 hj
  exact (h.ch c hc).2 a e
theorem FlAt.same (h : FlAt w B g M vt vf vc cm bm D) (hs : w.heap.size ≤ w'.heap.size) (ho : ∀ k ∈ OwnL g vt vf vc bm, w'.heap[k]? = w.heap[k]?) (hi : ∀ j ∈ chL cm, w'.heap[j]? = w.heap[j]?) : FlAt w' B g M vt vf vc cm bm D :=
  { h with
    hg := (ho g (mem_own.2 (Or.inl rfl))).trans h.hg
    ht := own_at_block h.ht (fun k e => ho k (mem_own.2 (Or.inr (Or.inr (Or.inl e)))))
    hm := map_at_block h.hm (ho bm (mem_own.2 (Or.inr (Or.inl rfl))))
    hf := own_at_block h.hf (fun k e => ho k (mem_own.2 (Or.inr (Or.inr (Or.inr (Or.inl e))))))
    hc := own_at_block h.hc (fun k e => ho k (mem_own.2 (Or.inr (Or.inr (Or.inr (Or.inr e))))))
    ch := fun c hc => (h.ch c hc).same hs (fun a e => hi a.block (chL_mem.2 ⟨c, hc, a, e, rfl⟩)) }
theorem FlAt.below (h : FlAt w B g M vt vf vc cm bm D) (k : Below w.heap.size w w') : FlAt w' B g M vt vf vc cm bm D :=
  h.same k.size (fun j hj => k.block j (h.own_lt hj).1) (fun j hj => k.block j (h.ch_ty hj).1)
theorem FlAt.kq {A : Nat} {N : List Nat} (h : FlAt w B g M vt vf vc cm bm D) (k : Kq A N w w') (h1 : ∀ j ∈ OwnL g vt vf vc bm, j ∉ N) (h2 : ∀ j ∈ chL cm, j ∉ N) : FlAt w' B g M vt vf vc cm bm D :=
  h.same k.below.size (fun j hj => k.other j (h.own_lt hj).1 (h1 j hj)) (fun j hj => k.other j (h.ch_ty hj).1 (h2 j hj))
end
/-- All changes laid over a state. -/
def foldC (C : List (Nat × List Nat)) (s : List Nat) : List Nat := C.foldl (fun s c => spl s c.1 c.2) s
theorem foldC_app (C : List (Nat × List Nat)) (c : Nat × List Nat) (s : List Nat) : foldC (C ++ [c]) s = spl (foldC C s) c.1 c.2 := by unfold foldC; rw [List.foldl_append]; rfl
def ChOk (n : Nat) (C : List (Nat × List Nat)) : Prop := ∀ c ∈ C, 0 < c.2.length ∧ c.1 + c.2.length ≤ n
theorem foldC_len {n : Nat} (hn : n ≤ 64) : ∀ {C : List (Nat × List Nat)} {s : List Nat}, ChOk n C → s.length = 64 → (foldC C s).length = 64
  | [], _, _, h => h
  | c :: C, s, hc, h => by
    have h1 := hc c (by simp)
    exact foldC_len hn (C := C) (s := spl s c.1 c.2) (fun d hd => hc d (by simp [hd])) (by rw [spl_len (by omega)]; exact h)
theorem foldC_take {C : List (Nat × List Nat)} {i : Nat} (h : i < C.length) (s : List Nat) : foldC (C.take (i + 1)) s = spl (foldC (C.take i) s) C[i].1 C[i].2 := by
  rw [← List.take_append_getElem h, foldC_app]
theorem flat_at {α β : Type} (f : α → List β) (m : Nat) : ∀ (l : List α) (i j : Nat) (h : i < l.length), (∀ s ∈ l, (f s).length = m) → j < m → (l.flatMap f)[i * m + j]? = (f l[i])[j]?
  | a :: l, 0, j, _, hf, hj => by
    rw [List.flatMap_cons, Nat.zero_mul, Nat.zero_add, List.getElem?_append_left (by rw [hf a (by simp)]; exact hj)]
    rfl
  | a :: l, i + 1, j, h, hf, hj => by
    rw [List.flatMap_cons, Nat.succ_mul, List.getElem?_append_right (by rw [hf a (by simp)]; omega), hf a (by simp), show i * m + m + j - m = i * m + j from by omega]
    exact flat_at f m l i j (by simpa using h) (fun s hs => hf s (by simp [hs])) hj
theorem own_rowG {w : World} {base n size : Nat} {e : TypeId} {v : Value} {xs : List Value} (h : w.ownsRow base e size v n xs) (hn : 0 < n) : ∃ g c, v = .slice (some ⟨g, 0, none⟩) n c ∧ n ≤ c ∧ base ≤ g ∧ g < w.heap.size ∧ w.rangeAt g 0 xs := by
  rcases h.2 with ⟨rfl, rfl⟩ | ⟨g, cap, cur, rfl, hb, hg, hnc, hcm, _⟩
  · omega
  · refine ⟨g, cap, rfl, hnc, hb, (Array.getElem?_eq_some_iff.1 hg).1, fun j u hu => ?_⟩
    have := h.cells (g := g) rfl j u hu
    rw [Nat.zero_add]
    rwa [Addr.add_mid, Nat.zero_add] at this
theorem own_weakF {w : World} {base b n size : Nat} {e : TypeId} {v : Value} {xs : List Value} (h : w.ownsRow base e size v n xs) (hb : b ≤ base) : w.ownsRow b e size v n xs := by
  refine ⟨h.1, ?_⟩
  rcases h.2 with h | ⟨g, cap, cur, rfl, q1, q2, q3⟩
  · exact Or.inl h
  · exact Or.inr ⟨g, cap, cur, rfl, Nat.le_trans hb q1, q2, q3⟩
theorem own_slF {w : World} {base n size : Nat} {e : TypeId} {v : Value} {xs : List Value} (h : w.ownsRow base e size v n xs) : ∃ a c, v = .slice a n c := by
  rcases h.2 with ⟨rfl, rfl⟩ | ⟨g, cap, cur, rfl, _⟩
  · exact ⟨_, _, rfl⟩
  · exact ⟨_, _, rfl⟩
end Go.Proofs.Ytaemnelfnopjdaa
