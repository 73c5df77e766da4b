/- Contracts (cellaret): node.Root. -/
import Derived.Test.YtaneecmfgfkaaaaDoorNoN
namespace Go.Proofs.YtaneecmfgfkaaaaDoor
open Go.RowKit Go.Deep Go.Maps
set_option linter.unusedVariables false
set_option linter.unusedSimpArgs false
theorem alloc_step {K X : Act → World → Prop} {S : World → Prop} {a : Act} {W : World} {o : Obj} (hK : Shut (∀ a w, S w → (S w → X a w) → K a w)) (hS : S (W.alloc o)) (h : ∀ W' : World, Hid (W' = W.alloc o) → W'.heap[W.heap.size]? = some o → S W' → X a W') : K a (W.alloc o) :=
  hK.out _ _ hS (fun h1 => h _ (Lib.hid rfl) (heap_alloc_new _ _) h1)
theorem any_step {K X : Act → World → Prop} {S : World → Prop} {a : Act} {W : World} (hK : Shut (∀ a w, S w → (S w → X a w) → K a w)) (hS : S W) (h : ∀ W' : World, Hid (W' = W) → S W' → X a W') : K a W :=
  hK.out _ _ hS (fun h1 => h _ (Lib.hid rfl) h1)
/-- What Root has on its way. -/
structure RtI (base : Nat) (w : World) (X : Option OrS) (o : Option Addr) (b g c N : Nat) (f : Nat → List UInt8) (T : List (List UInt8)) (k : Nat) (wi : World) (Xi : Option OrS) : Prop where
  f4 : wi.heap[b]? = some (.cells z32 34 (0, 0))
  c1 : wi.cell? ⟨b + 2, 0, none⟩ = some (.func (.func 13) #[.pointer o] #[])
  c2 : wi.cell? ⟨b + 1, 0, none⟩ = some (.string oneB)
  row : RowD wi g c N f
  hx : OrX base wi o Xi
  st : SumsX X Xi T
  bel : Below base w wi
  kp : KeptX w wi X Xi
  fr : ∀ j, j < 3 → FreeX Xi (b + j)
  frg : FreeX Xi g
  fw : FewX Xi k
  hb : base ≤ b ∧ w.heap.size = b ∧ b + 3 ≤ g
theorem RtI.below {base : Nat} {w : World} {X : Option OrS} {o : Option Addr} {b g c N : Nat} {f : Nat → List UInt8} {T : List (List UInt8)} {k : Nat} {wi w' : World} {Xi : Option OrS} (h : RtI base w X o b g c N f T k wi Xi) (hB : Below wi.heap.size wi w') : RtI base w X o b g c N f T k w' Xi :=
  ⟨(hB.block b (Array.getElem?_eq_some_iff.1 h.f4).1).trans h.f4, (hB.cell (p := ⟨b + 2, 0, none⟩) (block_lt_of_cell h.c1)).trans h.c1, (hB.cell (p := ⟨b + 1, 0, none⟩) (block_lt_of_cell h.c2)).trans h.c2, h.row.below hB, h.hx.below hB, h.st, h.bel.trans (hB.mono h.hx.base), h.kp.trans (KeptX.below hB), h.fr, h.frg, h.fw, h.hb⟩
theorem RtI.sum {base : Nat} {w : World} {X : Option OrS} {o : Option Addr} {b g c N : Nat} {f : Nat → List UInt8} {T : List (List UInt8)} {k : Nat} {wi w' : World} {Xi X' : Option OrS} {t : List UInt8} (h : RtI base w X o b g c N f T k wi Xi) (hX : OrX base w' o X') (hS : SumX Xi X' t) (hB : Below base wi w') (hK : KeptX wi w' Xi X') : RtI base w X o b g c N f (T ++ [t]) (k + 1) w' X' :=
  have l0 := (Array.getElem?_eq_some_iff.1 h.f4).1
  have l1 : b + 1 < wi.heap.size := block_lt_of_cell h.c2
  have l2 : b + 2 < wi.heap.size := block_lt_of_cell h.c1
  ⟨hK.keep _ _ h.f4 (h.fr 0 (by omega)), hK.cell h.c1 (h.fr 2 (by omega)), hK.cell h.c2 (h.fr 1 (by omega)), h.row.kept (fun o ho => hK.keep _ _ ho h.frg), hX, h.st.snoc hS, h.bel.trans hB, h.kp.trans hK, fun j hj => hK.free _ (by omega) (h.fr j hj), hK.free _ h.row.lt h.frg, hS.few h.fw, h.hb⟩
theorem RtI.rowp {base : Nat} {w : World} {X : Option OrS} {o : Option Addr} {b g c N : Nat} {f : Nat → List UInt8} {T : List (List UInt8)} {k : Nat} {wi : World} {Xi : Option OrS} (h : RtI base w X o b g c N f T k wi Xi) (p : Nat) (D : Array Value) (hf : FreeX Xi p) (hp : g < p) : RtI base w X o b g c N f T k (wi.setRow p D) Xi :=
  have hb := h.hb
  ⟨(setRow_other wi p b D (by omega)).trans h.f4, (cell_setRow_other _ _ _ _ (by show b + 2 ≠ p; omega)).trans h.c1, (cell_setRow_other _ _ _ _ (by show b + 1 ≠ p; omega)).trans h.c2, h.row.kept (fun o ho => (setRow_other wi p g D (by omega)).trans ho), h.hx.row p D hf, h.st, below_setRow h.bel (by omega) _, h.kp.row p D (by omega), h.fr, h.frg, h.fw, h.hb⟩
theorem cell_setCells_ne (w : World) (g o : Nat) (vs : List Value) (p : Addr) (h : p.block ≠ g) : (w.setCells g o vs).cell? p = w.cell? p := World.cell?_of_block (heap_setCells_ne w g o p.block vs h)
theorem RtI.set {base : Nat} {w : World} {X : Option OrS} {o : Option Addr} {b g c N : Nat} {f : Nat → List UInt8} {T : List (List UInt8)} {k : Nat} {wi : World} {Xi : Option OrS} (h : RtI base w X o b g c N f T k wi Xi) (i : Nat) (hi : i < N) (d : List UInt8) (hd : d.length = 32) : RtI base w X o b g c N (fun k => if k = i then d else f k) T k (wi.setCells g (i * 32) (bv d)) Xi :=
  have hb := h.hb
  ⟨(heap_setCells_ne wi g _ b _ (by omega)).trans h.f4, (cell_setCells_ne wi g _ _ _ (by show b + 2 ≠ g; omega)).trans h.c1, (cell_setCells_ne wi g _ _ _ (by show b + 1 ≠ g; omega)).trans h.c2, h.row.set i hi d hd, h.hx.cells g _ _ h.frg, h.st, below_cells h.bel (by omega) _ _, h.kp.cells g _ _ (by omega), h.fr, h.frg, h.fw, h.hb⟩
theorem RtI.congr {base : Nat} {w : World} {X : Option OrS} {o : Option Addr} {b g c N N' : Nat} {f f' : Nat → List UInt8} {T T' : List (List UInt8)} {k k' : Nat} {wi : World} {Xi : Option OrS} (h : RtI base w X o b g c N f T k wi Xi) (hn : N' ≤ N) (hf : ∀ i, i < N' → f' i = f i) (hT : T' = T) (hk : k ≤ k') : RtI base w X o b g c N' f' T' k' wi Xi :=
  ⟨h.f4, h.c1, h.c2, h.row.congr hn hf, h.hx, by rw [hT]; exact h.st, h.bel, h.kp, h.fr, h.frg, h.fw.mono hk, h.hb⟩
/-- A block that the round made. -/
structure BlkF (g : Nat) (wc : World) (Xc : Option OrS) (p : Nat) (D : Array Value) : Prop where
  h : wc.heap[p]? = some (.cells D 34 (0, 0))
  f : FreeX Xc p
  lb : g < p
theorem BlkF.below {g : Nat} {wc w' : World} {Xc : Option OrS} {p : Nat} {D : Array Value} (h : BlkF g wc Xc p D) (hb : Below wc.heap.size wc w') : BlkF g w' Xc p D := ⟨(hb.block p (Array.getElem?_eq_some_iff.1 h.h).1).trans h.h, h.f, h.lb⟩
theorem BlkF.kept {g : Nat} {wc w' : World} {Xc X' : Option OrS} {p : Nat} {D : Array Value} (h : BlkF g wc Xc p D) (hk : KeptX wc w' Xc X') : BlkF g w' X' p D := ⟨hk.keep _ _ h.h h.f, hk.free _ (Array.getElem?_eq_some_iff.1 h.h).1 h.f, h.lb⟩
/-- The row while the level h + 1 is made: its first i nodes are there. -/
def mixF (L : List (List UInt8)) (h i : Nat) : Nat → List UInt8 := fun k => if k < i then dg (lv (h + 1) L) k else dg (lv h L) k
theorem mixF_hi (L : List (List UInt8)) (h i k : Nat) (hk : ¬ k < i) : mixF L h i k = dg (lv h L) k := if_neg hk
theorem mixF_step (L : List (List UInt8)) (h i k : Nat) : mixF L h (i + 1) k = if k = i then dg (lv (h + 1) L) i else mixF L h i k := by
  unfold mixF
  by_cases e : k = i
  · subst e; rw [if_pos rfl, if_pos (by omega)]
  · rw [if_neg e]
    by_cases q : k < i
    · rw [if_pos q, if_pos (by omega)]
    · rw [if_neg q, if_neg (by omega)]
theorem lv_node (L : List (List UInt8)) (hL : L.length = 64) (h i : Nat) (hh : h < 6) (hi : i < 64 / 2 ^ (h + 1)) : dg (lv (h + 1) L) i = sumL (nt L h i) := by
  rw [lv_succ, upL_at _ i (by rw [lv_len, hL, Nat.div_div_eq_div_mul]; exact hi)]
  rfl
theorem pow_facts (h : Nat) (hh : h < 6) : 64 / 2 ^ h = 2 * (64 / 2 ^ (h + 1)) ∧ 1 ≤ 64 / 2 ^ (h + 1) ∧ 64 / 2 ^ (h + 1) ≤ 32 := by
  rcases (show h = 0 ∨ h = 1 ∨ h = 2 ∨ h = 3 ∨ h = 4 ∨ h = 5 by omega) with rfl | rfl | rfl | rfl | rfl | rfl <;> decide
def slN : Value → Nat
  | .slice _ n _ => n
  | _ => 0
end Go.Proofs.YtaneecmfgfkaaaaDoor
