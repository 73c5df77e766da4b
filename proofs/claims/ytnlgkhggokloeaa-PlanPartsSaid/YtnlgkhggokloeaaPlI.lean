/- Package plan: rows of records; Of, and the reference's All. -/
import Derived.Test.YtnlgkhggokloeaaRqD
namespace Go.Proofs.Ytnlgkhggokloeaa
open Go.RowKit Go.Deep
set_option linter.unusedVariables false
set_option linter.unusedSimpArgs false
/-- A record, and where its Puts lie. -/
structure Rv where
  r : Rc
  a : Option Addr
  c : Nat
def rvS (x : Rv) : Value := .slice x.a x.r.ps.length x.c
def rvL (x : Rv) : List Value := .int .i64 x.r.seq :: (rootV x.r.root ++ [rvS x])
theorem rvL_arr (x : Rv) : (rvL x).toArray = rcA x.r (rvS x) := rfl
structure RvOk (w : World) (x : Rv) : Prop where
  root : x.r.root.length = 32
  cap : x.r.ps.length ≤ x.c
  max : x.c ≤ maxLen
  puts : PuAt w x.a x.r.ps
  wf : Wf x.r.ps
theorem RvOk.below {w w' : World} {x : Rv} (h : RvOk w x) (b : Below w.heap.size w w') : RvOk w' x := ⟨h.root, h.cap, h.max, h.puts.below b, h.wf⟩
theorem rvL_len {w : World} {x : Rv} (h : RvOk w x) : (rvL x).length = 34 := by unfold rvL; simp [rootV_len, h.root]
theorem rvL_33 {w : World} {x : Rv} (h : RvOk w x) : (rvL x)[33]? = some (rvS x) := by
  unfold rvL
  have hl : (rootV x.r.root).length = 32 := by rw [rootV_len, h.root]
  simp [List.getElem?_append, hl]
theorem rvL_one (x : Rv) : (rvL x).toArray.all (·.oneCell') = true := by
  rw [List.all_toArray, List.all_eq_true]
  intro u hu
  unfold rvL rootV rvS at hu
  simp at hu
  rcases hu with rfl | ⟨b, _, rfl⟩ | rfl <;> rfl
def RsAt (w : World) (ao : Option Addr) (L : List Rv) : Prop := (∀ x ∈ L, RvOk w x) ∧ (0 < L.length → ∃ g o, ao = some ⟨g, o, none⟩ ∧ g < w.heap.size ∧ ∀ i (hi : i < L.length), w.rangeAt g (o + i * 34) (rvL L[i]))
theorem range_below {w w' : World} {g o : Nat} {cs : List Value} (h : w.rangeAt g o cs) (hg : g < w.heap.size) {N : Nat} (hN : g < N) (b : Below N w w') : w'.rangeAt g o cs := fun j u hu => (b.cell (p := ⟨g, o + j, none⟩) hN).trans (h j u hu)
theorem RsAt.below {w w' : World} {ao : Option Addr} {L : List Rv} (h : RsAt w ao L) (b : Below w.heap.size w w') : RsAt w' ao L := ⟨fun x hx => (h.1 x hx).below b, fun hp => by
  obtain ⟨g, o, rfl, hg, hc⟩ := h.2 hp
  exact ⟨g, o, rfl, Nat.lt_of_lt_of_le hg b.size, fun i hi => range_below (hc i hi) hg hg b⟩⟩
def allP (L : List Rv) : List Pu := L.flatMap (fun x => x.r.ps)
theorem allP_snoc (L : List Rv) (i : Nat) (hi : i < L.length) : allP (L.take (i + 1)) = allP (L.take i) ++ L[i].r.ps := by
  unfold allP
  rw [List.take_succ_eq_append_getElem hi, List.flatMap_append]
  simp
theorem allP_le (L : List Rv) (i : Nat) : (allP (L.take i)).length ≤ (allP L).length := by
  have e : allP L = allP (L.take i) ++ allP (L.drop i) := by unfold allP; rw [← List.flatMap_append, List.take_append_drop]
  rw [e, List.length_append]; omega
theorem allP_wf {w : World} {L : List Rv} (h : ∀ x ∈ L, RvOk w x) : Wf (allP L) := fun p hp => by
  unfold allP at hp
  obtain ⟨x, hx, hp⟩ := List.mem_flatMap.1 hp
  exact (h x hx).wf p hp
def ofE : List Rv → Int
  | [] => 0
  | x :: r => if chkE x.r ≠ 0 then chkE x.r else ofE r
def ofL (L : List Rv) : List Pu := if ofE L = 0 then setAll [] (allP L) else []
theorem ofE_at {L : List Rv} {i : Nat} (h : ofE L = ofE (L.drop i)) (hi : i < L.length) : (chkE L[i].r ≠ 0 → ofE L = chkE L[i].r) ∧ (chkE L[i].r = 0 → ofE L = ofE (L.drop (i + 1))) := by
  rw [List.drop_eq_getElem_cons hi] at h
  constructor
  · intro h0; rw [h]; exact if_pos h0
  · intro h0; rw [h]; exact if_neg (by simpa using h0)
theorem ofE_end {L : List Rv} {i : Nat} (h : ofE L = ofE (L.drop i)) (hi : L.length ≤ i) : ofE L = 0 := by
  rw [List.drop_eq_nil_of_le hi] at h; exact h
theorem ptAt_of {w : World} {ao : Option Addr} {L : List Pu} (h : PuAt w ao L) : PtAt w ao L := fun hp => by
  obtain ⟨g, o, e, hg, hc⟩ := h hp
  refine ⟨g, o, e, hg, fun i hi => ?_⟩
  have a1 : pAt L i = (L[i]).1 := by unfold pAt; rw [List.getElem?_eq_getElem hi]; rfl
  have b1 : pB L i = (L[i]).2 := by unfold pB; rw [List.getElem?_eq_getElem hi]; rfl
  rw [a1, b1]
  exact hc i hi
/-- A new row is stored: the world that comes is a new one. -/
theorem wpList_store_new {P : Program} {ops : Array Oper} {rest : List Oper} {o : Oper} {a : Act} {w : World} {Q : Exit → Act → World → Prop} (hgd : o.guard = none) (ty : TypeId) (x y : Operand) (ho : o.op = .store ty x y)
    (g : Nat) (cells : Array Value) (hx : a.eval x = .pointer (some ⟨g, 0, none⟩)) (hy : a.eval y = .agg cells)
    (t : TypeId) (old : Array Value) (hg : w.heap[g]? = some (.cells old t (0, 0))) (hi : (P.info? ty).map (·.size) = some cells.size)
    (hold : old.size = cells.size) (h1 : cells.all (·.oneCell') = true)
    (h : ∀ w2, w2.heap[g]? = some (.cells cells t (0, 0)) → Below g w w2 → w2.heap.size = w.heap.size → wpList P ops Q rest (a.put o.dst undef) w2) : wpList P ops Q (o :: rest) a w :=
  wpList_store_row hgd ty x y ho g cells hx hy t old hg hi hold h1 (h _ (setRow_heap w g old cells t (0, 0) hg) (below_setRow (Below.refl _ _) (Nat.le_refl _) _) (by simp [World.setRow]))
set_option maxRecDepth 100000 in
set_option maxHeartbeats 4000000 in
theorem rall_any (ao : Option Addr) (c : Nat) (L : List Rv) (w : World) (hat : RsAt w ao L) (hn : L.length ≤ 9223372036854775807) (hm : (allP L).length ≤ 10000) : Calls Try.prog 14 #[.slice ao L.length c] w (PuR (allP L) w) := by
  obtain ⟨i1, hi1, hy0, hy1, hy2⟩ := info_partsO info_putO
  have HAT := Lib.hid hat
  obtain ⟨n, hnn⟩ : ∃ n, Hid (L.length = n) := ⟨_, Lib.hid rfl⟩
  rw [hnn.out] at hn ⊢
  clear hat
  go_enter Try.func14, Try.ntmps14
  go_wp2_with fail
  go_loopw [3, 4] (fun s3 s4 wi => ∃ (i : Nat) (M : List Pu), s4 = .int .i64 (i : Int) ∧ i ≤ n ∧ (∃ a c, s3 = .slice a M.length c) ∧ Hid (allP (L.take i) = M) ∧ Hid (PuO w.heap.size wi s3 M) ∧ Hid (Below w.heap.size w wi)) (fun _ s4 _ => n - (intOf s4).toNat)
  case atStart => exact ⟨0, [], rfl, by omega, ⟨_, _, rfl⟩, Lib.hid rfl, Lib.hid (World.ownsRow_nil _ _ _ _), Lib.hid (Below.refl _ _)⟩
  case round =>
    obtain ⟨i, M, rfl, hi, ⟨a3, c3, rfl⟩, HE, HO, HB⟩ := hrel
    by_cases hlt : i < n
    · as_aux_lemma =>
      have hli : (i : Int) < (n : Int) := by omega
      have hil : i < L.length := by rw [hnn.out]; exact hlt
      have HOK := HAT.out.1 _ (List.getElem_mem hil)
      obtain ⟨g, o, rfl, hg, hc⟩ := HAT.out.2 (by omega)
      have c33 := (HB.out.cell (p := ⟨g, o + i * 34 + 33, none⟩) hg).trans ((hc i hil) 33 _ (rvL_33 HOK))
      have HE2 : Hid (allP (L.take (i + 1)) = M ++ L[i].r.ps) := Lib.hid (by rw [allP_snoc L i hil, HE.out])
      have hl2 := allP_le L (i + 1)
      rw [HE2.out, List.length_append] at hl2
      have HPU := Lib.hid (HOK.puts.below ((Below.refl _ _ : Below w.heap.size w w).trans HB.out))
      have hcap := HOK.cap
      have hmax := HOK.max
      unfold rvS at c33
      clear hc HOK HE
      generalize L[i] = z at *
      obtain ⟨r, za, zc⟩ := z
      obtain ⟨sq, rt, ps⟩ := r
      dsimp only at *
      have HS := Lib.hid (src_pu (c := zc) HPU.out)
      have hbs := HB.out.size
      have HQ : Hid (wr.ownsRow w.heap.size 48 2 (.slice a3 M.length c3) M.length (puC M)) := Lib.hid HO.out
      obtain ⟨m, hmm⟩ : ∃ m, Hid (ps.length = m) := ⟨_, Lib.hid rfl⟩
      rw [hmm.out] at HS c33 hl2 hcap
      go_wp2_with (at_builtin; refine wpList_append_src _ rfl _ _ 25 25 rfl w.heap.size 48 i1 (.agg #[.int .i64 0, .string ⟨#[]⟩]) Try.underlying25 hi1 hy0 (by rw [hy1]; rfl) _ M.length (puC M) rfl (by rw [hy1]; exact HQ.out) _ m (puC ps) rfl (by rw [hy1]; exact HS.out) (by unfold maxLen; omega) (by rw [hy2]; omega) hbs ?_)
      intro v' w5 hown hg5
      try rw [hy1] at hown
      have HO5 : Hid (PuO w.heap.size w5 v' (M ++ ps)) := Lib.hid (by unfold PuO; rw [List.length_append, hmm.out, puC_app]; exact hown)
      have HB5 := Lib.hid (HB.out.grown hg5 hbs (fun j e => (HQ.out.lt j e).1))
      obtain ⟨a', c', rfl, _, _, _⟩ := own_puM HO5.out
      clear hown hg5 HO HB HQ HS HPU
      go_wp2_with fail
      go_roundw
      case rel => exact ⟨i + 1, M ++ ps, by go_num, by omega, ⟨_, _, rfl⟩, HE2, HO5, HB5⟩
      case measure => simp [intOf]; omega
    · as_aux_lemma =>
      have hli : ¬ (i : Int) < (n : Int) := by omega
      have hin : i = n := by omega
      have HEA : Hid (allP L = M) := Lib.hid (by rw [← HE.out, hin, ← hnn.out, List.take_length])
      obtain ⟨a', c', e9, _, _, hpu⟩ := own_puM HO.out
      injection e9 with e1 e2 e3
      subst e1 e3
      go_wp2_with fail
      go_ret
      rw [HEA.out]
      exact ⟨_, _, rfl, hpu.out, HB.out⟩
end Go.Proofs.Ytnlgkhggokloeaa
