/- Contracts (cellaret): sha.New, Hasher.Add. -/
import Derived.Test.YtndhegdhkoileaaDoorShJ
import Derived.Deep.AppendSrc
namespace Go.Proofs.YtndhegdhkoileaaDoor
open Go.RowKit Go.Deep
set_option linter.unusedVariables false
set_option linter.unusedSimpArgs false
section
variable {P : Program} (w : World)
theorem own_cells_app {w : World} {g n m size cap : Nat} {e : TypeId} {cur : Array Value} {xs news : List Value} (hg : w.heap[g]? = some (.cells cur e (0, 0))) (hx : xs.length = n * size) (hl : news.length = m * size) (hcs : cur.size = cap * size) (hroom : n + m ≤ cap) (htake : cur.toList.take (n * size) = xs) :
    ∃ c', (w.setCells g (n * size) news).heap[g]? = some (.cells c' e (0, 0)) ∧ c'.size = cap * size ∧ c'.toList.take ((n + m) * size) = xs ++ news := by
  obtain ⟨c', h1, h2, h3⟩ := setCells_cells g e news (n * size) w cur hg
  have hfit : n * size + m * size ≤ cap * size := by rw [← Nat.add_mul]; exact Nat.mul_le_mul_right _ hroom
  have hth : w.there g (n * size) news.length := fun j hj => by
    rw [cell_of_row w g (n * size + j) _ _ _ hg, frozen_of_row w g _ _ _ hg, Array.getElem?_eq_getElem (by omega)]
    exact ⟨rfl, rfl⟩
  have hr := World.rangeAt_setCells_same w g (n * size) news hth
  refine ⟨c', h1, h2.trans hcs, ?_⟩
  apply List.ext_getElem?
  intro j
  rw [Nat.add_mul, List.getElem?_take, Array.getElem?_toList]
  by_cases hj : j < n * size + m * size
  · rw [if_pos hj]
    by_cases hj2 : j < n * size
    · rw [h3 j (Or.inl hj2), List.getElem?_append_left (by omega), ← htake, List.getElem?_take, if_pos hj2, Array.getElem?_toList]
    · rw [List.getElem?_append_right (by omega), hx]
      have hlt : j - n * size < news.length := by omega
      have h5 := hr (j - n * size) news[j - n * size] (List.getElem?_eq_getElem hlt)
      rw [show n * size + (j - n * size) = j from by omega, cell_of_row _ g j _ _ _ h1] at h5
      rw [h5, List.getElem?_eq_getElem hlt]
  · rw [if_neg hj, List.getElem?_eq_none (by rw [List.length_append]; omega)]
theorem run_append_own_src (base : Nat) (t tx ty e : TypeId) (i : TypeInfo) (z : Value) (size bytes : Nat) (ht : P.underlying t = some (.slice e)) (hi : P.info? e = some i) (hz : i.zero = some z)
    (hsize : i.size = size) (hby : i.bytes = bytes) (hzs : z.cells.size = size) (hsz : 0 < size)
    (v : Value) (n : Nat) (xs : List Value) (hown : w.ownsRow base e size v n xs)
    (x : Value) (m : Nat) (news : List Value) (hs : Src P size tx x m news w)
    (h63 : n + m ≤ maxLen) (hbytes : (n + m) * bytes ≤ 140737488355328) (hbase : base ≤ w.heap.size) :
    ∃ v' w', (Builtin.append_ #[t, tx] ty #[v, x]).run P w = .ok v' w' ∧ w'.ownsRow base e size v' (n + m) (xs ++ news) ∧ w.grownBy w' v.ownBlock ∧ (v'.ownBlock = v.ownBlock ∨ v'.ownBlock = some w.heap.size) ∧ w'.os = w.os := by
  subst hsize
  subst hby
  have hl := hs.newsLen
  have hsmall : ((n + m : Nat) : Int) ≤ 9223372036854775807 := by simp only [maxLen] at h63; omega
  have hlen : (xs ++ news).length = (n + m) * i.size := by rw [List.length_append, hown.1, hl, Nat.add_mul]
  have grown : ∀ (old : Nat), old < n + m → ∀ (row : Option Nat),
      (w.drew.alloc (.cells ((xs ++ news).toArray ++ Builtin.zeroCells z.cells (grownCap w (n + m) old e - (n + m))) e)).ownsRow base e i.size
        (.slice (some ⟨w.heap.size, 0, none⟩) (n + m) (grownCap w (n + m) old e)) (n + m) (xs ++ news) ∧
      w.grownBy (w.drew.alloc (.cells ((xs ++ news).toArray ++ Builtin.zeroCells z.cells (grownCap w (n + m) old e - (n + m))) e)) row := by
    intro old ho row
    have hge := grownCap_ge w (n + m) old e
    have hcm : grownCap w (n + m) old e ≤ maxLen := grownCap_le_maxLen w (n + m) old e h63
    refine ⟨⟨hlen, .inr ⟨w.heap.size, _, _, rfl, hbase, heap_alloc_new w.drew _, hge, hcm, ?_, ?_⟩⟩, ⟨rfl, rfl, rfl, by simp, fun k hk _ => Below.heap_alloc w.drew _ k hk⟩⟩
    · rw [Array.size_append, size_zeroCells, hzs, List.size_toArray, hlen, ← Nat.add_mul]
      congr 1
      omega
    · rw [Array.toList_append, ← hlen]
      exact List.take_left
  rcases hown.2 with ⟨rfl, rfl⟩ | ⟨g, cap, cur, rfl, hbg, hg, hnc, hcm, hcs, htake⟩
  · have hx : xs = [] := List.eq_nil_of_length_eq_zero (by simpa using hown.1)
    subst hx
    by_cases hm : m = 0
    · subst hm
      have hn : news = [] := List.eq_nil_of_length_eq_zero (by simpa using hl)
      subst hn
      refine ⟨.slice none 0 0, w, ?_, World.ownsRow_nil w base e i.size, ⟨rfl, rfl, rfl, Nat.le_refl _, fun _ _ _ => rfl⟩, Or.inl rfl, rfl⟩
      have hl0 : ∀ w' : World, (Builtin.lenOf (.slice none 0 0)).run P w' = .ok 0 w' := fun _ => rfl
      rcases hs.kind with ⟨e', hk⟩ | hk <;> simp [Builtin.append_, run_underlying ht, run_underlying hk, sizeOf, typeInfo, hi, hs.len, hs.cells]
    · have hr := run_append_grow_src (P := P) w t tx ty e i z ht hi hz none 0 0 [] (run_firstCells_none w.drew i.size 0 0 0) x m news hs (by omega) hsmall (growslice_fits (by omega) hbytes)
      have hgr := grown 0 (by omega) (Value.ownBlock (.slice none 0 0))
      exact ⟨_, _, hr, hgr.1, hgr.2, Or.inr rfl, rfl⟩
  · by_cases hroom : n + m ≤ cap
    · have hfit : n * i.size + news.length ≤ cur.size := by rw [hl, hcs, ← Nat.add_mul]; exact Nat.mul_le_mul_right _ hroom
      have hr := run_append_room_src (P := P) w t tx ty e i ht hi g 0 n cap x m news hs hroom (fun j hj => by
        rw [Nat.zero_add, cell_of_row w g _ _ _ _ hg, Array.getElem?_eq_getElem (by omega)]; rfl) (fun j hj => frozen_of_row w g _ _ _ hg)
      rw [Nat.zero_add] at hr
      obtain ⟨c', q1, q2, q3⟩ := own_cells_app hg hown.1 hl hcs hroom htake
      refine ⟨_, _, hr, ⟨hlen, .inr ⟨g, cap, c', rfl, hbg, q1, hroom, hcm, q2, q3⟩⟩, ⟨World.os_setCells' w g _ _, World.tape_setCells' w g _ _, World.output_setCells' w g _ _, Nat.le_of_eq (setCells_size g _ _ w).symm, fun k _ hk => setCells_block g _ _ w k (fun e => hk (by simp [Value.ownBlock, e]))⟩, Or.inl rfl, World.os_setCells' w g _ _⟩
    · have holds : ∀ j u, xs[j]? = some u → w.cell? ((⟨g, 0, none⟩ : Addr).add j) = some u := hown.cells (g := g) rfl
      have hr := run_append_grow_src (P := P) w t tx ty e i z ht hi hz (some ⟨g, 0, none⟩) n cap xs (run_firstCells_some w.drew i.size n ⟨g, 0, none⟩ n cap xs hown.1 (by simpa using holds)) x m news hs (by omega) hsmall (growslice_fits (by omega) hbytes)
      have hgr := grown cap (by omega) (Value.ownBlock (.slice (some ⟨g, 0, none⟩) n cap))
      exact ⟨_, _, hr, hgr.1, hgr.2, Or.inr rfl, rfl⟩
where
  World.os_setCells' (w : World) (g : Nat) : ∀ (o : Nat) (vs : List Value), (w.setCells g o vs).os = w.os := fun o vs => os_ind g vs o w
  World.tape_setCells' (w : World) (g : Nat) : ∀ (o : Nat) (vs : List Value), (w.setCells g o vs).tape = w.tape := fun o vs => tape_ind g vs o w
  World.output_setCells' (w : World) (g : Nat) : ∀ (o : Nat) (vs : List Value), (w.setCells g o vs).output = w.output := fun o vs => out_ind g vs o w
  os_ind (g : Nat) : ∀ (vs : List Value) (o : Nat) (w : World), (w.setCells g o vs).os = w.os
    | [], _, _ => rfl
    | v :: r, o, w => (os_ind g r (o + 1) _).trans rfl
  tape_ind (g : Nat) : ∀ (vs : List Value) (o : Nat) (w : World), (w.setCells g o vs).tape = w.tape
    | [], _, _ => rfl
    | v :: r, o, w => (tape_ind g r (o + 1) _).trans rfl
  out_ind (g : Nat) : ∀ (vs : List Value) (o : Nat) (w : World), (w.setCells g o vs).output = w.output
    | [], _, _ => rfl
    | v :: r, o, w => (out_ind g r (o + 1) _).trans rfl
theorem wp_append_src {o : Oper} {a : Act} {K : Act → World → Prop} {Q : Exit → Act → World → Prop} (s x : Operand) (t tx : TypeId)
    (ho : o.op = .call { callee := .builtin .append, args := #[s, x], argTypes := #[t, tx] })
    (base : Nat) (e : TypeId) (i : TypeInfo) (z : Value) (size bytes : Nat) (ht : P.underlying t = some (.slice e)) (hi : P.info? e = some i) (hz : i.zero = some z)
    (hsize : i.size = size) (hby : i.bytes = bytes) (hzs : z.cells.size = size) (hsz : 0 < size)
    (v : Value) (n : Nat) (xs : List Value) (hs : a.eval s = v) (hown : w.ownsRow base e size v n xs)
    (y : Value) (m : Nat) (news : List Value) (hx : a.eval x = y) (hsrc : Src P size tx y m news w)
    (h63 : n + m ≤ maxLen) (hbytes : (n + m) * bytes ≤ 140737488355328) (hbase : base ≤ w.heap.size)
    (h : ∀ v' w', w'.ownsRow base e size v' (n + m) (xs ++ news) → w.grownBy w' v.ownBlock → K (a.put o.dst v') w') : o.wp P a w K Q := by
  obtain ⟨v', w', hr, h2, h3, _⟩ := run_append_own_src (P := P) w base t tx o.type e i z size bytes ht hi hz hsize hby hzs hsz v n xs hown y m news hsrc h63 hbytes hbase
  unfold Oper.wp execOp
  simp only [ho, resolve, invoke, builtin, Sem.run_bind, Sem.run_pure, Result.andThen_ok, List.map_toArray, List.map_cons, List.map_nil, hs, hx, hr]
  exact h v' w' h2 h3
theorem wpList_append_src {ops : Array Oper} {rest : List Oper} {o : Oper} {a : Act} {Q : Exit → Act → World → Prop} (hgd : o.guard = none) (s x : Operand) (t tx : TypeId)
    (ho : o.op = .call { callee := .builtin .append, args := #[s, x], argTypes := #[t, tx] })
    (base : Nat) (e : TypeId) (i : TypeInfo) (z : Value) (size bytes : Nat) (ht : P.underlying t = some (.slice e)) (hi : P.info? e = some i) (hz : i.zero = some z)
    (hsize : i.size = size) (hby : i.bytes = bytes) (hzs : z.cells.size = size) (hsz : 0 < size)
    (v : Value) (n : Nat) (xs : List Value) (hs : a.eval s = v) (hown : w.ownsRow base e size v n xs)
    (y : Value) (m : Nat) (news : List Value) (hx : a.eval x = y) (hsrc : Src P size tx y m news w)
    (h63 : n + m ≤ maxLen) (hbytes : (n + m) * bytes ≤ 140737488355328) (hbase : base ≤ w.heap.size)
    (h : ∀ v' w', w'.ownsRow base e size v' (n + m) (xs ++ news) → w.grownBy w' v.ownBlock → wpList P ops Q rest (a.put o.dst v') w') : wpList P ops Q (o :: rest) a w :=
  wpList_plain hgd fun _ hK => wp_append_src w s x t tx ho base e i z size bytes ht hi hz hsize hby hzs hsz v n xs hs hown y m news hx hsrc h63 hbytes hbase fun v' w' h2 h3 => hK _ _ (h v' w' h2 h3)
end

/-! ### What a hasher holds -/
theorem work_add : ∀ (p q : Nat) (v : V8) (l : List UInt8), work v l (p + q) = work (work v l p) (l.drop (64 * p)) q
  | 0, q, v, l => by rw [Nat.zero_add]; rfl
  | p + 1, q, v, l => by
    rw [show p + 1 + q = (p + q) + 1 from by omega]
    show work (blk v (l.take 64)) (l.drop 64) (p + q) = work (work (blk v (l.take 64)) (l.drop 64) p) _ q
    rw [work_add p q, List.drop_drop, show 64 + 64 * p = 64 * (p + 1) from by omega]
theorem work_pre : ∀ (q : Nat) (v : V8) (a b : List UInt8), 64 * q ≤ a.length → work v (a ++ b) q = work v a q
  | 0, _, _, _, _ => rfl
  | q + 1, v, a, b, h => by
    show work (blk v ((a ++ b).take 64)) ((a ++ b).drop 64) q = work (blk v (a.take 64)) (a.drop 64) q
    rw [List.take_append_of_le_length (by omega), List.drop_append_of_le_length (by omega), work_pre q _ _ _ (by rw [List.length_drop]; omega)]
/-- What was not worked on yet. -/
def rst (t : List UInt8) : List UInt8 := t.drop (64 * (t.length / 64))
/-- The words after the whole blocks. -/
def wv0 (t : List UInt8) : V8 := work v0 t (t.length / 64)
theorem rst_len (t : List UInt8) : (rst t).length = t.length % 64 := by unfold rst; rw [List.length_drop]; omega
theorem app_drop (t s : List UInt8) : (t ++ s).drop (64 * (t.length / 64)) = rst t ++ s := by
  unfold rst
  rw [List.drop_append_of_le_length (by omega)]
theorem app_blocks (t s : List UInt8) : (t ++ s).length / 64 = t.length / 64 + (rst t ++ s).length / 64 := by
  rw [List.length_append, List.length_append, rst_len]
  omega
theorem rst_app (t s : List UInt8) : rst (t ++ s) = (rst t ++ s).drop (64 * ((rst t ++ s).length / 64)) := by
  rw [← app_drop, List.drop_drop, ← Nat.mul_add, app_drop, ← app_blocks]
  rfl
theorem wv0_app (t s : List UInt8) : wv0 (t ++ s) = work (wv0 t) (rst t ++ s) ((rst t ++ s).length / 64) := by
  unfold wv0
  rw [app_blocks, work_add, app_drop, work_pre (t.length / 64) v0 t s (by omega)]
theorem sumV_wv0 (t : List UInt8) : sumV t = wv0 (padL t) := rfl
theorem wv0_pad (t : List UInt8) : work (wv0 t) (rst t ++ tailL t.length) ((rst t ++ tailL t.length).length / 64) = sumV t := (wv0_app t _).symm
theorem wv0_nil : wv0 [] = v0 := rfl
theorem rst_nil : rst [] = [] := rfl
theorem rst_small (t : List UInt8) (h : t.length < 64) : rst t = t := by unfold rst; rw [show t.length / 64 = 0 from by omega]; rfl
def hcells (v : V8) (r : Value) (n : Nat) : Array Value := (vL v ++ [r, .int .i64 (n : Int)]).toArray
/-- A hasher that text t was added to. -/
def HashAt (base : Nat) (w : World) (g : Nat) (t : List UInt8) : Prop := base ≤ g ∧ ∃ r, w.heap[g]? = some (.cells (hcells (wv0 t) r t.length) 60 (0, 0)) ∧ w.ownsRow base 5 1 r (rst t).length (bv (rst t))
theorem words_h {w : World} {g n : Nat} {v : V8} {r : Value} (h : w.heap[g]? = some (.cells (hcells v r n) 60 (0, 0))) : WordsAt w g 0 v :=
  ⟨fun j u hu => by
      rw [Nat.zero_add, cell_of_row w g j _ _ _ h]
      have hj : j < 8 := (List.getElem?_eq_some_iff.1 hu).1
      unfold hcells
      rw [List.getElem?_toArray, List.getElem?_append_left (by rw [vL_len]; exact hj)]
      exact hu, fun j hj => by
    rw [Nat.zero_add, cell_of_row w g j _ _ _ h, frozen_of_row w g _ _ _ h, Array.getElem?_eq_getElem (show j < 10 by omega)]; exact ⟨rfl, rfl⟩, (Array.getElem?_eq_some_iff.1 h).1⟩
theorem own_ne_g {w : World} {base g n m : Nat} {v : V8} {r r' : Value} {xs : List Value} (h : w.heap[g]? = some (.cells (hcells v r' n) 60 (0, 0))) (ho : w.ownsRow base 5 1 r m xs) : r.ownBlock ≠ some g := by
  intro e
  rcases ho.2 with ⟨rfl, _⟩ | ⟨g', cap, cur, rfl, _, hg, _⟩
  · cases e
  · simp [Value.ownBlock] at e
    subst e
    rw [h] at hg
    simp only [Option.some.injEq, Obj.cells.injEq] at hg
    exact absurd hg.2.1 (by decide)
theorem own_set {w : World} {base g n m j : Nat} {v : V8} {r r' u : Value} {xs : List Value} (h : w.heap[g]? = some (.cells (hcells v r' n) 60 (0, 0))) (ho : w.ownsRow base 5 1 r m xs) : (w.setCell ⟨g, j, none⟩ u).ownsRow base 5 1 r m xs :=
  ho.kept (row := some g) ⟨rfl, rfl, rfl, by simp [World.setCell], fun k _ hk => Below.heap_setCell w _ u k (fun e => hk (by rw [e]))⟩ (Or.inr (own_ne_g h ho))
theorem h_after {w w' : World} {g n : Nat} {v v' : V8} {r : Value} (h : w.heap[g]? = some (.cells (hcells v r n) 60 (0, 0))) (hk : K8 w w' g 0) (hw : WordsAt w' g 0 v') : w'.heap[g]? = some (.cells (hcells v' r n) 60 (0, 0)) := by
  obtain ⟨c, h1, h2, h3⟩ := hk _ _ h
  have : c = hcells v' r n := by
    apply Array.ext_getElem?
    intro j
    by_cases hj : j < 8
    · have hv : (vL v')[j]? = some ((vL v')[j]'hj) := List.getElem?_eq_getElem hj
      have := hw.r j _ hv
      rw [Nat.zero_add, cell_of_row w' g j _ _ _ h1] at this
      rw [this]
      unfold hcells
      rw [List.getElem?_toArray, List.getElem?_append_left (by rw [vL_len]; exact hj), hv]
    · rw [h3 j (Or.inr (by omega))]
      unfold hcells
      rw [List.getElem?_toArray, List.getElem?_toArray, List.getElem?_append_right (by rw [vL_len]; omega), List.getElem?_append_right (by rw [vL_len]; omega), vL_len, vL_len]
  rw [← this]; exact h1
end Go.Proofs.YtndhegdhkoileaaDoor
