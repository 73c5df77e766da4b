/- Package flat, plainly: texts of states; what calls keep. -/
import Derived.Test.YtaemnelfnopjdaaFaS
namespace Go.Proofs.Ytaemnelfnopjdaa
set_option linter.unusedVariables false
set_option linter.unusedSimpArgs false
/-- The text of numbered blocks. -/
def tx (T : List (List UInt8)) (u : List Nat) : List UInt8 := u.flatMap fun x => T.getD x []
def valid (T : List (List UInt8)) (u : List Nat) : Prop := ∀ x ∈ u, x < T.length
def all48 (T : List (List UInt8)) : Prop := ∀ t ∈ T, t.length = 48
theorem tx_app (T : List (List UInt8)) (u v : List Nat) : tx T (u ++ v) = tx T u ++ tx T v := by unfold tx; rw [List.flatMap_append]
theorem getD_len {T : List (List UInt8)} (h : all48 T) {x : Nat} (hx : x < T.length) : (T.getD x []).length = 48 := by
  rw [List.getD_eq_getElem?_getD, List.getElem?_eq_getElem hx]
  exact h _ (List.getElem_mem hx)
theorem tx_len {T : List (List UInt8)} (h : all48 T) : ∀ {u : List Nat}, valid T u → (tx T u).length = 48 * u.length
  | [], _ => rfl
  | x :: u, hv => by
    have ih := tx_len h (u := u) (fun y hy => hv y (by simp [hy]))
    have h1 := getD_len h (hv x (by simp))
    unfold tx at ih ⊢
    rw [List.flatMap_cons, List.length_append, ih, h1, List.length_cons]
    omega
theorem tx_take {T : List (List UInt8)} (h : all48 T) : ∀ {u : List Nat}, valid T u → ∀ a, (tx T u).take (48 * a) = tx T (u.take a)
  | [], _, a => by simp [tx]
  | x :: u, hv, 0 => by simp [tx]
  | x :: u, hv, a + 1 => by
    have ih := tx_take h (u := u) (fun y hy => hv y (by simp [hy])) a
    have h1 := getD_len h (hv x (by simp))
    unfold tx at ih ⊢
    rw [List.take_succ_cons, List.flatMap_cons, List.flatMap_cons, List.take_append, h1, List.take_of_length_le (by omega), show 48 * (a + 1) - 48 = 48 * a by omega, ih]
theorem tx_drop {T : List (List UInt8)} (h : all48 T) : ∀ {u : List Nat}, valid T u → ∀ a, (tx T u).drop (48 * a) = tx T (u.drop a)
  | [], _, a => by simp [tx]
  | x :: u, hv, 0 => by simp
  | x :: u, hv, a + 1 => by
    have ih := tx_drop h (u := u) (fun y hy => hv y (by simp [hy])) a
    have h1 := getD_len h (hv x (by simp))
    unfold tx at ih ⊢
    rw [List.drop_succ_cons, List.flatMap_cons, List.drop_append, h1, List.drop_eq_nil_of_le (by omega), List.nil_append, show 48 * (a + 1) - 48 = 48 * a by omega, ih]
theorem tx_ext {T X : List (List UInt8)} {u : List Nat} (hv : valid T u) : tx (T ++ X) u = tx T u := by
  unfold tx
  have : ∀ u : List Nat, valid T u → (u.flatMap fun x => (T ++ X).getD x []) = u.flatMap fun x => T.getD x [] := fun u => by
    induction u with
    | nil => intro _; rfl
    | cons x u ih =>
      intro hv
      rw [List.flatMap_cons, List.flatMap_cons, ih (fun y hy => hv y (by simp [hy]))]
      congr 1
      rw [List.getD_eq_getElem?_getD, List.getD_eq_getElem?_getD, List.getElem?_append_left (hv x (by simp))]
  exact this u hv
/-- What some blocks come to. -/
structure WrOk (T : List (List UInt8)) (ps : List (List UInt8)) (T' : List (List UInt8)) (bs : List Nat) : Prop where
  ext : ∃ X, T' = T ++ X
  nd : T'.Nodup
  a48 : all48 T'
  len : bs.length = ps.length
  val : valid T' bs
  txt : tx T' bs = ps.flatten
theorem wr_ok {T : List (List UInt8)} (hn : T.Nodup) (h48 : all48 T) (l : List UInt8) : ∀ i, (∀ j, j < i → (pcF l j).length = 48) → WrOk T (pcs l i) (wrL T (pcs l i)).1 (wrL T (pcs l i)).2
  | 0, _ => ⟨⟨[], by simp [wrL, pcs]⟩, hn, h48, rfl, fun x hx => (by cases hx), rfl⟩
  | i + 1, hp => by
    have ih := wr_ok hn h48 l i (fun j hj => hp j (by omega))
    rw [wrL_succ, pcs_succ]
    unfold wrS
    obtain ⟨X, hX⟩ := ih.ext
    have hpc := hp i (by omega)
    generalize pcF l i = p at *
    generalize (wrL T (pcs l i)).1 = T1 at *
    generalize (wrL T (pcs l i)).2 = bs at *
    have hmem : p ∈ keepT T1 p := by unfold keepT; split <;> simp_all
    have hk : ∃ Y, keepT T1 p = T1 ++ Y := by
      unfold keepT
      split
      · exact ⟨[], by simp⟩
      · exact ⟨[p], rfl⟩
    obtain ⟨Y, hY⟩ := hk
    have hix : (keepT T1 p).idxOf p < (keepT T1 p).length := List.idxOf_lt_length_iff.2 hmem
    have hget : (keepT T1 p).getD ((keepT T1 p).idxOf p) [] = p := by
      rw [List.getD_eq_getElem?_getD, List.getElem?_eq_getElem hix]
      exact List.getElem_idxOf hix
    refine ⟨⟨X ++ Y, by show keepT T1 p = _; rw [hY, hX, List.append_assoc]⟩, ?_, ?_, ?_, ?_, ?_⟩
    · show (keepT T1 p).Nodup
      unfold keepT
      split
      · exact ih.nd
      · rename_i hno
        exact List.nodup_append.2 ⟨ih.nd, by simp, fun a ha b hb => by rw [List.mem_singleton.1 hb]; exact fun e => hno (e ▸ ha)⟩
    · show all48 (keepT T1 p)
      unfold keepT
      split
      · exact ih.a48
      · intro t ht
        rcases List.mem_append.1 ht with h | h
        · exact ih.a48 t h
        · rw [List.mem_singleton.1 h]; exact hpc
    · show (bs ++ [_]).length = _
      rw [List.length_append, List.length_append, ih.len]; rfl
    · intro x hx
      show x < (keepT T1 p).length
      rcases List.mem_append.1 hx with h | h
      · rw [hY, List.length_append]; have := ih.val x h; omega
      · rw [List.mem_singleton.1 h]; exact hix
    · show tx (keepT T1 p) (bs ++ [_]) = _
      rw [tx_app, List.flatten_append]
      have e1 : tx (keepT T1 p) bs = (pcs l i).flatten := by rw [hY, tx_ext ih.val]; exact ih.txt
      have e2 : tx (keepT T1 p) [(keepT T1 p).idxOf p] = p := by unfold tx; simp only [List.flatMap_cons, List.flatMap_nil, List.append_nil]; exact hget
      rw [e1, e2]
      simp
theorem pcs_flat (l : List UInt8) : ∀ k, 48 * k ≤ l.length → (pcs l k).flatten = l.take (48 * k)
  | 0, _ => by simp [pcs]
  | k + 1, h => by
    rw [pcs_succ, List.flatten_append, pcs_flat l k (by omega)]
    unfold pcF
    rw [show 48 * (k + 1) = 48 * k + 48 by omega, List.take_add]
    simp
theorem pcF_len {l : List UInt8} {k i : Nat} (h : l.length = 48 * k) (hi : i < k) : (pcF l i).length = 48 := by
  unfold pcF
  rw [List.length_take, List.length_drop]
  omega
theorem wr_all {T : List (List UInt8)} (hn : T.Nodup) (h48 : all48 T) {l : List UInt8} {k : Nat} (h : l.length = 48 * k) : WrOk T (pcs l k) (wrL T (pcs l k)).1 (wrL T (pcs l k)).2 ∧ tx (wrL T (pcs l k)).1 (wrL T (pcs l k)).2 = l := by
  have w := wr_ok hn h48 l k (fun j hj => pcF_len h hj)
  exact ⟨w, by rw [w.txt, pcs_flat l k (by omega), List.take_of_length_le (by omega)]⟩
theorem drop_spl {s b : List Nat} {a n : Nat} (h : a + b.length ≤ n) (hs : n ≤ s.length) : (spl s a b).drop n = s.drop n := by
  unfold spl
  rw [List.drop_append, List.drop_append, List.length_take, List.drop_eq_nil_of_le (by rw [List.length_take]; omega), List.nil_append, List.drop_eq_nil_of_le (by omega), List.nil_append, List.drop_drop]
  congr 1
  omega
theorem take_spl {s b : List Nat} {a n : Nat} (h : a + b.length ≤ n) (hs : n ≤ s.length) : (spl s a b).take n = spl (s.take n) a b := by
  unfold spl
  exact take_splice s b a n h hs
theorem foldC_drop {n : Nat} (hn : n ≤ 64) : ∀ {C : List (Nat × List Nat)} {s : List Nat}, ChOk n C → s.length = 64 → (foldC C s).drop n = s.drop n
  | [], _, _, _ => rfl
  | c :: C, s, hc, h => by
    have h1 := hc c (by simp)
    have ih := foldC_drop hn (C := C) (s := spl s c.1 c.2) (fun d hd => hc d (by simp [hd])) (by rw [spl_len (by omega)]; exact h)
    show (foldC C (spl s c.1 c.2)).drop n = _
    rw [ih, drop_spl h1.2 (by omega)]
/-- The text of a model's state. -/
def stx (M : Fl) (s : List Nat) : List UInt8 := tx M.T (s.take M.n)
theorem foldC_valid {M : Fl} (h : FlOk M) {f : List Nat} (hf : f ∈ M.F) : valid M.T (foldC M.C f) := foldC_mem (h.fe f hf) h.ce
theorem foldC_64 {M : Fl} (h : FlOk M) {f : List Nat} (hf : f ∈ M.F) : (foldC M.C f).length = 64 := foldC_len h.n64 h.ch (h.f64 f hf)
theorem valid_take {T : List (List UInt8)} {u : List Nat} (h : valid T u) (a : Nat) : valid T (u.take a) := fun x hx => h x (List.mem_of_mem_take hx)
theorem valid_drop {T : List (List UInt8)} {u : List Nat} (h : valid T u) (a : Nat) : valid T (u.drop a) := fun x hx => h x (List.mem_of_mem_drop hx)
theorem valid_ext {T X : List (List UInt8)} {u : List Nat} (h : valid T u) : valid (T ++ X) u := fun x hx => by
  rw [List.length_append]; have := h x hx; omega
/-- Blocks laid over, as texts. -/
theorem tx_spl {T : List (List UInt8)} (h : all48 T) {s b : List Nat} {a n : Nat} (hs : valid T s) (hb : valid T b) (hab : a + b.length ≤ n) (hn : n ≤ s.length) :
    tx T ((spl s a b).take n) = (tx T (s.take n)).take (48 * a) ++ (tx T b ++ (tx T (s.take n)).drop (48 * a + 48 * b.length)) := by
  rw [take_spl hab hn]
  unfold spl
  have hv := valid_take hs n
  rw [tx_app, tx_app, tx_take h hv, show 48 * a + 48 * b.length = 48 * (a + b.length) by omega, tx_drop h hv]
theorem wrM_ok {M : Fl} (h : FlOk M) {a k : Nat} {l : List UInt8} (hl : l.length = 48 * k) (hk : 1 ≤ k) (hak : a + k ≤ M.n) : FlOk (wrM M a l k) := by
  obtain ⟨w, _⟩ := wr_all h.nd h.t48 hl
  obtain ⟨X, hX⟩ := w.ext
  have hlen : (wrL M.T (pcs l k)).2.length = k := by rw [w.len, pcs_len]
  exact
    { n1 := h.n1
      n64 := h.n64
      t48 := w.a48
      tz := by
        show (wrL M.T (pcs l k)).1.head? = _
        rw [hX]
        have := h.tz
        cases hq : M.T with
        | nil => rw [hq] at this; cases this
        | cons x r => rw [hq] at this; simpa using this
      nd := w.nd
      f64 := h.f64
      fe := fun f hf x hx => by
        show x < (wrL M.T (pcs l k)).1.length
        rw [hX, List.length_append]; have := h.fe f hf x hx; omega
      fz := h.fz
      ne := h.ne
      ch := fun c hc => by
        rcases List.mem_append.1 hc with hc | hc
        · exact h.ch c hc
        · rw [List.mem_singleton.1 hc]; exact ⟨by rw [hlen]; omega, by rw [hlen]; exact hak⟩
      ce := fun c hc x hx => by
        show x < (wrL M.T (pcs l k)).1.length
        rcases List.mem_append.1 hc with hc | hc
        · rw [hX, List.length_append]; have := h.ce c hc x hx; omega
        · rw [List.mem_singleton.1 hc] at hx; exact w.val x hx }
theorem disc_ok {M : Fl} (h : FlOk M) {a k : Nat} (hk : 1 ≤ k) (hak : a + k ≤ M.n) : FlOk { M with C := M.C ++ [(a, List.replicate k 0)] } :=
  { h with
    ch := fun c hc => by
      rcases List.mem_append.1 hc with hc | hc
      · exact h.ch c hc
      · rw [List.mem_singleton.1 hc]; exact ⟨by rw [List.length_replicate]; omega, by rw [List.length_replicate]; exact hak⟩
    ce := fun c hc x hx => by
      have h0 : 0 < M.T.length := by
        have := h.tz
        cases hq : M.T with
        | nil => rw [hq] at this; cases this
        | cons y r => simp
      rcases List.mem_append.1 hc with hc | hc
      · exact h.ce c hc x hx
      · rw [List.mem_singleton.1 hc] at hx
        have := List.eq_of_mem_replicate hx
        subst this; exact h0 }
theorem set_ok {M : Fl} (h : FlOk M) {F : List (List Nat)} (C : List (Nat × List Nat)) (hC : ∀ c ∈ C, c ∈ M.C) (hne : F ≠ []) (hF : ∀ f ∈ F, f.length = 64 ∧ valid M.T f ∧ f.drop M.n = List.replicate (64 - M.n) 0) : FlOk { M with F := F, C := C } :=
  { n1 := h.n1, n64 := h.n64, t48 := h.t48, tz := h.tz, nd := h.nd, f64 := fun f hf => (hF f hf).1, fe := fun f hf => (hF f hf).2.1, fz := fun f hf => (hF f hf).2.2, ne := hne, ch := fun c hc => h.ch c (hC c hc), ce := fun c hc => h.ce c (hC c hc) }
theorem fold_st {M : Fl} (h : FlOk M) {f : List Nat} (hf : f ∈ M.F) (k : Nat) : (foldC (M.C.take k) f).length = 64 ∧ valid M.T (foldC (M.C.take k) f) ∧ (foldC (M.C.take k) f).drop M.n = List.replicate (64 - M.n) 0 :=
  ⟨foldC_len h.n64 (fun c hc => h.ch c (List.mem_of_mem_take hc)) (h.f64 f hf), foldC_mem (h.fe f hf) (fun c hc => h.ce c (List.mem_of_mem_take hc)), by rw [foldC_drop h.n64 (fun c hc => h.ch c (List.mem_of_mem_take hc)) (h.f64 f hf)]; exact h.fz f hf⟩
theorem safe_ok {M : Fl} (h : FlOk M) : FlOk { M with F := M.F.map (foldC M.C), C := [] } :=
  set_ok h [] (fun c hc => by cases hc) (fun e => h.ne (List.map_eq_nil_iff.1 e)) (fun f hf => by
    obtain ⟨x, hx, rfl⟩ := List.mem_map.1 hf
    have := fold_st h hx M.C.length
    rw [List.take_length] at this
    exact this)
theorem sawM_ok {M : Fl} (h : FlOk M) (a : Int) (s : ByteArray) : FlOk (sawM M a s) := by
  unfold sawM
  by_cases hb : sawB M a s = true
  · rw [if_pos hb]
    unfold sawB at hb
    simp only [Bool.and_eq_true] at hb
    refine set_ok h M.C (fun c hc => hc) (fun e => by rw [e] at hb; simp at hb) (fun f hf => ?_)
    have hf := (List.mem_filter.1 hf).1
    exact ⟨h.f64 f hf, h.fe f hf, h.fz f hf⟩
  · rw [if_neg hb]; exact h
theorem addL_mem {L : List (List Nat)} {s x : List Nat} : x ∈ addL L s ↔ x ∈ L ∨ x = s := by
  unfold addL
  split
  · rename_i h
    constructor
    · exact Or.inl
    · rintro (h2 | rfl)
      · exact h2
      · exact h
  · simp
theorem foldl_addL_mem : ∀ (xs L : List (List Nat)) (x : List Nat), x ∈ xs.foldl addL L ↔ x ∈ L ∨ x ∈ xs
  | [], L, x => by simp
  | y :: xs, L, x => by
    rw [List.foldl_cons, foldl_addL_mem xs, addL_mem, List.mem_cons]
    constructor
    · rintro ((h | h) | h)
      · exact Or.inl h
      · exact Or.inr (Or.inl h)
      · exact Or.inr (Or.inr h)
    · rintro (h | h | h)
      · exact Or.inl (Or.inl h)
      · exact Or.inl (Or.inr h)
      · exact Or.inr h
theorem crashL_mem {M : Fl} {x : List Nat} : x ∈ crashL M ↔ ∃ f ∈ M.F, ∃ k, k ≤ M.C.length ∧ x = foldC (M.C.take k) f := by
  unfold crashL crL
  rw [foldl_addL_mem]
  simp only [List.not_mem_nil, false_or, List.mem_flatMap]
  constructor
  · rintro ⟨f, hf, hx⟩
    obtain ⟨k, hk, rfl⟩ := List.mem_map.1 hx
    exact ⟨f, hf, k, by have := List.mem_range.1 hk; omega, rfl⟩
  · rintro ⟨f, hf, k, hk, rfl⟩
    exact ⟨f, hf, List.mem_map.2 ⟨k, List.mem_range.2 (by omega), rfl⟩⟩
theorem crash_ok {M : Fl} (h : FlOk M) : FlOk { M with F := crashL M, C := [] } :=
  set_ok h [] (fun c hc => by cases hc) (fun e => by
    cases hq : M.F with
    | nil => exact h.ne hq
    | cons f r =>
      have : f ∈ crashL M := crashL_mem.2 ⟨f, by rw [hq]; simp, 0, by omega, rfl⟩
      rw [e] at this; cases this) (fun f hf => by
    obtain ⟨g, hg, k, _, rfl⟩ := crashL_mem.1 hf
    exact fold_st h hg k)
end Go.Proofs.Ytaemnelfnopjdaa
