/- The two models of flat, held against each other: plainly. -/
import Derived.Test.YtaemnelfnopjdaaFcG
import Derived.Test.YtaemnelfnopjdaaFcH
import Derived.Test.YtaemnelfnopjdaaFbE
namespace Go.Proofs.Ytaemnelfnopjdaa
open Go.ChangeShapes Go.WideShapes Go.Deep Go.RowKit Go.Maps
set_option linter.unusedVariables false
set_option linter.unusedSimpArgs false
/-- A model with only one of its chains. -/
def oneM (M : Fl) (f : List Nat) : Fl := { M with F := [f] }
theorem oneM_r1 {M : Fl} (h : FlOk M) {f : List Nat} (hf : f ∈ M.F) : R1 M.n (oneM M f) f (stx M (foldC M.C f)) :=
  ⟨set_ok h M.C (fun c hc => hc) (by simp) (fun g hg => by rw [List.mem_singleton.1 hg]; exact ⟨h.f64 f hf, h.fe f hf, h.fz f hf⟩), rfl, rfl, rfl⟩
/-- The reference's chains are the model's. -/
def RelF (M : Fl) (cs : List RC) : Prop := cs.map RC.L = M.F.map (chT M)
def lastL (L : List (List UInt8)) : List UInt8 := L.getLastD []
theorem lastL_chT (M : Fl) (f : List Nat) : lastL (chT M f) = stx M (foldC M.C f) := by
  unfold lastL chT
  rw [List.range_succ, List.map_append]
  simp
theorem rel_map {M : Fl} {cs new : List RC} {G : List (List UInt8) → List (List UInt8)} {M' : Fl} (h : RelF M cs) (hn : new.map RC.L = cs.map fun c => G c.L) (k : M'.F.map (chT M') = M.F.map fun f => G (chT M f)) : RelF M' new := by
  unfold RelF at h ⊢
  rw [hn, k, show (cs.map fun c => G c.L) = (cs.map RC.L).map G by rw [List.map_map]; rfl, h, List.map_map]; rfl
theorem RelF.len {M : Fl} {cs : List RC} (h : RelF M cs) : cs.length = M.F.length := by
  have := congrArg List.length h
  simpa using this
theorem RelF.mem {M : Fl} {cs : List RC} (h : RelF M cs) {c : RC} (hc : c ∈ cs) : ∃ f ∈ M.F, c.L = chT M f := by
  have : c.L ∈ cs.map RC.L := List.mem_map.2 ⟨c, hc, rfl⟩
  rw [h] at this
  obtain ⟨f, hf, e⟩ := List.mem_map.1 this
  exact ⟨f, hf, e.symm⟩
theorem RelF.clen {M : Fl} {cs : List RC} (h : RelF M cs) {c : RC} (hc : c ∈ cs) : c.L.length = M.C.length + 1 := by
  obtain ⟨f, _, e⟩ := h.mem hc
  rw [e, chT_len]
theorem stx_len {M : Fl} (h : FlOk M) {f : List Nat} (hf : f ∈ M.F) : (stx M (foldC M.C f)).length = 48 * M.n := (oneM_r1 h hf).len
theorem RelF.last {M : Fl} {cs : List RC} (h : RelF M cs) (hok : FlOk M) {c : RC} (hc : c ∈ cs) : ∃ f ∈ M.F, lastT c = stx M (foldC M.C f) ∧ (lastT c).length = 48 * M.n := by
  obtain ⟨f, hf, e⟩ := h.mem hc
  have e2 : lastT c = stx M (foldC M.C f) := by
    show lastL c.L = _
    rw [e, lastL_chT]
  exact ⟨f, hf, e2, by rw [e2, stx_len hok hf]⟩
theorem RelF.sum {M : Fl} {cs : List RC} (h : RelF M cs) : (cs.map (·.L.length)).sum = M.F.length * (1 + M.C.length) := by
  have e : cs.map (·.L.length) = List.replicate M.F.length (1 + M.C.length) := by
    apply List.eq_replicate_iff.2
    refine ⟨by rw [List.length_map, h.len], fun b hb => ?_⟩
    obtain ⟨c, hc, rfl⟩ := List.mem_map.1 hb
    rw [h.clen hc]; omega
  rw [e, List.sum_replicate_nat]
theorem RelF.sums {M : Fl} {cs : List RC} (h : RelF M cs) (i : Nat) : ((cs.take i).map (·.L.length)).sum ≤ M.F.length * (1 + M.C.length) := by
  rw [← h.sum]
  have : cs.map (·.L.length) = (cs.take i).map (·.L.length) ++ (cs.drop i).map (·.L.length) := by rw [← List.map_append, List.take_append_drop]
  rw [this, List.sum_append]; omega
theorem RelF.flat {M : Fl} {cs : List RC} (h : RelF M cs) : (cs.flatMap RC.L).length = M.F.length * (1 + M.C.length) := by
  rw [List.length_flatMap, h.sum]
theorem RelF.ne {M : Fl} {cs : List RC} (h : RelF M cs) (hok : FlOk M) : cs ≠ [] := fun e => hok.ne (by
  have := h.len; rw [e] at this; exact List.length_eq_zero_iff.1 this.symm)
theorem rel_wr {M : Fl} {cs new : List RC} (hok : FlOk M) (h : RelF M cs) {a k : Nat} {l : List UInt8} (hl : l.length = 48 * k) (hk : 1 ≤ k) (hak : a + k ≤ M.n) (hn : new.map RC.L = cs.map fun c => c.L ++ [putT a k l (lastT c)]) : RelF (wrM M a l k) new :=
  rel_map (G := fun L => L ++ [putT a k l (lastL L)]) h hn (by
    show M.F.map _ = _
    apply List.map_congr_left
    intro f hf
    have := chT_wr (oneM_r1 hok hf) (a := a) hl hk hak
    show chT (wrM M a l k) f = _
    rw [lastL_chT]
    exact this)
theorem chT_disc {K : Nat} {M : Fl} {f : List Nat} {now : List UInt8} (h : R1 K M f now) {a k : Nat} (hk : 1 ≤ k) (hak : a + k ≤ K) : chT { M with C := M.C ++ [(a, List.replicate k 0)] } f = chT M f ++ [now.take (48 * a) ++ (List.replicate (48 * k) 0 ++ now.drop (48 * a + 48 * k))] := by
  have hn := (h.disc hk hak).now
  unfold chT
  have hlen : (M.C ++ [(a, List.replicate k 0)]).length + 1 = (M.C.length + 1) + 1 := by rw [List.length_append]; rfl
  show (List.range ((M.C ++ [(a, List.replicate k 0)]).length + 1)).map _ = _
  rw [hlen, List.range_succ, List.map_append]
  congr 1
  · apply List.map_congr_left
    intro j hj
    have hj := List.mem_range.1 hj
    show stx M (foldC ((M.C ++ [(a, List.replicate k 0)]).take j) f) = _
    rw [List.take_append_of_le_length (by omega)]
  · simp only [List.map_cons, List.map_nil]
    rw [hn]
    show [stx M (foldC ((M.C ++ [(a, List.replicate k 0)]).take (M.C.length + 1)) f)] = [stx M (foldC (M.C ++ [(a, List.replicate k 0)]) f)]
    rw [List.take_of_length_le (by rw [List.length_append]; simp)]
theorem rel_disc {M : Fl} {cs new : List RC} (hok : FlOk M) (h : RelF M cs) {a k : Nat} (hk : 1 ≤ k) (hak : a + k ≤ M.n) (hn : new.map RC.L = cs.map fun c => c.L ++ [putT a k (List.replicate (48 * k) 0) (lastT c)]) : RelF { M with C := M.C ++ [(a, List.replicate k 0)] } new :=
  rel_map (G := fun L => L ++ [putT a k (List.replicate (48 * k) 0) (lastL L)]) h hn (by
    show M.F.map _ = _
    apply List.map_congr_left
    intro f hf
    have := chT_disc (oneM_r1 hok hf) (a := a) hk hak
    show chT { M with C := M.C ++ [(a, List.replicate k 0)] } f = _
    rw [lastL_chT]
    exact this)
theorem rel_safe {M : Fl} {cs new : List RC} (h : RelF M cs) (hn : new.map RC.L = cs.map fun c => [lastT c]) : RelF { M with F := M.F.map (foldC M.C), C := [] } new :=
  rel_map (G := fun L => [lastL L]) h hn (by
    show (M.F.map (foldC M.C)).map _ = _
    rw [List.map_map]
    apply List.map_congr_left
    intro f hf
    rw [lastL_chT]
    rfl)
theorem ded_map (g : List Nat → List UInt8) : ∀ (xs L : List (List Nat)), (∀ x ∈ L ++ xs, ∀ y ∈ L ++ xs, g x = g y → x = y) → (xs.map g).foldl addT (L.map g) = (xs.foldl addL L).map g
  | [], L, _ => rfl
  | x :: xs, L, hi => by
    rw [List.map_cons, List.foldl_cons, List.foldl_cons]
    have e : addT (L.map g) (g x) = (addL L x).map g := by
      unfold addT addL
      by_cases hx : x ∈ L
      · rw [if_pos hx, if_pos (List.mem_map.2 ⟨x, hx, rfl⟩)]
      · rw [if_neg hx, if_neg (fun hm => by
          obtain ⟨y, hy, e⟩ := List.mem_map.1 hm
          exact hx (hi y (by simp [hy]) x (by simp) e ▸ hy)), List.map_append]; rfl
    rw [e]
    refine ded_map g xs _ (fun a ha b hb => hi a ?_ b ?_)
    · rcases List.mem_append.1 ha with h | h
      · rcases addL_mem.1 h with h | h
        · simp [h]
        · simp [h]
      · simp [h]
    · rcases List.mem_append.1 hb with h | h
      · rcases addL_mem.1 h with h | h
        · simp [h]
        · simp [h]
      · simp [h]
theorem rel_crash {M : Fl} {cs new : List RC} (hok : FlOk M) (h : RelF M cs) (hn : new.map RC.L = (dedT (cs.flatMap RC.L)).map fun x => [x]) : RelF { M with F := crashL M, C := [] } new := by
  have hst : ∀ y ∈ M.F.flatMap (chainF M.C), y.length = 64 ∧ valid M.T y ∧ y.drop M.n = List.replicate (64 - M.n) 0 := fun y hy => by
    obtain ⟨f, hf, hy⟩ := List.mem_flatMap.1 hy
    obtain ⟨k, _, rfl⟩ := List.mem_map.1 hy
    exact fold_st hok hf k
  have e1 : cs.flatMap RC.L = (M.F.flatMap (chainF M.C)).map (stx M) := by
    rw [List.flatMap_def, show cs.map RC.L = M.F.map (chT M) from h, ← List.flatMap_def, List.map_flatMap]
    congr 1
    funext f
    unfold chT chainF chN
    rw [List.map_map]; rfl
  have e2 : dedT (cs.flatMap RC.L) = (crashL M).map (stx M) := by
    rw [e1]
    exact ded_map (stx M) _ [] (fun x hx y hy e => st_ext hok (hst x (by simpa using hx)) (hst y (by simpa using hy)) e)
  show new.map RC.L = (crashL M).map (chT _)
  rw [hn, e2, List.map_map]
  rfl
theorem seg_iff {c : RC} {qa k : Nat} {s : ByteArray} (hs : s.size = k) : segB qa (qa + s.size) c = s ↔ ((lastT c).drop qa).take k = s.data.toList := by
  have e : segB qa (qa + s.size) c = ⟨(((lastT c).drop qa).take k).toArray⟩ := by
    unfold segB
    apply ba_eqF
    rw [ByteArray.data_extract, Array.toList_extract, List.extract_eq_take_drop]
    show ((lastT c).drop qa).take (qa + s.size - qa) = _
    rw [Nat.add_sub_cancel_left, hs]
  rw [e]
  constructor
  · intro h
    rw [← h]
  · intro h
    rw [h]
/-- What is seen keeps the same chains. -/
theorem rel_saw {M : Fl} {cs : List RC} (hok : FlOk M) (h : RelF M cs) {a : Int} {s : ByteArray} (hr : refF M.n a (wholeN s.size : Int) = 0) : decide (seenC (48 * a.toNat) (48 * a.toNat + s.size) s cs ≠ []) = sawB M a s ∧ RelF (sawM M a s) (if seenC (48 * a.toNat) (48 * a.toNat + s.size) s cs = [] then cs else seenC (48 * a.toNat) (48 * a.toNat + s.size) s cs) := by
  obtain ⟨p1, p2, p3⟩ := refF_ok hr
  have hsz := whole_ok (n := s.size) p1
  obtain ⟨k, hk⟩ : ∃ k, wholeN s.size = k := ⟨_, rfl⟩
  obtain ⟨A, rfl⟩ : ∃ A : Nat, a = (A : Int) := ⟨a.toNat, by omega⟩
  rw [hk] at hsz p1 p3
  have hA : ((A : Int)).toNat = A := by omega
  have hls : s.data.toList.length = 48 * k := by rw [Array.length_toList]; exact hsz
  have e1 : (seenC (48 * A) (48 * A + s.size) s cs).map RC.L = (M.F.filter fun f => decide (((stx M (foldC M.C f)).drop (48 * A)).take (48 * k) = s.data.toList)).map (chT M) := by
    unfold seenC
    have : (fun c => decide (segB (48 * A) (48 * A + s.size) c = s)) = (fun L => decide (((lastL L).drop (48 * A)).take (48 * k) = s.data.toList)) ∘ RC.L := by
      funext c
      have := seg_iff (c := c) (qa := 48 * A) hsz
      simp only [Function.comp_apply, decide_eq_decide]
      exact this
    rw [this, ← List.filter_map, show cs.map RC.L = M.F.map (chT M) from h, List.filter_map]
    congr 1
    apply List.filter_congr
    intro f hf
    simp only [Function.comp_apply]
    rw [lastL_chT]
  have hm : ∀ f ∈ M.F, (decide (((stx M (foldC M.C f)).drop (48 * A)).take (48 * k) = s.data.toList) = (decide (allIn M.T (pcs s.data.toList k)) && likeB (foldC M.C f) A (numL M.T (pcs s.data.toList k)))) := fun f hf => by
    have := like_tx hok hf (a := A) (k := k) hls (by omega)
    rw [Bool.eq_iff_iff, Bool.and_eq_true, decide_eq_true_iff, decide_eq_true_iff]
    exact this.symm
  have e2 : (M.F.filter fun f => decide (((stx M (foldC M.C f)).drop (48 * A)).take (48 * k) = s.data.toList)) = if allIn M.T (pcs s.data.toList k) then sawL M A (numL M.T (pcs s.data.toList k)) else [] := by
    rw [List.filter_congr hm]
    by_cases hal : allIn M.T (pcs s.data.toList k)
    · rw [if_pos hal]
      unfold sawL
      simp [hal]
    · rw [if_neg hal]
      simp [hal]
  rw [e2] at e1
  have e3 : sawB M (A : Int) s = (decide (allIn M.T (pcs s.data.toList k)) && !(sawL M A (numL M.T (pcs s.data.toList k))).isEmpty) := by
    unfold sawB
    rw [hr, hA, hk]; simp
  have hE : seenC (48 * A) (48 * A + s.size) s cs = [] ↔ (if allIn M.T (pcs s.data.toList k) then sawL M A (numL M.T (pcs s.data.toList k)) else []) = [] := by
    rw [← List.map_eq_nil_iff (f := RC.L), e1, List.map_eq_nil_iff]
  rw [hA]
  unfold sawM
  rw [hA, hk, e3]
  by_cases hal : allIn M.T (pcs s.data.toList k)
  · rw [if_pos hal] at e1 hE
    by_cases hnil : sawL M A (numL M.T (pcs s.data.toList k)) = []
    · rw [if_pos (hE.2 hnil), hE.2 hnil]
      simp [hnil]
      exact h
    · rw [if_neg (fun hh => hnil (hE.1 hh))]
      have hne : seenC (48 * A) (48 * A + s.size) s cs ≠ [] := fun hh => hnil (hE.1 hh)
      simp [hal, hnil, hne]
      exact e1
  · rw [if_neg hal] at e1 hE
    rw [if_pos (hE.2 rfl), hE.2 rfl]
    simp [hal]
    exact h
theorem tx_inj {M : Fl} (hok : FlOk M) {u v : List Nat} (hu : valid M.T u) (hv : valid M.T v) (hl : u.length = v.length) (h : tx M.T u = tx M.T v) : u = v := by
  rw [← (num_tx hok.t48 hok.nd hu).1, ← (num_tx hok.t48 hok.nd hv).1, h, hl]
/-- What both read. -/
theorem rel_read {M : Fl} {cs : List RC} (hok : FlOk M) (h : RelF M cs) {A k : Nat} (hr : refF M.n (A : Int) (k : Int) = 0) :
    (∃ b : ByteArray, rreadV (48 * A) (48 * A + 48 * k) cs = .tuple #[.string b, .bool true] ∧ readR M (A : Int) (k : Int) = .tuple #[.string b, .int .i64 0]) ∨ (rreadV (48 * A) (48 * A + 48 * k) cs = .tuple #[.string ⟨#[]⟩, .bool false] ∧ readR M (A : Int) (k : Int) = .tuple #[.string ⟨#[]⟩, .int .i64 15]) := by
  obtain ⟨p1, _, p3⟩ := refF_ok hr
  have hn64 := hok.n64
  have sg : ∀ f ∈ M.F, ((stx M (foldC M.C f)).drop (48 * A)).take (48 * k) = tx M.T (((foldC M.C f).drop A).take k) ∧ valid M.T (((foldC M.C f).drop A).take k) ∧ (((foldC M.C f).drop A).take k).length = k := fun f hf => by
    have hv := foldC_valid hok hf
    have h64 := foldC_64 hok hf
    refine ⟨?_, valid_take (valid_drop hv A) k, by rw [List.length_take, List.length_drop]; omega⟩
    unfold stx
    rw [tx_drop hok.t48 (valid_take hv _), tx_take hok.t48 (valid_drop (valid_take hv _) _)]
    congr 1
    rw [List.drop_take, List.take_take, Nat.min_eq_left (by omega)]
  have sgb : ∀ c : RC, segB (48 * A) (48 * A + 48 * k) c = ⟨(((lastT c).drop (48 * A)).take (48 * k)).toArray⟩ := fun c => by
    unfold segB
    apply ba_eqF
    rw [ByteArray.data_extract, Array.toList_extract, List.extract_eq_take_drop]
    show ((lastT c).drop (48 * A)).take (48 * A + 48 * k - 48 * A) = _
    rw [Nat.add_sub_cancel_left]
  cases hF : M.F with
  | nil => exact absurd hF hok.ne
  | cons f0 r =>
    have hf0 : f0 ∈ M.F := by rw [hF]; simp
    cases hcs : cs with
    | nil => exact absurd hcs (h.ne hok)
    | cons c0 cr =>
      have hc0L : c0.L = chT M f0 := by
        have := h
        unfold RelF at this
        rw [hcs, hF] at this
        simp at this
        exact this.1
      have hl0 : lastT c0 = stx M (foldC M.C f0) := by
        show lastL c0.L = _
        rw [hc0L, lastL_chT]
      have hbl : readBl M A k = ((foldC M.C f0).drop A).take k := by unfold readBl; rw [hF]; rfl
      have hbll := (sg f0 hf0).2.2
      have hiff : (∀ i (hi : i < cs.length), segB (48 * A) (48 * A + 48 * k) cs[i] = segB (48 * A) (48 * A + 48 * k) (cs.headD ⟨0, 0, []⟩)) ↔ readOk M A k = true := by
        unfold readOk
        rw [List.all_eq_true, hbl]
        constructor
        · intro hh f hf
          have : chT M f ∈ cs.map RC.L := by rw [h]; exact List.mem_map.2 ⟨f, hf, rfl⟩
          obtain ⟨c, hc, e⟩ := List.mem_map.1 this
          obtain ⟨i, hi, rfl⟩ := List.getElem_of_mem hc
          have h2 := hh i hi
          have hli : lastT cs[i] = stx M (foldC M.C f) := by
            show lastL (cs[i]).L = _
            rw [e, lastL_chT]
          have h0 : cs.headD ⟨0, 0, []⟩ = c0 := by rw [hcs]; rfl
          rw [h0, sgb, sgb, hli, hl0, (sg f hf).1, (sg f0 hf0).1] at h2
          have h3 := tx_inj hok (sg f hf).2.1 (sg f0 hf0).2.1 (by rw [(sg f hf).2.2, hbll]) (by
            have := congrArg (fun b : ByteArray => b.data.toList) h2
            simpa using this)
          unfold likeB
          rw [hbll, h3, beq_iff_eq]
        · intro hh i hi
          obtain ⟨f, hf, e⟩ := h.mem (List.getElem_mem hi)
          have h1 := hh f hf
          unfold likeB at h1
          rw [hbll, beq_iff_eq] at h1
          have hli : lastT cs[i] = stx M (foldC M.C f) := by
            show lastL (cs[i]).L = _
            rw [e, lastL_chT]
          have h0 : cs.headD ⟨0, 0, []⟩ = c0 := by rw [hcs]; rfl
          rw [h0, sgb, sgb, hli, hl0, (sg f hf).1, (sg f0 hf0).1, h1]
      have hA : ((A : Int)).toNat = A := by omega
      have hk : ((k : Int)).toNat = k := by omega
      unfold readR
      rw [hr, if_neg (by simp), hA, hk]
      by_cases hb : readOk M A k = true
      · refine Or.inl ⟨segB (48 * A) (48 * A + 48 * k) c0, ?_, ?_⟩
        · unfold rreadV
          rw [← hcs, if_pos (hiff.2 hb), hcs]; rfl
        · rw [if_pos hb, sgb, hl0, (sg f0 hf0).1]
          unfold readT
          rw [hbl]; rfl
      · refine Or.inr ⟨?_, ?_⟩
        · unfold rreadV
          rw [← hcs, if_neg (fun hh => hb (hiff.1 hh))]
        · rw [if_neg hb]
end Go.Proofs.Ytaemnelfnopjdaa
