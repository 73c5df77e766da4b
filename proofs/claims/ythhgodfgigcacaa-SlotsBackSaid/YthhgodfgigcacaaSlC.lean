/- Package slots: a slot stored; New. -/
import Derived.Test.YthhgodfgigcacaaSlB
import Derived.Deep.MidRow
namespace Go.Proofs.Ythhgodfgigcacaa
open Go.RowKit Go.Deep
set_option linter.unusedVariables false
set_option linter.unusedSimpArgs false
theorem rowIs_sets {b n : Nat} {t : TypeId} : ∀ (vs : List Value) (o : Nat) (w : World) (f : Nat → Value), w.rowIs b t n f → (w.setCells b o vs).rowIs b t n (fun j => if o ≤ j ∧ j < o + vs.length then vs.getD (j - o) (f j) else f j)
  | [], o, w, f, h => h.congr fun j _ => by rw [if_neg (by simp)]
  | v :: vs, o, w, f, h => by
    have ih := rowIs_sets vs (o + 1) _ _ (World.rowIs.set h o v)
    refine World.rowIs.congr ih fun j hj => ?_
    by_cases e : j = o
    · subst e
      rw [if_neg (by omega), if_pos rfl, if_pos (by simp), Nat.sub_self]
      rfl
    · rw [if_neg e]
      by_cases e2 : o + 1 ≤ j ∧ j < o + 1 + vs.length
      · rw [if_pos e2, if_pos (by simp; omega), show j - o = (j - (o + 1)) + 1 by omega]
        rfl
      · rw [if_neg e2, if_neg (by simp; omega)]
theorem below_sets {B g : Nat} (hg : B ≤ g) {a : World} : ∀ (vs : List Value) (o : Nat) (w : World), Below B a w → Below B a (w.setCells g o vs)
  | [], _, _, h => h
  | v :: vs, o, w, h => below_sets hg vs (o + 1) _ (h.setCell (p := ⟨g, o, none⟩) hg v)
theorem block_sets {g k : Nat} (hk : k ≠ g) : ∀ (vs : List Value) (o : Nat) (w : World), (w.setCells g o vs).heap[k]? = w.heap[k]?
  | [], _, _ => rfl
  | v :: vs, o, w => (block_sets hk vs (o + 1) _).trans (Below.heap_setCell w ⟨g, o, none⟩ v k hk)
theorem size_sets (g : Nat) : ∀ (vs : List Value) (o : Nat) (w : World), (w.setCells g o vs).heap.size = w.heap.size
  | [], _, _ => rfl
  | v :: vs, o, w => (size_sets g vs (o + 1) _).trans (by simp)
def upd (T : Nat → Sl) (k : Nat) (s : Sl) : Nat → Sl := fun i => if i = k then s else T i
section
variable {w w' : World} {b n : Nat} {T : Nat → Sl}
theorem TAt.there (h : TAt w b n T) {k : Nat} (hk : k < 8) : w.there b (1 + k * 10) 10 := fun j hj => ⟨by rw [h.at_ hk j hj]; rfl, h.free _⟩
theorem TAt.put (h : TAt w b n T) {k : Nat} (hk : k < 8) (s : Sl) : TAt (w.setCells b (1 + k * 10) (slA s).toList) b n (upd T k s) :=
  (rowIs_sets (slA s).toList (1 + k * 10) w _ h).congr fun j hj => by
    have hl : (slA s).toList.length = 10 := rfl
    rw [hl]
    unfold taC upd
    by_cases e0 : j = 0
    · subst e0; rw [if_neg (by omega), if_pos rfl, if_pos rfl]
    · rw [if_neg e0, if_neg e0]
      by_cases e : (j - 1) / 10 = k
      · rw [if_pos (by omega), if_pos e, show j - (1 + k * 10) = (j - 1) % 10 by omega]
        have : (j - 1) % 10 < 10 := Nat.mod_lt _ (by omega)
        unfold slC
        rw [List.getD_eq_getElem?_getD, Array.getElem?_toList, Array.getElem?_eq_getElem (show (j - 1) % 10 < (slA s).size from this)]
        rfl
      · rw [if_neg (by omega), if_neg e]
theorem TAt.congr (h : TAt w b n T) {T' : Nat → Sl} (e : ∀ k, k < 8 → T k = T' k) : TAt w b n T' := World.rowIs.congr h fun j hj => by
  unfold taC
  by_cases e0 : j = 0
  · rw [if_pos e0, if_pos e0]
  · rw [if_neg e0, if_neg e0, e _ (by omega)]
theorem TAt.set1 (h : TAt w b n T) {k : Nat} (hk : k < 8) (j : Nat) (hj : j < 10) (v : Value) (s : Sl) (hs : ∀ i, i < 10 → slC s i = if i = j then v else slC (T k) i) : TAt (w.setCell ⟨b, 1 + k * 10 + j, none⟩ v) b n (upd T k s) :=
  (World.rowIs.set h (1 + k * 10 + j) v).congr fun i hi => by
    unfold taC upd
    by_cases e0 : i = 0
    · subst e0; rw [if_neg (by omega), if_pos rfl]; rfl
    · rw [if_neg e0, if_neg e0]
      by_cases e : (i - 1) / 10 = k
      · rw [if_pos e, hs _ (Nat.mod_lt _ (by omega)), e]
        by_cases e2 : i = 1 + k * 10 + j
        · rw [if_pos e2, if_pos (by omega)]
        · rw [if_neg e2, if_neg (by omega)]
      · rw [if_neg e, if_neg (by omega)]
end
def t0A (n : Int) : Array Value := #[.int .i64 n, .int .i64 0, .bool false, .bool false, .bool false, .bool false, .bool false, .bool false, .bool false, .bool false, .int .i64 0, .int .i64 0, .bool false, .bool false, .bool false, .bool false, .bool false, .bool false, .bool false, .bool false, .int .i64 0, .int .i64 0, .bool false, .bool false, .bool false, .bool false, .bool false, .bool false, .bool false, .bool false, .int .i64 0, .int .i64 0, .bool false, .bool false, .bool false, .bool false, .bool false, .bool false, .bool false, .bool false, .int .i64 0, .int .i64 0, .bool false, .bool false, .bool false, .bool false, .bool false, .bool false, .bool false, .bool false, .int .i64 0, .int .i64 0, .bool false, .bool false, .bool false, .bool false, .bool false, .bool false, .bool false, .bool false, .int .i64 0, .int .i64 0, .bool false, .bool false, .bool false, .bool false, .bool false, .bool false, .bool false, .bool false, .int .i64 0, .int .i64 0, .bool false, .bool false, .bool false, .bool false, .bool false, .bool false, .bool false, .bool false, .int .i64 0]
theorem t0_list (n : Int) : (t0A n).toList = (List.range 81).map (fun j => if j = 0 then .int .i64 n else slC zeS ((j - 1) % 10)) := by kernel_rfl
theorem zero_tab : ∀ w, (zeroValue 59).run Try.prog w = .ok (.agg #[.int .i64 0, .int .i64 0, .bool false, .bool false, .bool false, .bool false, .bool false, .bool false, .bool false, .bool false, .int .i64 0, .int .i64 0, .bool false, .bool false, .bool false, .bool false, .bool false, .bool false, .bool false, .bool false, .int .i64 0, .int .i64 0, .bool false, .bool false, .bool false, .bool false, .bool false, .bool false, .bool false, .bool false, .int .i64 0, .int .i64 0, .bool false, .bool false, .bool false, .bool false, .bool false, .bool false, .bool false, .bool false, .int .i64 0, .int .i64 0, .bool false, .bool false, .bool false, .bool false, .bool false, .bool false, .bool false, .bool false, .int .i64 0, .int .i64 0, .bool false, .bool false, .bool false, .bool false, .bool false, .bool false, .bool false, .bool false, .int .i64 0, .int .i64 0, .bool false, .bool false, .bool false, .bool false, .bool false, .bool false, .bool false, .bool false, .int .i64 0, .int .i64 0, .bool false, .bool false, .bool false, .bool false, .bool false, .bool false, .bool false, .bool false, .int .i64 0]) w := fun w => by kernel_rfl
set_option maxRecDepth 100000 in
theorem t0_at (n : Nat) (w : World) : ∃ w1 g, Hid (w.alloc (.cells (t0A n) 59) = w1) ∧ Hid (w.heap.size = g) ∧ Hid (TAt w1 g n (fun _ => zeS)) ∧ Hid (Below w.heap.size w w1) :=
  ⟨_, _, Lib.hid rfl, Lib.hid rfl, Lib.hid (by
    have hs : (t0A (n : Int)).size = 81 := rfl
    have := World.rowIs_alloc w (t0A (n : Int)) 59 (taC n (fun _ => zeS)) (fun i hi => by
      rw [hs] at hi
      rw [← Array.getElem?_toList, t0_list, List.getElem?_map, List.getElem?_range hi]
      rfl)
    rw [hs] at this
    exact this), Lib.hid ((Below.refl _ _).alloc (Nat.le_refl _) _)⟩
set_option maxRecDepth 100000 in
set_option maxHeartbeats 2000000 in
theorem newT_no (n : Int) (w : World) (h : n < 1 ∨ 8 < n) : Calls Try.prog 8 #[.int .i64 n] w fun e w' => e = .returned (.tuple #[.pointer none, .int .i64 2]) ∧ w = w' := by
  rcases (show n < 1 ∨ (¬ n < 1 ∧ 8 < n) by omega) with h1 | ⟨h1, h2⟩
  all_goals
    go_enter Try.func8, Try.ntmps8
    go_wp2_with fail
    go_ret2
    exact ⟨rfl, rfl⟩
set_option maxRecDepth 100000 in
set_option maxHeartbeats 8000000 in
theorem newT_ok (n : Nat) (w : World) (h1 : 1 ≤ n) (h8 : n ≤ 8) : Calls Try.prog 8 #[.int .i64 (n : Int)] w fun e w' => ∃ g, e = .returned (.tuple #[.pointer (some ⟨g, 0, none⟩), .int .i64 0]) ∧ TAt w' g n (fun _ => frS) ∧ w.heap.size ≤ g ∧ Below w.heap.size w w' := by
  obtain ⟨w1, g, HW, HG, HQ, HB⟩ := t0_at n w
  have hg : w.heap.size ≤ g := Nat.le_of_eq HG.out
  have hn1 : ¬ (n : Int) < 1 := by omega
  have hn2 : ¬ (8 : Int) < (n : Int) := by omega
  have HQ0 : Hid (TAt w1 g n (fun i => if i < 0 then frS else zeS)) := HQ
  clear HQ
  unfold t0A at HW
  have hz := zero_tab
  go_enter Try.func8, Try.ntmps8
  go_upto_region 4 with fail
  rw [HW.out, HG.out]
  clear HW HG hz
  go_wp2_with fail
  go_loopw [15, 5] (fun x _ wi => ∃ k : Nat, x = .int .i64 (k : Int) ∧ k ≤ 8 ∧ Hid (TAt wi g n (fun i => if i < k then frS else zeS)) ∧ Hid (Below w.heap.size w wi)) (fun x _ _ => 8 - (intOf x).toNat)
  case atStart => exact ⟨0, rfl, by omega, HQ0, HB⟩
  case round =>
    obtain ⟨k, rfl, hk, HQ1, HB1⟩ := hrel
    clear HQ0 HB
    by_cases hlt : k < 8
    · have hli : (k : Int) < 8 := by omega
      have HN : Hid (upd (fun i => if i < k then frS else zeS) k frS = fun i => if i < k + 1 then frS else zeS) := Lib.hid (by
        funext i
        unfold upd
        by_cases e : i = k
        · rw [if_pos e, if_pos (by omega)]
        · rw [if_neg e]
          show (if i < k then frS else zeS) = _
          by_cases e2 : i < k
          · rw [if_pos e2, if_pos (by omega)]
          · rw [if_neg e2, if_neg (by omega)])
      have HQ2 : Hid (TAt wr.drew g n (fun i => if i < k then frS else zeS)) := Lib.hid HQ1.out
      have HB2 := Lib.hid HB1.out.drew
      clear HQ1 HB1
      go_upto_region 7 with fail
      refine wp_region_lin (S := (fun _ => True)) [(0, true), (1, true), (3, true), (4, true), (2, false), (5, true), (6, false)] (by kernel_rfl) (by kernel_rfl) rfl (by kernel_rfl) ?_ (fun hHeld => ?_)
      · (try dsimp only); try exact trivial
      generalize World.drew wr = w2 at HQ2 HB2 ⊢
      refine wpL_calm (o := { dst := some 18, op := Go.Op.move (Go.Operand.tmp 4), type := 23, pos := "slots.go:33", after := #[], guard := none }) (v := ?_) rfl (Or.inl ⟨by rfl, ?_⟩) ?_; rotate_left; (focus (intro w hSw; (try dsimp only at hSw); go_simp; (try (with_reducible rfl)); done)); try simp only [Act.put, List.setIfInBounds_toArray, List.set_cons_zero, List.set_cons_succ]
      refine wpL_calm (o := { dst := some 19, op := Go.Op.move (Go.Operand.tmp 5), type := 3, pos := "slots.go:33", after := #[], guard := none }) (v := ?_) rfl (Or.inl ⟨by rfl, ?_⟩) ?_; rotate_left; (focus (intro w hSw; (try dsimp only at hSw); go_simp; (try (with_reducible rfl)); done)); try simp only [Act.put, List.setIfInBounds_toArray, List.set_cons_zero, List.set_cons_succ]
      refine wpL_calm (o := { dst := some 21, op := Go.Op.nilCheck (Go.Operand.tmp 18), type := 0, pos := "slots.go:33", after := #[{ on := 0, ground := Go.Ground.data }], guard := none }) (v := ?_) rfl (Or.inl ⟨by rfl, ?_⟩) ?_; rotate_left; (focus (intro w hSw; (try dsimp only at hSw); go_simp; (try (with_reducible rfl)); done)); try simp only [Act.put, List.setIfInBounds_toArray, List.set_cons_zero, List.set_cons_succ]
      refine wpL_calm (o := { dst := some 22, op := Go.Op.fieldAddr 59 (Go.Operand.tmp 21) 1, type := 0, pos := "slots.go:33", after := #[{ on := 3, ground := Go.Ground.data }], guard := none }) (v := ?_) rfl (Or.inl ⟨by rfl, ?_⟩) ?_; rotate_left; (focus (intro w hSw; (try dsimp only at hSw); go_simp; (try (with_reducible rfl)); done)); try simp only [Act.put, List.setIfInBounds_toArray, List.set_cons_zero, List.set_cons_succ]
      refine wpL_loud1 (o := { dst := some 20, op := Go.Op.call { callee := Go.Callee.value (Go.Operand.func 25), args := #[], argTypes := #[] }, type := 44, pos := "slots.go:33", after := #[], guard := none }) rfl (fun K hK => ?_)
      (go_simp; go_at_call 25; refine (free_any w2).mono ?_; rintro e w3 ⟨rfl, b3⟩; have HQ3 := Lib.hid (HQ2.out.below b3); have HB3 := Lib.hid (HB2.out.trans (b3.mono HB2.out.size)); have hth := HQ3.out.there hlt; clear b3)
      try go_wp2_with fail
      refine hK.out _ _ ?_ (fun hHeld => ?_)
      · (try dsimp only); try trivial
      clear hK K
      try simp only [Act.put, List.setIfInBounds_toArray, List.set_cons_zero, List.set_cons_succ]
      refine wpL_calm (o := { dst := some 23, op := Go.Op.indexAddr 57 (Go.Operand.tmp 22) (Go.Operand.tmp 19), type := 0, pos := "slots.go:33", after := #[{ on := 4, ground := Go.Ground.data }, { on := 1, ground := Go.Ground.data }, { on := 0, ground := Go.Ground.phase }, { on := 1, ground := Go.Ground.phase }, { on := 2, ground := Go.Ground.phase }], guard := none }) (v := ?_) rfl (Or.inl ⟨by rfl, ?_⟩) ?_; rotate_left; (focus (intro w hSw; (try dsimp only at hSw); go_simp; (try (with_reducible rfl)); done)); try simp only [Act.put, List.setIfInBounds_toArray, List.set_cons_zero, List.set_cons_succ]
      refine wpL_loud0 (o := { dst := none, op := Go.Op.store 44 (Go.Operand.tmp 23) (Go.Operand.tmp 20), type := 0, pos := "slots.go:33", after := #[{ on := 5, ground := Go.Ground.data }, { on := 2, ground := Go.Ground.data }, { on := 2, ground := Go.Ground.chain }, { on := 0, ground := Go.Ground.phase }, { on := 1, ground := Go.Ground.phase }, { on := 2, ground := Go.Ground.phase }], guard := none }) rfl (by kernel_rfl) (fun K hK => ?_)
      (rw [if_pos (by rfl)]; refine wp_store_mid 44 _ _ rfl g (1 + k * 10) #[.int .i64 (-1), .bool false, .bool false, .bool false, .bool false, .bool false, .bool false, .bool false, .bool false, .int .i64 0] rfl rfl hth (by kernel_rfl) (by simp [Value.oneCell']) ?_)
      refine hK.out _ _ ?_
      clear hK K
      try simp only [Act.put, List.setIfInBounds_toArray, List.set_cons_zero, List.set_cons_succ]
      refine wpL_nil ?_
      refine NoPanic.normal ?_
      have HQ4 : Hid (TAt (w3.setCells g (1 + k * 10) #[.int .i64 (-1), .bool false, .bool false, .bool false, .bool false, .bool false, .bool false, .bool false, .bool false, .int .i64 0].toList) g n (fun i => if i < k + 1 then frS else zeS)) := Lib.hid (by rw [← HN.out]; exact HQ3.out.put hlt frS)
      have HB4 : Hid (Below w.heap.size w (w3.setCells g (1 + k * 10) #[.int .i64 (-1), .bool false, .bool false, .bool false, .bool false, .bool false, .bool false, .bool false, .bool false, .int .i64 0].toList)) := Lib.hid (below_sets hg _ _ _ HB3.out)
      generalize w3.setCells g (1 + k * 10) #[.int .i64 (-1), .bool false, .bool false, .bool false, .bool false, .bool false, .bool false, .bool false, .bool false, .int .i64 0].toList = w4 at *
      go_wp2_with fail
      go_roundw
      case rel => exact ⟨k + 1, by go_num, by omega, HQ4, HB4⟩
      case measure => simp [intOf]; omega
    · obtain rfl : k = 8 := by omega
      rw [show ((8 : Nat) : Int) = 8 from rfl]
      have HQF : Hid (TAt wr g n (fun _ => frS)) := Lib.hid (HQ1.out.congr fun k hk => if_pos hk)
      go_wp2_with fail
      go_ret2
      exact ⟨g, rfl, HQF.out, hg, HB1.out⟩
end Go.Proofs.Ythhgodfgigcacaa
