/- The oracle: Collide of one that keeps texts. -/
import Derived.Test.YtaneecmfgfkaaaaDoorOrL
import Derived.Test.YtaneecmfgfkaaaaDoorOrF
import Derived.Test.YtaneecmfgfkaaaaDoorLin
namespace Go.Proofs.YtaneecmfgfkaaaaDoor
open Go.RowKit Go.Deep Go.Maps
set_option linter.unusedVariables false
set_option linter.unusedSimpArgs false
theorem pairF_hit (L : List ByteArray) (X : List (List UInt8)) : ∀ n, n ≤ X.length → ∀ i k, pairF L X n = some (i, k) → k < n ∧ i < k ∧ htB L X i k = true
  | 0, _, i, k, h => by cases h
  | n + 1, hn, i, k, h => by
    have h' : (pairF L X n).or (if hitB L X n then some ((X.take n).idxOf (X[n]?.getD []), n) else none) = some (i, k) := h
    cases hp : pairF L X n with
    | some r =>
      rw [hp, Option.some_or] at h'
      obtain ⟨h1, h2, h3⟩ := pairF_hit L X n (by omega) i k (by rw [hp]; exact h')
      exact ⟨by omega, h2, h3⟩
    | none =>
      rw [hp, Option.none_or] at h'
      cases hb : hitB L X n with
      | false => rw [hb] at h'; simp at h'
      | true =>
        rw [hb] at h'
        have e := Option.some.inj h'
        obtain ⟨q1, q2⟩ := hit_of L X n (by omega) hb
        obtain ⟨rfl, rfl⟩ := Prod.mk.inj e
        exact ⟨by omega, q1, q2⟩
theorem pairF_full (L : List ByteArray) (X : List (List UInt8)) : ∀ n, n ≤ X.length → pairF L X n = none → ∀ k, k < n → ∀ i, i < k → htB L X i k = false
  | 0, _, _, k, hk => by omega
  | n + 1, hn, h, k, hk => by
    have h' : (pairF L X n).or (if hitB L X n then some ((X.take n).idxOf (X[n]?.getD []), n) else none) = none := h
    have hp : pairF L X n = none := by
      cases hp : pairF L X n with
      | none => rfl
      | some r => rw [hp, Option.some_or] at h'; cases h'
    have ih := pairF_full L X n (by omega) hp
    rcases Nat.lt_or_ge k n with hlt | hge
    · exact ih k hlt
    · obtain rfl : k = n := by omega
      have hall : ∀ m, ∀ i, i < m → i < k → htB L X i k = false := by
        intro m
        induction m with
        | zero => intro i hi; omega
        | succ m ihm =>
          intro i hi hik
          rcases Nat.lt_or_ge i m with h1 | h1
          · exact ihm i h1 hik
          · obtain rfl : i = m := by omega
            cases hb : htB L X i k with
            | false => rfl
            | true =>
              have := pairF_some L X i k (by omega) hik ih (fun i' hi' => ihm i' hi' (by omega)) hb
              rw [h] at this
              cases this
      exact fun i hi => hall k i hi hi
/-- What Collide tells of kept texts. -/
def colL (l : List (List UInt8)) : List ByteArray := l.map fun x => ⟨x.toArray⟩
def colX (l : List (List UInt8)) : List (List UInt8) := l.map sumL
def colF (l : List (List UInt8)) : Option (Nat × Nat) := pairF (colL l) (colX l) l.length
def colV (l : List (List UInt8)) : Option (Nat × Nat) → Value
  | some (i, k) => .tuple #[.string ⟨(l[i]?.getD []).toArray⟩, .string ⟨(l[k]?.getD []).toArray⟩, .bool true]
  | none => .tuple #[.string ⟨#[]⟩, .string ⟨#[]⟩, .bool false]
theorem colL_len (l : List (List UInt8)) : (colL l).length = l.length := by unfold colL; simp
theorem colX_len (l : List (List UInt8)) : (colX l).length = l.length := by unfold colX; simp
theorem colL_at (l : List (List UInt8)) (i : Nat) (h : i < l.length) : (colL l)[i]?.getD ⟨#[]⟩ = ⟨(l[i]).toArray⟩ := by
  unfold colL; rw [List.getElem?_map, List.getElem?_eq_getElem h]; rfl
theorem colX_at (l : List (List UInt8)) (i : Nat) (h : i < l.length) : (colX l)[i]?.getD [] = sumL l[i] := by
  unfold colX; rw [List.getElem?_map, List.getElem?_eq_getElem h]; rfl
theorem htB_col (l : List (List UInt8)) (i k : Nat) (hi : i < l.length) (hk : k < l.length) : htB (colL l) (colX l) i k = true ↔ l[i] ≠ l[k] ∧ sumL l[i] = sumL l[k] := by
  unfold htB
  rw [colL_at l i hi, colL_at l k hk, colX_at l i hi, colX_at l k hk, Lib.toList_data, Lib.toList_data]
  simp
/-- What is told was kept, is unlike, and has one sum. -/
theorem colF_told (l : List (List UInt8)) (i k : Nat) (h : colF l = some (i, k)) : ∃ (hi : i < l.length) (hk : k < l.length), l[i] ≠ l[k] ∧ sumL l[i] = sumL l[k] := by
  obtain ⟨h1, h2, h3⟩ := pairF_hit (colL l) (colX l) l.length (by rw [colX_len]; exact Nat.le_refl _) i k h
  have hi : i < l.length := by omega
  have hk : k < l.length := by omega
  exact ⟨hi, hk, (htB_col l i k hi hk).1 h3⟩
/-- If two unlike texts have one sum, something is told. -/
theorem colF_some (l : List (List UInt8)) (x y : List UInt8) (hx : x ∈ l) (hy : y ∈ l) (hne : x ≠ y) (hs : sumL x = sumL y) : ∃ r, colF l = some r := by
  cases h : colF l with
  | some r => exact ⟨r, rfl⟩
  | none =>
    exfalso
    have hf := pairF_full (colL l) (colX l) l.length (by rw [colX_len]; exact Nat.le_refl _) h
    obtain ⟨i, hi, rfl⟩ := List.getElem_of_mem hx
    obtain ⟨k, hk, rfl⟩ := List.getElem_of_mem hy
    rcases Nat.lt_trichotomy i k with q | q | q
    · have h1 := hf k hk i q
      rw [(htB_col l i k hi hk).2 ⟨hne, hs⟩] at h1
      cases h1
    · subst q; exact hne rfl
    · have h1 := hf i hi k q
      rw [(htB_col l k i hk hi).2 ⟨hne.symm, hs.symm⟩] at h1
      cases h1
theorem OrP.txt {base : Nat} {w : World} {g : Nat} {l : List (List UInt8)} {tv sv : Value} {b : Nat} {D : DataW Unit} (h : OrP base w g l tv sv b D) : ∃ ta tc, tv = .slice ta l.length tc ∧ TxtAt w ta (colL l) := by
  obtain ⟨ta, tc, rfl, _, _⟩ := own_sl h.ht
  refine ⟨ta, tc, rfl, fun h0 => ?_⟩
  rw [colL_len] at h0
  obtain ⟨gt, ct, e, hct, hbt, hgt, hrt⟩ := own_rowG h.ht h0
  cases e
  refine ⟨gt, 0, rfl, hgt, fun i hi => ?_⟩
  have hi' : i < l.length := by rw [colL_len] at hi; exact hi
  have e2 : (colL l)[i] = ⟨(l[i]).toArray⟩ := by simp [colL]
  rw [e2]
  exact hrt i _ (by rw [List.getElem?_map, List.getElem?_eq_getElem hi']; rfl)
theorem OrP.dig {base : Nat} {w : World} {g : Nat} {l : List (List UInt8)} {tv sv : Value} {b : Nat} {D : DataW Unit} (h : OrP base w g l tv sv b D) : ∃ sa sc, sv = .slice sa l.length sc ∧ DigAt w sa (colX l) := by
  obtain ⟨sa, sc, rfl, _, _⟩ := own_sl h.hs
  refine ⟨sa, sc, rfl, fun h0 => ?_⟩
  rw [colX_len] at h0
  obtain ⟨gs, cs, e, hcs, hbs, hgs, hrs⟩ := own_rowG h.hs h0
  cases e
  refine ⟨gs, 0, rfl, hgs, fun i hi j u hu => ?_⟩
  have hi' : i < l.length := by rw [colX_len] at hi; exact hi
  have e1 : (colX l)[i] = sumL l[i] := by simp [colX]
  rw [e1] at hu
  have hj : j < 32 := by have := (List.getElem?_eq_some_iff.1 hu).1; rwa [dig_len] at this
  have h2 := hrs (i * 32 + j) u (by rw [flat_at (fun x : List UInt8 => bv (sumL x)) 32 l i j hi' (fun s _ => dig_len s) hj]; exact hu)
  rw [Nat.zero_add] at h2 ⊢
  exact h2
theorem digA_injO (x y : List UInt8) (hx : x.length = 32) (hy : y.length = 32) (e : digA x = digA y) : x = y := by
  unfold digA bv at e
  have e2 : x.map (fun b => Value.int .u8 (b.toNat : Int)) = y.map (fun b => Value.int .u8 (b.toNat : Int)) := by injection e
  apply List.ext_getElem (by omega)
  intro i h1 h2
  have := congrArg (fun l => l[i]?) e2
  simp only [List.getElem?_map, List.getElem?_eq_getElem h1, List.getElem?_eq_getElem h2, Option.map_some] at this
  have h3 : ((x[i].toNat : Nat) : Int) = ((y[i].toNat : Nat) : Int) := by injection (Option.some.inj this)
  exact UInt8.toNat_inj.1 (by omega)
theorem colPair (base g : Nat) (l : List (List UInt8)) (tv sv : Value) (b : Nat) (D : DataW Unit) (w : World) (hP : OrP base w g l tv sv b D) (hl : l.length ≤ 1000000) :
    ∃ ta tc sa sc, tv = .slice ta l.length tc ∧ sv = .slice sa l.length sc ∧ Calls Tryd.prog 35 #[.slice ta l.length tc, .slice sa l.length sc] w fun e w' => e = .returned (pairV (colF l)) ∧ Below w.heap.size w w' := by
  obtain ⟨ta, tc, rfl, hT⟩ := hP.txt
  obtain ⟨sa, sc, rfl, hX⟩ := hP.dig
  have h32 : ∀ x ∈ colX l, x.length = 32 := fun x hx => by
    unfold colX at hx
    obtain ⟨y, _, rfl⟩ := List.mem_map.1 hx
    exact sumL_len y
  have hkx : ∀ x : List UInt8, ∃ q, x.length = 32 → keyOf Tryd.prog 34 (.agg (digA x)) = some q := fun x => by
    by_cases h : x.length = 32
    · obtain ⟨q, hq⟩ := key_dig x h
      exact ⟨q, fun _ => hq⟩
    · exact ⟨.bool true, fun h' => absurd h' h⟩
  obtain ⟨kD, hkD⟩ := Classical.axiomOfChoice hkx
  have := pair_any (colL l) (colX l) kD ta sa tc sc w hT hX h32 (fun x hx => hkD x (h32 x hx)) (fun x hx y hy e => digA_injO x y (h32 x hx) (h32 y hy) e) (by rw [colL_len]; exact hl) (by rw [colX_len]; omega)
  rw [colL_len, colX_len, Nat.min_self] at this
  exact ⟨ta, tc, sa, sc, rfl, rfl, this⟩
/-- A draw changes no contract that holds of every such world. -/
theorem OrP.drew {base : Nat} {w : World} {g : Nat} {l : List (List UInt8)} {tv sv : Value} {b : Nat} {D : DataW Unit} (h : OrP base w g l tv sv b D) : OrP base w.drew g l tv sv b D := h.below ((Below.refl _ _).drew)
attribute [local irreducible] colF
set_option maxRecDepth 100000 in
set_option maxHeartbeats 2000000 in
theorem orCollide_any (base g : Nat) (l : List (List UInt8)) (tv sv : Value) (b : Nat) (D : DataW Unit) (w : World) (hP : OrP base w g l tv sv b D) (hl : l.length ≤ 1000000) : Calls Tryd.prog 18 #[.pointer (some ⟨g, 0, none⟩)] w fun e w' => e = .returned (colV l (colF l)) ∧ Below w.heap.size w w' := by
  have c0 := cell_of_row w g 0 _ _ _ hP.hg
  have c1 := cell_of_row w g 1 _ _ _ hP.hg
  obtain ⟨ta, tc, sa, sc, rfl, rfl, hC⟩ := colPair base g l tv sv b D w.drew hP.drew hl
  have HC := Lib.hid hC
  have HT := Lib.hid hP.txt
  have HTOLD := Lib.hid (colF_told l)
  have hgl := (Array.getElem?_eq_some_iff.1 hP.hg).1
  clear hP hC
  cases hr : colF l with
  | none =>
    rw [hr] at HC
    clear hr HT HTOLD
    dsimp only [pairV] at HC
    show Calls _ _ _ _ fun e w' => e = .returned (.tuple #[.string ⟨#[]⟩, .string ⟨#[]⟩, .bool false]) ∧ _
    generalize l.length = n at *
    go_enter Tryd.func18, Tryd.ntmps18
    go_upto_region 3 with fail
    refine wp_region_lin (S := (fun w' => w'.cell? ⟨g, 0, none⟩ = some (.slice ta n tc) ∧ w'.cell? ⟨g, 1, none⟩ = some (.slice sa n sc))) [(0, true), (1, true), (2, true), (3, true), (4, true), (5, true), (6, true), (7, true), (8, false), (9, true), (10, true), (11, true), (12, true), (13, true), (14, true), (15, true)] (by kernel_rfl) (by kernel_rfl) rfl (by kernel_rfl) ?_ (fun hHeld => ?_)
    · (try dsimp only); exact ⟨c0, c1⟩
    (refine wpL_calm (o := { dst := some 11, op := Go.Op.move (Go.Operand.tmp 0), type := 23, pos := "oracle.go:100", after := #[], guard := none }) (v := ?_) rfl (Or.inl ⟨by rfl, ?_⟩) ?_; rotate_left; (focus (intro w hSw; (try dsimp only at hSw); go_simp; (try (with_reducible rfl)); done)); try simp only [Act.put, List.setIfInBounds_toArray, List.set_cons_zero, List.set_cons_succ])
    (refine wpL_calm (o := { dst := some 12, op := Go.Op.nilCheck (Go.Operand.tmp 11), type := 0, pos := "oracle.go:100", after := #[{ on := 0, ground := Go.Ground.data }], guard := none }) (v := ?_) rfl (Or.inl ⟨by rfl, ?_⟩) ?_; rotate_left; (focus (intro w hSw; (try dsimp only at hSw); go_simp; (try (with_reducible rfl)); done)); try simp only [Act.put, List.setIfInBounds_toArray, List.set_cons_zero, List.set_cons_succ])
    (refine wpL_calm (o := { dst := some 13, op := Go.Op.fieldAddr 70 (Go.Operand.tmp 12) 0, type := 0, pos := "oracle.go:100", after := #[{ on := 1, ground := Go.Ground.data }], guard := none }) (v := ?_) rfl (Or.inl ⟨by rfl, ?_⟩) ?_; rotate_left; (focus (intro w hSw; (try dsimp only at hSw); go_simp; (try (with_reducible rfl)); done)); try simp only [Act.put, List.setIfInBounds_toArray, List.set_cons_zero, List.set_cons_succ])
    (refine wpL_calm (o := { dst := some 14, op := Go.Op.load 25 (Go.Operand.tmp 13), type := 25, pos := "oracle.go:100", after := #[{ on := 2, ground := Go.Ground.data }], guard := none }) (v := ?_) rfl (Or.inl ⟨by rfl, ?_⟩) ?_; rotate_left; (focus (intro w hSw; (try dsimp only at hSw); go_simp; (try (with_reducible rfl)); done)); try simp only [Act.put, List.setIfInBounds_toArray, List.set_cons_zero, List.set_cons_succ])
    (refine wpL_calm (o := { dst := some 15, op := Go.Op.move (Go.Operand.tmp 0), type := 23, pos := "oracle.go:100", after := #[], guard := none }) (v := ?_) rfl (Or.inl ⟨by rfl, ?_⟩) ?_; rotate_left; (focus (intro w hSw; (try dsimp only at hSw); go_simp; (try (with_reducible rfl)); done)); try simp only [Act.put, List.setIfInBounds_toArray, List.set_cons_zero, List.set_cons_succ])
    (refine wpL_calm (o := { dst := some 16, op := Go.Op.nilCheck (Go.Operand.tmp 15), type := 0, pos := "oracle.go:100", after := #[{ on := 4, ground := Go.Ground.data }], guard := none }) (v := ?_) rfl (Or.inl ⟨by rfl, ?_⟩) ?_; rotate_left; (focus (intro w hSw; (try dsimp only at hSw); go_simp; (try (with_reducible rfl)); done)); try simp only [Act.put, List.setIfInBounds_toArray, List.set_cons_zero, List.set_cons_succ])
    (refine wpL_calm (o := { dst := some 17, op := Go.Op.fieldAddr 70 (Go.Operand.tmp 16) 1, type := 0, pos := "oracle.go:100", after := #[{ on := 5, ground := Go.Ground.data }], guard := none }) (v := ?_) rfl (Or.inl ⟨by rfl, ?_⟩) ?_; rotate_left; (focus (intro w hSw; (try dsimp only at hSw); go_simp; (try (with_reducible rfl)); done)); try simp only [Act.put, List.setIfInBounds_toArray, List.set_cons_zero, List.set_cons_succ])
    (refine wpL_calm (o := { dst := some 18, op := Go.Op.load 54 (Go.Operand.tmp 17), type := 54, pos := "oracle.go:100", after := #[{ on := 6, ground := Go.Ground.data }], guard := none }) (v := ?_) rfl (Or.inl ⟨by rfl, ?_⟩) ?_; rotate_left; (focus (intro w hSw; (try dsimp only at hSw); go_simp; (try (with_reducible rfl)); done)); try simp only [Act.put, List.setIfInBounds_toArray, List.set_cons_zero, List.set_cons_succ])
    refine wpL_loud1 (o := { dst := some 19, op := Go.Op.call { callee := Go.Callee.value (Go.Operand.func 35), args := #[Go.Operand.tmp 14, Go.Operand.tmp 18], argTypes := #[25, 54] }, type := 78, pos := "oracle.go:100", after := #[{ on := 3, ground := Go.Ground.data }, { on := 7, ground := Go.Ground.data }], guard := none }) rfl (fun K hK => ?_)
    (go_simp; go_at_call 35; refine HC.out.mono ?_; rintro e w1 ⟨rfl, b1'⟩; have b1 : Below w.heap.size w w1 := (Below.refl _ _).drew.trans b1')
    try go_wp2_with fail
    refine hK.out _ _ ?_ (fun hHeld => ?_)
    · (try dsimp only); exact ⟨(b1.cell (p := ⟨g, 0, none⟩) hgl).trans c0, (b1.cell (p := ⟨g, 1, none⟩) hgl).trans c1⟩
    clear hK K
    try simp only [Act.put, List.setIfInBounds_toArray, List.set_cons_zero, List.set_cons_succ]
    (refine wpL_calm (o := { dst := some 10, op := Go.Op.move (Go.Operand.tmp 19), type := 78, pos := "oracle.go:100", after := #[{ on := 8, ground := Go.Ground.data }], guard := none }) (v := ?_) rfl (Or.inl ⟨by rfl, ?_⟩) ?_; rotate_left; (focus (intro w hSw; (try dsimp only at hSw); go_simp; (try (with_reducible rfl)); done)); try simp only [Act.put, List.setIfInBounds_toArray, List.set_cons_zero, List.set_cons_succ])
    (refine wpL_calm (o := { dst := some 20, op := Go.Op.extract (Go.Operand.tmp 10) 0, type := 3, pos := "oracle.go:100", after := #[{ on := 9, ground := Go.Ground.data }], guard := none }) (v := ?_) rfl (Or.inl ⟨by rfl, ?_⟩) ?_; rotate_left; (focus (intro w hSw; (try dsimp only at hSw); go_simp; (try (with_reducible rfl)); done)); try simp only [Act.put, List.setIfInBounds_toArray, List.set_cons_zero, List.set_cons_succ])
    (refine wpL_calm (o := { dst := some 21, op := Go.Op.extract (Go.Operand.tmp 10) 1, type := 3, pos := "oracle.go:100", after := #[{ on := 9, ground := Go.Ground.data }, { on := 13, ground := Go.Ground.gcOnly Go.Departure.lateStores }], guard := none }) (v := ?_) rfl (Or.inl ⟨by rfl, ?_⟩) ?_; rotate_left; (focus (intro w hSw; (try dsimp only at hSw); go_simp; (try (with_reducible rfl)); done)); try simp only [Act.put, List.setIfInBounds_toArray, List.set_cons_zero, List.set_cons_succ])
    (refine wpL_calm (o := { dst := some 22, op := Go.Op.extract (Go.Operand.tmp 10) 2, type := 4, pos := "oracle.go:100", after := #[{ on := 9, ground := Go.Ground.data }, { on := 14, ground := Go.Ground.gcOnly Go.Departure.lateStores }], guard := none }) (v := ?_) rfl (Or.inl ⟨by rfl, ?_⟩) ?_; rotate_left; (focus (intro w hSw; (try dsimp only at hSw); go_simp; (try (with_reducible rfl)); done)); try simp only [Act.put, List.setIfInBounds_toArray, List.set_cons_zero, List.set_cons_succ])
    (refine wpL_calm (o := { dst := some 5, op := Go.Op.assign (Go.Operand.tmp 20), type := 3, pos := "oracle.go:100", after := #[{ on := 10, ground := Go.Ground.data }, { on := 8, ground := Go.Ground.chain }, { on := 0, ground := Go.Ground.phase }, { on := 1, ground := Go.Ground.phase }, { on := 2, ground := Go.Ground.phase }, { on := 3, ground := Go.Ground.phase }, { on := 4, ground := Go.Ground.phase }, { on := 5, ground := Go.Ground.phase }, { on := 6, ground := Go.Ground.phase }, { on := 7, ground := Go.Ground.phase }, { on := 8, ground := Go.Ground.phase }, { on := 9, ground := Go.Ground.phase }, { on := 10, ground := Go.Ground.phase }, { on := 11, ground := Go.Ground.textOnly Go.Departure.lateStores }, { on := 12, ground := Go.Ground.textOnly Go.Departure.lateStores }], guard := none }) (v := ?_) rfl (Or.inl ⟨by rfl, ?_⟩) ?_; rotate_left; (focus (intro w hSw; (try dsimp only at hSw); go_simp; (try (with_reducible rfl)); done)); try simp only [Act.put, List.setIfInBounds_toArray, List.set_cons_zero, List.set_cons_succ])
    (refine wpL_calm (o := { dst := some 6, op := Go.Op.assign (Go.Operand.tmp 21), type := 3, pos := "oracle.go:100", after := #[{ on := 11, ground := Go.Ground.data }, { on := 13, ground := Go.Ground.chain }, { on := 0, ground := Go.Ground.phase }, { on := 1, ground := Go.Ground.phase }, { on := 2, ground := Go.Ground.phase }, { on := 3, ground := Go.Ground.phase }, { on := 4, ground := Go.Ground.phase }, { on := 5, ground := Go.Ground.phase }, { on := 6, ground := Go.Ground.phase }, { on := 7, ground := Go.Ground.phase }, { on := 8, ground := Go.Ground.phase }, { on := 9, ground := Go.Ground.phase }, { on := 10, ground := Go.Ground.phase }, { on := 11, ground := Go.Ground.phase }, { on := 12, ground := Go.Ground.textOnly Go.Departure.lateStores }, { on := 13, ground := Go.Ground.phase }], guard := none }) (v := ?_) rfl (Or.inl ⟨by rfl, ?_⟩) ?_; rotate_left; (focus (intro w hSw; (try dsimp only at hSw); go_simp; (try (with_reducible rfl)); done)); try simp only [Act.put, List.setIfInBounds_toArray, List.set_cons_zero, List.set_cons_succ])
    (refine wpL_calm (o := { dst := some 7, op := Go.Op.assign (Go.Operand.tmp 22), type := 4, pos := "oracle.go:100", after := #[{ on := 12, ground := Go.Ground.data }, { on := 14, ground := Go.Ground.chain }, { on := 0, ground := Go.Ground.phase }, { on := 1, ground := Go.Ground.phase }, { on := 2, ground := Go.Ground.phase }, { on := 3, ground := Go.Ground.phase }, { on := 4, ground := Go.Ground.phase }, { on := 5, ground := Go.Ground.phase }, { on := 6, ground := Go.Ground.phase }, { on := 7, ground := Go.Ground.phase }, { on := 8, ground := Go.Ground.phase }, { on := 9, ground := Go.Ground.phase }, { on := 10, ground := Go.Ground.phase }, { on := 11, ground := Go.Ground.phase }, { on := 12, ground := Go.Ground.phase }, { on := 13, ground := Go.Ground.phase }, { on := 14, ground := Go.Ground.phase }], guard := none }) (v := ?_) rfl (Or.inl ⟨by rfl, ?_⟩) ?_; rotate_left; (focus (intro w hSw; (try dsimp only at hSw); go_simp; (try (with_reducible rfl)); done)); try simp only [Act.put, List.setIfInBounds_toArray, List.set_cons_zero, List.set_cons_succ])
    refine wpL_nil ?_
    refine NoPanic.normal ?_
    go_wp2_with fail
    go_ret3
    exact ⟨rfl, b1⟩
  | some ik =>
    obtain ⟨i, k⟩ := ik
    rw [hr] at HC
    obtain ⟨hi, hk, hne', hs'⟩ := HTOLD.out i k hr
    clear hne' hs'
    obtain ⟨ta', tc', e, hT⟩ := HT.out
    cases e
    obtain ⟨gt, ot, rfl, hgt, hc⟩ := hT (by rw [colL_len]; omega)
    have ci := hc i (by rw [colL_len]; exact hi)
    have ck := hc k (by rw [colL_len]; exact hk)
    have ei : (colL l)[i]'(by rw [colL_len]; exact hi) = ⟨(l[i]).toArray⟩ := by simp [colL]
    have ek : (colL l)[k]'(by rw [colL_len]; exact hk) = ⟨(l[k]).toArray⟩ := by simp [colL]
    rw [ei] at ci
    rw [ek] at ck
    have hV : Hid (colV l (some (i, k)) = .tuple #[.string ⟨(l[i]).toArray⟩, .string ⟨(l[k]).toArray⟩, .bool true]) := Lib.hid (by
      show Value.tuple #[.string ⟨(l[i]?.getD []).toArray⟩, .string ⟨(l[k]?.getD []).toArray⟩, .bool true] = _
      rw [List.getElem?_eq_getElem hi, List.getElem?_eq_getElem hk]
      rfl)
    rw [hV.out]
    dsimp only [pairV] at HC
    clear hr HTOLD HT hT hc hV ei ek
    generalize (⟨(l[i]).toArray⟩ : ByteArray) = si at *
    generalize (⟨(l[k]).toArray⟩ : ByteArray) = sk at *
    have hi1 : (i : Int) < (l.length : Int) := by omega
    have hk1 : (k : Int) < (l.length : Int) := by omega
    have hi2 : (i : Int) ≤ 1000000 := by omega
    have hk2 : (k : Int) ≤ 1000000 := by omega
    generalize l.length = n at *
    go_enter Tryd.func18, Tryd.ntmps18
    go_upto_region 3 with fail
    refine wp_region_lin (S := (fun w' => w'.cell? ⟨g, 0, none⟩ = some (.slice (some ⟨gt, ot, none⟩) n tc) ∧ w'.cell? ⟨g, 1, none⟩ = some (.slice sa n sc))) [(0, true), (1, true), (2, true), (3, true), (4, true), (5, true), (6, true), (7, true), (8, false), (9, true), (10, true), (11, true), (12, true), (13, true), (14, true), (15, true)] (by kernel_rfl) (by kernel_rfl) rfl (by kernel_rfl) ?_ (fun hHeld => ?_)
    · (try dsimp only); exact ⟨c0, c1⟩
    (refine wpL_calm (o := { dst := some 11, op := Go.Op.move (Go.Operand.tmp 0), type := 23, pos := "oracle.go:100", after := #[], guard := none }) (v := ?_) rfl (Or.inl ⟨by rfl, ?_⟩) ?_; rotate_left; (focus (intro w hSw; (try dsimp only at hSw); go_simp; (try (with_reducible rfl)); done)); try simp only [Act.put, List.setIfInBounds_toArray, List.set_cons_zero, List.set_cons_succ])
    (refine wpL_calm (o := { dst := some 12, op := Go.Op.nilCheck (Go.Operand.tmp 11), type := 0, pos := "oracle.go:100", after := #[{ on := 0, ground := Go.Ground.data }], guard := none }) (v := ?_) rfl (Or.inl ⟨by rfl, ?_⟩) ?_; rotate_left; (focus (intro w hSw; (try dsimp only at hSw); go_simp; (try (with_reducible rfl)); done)); try simp only [Act.put, List.setIfInBounds_toArray, List.set_cons_zero, List.set_cons_succ])
    (refine wpL_calm (o := { dst := some 13, op := Go.Op.fieldAddr 70 (Go.Operand.tmp 12) 0, type := 0, pos := "oracle.go:100", after := #[{ on := 1, ground := Go.Ground.data }], guard := none }) (v := ?_) rfl (Or.inl ⟨by rfl, ?_⟩) ?_; rotate_left; (focus (intro w hSw; (try dsimp only at hSw); go_simp; (try (with_reducible rfl)); done)); try simp only [Act.put, List.setIfInBounds_toArray, List.set_cons_zero, List.set_cons_succ])
    (refine wpL_calm (o := { dst := some 14, op := Go.Op.load 25 (Go.Operand.tmp 13), type := 25, pos := "oracle.go:100", after := #[{ on := 2, ground := Go.Ground.data }], guard := none }) (v := ?_) rfl (Or.inl ⟨by rfl, ?_⟩) ?_; rotate_left; (focus (intro w hSw; (try dsimp only at hSw); go_simp; (try (with_reducible rfl)); done)); try simp only [Act.put, List.setIfInBounds_toArray, List.set_cons_zero, List.set_cons_succ])
    (refine wpL_calm (o := { dst := some 15, op := Go.Op.move (Go.Operand.tmp 0), type := 23, pos := "oracle.go:100", after := #[], guard := none }) (v := ?_) rfl (Or.inl ⟨by rfl, ?_⟩) ?_; rotate_left; (focus (intro w hSw; (try dsimp only at hSw); go_simp; (try (with_reducible rfl)); done)); try simp only [Act.put, List.setIfInBounds_toArray, List.set_cons_zero, List.set_cons_succ])
    (refine wpL_calm (o := { dst := some 16, op := Go.Op.nilCheck (Go.Operand.tmp 15), type := 0, pos := "oracle.go:100", after := #[{ on := 4, ground := Go.Ground.data }], guard := none }) (v := ?_) rfl (Or.inl ⟨by rfl, ?_⟩) ?_; rotate_left; (focus (intro w hSw; (try dsimp only at hSw); go_simp; (try (with_reducible rfl)); done)); try simp only [Act.put, List.setIfInBounds_toArray, List.set_cons_zero, List.set_cons_succ])
    (refine wpL_calm (o := { dst := some 17, op := Go.Op.fieldAddr 70 (Go.Operand.tmp 16) 1, type := 0, pos := "oracle.go:100", after := #[{ on := 5, ground := Go.Ground.data }], guard := none }) (v := ?_) rfl (Or.inl ⟨by rfl, ?_⟩) ?_; rotate_left; (focus (intro w hSw; (try dsimp only at hSw); go_simp; (try (with_reducible rfl)); done)); try simp only [Act.put, List.setIfInBounds_toArray, List.set_cons_zero, List.set_cons_succ])
    (refine wpL_calm (o := { dst := some 18, op := Go.Op.load 54 (Go.Operand.tmp 17), type := 54, pos := "oracle.go:100", after := #[{ on := 6, ground := Go.Ground.data }], guard := none }) (v := ?_) rfl (Or.inl ⟨by rfl, ?_⟩) ?_; rotate_left; (focus (intro w hSw; (try dsimp only at hSw); go_simp; (try (with_reducible rfl)); done)); try simp only [Act.put, List.setIfInBounds_toArray, List.set_cons_zero, List.set_cons_succ])
    refine wpL_loud1 (o := { dst := some 19, op := Go.Op.call { callee := Go.Callee.value (Go.Operand.func 35), args := #[Go.Operand.tmp 14, Go.Operand.tmp 18], argTypes := #[25, 54] }, type := 78, pos := "oracle.go:100", after := #[{ on := 3, ground := Go.Ground.data }, { on := 7, ground := Go.Ground.data }], guard := none }) rfl (fun K hK => ?_)
    (go_simp; go_at_call 35; refine HC.out.mono ?_; rintro e w1 ⟨rfl, b1'⟩; have b1 : Below w.heap.size w w1 := (Below.refl _ _).drew.trans b1')
    try go_wp2_with fail
    refine hK.out _ _ ?_ (fun hHeld => ?_)
    · (try dsimp only); exact ⟨(b1.cell (p := ⟨g, 0, none⟩) hgl).trans c0, (b1.cell (p := ⟨g, 1, none⟩) hgl).trans c1⟩
    clear hK K
    try simp only [Act.put, List.setIfInBounds_toArray, List.set_cons_zero, List.set_cons_succ]
    (refine wpL_calm (o := { dst := some 10, op := Go.Op.move (Go.Operand.tmp 19), type := 78, pos := "oracle.go:100", after := #[{ on := 8, ground := Go.Ground.data }], guard := none }) (v := ?_) rfl (Or.inl ⟨by rfl, ?_⟩) ?_; rotate_left; (focus (intro w hSw; (try dsimp only at hSw); go_simp; (try (with_reducible rfl)); done)); try simp only [Act.put, List.setIfInBounds_toArray, List.set_cons_zero, List.set_cons_succ])
    (refine wpL_calm (o := { dst := some 20, op := Go.Op.extract (Go.Operand.tmp 10) 0, type := 3, pos := "oracle.go:100", after := #[{ on := 9, ground := Go.Ground.data }], guard := none }) (v := ?_) rfl (Or.inl ⟨by rfl, ?_⟩) ?_; rotate_left; (focus (intro w hSw; (try dsimp only at hSw); go_simp; (try (with_reducible rfl)); done)); try simp only [Act.put, List.setIfInBounds_toArray, List.set_cons_zero, List.set_cons_succ])
    (refine wpL_calm (o := { dst := some 21, op := Go.Op.extract (Go.Operand.tmp 10) 1, type := 3, pos := "oracle.go:100", after := #[{ on := 9, ground := Go.Ground.data }, { on := 13, ground := Go.Ground.gcOnly Go.Departure.lateStores }], guard := none }) (v := ?_) rfl (Or.inl ⟨by rfl, ?_⟩) ?_; rotate_left; (focus (intro w hSw; (try dsimp only at hSw); go_simp; (try (with_reducible rfl)); done)); try simp only [Act.put, List.setIfInBounds_toArray, List.set_cons_zero, List.set_cons_succ])
    (refine wpL_calm (o := { dst := some 22, op := Go.Op.extract (Go.Operand.tmp 10) 2, type := 4, pos := "oracle.go:100", after := #[{ on := 9, ground := Go.Ground.data }, { on := 14, ground := Go.Ground.gcOnly Go.Departure.lateStores }], guard := none }) (v := ?_) rfl (Or.inl ⟨by rfl, ?_⟩) ?_; rotate_left; (focus (intro w hSw; (try dsimp only at hSw); go_simp; (try (with_reducible rfl)); done)); try simp only [Act.put, List.setIfInBounds_toArray, List.set_cons_zero, List.set_cons_succ])
    (refine wpL_calm (o := { dst := some 5, op := Go.Op.assign (Go.Operand.tmp 20), type := 3, pos := "oracle.go:100", after := #[{ on := 10, ground := Go.Ground.data }, { on := 8, ground := Go.Ground.chain }, { on := 0, ground := Go.Ground.phase }, { on := 1, ground := Go.Ground.phase }, { on := 2, ground := Go.Ground.phase }, { on := 3, ground := Go.Ground.phase }, { on := 4, ground := Go.Ground.phase }, { on := 5, ground := Go.Ground.phase }, { on := 6, ground := Go.Ground.phase }, { on := 7, ground := Go.Ground.phase }, { on := 8, ground := Go.Ground.phase }, { on := 9, ground := Go.Ground.phase }, { on := 10, ground := Go.Ground.phase }, { on := 11, ground := Go.Ground.textOnly Go.Departure.lateStores }, { on := 12, ground := Go.Ground.textOnly Go.Departure.lateStores }], guard := none }) (v := ?_) rfl (Or.inl ⟨by rfl, ?_⟩) ?_; rotate_left; (focus (intro w hSw; (try dsimp only at hSw); go_simp; (try (with_reducible rfl)); done)); try simp only [Act.put, List.setIfInBounds_toArray, List.set_cons_zero, List.set_cons_succ])
    (refine wpL_calm (o := { dst := some 6, op := Go.Op.assign (Go.Operand.tmp 21), type := 3, pos := "oracle.go:100", after := #[{ on := 11, ground := Go.Ground.data }, { on := 13, ground := Go.Ground.chain }, { on := 0, ground := Go.Ground.phase }, { on := 1, ground := Go.Ground.phase }, { on := 2, ground := Go.Ground.phase }, { on := 3, ground := Go.Ground.phase }, { on := 4, ground := Go.Ground.phase }, { on := 5, ground := Go.Ground.phase }, { on := 6, ground := Go.Ground.phase }, { on := 7, ground := Go.Ground.phase }, { on := 8, ground := Go.Ground.phase }, { on := 9, ground := Go.Ground.phase }, { on := 10, ground := Go.Ground.phase }, { on := 11, ground := Go.Ground.phase }, { on := 12, ground := Go.Ground.textOnly Go.Departure.lateStores }, { on := 13, ground := Go.Ground.phase }], guard := none }) (v := ?_) rfl (Or.inl ⟨by rfl, ?_⟩) ?_; rotate_left; (focus (intro w hSw; (try dsimp only at hSw); go_simp; (try (with_reducible rfl)); done)); try simp only [Act.put, List.setIfInBounds_toArray, List.set_cons_zero, List.set_cons_succ])
    (refine wpL_calm (o := { dst := some 7, op := Go.Op.assign (Go.Operand.tmp 22), type := 4, pos := "oracle.go:100", after := #[{ on := 12, ground := Go.Ground.data }, { on := 14, ground := Go.Ground.chain }, { on := 0, ground := Go.Ground.phase }, { on := 1, ground := Go.Ground.phase }, { on := 2, ground := Go.Ground.phase }, { on := 3, ground := Go.Ground.phase }, { on := 4, ground := Go.Ground.phase }, { on := 5, ground := Go.Ground.phase }, { on := 6, ground := Go.Ground.phase }, { on := 7, ground := Go.Ground.phase }, { on := 8, ground := Go.Ground.phase }, { on := 9, ground := Go.Ground.phase }, { on := 10, ground := Go.Ground.phase }, { on := 11, ground := Go.Ground.phase }, { on := 12, ground := Go.Ground.phase }, { on := 13, ground := Go.Ground.phase }, { on := 14, ground := Go.Ground.phase }], guard := none }) (v := ?_) rfl (Or.inl ⟨by rfl, ?_⟩) ?_; rotate_left; (focus (intro w hSw; (try dsimp only at hSw); go_simp; (try (with_reducible rfl)); done)); try simp only [Act.put, List.setIfInBounds_toArray, List.set_cons_zero, List.set_cons_succ])
    refine wpL_nil ?_
    refine NoPanic.normal ?_
    have d0 := (b1.cell (p := ⟨g, 0, none⟩) hgl).trans c0
    have di := (b1.cell (p := ⟨gt, ot + i, none⟩) hgt).trans ci
    have dk := (b1.cell (p := ⟨gt, ot + k, none⟩) hgt).trans ck
    go_upto_region 6 with fail
    refine wp_region_lin (S := (fun w' => w'.cell? ⟨g, 0, none⟩ = some (.slice (some ⟨gt, ot, none⟩) n tc) ∧ w'.cell? ⟨gt, ot + i, none⟩ = some (.string si) ∧ w'.cell? ⟨gt, ot + k, none⟩ = some (.string sk))) [(0, true), (1, true), (2, true), (3, true), (4, true), (5, true), (6, true), (7, true), (8, true), (9, true), (10, true), (11, true), (12, true), (13, true), (14, true), (15, true), (16, true)] (by kernel_rfl) (by kernel_rfl) rfl (by kernel_rfl) ?_ (fun hHeld => ?_)
    · (try dsimp only); exact ⟨d0, di, dk⟩
    (refine wpL_calm (o := { dst := some 25, op := Go.Op.move (Go.Operand.tmp 0), type := 23, pos := "oracle.go:104", after := #[], guard := none }) (v := ?_) rfl (Or.inl ⟨by rfl, ?_⟩) ?_; rotate_left; (focus (intro w hSw; (try dsimp only at hSw); go_simp; (try (with_reducible rfl)); done)); try simp only [Act.put, List.setIfInBounds_toArray, List.set_cons_zero, List.set_cons_succ])
    (refine wpL_calm (o := { dst := some 26, op := Go.Op.nilCheck (Go.Operand.tmp 25), type := 0, pos := "oracle.go:104", after := #[{ on := 0, ground := Go.Ground.data }], guard := none }) (v := ?_) rfl (Or.inl ⟨by rfl, ?_⟩) ?_; rotate_left; (focus (intro w hSw; (try dsimp only at hSw); go_simp; (try (with_reducible rfl)); done)); try simp only [Act.put, List.setIfInBounds_toArray, List.set_cons_zero, List.set_cons_succ])
    (refine wpL_calm (o := { dst := some 27, op := Go.Op.fieldAddr 70 (Go.Operand.tmp 26) 0, type := 0, pos := "oracle.go:104", after := #[{ on := 1, ground := Go.Ground.data }], guard := none }) (v := ?_) rfl (Or.inl ⟨by rfl, ?_⟩) ?_; rotate_left; (focus (intro w hSw; (try dsimp only at hSw); go_simp; (try (with_reducible rfl)); done)); try simp only [Act.put, List.setIfInBounds_toArray, List.set_cons_zero, List.set_cons_succ])
    (refine wpL_calm (o := { dst := some 28, op := Go.Op.load 25 (Go.Operand.tmp 27), type := 25, pos := "oracle.go:104", after := #[{ on := 2, ground := Go.Ground.data }], guard := none }) (v := ?_) rfl (Or.inl ⟨by rfl, ?_⟩) ?_; rotate_left; (focus (intro w hSw; (try dsimp only at hSw); go_simp; (try (with_reducible rfl)); done)); try simp only [Act.put, List.setIfInBounds_toArray, List.set_cons_zero, List.set_cons_succ])
    (refine wpL_calm (o := { dst := some 29, op := Go.Op.move (Go.Operand.tmp 5), type := 3, pos := "oracle.go:104", after := #[], guard := none }) (v := ?_) rfl (Or.inl ⟨by rfl, ?_⟩) ?_; rotate_left; (focus (intro w hSw; (try dsimp only at hSw); go_simp; (try (with_reducible rfl)); done)); try simp only [Act.put, List.setIfInBounds_toArray, List.set_cons_zero, List.set_cons_succ])
    (refine wpL_calm (o := { dst := some 30, op := Go.Op.indexAddr 25 (Go.Operand.tmp 28) (Go.Operand.tmp 29), type := 0, pos := "oracle.go:104", after := #[{ on := 3, ground := Go.Ground.data }, { on := 4, ground := Go.Ground.data }], guard := none }) (v := ?_) rfl (Or.inl ⟨by rfl, ?_⟩) ?_; rotate_left; (focus (intro w hSw; (try dsimp only at hSw); go_simp; (try (with_reducible rfl)); done)); try simp only [Act.put, List.setIfInBounds_toArray, List.set_cons_zero, List.set_cons_succ])
    (refine wpL_calm (o := { dst := some 31, op := Go.Op.load 9 (Go.Operand.tmp 30), type := 9, pos := "oracle.go:104", after := #[{ on := 5, ground := Go.Ground.data }], guard := none }) (v := ?_) rfl (Or.inl ⟨by rfl, ?_⟩) ?_; rotate_left; (focus (intro w hSw; (try dsimp only at hSw); go_simp; (try (with_reducible rfl)); done)); try simp only [Act.put, List.setIfInBounds_toArray, List.set_cons_zero, List.set_cons_succ])
    (refine wpL_calm (o := { dst := some 32, op := Go.Op.move (Go.Operand.tmp 0), type := 23, pos := "oracle.go:104", after := #[{ on := 14, ground := Go.Ground.gcOnly Go.Departure.lateStores }], guard := none }) (v := ?_) rfl (Or.inl ⟨by rfl, ?_⟩) ?_; rotate_left; (focus (intro w hSw; (try dsimp only at hSw); go_simp; (try (with_reducible rfl)); done)); try simp only [Act.put, List.setIfInBounds_toArray, List.set_cons_zero, List.set_cons_succ])
    (refine wpL_calm (o := { dst := some 33, op := Go.Op.nilCheck (Go.Operand.tmp 32), type := 0, pos := "oracle.go:104", after := #[{ on := 7, ground := Go.Ground.data }, { on := 14, ground := Go.Ground.gcOnly Go.Departure.lateStores }], guard := none }) (v := ?_) rfl (Or.inl ⟨by rfl, ?_⟩) ?_; rotate_left; (focus (intro w hSw; (try dsimp only at hSw); go_simp; (try (with_reducible rfl)); done)); try simp only [Act.put, List.setIfInBounds_toArray, List.set_cons_zero, List.set_cons_succ])
    (refine wpL_calm (o := { dst := some 34, op := Go.Op.fieldAddr 70 (Go.Operand.tmp 33) 0, type := 0, pos := "oracle.go:104", after := #[{ on := 8, ground := Go.Ground.data }, { on := 14, ground := Go.Ground.gcOnly Go.Departure.lateStores }], guard := none }) (v := ?_) rfl (Or.inl ⟨by rfl, ?_⟩) ?_; rotate_left; (focus (intro w hSw; (try dsimp only at hSw); go_simp; (try (with_reducible rfl)); done)); try simp only [Act.put, List.setIfInBounds_toArray, List.set_cons_zero, List.set_cons_succ])
    (refine wpL_calm (o := { dst := some 35, op := Go.Op.load 25 (Go.Operand.tmp 34), type := 25, pos := "oracle.go:104", after := #[{ on := 9, ground := Go.Ground.data }, { on := 14, ground := Go.Ground.gcOnly Go.Departure.lateStores }], guard := none }) (v := ?_) rfl (Or.inl ⟨by rfl, ?_⟩) ?_; rotate_left; (focus (intro w hSw; (try dsimp only at hSw); go_simp; (try (with_reducible rfl)); done)); try simp only [Act.put, List.setIfInBounds_toArray, List.set_cons_zero, List.set_cons_succ])
    (refine wpL_calm (o := { dst := some 36, op := Go.Op.move (Go.Operand.tmp 6), type := 3, pos := "oracle.go:104", after := #[{ on := 14, ground := Go.Ground.gcOnly Go.Departure.lateStores }], guard := none }) (v := ?_) rfl (Or.inl ⟨by rfl, ?_⟩) ?_; rotate_left; (focus (intro w hSw; (try dsimp only at hSw); go_simp; (try (with_reducible rfl)); done)); try simp only [Act.put, List.setIfInBounds_toArray, List.set_cons_zero, List.set_cons_succ])
    (refine wpL_calm (o := { dst := some 37, op := Go.Op.indexAddr 25 (Go.Operand.tmp 35) (Go.Operand.tmp 36), type := 0, pos := "oracle.go:104", after := #[{ on := 10, ground := Go.Ground.data }, { on := 11, ground := Go.Ground.data }, { on := 14, ground := Go.Ground.gcOnly Go.Departure.lateStores }], guard := none }) (v := ?_) rfl (Or.inl ⟨by rfl, ?_⟩) ?_; rotate_left; (focus (intro w hSw; (try dsimp only at hSw); go_simp; (try (with_reducible rfl)); done)); try simp only [Act.put, List.setIfInBounds_toArray, List.set_cons_zero, List.set_cons_succ])
    (refine wpL_calm (o := { dst := some 38, op := Go.Op.load 9 (Go.Operand.tmp 37), type := 9, pos := "oracle.go:104", after := #[{ on := 12, ground := Go.Ground.data }, { on := 14, ground := Go.Ground.gcOnly Go.Departure.lateStores }], guard := none }) (v := ?_) rfl (Or.inl ⟨by rfl, ?_⟩) ?_; rotate_left; (focus (intro w hSw; (try dsimp only at hSw); go_simp; (try (with_reducible rfl)); done)); try simp only [Act.put, List.setIfInBounds_toArray, List.set_cons_zero, List.set_cons_succ])
    (refine wpL_calm (o := { dst := some 2, op := Go.Op.assign (Go.Operand.tmp 31), type := 9, pos := "oracle.go:104", after := #[{ on := 6, ground := Go.Ground.data }, { on := 0, ground := Go.Ground.phase }, { on := 1, ground := Go.Ground.phase }, { on := 2, ground := Go.Ground.phase }, { on := 3, ground := Go.Ground.phase }, { on := 4, ground := Go.Ground.phase }, { on := 5, ground := Go.Ground.phase }, { on := 6, ground := Go.Ground.phase }, { on := 7, ground := Go.Ground.textOnly Go.Departure.lateStores }, { on := 8, ground := Go.Ground.textOnly Go.Departure.lateStores }, { on := 9, ground := Go.Ground.textOnly Go.Departure.lateStores }, { on := 10, ground := Go.Ground.textOnly Go.Departure.lateStores }, { on := 11, ground := Go.Ground.textOnly Go.Departure.lateStores }, { on := 12, ground := Go.Ground.textOnly Go.Departure.lateStores }, { on := 13, ground := Go.Ground.textOnly Go.Departure.lateStores }], guard := none }) (v := ?_) rfl (Or.inl ⟨by rfl, ?_⟩) ?_; rotate_left; (focus (intro w hSw; (try dsimp only at hSw); go_simp; (try (with_reducible rfl)); done)); try simp only [Act.put, List.setIfInBounds_toArray, List.set_cons_zero, List.set_cons_succ])
    (refine wpL_calm (o := { dst := some 3, op := Go.Op.assign (Go.Operand.tmp 38), type := 9, pos := "oracle.go:104", after := #[{ on := 13, ground := Go.Ground.data }, { on := 14, ground := Go.Ground.chain }, { on := 0, ground := Go.Ground.phase }, { on := 1, ground := Go.Ground.phase }, { on := 2, ground := Go.Ground.phase }, { on := 3, ground := Go.Ground.phase }, { on := 4, ground := Go.Ground.phase }, { on := 5, ground := Go.Ground.phase }, { on := 6, ground := Go.Ground.phase }, { on := 7, ground := Go.Ground.phase }, { on := 8, ground := Go.Ground.phase }, { on := 9, ground := Go.Ground.phase }, { on := 10, ground := Go.Ground.phase }, { on := 11, ground := Go.Ground.phase }, { on := 12, ground := Go.Ground.phase }, { on := 13, ground := Go.Ground.phase }, { on := 14, ground := Go.Ground.phase }], guard := none }) (v := ?_) rfl (Or.inl ⟨by rfl, ?_⟩) ?_; rotate_left; (focus (intro w hSw; (try dsimp only at hSw); go_simp; (try (with_reducible rfl)); done)); try simp only [Act.put, List.setIfInBounds_toArray, List.set_cons_zero, List.set_cons_succ])
    (refine wpL_calm (o := { dst := some 4, op := Go.Op.assign (Go.Operand.const (Go.Value.bool true)), type := 4, pos := "oracle.go:104", after := #[{ on := 15, ground := Go.Ground.chain }, { on := 0, ground := Go.Ground.phase }, { on := 1, ground := Go.Ground.phase }, { on := 2, ground := Go.Ground.phase }, { on := 3, ground := Go.Ground.phase }, { on := 4, ground := Go.Ground.phase }, { on := 5, ground := Go.Ground.phase }, { on := 6, ground := Go.Ground.phase }, { on := 7, ground := Go.Ground.phase }, { on := 8, ground := Go.Ground.phase }, { on := 9, ground := Go.Ground.phase }, { on := 10, ground := Go.Ground.phase }, { on := 11, ground := Go.Ground.phase }, { on := 12, ground := Go.Ground.phase }, { on := 13, ground := Go.Ground.phase }, { on := 14, ground := Go.Ground.phase }, { on := 15, ground := Go.Ground.phase }], guard := none }) (v := ?_) rfl (Or.inl ⟨by rfl, ?_⟩) ?_; rotate_left; (focus (intro w hSw; (try dsimp only at hSw); go_simp; (try (with_reducible rfl)); done)); try simp only [Act.put, List.setIfInBounds_toArray, List.set_cons_zero, List.set_cons_succ])
    refine wpL_nil ?_
    refine NoPanic.normal ?_
    go_wp2_with fail
    go_ret3
    exact ⟨rfl, b1.drew⟩
/-- An oracle that may be nil: Collide. -/
theorem collide_told (base g : Nat) (l : List (List UInt8)) (tv sv : Value) (b : Nat) (D : DataW Unit) (w : World) (hP : OrP base w g l tv sv b D) (hl : l.length ≤ 1000000) (x y : List UInt8) (hx : x ∈ l) (hy : y ∈ l) (hne : x ≠ y) (hs : sumL x = sumL y) :
    Calls Tryd.prog 18 #[.pointer (some ⟨g, 0, none⟩)] w fun e w' => ∃ s t, e = .returned (.tuple #[.string s, .string t, .bool true]) ∧ Below w.heap.size w w' := by
  obtain ⟨⟨i, k⟩, hr⟩ := colF_some l x y hx hy hne hs
  refine (orCollide_any base g l tv sv b D w hP hl).mono ?_
  rintro e w' ⟨rfl, b⟩
  rw [hr]
  exact ⟨_, _, rfl, b⟩
end Go.Proofs.YtaneecmfgfkaaaaDoor
