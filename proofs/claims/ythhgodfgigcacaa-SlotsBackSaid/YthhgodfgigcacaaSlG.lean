/- Package slots: At, Free. -/
import Derived.Test.YthhgodfgigcacaaSlF
import Derived.Laws.CopyOwn
import Derived.Laws.ResultCell
import Derived.Laws.Tables
namespace Go.Proofs.Ythhgodfgigcacaa
open Go.RowKit Go.Deep
set_option linter.unusedVariables false
set_option linter.unusedSimpArgs false
theorem results_ct {P : Program} {fn : Func} {p u : Tmp} {ty : TypeId} (h : fn.results = #[.cell p ty, .tmp u]) (tmps : Array Value) (w : World) (g : Nat) (t : TypeId) (cs : Array Value) (fr : Nat × Nat) (d : TypeDesc)
    (hp : tmps.getD p undef = .pointer (some ⟨g, 0, none⟩)) (hg : w.heap[g]? = some (.cells cs t fr))
    (hu : P.underlying ty = some d) (hd : (match d with | .struct _ | .array _ _ => true | _ => false) = true) (hi : (P.info? ty).map (·.size) = some cs.size) :
    (results fn tmps).run P w = .ok (.tuple #[.agg cs, tmps.getD u undef]) w := by
  have hp' : tmps[p]?.getD undef = .pointer (some ⟨g, 0, none⟩) := by simpa using hp
  rw [results_cell_tmp h]
  simp [hp', asAddr, run_loadVar_row w g t ty cs fr d hg hu hd hi, Result.andThen]
def atS (n : Nat) (T : Nat → Sl) (i : Int) : Sl := if refE n T i false = 3 then zeS else T i.toNat
def atE (n : Nat) (T : Nat → Sl) (i : Int) : Int := if refE n T i false = 3 then 3 else 0
set_option maxRecDepth 100000 in
set_option maxHeartbeats 4000000 in
theorem atT_any (b n : Nat) (T : Nat → Sl) (i : Int) (w : World) (hT : TAt w b n T) (hn : n ≤ 8) : Calls Try.prog 17 #[.pointer (some ⟨b, 0, none⟩), .int .i64 i] w fun e w' => e = .returned (.tuple #[.agg (slA (atS n T i)), .int .i64 (atE n T i)]) ∧ Below w.heap.size w w' := by
  have HT := Lib.hid hT
  clear hT
  obtain ⟨w1, hw1⟩ : ∃ w1, Hid (w.alloc (.cells #[.int .i64 0, .bool false, .bool false, .bool false, .bool false, .bool false, .bool false, .bool false, .bool false, .int .i64 0] 44) = w1) := ⟨_, Lib.hid rfl⟩
  obtain ⟨a, ha⟩ : ∃ a, Hid (w.heap.size = a) := ⟨_, Lib.hid rfl⟩
  have HB1 : Hid (Below w.heap.size w w1) := Lib.hid (by rw [← hw1.out]; exact (Below.refl _ _).alloc (Nat.le_refl _) _)
  have HR1 : Hid (w1.heap[a]? = some (.cells #[.int .i64 0, .bool false, .bool false, .bool false, .bool false, .bool false, .bool false, .bool false, .bool false, .int .i64 0] 44 (0, 0))) := Lib.hid (by rw [← hw1.out, ← ha.out]; exact heap_alloc_new _ _)
  have haw : w.heap.size ≤ a := Nat.le_of_eq ha.out
  have hal : a < w1.heap.size := (Array.getElem?_eq_some_iff.1 HR1.out).1
  have CR := Lib.hid (refT_any b n T i false w1 (HT.out.below HB1.out) hn)
  obtain ⟨X, hX⟩ : ∃ X, Hid (atS n T i = X) := ⟨_, Lib.hid rfl⟩
  obtain ⟨E, hE⟩ : ∃ E, Hid (atE n T i = E) := ⟨_, Lib.hid rfl⟩
  rw [hX.out, hE.out]
  have HC := Lib.hid (ref_cases n T i false)
  have HN : Hid (refE n T i false = 3 → X = zeS ∧ E = 3) := Lib.hid (fun h => by rw [← hX.out, ← hE.out]; unfold atS atE; rw [if_pos h, if_pos h]; exact ⟨rfl, rfl⟩)
  have HY : Hid (refE n T i false ≠ 3 → ∃ k : Nat, i = (k : Int) ∧ k < n ∧ X = T k ∧ E = 0) := Lib.hid (fun h => by
    rw [← hX.out, ← hE.out]
    unfold atS atE
    rw [if_neg h, if_neg h]
    have h1 : ¬ (i < 0 ∨ (n : Int) ≤ i ∨ false = true) := fun hh => h (by unfold refE; rw [if_pos hh])
    exact ⟨i.toNat, by omega, by omega, rfl, rfl⟩)
  obtain ⟨r, hr⟩ : ∃ r, refE n T i false = r := ⟨_, rfl⟩
  rw [hr] at CR HC HN HY
  clear hr hX hE
  unfold slA
  go_enter Try.func17, Try.ntmps17
  go_upto_region 1 with fail
  rw [hw1.out, ha.out]
  clear hw1 ha
  go_wp2_with fail
  refine CR.out.mono ?_
  rintro e w2 ⟨rfl, b2⟩
  have HB2 := Lib.hid (HB1.out.trans (b2.mono HB1.out.size))
  have hr2 := (b2.block a hal).trans HR1.out
  clear b2 CR HR1
  by_cases h3 : r = 3
  · obtain ⟨hx, he⟩ := HN.out h3
    subst h3
    have HX := Lib.hid hx
    have HE := Lib.hid he
    clear hx he HN HY HC
    go_wp2_with (refine wpList_store_row rfl _ _ _ rfl a #[.int .i64 0, .bool false, .bool false, .bool false, .bool false, .bool false, .bool false, .bool false, .bool false, .int .i64 0] rfl rfl 44 #[.int .i64 0, .bool false, .bool false, .bool false, .bool false, .bool false, .bool false, .bool false, .bool false, .int .i64 0] hr2 (by kernel_rfl) (by rfl) (by simp [Value.oneCell']) ?_)
    refine bodyPost_ret_by (results_ct rfl _ _ a 44 #[.int .i64 0, .bool false, .bool false, .bool false, .bool false, .bool false, .bool false, .bool false, .bool false, .int .i64 0] (0, 0) _ rfl (setRow_heap _ _ _ _ 44 (0, 0) hr2) Try.underlying44 rfl (by kernel_rfl)) rfl ⟨by rw [HX.out, HE.out]; rfl, below_setRow HB2.out haw _⟩
  · obtain ⟨k, rfl, hkn, hx, he⟩ := HY.out h3
    have hk8 : k < 8 := by omega
    have hki : (k : Int) < 8 := by omega
    obtain ⟨c0, c1, c2, c3, c4, c5, c6, c7, c8, c9⟩ := (HT.out.below HB2.out).cs hk8
    rw [← hx] at c0 c1 c2 c3 c4 c5 c6 c7 c8 c9
    have HE := Lib.hid he
    have h07 : r = 0 ∨ r = 7 := by rcases HC.out with h | h | h; exact Or.inl h; exact absurd h h3; exact Or.inr h
    clear hx he HN HY HC h3
    rcases h07 with rfl | rfl
    all_goals
      go_wp2_with (refine wpList_store_row rfl _ _ _ rfl a #[.int .i64 X.g, .bool X.v0, .bool X.v1, .bool X.v2, .bool X.v3, .bool X.d0, .bool X.d1, .bool X.d2, .bool X.d3, .int .i64 X.l] rfl rfl 44 #[.int .i64 0, .bool false, .bool false, .bool false, .bool false, .bool false, .bool false, .bool false, .bool false, .int .i64 0] hr2 (by kernel_rfl) (by rfl) (by simp [Value.oneCell']) ?_)
      refine bodyPost_ret_by (results_ct rfl _ _ a 44 #[.int .i64 X.g, .bool X.v0, .bool X.v1, .bool X.v2, .bool X.v3, .bool X.d0, .bool X.d1, .bool X.d2, .bool X.d3, .int .i64 X.l] (0, 0) _ rfl (setRow_heap _ _ _ _ 44 (0, 0) hr2) Try.underlying44 rfl (by kernel_rfl)) rfl ⟨by rw [HE.out]; rfl, below_setRow HB2.out haw _⟩
/-- What Free tells. -/
def freE (n : Nat) (T : Nat → Sl) (i : Int) : Int := if refE n T i false = 0 then (if (T i.toNat).busy = true then 15 else 0) else refE n T i false
def freT (n : Nat) (T : Nat → Sl) (i : Int) : Nat → Sl := if freE n T i = 0 then upd T i.toNat frS else T
set_option maxRecDepth 100000 in
set_option maxHeartbeats 4000000 in
theorem freeT_any (B b n : Nat) (T : Nat → Sl) (i : Int) (w : World) (hT : TAt w b n T) (hn : n ≤ 8) (hB : B ≤ b) : Calls Try.prog 20 #[.pointer (some ⟨b, 0, none⟩), .int .i64 i] w fun e w' => e = .returned (.int .i64 (freE n T i)) ∧ TAt w' b n (freT n T i) ∧ Kt B b w w' := by
  have hBw : B ≤ w.heap.size := Nat.le_trans hB (Nat.le_of_lt hT.lt)
  have HT := Lib.hid hT
  have CR := Lib.hid (refT_any b n T i false w hT hn)
  have HZ := Lib.hid (fun (h : refE n T i false = 0) => ref_zero h)
  obtain ⟨E, hE⟩ : ∃ E, Hid (freE n T i = E) := ⟨_, Lib.hid rfl⟩
  have HTF : Hid (freT n T i = if E = 0 then upd T i.toNat frS else T) := Lib.hid (by unfold freT; rw [hE.out])
  rw [hE.out, HTF.out]
  have HE : Hid (E = if refE n T i false = 0 then (if (T i.toNat).busy = true then 15 else 0) else refE n T i false) := Lib.hid (hE.out.symm)
  obtain ⟨r, hr⟩ : ∃ r, refE n T i false = r := ⟨_, rfl⟩
  rw [hr] at CR HZ HE
  obtain ⟨T2, hT2⟩ : ∃ T2, Hid ((if E = 0 then upd T i.toNat frS else T) = T2) := ⟨_, Lib.hid rfl⟩
  rw [hT2.out]
  clear hr hT hE HTF
  go_enter Try.func20, Try.ntmps20
  go_wp2_with fail
  refine CR.out.mono ?_
  rintro e w2 ⟨rfl, b2⟩
  have HB2 := Lib.hid b2
  have HT3 := Lib.hid (HT.out.below b2)
  clear b2 CR
  by_cases h0 : r = 0
  · obtain ⟨k, rfl, hkn, _, _⟩ := HZ.out h0
    subst h0
    have hk8 : k < 8 := by omega
    have hki : (k : Int) < 8 := by omega
    have he := HE.out
    rw [if_pos rfl, Int.toNat_natCast] at he
    have HTT := hT2.out
    rw [Int.toNat_natCast] at HTT
    obtain ⟨c0, c1, c2, c3, c4, c5, c6, c7, c8, c9⟩ := HT3.out.cs hk8
    obtain ⟨s, hs⟩ : ∃ s, T k = s := ⟨_, rfl⟩
    rw [hs] at c0 c1 c2 c3 c4 c5 c6 c7 c8 c9 he
    clear hs
    have CD := Lib.hid (isDirty_any s w2)
    cases hbz : s.busy with
    | true =>
      rw [hbz] at he CD
      rw [if_pos rfl] at he
      subst he
      have HTT := Lib.hid HTT
      clear hbz HZ HE hT2
      go_wp2_with fail
      refine CD.out.mono ?_
      rintro e w3 ⟨rfl, b3⟩
      have HB3 := Lib.hid (HB2.out.trans (b3.mono HB2.out.size))
      clear b3 CD
      go_wp2_with fail
      go_ret
      exact ⟨rfl, by rw [← HTT.out, if_neg (by decide)]; exact HT.out.below HB3.out, Kt.of_below HB3.out hBw⟩
    | false =>
      rw [hbz] at he CD
      rw [if_neg (by simp)] at he
      subst he
      have HTT := Lib.hid HTT
      clear hbz HZ HE hT2
      go_wp2_with fail
      refine CD.out.mono ?_
      rintro e w3 ⟨rfl, b3⟩
      have HB3 := Lib.hid (HB2.out.trans (b3.mono HB2.out.size))
      have HT4 : Hid (TAt w3.drew b n T) := Lib.hid (HT3.out.below b3.drew)
      have HB4 := Lib.hid HB3.out.drew
      clear b3 CD c0 c1 c2 c3 c4 c5 c6 c7 c8 c9 HT3 HB2 HB3
      go_upto_region 6 with fail
      refine wp_region_lin (S := (fun _ => True)) [(0, true), (1, true), (3, true), (4, true), (2, false), (5, true), (6, false)] (by kernel_rfl) (by kernel_rfl) rfl (by kernel_rfl) ?_ (fun hHeld => ?_)
      · (try dsimp only); try exact trivial
      generalize World.drew w3 = w4 at HT4 HB4 ⊢
      refine wpL_calm (o := { dst := some 19, op := Go.Op.move (Go.Operand.tmp 0), type := 23, pos := "slots.go:187", after := #[], guard := none }) (v := ?_) rfl (Or.inl ⟨by rfl, ?_⟩) ?_; rotate_left; (focus (intro w hSw; (try dsimp only at hSw); go_simp; (try (with_reducible rfl)); done)); try simp only [Act.put, List.setIfInBounds_toArray, List.set_cons_zero, List.set_cons_succ]
      refine wpL_calm (o := { dst := some 20, op := Go.Op.move (Go.Operand.tmp 1), type := 3, pos := "slots.go:187", after := #[], guard := none }) (v := ?_) rfl (Or.inl ⟨by rfl, ?_⟩) ?_; rotate_left; (focus (intro w hSw; (try dsimp only at hSw); go_simp; (try (with_reducible rfl)); done)); try simp only [Act.put, List.setIfInBounds_toArray, List.set_cons_zero, List.set_cons_succ]
      refine wpL_calm (o := { dst := some 22, op := Go.Op.nilCheck (Go.Operand.tmp 19), type := 0, pos := "slots.go:187", after := #[{ on := 0, ground := Go.Ground.data }], guard := none }) (v := ?_) rfl (Or.inl ⟨by rfl, ?_⟩) ?_; rotate_left; (focus (intro w hSw; (try dsimp only at hSw); go_simp; (try (with_reducible rfl)); done)); try simp only [Act.put, List.setIfInBounds_toArray, List.set_cons_zero, List.set_cons_succ]
      refine wpL_calm (o := { dst := some 23, op := Go.Op.fieldAddr 59 (Go.Operand.tmp 22) 1, type := 0, pos := "slots.go:187", after := #[{ on := 3, ground := Go.Ground.data }], guard := none }) (v := ?_) rfl (Or.inl ⟨by rfl, ?_⟩) ?_; rotate_left; (focus (intro w hSw; (try dsimp only at hSw); go_simp; (try (with_reducible rfl)); done)); try simp only [Act.put, List.setIfInBounds_toArray, List.set_cons_zero, List.set_cons_succ]
      refine wpL_loud1 (o := { dst := some 21, op := Go.Op.call { callee := Go.Callee.value (Go.Operand.func 25), args := #[], argTypes := #[] }, type := 44, pos := "slots.go:187", after := #[], guard := none }) rfl (fun K hK => ?_)
      (go_simp; go_at_call 25; refine (free_any w4).mono ?_; rintro e w5 ⟨rfl, b5⟩; have HT5 := Lib.hid (HT4.out.below b5); have HB5 := Lib.hid (HB4.out.trans (b5.mono HB4.out.size)); have hth := HT5.out.there hk8; clear b5)
      try go_wp2_with fail
      refine hK.out _ _ ?_ (fun hHeld => ?_)
      · (try dsimp only); try trivial
      clear hK K
      try simp only [Act.put, List.setIfInBounds_toArray, List.set_cons_zero, List.set_cons_succ]
      refine wpL_calm (o := { dst := some 24, op := Go.Op.indexAddr 57 (Go.Operand.tmp 23) (Go.Operand.tmp 20), type := 0, pos := "slots.go:187", after := #[{ on := 4, ground := Go.Ground.data }, { on := 1, ground := Go.Ground.data }, { on := 0, ground := Go.Ground.phase }, { on := 1, ground := Go.Ground.phase }, { on := 2, ground := Go.Ground.phase }], guard := none }) (v := ?_) rfl (Or.inl ⟨by rfl, ?_⟩) ?_; rotate_left; (focus (intro w hSw; (try dsimp only at hSw); go_simp; (try (with_reducible rfl)); done)); try simp only [Act.put, List.setIfInBounds_toArray, List.set_cons_zero, List.set_cons_succ]
      refine wpL_loud0 (o := { dst := none, op := Go.Op.store 44 (Go.Operand.tmp 24) (Go.Operand.tmp 21), type := 0, pos := "slots.go:187", after := #[{ on := 5, ground := Go.Ground.data }, { on := 2, ground := Go.Ground.data }, { on := 2, ground := Go.Ground.chain }, { on := 0, ground := Go.Ground.phase }, { on := 1, ground := Go.Ground.phase }, { on := 2, ground := Go.Ground.phase }], guard := none }) rfl (by kernel_rfl) (fun K hK => ?_)
      (rw [if_pos (by rfl)]; refine wp_store_mid 44 _ _ rfl b (1 + k * 10) #[.int .i64 (-1), .bool false, .bool false, .bool false, .bool false, .bool false, .bool false, .bool false, .bool false, .int .i64 0] rfl rfl hth (by kernel_rfl) (by simp [Value.oneCell']) ?_)
      refine hK.out _ _ ?_
      clear hK K
      try simp only [Act.put, List.setIfInBounds_toArray, List.set_cons_zero, List.set_cons_succ]
      refine wpL_nil ?_
      refine NoPanic.normal ?_
      have HT6 : Hid (TAt (w5.setCells b (1 + k * 10) #[.int .i64 (-1), .bool false, .bool false, .bool false, .bool false, .bool false, .bool false, .bool false, .bool false, .int .i64 0].toList) b n T2) := Lib.hid (by rw [← HTT.out, if_pos (by first | trivial | rfl)]; exact HT5.out.put hk8 frS)
      have HK := Lib.hid ((Kt.of_below HB5.out hBw : Kt B b w w5).sets (1 + k * 10) #[.int .i64 (-1), .bool false, .bool false, .bool false, .bool false, .bool false, .bool false, .bool false, .bool false, .int .i64 0].toList hB)
      generalize w5.setCells b (1 + k * 10) #[.int .i64 (-1), .bool false, .bool false, .bool false, .bool false, .bool false, .bool false, .bool false, .bool false, .int .i64 0].toList = w6 at *
      go_wp2_with fail
      go_ret
      exact ⟨rfl, HT6.out, HK.out⟩
  · have h0' : (r != 0) = true := by simpa using h0
    have he := HE.out
    rw [if_neg h0] at he
    subst he
    have HN := Lib.hid h0
    clear h0 HE HZ
    go_wp2_with fail
    go_ret
    exact ⟨rfl, by rw [← hT2.out, if_neg HN.out]; exact HT3.out, Kt.of_below HB2.out hBw⟩
end Go.Proofs.Ythhgodfgigcacaa
