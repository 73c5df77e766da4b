/- Package over: the law's do. -/
import Derived.Test.YtbjlmpcbjppfdaaOvH
namespace Go.Proofs.Ytbjlmpcbjppfdaa
open Go.RowKit Go.Deep
set_option linter.unusedVariables false
set_option linter.unusedSimpArgs false
theorem own_puN {w : World} {N : Nat} {v : Value} {L : List Pu} (h : PuO N w v L) : ∃ ao c, v = .slice ao L.length c ∧ L.length ≤ c ∧ c ≤ maxLen ∧ PuAt w ao L ∧ ∀ g o s, ao = some ⟨g, o, s⟩ → N ≤ g ∧ g < w.heap.size := by
  unfold PuO at h
  have h0 := h
  rcases h0.2 with ⟨rfl, hz⟩ | ⟨g, cap, cur, rfl, hb, hg, hnc, hcm, hcs, htk⟩
  · exact ⟨none, 0, by rw [hz], by omega, by unfold maxLen; omega, fun hp => by omega, fun g o s e => by cases e⟩
  · have hgl := (Array.getElem?_eq_some_iff.1 hg).1
    refine ⟨_, _, rfl, hnc, hcm, fun hp => ⟨g, 0, rfl, hgl, fun i hi => ?_⟩, fun g' o s e => by injection e with e; injection e with e1; subst e1; exact ⟨hb, hgl⟩⟩
    have h2 := puC_get L i hi
    have c0 := h.cells (g := g) rfl (i * 2) _ h2.1
    have c1 := h.cells (g := g) rfl (i * 2 + 1) _ h2.2
    rw [Addr.add_lit] at c0 c1
    exact ⟨c0, c1⟩
theorem PuAt.kq {A : Nat} {M : List Nat} {w w' : World} {ao : Option Addr} {L : List Pu} (h : PuAt w ao L) (k : Kq A M w w') (hf : ∀ g o s, ao = some ⟨g, o, s⟩ → g ∉ M) : PuAt w' ao L := fun hp => by
  obtain ⟨g, o, e, hg, hc⟩ := h hp
  exact ⟨g, o, e, Nat.lt_of_lt_of_le hg k.below.size, fun i hi => ⟨k.cell (hf _ _ _ e) (hc i hi).1, k.cell (hf _ _ _ e) (hc i hi).2⟩⟩
/-- A sheet in play, and what it is held against. -/
structure Dw (w : World) (B p b : Nat) (ao : Option Addr) (L : List Pu) : Prop where
  sh : ShAt w B p b L
  pu : PuAt w ao L
  far : ∀ g o s, ao = some ⟨g, o, s⟩ → g ≠ p ∧ g ≠ b ∧ B ≤ g ∧ g < w.heap.size
theorem Dw.below {w w' : World} {B p b : Nat} {ao : Option Addr} {L : List Pu} (h : Dw w B p b ao L) (k : Below w.heap.size w w') : Dw w' B p b ao L :=
  ⟨h.sh.below k, h.pu.below k, fun g o s e => by obtain ⟨h1, h2, h3, h4⟩ := h.far g o s e; exact ⟨h1, h2, h3, Nat.lt_of_lt_of_le h4 k.size⟩⟩
def doL (L : List Pu) (k : Int) (x : Pu) : List Pu := if k = 0 ∨ k = 1 ∨ k = 2 then setL L x else if k = 4 then delL L x.1 else if k = 5 then [] else L
theorem doL_len (L : List Pu) (k : Int) (x : Pu) : (doL L k x).length ≤ L.length + 1 := by
  unfold doL
  split
  · exact setL_len L x
  · split
    · have : (delL L x.1).length ≤ L.length := List.length_filter_le _ _
      omega
    · split <;> simp
theorem del_none {L : List Pu} {a : Int} (h : findL L a = none) : delL L a = L := by
  unfold findL at h
  unfold delL
  rw [List.find?_eq_none] at h
  rw [List.filter_eq_self]
  intro x hx
  simpa using h x hx
/-- What do answers. -/
def DoR (B p b : Nat) (ao : Option Addr) (L' : List Pu) (w : World) (e : Ending) (w' : World) : Prop := ∃ b' ao' c', e = .returned (.tuple #[.slice ao' L'.length c', .bool true]) ∧ Dw w' B p b' ao' L' ∧ (b' = b ∨ w.heap.size ≤ b') ∧ Kq B [p, b] w w' ∧ (ao' = ao ∨ ∀ g o s, ao' = some ⟨g, o, s⟩ → w.heap.size ≤ g)
def actV (k : Int) (x : Pu) : Value := .agg #[.int .i64 k, .int .i64 x.1, .string x.2]
theorem act_box (w : World) (k a : Int) (s : ByteArray) : ∃ w1 gx, Hid (w.alloc (.cells #[.int .i64 k, .int .i64 a, .string s] 31) = w1) ∧ Hid (w.heap.size = gx) ∧ Hid (Below w.heap.size w w1) ∧ gx < w1.heap.size ∧ w1.cell? ⟨gx, 0, none⟩ = some (.int .i64 k) ∧ w1.cell? ⟨gx, 1, none⟩ = some (.int .i64 a) ∧ w1.cell? ⟨gx, 2, none⟩ = some (.string s) :=
  ⟨_, _, Lib.hid rfl, Lib.hid rfl, Lib.hid ((Below.refl _ _).alloc (Nat.le_refl _) _), by simp, World.cell?_alloc_at _ _ _ _ rfl, World.cell?_alloc_at _ _ _ _ rfl, World.cell?_alloc_at _ _ _ _ rfl⟩
section
variable {w : World} {B p b c : Nat} {ao : Option Addr} {L : List Pu}
set_option maxRecDepth 100000 in
set_option maxHeartbeats 8000000 in
theorem do012_any (q : Dw w B p b ao L) (k a : Int) (s : ByteArray) (ha : InI a) (hn : L.length ≤ 5000) (hk : k = 0 ∨ k = 1 ∨ k = 2) : Calls Try.prog 8 #[.pointer (some ⟨p, 0, none⟩), .slice ao L.length c, .agg #[.int .i64 k, .int .i64 a, .string s]] w (DoR B p b ao (setL L (a, s)) w) := by
  obtain ⟨w1, gx, HW, HG, HB1, hgx, y0, y1, y2⟩ := act_box w k a s
  have HQ1 := Lib.hid (q.below HB1.out)
  have hbw := q.sh.bw
  have hpw := q.sh.lt
  have hbw2 := q.sh.blt
  have CA := Lib.hid (rat_any ao c L a w1 HQ1.out.pu (by omega))
  have B1d : Below w1.heap.size w1 w1.drew := (Below.refl _ _).drew
  have HQ2 := Lib.hid (HQ1.out.below B1d)
  have CS := Lib.hid (rset_any ao c L (a, s) w1.drew HQ2.out.pu (by omega))
  have HAI := Lib.hid ha
  have hln : L.length < 100000 := by omega
  clear q B1d ha
  unfold putV at CS
  rcases hk with rfl | rfl | rfl
  all_goals
    as_aux_lemma =>
    go_enter Try.func8, Try.ntmps8
    go_upto_region 1 with fail
    rw [HW.out, HG.out]
    clear HW
    go_wp2_with fail
    refine CA.out.mono ?_
    rintro e w1' ⟨k, rfl, _, rfl⟩
    go_upto_region 6 with fail
    refine wp_region_lin (S := (fun w' => w'.cell? ⟨gx, 1, none⟩ = some (.int .i64 a) ∧ w'.cell? ⟨gx, 2, none⟩ = some (.string s))) [(0, true), (1, true), (2, true), (4, true), (5, true), (6, true), (7, true), (8, true), (9, true), (10, true), (3, false), (11, false), (12, true), (13, true)] (by kernel_rfl) (by kernel_rfl) rfl (by kernel_rfl) ?_ (fun hHeld => ?_)
    · (try dsimp only); exact ⟨y1, y2⟩
    refine wpL_calm (o := { dst := some 22, op := Go.Op.move (Go.Operand.tmp 1), type := 25, pos := "law.go:31", after := #[], guard := none }) (v := ?_) rfl (Or.inl ⟨by rfl, ?_⟩) ?_; rotate_left; (focus (intro w hSw; (try dsimp only at hSw); go_simp; (try (with_reducible rfl)); done)); try simp only [Act.put, List.setIfInBounds_toArray, List.set_cons_zero, List.set_cons_succ]
    refine wpL_calm (o := { dst := some 23, op := Go.Op.fieldAddr 31 (Go.Operand.tmp 5) 1, type := 0, pos := "law.go:31", after := #[], guard := none }) (v := ?_) rfl (Or.inl ⟨by rfl, ?_⟩) ?_; rotate_left; (focus (intro w hSw; (try dsimp only at hSw); go_simp; (try (with_reducible rfl)); done)); try simp only [Act.put, List.setIfInBounds_toArray, List.set_cons_zero, List.set_cons_succ]
    refine wpL_calm (o := { dst := some 24, op := Go.Op.load 29 (Go.Operand.tmp 23), type := 29, pos := "law.go:31", after := #[{ on := 1, ground := Go.Ground.data }], guard := none }) (v := .agg #[.int .i64 a, .string s]) rfl (Or.inl ⟨by rfl, fun w' hS => (loadedM_ptO hS.1 hS.2).op _ rfl rfl⟩) ?_
    try simp only [Act.put, List.setIfInBounds_toArray, List.set_cons_zero, List.set_cons_succ]
    refine wpL_calm (o := { dst := some 26, op := Go.Op.move (Go.Operand.tmp 0), type := 23, pos := "law.go:31", after := #[], guard := none }) (v := ?_) rfl (Or.inl ⟨by rfl, ?_⟩) ?_; rotate_left; (focus (intro w hSw; (try dsimp only at hSw); go_simp; (try (with_reducible rfl)); done)); try simp only [Act.put, List.setIfInBounds_toArray, List.set_cons_zero, List.set_cons_succ]
    refine wpL_calm (o := { dst := some 27, op := Go.Op.fieldAddr 31 (Go.Operand.tmp 5) 1, type := 0, pos := "law.go:31", after := #[], guard := none }) (v := ?_) rfl (Or.inl ⟨by rfl, ?_⟩) ?_; rotate_left; (focus (intro w hSw; (try dsimp only at hSw); go_simp; (try (with_reducible rfl)); done)); try simp only [Act.put, List.setIfInBounds_toArray, List.set_cons_zero, List.set_cons_succ]
    refine wpL_calm (o := { dst := some 28, op := Go.Op.fieldAddr 29 (Go.Operand.tmp 27) 0, type := 0, pos := "law.go:31", after := #[{ on := 5, ground := Go.Ground.data }], guard := none }) (v := ?_) rfl (Or.inl ⟨by rfl, ?_⟩) ?_; rotate_left; (focus (intro w hSw; (try dsimp only at hSw); go_simp; (try (with_reducible rfl)); done)); try simp only [Act.put, List.setIfInBounds_toArray, List.set_cons_zero, List.set_cons_succ]
    refine wpL_calm (o := { dst := some 29, op := Go.Op.load 3 (Go.Operand.tmp 28), type := 3, pos := "law.go:31", after := #[{ on := 6, ground := Go.Ground.data }], guard := none }) (v := ?_) rfl (Or.inl ⟨by rfl, ?_⟩) ?_; rotate_left; (focus (intro w hSw; (try dsimp only at hSw); go_simp; (try (with_reducible rfl)); done)); try simp only [Act.put, List.setIfInBounds_toArray, List.set_cons_zero, List.set_cons_succ]
    refine wpL_calm (o := { dst := some 30, op := Go.Op.fieldAddr 31 (Go.Operand.tmp 5) 1, type := 0, pos := "law.go:31", after := #[], guard := none }) (v := ?_) rfl (Or.inl ⟨by rfl, ?_⟩) ?_; rotate_left; (focus (intro w hSw; (try dsimp only at hSw); go_simp; (try (with_reducible rfl)); done)); try simp only [Act.put, List.setIfInBounds_toArray, List.set_cons_zero, List.set_cons_succ]
    refine wpL_calm (o := { dst := some 31, op := Go.Op.fieldAddr 29 (Go.Operand.tmp 30) 1, type := 0, pos := "law.go:31", after := #[{ on := 8, ground := Go.Ground.data }], guard := none }) (v := ?_) rfl (Or.inl ⟨by rfl, ?_⟩) ?_; rotate_left; (focus (intro w hSw; (try dsimp only at hSw); go_simp; (try (with_reducible rfl)); done)); try simp only [Act.put, List.setIfInBounds_toArray, List.set_cons_zero, List.set_cons_succ]
    refine wpL_calm (o := { dst := some 32, op := Go.Op.load 9 (Go.Operand.tmp 31), type := 9, pos := "law.go:31", after := #[{ on := 9, ground := Go.Ground.data }], guard := none }) (v := ?_) rfl (Or.inl ⟨by rfl, ?_⟩) ?_; rotate_left; (focus (intro w hSw; (try dsimp only at hSw); go_simp; (try (with_reducible rfl)); done)); try simp only [Act.put, List.setIfInBounds_toArray, List.set_cons_zero, List.set_cons_succ]
    refine wpL_loud1 (o := { dst := some 25, op := Go.Op.call { callee := Go.Callee.value (Go.Operand.func 15), args := #[Go.Operand.tmp 22, Go.Operand.tmp 24], argTypes := #[25, 29] }, type := 25, pos := "law.go:31", after := #[{ on := 0, ground := Go.Ground.data }, { on := 2, ground := Go.Ground.data }], guard := none }) rfl (fun K hK => ?_)
    (go_simp; go_at_call 15; refine CS.out.mono ?_; rintro e w3 ⟨v, rfl, hO, hb⟩; have HO := Lib.hid hO; have HB3 := Lib.hid hb; have HQ3 := Lib.hid (HQ2.out.below hb); have CO := Lib.hid (oset_any (a, s) (HQ2.out.sh.below hb) HAI.out hln); clear hO hb)
    try go_wp2_with fail
    refine hK.out _ _ ?_ (fun hHeld => ?_)
    · (try dsimp only); exact ⟨(HB3.out.cell (p := ⟨gx, 1, none⟩) hgx).trans hHeld.1, (HB3.out.cell (p := ⟨gx, 2, none⟩) hgx).trans hHeld.2⟩
    clear hK K
    try simp only [Act.put, List.setIfInBounds_toArray, List.set_cons_zero, List.set_cons_succ]
    refine wpL_loud1 (o := { dst := some 33, op := Go.Op.call { callee := Go.Callee.value (Go.Operand.func 14), args := #[Go.Operand.tmp 26, Go.Operand.tmp 29, Go.Operand.tmp 32], argTypes := #[23, 3, 9] }, type := 4, pos := "law.go:31", after := #[{ on := 4, ground := Go.Ground.data }, { on := 7, ground := Go.Ground.data }, { on := 10, ground := Go.Ground.data }, { on := 3, ground := Go.Ground.chain }], guard := none }) rfl (fun K hK => ?_)
    (go_simp; go_at_call 14; refine CO.out.mono ?_; rintro e w4 ⟨rfl, q4, k4⟩; have HQ4 := Lib.hid q4; have HK4 := Lib.hid k4; clear q4 k4)
    try go_wp2_with fail
    refine hK.out _ _ ?_ (fun hHeld => ?_)
    · (try dsimp only); exact ⟨HK4.out.cell (by simp; have := HG.out; omega) hHeld.1, HK4.out.cell (by simp; have := HG.out; omega) hHeld.2⟩
    clear hK K
    try simp only [Act.put, List.setIfInBounds_toArray, List.set_cons_zero, List.set_cons_succ]
    refine wpL_calm (o := { dst := some 6, op := Go.Op.assign (Go.Operand.tmp 25), type := 25, pos := "law.go:31", after := #[{ on := 3, ground := Go.Ground.data }, { on := 11, ground := Go.Ground.chain }, { on := 0, ground := Go.Ground.phase }, { on := 1, ground := Go.Ground.phase }, { on := 2, ground := Go.Ground.phase }, { on := 3, ground := Go.Ground.phase }, { on := 4, ground := Go.Ground.textOnly Go.Departure.lateStores }, { on := 5, ground := Go.Ground.textOnly Go.Departure.lateStores }, { on := 6, ground := Go.Ground.textOnly Go.Departure.lateStores }, { on := 7, ground := Go.Ground.textOnly Go.Departure.lateStores }, { on := 8, ground := Go.Ground.textOnly Go.Departure.lateStores }, { on := 9, ground := Go.Ground.textOnly Go.Departure.lateStores }, { on := 10, ground := Go.Ground.textOnly Go.Departure.lateStores }, { on := 11, ground := Go.Ground.textOnly Go.Departure.lateStoresUnsure }], guard := none }) (v := ?_) rfl (Or.inl ⟨by rfl, ?_⟩) ?_; rotate_left; (focus (intro w hSw; (try dsimp only at hSw); go_simp; (try (with_reducible rfl)); done)); try simp only [Act.put, List.setIfInBounds_toArray, List.set_cons_zero, List.set_cons_succ]
    refine wpL_calm (o := { dst := some 7, op := Go.Op.assign (Go.Operand.tmp 33), type := 4, pos := "law.go:31", after := #[{ on := 11, ground := Go.Ground.data }, { on := 12, ground := Go.Ground.chain }, { on := 0, ground := Go.Ground.phase }, { on := 1, ground := Go.Ground.phase }, { on := 2, ground := Go.Ground.phase }, { on := 3, ground := Go.Ground.phase }, { on := 4, ground := Go.Ground.phase }, { on := 5, ground := Go.Ground.phase }, { on := 6, ground := Go.Ground.phase }, { on := 7, ground := Go.Ground.phase }, { on := 8, ground := Go.Ground.phase }, { on := 9, ground := Go.Ground.phase }, { on := 10, ground := Go.Ground.phase }, { on := 11, ground := Go.Ground.phase }, { on := 12, ground := Go.Ground.phase }], guard := none }) (v := ?_) rfl (Or.inl ⟨by rfl, ?_⟩) ?_; rotate_left; (focus (intro w hSw; (try dsimp only at hSw); go_simp; (try (with_reducible rfl)); done)); try simp only [Act.put, List.setIfInBounds_toArray, List.set_cons_zero, List.set_cons_succ]
    refine wpL_nil ?_
    refine NoPanic.normal ?_
    obtain ⟨ao', c', rfl, _, _, hpu, hfar⟩ := own_puN HO.out
    have HPU := Lib.hid hpu
    have HFA := Lib.hid hfar
    clear hpu hfar HO CS CO CA y0 y1 y2 hHeld
    go_wp2_with fail
    go_ret2
    have s1 := HB1.out.size
    have s3 := HB3.out.size
    have hsd : w1.drew.heap.size = w1.heap.size := rfl
    refine ⟨b, ao', c', rfl, ⟨HQ4.out, HPU.out.kq HK4.out (fun g o s e => ?_), fun g o s e => ?_⟩, Or.inl rfl, ((Kq.of_below HB1.out hbw).trans ((Kq.of_below ((Below.refl _ _).drew) (by omega)).trans (Kq.of_below HB3.out (by omega)))).trans HK4.out, Or.inr (fun g o s e => by have := (HFA.out g o s e).1; omega)⟩
    · have := (HFA.out g o s e).1
      simp
      omega
    · have h1 := (HFA.out g o s e).1
      have h2 := (HFA.out g o s e).2
      have h3 := HK4.out.below.size
      exact ⟨by omega, by omega, by omega, by omega⟩
set_option maxRecDepth 100000 in
set_option maxHeartbeats 8000000 in
theorem do4_any (q : Dw w B p b ao L) (a : Int) (s : ByteArray) (ha : InI a) (hn : L.length ≤ 5000) : Calls Try.prog 8 #[.pointer (some ⟨p, 0, none⟩), .slice ao L.length c, .agg #[.int .i64 4, .int .i64 a, .string s]] w (DoR B p b ao (delL L a) w) := by
  obtain ⟨w1, gx, HW, HG, HB1, hgx, y0, y1, y2⟩ := act_box w 4 a s
  have HQ1 := Lib.hid (q.below HB1.out)
  have hbw := q.sh.bw
  have hpw := q.sh.lt
  have hbw2 := q.sh.blt
  have CA := Lib.hid (rat_any ao c L a w1 HQ1.out.pu (by omega))
  have B1d : Below w1.heap.size w1 w1.drew := (Below.refl _ _).drew
  have HQ2 := Lib.hid (HQ1.out.below B1d)
  have CS := Lib.hid (rdrop_any ao c L a w1.drew HQ2.out.pu (by omega))
  have HAI := Lib.hid ha
  have hln : L.length < 100000 := by omega
  clear q B1d ha
  go_enter Try.func8, Try.ntmps8
  go_upto_region 1 with fail
  rw [HW.out, HG.out]
  clear HW
  go_wp2_with fail
  refine CA.out.mono ?_
  rintro e w1' ⟨k, rfl, HP, rfl⟩
  obtain ⟨r, HR, HD, HI⟩ : ∃ r : Bool, Hid ((findL L a).isSome = r) ∧ Hid ((if (findL L a).isSome = true then delL L a else L) = delL L a) ∧ Hid (decide (0 ≤ k) = r) := by
    rcases HP.out with ⟨h1, rfl⟩ | ⟨i, hi, rfl, h1⟩
    · exact ⟨false, Lib.hid (by rw [h1]; rfl), Lib.hid (by rw [h1]; exact (del_none h1).symm), Lib.hid (by decide)⟩
    · exact ⟨true, Lib.hid (by rw [h1]; rfl), Lib.hid (by rw [h1]; rfl), Lib.hid (decide_eq_true (by omega))⟩
  have CD : Hid (∀ w3, Dw w3 B p b ao L → Calls Try.prog 19 #[.pointer (some ⟨p, 0, none⟩), .int .i64 a] w3 fun e w' => e = .returned (.bool r) ∧ ShAt w' B p b (delL L a) ∧ Kq B [p, b] w3 w') := Lib.hid (fun w3 q3 => by
    have := odrop_any a q3.sh HAI.out
    rw [HD.out, HR.out] at this
    exact this)
  have hir := HI.out
  clear HP HR HD HI
  go_upto_region 8 with fail
  refine wp_region_lin (S := (fun w' => w'.cell? ⟨gx, 1, none⟩ = some (.int .i64 a))) [(0, true), (1, true), (2, true), (3, true), (5, true), (6, true), (7, true), (8, true), (10, true), (11, true), (4, false), (9, false), (12, true), (13, true), (14, true)] (by kernel_rfl) (by kernel_rfl) rfl (by kernel_rfl) ?_ (fun hHeld => ?_)
  · (try dsimp only); exact y1
  refine wpL_calm (o := { dst := some 36, op := Go.Op.move (Go.Operand.tmp 1), type := 25, pos := "law.go:33", after := #[], guard := none }) (v := ?_) rfl (Or.inl ⟨by rfl, ?_⟩) ?_; rotate_left; (focus (intro w hSw; (try dsimp only at hSw); go_simp; (try (with_reducible rfl)); done)); try simp only [Act.put, List.setIfInBounds_toArray, List.set_cons_zero, List.set_cons_succ]
  refine wpL_calm (o := { dst := some 37, op := Go.Op.fieldAddr 31 (Go.Operand.tmp 5) 1, type := 0, pos := "law.go:33", after := #[], guard := none }) (v := ?_) rfl (Or.inl ⟨by rfl, ?_⟩) ?_; rotate_left; (focus (intro w hSw; (try dsimp only at hSw); go_simp; (try (with_reducible rfl)); done)); try simp only [Act.put, List.setIfInBounds_toArray, List.set_cons_zero, List.set_cons_succ]
  refine wpL_calm (o := { dst := some 38, op := Go.Op.fieldAddr 29 (Go.Operand.tmp 37) 0, type := 0, pos := "law.go:33", after := #[{ on := 1, ground := Go.Ground.data }], guard := none }) (v := ?_) rfl (Or.inl ⟨by rfl, ?_⟩) ?_; rotate_left; (focus (intro w hSw; (try dsimp only at hSw); go_simp; (try (with_reducible rfl)); done)); try simp only [Act.put, List.setIfInBounds_toArray, List.set_cons_zero, List.set_cons_succ]
  refine wpL_calm (o := { dst := some 39, op := Go.Op.load 3 (Go.Operand.tmp 38), type := 3, pos := "law.go:33", after := #[{ on := 2, ground := Go.Ground.data }], guard := none }) (v := ?_) rfl (Or.inl ⟨by rfl, ?_⟩) ?_; rotate_left; (focus (intro w hSw; (try dsimp only at hSw); go_simp; (try (with_reducible rfl)); done)); try simp only [Act.put, List.setIfInBounds_toArray, List.set_cons_zero, List.set_cons_succ]
  refine wpL_calm (o := { dst := some 41, op := Go.Op.move (Go.Operand.tmp 0), type := 23, pos := "law.go:33", after := #[], guard := none }) (v := ?_) rfl (Or.inl ⟨by rfl, ?_⟩) ?_; rotate_left; (focus (intro w hSw; (try dsimp only at hSw); go_simp; (try (with_reducible rfl)); done)); try simp only [Act.put, List.setIfInBounds_toArray, List.set_cons_zero, List.set_cons_succ]
  refine wpL_calm (o := { dst := some 42, op := Go.Op.fieldAddr 31 (Go.Operand.tmp 5) 1, type := 0, pos := "law.go:33", after := #[], guard := none }) (v := ?_) rfl (Or.inl ⟨by rfl, ?_⟩) ?_; rotate_left; (focus (intro w hSw; (try dsimp only at hSw); go_simp; (try (with_reducible rfl)); done)); try simp only [Act.put, List.setIfInBounds_toArray, List.set_cons_zero, List.set_cons_succ]
  refine wpL_calm (o := { dst := some 43, op := Go.Op.fieldAddr 29 (Go.Operand.tmp 42) 0, type := 0, pos := "law.go:33", after := #[{ on := 6, ground := Go.Ground.data }], guard := none }) (v := ?_) rfl (Or.inl ⟨by rfl, ?_⟩) ?_; rotate_left; (focus (intro w hSw; (try dsimp only at hSw); go_simp; (try (with_reducible rfl)); done)); try simp only [Act.put, List.setIfInBounds_toArray, List.set_cons_zero, List.set_cons_succ]
  refine wpL_calm (o := { dst := some 44, op := Go.Op.load 3 (Go.Operand.tmp 43), type := 3, pos := "law.go:33", after := #[{ on := 7, ground := Go.Ground.data }], guard := none }) (v := ?_) rfl (Or.inl ⟨by rfl, ?_⟩) ?_; rotate_left; (focus (intro w hSw; (try dsimp only at hSw); go_simp; (try (with_reducible rfl)); done)); try simp only [Act.put, List.setIfInBounds_toArray, List.set_cons_zero, List.set_cons_succ]
  refine wpL_calm (o := { dst := some 46, op := Go.Op.move (Go.Operand.tmp 8), type := 3, pos := "law.go:33", after := #[{ on := 13, ground := Go.Ground.gcOnly Go.Departure.lateStores }], guard := none }) (v := ?_) rfl (Or.inl ⟨by rfl, ?_⟩) ?_; rotate_left; (focus (intro w hSw; (try dsimp only at hSw); go_simp; (try (with_reducible rfl)); done)); try simp only [Act.put, List.setIfInBounds_toArray, List.set_cons_zero, List.set_cons_succ]
  refine wpL_calm (o := { dst := some 47, op := Go.Op.binOp Go.BinOp.geq 3 (Go.Operand.tmp 46) (Go.Operand.const (Go.Value.int Go.IntKind.i64 0)) 3, type := 4, pos := "law.go:33", after := #[{ on := 10, ground := Go.Ground.data }, { on := 13, ground := Go.Ground.gcOnly Go.Departure.lateStores }], guard := none }) (v := ?_) rfl (Or.inl ⟨by rfl, ?_⟩) ?_; rotate_left; (focus (intro w hSw; (try dsimp only at hSw); go_simp; (try (with_reducible rfl)); done)); try simp only [Act.put, List.setIfInBounds_toArray, List.set_cons_zero, List.set_cons_succ]
  refine wpL_loud1 (o := { dst := some 40, op := Go.Op.call { callee := Go.Callee.value (Go.Operand.func 21), args := #[Go.Operand.tmp 36, Go.Operand.tmp 39], argTypes := #[25, 3] }, type := 25, pos := "law.go:33", after := #[{ on := 0, ground := Go.Ground.data }, { on := 3, ground := Go.Ground.data }], guard := none }) rfl (fun K hK => ?_)
  (go_simp; go_at_call 21; refine CS.out.mono ?_; rintro e w3 ⟨v, rfl, hO, hb⟩; have HO := Lib.hid hO; have HB3 := Lib.hid hb; have CO := Lib.hid (CD.out w3 (HQ2.out.below hb)); clear hO hb)
  try go_wp2_with fail
  refine hK.out _ _ ?_ (fun hHeld => ?_)
  · (try dsimp only); exact (HB3.out.cell (p := ⟨gx, 1, none⟩) hgx).trans hHeld
  clear hK K
  try simp only [Act.put, List.setIfInBounds_toArray, List.set_cons_zero, List.set_cons_succ]
  refine wpL_loud1 (o := { dst := some 45, op := Go.Op.call { callee := Go.Callee.value (Go.Operand.func 19), args := #[Go.Operand.tmp 41, Go.Operand.tmp 44], argTypes := #[23, 3] }, type := 4, pos := "law.go:33", after := #[{ on := 5, ground := Go.Ground.data }, { on := 8, ground := Go.Ground.data }, { on := 4, ground := Go.Ground.chain }], guard := none }) rfl (fun K hK => ?_)
  (go_simp; go_at_call 19; refine CO.out.mono ?_; rintro e w4 ⟨rfl, q4, k4⟩; have HQ4 := Lib.hid q4; have HK4 := Lib.hid k4; clear q4 k4)
  try go_wp2_with fail
  refine hK.out _ _ ?_ (fun hHeld => ?_)
  · (try dsimp only); exact HK4.out.cell (by simp; have := HG.out; omega) hHeld
  clear hK K
  try simp only [Act.put, List.setIfInBounds_toArray, List.set_cons_zero, List.set_cons_succ]
  refine wpL_calm (o := { dst := some 48, op := Go.Op.binOp Go.BinOp.eql 4 (Go.Operand.tmp 45) (Go.Operand.tmp 47) 4, type := 4, pos := "law.go:33", after := #[{ on := 9, ground := Go.Ground.data }, { on := 11, ground := Go.Ground.data }, { on := 13, ground := Go.Ground.gcOnly Go.Departure.lateStores }], guard := none }) (v := ?_) rfl (Or.inl ⟨by rfl, ?_⟩) ?_; rotate_left; (focus (intro w hSw; (try dsimp only at hSw); go_simp; (try (with_reducible rfl)); done)); try simp only [Act.put, List.setIfInBounds_toArray, List.set_cons_zero, List.set_cons_succ]
  refine wpL_calm (o := { dst := some 6, op := Go.Op.assign (Go.Operand.tmp 40), type := 25, pos := "law.go:33", after := #[{ on := 4, ground := Go.Ground.data }, { on := 9, ground := Go.Ground.chain }, { on := 0, ground := Go.Ground.phase }, { on := 1, ground := Go.Ground.phase }, { on := 2, ground := Go.Ground.phase }, { on := 3, ground := Go.Ground.phase }, { on := 4, ground := Go.Ground.phase }, { on := 5, ground := Go.Ground.textOnly Go.Departure.lateStores }, { on := 6, ground := Go.Ground.textOnly Go.Departure.lateStores }, { on := 7, ground := Go.Ground.textOnly Go.Departure.lateStores }, { on := 8, ground := Go.Ground.textOnly Go.Departure.lateStores }, { on := 9, ground := Go.Ground.textOnly Go.Departure.lateStoresUnsure }, { on := 10, ground := Go.Ground.textOnly Go.Departure.lateStores }, { on := 11, ground := Go.Ground.textOnly Go.Departure.lateStores }, { on := 12, ground := Go.Ground.textOnly Go.Departure.lateStores }], guard := none }) (v := ?_) rfl (Or.inl ⟨by rfl, ?_⟩) ?_; rotate_left; (focus (intro w hSw; (try dsimp only at hSw); go_simp; (try (with_reducible rfl)); done)); try simp only [Act.put, List.setIfInBounds_toArray, List.set_cons_zero, List.set_cons_succ]
  refine wpL_calm (o := { dst := some 7, op := Go.Op.assign (Go.Operand.tmp 48), type := 4, pos := "law.go:33", after := #[{ on := 12, ground := Go.Ground.data }, { on := 13, ground := Go.Ground.chain }, { on := 0, ground := Go.Ground.phase }, { on := 1, ground := Go.Ground.phase }, { on := 2, ground := Go.Ground.phase }, { on := 3, ground := Go.Ground.phase }, { on := 4, ground := Go.Ground.phase }, { on := 5, ground := Go.Ground.phase }, { on := 6, ground := Go.Ground.phase }, { on := 7, ground := Go.Ground.phase }, { on := 8, ground := Go.Ground.phase }, { on := 9, ground := Go.Ground.phase }, { on := 10, ground := Go.Ground.phase }, { on := 11, ground := Go.Ground.phase }, { on := 12, ground := Go.Ground.phase }, { on := 13, ground := Go.Ground.phase }], guard := none }) (v := ?_) rfl (Or.inl ⟨by rfl, ?_⟩) ?_; rotate_left; (focus (intro w hSw; (try dsimp only at hSw); go_simp; (try (with_reducible rfl)); done)); try simp only [Act.put, List.setIfInBounds_toArray, List.set_cons_zero, List.set_cons_succ]
  refine wpL_nil ?_
  refine NoPanic.normal ?_
  obtain ⟨ao', c', rfl, _, _, hpu, hfar⟩ := own_puN HO.out
  have HPU := Lib.hid hpu
  have HFA := Lib.hid hfar
  clear hpu hfar HO CS CO CA y0 y1 y2 hHeld CD
  go_wp2_with fail
  go_ret2
  have s1 := HB1.out.size
  have s3 := HB3.out.size
  have hsd : w1.drew.heap.size = w1.heap.size := rfl
  refine ⟨b, ao', c', by first | rfl | simp, ⟨HQ4.out, HPU.out.kq HK4.out (fun g o s e => ?_), fun g o s e => ?_⟩, Or.inl rfl, ((Kq.of_below HB1.out hbw).trans ((Kq.of_below ((Below.refl _ _).drew) (by omega)).trans (Kq.of_below HB3.out (by omega)))).trans HK4.out, Or.inr (fun g o s e => by have := (HFA.out g o s e).1; omega)⟩
  · have := (HFA.out g o s e).1
    simp
    omega
  · have h1 := (HFA.out g o s e).1
    have h2 := (HFA.out g o s e).2
    have h3 := HK4.out.below.size
    exact ⟨by omega, by omega, by omega, by omega⟩
set_option maxRecDepth 100000 in
set_option maxHeartbeats 8000000 in
theorem do5_any (q : Dw w B p b ao L) (a : Int) (s : ByteArray) (hn : L.length ≤ 5000) : Calls Try.prog 8 #[.pointer (some ⟨p, 0, none⟩), .slice ao L.length c, .agg #[.int .i64 5, .int .i64 a, .string s]] w (DoR B p b ao [] w) := by
  obtain ⟨w1, gx, HW, HG, HB1, hgx, y0, y1, y2⟩ := act_box w 5 a s
  have HQ1 := Lib.hid (q.below HB1.out)
  have hbw := q.sh.bw
  have CA := Lib.hid (rat_any ao c L a w1 HQ1.out.pu (by omega))
  have CC := Lib.hid (oclear_any HQ1.out.sh)
  clear q
  go_enter Try.func8, Try.ntmps8
  go_upto_region 1 with fail
  rw [HW.out, HG.out]
  clear HW
  go_wp2_with fail
  refine CA.out.mono ?_
  rintro e w1' ⟨k, rfl, HP, rfl⟩
  go_wp2_with fail
  refine CC.out.mono ?_
  rintro e w4 ⟨b', hb', rfl, q4, k4⟩
  have HQ4 := Lib.hid q4
  have HK4 := Lib.hid k4
  clear q4 k4
  go_wp2_with fail
  go_ret2
  have s1 := HB1.out.size
  exact ⟨b', none, 0, rfl, ⟨HQ4.out, fun h => absurd h (by simp), fun g o s e => by cases e⟩, Or.inr (by omega), (Kq.of_below HB1.out hbw).trans HK4.out, Or.inr (fun g o s e => by cases e)⟩
set_option maxRecDepth 100000 in
set_option maxHeartbeats 8000000 in
theorem dox_any (q : Dw w B p b ao L) (k a : Int) (s : ByteArray) (ha : InI a) (hn : L.length ≤ 5000) (h0 : (k == 0) = false) (h1 : (k == 1) = false) (h2 : (k == 2) = false) (h4 : (k == 4) = false) (h5 : (k == 5) = false) : Calls Try.prog 8 #[.pointer (some ⟨p, 0, none⟩), .slice ao L.length c, .agg #[.int .i64 k, .int .i64 a, .string s]] w (DoR B p b ao L w) := by
  obtain ⟨w1, gx, HW, HG, HB1, hgx, y0, y1, y2⟩ := act_box w k a s
  have HQ1 := Lib.hid (q.below HB1.out)
  have hbw := q.sh.bw
  have CA := Lib.hid (rat_any ao c L a w1 HQ1.out.pu (by omega))
  have CG := Lib.hid (oget_any a HQ1.out.sh ha)
  clear q
  go_enter Try.func8, Try.ntmps8
  go_upto_region 1 with fail
  rw [HW.out, HG.out]
  clear HW
  go_wp2_with fail
  refine CA.out.mono ?_
  rintro e w1' ⟨i, rfl, HP, rfl⟩
  have HF : ∀ w', Below w1.heap.size w1 w' → DoR B p b ao L w (.returned (.tuple #[.slice ao L.length c, .bool true])) w' := fun w' k => ⟨b, ao, c, rfl, HQ1.out.below k, Or.inl rfl, (Kq.of_below HB1.out hbw).trans (Kq.of_below k (by have := HB1.out.size; omega)), Or.inl rfl⟩
  have HF2 := Lib.hid HF
  clear HF
  rcases HP.out with ⟨hf, rfl⟩ | ⟨i, hi, rfl, hf⟩
  · as_aux_lemma =>
    have CG2 : Hid (Calls Try.prog 18 #[.pointer (some ⟨p, 0, none⟩), .int .i64 a] w1 fun e w' => e = .returned (.tuple #[.string ⟨#[]⟩, .bool false]) ∧ Below w1.heap.size w1 w') := Lib.hid (by
      have := CG.out
      unfold gotV at this
      rw [hf] at this
      exact this)
    clear CG HP hf
    go_wp2_with fail
    refine CG2.out.mono ?_
    rintro e w4 ⟨rfl, b4⟩
    have HB4 := Lib.hid b4
    clear b4
    go_wp2_with fail
    go_ret2
    exact HF2.out _ (by first | exact HB4.out | exact HB4.out.drew)
  · as_aux_lemma =>
    have CG2 : Hid (Calls Try.prog 18 #[.pointer (some ⟨p, 0, none⟩), .int .i64 a] w1 fun e w' => e = .returned (.tuple #[.string L[i].2, .bool true]) ∧ Below w1.heap.size w1 w') := Lib.hid (by
      have := CG.out
      unfold gotV at this
      rw [hf] at this
      exact this)
    obtain ⟨g, o, rfl, hg, hc⟩ := HQ1.out.pu (by omega)
    have hc1 := (hc i hi).2
    have hli : (i : Int) < (L.length : Int) := by omega
    have hl0 : ¬ (i : Int) < 0 := by omega
    clear CG HP hf hc
    generalize L[i].2 = z at *
    have hzz : (z.toList == z.toList) = true := by simp
    obtain ⟨n, hnn⟩ : ∃ n, Hid (L.length = n) := ⟨_, Lib.hid rfl⟩
    rw [hnn.out] at hli ⊢
    go_wp2_with fail
    refine CG2.out.mono ?_
    rintro e w4 ⟨rfl, b4⟩
    have c4 := (b4.cell (p := ⟨g, o + i * 2 + 1, none⟩) hg).trans hc1
    have HB4 := Lib.hid b4
    clear b4 hc1
    go_upto_region 15 with fail
    refine wp_region_lin (S := (fun w' => w'.cell? ⟨g, o + i * 2 + 1, none⟩ = some (.string z))) [(0, true), (1, true), (2, true), (3, true), (4, true), (5, true), (6, true), (7, true), (8, true), (9, true), (10, true), (11, true), (12, true)] (by kernel_rfl) (by kernel_rfl) rfl (by kernel_rfl) ?_ (fun hHeld => ?_)
    · (try dsimp only); exact c4
    refine wpL_calm (o := { dst := some 70, op := Go.Op.move (Go.Operand.tmp 1), type := 25, pos := "law.go:42", after := #[], guard := none }) (v := ?_) rfl (Or.inl ⟨by rfl, ?_⟩) ?_; rotate_left; (focus (intro w hSw; (try dsimp only at hSw); go_simp; (try (with_reducible rfl)); done)); try simp only [Act.put, List.setIfInBounds_toArray, List.set_cons_zero, List.set_cons_succ]
    refine wpL_calm (o := { dst := some 71, op := Go.Op.move (Go.Operand.tmp 10), type := 4, pos := "law.go:42", after := #[], guard := none }) (v := ?_) rfl (Or.inl ⟨by rfl, ?_⟩) ?_; rotate_left; (focus (intro w hSw; (try dsimp only at hSw); go_simp; (try (with_reducible rfl)); done)); try simp only [Act.put, List.setIfInBounds_toArray, List.set_cons_zero, List.set_cons_succ]
    refine wpL_calm (o := { dst := some 72, op := Go.Op.move (Go.Operand.tmp 71), type := 4, pos := "law.go:42", after := #[{ on := 1, ground := Go.Ground.data }], guard := none }) (v := ?_) rfl (Or.inl ⟨by rfl, ?_⟩) ?_; rotate_left; (focus (intro w hSw; (try dsimp only at hSw); go_simp; (try (with_reducible rfl)); done)); try simp only [Act.put, List.setIfInBounds_toArray, List.set_cons_zero, List.set_cons_succ]
    refine wpL_calm (o := { dst := some 73, op := Go.Op.move (Go.Operand.tmp 9), type := 9, pos := "law.go:42", after := #[{ on := 2, ground := Go.Ground.guard }, { on := 11, ground := Go.Ground.gcOnly Go.Departure.lateStores }], guard := some (2, true) }) (v := ?_) rfl (Or.inl ⟨by rfl, ?_⟩) ?_; rotate_left; (focus (intro w hSw; (try dsimp only at hSw); go_simp; (try (with_reducible rfl)); done)); try simp only [Act.put, List.setIfInBounds_toArray, List.set_cons_zero, List.set_cons_succ]
    refine wpL_calm (o := { dst := some 74, op := Go.Op.move (Go.Operand.tmp 1), type := 25, pos := "law.go:42", after := #[{ on := 2, ground := Go.Ground.guard }, { on := 11, ground := Go.Ground.gcOnly Go.Departure.lateStores }], guard := some (2, true) }) (v := ?_) rfl (Or.inl ⟨by rfl, ?_⟩) ?_; rotate_left; (focus (intro w hSw; (try dsimp only at hSw); go_simp; (try (with_reducible rfl)); done)); try simp only [Act.put, List.setIfInBounds_toArray, List.set_cons_zero, List.set_cons_succ]
    refine wpL_calm (o := { dst := some 75, op := Go.Op.move (Go.Operand.tmp 8), type := 3, pos := "law.go:42", after := #[{ on := 2, ground := Go.Ground.guard }, { on := 11, ground := Go.Ground.gcOnly Go.Departure.lateStores }], guard := some (2, true) }) (v := ?_) rfl (Or.inl ⟨by rfl, ?_⟩) ?_; rotate_left; (focus (intro w hSw; (try dsimp only at hSw); go_simp; (try (with_reducible rfl)); done)); try simp only [Act.put, List.setIfInBounds_toArray, List.set_cons_zero, List.set_cons_succ]
    refine wpL_calm (o := { dst := some 76, op := Go.Op.indexAddr 25 (Go.Operand.tmp 74) (Go.Operand.tmp 75), type := 0, pos := "law.go:42", after := #[{ on := 4, ground := Go.Ground.data }, { on := 5, ground := Go.Ground.data }, { on := 2, ground := Go.Ground.guard }, { on := 11, ground := Go.Ground.gcOnly Go.Departure.lateStores }], guard := some (2, true) }) (v := ?_) rfl (Or.inl ⟨by rfl, ?_⟩) ?_; rotate_left; (focus (intro w hSw; (try dsimp only at hSw); go_simp; (try (with_reducible rfl)); done)); try simp only [Act.put, List.setIfInBounds_toArray, List.set_cons_zero, List.set_cons_succ]
    refine wpL_calm (o := { dst := some 77, op := Go.Op.fieldAddr 29 (Go.Operand.tmp 76) 1, type := 0, pos := "law.go:42", after := #[{ on := 6, ground := Go.Ground.data }, { on := 2, ground := Go.Ground.guard }, { on := 11, ground := Go.Ground.gcOnly Go.Departure.lateStores }], guard := some (2, true) }) (v := ?_) rfl (Or.inl ⟨by rfl, ?_⟩) ?_; rotate_left; (focus (intro w hSw; (try dsimp only at hSw); go_simp; (try (with_reducible rfl)); done)); try simp only [Act.put, List.setIfInBounds_toArray, List.set_cons_zero, List.set_cons_succ]
    refine wpL_calm (o := { dst := some 78, op := Go.Op.load 9 (Go.Operand.tmp 77), type := 9, pos := "law.go:42", after := #[{ on := 7, ground := Go.Ground.data }, { on := 2, ground := Go.Ground.guard }, { on := 11, ground := Go.Ground.gcOnly Go.Departure.lateStores }], guard := some (2, true) }) (v := ?_) rfl (Or.inl ⟨by rfl, ?_⟩) ?_; rotate_left; (focus (intro w hSw; (try dsimp only at hSw); go_simp; (try (with_reducible rfl)); done)); try simp only [Act.put, List.setIfInBounds_toArray, List.set_cons_zero, List.set_cons_succ]
    refine wpL_calm (o := { dst := some 79, op := Go.Op.binOp Go.BinOp.eql 9 (Go.Operand.tmp 73) (Go.Operand.tmp 78) 9, type := 4, pos := "law.go:42", after := #[{ on := 3, ground := Go.Ground.data }, { on := 8, ground := Go.Ground.data }, { on := 2, ground := Go.Ground.guard }, { on := 11, ground := Go.Ground.gcOnly Go.Departure.lateStores }], guard := some (2, true) }) (v := ?_) rfl (Or.inl ⟨by rfl, ?_⟩) ?_; rotate_left; (focus (intro w hSw; (try dsimp only at hSw); go_simp; (try (with_reducible rfl)); done)); try simp only [Act.put, List.setIfInBounds_toArray, List.set_cons_zero, List.set_cons_succ]
    refine wpL_calm (o := { dst := some 80, op := Go.Op.pick (Go.Operand.tmp 72) (Go.Operand.tmp 79) (Go.Operand.const (Go.Value.bool false)), type := 4, pos := "law.go:42", after := #[{ on := 2, ground := Go.Ground.data }, { on := 9, ground := Go.Ground.data }, { on := 11, ground := Go.Ground.gcOnly Go.Departure.lateStores }], guard := none }) (v := ?_) rfl (Or.inl ⟨by rfl, ?_⟩) ?_; rotate_left; (focus (intro w hSw; (try dsimp only at hSw); go_simp; (try (with_reducible rfl)); done)); try simp only [Act.put, List.setIfInBounds_toArray, List.set_cons_zero, List.set_cons_succ]
    refine wpL_calm (o := { dst := some 6, op := Go.Op.assign (Go.Operand.tmp 70), type := 25, pos := "law.go:42", after := #[{ on := 0, ground := Go.Ground.data }, { on := 2, ground := Go.Ground.chain }, { on := 0, ground := Go.Ground.phase }, { on := 1, ground := Go.Ground.textOnly Go.Departure.lateStores }, { on := 2, ground := Go.Ground.textOnly Go.Departure.lateStores }, { on := 3, ground := Go.Ground.textOnly Go.Departure.lateStores }, { on := 4, ground := Go.Ground.textOnly Go.Departure.lateStores }, { on := 5, ground := Go.Ground.textOnly Go.Departure.lateStores }, { on := 6, ground := Go.Ground.textOnly Go.Departure.lateStores }, { on := 7, ground := Go.Ground.textOnly Go.Departure.lateStores }, { on := 8, ground := Go.Ground.textOnly Go.Departure.lateStores }, { on := 9, ground := Go.Ground.textOnly Go.Departure.lateStores }, { on := 10, ground := Go.Ground.textOnly Go.Departure.lateStores }], guard := none }) (v := ?_) rfl (Or.inl ⟨by rfl, ?_⟩) ?_; rotate_left; (focus (intro w hSw; (try dsimp only at hSw); go_simp; (try (with_reducible rfl)); done)); try simp only [Act.put, List.setIfInBounds_toArray, List.set_cons_zero, List.set_cons_succ]
    refine wpL_calm (o := { dst := some 7, op := Go.Op.assign (Go.Operand.tmp 80), type := 4, pos := "law.go:42", after := #[{ on := 10, ground := Go.Ground.data }, { on := 11, ground := Go.Ground.chain }, { on := 0, ground := Go.Ground.phase }, { on := 1, ground := Go.Ground.phase }, { on := 2, ground := Go.Ground.phase }, { on := 3, ground := Go.Ground.phase }, { on := 4, ground := Go.Ground.phase }, { on := 5, ground := Go.Ground.phase }, { on := 6, ground := Go.Ground.phase }, { on := 7, ground := Go.Ground.phase }, { on := 8, ground := Go.Ground.phase }, { on := 9, ground := Go.Ground.phase }, { on := 10, ground := Go.Ground.phase }, { on := 11, ground := Go.Ground.phase }], guard := none }) (v := ?_) rfl (Or.inl ⟨by rfl, ?_⟩) ?_; rotate_left; (focus (intro w hSw; (try dsimp only at hSw); go_simp; (try (with_reducible rfl)); done)); try simp only [Act.put, List.setIfInBounds_toArray, List.set_cons_zero, List.set_cons_succ]
    refine wpL_nil ?_
    refine NoPanic.normal ?_
    go_wp2_with fail
    go_ret2
    rw [← hnn.out]
    exact HF2.out _ (by first | exact HB4.out | exact HB4.out.drew)
theorem do_any (q : Dw w B p b ao L) (k a : Int) (s : ByteArray) (ha : InI a) (hn : L.length ≤ 5000) : Calls Try.prog 8 #[.pointer (some ⟨p, 0, none⟩), .slice ao L.length c, .agg #[.int .i64 k, .int .i64 a, .string s]] w (DoR B p b ao (doL L k (a, s)) w) := by
  unfold doL
  by_cases h : k = 0 ∨ k = 1 ∨ k = 2
  · rw [if_pos h]; exact do012_any q k a s ha hn h
  · rw [if_neg h]
    by_cases h4 : k = 4
    · subst h4; rw [if_pos rfl]; exact do4_any q a s ha hn
    · rw [if_neg h4]
      by_cases h5 : k = 5
      · subst h5; rw [if_pos rfl]; exact do5_any q a s hn
      · rw [if_neg h5]
        exact dox_any q k a s ha hn (by simp; omega) (by simp; omega) (by simp; omega) (by simpa using h4) (by simpa using h5)
end
end Go.Proofs.Ytbjlmpcbjppfdaa
