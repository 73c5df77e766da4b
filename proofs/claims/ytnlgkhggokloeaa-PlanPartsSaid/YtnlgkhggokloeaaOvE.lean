/- Package over: the reference's At, Drop, Same. -/
import Derived.Test.YtnlgkhggokloeaaOvD
import Derived.Deep.MidRow
import Derived.Laws.Tables
import Derived.Laws.StructEq
namespace Go.Proofs.Ytnlgkhggokloeaa
open Go.RowKit Go.Deep
set_option linter.unusedVariables false
set_option linter.unusedSimpArgs false
theorem run_bin_opO {P : Program} {o : Oper} {a : Act} {vx vy : Array Value} {r : Value} {w : World} (op : BinOp) (ty t2 : TypeId) (x y : Operand) (ho : o.op = .binOp op ty x y t2) (hg : P.eqGuardType P.depth ty = false) (hx : a.eval x = .agg vx) (hy : a.eval y = .agg vy) (hb : (binOp op ty (.agg vx) (.agg vy)).run P w = .ok r w) :
    (execOp a.eval o).run P w = .ok (.value r) w := by
  unfold execOp
  simp only [ho, hx, hy, Sem.run_bind, Sem.run_pure, run_eqGuard_agg (P := P) (hm := hg), Result.andThen_ok, hb]
def LoadedMO (P : Program) (ty : TypeId) (w : World) (g off : Nat) (cs : List Value) : Prop := ∃ d, w.rangeAt g off cs ∧ P.underlying ty = some d ∧ d.isRow = true ∧ (P.info? ty).map (·.size) = some cs.length
theorem LoadedMO.run {P : Program} {ty : TypeId} {w : World} {g off : Nat} {cs : List Value} (h : LoadedMO P ty w g off cs) : (Instr.loadAt ty (.pointer (some ⟨g, off, none⟩))).run P w = .ok (.agg cs.toArray) w := by
  obtain ⟨d, hc, hu, hd, hi⟩ := h
  exact run_loadAt_mid w g off ty cs d hc hu hd hi
theorem LoadedMO.op {P : Program} {o : Oper} {a : Act} {ty : TypeId} {w : World} {g off : Nat} {cs : List Value} (h : LoadedMO P ty w g off cs) (x : Operand) (ho : o.op = .load ty x) (hx : a.eval x = .pointer (some ⟨g, off, none⟩)) : (execOp a.eval o).run P w = .ok (.value (.agg cs.toArray)) w := by
  unfold execOp
  simp only [ho, hx, Sem.run_bind, h.run, Result.andThen_ok, Sem.run_pure]
theorem loadedM_ptO {w : World} {g off : Nat} {a : Int} {b : ByteArray} (h0 : w.cell? ⟨g, off, none⟩ = some (.int .i64 a)) (h1 : w.cell? ⟨g, off + 1, none⟩ = some (.string b)) : LoadedMO Try.prog 48 w g off [.int .i64 a, .string b] :=
  ⟨_, fun j u hu => by
    rcases j with _ | _ | j
    · simp at hu; subst hu; exact h0
    · simp at hu; subst hu; exact h1
    · simp at hu, Try.underlying48, rfl, by kernel_rfl⟩
theorem fields_ptO : (Try.prog.fieldsOf 48).toList.map (fun f => (f.type, f.offset, decide (f.name ≠ "_"))) = [(3, 0, true), (9, 1, true)] := by kernel_rfl
set_option maxRecDepth 100000 in
theorem eql_ptO (a c : Int) (b d : ByteArray) (w : World) : (binOp .eql 48 (.agg #[.int .i64 a, .string b]) (.agg #[.int .i64 c, .string d])).run Try.prog w = .ok (.bool ((a == c) && (b.toList == d.toList))) w := by
  rw [run_eql_struct, show (10000 : Nat) = 9998 + 2 from rfl, run_equalIn_struct w _ _ _ _ (by kernel_rfl) (by kernel_rfl)]
  have hf := fields_ptO
  generalize (Try.prog.fieldsOf 48).toList = fs at hf
  rcases fs with _ | ⟨f0, fs⟩
  · simp at hf
  rcases fs with _ | ⟨f1, fs⟩
  · simp at hf
  rcases fs with _ | ⟨f2, fs⟩
  rotate_left
  · simp at hf
  simp only [List.map_cons, List.map_nil, List.cons.injEq, Prod.mk.injEq, decide_eq_true_eq, and_true] at hf
  obtain ⟨⟨t0, o0, n0⟩, t1, o1, n1⟩ := hf
  have p0 : ∀ (z : Int) (s : ByteArray), (part f0.type #[.int .i64 z, .string s] f0.offset).run Try.prog w = .ok (.int .i64 z) w := fun z s => by
    rw [t0, o0]; simp [part, isAgg, run_underlying Try.underlying3]
  have p1 : ∀ (z : Int) (s : ByteArray), (part f1.type #[.int .i64 z, .string s] f1.offset).run Try.prog w = .ok (.string s) w := fun z s => by
    rw [t1, o1]; simp [part, isAgg, run_underlying Try.underlying9]
  have e0 : (Op.equalIn (9998 + 1) f0.type (.int .i64 a) (.int .i64 c)).run Try.prog w = .ok (a == c) w := by rw [t0]; exact run_equalIn_int w 9998 _ .i64 .i64 _ _ Try.underlying3
  have e1 : (Op.equalIn (9998 + 1) f1.type (.string b) (.string d)).run Try.prog w = .ok (b.toList == d.toList) w := by rw [t1]; exact run_equalIn_string w 9998 _ _ _ Try.underlying9
  simp only [Op.eqFields, if_pos n0, if_pos n1, Sem.run_bind, p0, p1, e0, e1, Result.andThen_ok]
  cases (a == c) with
  | false => simp
  | true =>
    simp only [Bool.not_true, Bool.false_eq_true, if_false, Sem.run_bind, p1, e1, Result.andThen_ok, Bool.true_and]
    cases (b.toList == d.toList) <;> simp
set_option maxRecDepth 100000 in
theorem neq_ptO (a c : Int) (b d : ByteArray) (w : World) : (binOp .neq 48 (.agg #[.int .i64 a, .string b]) (.agg #[.int .i64 c, .string d])).run Try.prog w = .ok (.bool (!((a == c) && (b.toList == d.toList)))) w := by
  have h := eql_ptO a c b d w
  rw [run_eql_struct] at h
  rw [run_neq_struct]
  cases hq : (Op.equalIn 10000 48 (.agg #[.int .i64 a, .string b]) (.agg #[.int .i64 c, .string d])).run Try.prog w with
  | ok b w' =>
    rw [hq] at h
    simp only [Result.andThen_ok] at h ⊢
    injection h with h1 h2
    injection h1 with h1
    rw [h1, h2]
  | _ => rw [hq] at h; simp [Result.andThen] at h
set_option maxRecDepth 100000 in
theorem eqg_ptO : Try.prog.eqGuardType Try.prog.depth 48 = false := by kernel_rfl
/-- Blocks behind a slice. -/
def PuAt (w : World) (ao : Option Addr) (L : List Pu) : Prop := 0 < L.length → ∃ g o, ao = some ⟨g, o, none⟩ ∧ g < w.heap.size ∧ ∀ i (hi : i < L.length), w.cell? ⟨g, o + i * 2, none⟩ = some (.int .i64 L[i].1) ∧ w.cell? ⟨g, o + i * 2 + 1, none⟩ = some (.string L[i].2)
theorem PuAt.below {w w' : World} {ao : Option Addr} {L : List Pu} (h : PuAt w ao L) (b : Below w.heap.size w w') : PuAt w' ao L := fun hp => by
  obtain ⟨g, o, e, hg, hc⟩ := h hp
  exact ⟨g, o, e, Nat.lt_of_lt_of_le hg b.size, fun i hi => ⟨(b.cell (p := ⟨g, o + i * 2, none⟩) hg).trans (hc i hi).1, (b.cell (p := ⟨g, o + i * 2 + 1, none⟩) hg).trans (hc i hi).2⟩⟩
theorem own_pu {w : World} {N : Nat} {v : Value} {L : List Pu} (h : PuO N w v L) : ∃ ao c, v = .slice ao L.length c ∧ L.length ≤ c ∧ c ≤ maxLen ∧ PuAt w ao L := by
  unfold PuO at h
  have h0 := h
  rcases h0.2 with ⟨rfl, hz⟩ | ⟨g, cap, cur, rfl, hb, hg, hnc, hcm, hcs, htk⟩
  · exact ⟨none, 0, by rw [hz], by omega, by unfold maxLen; omega, fun hp => by omega⟩
  · refine ⟨_, _, rfl, hnc, hcm, fun hp => ⟨g, 0, rfl, (Array.getElem?_eq_some_iff.1 hg).1, fun i hi => ?_⟩⟩
    have h2 := puC_get L i hi
    have c0 := h.cells (g := g) rfl (i * 2) _ h2.1
    have c1 := h.cells (g := g) rfl (i * 2 + 1) _ h2.2
    rw [Addr.add_lit] at c0 c1
    exact ⟨c0, c1⟩
theorem PuO.below {w w' : World} {N : Nat} {v : Value} {L : List Pu} (h : PuO N w v L) (b : Below w.heap.size w w') : PuO N w' v L := by
  unfold PuO at h ⊢
  refine ⟨h.1, ?_⟩
  rcases h.2 with h | ⟨g2, cap, cur, rfl, q1, q2, q3⟩
  · exact Or.inl h
  · exact Or.inr ⟨g2, cap, cur, rfl, q1, (b.block g2 (Array.getElem?_eq_some_iff.1 q2).1).trans q2, q3⟩
/-- The place of a block in a list. -/
def AtP (L : List Pu) (a k : Int) : Prop := (findL L a = none ∧ k = -1) ∨ ∃ i : Nat, ∃ hi : i < L.length, k = (i : Int) ∧ findL L a = some L[i]
theorem find_first : ∀ {L : List Pu} {a : Int} {i : Nat} (hi : i < L.length), (∀ j (hj : j < L.length), j < i → L[j].1 ≠ a) → L[i].1 = a → findL L a = some L[i]
  | x :: r, a, 0, _, _, h => by
    unfold findL
    show List.find? _ (x :: r) = some x
    rw [List.find?_cons_of_pos (by simpa using h)]
  | x :: r, a, i + 1, hi, h0, h => by
    have hi' : i < r.length := by simpa using hi
    have ih := find_first (L := r) (a := a) hi' (fun j hj hji => h0 (j + 1) (by simpa using hj) (by omega)) h
    have hx := h0 0 (by simp) (by omega)
    unfold findL at ih ⊢
    rw [List.find?_cons_of_neg (by simpa using hx)]
    exact ih
theorem find_none {L : List Pu} {a : Int} (h : ∀ j (hj : j < L.length), L[j].1 ≠ a) : findL L a = none := by
  unfold findL
  rw [List.find?_eq_none]
  intro x hx
  obtain ⟨j, hj, rfl⟩ := List.getElem_of_mem hx
  simpa using h j hj
theorem del_take (L : List Pu) (a : Int) (i : Nat) (hi : i < L.length) : delL (L.take (i + 1)) a = if L[i].1 = a then delL (L.take i) a else delL (L.take i) a ++ [L[i]] := by
  unfold delL
  rw [take_snoc L i hi, List.filter_append]
  by_cases h : L[i].1 = a
  · rw [if_pos h, List.filter_cons_of_neg (by simpa using h)]; simp
  · rw [if_neg h, List.filter_cons_of_pos (by simpa using h)]; simp
set_option maxRecDepth 100000 in
set_option maxHeartbeats 8000000 in
theorem rdrop_any (ao : Option Addr) (c : Nat) (L : List Pu) (a : Int) (w : World) (hat : PuAt w ao L) (hn : L.length ≤ 100000) : Calls Try.prog 33 #[.slice ao L.length c, .int .i64 a] w fun e w' => ∃ v, e = .returned v ∧ PuO w.heap.size w' v (delL L a) ∧ Below w.heap.size w w' := by
  have HAT := Lib.hid hat
  obtain ⟨i0, hi0, hz0, hz1, hz2⟩ := info_partsO info_putO
  obtain ⟨n, hnn⟩ : ∃ n, Hid (L.length = n) := ⟨_, Lib.hid rfl⟩
  rw [hnn.out] at hn ⊢
  clear hat
  go_enter Try.func33, Try.ntmps33
  go_wp2_with fail
  go_loopw [5, 6] (fun s5 s6 wi => ∃ (i : Nat) (D : List Pu), s6 = .int .i64 (i : Int) ∧ i ≤ n ∧ Hid (delL (L.take i) a = D) ∧ D.length ≤ i ∧ (∃ a m c, s5 = .slice a m c) ∧ Hid (wi.ownsRow w.heap.size 48 2 s5 D.length (puC D)) ∧ Hid (Below w.heap.size w wi)) (fun _ s6 _ => n - (intOf s6).toNat)
  case atStart => exact ⟨0, [], rfl, by omega, Lib.hid rfl, by simp, ⟨_, _, _, rfl⟩, Lib.hid (World.ownsRow_nil _ _ _ _), Lib.hid (Below.refl _ _)⟩
  case round =>
    obtain ⟨i, D, rfl, hi, HD, hDl, ⟨a1, m, c1, rfl⟩, HO, HB⟩ := hrel
    by_cases hlt : i < n
    · have hli : (i : Int) < (n : Int) := by omega
      have hil : i < L.length := by rw [hnn.out]; exact hlt
      obtain ⟨g, o, rfl, hg, hc⟩ := HAT.out (by omega)
      have c0 := (HB.out.cell (p := ⟨g, o + i * 2, none⟩) hg).trans (hc i hil).1
      have c1' := (HB.out.cell (p := ⟨g, o + i * 2 + 1, none⟩) hg).trans (hc i hil).2
      have HT := Lib.hid (del_take L a i hil)
      clear hc
      generalize L[i] = q at *
      obtain ⟨x, s⟩ := q
      have hbs := HB.out.size
      by_cases e : x = a
      · subst e
        have he : (x != x) = false := by simp
        have HD2 : Hid (delL (L.take (i + 1)) x = D) := Lib.hid (by rw [HT.out, if_pos rfl]; exact HD.out)
        clear HT HD
        go_wp2_with fail
        go_roundw
        case rel => exact ⟨i + 1, D, by go_num, by omega, HD2, by omega, ⟨_, _, _, rfl⟩, HO, HB⟩
        case measure => simp [intOf]; omega
      · have he : (x != a) = true := by simpa using e
        have HD2 : Hid (delL (L.take (i + 1)) a = D ++ [(x, s)]) := Lib.hid (by rw [HT.out, if_neg e, HD.out])
        clear HT HD e
        go_wp2_with (at_builtin; refine wpList_append_own _ rfl _ _ 25 rfl w.heap.size 48 i0 (.agg #[.int .i64 0, .string ⟨#[]⟩]) 2 24 Try.underlying25 hi0 hz0 hz1 hz2 rfl (by decide) _ D.length (puC D) rfl (HO.out.alloc _) ⟨wr.heap.size, 0, none⟩ 1 1 [.int .i64 x, .string s] rfl rfl ?c1 ?c2 ?c3 ?c4 ?c5 ?_)
        case c2 => first | exact ⟨rfl, rfl⟩ | (intro u hu; simp at hu; rcases hu with rfl | rfl <;> rfl)
        case c3 => unfold maxLen; omega
        case c4 => omega
        case c5 => first | omega | (simp; omega)
        · intro v' w2 hown hgr _
          have HB2 := Lib.hid ((HB.out.alloc hbs _).grown hgr (by simp; omega) (fun j e => (HO.out.lt j e).1))
          have HO2 : Hid (w2.ownsRow w.heap.size 48 2 v' (D ++ [(x, s)]).length (puC (D ++ [(x, s)]))) := Lib.hid (by rw [puC_snoc, List.length_append]; exact hown)
          obtain ⟨a2, c2, rfl⟩ := own_slO hown
          clear hown hgr HO HB
          go_wp2_with fail
          go_roundw
          case rel => exact ⟨i + 1, D ++ [(x, s)], by go_num, by omega, HD2, by simp; omega, ⟨_, _, _, rfl⟩, HO2, HB2⟩
          case measure => simp [intOf]; omega
    · obtain rfl : i = n := by omega
      have hli : ¬ (i : Int) < (i : Int) := by omega
      have HDD : Hid (delL L a = D) := Lib.hid (by have := HD.out; rw [← hnn.out, List.take_length] at this; exact this)
      go_wp2_with fail
      go_ret
      exact ⟨_, rfl, by rw [HDD.out]; exact HO.out, HB.out⟩
theorem pu_eq {p q : Pu} : ((p.1 == q.1) && (p.2.toList == q.2.toList)) = decide (p = q) := by
  obtain ⟨a, s⟩ := p
  obtain ⟨b, t⟩ := q
  rw [Bool.eq_iff_iff]
  simp only [Bool.and_eq_true, beq_iff_eq, decide_eq_true_eq, Prod.mk.injEq]
  constructor
  · rintro ⟨h1, h2⟩
    refine ⟨h1, ?_⟩
    obtain ⟨⟨s⟩⟩ := s
    obtain ⟨⟨t⟩⟩ := t
    simpa [ByteArray.toList_eq] using h2
  · rintro ⟨rfl, rfl⟩
    exact ⟨rfl, rfl⟩
set_option maxRecDepth 100000 in
set_option maxHeartbeats 4000000 in
theorem osame_any (L M : List Pu) (la lb : Option Addr) (n c m d : Nat) (w : World) (hn : L.length = n) (hm : M.length = m) (hnm : n ≤ 9223372036854775807) (hmm : m ≤ 9223372036854775807) (hT : PuAt w la L) (hU : PuAt w lb M) :
    Calls Try.prog 12 #[.slice la n c, .slice lb m d] w fun e w' => e = .returned (.bool (decide (L = M))) ∧ Below w.heap.size w w' := by
  by_cases hl : n = m
  · have e1 : ((n : Int) != (m : Int)) = false := by rw [bne_eq_false_iff_eq]; omega
    have HN := Lib.hid hn
    have HM := Lib.hid hm
    have HT := Lib.hid hT
    have HU := Lib.hid hU
    clear hn hm hT hU
    go_enter Try.func12, Try.ntmps12
    go_wp2_with fail
    go_loopw [5] (fun x wi => ∃ k : Nat, x = .int .i64 (k : Int) ∧ k ≤ n ∧ Hid (∀ j (h1 : j < L.length) (h2 : j < M.length), j < k → L[j] = M[j]) ∧ Hid (Below w.heap.size w wi)) (fun x _ => n - (intOf x).toNat)
    case atStart => exact ⟨0, rfl, by omega, Lib.hid (fun j _ _ h => absurd h (by omega)), Lib.hid (Below.refl _ _)⟩
    case round =>
      obtain ⟨k, rfl, hk, HK, HB⟩ := hrel
      by_cases hlt : k < n
      · as_aux_lemma =>
        have hli : (k : Int) < (n : Int) := by omega
        have hlm : (k : Int) < (m : Int) := by omega
        have hkL : k < L.length := by rw [HN.out]; exact hlt
        have hkM : k < M.length := by rw [HM.out]; omega
        obtain ⟨gl, ol, rfl, hgl, htx⟩ := HT.out (by omega)
        obtain ⟨gm, om, rfl, hgm, hux⟩ := HU.out (by omega)
        have a0 := (HB.out.cell (p := ⟨gl, ol + k * 2, none⟩) hgl).trans (htx k hkL).1
        have a1 := (HB.out.cell (p := ⟨gl, ol + k * 2 + 1, none⟩) hgl).trans (htx k hkL).2
        have b0 := (HB.out.cell (p := ⟨gm, om + k * 2, none⟩) hgm).trans (hux k hkM).1
        have b1 := (HB.out.cell (p := ⟨gm, om + k * 2 + 1, none⟩) hgm).trans (hux k hkM).2
        have hpe := pu_eq (p := L[k]) (q := M[k])
        have hnp := neq_ptO L[k].1 M[k].1 L[k].2 M[k].2
        rw [hpe] at hnp
        have HNE : Hid (decide (L[k] = M[k]) = false → L ≠ M) := Lib.hid (fun h e => by subst e; exact absurd rfl (of_decide_eq_false h))
        have HEQ : Hid (decide (L[k] = M[k]) = true → ∀ j (h1 : j < L.length) (h2 : j < M.length), j < k + 1 → L[j] = M[j]) := Lib.hid (fun h j h1 h2 hj => by
          by_cases e : j = k
          · subst e; exact of_decide_eq_true h
          · exact HK.out j h1 h2 (by omega))
        clear htx hux hpe
        generalize decide (L[k] = M[k]) = r at *
        generalize L[k].1 = za at *
        generalize M[k].1 = zb at *
        generalize L[k].2 = sa at *
        generalize M[k].2 = sb at *
        cases r with
        | true =>
          go_upto_region 6 with fail
          refine wp_region_lin (S := (fun w' => LoadedMO Try.prog 48 w' gl (ol + k * 2) [.int .i64 za, .string sa] ∧ LoadedMO Try.prog 48 w' gm (om + k * 2) [.int .i64 zb, .string sb])) [(0, true), (1, true), (2, true), (3, true), (4, true), (5, true), (6, true), (7, true), (8, true)] (by kernel_rfl) (by kernel_rfl) rfl (by kernel_rfl) ?_ (fun hHeld => ?_)
          · (try dsimp only); exact ⟨loadedM_ptO a0 a1, loadedM_ptO b0 b1⟩
          refine wpL_calm (o := { dst := some 17, op := Go.Op.move (Go.Operand.tmp 0), type := 25, pos := "ref.go:46", after := #[], guard := none }) (v := ?_) rfl (Or.inl ⟨by rfl, ?_⟩) ?_; rotate_left; (focus (intro w hSw; (try dsimp only at hSw); go_simp; (try (with_reducible rfl)); done)); try simp only [Act.put, List.setIfInBounds_toArray, List.set_cons_zero, List.set_cons_succ]
          refine wpL_calm (o := { dst := some 18, op := Go.Op.move (Go.Operand.tmp 5), type := 3, pos := "ref.go:46", after := #[], guard := none }) (v := ?_) rfl (Or.inl ⟨by rfl, ?_⟩) ?_; rotate_left; (focus (intro w hSw; (try dsimp only at hSw); go_simp; (try (with_reducible rfl)); done)); try simp only [Act.put, List.setIfInBounds_toArray, List.set_cons_zero, List.set_cons_succ]
          refine wpL_calm (o := { dst := some 19, op := Go.Op.indexAddr 25 (Go.Operand.tmp 17) (Go.Operand.tmp 18), type := 0, pos := "ref.go:46", after := #[{ on := 0, ground := Go.Ground.data }, { on := 1, ground := Go.Ground.data }], guard := none }) (v := ?_) rfl (Or.inl ⟨by rfl, ?_⟩) ?_; rotate_left; (focus (intro w hSw; (try dsimp only at hSw); go_simp; (try (with_reducible rfl)); done)); try simp only [Act.put, List.setIfInBounds_toArray, List.set_cons_zero, List.set_cons_succ]
          refine wpL_calm (o := { dst := some 20, op := Go.Op.load 48 (Go.Operand.tmp 19), type := 48, pos := "ref.go:46", after := #[{ on := 2, ground := Go.Ground.data }], guard := none }) (v := .agg #[.int .i64 za, .string sa]) rfl (Or.inl ⟨by rfl, fun w' hS => hS.1.op _ rfl rfl⟩) ?_
          try simp only [Act.put, List.setIfInBounds_toArray, List.set_cons_zero, List.set_cons_succ]
          refine wpL_calm (o := { dst := some 21, op := Go.Op.move (Go.Operand.tmp 1), type := 25, pos := "ref.go:46", after := #[], guard := none }) (v := ?_) rfl (Or.inl ⟨by rfl, ?_⟩) ?_; rotate_left; (focus (intro w hSw; (try dsimp only at hSw); go_simp; (try (with_reducible rfl)); done)); try simp only [Act.put, List.setIfInBounds_toArray, List.set_cons_zero, List.set_cons_succ]
          refine wpL_calm (o := { dst := some 22, op := Go.Op.move (Go.Operand.tmp 5), type := 3, pos := "ref.go:46", after := #[], guard := none }) (v := ?_) rfl (Or.inl ⟨by rfl, ?_⟩) ?_; rotate_left; (focus (intro w hSw; (try dsimp only at hSw); go_simp; (try (with_reducible rfl)); done)); try simp only [Act.put, List.setIfInBounds_toArray, List.set_cons_zero, List.set_cons_succ]
          refine wpL_calm (o := { dst := some 23, op := Go.Op.indexAddr 25 (Go.Operand.tmp 21) (Go.Operand.tmp 22), type := 0, pos := "ref.go:46", after := #[{ on := 4, ground := Go.Ground.data }, { on := 5, ground := Go.Ground.data }], guard := none }) (v := ?_) rfl (Or.inl ⟨by rfl, ?_⟩) ?_; rotate_left; (focus (intro w hSw; (try dsimp only at hSw); go_simp; (try (with_reducible rfl)); done)); try simp only [Act.put, List.setIfInBounds_toArray, List.set_cons_zero, List.set_cons_succ]
          refine wpL_calm (o := { dst := some 24, op := Go.Op.load 48 (Go.Operand.tmp 23), type := 48, pos := "ref.go:46", after := #[{ on := 6, ground := Go.Ground.data }], guard := none }) (v := .agg #[.int .i64 zb, .string sb]) rfl (Or.inl ⟨by rfl, fun w' hS => hS.2.op _ rfl rfl⟩) ?_
          try simp only [Act.put, List.setIfInBounds_toArray, List.set_cons_zero, List.set_cons_succ]
          refine wpL_calm (o := { dst := some 25, op := Go.Op.binOp Go.BinOp.neq 48 (Go.Operand.tmp 20) (Go.Operand.tmp 24) 48, type := 4, pos := "ref.go:46", after := #[{ on := 3, ground := Go.Ground.data }, { on := 7, ground := Go.Ground.data }], guard := none }) (v := .bool false) rfl (Or.inl ⟨by rfl, fun w _ => run_bin_opO _ _ _ _ _ rfl eqg_ptO rfl rfl (hnp w)⟩) ?_
          try simp only [Act.put, List.setIfInBounds_toArray, List.set_cons_zero, List.set_cons_succ]
          refine wpL_nil ?_
          refine NoPanic.normal ?_
          clear hHeld a0 a1 b0 b1
          go_wp2_with fail
          go_roundw
          case rel => exact ⟨k + 1, by go_num, by omega, Lib.hid (HEQ.out rfl), Lib.hid HB.out.drew⟩
          case measure => simp [intOf]; omega
        | false =>
          go_upto_region 6 with fail
          refine wp_region_lin (S := (fun w' => LoadedMO Try.prog 48 w' gl (ol + k * 2) [.int .i64 za, .string sa] ∧ LoadedMO Try.prog 48 w' gm (om + k * 2) [.int .i64 zb, .string sb])) [(0, true), (1, true), (2, true), (3, true), (4, true), (5, true), (6, true), (7, true), (8, true)] (by kernel_rfl) (by kernel_rfl) rfl (by kernel_rfl) ?_ (fun hHeld => ?_)
          · (try dsimp only); exact ⟨loadedM_ptO a0 a1, loadedM_ptO b0 b1⟩
          refine wpL_calm (o := { dst := some 17, op := Go.Op.move (Go.Operand.tmp 0), type := 25, pos := "ref.go:46", after := #[], guard := none }) (v := ?_) rfl (Or.inl ⟨by rfl, ?_⟩) ?_; rotate_left; (focus (intro w hSw; (try dsimp only at hSw); go_simp; (try (with_reducible rfl)); done)); try simp only [Act.put, List.setIfInBounds_toArray, List.set_cons_zero, List.set_cons_succ]
          refine wpL_calm (o := { dst := some 18, op := Go.Op.move (Go.Operand.tmp 5), type := 3, pos := "ref.go:46", after := #[], guard := none }) (v := ?_) rfl (Or.inl ⟨by rfl, ?_⟩) ?_; rotate_left; (focus (intro w hSw; (try dsimp only at hSw); go_simp; (try (with_reducible rfl)); done)); try simp only [Act.put, List.setIfInBounds_toArray, List.set_cons_zero, List.set_cons_succ]
          refine wpL_calm (o := { dst := some 19, op := Go.Op.indexAddr 25 (Go.Operand.tmp 17) (Go.Operand.tmp 18), type := 0, pos := "ref.go:46", after := #[{ on := 0, ground := Go.Ground.data }, { on := 1, ground := Go.Ground.data }], guard := none }) (v := ?_) rfl (Or.inl ⟨by rfl, ?_⟩) ?_; rotate_left; (focus (intro w hSw; (try dsimp only at hSw); go_simp; (try (with_reducible rfl)); done)); try simp only [Act.put, List.setIfInBounds_toArray, List.set_cons_zero, List.set_cons_succ]
          refine wpL_calm (o := { dst := some 20, op := Go.Op.load 48 (Go.Operand.tmp 19), type := 48, pos := "ref.go:46", after := #[{ on := 2, ground := Go.Ground.data }], guard := none }) (v := .agg #[.int .i64 za, .string sa]) rfl (Or.inl ⟨by rfl, fun w' hS => hS.1.op _ rfl rfl⟩) ?_
          try simp only [Act.put, List.setIfInBounds_toArray, List.set_cons_zero, List.set_cons_succ]
          refine wpL_calm (o := { dst := some 21, op := Go.Op.move (Go.Operand.tmp 1), type := 25, pos := "ref.go:46", after := #[], guard := none }) (v := ?_) rfl (Or.inl ⟨by rfl, ?_⟩) ?_; rotate_left; (focus (intro w hSw; (try dsimp only at hSw); go_simp; (try (with_reducible rfl)); done)); try simp only [Act.put, List.setIfInBounds_toArray, List.set_cons_zero, List.set_cons_succ]
          refine wpL_calm (o := { dst := some 22, op := Go.Op.move (Go.Operand.tmp 5), type := 3, pos := "ref.go:46", after := #[], guard := none }) (v := ?_) rfl (Or.inl ⟨by rfl, ?_⟩) ?_; rotate_left; (focus (intro w hSw; (try dsimp only at hSw); go_simp; (try (with_reducible rfl)); done)); try simp only [Act.put, List.setIfInBounds_toArray, List.set_cons_zero, List.set_cons_succ]
          refine wpL_calm (o := { dst := some 23, op := Go.Op.indexAddr 25 (Go.Operand.tmp 21) (Go.Operand.tmp 22), type := 0, pos := "ref.go:46", after := #[{ on := 4, ground := Go.Ground.data }, { on := 5, ground := Go.Ground.data }], guard := none }) (v := ?_) rfl (Or.inl ⟨by rfl, ?_⟩) ?_; rotate_left; (focus (intro w hSw; (try dsimp only at hSw); go_simp; (try (with_reducible rfl)); done)); try simp only [Act.put, List.setIfInBounds_toArray, List.set_cons_zero, List.set_cons_succ]
          refine wpL_calm (o := { dst := some 24, op := Go.Op.load 48 (Go.Operand.tmp 23), type := 48, pos := "ref.go:46", after := #[{ on := 6, ground := Go.Ground.data }], guard := none }) (v := .agg #[.int .i64 zb, .string sb]) rfl (Or.inl ⟨by rfl, fun w' hS => hS.2.op _ rfl rfl⟩) ?_
          try simp only [Act.put, List.setIfInBounds_toArray, List.set_cons_zero, List.set_cons_succ]
          refine wpL_calm (o := { dst := some 25, op := Go.Op.binOp Go.BinOp.neq 48 (Go.Operand.tmp 20) (Go.Operand.tmp 24) 48, type := 4, pos := "ref.go:46", after := #[{ on := 3, ground := Go.Ground.data }, { on := 7, ground := Go.Ground.data }], guard := none }) (v := .bool true) rfl (Or.inl ⟨by rfl, fun w _ => run_bin_opO _ _ _ _ _ rfl eqg_ptO rfl rfl (hnp w)⟩) ?_
          try simp only [Act.put, List.setIfInBounds_toArray, List.set_cons_zero, List.set_cons_succ]
          refine wpL_nil ?_
          refine NoPanic.normal ?_
          clear hHeld a0 a1 b0 b1
          go_wp2_with fail
          go_ret
          exact ⟨by rw [decide_eq_false (HNE.out (by first | rfl | trivial))]; first | done | rfl, HB.out.drew⟩
      · as_aux_lemma =>
        obtain rfl : k = n := by omega
        have HE : Hid (L = M) := Lib.hid (List.ext_getElem (by rw [HN.out, HM.out, hl]) (fun j h1 h2 => HK.out j h1 h2 (by rw [← HN.out]; exact h1)))
        go_wp2_with fail
        go_ret
        exact ⟨by rw [decide_eq_true HE.out]; first | done | rfl, HB.out⟩
  · have e1 : ((n : Int) != (m : Int)) = true := by rw [bne_iff_ne]; omega
    have hne : L ≠ M := fun e => by subst e; omega
    go_enter Try.func12, Try.ntmps12
    go_wp2_with fail
    go_ret
    exact ⟨by rw [decide_eq_false hne]; first | done | rfl, Below.refl _ _⟩
end Go.Proofs.Ytnlgkhggokloeaa
