/- Texts behind a slice: those that came in, those of one's own; the reference's Same; slices.Equal. -/
import Derived.Test.YthhaadcpenlnkaaOpenR
import Derived.Test.YthhaadcpenlnkaaLin
import Derived.Test.YthhaadcpenlnkaaLibB
import Derived.Lib.Hide
import Derived.Deep.CutRange
import Derived.Deep.Slices
import Derived.Laws.Rows
import Derived.Laws.NewBlocks
import Derived.Laws.AppendOwn
namespace Go.Proofs.Ythhaadcpenlnkaa
open Go.RowKit Go.Deep Go.ChangeShapes Go.WideShapes
set_option linter.unusedVariables false
set_option linter.unusedSimpArgs false
theorem list_of_ex {α : Type} : ∀ (n : Nat) (p : Nat → α → Prop), (∀ i, i < n → ∃ x, p i x) → ∃ X : List α, X.length = n ∧ ∀ i (h : i < X.length), p i X[i]
  | 0, p, _ => ⟨[], rfl, fun i h => absurd h (Nat.not_lt_zero _)⟩
  | n + 1, p, h => by
    obtain ⟨X, h1, h2⟩ := list_of_ex n p (fun i hi => h i (by omega))
    obtain ⟨x, hx⟩ := h n (by omega)
    refine ⟨X ++ [x], by simp [h1], fun i hi => ?_⟩
    by_cases e : i < X.length
    · rw [List.getElem_append_left e]; exact h2 i e
    · have : i = n := by simp at hi; omega
      subst this
      rw [List.getElem_append_right (by omega)]
      simpa [h1] using hx
/-- Texts behind a slice. -/
def TxtAt (w : World) (a : Option Addr) (L : List ByteArray) : Prop := 0 < L.length → ∃ g o, a = some ⟨g, o, none⟩ ∧ g < w.heap.size ∧ ∀ i (h : i < L.length), w.cell? ⟨g, o + i, none⟩ = some (.string L[i])
theorem TxtAt.below {w w' : World} {a : Option Addr} {L : List ByteArray} (h : TxtAt w a L) (hb : Below w.heap.size w w') : TxtAt w' a L := fun h0 => by
  obtain ⟨g, o, h1, h2, h3⟩ := h h0
  exact ⟨g, o, h1, Nat.lt_of_lt_of_le h2 hb.size, fun i hi => (hb.cell (p := ⟨g, o + i, none⟩) h2).trans (h3 i hi)⟩
theorem TxtAt.nil (w : World) (a : Option Addr) : TxtAt w a [] := fun h => absurd h (by simp)
section
variable {H : Type} {enc : TypeId × Value → H} {P : Program} {w : World}
/-- A slice of strings that came in. -/
def StrRow (w : World) (ao : Option Addr) (len : Nat) : Prop := 0 < len → ∃ b off, ao = some ⟨b, off, none⟩ ∧ b < w.heap.size ∧ ∀ i, i < len → ∃ s, w.cell? ⟨b, off + i, none⟩ = some (.string s)
theorem cell_lt' {w : World} {a : Addr} {v : Value} (h : w.cell? a = some v) : a.block < w.heap.size := block_lt_of_cell h
theorem open_strs {t e : TypeId} {v : Value} {d : DataW H} {p : List MemPlace} (ht : P.underlying t = some (.slice e)) (he : P.underlying e = some .string) (hC : P.cellsOf e = 1)
    (hok : ∃ a len cap, v = .slice a len cap) (h : DataW.Trod enc P w 0 (fun _ => true) true t v d p) : ∃ ao len cap, v = .slice ao len cap ∧ len ≤ cap ∧ cap ≤ maxLen ∧ StrRow w ao len := by
  obtain ⟨a0, l0, c0, rfl⟩ := hok
  obtain ⟨fuel, hf⟩ := h
  rcases open_slice ht hf with ⟨hcs, _⟩ | ⟨a, len, cap, m, n, D, Pl, hcs, hb, hl, hm, hmm, hx, hi⟩
  · simp [Value.cells] at hcs
    obtain ⟨rfl, rfl, rfl⟩ := hcs
    exact ⟨_, _, _, rfl, by omega, by unfold maxLen; omega, fun h => absurd h (by omega)⟩
  · simp [Value.cells] at hcs
    obtain ⟨rfl, rfl, rfl⟩ := hcs
    have hs : ∀ i, i < l0 → ∃ s, w.cell? (a.add i) = some (.string s) := fun i hil => by
      have him : i < m := by rw [hmm]; split <;> omega
      obtain ⟨cs', hc, ht'⟩ := hi i him
      rw [hC] at hc
      obtain ⟨_, hcl, hat⟩ := World.cells?_some hc
      obtain ⟨s, rfl, _⟩ := DataW.trod_string he ht'
      have h1 := hat 0 (by omega)
      rw [Nat.mul_one] at h1
      refine ⟨s, ?_⟩
      rw [Go.Deep.add_add, Nat.add_zero] at h1
      exact h1
    refine ⟨_, _, _, rfl, by omega, by omega, fun hpos => ?_⟩
    obtain ⟨s0, h0⟩ := hs 0 hpos
    obtain ⟨b, off, spot⟩ := a
    have hspot : spot = none := by
      have := World.cell?_spot h0
      simpa [Addr.add] using this
    subst hspot
    refine ⟨b, off, rfl, by simpa [Addr.add] using cell_lt' h0, fun i hil => ?_⟩
    obtain ⟨s, h1⟩ := hs i hil
    exact ⟨s, by rw [← h1, Addr.add_lit]⟩
end
theorem txt_of {w : World} {ao : Option Addr} {len : Nat} (h : StrRow w ao len) : ∃ L : List ByteArray, L.length = len ∧ TxtAt w ao L := by
  by_cases h0 : 0 < len
  · obtain ⟨b, off, rfl, hb, hc⟩ := h h0
    obtain ⟨L, h1, h2⟩ := list_of_ex len (fun i s => w.cell? ⟨b, off + i, none⟩ = some (.string s)) hc
    exact ⟨L, h1, fun _ => ⟨b, off, rfl, hb, h2⟩⟩
  · exact ⟨[], by simp; omega, fun h => absurd h (by simp)⟩
theorem list_ne_at (L M : List ByteArray) (k : Nat) (h1 : k < L.length) (h2 : k < M.length) (h : L[k] ≠ M[k]) : L ≠ M := fun e => by subst e; exact h rfl
theorem list_eq_all (L M : List ByteArray) (hl : L.length = M.length) (h : ∀ j (h1 : j < L.length) (h2 : j < M.length), L[j] = M[j]) : L = M := List.ext_getElem hl h
theorem ba_ne (s t : ByteArray) (h : (s.toList == t.toList) = false) : s ≠ t := fun e => by subst e; simp at h
theorem ba_eq (s t : ByteArray) (h : (s.toList == t.toList) = true) : s = t := by
  have h1 : s.toList = t.toList := by simpa using h
  have h2 : s.data.toList = t.data.toList := by rw [Lib.toList_data, Lib.toList_data] at h1; exact h1
  cases s; cases t
  simp only [ByteArray.mk.injEq]
  exact Array.toList_inj.1 h2
/-- Texts of one's own. -/
def strV (L : List ByteArray) : List Value := L.map fun s => .string s
theorem strV_len (L : List ByteArray) : (strV L).length = L.length := by simp [strV]
theorem strV_app (A B : List ByteArray) : strV (A ++ B) = strV A ++ strV B := List.map_append
theorem own_txt {w : World} {base : Nat} {v : Value} {n : Nat} {L : List ByteArray} (h : w.ownsRow base 9 1 v n (strV L)) : ∃ a c, v = .slice a n c ∧ n ≤ c ∧ c ≤ maxLen ∧ L.length = n ∧ TxtAt w a L := by
  have hl : L.length = n := by have := h.1; rw [strV_len, Nat.mul_one] at this; exact this
  rcases h.2 with ⟨rfl, h0⟩ | ⟨g, cap, cur, rfl, hb, hg, hnc, hcm, hcs, htk⟩
  · exact ⟨none, 0, by rw [h0], by omega, by unfold maxLen; omega, hl, fun hp => by omega⟩
  · refine ⟨_, _, rfl, hnc, hcm, hl, fun hp => ⟨g, 0, rfl, (Array.getElem?_eq_some_iff.1 hg).1, fun i hi => ?_⟩⟩
    have hc := h.cells (g := g) rfl i (.string L[i]) (by simp [strV, hi])
    rw [Addr.add_lit] at hc
    exact hc
set_option maxRecDepth 100000 in
set_option maxHeartbeats 4000000 in
theorem same_any (L M : List ByteArray) (la lb : Option Addr) (n c m d : Nat) (w : World) (hn : L.length = n) (hm : M.length = m) (hnm : n ≤ 9223372036854775807) (hmm : m ≤ 9223372036854775807) (hT : TxtAt w la L) (hU : TxtAt w lb M) :
    Calls Try.prog 13 #[.slice la n c, .slice lb m d] w fun e w' => e = .returned (.bool (decide (L = M))) ∧ Below w.heap.size w w' := by
  by_cases hl : n = m
  · have e1 : ((n : Int) != (m : Int)) = false := by rw [bne_eq_false_iff_eq]; omega
    have HN := Lib.hid hn
    have HM := Lib.hid hm
    have HT := Lib.hid hT
    have HU := Lib.hid hU
    clear hn hm hT hU
    go_enter Try.func13, Try.ntmps13
    go_wp2_with fail
    go_loopw [5] (fun x wi => ∃ k : Nat, x = .int .i64 (k : Int) ∧ k ≤ n ∧ Hid (∀ j (h1 : j < L.length) (h2 : j < M.length), j < k → L[j] = M[j]) ∧ Hid (Below w.heap.size w wi)) (fun x _ => n - (intOf x).toNat)
    case atStart => exact ⟨0, rfl, by omega, Lib.hid (fun j _ _ h => absurd h (by omega)), Lib.hid (Below.refl _ _)⟩
    case round =>
      obtain ⟨k, rfl, hk, HK, HB⟩ := hrel
      by_cases hlt : k < n
      · as_aux_lemma =>
        have hli : (k : Int) < (n : Int) := by omega
        have hlm : (k : Int) < (m : Int) := by omega
        have hkL : k < L.length := by rw [HN.out]; exact hlt
        have hkM : k < M.length := by rw [HM.out]; omega
        obtain ⟨gl, ol, rfl, hgl, htx⟩ := HT.out (by omega)
        obtain ⟨gm, om, rfl, hgm, hux⟩ := HU.out (by omega)
        have hs1 := (HB.out.cell (p := ⟨gl, ol + k, none⟩) hgl).trans (htx k hkL)
        have hs2 := (HB.out.cell (p := ⟨gm, om + k, none⟩) hgm).trans (hux k hkM)
        have HNE : Hid ((L[k].toList == M[k].toList) = false → L ≠ M) := Lib.hid (fun h => list_ne_at L M k hkL hkM (ba_ne _ _ h))
        have HEQ : Hid ((L[k].toList == M[k].toList) = true → ∀ j (h1 : j < L.length) (h2 : j < M.length), j < k + 1 → L[j] = M[j]) := Lib.hid (fun h j h1 h2 hj => by
          by_cases e : j = k
          · subst e; exact ba_eq _ _ h
          · exact HK.out j h1 h2 (by omega))
        clear htx hux
        generalize (L[k]'hkL) = s1 at *
        generalize (M[k]'hkM) = s2 at *
        obtain ⟨r, hr⟩ : ∃ r, (s1.toList == s2.toList) = r := ⟨_, rfl⟩
        rw [hr] at HNE HEQ
        cases r with
        | true =>
          go_upto_region 6 with fail
          refine wp_region_lin (S := (fun w' => w'.cell? ⟨gl, ol + k, none⟩ = some (.string s1) ∧ w'.cell? ⟨gm, om + k, none⟩ = some (.string s2))) [(0, true), (1, true), (2, true), (3, true), (4, true), (5, true), (6, true), (7, true), (8, true)] (by kernel_rfl) (by kernel_rfl) rfl (by kernel_rfl) ?_ (fun hHeld => ?_)
          · (try dsimp only); exact ⟨hs1, hs2⟩
          (refine wpL_calm (o := { dst := some 17, op := Go.Op.move (Go.Operand.tmp 0), type := 29, pos := "ref.go:96", after := #[], guard := none }) (v := ?_) rfl (Or.inl ⟨by rfl, ?_⟩) ?_; rotate_left; (focus (intro w hSw; (try dsimp only at hSw); go_simp; (try (with_reducible rfl)); done)); try simp only [Act.put, List.setIfInBounds_toArray, List.set_cons_zero, List.set_cons_succ])
          (refine wpL_calm (o := { dst := some 18, op := Go.Op.move (Go.Operand.tmp 5), type := 3, pos := "ref.go:96", after := #[], guard := none }) (v := ?_) rfl (Or.inl ⟨by rfl, ?_⟩) ?_; rotate_left; (focus (intro w hSw; (try dsimp only at hSw); go_simp; (try (with_reducible rfl)); done)); try simp only [Act.put, List.setIfInBounds_toArray, List.set_cons_zero, List.set_cons_succ])
          (refine wpL_calm (o := { dst := some 19, op := Go.Op.indexAddr 29 (Go.Operand.tmp 17) (Go.Operand.tmp 18), type := 0, pos := "ref.go:96", after := #[{ on := 0, ground := Go.Ground.data }, { on := 1, ground := Go.Ground.data }], guard := none }) (v := ?_) rfl (Or.inl ⟨by rfl, ?_⟩) ?_; rotate_left; (focus (intro w hSw; (try dsimp only at hSw); go_simp; (try (with_reducible rfl)); done)); try simp only [Act.put, List.setIfInBounds_toArray, List.set_cons_zero, List.set_cons_succ])
          (refine wpL_calm (o := { dst := some 20, op := Go.Op.load 9 (Go.Operand.tmp 19), type := 9, pos := "ref.go:96", after := #[{ on := 2, ground := Go.Ground.data }], guard := none }) (v := ?_) rfl (Or.inl ⟨by rfl, ?_⟩) ?_; rotate_left; (focus (intro w hSw; (try dsimp only at hSw); go_simp; (try (with_reducible rfl)); done)); try simp only [Act.put, List.setIfInBounds_toArray, List.set_cons_zero, List.set_cons_succ])
          (refine wpL_calm (o := { dst := some 21, op := Go.Op.move (Go.Operand.tmp 1), type := 29, pos := "ref.go:96", after := #[], guard := none }) (v := ?_) rfl (Or.inl ⟨by rfl, ?_⟩) ?_; rotate_left; (focus (intro w hSw; (try dsimp only at hSw); go_simp; (try (with_reducible rfl)); done)); try simp only [Act.put, List.setIfInBounds_toArray, List.set_cons_zero, List.set_cons_succ])
          (refine wpL_calm (o := { dst := some 22, op := Go.Op.move (Go.Operand.tmp 5), type := 3, pos := "ref.go:96", after := #[], guard := none }) (v := ?_) rfl (Or.inl ⟨by rfl, ?_⟩) ?_; rotate_left; (focus (intro w hSw; (try dsimp only at hSw); go_simp; (try (with_reducible rfl)); done)); try simp only [Act.put, List.setIfInBounds_toArray, List.set_cons_zero, List.set_cons_succ])
          (refine wpL_calm (o := { dst := some 23, op := Go.Op.indexAddr 29 (Go.Operand.tmp 21) (Go.Operand.tmp 22), type := 0, pos := "ref.go:96", after := #[{ on := 4, ground := Go.Ground.data }, { on := 5, ground := Go.Ground.data }], guard := none }) (v := ?_) rfl (Or.inl ⟨by rfl, ?_⟩) ?_; rotate_left; (focus (intro w hSw; (try dsimp only at hSw); go_simp; (try (with_reducible rfl)); done)); try simp only [Act.put, List.setIfInBounds_toArray, List.set_cons_zero, List.set_cons_succ])
          (refine wpL_calm (o := { dst := some 24, op := Go.Op.load 9 (Go.Operand.tmp 23), type := 9, pos := "ref.go:96", after := #[{ on := 6, ground := Go.Ground.data }], guard := none }) (v := ?_) rfl (Or.inl ⟨by rfl, ?_⟩) ?_; rotate_left; (focus (intro w hSw; (try dsimp only at hSw); go_simp; (try (with_reducible rfl)); done)); try simp only [Act.put, List.setIfInBounds_toArray, List.set_cons_zero, List.set_cons_succ])
          (refine wpL_calm (o := { dst := some 25, op := Go.Op.binOp Go.BinOp.neq 9 (Go.Operand.tmp 20) (Go.Operand.tmp 24) 9, type := 4, pos := "ref.go:96", after := #[{ on := 3, ground := Go.Ground.data }, { on := 7, ground := Go.Ground.data }], guard := none }) (v := ?_) rfl (Or.inl ⟨by rfl, ?_⟩) ?_; rotate_left; (focus (intro w hSw; (try dsimp only at hSw); go_simp; (try (with_reducible rfl)); done)); try simp only [Act.put, List.setIfInBounds_toArray, List.set_cons_zero, List.set_cons_succ])
          refine wpL_nil ?_
          refine NoPanic.normal ?_
          clear hHeld hs1 hs2
          go_wp2_with fail
          go_roundw
          case rel => exact ⟨k + 1, by go_num, by omega, Lib.hid (HEQ.out rfl), Lib.hid HB.out.drew⟩
          case measure => simp [intOf]; omega
        | false =>
          go_upto_region 6 with fail
          refine wp_region_lin (S := (fun w' => w'.cell? ⟨gl, ol + k, none⟩ = some (.string s1) ∧ w'.cell? ⟨gm, om + k, none⟩ = some (.string s2))) [(0, true), (1, true), (2, true), (3, true), (4, true), (5, true), (6, true), (7, true), (8, true)] (by kernel_rfl) (by kernel_rfl) rfl (by kernel_rfl) ?_ (fun hHeld => ?_)
          · (try dsimp only); exact ⟨hs1, hs2⟩
          (refine wpL_calm (o := { dst := some 17, op := Go.Op.move (Go.Operand.tmp 0), type := 29, pos := "ref.go:96", after := #[], guard := none }) (v := ?_) rfl (Or.inl ⟨by rfl, ?_⟩) ?_; rotate_left; (focus (intro w hSw; (try dsimp only at hSw); go_simp; (try (with_reducible rfl)); done)); try simp only [Act.put, List.setIfInBounds_toArray, List.set_cons_zero, List.set_cons_succ])
          (refine wpL_calm (o := { dst := some 18, op := Go.Op.move (Go.Operand.tmp 5), type := 3, pos := "ref.go:96", after := #[], guard := none }) (v := ?_) rfl (Or.inl ⟨by rfl, ?_⟩) ?_; rotate_left; (focus (intro w hSw; (try dsimp only at hSw); go_simp; (try (with_reducible rfl)); done)); try simp only [Act.put, List.setIfInBounds_toArray, List.set_cons_zero, List.set_cons_succ])
          (refine wpL_calm (o := { dst := some 19, op := Go.Op.indexAddr 29 (Go.Operand.tmp 17) (Go.Operand.tmp 18), type := 0, pos := "ref.go:96", after := #[{ on := 0, ground := Go.Ground.data }, { on := 1, ground := Go.Ground.data }], guard := none }) (v := ?_) rfl (Or.inl ⟨by rfl, ?_⟩) ?_; rotate_left; (focus (intro w hSw; (try dsimp only at hSw); go_simp; (try (with_reducible rfl)); done)); try simp only [Act.put, List.setIfInBounds_toArray, List.set_cons_zero, List.set_cons_succ])
          (refine wpL_calm (o := { dst := some 20, op := Go.Op.load 9 (Go.Operand.tmp 19), type := 9, pos := "ref.go:96", after := #[{ on := 2, ground := Go.Ground.data }], guard := none }) (v := ?_) rfl (Or.inl ⟨by rfl, ?_⟩) ?_; rotate_left; (focus (intro w hSw; (try dsimp only at hSw); go_simp; (try (with_reducible rfl)); done)); try simp only [Act.put, List.setIfInBounds_toArray, List.set_cons_zero, List.set_cons_succ])
          (refine wpL_calm (o := { dst := some 21, op := Go.Op.move (Go.Operand.tmp 1), type := 29, pos := "ref.go:96", after := #[], guard := none }) (v := ?_) rfl (Or.inl ⟨by rfl, ?_⟩) ?_; rotate_left; (focus (intro w hSw; (try dsimp only at hSw); go_simp; (try (with_reducible rfl)); done)); try simp only [Act.put, List.setIfInBounds_toArray, List.set_cons_zero, List.set_cons_succ])
          (refine wpL_calm (o := { dst := some 22, op := Go.Op.move (Go.Operand.tmp 5), type := 3, pos := "ref.go:96", after := #[], guard := none }) (v := ?_) rfl (Or.inl ⟨by rfl, ?_⟩) ?_; rotate_left; (focus (intro w hSw; (try dsimp only at hSw); go_simp; (try (with_reducible rfl)); done)); try simp only [Act.put, List.setIfInBounds_toArray, List.set_cons_zero, List.set_cons_succ])
          (refine wpL_calm (o := { dst := some 23, op := Go.Op.indexAddr 29 (Go.Operand.tmp 21) (Go.Operand.tmp 22), type := 0, pos := "ref.go:96", after := #[{ on := 4, ground := Go.Ground.data }, { on := 5, ground := Go.Ground.data }], guard := none }) (v := ?_) rfl (Or.inl ⟨by rfl, ?_⟩) ?_; rotate_left; (focus (intro w hSw; (try dsimp only at hSw); go_simp; (try (with_reducible rfl)); done)); try simp only [Act.put, List.setIfInBounds_toArray, List.set_cons_zero, List.set_cons_succ])
          (refine wpL_calm (o := { dst := some 24, op := Go.Op.load 9 (Go.Operand.tmp 23), type := 9, pos := "ref.go:96", after := #[{ on := 6, ground := Go.Ground.data }], guard := none }) (v := ?_) rfl (Or.inl ⟨by rfl, ?_⟩) ?_; rotate_left; (focus (intro w hSw; (try dsimp only at hSw); go_simp; (try (with_reducible rfl)); done)); try simp only [Act.put, List.setIfInBounds_toArray, List.set_cons_zero, List.set_cons_succ])
          (refine wpL_calm (o := { dst := some 25, op := Go.Op.binOp Go.BinOp.neq 9 (Go.Operand.tmp 20) (Go.Operand.tmp 24) 9, type := 4, pos := "ref.go:96", after := #[{ on := 3, ground := Go.Ground.data }, { on := 7, ground := Go.Ground.data }], guard := none }) (v := ?_) rfl (Or.inl ⟨by rfl, ?_⟩) ?_; rotate_left; (focus (intro w hSw; (try dsimp only at hSw); go_simp; (try (with_reducible rfl)); done)); try simp only [Act.put, List.setIfInBounds_toArray, List.set_cons_zero, List.set_cons_succ])
          refine wpL_nil ?_
          refine NoPanic.normal ?_
          clear hHeld hs1 hs2
          go_wp2_with fail
          go_ret
          exact ⟨by rw [decide_eq_false (HNE.out (by first | rfl | trivial))]; first | done | rfl, HB.out.drew⟩
      · as_aux_lemma =>
        obtain rfl : k = n := by omega
        have HE : Hid (L = M) := Lib.hid (list_eq_all L M (by rw [HN.out, HM.out, hl]) (fun j h1 h2 => HK.out j h1 h2 (by rw [← HN.out]; exact h1)))
        go_wp2_with fail
        go_ret
        exact ⟨by rw [decide_eq_true HE.out]; first | done | rfl, HB.out⟩
  · have e1 : ((n : Int) != (m : Int)) = true := by rw [bne_iff_ne]; omega
    have hne : L ≠ M := fun e => by subst e; omega
    go_enter Try.func13, Try.ntmps13
    go_wp2_with fail
    go_ret
    exact ⟨by rw [decide_eq_false hne]; first | done | rfl, Below.refl _ _⟩
set_option maxRecDepth 100000 in
set_option maxHeartbeats 4000000 in
theorem eqs_any (L M : List ByteArray) (la lb : Option Addr) (n c m d : Nat) (w : World) (hn : L.length = n) (hm : M.length = m) (hnm : n ≤ 9223372036854775807) (hmm : m ≤ 9223372036854775807) (hT : TxtAt w la L) (hU : TxtAt w lb M) :
    Calls Try.prog 30 #[.slice la n c, .slice lb m d] w fun e w' => e = .returned (.bool (decide (L = M))) ∧ Below w.heap.size w w' := by
  by_cases hl : n = m
  · have e1 : ((n : Int) != (m : Int)) = false := by rw [bne_eq_false_iff_eq]; omega
    have HN := Lib.hid hn
    have HM := Lib.hid hm
    have HT := Lib.hid hT
    have HU := Lib.hid hU
    clear hn hm hT hU
    go_enter Try.func30, Try.ntmps30
    go_wp2_with fail
    go_loopw [13] (fun x wi => ∃ k : Nat, x = .int .i64 (k : Int) ∧ k ≤ n ∧ Hid (∀ j (h1 : j < L.length) (h2 : j < M.length), j < k → L[j] = M[j]) ∧ Hid (Below w.heap.size w wi)) (fun x _ => n - (intOf x).toNat)
    case atStart => exact ⟨0, rfl, by omega, Lib.hid (fun j _ _ h => absurd h (by omega)), Lib.hid (Below.refl _ _)⟩
    case round =>
      obtain ⟨k, rfl, hk, HK, HB⟩ := hrel
      by_cases hlt : k < n
      · as_aux_lemma =>
        have hli : (k : Int) < (n : Int) := by omega
        have hlm : (k : Int) < (m : Int) := by omega
        have hkL : k < L.length := by rw [HN.out]; exact hlt
        have hkM : k < M.length := by rw [HM.out]; omega
        obtain ⟨gl, ol, rfl, hgl, htx⟩ := HT.out (by omega)
        obtain ⟨gm, om, rfl, hgm, hux⟩ := HU.out (by omega)
        have hs1 := (HB.out.cell (p := ⟨gl, ol + k, none⟩) hgl).trans (htx k hkL)
        have hs2 := (HB.out.cell (p := ⟨gm, om + k, none⟩) hgm).trans (hux k hkM)
        have HNE : Hid ((L[k].toList == M[k].toList) = false → L ≠ M) := Lib.hid (fun h => list_ne_at L M k hkL hkM (ba_ne _ _ h))
        have HEQ : Hid ((L[k].toList == M[k].toList) = true → ∀ j (h1 : j < L.length) (h2 : j < M.length), j < k + 1 → L[j] = M[j]) := Lib.hid (fun h j h1 h2 hj => by
          by_cases e : j = k
          · subst e; exact ba_eq _ _ h
          · exact HK.out j h1 h2 (by omega))
        clear htx hux
        generalize (L[k]'hkL) = s1 at *
        generalize (M[k]'hkM) = s2 at *
        obtain ⟨r, hr⟩ : ∃ r, (s1.toList == s2.toList) = r := ⟨_, rfl⟩
        rw [hr] at HNE HEQ
        cases r with
        | true =>
          have hr2 : (s1.toList != s2.toList) = false := by unfold bne; rw [hr]; rfl
          go_upto_region 6 with fail
          refine wp_region_lin (S := (fun w' => w'.cell? ⟨gl, ol + k, none⟩ = some (.string s1) ∧ w'.cell? ⟨gm, om + k, none⟩ = some (.string s2))) [(0, true), (1, true), (2, true), (3, true), (4, true), (5, true), (6, true), (7, true), (8, true)] (by kernel_rfl) (by kernel_rfl) rfl (by kernel_rfl) ?_ (fun hHeld => ?_)
          · (try dsimp only); exact ⟨hs1, hs2⟩
          (refine wpL_calm (o := { dst := some 16, op := Go.Op.move (Go.Operand.tmp 0), type := 29, pos := "slices.go:25", after := #[], guard := none }) (v := ?_) rfl (Or.inl ⟨by rfl, ?_⟩) ?_; rotate_left; (focus (intro w hSw; (try dsimp only at hSw); go_simp; (try (with_reducible rfl)); done)); try simp only [Act.put, List.setIfInBounds_toArray, List.set_cons_zero, List.set_cons_succ])
          (refine wpL_calm (o := { dst := some 17, op := Go.Op.move (Go.Operand.tmp 5), type := 3, pos := "slices.go:25", after := #[], guard := none }) (v := ?_) rfl (Or.inl ⟨by rfl, ?_⟩) ?_; rotate_left; (focus (intro w hSw; (try dsimp only at hSw); go_simp; (try (with_reducible rfl)); done)); try simp only [Act.put, List.setIfInBounds_toArray, List.set_cons_zero, List.set_cons_succ])
          (refine wpL_calm (o := { dst := some 18, op := Go.Op.indexAddr 29 (Go.Operand.tmp 16) (Go.Operand.tmp 17), type := 0, pos := "slices.go:25", after := #[{ on := 0, ground := Go.Ground.data }, { on := 1, ground := Go.Ground.data }], guard := none }) (v := ?_) rfl (Or.inl ⟨by rfl, ?_⟩) ?_; rotate_left; (focus (intro w hSw; (try dsimp only at hSw); go_simp; (try (with_reducible rfl)); done)); try simp only [Act.put, List.setIfInBounds_toArray, List.set_cons_zero, List.set_cons_succ])
          (refine wpL_calm (o := { dst := some 19, op := Go.Op.load 9 (Go.Operand.tmp 18), type := 9, pos := "slices.go:25", after := #[{ on := 2, ground := Go.Ground.data }], guard := none }) (v := ?_) rfl (Or.inl ⟨by rfl, ?_⟩) ?_; rotate_left; (focus (intro w hSw; (try dsimp only at hSw); go_simp; (try (with_reducible rfl)); done)); try simp only [Act.put, List.setIfInBounds_toArray, List.set_cons_zero, List.set_cons_succ])
          (refine wpL_calm (o := { dst := some 20, op := Go.Op.move (Go.Operand.tmp 1), type := 29, pos := "slices.go:25", after := #[], guard := none }) (v := ?_) rfl (Or.inl ⟨by rfl, ?_⟩) ?_; rotate_left; (focus (intro w hSw; (try dsimp only at hSw); go_simp; (try (with_reducible rfl)); done)); try simp only [Act.put, List.setIfInBounds_toArray, List.set_cons_zero, List.set_cons_succ])
          (refine wpL_calm (o := { dst := some 21, op := Go.Op.move (Go.Operand.tmp 5), type := 3, pos := "slices.go:25", after := #[], guard := none }) (v := ?_) rfl (Or.inl ⟨by rfl, ?_⟩) ?_; rotate_left; (focus (intro w hSw; (try dsimp only at hSw); go_simp; (try (with_reducible rfl)); done)); try simp only [Act.put, List.setIfInBounds_toArray, List.set_cons_zero, List.set_cons_succ])
          (refine wpL_calm (o := { dst := some 22, op := Go.Op.indexAddr 29 (Go.Operand.tmp 20) (Go.Operand.tmp 21), type := 0, pos := "slices.go:25", after := #[{ on := 4, ground := Go.Ground.data }, { on := 5, ground := Go.Ground.data }], guard := none }) (v := ?_) rfl (Or.inl ⟨by rfl, ?_⟩) ?_; rotate_left; (focus (intro w hSw; (try dsimp only at hSw); go_simp; (try (with_reducible rfl)); done)); try simp only [Act.put, List.setIfInBounds_toArray, List.set_cons_zero, List.set_cons_succ])
          (refine wpL_calm (o := { dst := some 23, op := Go.Op.load 9 (Go.Operand.tmp 22), type := 9, pos := "slices.go:25", after := #[{ on := 6, ground := Go.Ground.data }], guard := none }) (v := ?_) rfl (Or.inl ⟨by rfl, ?_⟩) ?_; rotate_left; (focus (intro w hSw; (try dsimp only at hSw); go_simp; (try (with_reducible rfl)); done)); try simp only [Act.put, List.setIfInBounds_toArray, List.set_cons_zero, List.set_cons_succ])
          (refine wpL_calm (o := { dst := some 24, op := Go.Op.binOp Go.BinOp.neq 9 (Go.Operand.tmp 19) (Go.Operand.tmp 23) 9, type := 4, pos := "slices.go:25", after := #[{ on := 3, ground := Go.Ground.data }, { on := 7, ground := Go.Ground.data }], guard := none }) (v := ?_) rfl (Or.inl ⟨by rfl, ?_⟩) ?_; rotate_left; (focus (intro w hSw; (try dsimp only at hSw); go_simp; (try (with_reducible rfl)); done)); try simp only [Act.put, List.setIfInBounds_toArray, List.set_cons_zero, List.set_cons_succ])
          refine wpL_nil ?_
          refine NoPanic.normal ?_
          clear hHeld hs1 hs2
          go_wp2_with fail
          go_roundw
          case rel => exact ⟨k + 1, by go_num, by omega, Lib.hid (HEQ.out rfl), Lib.hid HB.out.drew⟩
          case measure => simp [intOf]; omega
        | false =>
          have hr2 : (s1.toList != s2.toList) = true := by unfold bne; rw [hr]; rfl
          go_upto_region 6 with fail
          refine wp_region_lin (S := (fun w' => w'.cell? ⟨gl, ol + k, none⟩ = some (.string s1) ∧ w'.cell? ⟨gm, om + k, none⟩ = some (.string s2))) [(0, true), (1, true), (2, true), (3, true), (4, true), (5, true), (6, true), (7, true), (8, true)] (by kernel_rfl) (by kernel_rfl) rfl (by kernel_rfl) ?_ (fun hHeld => ?_)
          · (try dsimp only); exact ⟨hs1, hs2⟩
          (refine wpL_calm (o := { dst := some 16, op := Go.Op.move (Go.Operand.tmp 0), type := 29, pos := "slices.go:25", after := #[], guard := none }) (v := ?_) rfl (Or.inl ⟨by rfl, ?_⟩) ?_; rotate_left; (focus (intro w hSw; (try dsimp only at hSw); go_simp; (try (with_reducible rfl)); done)); try simp only [Act.put, List.setIfInBounds_toArray, List.set_cons_zero, List.set_cons_succ])
          (refine wpL_calm (o := { dst := some 17, op := Go.Op.move (Go.Operand.tmp 5), type := 3, pos := "slices.go:25", after := #[], guard := none }) (v := ?_) rfl (Or.inl ⟨by rfl, ?_⟩) ?_; rotate_left; (focus (intro w hSw; (try dsimp only at hSw); go_simp; (try (with_reducible rfl)); done)); try simp only [Act.put, List.setIfInBounds_toArray, List.set_cons_zero, List.set_cons_succ])
          (refine wpL_calm (o := { dst := some 18, op := Go.Op.indexAddr 29 (Go.Operand.tmp 16) (Go.Operand.tmp 17), type := 0, pos := "slices.go:25", after := #[{ on := 0, ground := Go.Ground.data }, { on := 1, ground := Go.Ground.data }], guard := none }) (v := ?_) rfl (Or.inl ⟨by rfl, ?_⟩) ?_; rotate_left; (focus (intro w hSw; (try dsimp only at hSw); go_simp; (try (with_reducible rfl)); done)); try simp only [Act.put, List.setIfInBounds_toArray, List.set_cons_zero, List.set_cons_succ])
          (refine wpL_calm (o := { dst := some 19, op := Go.Op.load 9 (Go.Operand.tmp 18), type := 9, pos := "slices.go:25", after := #[{ on := 2, ground := Go.Ground.data }], guard := none }) (v := ?_) rfl (Or.inl ⟨by rfl, ?_⟩) ?_; rotate_left; (focus (intro w hSw; (try dsimp only at hSw); go_simp; (try (with_reducible rfl)); done)); try simp only [Act.put, List.setIfInBounds_toArray, List.set_cons_zero, List.set_cons_succ])
          (refine wpL_calm (o := { dst := some 20, op := Go.Op.move (Go.Operand.tmp 1), type := 29, pos := "slices.go:25", after := #[], guard := none }) (v := ?_) rfl (Or.inl ⟨by rfl, ?_⟩) ?_; rotate_left; (focus (intro w hSw; (try dsimp only at hSw); go_simp; (try (with_reducible rfl)); done)); try simp only [Act.put, List.setIfInBounds_toArray, List.set_cons_zero, List.set_cons_succ])
          (refine wpL_calm (o := { dst := some 21, op := Go.Op.move (Go.Operand.tmp 5), type := 3, pos := "slices.go:25", after := #[], guard := none }) (v := ?_) rfl (Or.inl ⟨by rfl, ?_⟩) ?_; rotate_left; (focus (intro w hSw; (try dsimp only at hSw); go_simp; (try (with_reducible rfl)); done)); try simp only [Act.put, List.setIfInBounds_toArray, List.set_cons_zero, List.set_cons_succ])
          (refine wpL_calm (o := { dst := some 22, op := Go.Op.indexAddr 29 (Go.Operand.tmp 20) (Go.Operand.tmp 21), type := 0, pos := "slices.go:25", after := #[{ on := 4, ground := Go.Ground.data }, { on := 5, ground := Go.Ground.data }], guard := none }) (v := ?_) rfl (Or.inl ⟨by rfl, ?_⟩) ?_; rotate_left; (focus (intro w hSw; (try dsimp only at hSw); go_simp; (try (with_reducible rfl)); done)); try simp only [Act.put, List.setIfInBounds_toArray, List.set_cons_zero, List.set_cons_succ])
          (refine wpL_calm (o := { dst := some 23, op := Go.Op.load 9 (Go.Operand.tmp 22), type := 9, pos := "slices.go:25", after := #[{ on := 6, ground := Go.Ground.data }], guard := none }) (v := ?_) rfl (Or.inl ⟨by rfl, ?_⟩) ?_; rotate_left; (focus (intro w hSw; (try dsimp only at hSw); go_simp; (try (with_reducible rfl)); done)); try simp only [Act.put, List.setIfInBounds_toArray, List.set_cons_zero, List.set_cons_succ])
          (refine wpL_calm (o := { dst := some 24, op := Go.Op.binOp Go.BinOp.neq 9 (Go.Operand.tmp 19) (Go.Operand.tmp 23) 9, type := 4, pos := "slices.go:25", after := #[{ on := 3, ground := Go.Ground.data }, { on := 7, ground := Go.Ground.data }], guard := none }) (v := ?_) rfl (Or.inl ⟨by rfl, ?_⟩) ?_; rotate_left; (focus (intro w hSw; (try dsimp only at hSw); go_simp; (try (with_reducible rfl)); done)); try simp only [Act.put, List.setIfInBounds_toArray, List.set_cons_zero, List.set_cons_succ])
          refine wpL_nil ?_
          refine NoPanic.normal ?_
          clear hHeld hs1 hs2
          go_wp2_with fail
          go_ret
          exact ⟨by rw [decide_eq_false (HNE.out (by first | rfl | trivial))]; first | done | rfl, HB.out.drew⟩
      · as_aux_lemma =>
        obtain rfl : k = n := by omega
        have HE : Hid (L = M) := Lib.hid (list_eq_all L M (by rw [HN.out, HM.out, hl]) (fun j h1 h2 => HK.out j h1 h2 (by rw [← HN.out]; exact h1)))
        go_wp2_with fail
        go_ret
        exact ⟨by rw [decide_eq_true HE.out]; first | done | rfl, HB.out⟩
  · have e1 : ((n : Int) != (m : Int)) = true := by rw [bne_iff_ne]; omega
    have hne : L ≠ M := fun e => by subst e; omega
    go_enter Try.func30, Try.ntmps30
    go_wp2_with fail
    go_ret
    exact ⟨by rw [decide_eq_false hne]; first | done | rfl, Below.refl _ _⟩
end Go.Proofs.Ythhaadcpenlnkaa
