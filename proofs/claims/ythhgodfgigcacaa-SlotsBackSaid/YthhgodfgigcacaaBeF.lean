/- Contracts of package be (cellaret): Row, with what lays its numbers. -/
import Derived.Test.YthhgodfgigcacaaBeE
namespace Go.Proofs.Ythhgodfgigcacaa
open Go.RowKit Go.Deep
set_option linter.unusedVariables false

def rowE (W : Int) : List Int → Int
  | [] => 0
  | n :: r => if putE n W = 0 then rowE W r else putE n W
def rowB (W : Int) (l : List Int) : List UInt8 := l.flatMap fun n => putL n W
def rowL (W : Int) (l : List Int) : List UInt8 := if rowE W l = 0 then rowB W l else []
theorem rowE_ok (W : Int) (l : List Int) (h : ∀ i, i < l.length → putE (l.getD i 0) W = 0) : rowE W l = 0 := by
  induction l with
  | nil => rfl
  | cons n r ih =>
    unfold rowE
    rw [if_pos (by simpa using h 0 (by simp))]
    exact ih fun i hi => by simpa using h (i + 1) (by simpa using hi)
theorem rowE_at (W : Int) (l : List Int) (k : Nat) (h : ∀ i, i < k → putE (l.getD i 0) W = 0) (hk : k < l.length) (he : putE (l.getD k 0) W ≠ 0) : rowE W l = putE (l.getD k 0) W := by
  induction l generalizing k with
  | nil => simp at hk
  | cons n r ih =>
    unfold rowE
    cases k with
    | zero => rw [if_neg (by simpa using he)]; simp
    | succ k =>
      rw [if_pos (by simpa using h 0 (by omega))]
      have := ih k (fun i hi => by simpa using h (i + 1) (by omega)) (by simpa using hk) (by simpa using he)
      simpa using this
theorem rowB_snoc (W : Int) (l : List Int) (k : Nat) (h : k < l.length) : rowB W (l.take (k + 1)) = rowB W (l.take k) ++ putL (l.getD k 0) W := by
  unfold rowB
  rw [List.take_succ_eq_append_getElem h, List.flatMap_append]
  simp [h]
theorem putL_length (n W : Int) : (putL n W).length ≤ 8 := by
  unfold putL
  by_cases h : putE n W = 0
  · rw [if_pos h, beL_length]
    by_cases hw : 1 ≤ W ∧ W ≤ 8
    · omega
    · rw [(put_of_arg hw).1] at h; omega
  · rw [if_neg h]; simp
theorem rowB_length (W : Int) (l : List Int) : (rowB W l).length ≤ 8 * l.length := by
  induction l with
  | nil => simp [rowB]
  | cons n r ih =>
    have := putL_length n W
    unfold rowB at ih ⊢
    simp only [List.flatMap_cons, List.length_append, List.length_cons]
    omega

/-- What a row's numbers are laid by holds: the width, and the bytes so far. -/
structure Lays (w : World) (bw br : Nat) (base : Nat) (W : Int) (l : List UInt8) : Prop where
  cw : w.cell? ⟨bw, 0, none⟩ = some (.int .i64 W)
  wlt : bw < br
  blt : br < base
  bsz : base ≤ w.heap.size
  row : ∃ v, w.cell? ⟨br, 0, none⟩ = some v ∧ w.frozen? ⟨br, 0, none⟩ = false ∧ w.ownsRow base 5 1 v l.length (l.map fun b => .int .u8 (b.toNat : Int))

theorem bytes_cells (l : List UInt8) : byteCells ⟨l.toArray⟩ = l.map fun b => .int .u8 (b.toNat : Int) := by unfold byteCells; rfl
theorem ownsRow_other {w : World} {base g : Nat} {e : TypeId} {size n : Nat} {v u : Value} {xs : List Value} (h : w.ownsRow base e size v n xs) (hg : g < base) (o : Nat) : (w.setCell ⟨g, o, none⟩ u).ownsRow base e size v n xs := by
  refine h.kept (row := some g) ⟨rfl, rfl, rfl, by simp [World.setCell], fun k hk hne => Below.heap_setCell w _ u k (fun e => hne (by rw [e]))⟩ ?_
  cases hv : v.ownBlock with
  | none => exact .inl rfl
  | some k => exact .inr (fun e => by have := (h.lt k hv).1; simp at e; omega)

theorem ownsRow_slice {w : World} {base : Nat} {e : TypeId} {size n : Nat} {v : Value} {xs : List Value} (h : w.ownsRow base e size v n xs) : ∃ a m c, v = .slice a m c := by
  rcases h.2 with ⟨h, _⟩ | ⟨g, cap, cur, h, _⟩
  · exact ⟨_, _, _, h⟩
  · exact ⟨_, _, _, h⟩
theorem own_ne {w : World} {base : Nat} {e : TypeId} {size n : Nat} {v : Value} {xs : List Value} (h : w.ownsRow base e size v n xs) {b : Nat} (hb : b < base) : some b ≠ v.ownBlock := by
  intro e
  have := (h.lt b e.symm).1
  omega

set_option maxRecDepth 100000 in
set_option maxHeartbeats 400000 in
theorem lay_any (n W : Int) (w : World) (bw br base : Nat) (l : List UInt8) (h : Lays w bw br base W l) (hl : l.length ≤ 1000000) :
    Calls Try.prog 52 #[.int .i64 n, .pointer (some ⟨bw, 0, none⟩), .pointer (some ⟨br, 0, none⟩)] w fun e w' => e = .returned (.int .i64 (putE n W)) ∧ Lays w' bw br base W (l ++ putL n W) ∧ Below br w w' := by
  obtain ⟨v, hv, hf, hown⟩ := h.row
  obtain ⟨i0, hi, hz0, hz1, hz2⟩ := info_parts Try.info_u8
  have c1 := h.cw
  have hP := Lib.hid (fun w => put_any n W w)
  have hpl := putL_length n W
  have HO := Lib.hid hown
  clear hown
  generalize putE n W = E at hP
  generalize putL n W = Q at hP hpl
  have hlw := h.wlt
  have hlb := h.blt
  have hls := h.bsz
  go_enter Try.func52, Try.ntmps52
  go_wp2_with fail
  refine (hP.out _).mono ?_
  rintro e w1 ⟨rfl, hb1⟩
  have d1 : w1.cell? ⟨br, 0, none⟩ = some v := (hb1.cell (p := ⟨br, 0, none⟩) (by show br < _; omega)).trans hv
  have d2 : w1.frozen? ⟨br, 0, none⟩ = false := (hb1.frozen (p := ⟨br, 0, none⟩) (by show br < _; omega)).trans hf
  have d3 : w1.cell? ⟨bw, 0, none⟩ = some (.int .i64 W) := (hb1.cell (p := ⟨bw, 0, none⟩) (by show bw < _; omega)).trans c1
  have O1 : Hid (w1.ownsRow base 5 1 v l.length (l.map fun b => .int .u8 (b.toNat : Int))) := Lib.hid (HO.out.kept (row := none) ⟨hb1.os, hb1.tape, hb1.output, hb1.size, fun k hk _ => hb1.block k hk⟩ (by cases v.ownBlock <;> simp))
  have hs1 := hb1.size
  go_wp2_with (at_builtin; refine wpList_append_src _ rfl _ _ 73 9 rfl base 5 i0 (.int .u8 0) Try.underlying73 hi hz0 (by rw [hz1]; rfl) v l.length _ rfl (by rw [hz1]; exact O1.out) (.string ⟨Q.toArray⟩) Q.length (Q.map fun b => .int .u8 (b.toNat : Int)) rfl (by rw [hz1, ← bytes_cells, ← bytes_size]; exact Src.ofString _ Try.underlying9 _) (by unfold maxLen; omega) (by rw [hz2]; omega) (by omega) ?_; intro v2 w2 hown2 hgrow2; have e1 := (World.cell?_of_block (a := ⟨br, 0, none⟩) (hgrow2.block br (by omega) (own_ne O1.out hlb))).trans d1; have e2 := (World.frozen?_of_block (a := ⟨br, 0, none⟩) (hgrow2.block br (by omega) (own_ne O1.out hlb))).trans d2; have e3 := (World.cell?_of_block (a := ⟨bw, 0, none⟩) (hgrow2.block bw (by omega) (own_ne O1.out (by omega)))).trans d3; obtain ⟨a2, n2, c2, rfl⟩ := ownsRow_slice hown2; have HW2 := Lib.hid hown2; clear hown2)
  go_ret
  have hs2 := hgrow2.size
  have O2 := HW2.out
  rw [hz1, ← List.map_append, ← List.length_append] at O2
  have B1 : Below br w w1 := hb1.mono (by omega)
  have B2 : Below br w w2 := B1.grown hgrow2 (by omega) (fun k e => by have := (O1.out.lt k e).1; omega)
  refine ⟨rfl, ⟨?_, hlw, hlb, ?_, ⟨_, ?_, ?_, ownsRow_other O2 hlb 0⟩⟩, B2.setCell (p := ⟨br, 0, none⟩) (Nat.le_refl _) _⟩
  · go_simp
  · simp [World.setCell]; omega
  · go_simp
  · go_simp

set_option maxRecDepth 100000 in
set_option maxHeartbeats 400000 in
theorem told_any (W : Int) (w : World) (bw br base : Nat) (l : List UInt8) (h : Lays w bw br base W l) :
    Calls Try.prog 54 #[.pointer (some ⟨br, 0, none⟩)] w fun e w' => e = .returned (.string ⟨l.toArray⟩) ∧ w = w' := by
  obtain ⟨v, hv, hf, hown⟩ := h.row
  have hcv := conv_owned (P := Try.prog) (dst := 9) Try.underlying73 Try.underlying5 Try.underlying9 hown
  obtain ⟨a2, n2, c2, rfl⟩ := ownsRow_slice hown
  clear hown
  go_enter Try.func54, Try.ntmps54
  go_wp2
  go_ret
  exact ⟨rfl, rfl⟩

/-- Where a slice of numbers lies. -/
def IntsAt (w : World) (ao : Option Addr) (len : Nat) (zs : List Int) : Prop :=
  0 < len → ∃ b off, ao = some ⟨b, off, none⟩ ∧ b < w.heap.size ∧ ∀ i, i < len → w.cell? ⟨b, off + i, none⟩ = some (.int .i64 (zs.getD i 0))

set_option maxRecDepth 100000 in
set_option maxHeartbeats 400000 in
theorem row_big (W : Int) (ao : Option Addr) (len cap : Nat) (w : World) (h : 512 < len) :
    Calls Try.prog 37 #[.int .i64 W, .slice ao len cap] w fun e w' => e = .returned (.tuple #[.string ⟨#[]⟩, .int .i64 4]) ∧ w = w' := by
  go_enter Try.func37, Try.ntmps37
  go_wp2
  go_ret2
  exact ⟨rfl, rfl⟩
set_option maxRecDepth 100000 in
set_option maxHeartbeats 400000 in
theorem row_arg (W : Int) (ao : Option Addr) (len cap : Nat) (w : World) (h : len ≤ 512) (hW : ¬ (1 ≤ W ∧ W ≤ 8)) :
    Calls Try.prog 37 #[.int .i64 W, .slice ao len cap] w fun e w' => e = .returned (.tuple #[.string ⟨#[]⟩, .int .i64 2]) ∧ w = w' := by
  have H := Lib.hid hW
  clear hW
  go_enter Try.func37, Try.ntmps37
  go_wp2_with (go_at_call 49; refine (widthMayBe_no _ _ H.out).mono ?_; rintro e w' ⟨rfl, rfl⟩)
  go_ret2
  exact ⟨rfl, rfl⟩
theorem Lays.start (w : World) (W : Int) : Lays ((w.alloc (.cells #[.int .i64 W] 3)).alloc (.cells #[.slice none 0 0] 73)) w.heap.size (w.heap.size + 1) (w.heap.size + 2) W [] :=
  ⟨by simp, by omega, by omega, by simp, _, by simp, by simp, World.ownsRow_nil _ _ _ _⟩

set_option maxRecDepth 100000 in
set_option maxHeartbeats 400000 in
theorem gatherer_any (W : Int) (w : World) :
    Calls Try.prog 50 #[.int .i64 W] w fun e w' => e = .returned (.tuple #[.func (.func 52) #[] #[.pointer (some ⟨w.heap.size, 0, none⟩), .pointer (some ⟨w.heap.size + 1, 0, none⟩)], .func (.func 54) #[] #[.pointer (some ⟨w.heap.size + 1, 0, none⟩)]]) ∧
      (w.alloc (.cells #[.int .i64 W] 3)).alloc (.cells #[.slice none 0 0] 73) = w' := by
  go_enter Try.func50, Try.ntmps50
  go_wp2
  go_ret2
  exact ⟨rfl, rfl⟩

set_option maxRecDepth 100000 in
set_option maxHeartbeats 1000000 in
theorem row_ok (W : Int) (ao : Option Addr) (len cap : Nat) (zs : List Int) (w : World) (h : len ≤ 512) (hW1 : 1 ≤ W) (hW8 : W ≤ 8) (hA : Hid (IntsAt w ao len zs)) (hz : Hid (zs.length = len)) :
    Calls Try.prog 37 #[.int .i64 W, .slice ao len cap] w fun e w' => e = .returned (.tuple #[.string ⟨(rowL W zs).toArray⟩, .int .i64 (rowE W zs)]) ∧ Below w.heap.size w w' := by
  go_enter Try.func37, Try.ntmps37
  go_wp2_with (go_at_call 49; refine (widthMayBe_yes _ _ hW1 hW8).mono ?_; rintro e w' ⟨rfl, rfl⟩)
  refine (gatherer_any W w).mono ?_
  rintro e w' ⟨rfl, rfl⟩
  have L0 := Lays.start w W
  have B0 : Below w.heap.size w ((w.alloc (.cells #[.int .i64 W] 3)).alloc (.cells #[.slice none 0 0] 73)) := ((Below.refl _ _).alloc (Nat.le_refl _) _).alloc (by simp) _
  generalize ((w.alloc (.cells #[.int .i64 W] 3)).alloc (.cells #[.slice none 0 0] 73)) = w0 at L0 B0 ⊢
  go_wp2_with fail
  go_loopw [24] (fun i wr => ∃ k : Nat, k ≤ len ∧ i = .int .i64 k ∧ (∀ j, j < k → putE (zs.getD j 0) W = 0) ∧ Lays wr w.heap.size (w.heap.size + 1) (w.heap.size + 2) W (rowB W (zs.take k)) ∧ Below w.heap.size w wr)
    (fun i _ => len - (intOf i).toNat)
  case atStart => exact ⟨0, by omega, rfl, by intro j hj; omega, by simpa [rowB] using L0, B0⟩
  case round =>
    obtain ⟨k, hk, rfl, hall, L, B⟩ := hrel
    have HAll := Lib.hid hall
    clear hall
    by_cases hlt : k < len
    · obtain ⟨b, off, rfl, hb, hcs⟩ := hA.out (by omega)
      have d0 := (B.cell (p := ⟨b, off + k, none⟩) hb).trans (hcs k hlt)
      clear hcs
      have hsn := Lib.hid (rowB_snoc W zs k (by rw [hz.out]; exact hlt))
      have hln : (rowB W (zs.take k)).length ≤ 1000000 := by
        have := rowB_length W (zs.take k)
        have := List.length_take_le k zs
        omega
      have HL0 := lay_any (zs.getD k 0) W wr _ _ _ _ L hln
      generalize hN : zs.getD k 0 = N at d0 HL0
      have HN := Lib.hid hN
      clear hN
      by_cases hE : putE N W = 0
      · rw [hE] at HL0
        have HL := Lib.hid HL0
        have HE := Lib.hid hE
        clear hE HL0
        go_wp2_with fail
        refine HL.out.mono ?_
        rintro e w2 ⟨rfl, L2, b2⟩
        have B2 : Below w.heap.size w w2 := B.trans (b2.mono (by omega))
        go_wp2
        go_roundw
        case rel =>
          refine ⟨k + 1, by omega, by go_num, ?_, ?_, B2⟩
          · intro j hj
            by_cases e : j = k
            · subst e; rw [HN.out]; exact HE.out
            · exact HAll.out j (by omega)
          · rw [hsn.out, HN.out]; exact L2
        case measure => simp [intOf]; omega
      · have hr := rowE_at W zs k HAll.out (by rw [hz.out]; exact hlt) (by rw [HN.out]; exact hE)
        rw [HN.out] at hr
        have hrl : rowL W zs = [] := by unfold rowL; rw [hr, if_neg hE]
        have hE1 : (putE N W != 0) = true := by rw [bne_iff_ne]; exact hE
        clear hE
        generalize putE N W = E at hE1 HL0 hr
        have HR := Lib.hid hr
        have HRL := Lib.hid hrl
        have HL := Lib.hid HL0
        clear HL0 hr hrl
        go_wp2_with fail
        refine HL.out.mono ?_
        rintro e w2 ⟨rfl, L2, b2⟩
        have B2 : Below w.heap.size w w2 := B.trans (b2.mono (by omega))
        go_wp2
        go_ret2
        exact ⟨by rw [HRL.out, HR.out]; rfl, B2⟩
    · have hkl : Hid (k = zs.length) := Lib.hid (by rw [hz.out]; omega)
      have hr := rowE_ok W zs (fun i hi => HAll.out i (by rw [hkl.out]; exact hi))
      have hrl : rowL W zs = rowB W zs := by unfold rowL; rw [hr, if_pos rfl]
      have htk : rowB W (zs.take k) = rowB W zs := by rw [hkl.out, List.take_length]
      rw [htk] at L
      clear htk
      generalize rowB W zs = R at L hrl
      have HR := Lib.hid hr
      have HRL := Lib.hid hrl
      clear hr hrl
      go_wp2_with fail
      refine (told_any W wr _ _ _ R L).mono ?_
      rintro e w' ⟨rfl, rfl⟩
      go_wp2
      go_ret2
      exact ⟨by rw [HRL.out, HR.out]; rfl, B⟩
end Go.Proofs.Ythhgodfgigcacaa
