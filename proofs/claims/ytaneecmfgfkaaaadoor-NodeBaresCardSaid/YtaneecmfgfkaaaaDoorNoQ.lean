/- Contracts (cellaret): 64 sums, of those that are said and of bare leaves (layer 17). -/
import Derived.Test.YtaneecmfgfkaaaaDoorNoP
namespace Go.Proofs.YtaneecmfgfkaaaaDoor
open Go.RowKit Go.Deep Go.Maps
set_option linter.unusedVariables false
set_option linter.unusedSimpArgs false
theorem wpList_build1 {P : Program} {ops : Array Oper} {rest : List Oper} {o : Oper} {a : Act} {w : World} {Q : Exit → Act → World → Prop} (hgd : o.guard = none) (t e : TypeId) (x : Operand) (ho : o.op = .buildSlice t 1 #[(0, x)])
    (ie : TypeInfo) (z : Value) (size : Nat) (hu : P.underlying t = some (.slice e)) (hie : P.info? e = some ie) (hz : ie.zero = some z) (hsz : ie.size = size) (hpos : 0 < size) (hsm : size ≤ 1000) (v : Value) (hv : a.eval x = v) (hvs : v.cells.size = size)
    (h : wpList P ops Q rest (a.put o.dst (.slice (some ⟨w.heap.size, 0, none⟩) 1 1)) (w.alloc (.cells v.cells e))) : wpList P ops Q (o :: rest) a w :=
  wpList_plain hgd fun _ hK => wp_build1 t e x ho ie z size hu hie hz hsz hpos hsm v hv hvs (hK _ _ h)
def bareL : List UInt8 := sumL ((⟨#[0]⟩ : ByteArray) ++ z64B).data.toList
theorem bareL_len : bareL.length = 32 := sumL_len _
def sumsF (X : List (List UInt8)) (i : Nat) : List UInt8 := if i < X.length then dg X i else bareL
def sumsL (X : List (List UInt8)) : List (List UInt8) := (List.range 64).map (sumsF X)
theorem sumsL_len (X : List (List UInt8)) : (sumsL X).length = 64 := by unfold sumsL; simp
theorem sumsF_32 (X : List (List UInt8)) (h : ∀ x ∈ X, x.length = 32) (i : Nat) : (sumsF X i).length = 32 := by
  unfold sumsF
  split
  · exact dg_32 X h i ‹_›
  · exact bareL_len
theorem sumsL_32 (X : List (List UInt8)) (h : ∀ x ∈ X, x.length = 32) : ∀ x ∈ sumsL X, x.length = 32 := fun x hx => by
  unfold sumsL at hx
  obtain ⟨i, _, rfl⟩ := List.mem_map.1 hx
  exact sumsF_32 X h i
theorem sumsL_at (X : List (List UInt8)) (i : Nat) (h : i < 64) : dg (sumsL X) i = sumsF X i := by
  unfold dg sumsL
  rw [List.getElem?_map, List.getElem?_range h]
  rfl
theorem sumsL_same (X : List (List UInt8)) (h : X.length = 64) : sumsL X = X := by
  apply dg_ext _ _ (by rw [sumsL_len, h])
  intro i hi
  rw [sumsL_len] at hi
  rw [sumsL_at X i hi, sumsF, if_pos (by omega)]
def flS (X : List (List UInt8)) (k : Nat) : List Value := ((List.range k).map (sumsF X)).flatMap bv
theorem flS_step (X : List (List UInt8)) (k : Nat) : flS X (k + 1) = flS X k ++ bv (sumsF X k) := by
  unfold flS
  rw [List.range_succ, List.map_append, List.flatMap_append]
  simp
theorem flS_all (X : List (List UInt8)) : flS X 64 = (sumsL X).flatMap bv := rfl
theorem new_cells (W : World) (l : List UInt8) : ∀ j u, (bv l)[j]? = some u → (W.alloc (.cells (Value.agg (digA l)).cells 34)).cell? ((⟨W.heap.size, 0, none⟩ : Addr).add j) = some u := fun j u hu => by
  have h := heap_alloc_new W (.cells (Value.agg (digA l)).cells 34)
  rw [Addr.add_mid, Nat.zero_add, cell_of_row _ _ j _ _ _ h]
  show (digA l)[j]? = some u
  unfold digA
  rw [List.getElem?_toArray]
  exact hu
theorem agg_cells (l : List UInt8) (h : l.length = 32) : (Value.agg (digA l)).cells.size = 32 := by
  show (digA l).size = 32
  rw [digA_size, h]
attribute [local irreducible] digA sumL z32 sB bv sumsF flS z64B
set_option maxRecDepth 100000 in
set_option maxHeartbeats 4000000 in
theorem sums_anyc (X : List (List UInt8)) (la : Option Addr) (n c : Nat) (w : World) (hG : Gl w) (hn : X.length = n) (hm : n ≤ 9223372036854775807) (h32 : ∀ x ∈ X, x.length = 32) (hT : DigAt w la X) :
    Calls Tryd.prog 25 #[.slice la n c] w fun e w' => ∃ g c', e = .returned (.slice (some ⟨g, 0, none⟩) 64 c') ∧ RowD w' g c' 64 (dg (sumsL X)) ∧ w.heap.size ≤ g ∧ Below w.heap.size w w' ∧ c' ≤ 9223372036854775807 := by
  have hz := zero_dig
  obtain ⟨id_, hdi, hdz0, hdz1, hdz2⟩ := info_parts' info_dig'
  have HT := Lib.hid hT
  have HN := Lib.hid hn
  have H32 := Lib.hid h32
  have HF := Lib.hid (sumsF_32 X h32)
  have HSTEP := Lib.hid (flS_step X)
  have HALL := Lib.hid (flS_all X)
  have HZ := Lib.hid zerosB64
  have hadd : ∀ V : World, (Op.stringOp .add (⟨#[0]⟩ : ByteArray) z64B).run Tryd.prog V = .ok (.string ((⟨#[0]⟩ : ByteArray) ++ z64B)) V := fun V => run_string_add_sum V _ _ (by rw [one0, z64B_size]; omega)
  have HS : Hid (∀ w, Gl w → Calls Tryd.prog 14 #[.string ((⟨#[0]⟩ : ByteArray) ++ z64B)] w fun e w' => e = .returned (.agg (digA bareL)) ∧ Below w.heap.size w w') := Lib.hid (fun w hw => sum_any ((⟨#[0]⟩ : ByteArray) ++ z64B) w (by rw [ByteArray.size_append, one0, z64B_size]; omega) hw)
  have H0 : Hid (flS X 0 = []) := Lib.hid (by with_unfolding_all rfl)
  clear hT hn h32
  generalize (⟨#[0]⟩ : ByteArray) ++ z64B = ms at *
  go_enter Tryd.func25, Tryd.ntmps25
  go_wp2_with fail
  go_loopw [4, 3] (fun x v wi => ∃ k : Nat, x = .int .i64 (k : Int) ∧ k ≤ 64 ∧ Hid (wi.ownsRow w.heap.size 34 32 v k (flS X k)) ∧ Hid (Below w.heap.size w wi)) (fun x _ _ => 64 - (intOf x).toNat)
  case atStart => exact ⟨0, rfl, by omega, Lib.hid (by rw [H0.out]; with_unfolding_all exact World.ownsRow_nil _ _ _ _), Lib.hid (Below.refl _ _)⟩
  case round =>
    obtain ⟨k, rfl, hk, HO, HB⟩ := hrel
    obtain ⟨a, cc, rfl, hc1, hc2⟩ := own_sl HO.out
    have hwr : w.heap.size ≤ wr.heap.size := HB.out.size
    by_cases hlt : k < 64
    · have hli : (k : Int) < 64 := by omega
      have HD : Hid ((bv (sumsF X k)).length = 32) := Lib.hid ((bv_len _).trans (HF.out k))
      have HONE := Lib.hid (bv_one (sumsF X k))
      have HFS := HSTEP.out k
      by_cases hkn : k < n
      · as_aux_lemma =>
        have hkX : k < X.length := by rw [HN.out]; exact hkn
        have e1 : sumsF X k = X[k] := by with_unfolding_all (show (if k < X.length then dg X k else bareL) = _); rw [if_pos hkX, dg_at X k hkX]
        rw [e1] at HD HONE HFS
        obtain ⟨g0, o0, rfl, hg0, hrow⟩ := HT.out (by omega)
        have hr := range_below (hrow k hkX) HB.out hg0
        have HBD : Hid ((bv X[k]).toArray = digA X[k]) := Lib.hid (by with_unfolding_all rfl)
        have HNEW := Lib.hid (new_cells wr X[k])
        have HAG := Lib.hid (agg_cells X[k] (H32.out _ (List.getElem_mem hkX)))
        have HKS := Lib.hid HFS
        have hkn2 : (k : Int) < (n : Int) := by omega
        clear HFS e1 hrow hadd HS HZ
        generalize bv (X[k]'hkX) = BX at *
        generalize digA (X[k]'hkX) = DX at *
        go_wp2_with (first | (refine wpList_load_mid rfl 34 _ rfl g0 (o0 + k * 32) rfl BX _ hr Tryd.underlying34 rfl (by rw [HD.out]; kernel_rfl) ?_; rw [HBD.out]) | (refine wpList_build1 rfl 54 34 _ rfl id_ (.agg z32) 32 Tryd.underlying54 hdi hdz0 hdz1 (by decide) (by decide) (.agg DX) rfl HAG.out ?_) | (at_builtin; refine wpList_append_src2 _ rfl _ _ 54 54 rfl w.heap.size 34 id_ (.agg z32) 32 32 Tryd.underlying54 hdi hdz0 hdz1 hdz2 (by with_unfolding_all rfl) (by decide) (.slice a k cc) k _ rfl (HO.out.alloc _) (.slice (some ⟨wr.heap.size, 0, none⟩) 1 1) 1 BX rfl (Src.ofSlice _ Tryd.underlying54 ⟨wr.heap.size, 0, none⟩ 1 1 BX (by rw [HD.out]) HNEW.out HONE.out) (by unfold maxLen; omega) (by omega) (by simp; omega) ?_; intro v5 w5 O5 G5 A5; obtain ⟨a5, c5, rfl, _, _⟩ := own_sl O5))
        have B5 : Below w.heap.size w w5 := (HB.out.alloc hwr _).grown G5 (by simp; omega) (fun j e => (HO.out.lt j e).1)
        go_wp2_with fail
        go_roundw
        case rel => exact ⟨k + 1, by go_num, by omega, Lib.hid (by rw [HKS.out]; exact O5), Lib.hid B5⟩
        case measure => simp [intOf]; omega
      · as_aux_lemma =>
        have e1 : sumsF X k = bareL := by with_unfolding_all (show (if k < X.length then dg X k else bareL) = _); rw [if_neg (by rw [HN.out]; exact hkn)]
        rw [e1] at HD HONE HFS
        have HNEW := Lib.hid (fun W => new_cells W bareL)
        have HAG := Lib.hid (agg_cells bareL bareL_len)
        have HKS := Lib.hid HFS
        have hkn2 : ¬ (k : Int) < (n : Int) := by omega
        clear HFS e1
        generalize bv bareL = BX at *
        generalize digA bareL = DX at *
        go_wp2_with fail
        refine (HZ.out _).mono ?_
        rintro e w2 ⟨rfl, b2⟩
        have B2 := HB.out.trans (b2.mono hwr)
        have O2 := own_below' HO.out b2
        clear HO b2
        go_wp2_with fail
        refine (HS.out _ (hG.below B2)).mono ?_
        rintro e w3 ⟨rfl, b3⟩
        have B3 := B2.trans (b3.mono B2.size)
        have O3 := own_below' O2 b3
        clear O2 b3 B2
        have hN3 := HNEW.out w3
        have hs3 : w.heap.size ≤ w3.heap.size := B3.size
        go_wp2_with (first | (refine wpList_build1 rfl 54 34 _ rfl id_ (.agg z32) 32 Tryd.underlying54 hdi hdz0 hdz1 (by decide) (by decide) (.agg DX) rfl HAG.out ?_) | (at_builtin; refine wpList_append_src2 _ rfl _ _ 54 54 rfl w.heap.size 34 id_ (.agg z32) 32 32 Tryd.underlying54 hdi hdz0 hdz1 hdz2 (by with_unfolding_all rfl) (by decide) (.slice a k cc) k _ rfl (O3.alloc _) (.slice (some ⟨w3.heap.size, 0, none⟩) 1 1) 1 BX rfl (Src.ofSlice _ Tryd.underlying54 ⟨w3.heap.size, 0, none⟩ 1 1 BX (by rw [HD.out]) hN3 HONE.out) (by unfold maxLen; omega) (by omega) (by simp; omega) ?_; intro v5 w5 O5 G5 A5; obtain ⟨a5, c5, rfl, _, _⟩ := own_sl O5))
        have B5 : Below w.heap.size w w5 := (B3.alloc hs3 _).grown G5 (by simp; omega) (fun j e => (O3.lt j e).1)
        go_wp2_with fail
        go_roundw
        case rel => exact ⟨k + 1, by go_num, by omega, Lib.hid (by rw [HKS.out]; exact O5), Lib.hid B5⟩
        case measure => simp [intOf]; omega
    · obtain rfl : k = 64 := by omega
      have hO := HO.out
      rw [HALL.out] at hO
      obtain ⟨g, c', e, hgb, hrw⟩ := own_rowBlk (sumsL X) (sumsL_len X) (sumsL_32 X H32.out) (by rw [Nat.zero_add, List.nil_append]; exact hO)
      cases e
      go_wp2_with fail
      go_ret
      exact ⟨g, cc, rfl, hrw, hgb, HB.out, hc2⟩
theorem sums_any (X : List (List UInt8)) (la : Option Addr) (n c : Nat) (w : World) (hG : Gl w) (hn : X.length = n) (hm : n ≤ 9223372036854775807) (h32 : ∀ x ∈ X, x.length = 32) (hT : DigAt w la X) :
    Calls Tryd.prog 25 #[.slice la n c] w fun e w' => ∃ g c', e = .returned (.slice (some ⟨g, 0, none⟩) 64 c') ∧ RowD w' g c' 64 (dg (sumsL X)) ∧ w.heap.size ≤ g ∧ Below w.heap.size w w' :=
  (sums_anyc X la n c w hG hn hm h32 hT).mono fun _ _ ⟨g, c', h1, h2, h3, h4, _⟩ => ⟨g, c', h1, h2, h3, h4⟩
end Go.Proofs.YtaneecmfgfkaaaaDoor
