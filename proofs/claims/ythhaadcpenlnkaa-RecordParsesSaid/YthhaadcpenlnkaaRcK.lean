/- Package record (cellaret): wholeBlocks, reader and what it makes; rows of Puts of one's own. -/
import Derived.Test.YthhaadcpenlnkaaRcJ
namespace Go.Proofs.Ythhaadcpenlnkaa
open Go.RowKit Go.Deep
set_option linter.unusedVariables false
set_option linter.unusedSimpArgs false
attribute [local irreducible] rcA
theorem TxtAt.take {w : World} {a : Option Addr} {L : List ByteArray} (h : TxtAt w a L) (n : Nat) : TxtAt w a (L.take n) := fun h0 => by
  obtain ⟨g, o, h1, h2, h3⟩ := h (by rw [List.length_take] at h0; omega)
  exact ⟨g, o, h1, h2, fun i hi => by rw [List.getElem_take]; exact h3 i (by rw [List.length_take] at hi; omega)⟩
def all64 (L : List ByteArray) : Prop := ∀ j, j < L.length → (tB L j).size = 64
instance all64_dec (L : List ByteArray) : Decidable (all64 L) := by unfold all64; exact inferInstance
set_option maxRecDepth 100000 in
set_option maxHeartbeats 2000000 in
theorem whole_any (L : List ByteArray) (ao : Option Addr) (n cap : Nat) (w : World) (hn : L.length = n) (hnm : n ≤ 9223372036854775807) (hP : TxtAt w ao L) :
    Calls Try.prog 28 #[.slice ao n cap] w fun e w' => e = .returned (.bool (decide (all64 L))) ∧ w = w' := by
  have HP := Lib.hid hP
  have HN := Lib.hid hn
  clear hP hn
  have HF : Hid (¬ all64 L → decide (all64 L) = false) := Lib.hid (fun h => decide_eq_false h)
  have HT : Hid (all64 L → decide (all64 L) = true) := Lib.hid (fun h => decide_eq_true h)
  go_enter Try.func28, Try.ntmps28
  go_wp2_with fail
  go_loopw [4, 7] (fun _ x wi => ∃ k : Nat, x = .int .i64 (k : Int) ∧ k ≤ n ∧ Hid (∀ j, j < k → (tB L j).size = 64) ∧ Hid (w = wi)) (fun _ x _ => n - (intOf x).toNat)
  case atStart => exact ⟨0, rfl, by omega, Lib.hid (fun j hj => absurd hj (by omega)), Lib.hid rfl⟩
  case round =>
    obtain ⟨k, rfl, hk, HO, HE⟩ := hrel
    obtain rfl := HE.out
    clear HE
    by_cases hkn : k < n
    · have hki : (k : Int) < (n : Int) := by omega
      obtain ⟨g, o, rfl, hg, hc⟩ := HP.out (by rw [HN.out]; omega)
      have d1 := hc k (by rw [HN.out]; exact hkn)
      rw [tB_get] at d1
      clear hc
      obtain ⟨b, hbb⟩ : ∃ b, Hid (tB L k = b) := ⟨_, Lib.hid rfl⟩
      rw [hbb.out] at d1
      by_cases h3 : b.size = 64
      · have n3 : ((b.size : Int) != 64) = false := by rw [bne_eq_false_iff_eq]; omega
        have H3 := Lib.hid h3
        clear h3
        go_wp2_with fail
        go_roundw
        case rel =>
          refine ⟨k + 1, by go_num, by omega, Lib.hid (fun j hj => ?_), by first | exact Lib.hid rfl | exact Lib.hid trivial⟩
          by_cases e : j = k
          · subst e; rw [hbb.out]; exact H3.out
          · exact HO.out j (by omega)
        case measure => simp [intOf]; omega
      · have n3 : ((b.size : Int) != 64) = true := by rw [bne_iff_ne]; omega
        have HNO : Hid (decide (all64 L) = false) := Lib.hid (HF.out (fun h => h3 (by rw [← hbb.out]; exact h k (by rw [HN.out]; exact hkn))))
        clear h3
        go_wp2_with fail
        go_ret
        exact ⟨by rw [HNO.out]; rfl, rfl⟩
    · obtain rfl : k = n := by omega
      have HYES : Hid (decide (all64 L) = true) := Lib.hid (HT.out (fun j hj => HO.out j (by rw [HN.out] at hj; exact hj)))
      go_wp2_with fail
      go_ret
      exact ⟨by rw [HYES.out]; rfl, rfl⟩
/-- What reads Puts: where the blocks are, and where the Puts begin. -/
structure RdrAt (w : World) (g h : Nat) (ao : Option Addr) (n cap pl : Nat) : Prop where
  blocks : w.cell? ⟨g, 0, none⟩ = some (.slice ao n cap)
  first : w.cell? ⟨h, 0, none⟩ = some (.int .i64 ((1 + pl : Nat) : Int))
  gl : g < w.heap.size
  hl : h < w.heap.size
theorem RdrAt.below {w w' : World} {g h : Nat} {ao : Option Addr} {n cap pl : Nat} (H : RdrAt w g h ao n cap pl) (hb : Below w.heap.size w w') : RdrAt w' g h ao n cap pl :=
  ⟨(hb.cell (p := ⟨g, 0, none⟩) H.gl).trans H.blocks, (hb.cell (p := ⟨h, 0, none⟩) H.hl).trans H.first, Nat.lt_of_lt_of_le H.gl hb.size, Nat.lt_of_lt_of_le H.hl hb.size⟩
set_option maxRecDepth 100000 in
set_option maxHeartbeats 2000000 in
theorem reader_any (ao : Option Addr) (n cap k : Nat) (w : World) (hk : k ≤ 64) :
    Calls Try.prog 29 #[.slice ao n cap, .int .i64 (k : Int)] w fun e w' => e = .returned (.func (.func 40) #[] #[.pointer (some ⟨w.heap.size, 0, none⟩), .pointer (some ⟨w.heap.size + 1, 0, none⟩)]) ∧ RdrAt w' w.heap.size (w.heap.size + 1) ao n cap (plN k) ∧ Below w.heap.size w w' := by
  have CP := Lib.hid (fun w => places_any k w (by omega))
  have hp : plN k ≤ 3 := by unfold plN; omega
  have e0 : Hid ((k + 31) / 32 = plN k) := Lib.hid rfl
  rw [e0.out] at CP
  clear e0
  generalize plN k = m at *
  have y1 : IntKind.i64.wrap (1 + (m : Int)) = 1 + (m : Int) := IntWalk.i64_in _ (by omega)
  go_enter Try.func29, Try.ntmps29
  go_wp2_with fail
  refine (CP.out _).mono ?_
  rintro e w' ⟨rfl, rfl⟩
  go_wp2_with fail
  go_ret
  refine ⟨rfl, ⟨?_, ?_, ?_, ?_⟩, ?_⟩
  · go_simp
  · rw [show ((1 + m : Nat) : Int) = 1 + (m : Int) by omega]
    go_simp
  · simp [World.setCell]; omega
  · simp [World.setCell]
  · exact ((Below.refl _ _).alloc (Nat.le_refl _) _).alloc (by simp) _
set_option maxRecDepth 100000 in
set_option maxHeartbeats 2000000 in
theorem reads_any (L : List ByteArray) (g h : Nat) (ao : Option Addr) (n cap k i : Nat) (w : World) (hL : L.length = n) (hnm : n ≤ 9223372036854775807) (hT : TxtAt w ao L) (hR : RdrAt w g h ao n cap (plN k)) (hk : k ≤ 64) (hi : i < k) (hn : lenN k ≤ n) (h64 : (tB L (1 + i / 32)).size = 64) :
    Calls Try.prog 40 #[.int .i64 (i : Int), .pointer (some ⟨g, 0, none⟩), .pointer (some ⟨h, 0, none⟩)] w fun e w' => e = .returned (.agg #[.int .i64 (atP L i), .string (tB L (1 + plN k + i))]) ∧ Below w.heap.size w w' := by
  have hpl : plN k ≤ 3 := by unfold plN; omega
  have hle : lenN k = 1 + plN k + k := rfl
  have hc32 : i / 32 < plN k := by unfold plN; omega
  obtain ⟨gt, ot, rfl, hgt, htx⟩ := hT (by omega)
  have t0 := htx (1 + i / 32) (by omega)
  have t1 := htx (1 + plN k + i) (by omega)
  rw [tB_get] at t0 t1
  have hlt := hR.gl
  have hlh := hR.hl
  have c0 := hR.blocks
  have c1 := hR.first
  have HA : Hid (∀ j, j = i % 32 → beV ((tB L (1 + i / 32)).extract (j * 2) (j * 2 + 2)).data.toList = atP L i) := Lib.hid (fun j hj => by subst hj; rw [Nat.mul_comm (i % 32) 2]; rfl)
  clear hT hR htx
  generalize tB L (1 + plN k + i) = tp at *
  generalize tB L (1 + i / 32) = tb at *
  generalize atP L i = av at *
  generalize plN k = m at *
  obtain ⟨c, hc⟩ : ∃ c, Hid (i / 32 = c) := ⟨_, Lib.hid rfl⟩
  obtain ⟨j, hj⟩ : ∃ j, Hid (i % 32 = j) := ⟨_, Lib.hid rfl⟩
  have HA2 := Lib.hid (HA.out j hj.out.symm)
  clear HA
  have hj32 : j < 32 := by have := hj.out; omega
  have PG := Lib.hid (fun w => get_any (tb.extract (j * 2) (j * 2 + 2)) w)
  have hl := ext_len' tb (j * 2) (j * 2 + 2) (by omega) (by omega)
  rw [getE_short (by omega) (by omega), getV_short (by omega) (by omega), HA2.out] at PG
  rw [hc.out] at t0 hc32
  have y1 : (i : Int).tmod 32 = (j : Int) := by rw [Int.tmod_eq_emod_of_nonneg (by omega)]; have := hj.out; omega
  have y1' : (i : Int) % 32 = (j : Int) := by have := hj.out; omega
  have y2 : (i : Int).tdiv 32 = (c : Int) := by rw [Int.tdiv_eq_ediv_of_nonneg (by omega)]; have := hc.out; omega
  have y2' : (i : Int) / 32 = (c : Int) := by have := hc.out; omega
  have y0 : IntKind.i64.wrap (j : Int) = (j : Int) := IntWalk.i64_in _ (by omega)
  have y3 : IntKind.i64.wrap ((j : Int) * 2) = (j : Int) * 2 := IntWalk.i64_in _ (by omega)
  have y4 : IntKind.i64.wrap (c : Int) = (c : Int) := IntWalk.i64_in _ (by omega)
  have y5 : IntKind.i64.wrap (1 + (c : Int)) = 1 + (c : Int) := IntWalk.i64_in _ (by omega)
  have y6 : IntKind.i64.wrap ((j : Int) * 2 + 2) = (j : Int) * 2 + 2 := IntWalk.i64_in _ (by omega)
  have y7 : IntKind.i64.wrap (1 + (m : Int) + (i : Int)) = 1 + (m : Int) + (i : Int) := IntWalk.i64_in _ (by omega)
  clear hl
  go_enter Try.func40, Try.ntmps40
  go_wp2_with fail
  refine (PG.out _).mono ?_
  rintro e w' ⟨rfl, rfl⟩
  go_wp2_with fail
  refine bodyPost_ret_by (results_cell_row rfl _ _ w.heap.size 48 #[.int .i64 av, .string tp] (0, 0) _ rfl (heap_alloc_new _ _) Try.underlying48 rfl (by kernel_rfl)) rfl ⟨rfl, ?_⟩
  exact (Below.refl _ _).alloc (Nat.le_refl _) _
def ptV (ps : List Pt) : List Value := ps.flatMap fun p => [.int .i64 p.1, .string p.2]
theorem ptV_len (ps : List Pt) : (ptV ps).length = ps.length * 2 := by
  induction ps with
  | nil => rfl
  | cons p r ih => unfold ptV at ih ⊢; rw [List.flatMap_cons, List.length_append, ih]; simp; omega
theorem ptV_snoc (ps : List Pt) (p : Pt) : ptV (ps ++ [p]) = ptV ps ++ [.int .i64 p.1, .string p.2] := by
  unfold ptV
  rw [List.flatMap_append]
  simp
theorem ptV_get (ps : List Pt) : ∀ i, i < ps.length → (ptV ps)[i * 2]? = some (.int .i64 (pAt ps i)) ∧ (ptV ps)[i * 2 + 1]? = some (.string (pB ps i)) := by
  induction ps with
  | nil => intro i hi; simp at hi
  | cons p r ih =>
    intro i hi
    have e : ptV (p :: r) = [.int .i64 p.1, .string p.2] ++ ptV r := by unfold ptV; rw [List.flatMap_cons]
    rw [e]
    cases i with
    | zero => exact ⟨rfl, rfl⟩
    | succ i =>
      have h := ih i (by simpa using hi)
      rw [show (i + 1) * 2 = i * 2 + 2 by omega]
      exact h
theorem own_pt {w : World} {base : Nat} {v : Value} {n : Nat} {ps : List Pt} (h : w.ownsRow base 48 2 v n (ptV ps)) : ∃ a c, v = .slice a n c ∧ n ≤ c ∧ c ≤ maxLen ∧ ps.length = n ∧ PtAt w a ps := by
  have hl : ps.length = n := by have := h.1; rw [ptV_len] at this; omega
  rcases h.2 with ⟨rfl, h0⟩ | ⟨g, cap, cur, rfl, hb, hg, hnc, hcm, hcs, htk⟩
  · exact ⟨none, 0, by rw [h0], by omega, by unfold maxLen; omega, hl, fun hp => by omega⟩
  · refine ⟨_, _, rfl, hnc, hcm, hl, fun hp => ⟨g, 0, rfl, (Array.getElem?_eq_some_iff.1 hg).1, fun i hi => ?_⟩⟩
    have h2 := ptV_get ps i hi
    have c0 := h.cells (g := g) rfl (i * 2) _ h2.1
    have c1 := h.cells (g := g) rfl (i * 2 + 1) _ h2.2
    rw [Addr.add_lit] at c0 c1
    exact ⟨c0, c1⟩
end Go.Proofs.Ythhaadcpenlnkaa
