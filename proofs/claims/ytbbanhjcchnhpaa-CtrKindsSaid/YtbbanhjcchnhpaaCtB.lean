/- Package ctr (cellaret): Stream. -/
import Derived.Test.YtbbanhjcchnhpaaCtA
namespace Go.Proofs.Ytbbanhjcchnhpaa
open Go.RowKit Go.Deep
set_option linter.unusedVariables false
set_option linter.unusedSimpArgs false
theorem st_nil (num n : Int) (w : World) : Calls Try.prog 29 #[.pointer none, .int .i64 num, .int .i64 n] w fun e w' => e = .returned (.tuple #[.string ⟨#[]⟩, .int .i64 1]) ∧ w = w' := by
  go_enter Try.func29, Try.ntmps29
  go_wp2_with fail
  go_ret2
  exact ⟨rfl, rfl⟩
theorem st_arg (kg : Nat) (num n : Int) (w : World) (hn : okN num = false) : Calls Try.prog 29 #[.pointer (some ⟨kg, 0, none⟩), .int .i64 num, .int .i64 n] w fun e w' => e = .returned (.tuple #[.string ⟨#[]⟩, .int .i64 2]) ∧ w = w' := by
  have CM := Lib.hid (fun w => mayBe_any num w)
  rw [hn] at CM
  go_enter Try.func29, Try.ntmps29
  go_wp2_with fail
  refine (CM.out _).mono ?_
  rintro e w' ⟨rfl, rfl⟩
  go_wp2_with fail
  go_ret2
  exact ⟨rfl, rfl⟩
theorem st_big (kg : Nat) (num n : Int) (w : World) (hn : okN num = true) (hb : n < 0 ∨ 4096 < n) : Calls Try.prog 29 #[.pointer (some ⟨kg, 0, none⟩), .int .i64 num, .int .i64 n] w fun e w' => e = .returned (.tuple #[.string ⟨#[]⟩, .int .i64 4]) ∧ w = w' := by
  have CM := Lib.hid (fun w => mayBe_any num w)
  rw [hn] at CM
  rcases hb with h | h
  · go_enter Try.func29, Try.ntmps29
    go_wp2_with fail
    refine (CM.out _).mono ?_
    rintro e w' ⟨rfl, rfl⟩
    go_wp2_with fail
    go_ret2
    exact ⟨rfl, rfl⟩
  · have h0 : ¬ n < 0 := by omega
    go_enter Try.func29, Try.ntmps29
    go_wp2_with fail
    refine (CM.out _).mono ?_
    rintro e w' ⟨rfl, rfl⟩
    go_wp2_with fail
    go_ret2
    exact ⟨rfl, rfl⟩
def bvL (l : List UInt8) : List Value := l.map fun b => .int .u8 (b.toNat : Int)
theorem info_u8G : (Try.prog.info? 5).map (fun i => (i.zero, i.size, i.bytes)) = some (some (.int .u8 0), 1, 1) := by kernel_rfl
theorem cell_grown {w w' : World} {row : Option Nat} (hg : w.grownBy w' row) {b o : Nat} {v : Value} (hc : w.cell? ⟨b, o, none⟩ = some v) (hn : row ≠ some b) : w'.cell? ⟨b, o, none⟩ = some v :=
  (hg.cell_far ⟨b, o, none⟩ (block_lt_of_cell hc) (fun e => hn e.symm)).trans hc
theorem PcAt.grown {w w' : World} {kg : Nat} {num : Int} {p5 p6 p7 : Nat} {row : Option Nat} (h : PcAt w kg num p5 p6 p7) (hg : w.grownBy w' row) (h5 : row ≠ some p5) (h6 : row ≠ some p6) (h7 : row ≠ some p7) : PcAt w' kg num p5 p6 p7 :=
  ⟨cell_grown hg h.fn h5, cell_grown hg h.hd h6, cell_grown hg h.er h7⟩
/-- A stream's row so far. -/
structure StAt (base : Nat) (w : World) (v : Value) (l : List UInt8) (kg : Nat) (num : Int) (p5 p6 p7 : Nat) : Prop where
  own : w.ownsRow base 5 1 v l.length (bvL l)
  pc : PcAt w kg num p5 p6 p7
  f5 : v.ownBlock ≠ some p5
  f6 : v.ownBlock ≠ some p6
  f7 : v.ownBlock ≠ some p7
theorem StAt.below {base : Nat} {w w' : World} {v : Value} {l : List UInt8} {kg : Nat} {num : Int} {p5 p6 p7 : Nat} (h : StAt base w v l kg num p5 p6 p7) (hb : Below w.heap.size w w') : StAt base w' v l kg num p5 p6 p7 :=
  ⟨own_belowG h.own hb, h.pc.below hb, h.f5, h.f6, h.f7⟩
theorem StAt.grown {base : Nat} {w w' : World} {v v' : Value} {l k : List UInt8} {kg : Nat} {num : Int} {p5 p6 p7 : Nat} (h : StAt base w v l kg num p5 p6 p7) (hown : w'.ownsRow base 5 1 v' (l ++ k).length (bvL (l ++ k))) (hk : (l ++ k) ≠ []) (hg : w.grownBy w' v.ownBlock) : StAt base w' v' (l ++ k) kg num p5 p6 p7 := by
  have hpc := h.pc.grown hg h.f5 h.f6 h.f7
  have h0 : ∃ x, (bvL (l ++ k))[0]? = some (.int .u8 x) := by
    cases hl : l ++ k with
    | nil => exact absurd hl hk
    | cons a r => exact ⟨_, rfl⟩
  obtain ⟨x, h0⟩ := h0
  refine ⟨hown, hpc, fun e => ?_, fun e => ?_, fun e => ?_⟩
  · have h1 := hown.cells e 0 _ h0
    rw [Addr.add_mid, Nat.zero_add, hpc.fn] at h1
    cases h1
  · have h1 := hown.cells e 0 _ h0
    rw [Addr.add_mid, Nat.zero_add, hpc.hd] at h1
    cases h1
  · have h1 := hown.cells e 0 _ h0
    rw [Addr.add_mid, Nat.zero_add, hpc.er] at h1
    cases h1
theorem conv_pre {w : World} {g c n : Nat} {l : List UInt8} (hcell : ∀ j u, (bvL l)[j]? = some u → w.cell? ⟨g, j, none⟩ = some u) (hn : n ≤ l.length) : (convert 77 9 (.slice (some ⟨g, 0, none⟩) n c)).run Try.prog w = .ok (.string ⟨(l.take n).toArray⟩) w := by
  have h := run_convert_bytes_back (P := Try.prog) w 77 9 5 ⟨g, 0, none⟩ c (l.take n) Try.underlying77 Try.underlying5 Try.underlying9 (fun j hj => by
    rw [Addr.add_mid, Nat.zero_add]
    refine hcell j _ ?_
    have hj2 : j < l.length := by rw [List.length_take] at hj; omega
    unfold bvL
    rw [List.getElem?_map, List.getElem?_eq_getElem hj2, List.getElem_take]
    rfl)
  rw [List.length_take, Nat.min_eq_left hn] at h
  exact h
set_option maxRecDepth 100000 in
set_option maxHeartbeats 3000000 in
theorem st_ok (kg : Nat) (W : Nat → UInt32) (num : Int) (n : Nat) (w : World) (hn : okN num = true) (hn4 : n ≤ 4096) (hK : Hid (KeyAt w kg W)) :
    Calls Try.prog 29 #[.pointer (some ⟨kg, 0, none⟩), .int .i64 num, .int .i64 (n : Int)] w fun e w' => e = .returned (.tuple #[.string (streamB W num n), .int .i64 0]) ∧ Below w.heap.size w w' := by
  have CM := Lib.hid (fun w => mayBe_any num w)
  rw [hn] at CM
  have CP := Lib.hid (fun w => pieces_any kg num w hn)
  obtain ⟨i0, hi0, hz0, hz1, hz2⟩ := info_partsG info_u8G
  have h0 : ¬ (n : Int) < 0 := by omega
  have h1 : ¬ (4096 : Int) < (n : Int) := by omega
  have hw1 : IntKind.i64.wrap ((n : Int) + 16) = (n : Int) + 16 := IntWalk.i64_in _ (by omega)
  obtain ⟨w1, HMK, HO1, B1⟩ : ∃ w1, Hid ((Instr.makeSlice 77 (.int .i64 0) (.int .i64 ((n : Int) + 16))).run Try.prog w = .ok (.slice (some ⟨w.heap.size, 0, none⟩) 0 (n + 16)) w1) ∧ Hid (w1.ownsRow w.heap.size 5 1 (.slice (some ⟨w.heap.size, 0, none⟩) 0 (n + 16)) 0 []) ∧ Hid (Below w.heap.size w w1) := by
    obtain ⟨w1, a, b, c⟩ := run_make_own (P := Try.prog) w w.heap.size 77 5 i0 (.int .u8 0) 1 Try.underlying77 hi0 hz0 hz1 .i64 .i64 (n + 16) (by rw [hz2]; omega) (by unfold maxLen; omega) (Nat.le_refl _)
    exact ⟨w1, Lib.hid a, Lib.hid b, Lib.hid ((Below.refl _ _).grown c (Nat.le_refl _) (fun j e => by cases e))⟩
  have hmk := HMK.out
  go_enter Try.func29, Try.ntmps29
  go_wp2_with fail
  refine (CM.out _).mono ?_
  rintro e w' ⟨rfl, rfl⟩
  clear CM
  go_wp2_with fail
  refine (CP.out _).mono ?_
  rintro e w2 ⟨p5, p6, p7, rfl, q5, q6, q7, c5, c6, c7, b2⟩
  have HB2 := Lib.hid (B1.out.trans (b2.mono B1.out.size))
  have hbl : w.heap.size < w1.heap.size := (HO1.out.lt w.heap.size rfl).2
  have HS2 : Hid (StAt w.heap.size w2 (.slice (some ⟨w.heap.size, 0, none⟩) 0 (n + 16)) (strL W num 0) kg num p5 p6 p7) := Lib.hid ⟨own_belowG HO1.out b2, ⟨c5, c6, c7⟩, fun e => by (have e' : w.heap.size = p5 := Option.some.inj e); omega, fun e => by (have e' : w.heap.size = p6 := Option.some.inj e); omega, fun e => by (have e' : w.heap.size = p7 := Option.some.inj e); omega⟩
  clear CP HMK hmk HO1 B1 q5 q6 q7 c5 c6 c7 b2 hbl
  have HBK := Lib.hid hK.out.lt
  go_wp2_with fail
  go_loopw [8, 10] (fun v x wi => ∃ m : Nat, x = .int .i64 (m : Int) ∧ m ≤ 256 ∧ (∃ g c, v = .slice (some ⟨g, 0, none⟩) (16 * m) c ∧ 16 * m ≤ c) ∧ Hid (StAt w.heap.size wi v (strL W num m) kg num p5 p6 p7) ∧ Hid (Below w.heap.size w wi)) (fun _ x _ => 257 - (intOf x).toNat)
  case atStart => exact ⟨0, rfl, by omega, ⟨_, _, rfl, by omega⟩, HS2, HB2⟩
  clear HS2 HB2
  case round =>
    obtain ⟨m, rfl, hm, ⟨g, c, rfl, hc⟩, HS, HB⟩ := hrel
    have hl1 := strL_len W num m
    by_cases hlt : 16 * m < n
    · as_aux_lemma =>
      have hli : 16 * (m : Int) < n := by omega
      have CJ := Lib.hid (fun w hK hP => piece_any kg W num p5 p6 p7 m w (by omega) hK hP)
      have HLS : Hid (strL W num (m + 1) = strL W num m ++ (encT W (pieceT num m)).data.toList) := Lib.hid rfl
      have hes := encT_size W (pieceT num m)
      generalize encT W (pieceT num m) = t at *
      go_wp2_with fail
      refine (CJ.out _ (Lib.hid (hK.out.under HBK.out HB.out)) (Lib.hid HS.out.pc)).mono ?_
      rintro e w3 ⟨rfl, b3⟩
      have HS3 := Lib.hid (HS.out.below b3)
      have HB3 := Lib.hid (HB.out.trans (b3.mono HB.out.size))
      clear HS HB b3 CJ
      have hbc : byteCells t = bvL t.data.toList := rfl
      have hts : t.data.toList.length = 16 := by rw [← Lib.size_eq]; exact hes
      have HOW := Lib.hid HS3.out.own
      rw [hl1] at HOW
      have HZB := Lib.hid HB3.out.size
      go_wp2_with (at_builtin; refine wpList_append_src _ rfl _ _ 77 9 rfl w.heap.size 5 i0 (.int .u8 0) Try.underlying77 hi0 hz0 (by rw [hz1]; rfl) (.slice (some ⟨g, 0, none⟩) (16 * m) c) (16 * m) (bvL (strL W num m)) rfl (by rw [hz1]; exact HOW.out) (.string t) t.size (byteCells t) rfl (by rw [hz1]; exact Src.ofString _ Try.underlying9 t) (by have := hes; unfold maxLen; omega) (by rw [hz2]; have := hes; omega) HZB.out ?_)
      intro v' w4 hown hg
      have HB4 := Lib.hid (HB3.out.grown hg HZB.out (fun j e => (HOW.out.lt j e).1))
      have HS4 : Hid (StAt w.heap.size w4 v' (strL W num (m + 1)) kg num p5 p6 p7) := Lib.hid (by
        rw [HLS.out]
        refine HS3.out.grown (k := t.data.toList) ?_ (fun e => by have := congrArg List.length e; rw [List.length_append, hl1, hts] at this; simp at this) hg
        rw [List.length_append, hl1, hts]
        unfold bvL
        rw [List.map_append]
        exact hown)
      have hl2 : (strL W num (m + 1)).length = 16 * (m + 1) := strL_len W num (m + 1)
      have hown4 := HS4.out.own
      rw [hl2] at hown4
      obtain ⟨g', c', rfl, hc', -, -, -⟩ := own_rowG hown4 (by omega)
      clear hown hg HS3 HB3 HOW hown4 HLS hbc hts hes
      go_wp2_with fail
      go_roundw
      case rel => exact ⟨m + 1, by go_num, by omega, ⟨g', c', rfl, hc'⟩, HS4, HB4⟩
      case measure => simp [intOf]; omega
    · as_aux_lemma =>
      have hli : ¬ 16 * (m : Int) < n := by omega
      have hnc : (n : Int) ≤ (c : Int) := by omega
      have hcv := conv_pre (w := wr) (g := g) (c := c) (n := n) (l := strL W num m) (fun j u hu => by
        have := HS.out.own.cells (g := g) rfl j u hu
        rwa [Addr.add_mid, Nat.zero_add] at this) (by rw [hl1]; omega)
      rw [streamB_eq W num m n (by omega) hm] at hcv
      have HBE := HB
      go_wp2_with fail
      go_ret2
      exact ⟨rfl, HBE.out⟩
end Go.Proofs.Ytbbanhjcchnhpaa
