/- The reference of package aes (cellaret): rows of numbers; Boxes. -/
import Derived.Test.YtbbanhjcchnhpaaMe
import Derived.Laws.AppendOwn
import Derived.Laws.MakeOwn
import Derived.Great.BuildSlice
namespace Go.Proofs.Ytbbanhjcchnhpaa
open Go.RowKit Go.Deep
set_option linter.unusedVariables false
set_option linter.unusedSimpArgs false
theorem info_partsG {P : Program} {t : TypeId} {z : Value} {n m : Nat} (h : (P.info? t).map (fun i => (i.zero, i.size, i.bytes)) = some (some z, n, m)) : ∃ i, P.info? t = some i ∧ i.zero = some z ∧ i.size = n ∧ i.bytes = m := by
  cases hq : P.info? t with
  | none => simp [hq] at h
  | some i => simp [hq] at h; exact ⟨i, rfl, h.1, h.2.1, h.2.2⟩
theorem info_i64G : (Try.prog.info? 3).map (fun i => (i.zero, i.size, i.bytes)) = some (some (.int .i64 0), 1, 8) := by kernel_rfl
theorem own_belowG {w w' : World} {base n size : Nat} {e : TypeId} {v : Value} {xs : List Value} (h3 : w.ownsRow base e size v n xs) (hb : Below w.heap.size w w') : w'.ownsRow base e size v n xs := by
  refine ⟨h3.1, ?_⟩
  rcases h3.2 with h | ⟨g2, cap, cur, rfl, q1, q2, q3⟩
  · exact Or.inl h
  · exact Or.inr ⟨g2, cap, cur, rfl, q1, (hb.block g2 (Array.getElem?_eq_some_iff.1 q2).1).trans q2, q3⟩
theorem own_rowG {w : World} {base : Nat} {v : Value} {l : List Value} {n : Nat} {t : TypeId} (h : w.ownsRow base t 1 v n l) (hn : 0 < n) : ∃ g c, v = .slice (some ⟨g, 0, none⟩) n c ∧ n ≤ c ∧ base ≤ g ∧ g < w.heap.size ∧ ∀ j u, l[j]? = some u → w.cell? ⟨g, j, none⟩ = some u := by
  rcases h.2 with ⟨rfl, rfl⟩ | ⟨g, cap, cur, rfl, hb, hg, hnc, hcm, _⟩
  · omega
  · refine ⟨g, cap, rfl, hnc, hb, (Array.getElem?_eq_some_iff.1 hg).1, fun j u hu => ?_⟩
    have := h.cells (g := g) rfl j u hu
    rwa [Addr.add_mid, Nat.zero_add] at this
/-- Numbers at a block's head. -/
structure IAt (w : World) (b n : Nat) (f : Nat → Nat) : Prop where
  lt : b < w.heap.size
  cell : ∀ j, j < n → w.cell? ⟨b, j, none⟩ = some (.int .i64 (f j : Int))
theorem IAt.below {w w' : World} {b n : Nat} {f : Nat → Nat} (h : IAt w b n f) (hb : Below w.heap.size w w') : IAt w' b n f := ⟨Nat.lt_of_lt_of_le h.lt hb.size, fun j hj => (hb.cell (p := ⟨b, j, none⟩) h.lt).trans (h.cell j hj)⟩
theorem IAt.under {w w' : World} {b n q : Nat} {f : Nat → Nat} (h : IAt w b n f) (hq : b < q) (hb : Below q w w') : IAt w' b n f := ⟨Nat.lt_of_lt_of_le h.lt hb.size, fun j hj => (hb.cell (p := ⟨b, j, none⟩) hq).trans (h.cell j hj)⟩
theorem IAt.of_row {w : World} {b n : Nat} {t : TypeId} {f : Nat → Nat} (h : w.rowIs b t n (fun j => .int .i64 (f j : Int))) : IAt w b n f := ⟨World.rowIs.lt h, fun j hj => World.rowIs.cell h hj⟩
theorem IAt.congr {w : World} {b n : Nat} {f g : Nat → Nat} (h : IAt w b n f) (e : ∀ j, j < n → f j = g j) : IAt w b n g := ⟨h.lt, fun j hj => by rw [h.cell j hj, e j hj]⟩
def bxV (k : Nat) : List Value := (List.range k).map fun j => .int .i64 (boxN j : Int)
theorem bxV_succ (k : Nat) : bxV (k + 1) = bxV k ++ [.int .i64 (boxN k : Int)] := by unfold bxV; rw [List.range_succ, List.map_append]; rfl
theorem bxV_get (k j : Nat) (hj : j < k) : (bxV k)[j]? = some (.int .i64 (boxN j : Int)) := by unfold bxV; rw [List.getElem?_map, List.getElem?_range hj]; rfl
set_option maxRecDepth 100000 in
set_option maxHeartbeats 2000000 in
theorem boxes_any (w : World) : Calls Try.prog 21 #[] w fun e w' => ∃ g c, e = .returned (.slice (some ⟨g, 0, none⟩) 256 c) ∧ IAt w' g 256 boxN ∧ Below w.heap.size w w' := by
  obtain ⟨i0, hi0, hz0, hz1, hz2⟩ := info_partsG info_i64G
  go_enter Try.func21, Try.ntmps21
  go_wp2_with fail
  go_loopw [1, 2] (fun x z wi => ∃ k : Nat, z = .int .i64 (k : Int) ∧ k ≤ 256 ∧ Hid (wi.ownsRow w.heap.size 3 1 x k (bxV k)) ∧ Below w.heap.size w wi) (fun _ z _ => 256 - (intOf z).toNat)
  case atStart => exact ⟨0, rfl, by omega, Lib.hid (World.ownsRow_nil _ _ _ _), Below.refl _ _⟩
  case round =>
    obtain ⟨k, rfl, hk, HO, hbel⟩ := hrel
    by_cases hlt : k < 256
    · as_aux_lemma =>
      have hli : (k : Int) < 256 := by omega
      have HTK := Lib.hid (bxV_succ k)
      have CB := Lib.hid (fun w => r04box_any k w hlt)
      have hsz := hbel.size
      generalize boxN k = u at HTK CB
      go_wp2_with fail
      refine (CB.out _).mono ?_
      rintro e w' ⟨rfl, rfl⟩
      clear CB
      go_wp2_with (at_builtin; refine wpList_append_own _ rfl _ _ 35 rfl w.heap.size 3 i0 (.int .i64 0) 1 8 Try.underlying35 hi0 hz0 hz1 hz2 rfl (by decide) _ _ _ rfl (HO.out.alloc _) ⟨wr.heap.size, 0, none⟩ 1 1 [.int .i64 (u : Int)] rfl rfl ?c1 ?c2 ?c3 ?c4 ?c5 ?_)
      case c1 =>
        intro j v hj
        match j, hj with
        | 0, hj => simp at hj; subst hj; exact World.cell?_alloc_at (w := wr) _ _ _ _ rfl
      case c2 => intro v hv; simp at hv; subst hv; rfl
      case c3 => unfold maxLen; omega
      case c4 => omega
      case c5 => simp; omega
      · intro v' w1 hown' hgrow _
        have hb1 : Below w.heap.size w w1 := (hbel.alloc hbel.size _).grown hgrow (by simp; omega) (fun j e => (HO.out.lt j e).1)
        have HO1 : Hid (w1.ownsRow w.heap.size 3 1 v' (k + 1) (bxV (k + 1))) := Lib.hid (by rw [HTK.out]; simpa using hown')
        clear hown' hgrow
        go_wp2_with fail
        go_roundw
        case rel => exact ⟨k + 1, by go_num, by omega, HO1, hb1⟩
        case measure => simp [intOf]; omega
    · as_aux_lemma =>
      obtain rfl : k = 256 := by omega
      rw [show ((256 : Nat) : Int) = 256 from rfl]
      obtain ⟨g, c, rfl, hc, hg1, hg2, hcell⟩ := own_rowG HO.out (by omega)
      have HI : Hid (IAt wr g 256 boxN) := Lib.hid ⟨hg2, fun j hj => hcell j _ (bxV_get 256 j hj)⟩
      clear hcell HO
      go_wp2_with fail
      go_ret
      exact ⟨g, c, rfl, HI.out, hbel⟩
end Go.Proofs.Ytbbanhjcchnhpaa

/- The reference of package aes (cellaret): shifted, added. -/
namespace Go.Proofs.Ytbbanhjcchnhpaa
open Go.RowKit Go.Deep
set_option linter.unusedVariables false
set_option linter.unusedSimpArgs false
theorem makeI16 (w : World) : (Instr.makeSlice 35 (.int .i64 16) (.int .i64 16)).run Try.prog w = .ok (.slice (some ⟨w.heap.size, 0, none⟩) 16 16) (w.alloc (.cells (madeCells #[.int .i64 0] 16) 3)) :=
  run_make_row' (P := Try.prog) 35 3 (.int .i64 0) 8 Try.underlying35 (by kernel_rfl) rfl .i64 .i64 16 (by omega) (by omega) (w := w)
/-- What a row of 16 numbers holds when its first t columns' bytes are set. -/
def oF (h : Nat → Nat) (t j : Nat) : Nat := if j < t then h j else 0
theorem oF_step (h : Nat → Nat) (c r : Nat) (hc : c < 4) (hr : r < 4) (j : Nat) : oF h (4 * c + (r + 1)) j = if j = r + 4 * c then h (r + 4 * c) else oF h (4 * c + r) j := by
  unfold oF
  by_cases e : j = r + 4 * c
  · rw [if_pos e, if_pos (show j < 4 * c + (r + 1) by omega), e]
  · rw [if_neg e]
    by_cases q : j < 4 * c + r
    · rw [if_pos q, if_pos (show j < 4 * c + (r + 1) by omega)]
    · rw [if_neg q, if_neg (show ¬ j < 4 * c + (r + 1) by omega)]
theorem made16 (h : Nat → Nat) (w : World) : ∃ w2, Hid (w.alloc (.cells (madeCells #[.int .i64 0] 16) 3) = w2) ∧ Hid (w2.rowIs w.heap.size 3 16 (fun j => .int .i64 (oF h (4 * 0 + 0) j : Int))) ∧ Hid (Below w.heap.size w w2) :=
  ⟨_, Lib.hid rfl, Lib.hid (World.rowIs_made w (.int .i64 0) 16 3), Lib.hid ((Below.refl _ _).alloc (Nat.le_refl _) _)⟩
set_option maxRecDepth 100000 in
set_option maxHeartbeats 3000000 in
theorem shifted_any (f : Nat → Nat) (sb sc xb xc : Nat) (w : World) (hf : ∀ j, j < 16 → f j < 256) (hS : Hid (IAt w sb 16 f)) (hX : Hid (IAt w xb 256 boxN)) :
    Calls Try.prog 63 #[.slice (some ⟨sb, 0, none⟩) 16 sc, .slice (some ⟨xb, 0, none⟩) 256 xc] w fun e w' => e = .returned (.slice (some ⟨w.heap.size, 0, none⟩) 16 16) ∧ IAt w' w.heap.size 16 (fun j => boxN (f (srcS 1 j))) ∧ Below w.heap.size w w' := by
  have hmk := makeI16
  obtain ⟨w2, HW2, HR2, B2⟩ := made16 (fun j => boxN (f (srcS 1 j))) w
  go_enter Try.func63, Try.ntmps63
  go_wp2_with fail
  rw [HW2.out]
  have lts := hS.out.lt
  have ltx := hX.out.lt
  have HS := Lib.hid (hS.out.below B2.out)
  have HX := Lib.hid (hX.out.below B2.out)
  clear HW2 hS hX hmk
  obtain ⟨q, hq⟩ : ∃ q, Hid (w.heap.size = q) := ⟨_, Lib.hid rfl⟩
  rw [hq.out] at HR2 lts ltx
  rw [show (w.heap.size) = q from hq.out]
  go_loopw [6] (fun x wi => ∃ c : Nat, x = .int .i64 (c : Int) ∧ c ≤ 4 ∧ Hid (wi.rowIs q 3 16 (fun j => .int .i64 (oF (fun j => boxN (f (srcS 1 j))) (4 * c + 0) j : Int))) ∧ Hid (Below q w2 wi)) (fun x _ => 4 - (intOf x).toNat)
  case atStart => exact ⟨0, rfl, by omega, HR2, Lib.hid (Below.refl _ _)⟩
  clear HR2
  case round =>
    obtain ⟨c, rfl, hc, HR, HB⟩ := hrel
    by_cases hlc : c < 4
    · as_aux_lemma =>
      have hci : (c : Int) < 4 := by omega
      go_wp2_with fail
      go_loopw [7] (fun x wi => ∃ r : Nat, x = .int .i64 (r : Int) ∧ r ≤ 4 ∧ Hid (wi.rowIs q 3 16 (fun j => .int .i64 (oF (fun j => boxN (f (srcS 1 j))) (4 * c + r) j : Int))) ∧ Hid (Below q w2 wi)) (fun x _ => 4 - (intOf x).toNat)
      case atStart => exact ⟨0, rfl, by omega, HR, HB⟩
      clear HR HB
      case round =>
        obtain ⟨r, rfl, hr, HR, HB⟩ := hrel
        by_cases hlr : r < 4
        · as_aux_lemma =>
          have hri : (r : Int) < 4 := by omega
          obtain ⟨n, hn⟩ : ∃ n, Hid ((c + r) % 4 = n) := ⟨_, Lib.hid rfl⟩
          have hn4 : n < 4 := by rw [← hn.out]; exact Nat.mod_lt _ (by decide)
          have hcm : ((c : Int) + (r : Int)) % 4 = (n : Int) := by have := hn.out; omega
          have hct : ((c : Int) + (r : Int)).tmod 4 = (n : Int) := by rw [Int.tmod_eq_emod_of_nonneg (by omega)]; exact hcm
          have x1 : ((r : Int) + 4 * (n : Int)).toNat = r + 4 * n := by omega
          have x2 : ((r : Int) + 4 * (c : Int)).toNat = r + 4 * c := by omega
          have x3 : (r : Int) + 4 * (n : Int) < 16 := by omega
          have x4 : (r : Int) + 4 * (c : Int) < 16 := by omega
          have x5 : (0 : Int) ≤ (r : Int) + 4 * (n : Int) := by omega
          have x6 : (0 : Int) ≤ (r : Int) + 4 * (c : Int) := by omega
          have y2 : IntKind.i64.wrap ((c : Int) + r) = c + r := IntWalk.i64_in _ (by omega)
          have y3 : IntKind.i64.wrap (4 * (n : Int)) = 4 * n := IntWalk.i64_in _ (by omega)
          have y4 : IntKind.i64.wrap ((r : Int) + 4 * n) = r + 4 * n := IntWalk.i64_in _ (by omega)
          have y5 : IntKind.i64.wrap (4 * (c : Int)) = 4 * c := IntWalk.i64_in _ (by omega)
          have y6 : IntKind.i64.wrap ((r : Int) + 4 * c) = r + 4 * c := IntWalk.i64_in _ (by omega)
          have c0 := (HS.out.under lts HB.out).cell (r + 4 * n) (by omega)
          have hfb := hf (r + 4 * n) (by omega)
          have c1 := (HX.out.under ltx HB.out).cell (f (r + 4 * n)) hfb
          have HST : Hid (∀ j, oF (fun j => boxN (f (srcS 1 j))) (4 * c + (r + 1)) j = if j = r + 4 * c then boxN (f (r + 4 * n)) else oF (fun j => boxN (f (srcS 1 j))) (4 * c + r) j) := Lib.hid (fun j => by
            rw [oF_step _ c r hlc hlr j]
            have : srcS 1 (r + 4 * c) = r + 4 * n := by
              unfold srcS
              rw [show (r + 4 * c) % 4 = r by omega, show (r + 4 * c) / 4 = c by omega, Nat.one_mul, hn.out]
            simp only [this])
          generalize f (r + 4 * n) = fv at c0 c1 hfb HST
          have z1 : (fv : Int) < 256 := by omega
          generalize boxN fv = bv at c1 HST
          have d0 := World.rowIs.cell HR.out (i := r + 4 * c) (by omega)
          have f0 := World.rowIs.frozen HR.out (r + 4 * c)
          go_wp2_with fail
          go_roundw
          case rel => exact ⟨r + 1, by go_num, by omega, Lib.hid (by
            refine World.rowIs.congr (World.rowIs.set HR.out (r + 4 * c) (.int .i64 (bv : Int))) fun j hj => ?_
            rw [HST.out j]
            by_cases e : j = r + 4 * c
            · rw [if_pos e, if_pos e]
            · rw [if_neg e, if_neg e]), Lib.hid (HB.out.setCell (p := ⟨q, r + 4 * c, none⟩) (Nat.le_refl _) _)⟩
          case measure => simp [intOf]; omega
        · as_aux_lemma =>
          obtain rfl : r = 4 := by omega
          rw [show ((4 : Nat) : Int) = 4 from rfl]
          go_wp2_with fail
          go_roundw
          case rel => exact ⟨c + 1, by go_num, by omega, Lib.hid (by rw [show 4 * (c + 1) + 0 = 4 * c + 4 by omega]; exact HR.out), HB⟩
          case measure => simp [intOf]; omega
    · as_aux_lemma =>
      obtain rfl : c = 4 := by omega
      rw [show ((4 : Nat) : Int) = 4 from rfl]
      go_wp2_with fail
      go_ret
      refine ⟨by rw [hq.out]; rfl, ?_, ?_⟩
      · rw [hq.out]; exact (IAt.of_row HR.out).congr fun j hj => by unfold oF; rw [if_pos (show j < 4 * 4 + 0 by omega)]
      · exact B2.out.trans (by rw [hq.out]; exact HB.out)
end Go.Proofs.Ytbbanhjcchnhpaa

/- The reference of package aes (cellaret): added. -/
namespace Go.Proofs.Ytbbanhjcchnhpaa
open Go.RowKit Go.Deep
set_option linter.unusedVariables false
set_option linter.unusedSimpArgs false
/-- A key's first n words, each a row of four numbers of its own. -/
structure WAt (w : World) (rb n : Nat) (W : Nat → UInt32) (bs cs : Nat → Nat) : Prop where
  lt : rb < w.heap.size
  cell : ∀ i, i < n → w.cell? ⟨rb, i, none⟩ = some (.slice (some ⟨bs i, 0, none⟩) 4 (cs i))
  wlt : ∀ i, i < n → bs i < w.heap.size
  word : ∀ i, i < n → ∀ r, r < 4 → w.cell? ⟨bs i, r, none⟩ = some (.int .i64 ((byW (W i) r).toNat : Int))
theorem WAt.below {w w' : World} {rb n : Nat} {W : Nat → UInt32} {bs cs : Nat → Nat} (h : WAt w rb n W bs cs) (hb : Below w.heap.size w w') : WAt w' rb n W bs cs :=
  ⟨Nat.lt_of_lt_of_le h.lt hb.size, fun i hi => (hb.cell (p := ⟨rb, i, none⟩) h.lt).trans (h.cell i hi), fun i hi => Nat.lt_of_lt_of_le (h.wlt i hi) hb.size, fun i hi r hr => (hb.cell (p := ⟨bs i, r, none⟩) (h.wlt i hi)).trans (h.word i hi r hr)⟩
set_option maxRecDepth 100000 in
set_option maxHeartbeats 3000000 in
theorem added_any (f : Nat → Nat) (W : Nat → UInt32) (bs cs : Nat → Nat) (n sb sc rb rc : Nat) (w : World) (hn : n ≤ 14) (hf : ∀ j, j < 16 → f j < 256) (hS : Hid (IAt w sb 16 f)) (hX : Hid (WAt w rb 60 W bs cs)) :
    Calls Try.prog 61 #[.slice (some ⟨sb, 0, none⟩) 16 sc, .slice (some ⟨rb, 0, none⟩) 60 rc, .int .i64 (n : Int)] w fun e w' => e = .returned (.slice (some ⟨w.heap.size, 0, none⟩) 16 16) ∧ IAt w' w.heap.size 16 (fun j => f j ^^^ (wB W n j).toNat) ∧ Below w.heap.size w w' := by
  have hmk := makeI16
  obtain ⟨w2, HW2, HR2, B2⟩ := made16 (fun j => f j ^^^ (wB W n j).toNat) w
  go_enter Try.func61, Try.ntmps61
  go_wp2_with fail
  rw [HW2.out]
  have lts := hS.out.lt
  have HBW : Hid (∀ i, i < 60 → bs i < w.heap.size) := Lib.hid hX.out.wlt
  have ltx := hX.out.lt
  have HS := Lib.hid (hS.out.below B2.out)
  have HX := Lib.hid (hX.out.below B2.out)
  clear HW2 hS hX hmk
  obtain ⟨q, hq⟩ : ∃ q, Hid (w.heap.size = q) := ⟨_, Lib.hid rfl⟩
  rw [hq.out] at HR2 lts ltx HBW
  rw [show (w.heap.size) = q from hq.out]
  go_loopw [8] (fun x wi => ∃ c : Nat, x = .int .i64 (c : Int) ∧ c ≤ 4 ∧ Hid (wi.rowIs q 3 16 (fun j => .int .i64 (oF (fun j => f j ^^^ (wB W n j).toNat) (4 * c + 0) j : Int))) ∧ Hid (Below q w2 wi)) (fun x _ => 4 - (intOf x).toNat)
  case atStart => exact ⟨0, rfl, by omega, HR2, Lib.hid (Below.refl _ _)⟩
  clear HR2
  case round =>
    obtain ⟨c, rfl, hc, HR, HB⟩ := hrel
    by_cases hlc : c < 4
    · as_aux_lemma =>
      have hci : (c : Int) < 4 := by omega
      go_wp2_with fail
      go_loopw [9] (fun x wi => ∃ r : Nat, x = .int .i64 (r : Int) ∧ r ≤ 4 ∧ Hid (wi.rowIs q 3 16 (fun j => .int .i64 (oF (fun j => f j ^^^ (wB W n j).toNat) (4 * c + r) j : Int))) ∧ Hid (Below q w2 wi)) (fun x _ => 4 - (intOf x).toNat)
      case atStart => exact ⟨0, rfl, by omega, HR, HB⟩
      clear HR HB
      case round =>
        obtain ⟨r, rfl, hr, HR, HB⟩ := hrel
        by_cases hlr : r < 4
        · as_aux_lemma =>
          have hri : (r : Int) < 4 := by omega
          have x2 : ((r : Int) + 4 * (c : Int)).toNat = r + 4 * c := by omega
          have x4 : (r : Int) + 4 * (c : Int) < 16 := by omega
          have x6 : (0 : Int) ≤ (r : Int) + 4 * (c : Int) := by omega
          have y5 : IntKind.i64.wrap (4 * (c : Int)) = 4 * c := IntWalk.i64_in _ (by omega)
          have y6 : IntKind.i64.wrap ((r : Int) + 4 * c) = r + 4 * c := IntWalk.i64_in _ (by omega)
          have y7 : IntKind.i64.wrap (4 * (n : Int)) = 4 * n := IntWalk.i64_in _ (by omega)
          have y8 : IntKind.i64.wrap (4 * (n : Int) + c) = 4 * n + c := IntWalk.i64_in _ (by omega)
          have y9 : (4 * (n : Int) + c).toNat = 4 * n + c := by omega
          have y10 : (0 : Int) ≤ 4 * (n : Int) + c := by omega
          have y11 : 4 * (n : Int) + c < 60 := by omega
          have c0 := (HS.out.under lts HB.out).cell (r + 4 * c) (by omega)
          have hfb := hf (r + 4 * c) (by omega)
          have c1 := (HB.out.cell (p := ⟨rb, 4 * n + c, none⟩) ltx).trans (HX.out.cell (4 * n + c) (by omega))
          have c2 := (HB.out.cell (p := ⟨bs (4 * n + c), r, none⟩) (HBW.out _ (by omega))).trans (HX.out.word (4 * n + c) (by omega) r hlr)
          have HST : Hid (∀ j, oF (fun j => f j ^^^ (wB W n j).toNat) (4 * c + (r + 1)) j = if j = r + 4 * c then f (r + 4 * c) ^^^ (byW (W (4 * n + c)) r).toNat else oF (fun j => f j ^^^ (wB W n j).toNat) (4 * c + r) j) := Lib.hid (fun j => by
            rw [oF_step _ c r hlc hlr j]
            have : wB W n (r + 4 * c) = byW (W (4 * n + c)) r := by
              unfold wB
              rw [show (r + 4 * c) % 4 = r by omega, show (r + 4 * c) / 4 = c by omega]
            simp only [this])
          have hwb := (byW (W (4 * n + c)) r).toNat_lt
          generalize f (r + 4 * c) = fv at c0 hfb HST
          generalize (byW (W (4 * n + c)) r).toNat = wv' at c2 hwb HST
          generalize bs (4 * n + c) = bi at c1 c2
          generalize cs (4 * n + c) = ci at c1
          have CA := Lib.hid (fun w => r02add_any fv wv' w (by omega) (by omega))
          generalize fv ^^^ wv' = z at CA HST
          have d0 := World.rowIs.cell HR.out (i := r + 4 * c) (by omega)
          have f0 := World.rowIs.frozen HR.out (r + 4 * c)
          go_upto_region 8 with fail
          refine wp_region_lin (S := (fun w' => w'.cell? ⟨sb, r + 4 * c, none⟩ = some (.int .i64 (fv : Int)) ∧ w'.cell? ⟨rb, 4 * n + c, none⟩ = some (.slice (some ⟨bi, 0, none⟩) 4 ci) ∧ w'.cell? ⟨bi, r, none⟩ = some (.int .i64 (wv' : Int)))) [(0, true), (1, true), (2, true), (3, true), (4, true), (5, true), (6, true), (7, true), (8, true), (9, true), (10, true), (11, true), (12, true), (13, true), (14, true), (15, true), (16, true), (17, true), (18, true), (19, true), (20, true), (21, true), (22, false), (23, true), (24, false)] (by kernel_rfl) (by kernel_rfl) rfl (by kernel_rfl) ?_ (fun hHeld => ?_)
          · (try dsimp only); exact ⟨c0, c1, c2⟩
          (refine wpL_calm (o := { dst := some 19, op := Go.Op.move (Go.Operand.tmp 7), type := 35, pos := "ref.go:54", after := #[], guard := none }) (v := ?_) rfl (Or.inl ⟨by rfl, ?_⟩) ?_; rotate_left; (focus (intro w hSw; (try dsimp only at hSw); go_simp; (try (with_reducible rfl)); done)); try simp only [Act.put, List.setIfInBounds_toArray, List.set_cons_zero, List.set_cons_succ])
          (refine wpL_calm (o := { dst := some 20, op := Go.Op.move (Go.Operand.tmp 9), type := 3, pos := "ref.go:54", after := #[], guard := none }) (v := ?_) rfl (Or.inl ⟨by rfl, ?_⟩) ?_; rotate_left; (focus (intro w hSw; (try dsimp only at hSw); go_simp; (try (with_reducible rfl)); done)); try simp only [Act.put, List.setIfInBounds_toArray, List.set_cons_zero, List.set_cons_succ])
          (refine wpL_calm (o := { dst := some 21, op := Go.Op.move (Go.Operand.tmp 8), type := 3, pos := "ref.go:54", after := #[], guard := none }) (v := ?_) rfl (Or.inl ⟨by rfl, ?_⟩) ?_; rotate_left; (focus (intro w hSw; (try dsimp only at hSw); go_simp; (try (with_reducible rfl)); done)); try simp only [Act.put, List.setIfInBounds_toArray, List.set_cons_zero, List.set_cons_succ])
          (refine wpL_calm (o := { dst := some 22, op := Go.Op.binOp Go.BinOp.mul 3 (Go.Operand.const (Go.Value.int Go.IntKind.i64 4)) (Go.Operand.tmp 21) 3, type := 3, pos := "ref.go:54", after := #[{ on := 2, ground := Go.Ground.data }], guard := none }) (v := ?_) rfl (Or.inl ⟨by rfl, ?_⟩) ?_; rotate_left; (focus (intro w hSw; (try dsimp only at hSw); go_simp; (try (with_reducible rfl)); done)); try simp only [Act.put, List.setIfInBounds_toArray, List.set_cons_zero, List.set_cons_succ])
          (refine wpL_calm (o := { dst := some 23, op := Go.Op.binOp Go.BinOp.add 3 (Go.Operand.tmp 20) (Go.Operand.tmp 22) 3, type := 3, pos := "ref.go:54", after := #[{ on := 1, ground := Go.Ground.data }, { on := 3, ground := Go.Ground.data }], guard := none }) (v := ?_) rfl (Or.inl ⟨by rfl, ?_⟩) ?_; rotate_left; (focus (intro w hSw; (try dsimp only at hSw); go_simp; (try (with_reducible rfl)); done)); try simp only [Act.put, List.setIfInBounds_toArray, List.set_cons_zero, List.set_cons_succ])
          (refine wpL_calm (o := { dst := some 24, op := Go.Op.move (Go.Operand.tmp 0), type := 35, pos := "ref.go:54", after := #[], guard := none }) (v := ?_) rfl (Or.inl ⟨by rfl, ?_⟩) ?_; rotate_left; (focus (intro w hSw; (try dsimp only at hSw); go_simp; (try (with_reducible rfl)); done)); try simp only [Act.put, List.setIfInBounds_toArray, List.set_cons_zero, List.set_cons_succ])
          (refine wpL_calm (o := { dst := some 25, op := Go.Op.move (Go.Operand.tmp 9), type := 3, pos := "ref.go:54", after := #[], guard := none }) (v := ?_) rfl (Or.inl ⟨by rfl, ?_⟩) ?_; rotate_left; (focus (intro w hSw; (try dsimp only at hSw); go_simp; (try (with_reducible rfl)); done)); try simp only [Act.put, List.setIfInBounds_toArray, List.set_cons_zero, List.set_cons_succ])
          (refine wpL_calm (o := { dst := some 26, op := Go.Op.move (Go.Operand.tmp 8), type := 3, pos := "ref.go:54", after := #[], guard := none }) (v := ?_) rfl (Or.inl ⟨by rfl, ?_⟩) ?_; rotate_left; (focus (intro w hSw; (try dsimp only at hSw); go_simp; (try (with_reducible rfl)); done)); try simp only [Act.put, List.setIfInBounds_toArray, List.set_cons_zero, List.set_cons_succ])
          (refine wpL_calm (o := { dst := some 27, op := Go.Op.binOp Go.BinOp.mul 3 (Go.Operand.const (Go.Value.int Go.IntKind.i64 4)) (Go.Operand.tmp 26) 3, type := 3, pos := "ref.go:54", after := #[{ on := 7, ground := Go.Ground.data }], guard := none }) (v := ?_) rfl (Or.inl ⟨by rfl, ?_⟩) ?_; rotate_left; (focus (intro w hSw; (try dsimp only at hSw); go_simp; (try (with_reducible rfl)); done)); try simp only [Act.put, List.setIfInBounds_toArray, List.set_cons_zero, List.set_cons_succ])
          (refine wpL_calm (o := { dst := some 28, op := Go.Op.binOp Go.BinOp.add 3 (Go.Operand.tmp 25) (Go.Operand.tmp 27) 3, type := 3, pos := "ref.go:54", after := #[{ on := 6, ground := Go.Ground.data }, { on := 8, ground := Go.Ground.data }], guard := none }) (v := ?_) rfl (Or.inl ⟨by rfl, ?_⟩) ?_; rotate_left; (focus (intro w hSw; (try dsimp only at hSw); go_simp; (try (with_reducible rfl)); done)); try simp only [Act.put, List.setIfInBounds_toArray, List.set_cons_zero, List.set_cons_succ])
          (refine wpL_calm (o := { dst := some 29, op := Go.Op.indexAddr 35 (Go.Operand.tmp 24) (Go.Operand.tmp 28), type := 0, pos := "ref.go:54", after := #[{ on := 5, ground := Go.Ground.data }, { on := 9, ground := Go.Ground.data }], guard := none }) (v := ?_) rfl (Or.inl ⟨by rfl, ?_⟩) ?_; rotate_left; (focus (intro w hSw; (try dsimp only at hSw); go_simp; (try (with_reducible rfl)); done)); try simp only [Act.put, List.setIfInBounds_toArray, List.set_cons_zero, List.set_cons_succ])
          (refine wpL_calm (o := { dst := some 30, op := Go.Op.load 3 (Go.Operand.tmp 29), type := 3, pos := "ref.go:54", after := #[{ on := 10, ground := Go.Ground.data }], guard := none }) (v := ?_) rfl (Or.inl ⟨by rfl, ?_⟩) ?_; rotate_left; (focus (intro w hSw; (try dsimp only at hSw); go_simp; (try (with_reducible rfl)); done)); try simp only [Act.put, List.setIfInBounds_toArray, List.set_cons_zero, List.set_cons_succ])
          (refine wpL_calm (o := { dst := some 31, op := Go.Op.move (Go.Operand.tmp 1), type := 33, pos := "ref.go:54", after := #[], guard := none }) (v := ?_) rfl (Or.inl ⟨by rfl, ?_⟩) ?_; rotate_left; (focus (intro w hSw; (try dsimp only at hSw); go_simp; (try (with_reducible rfl)); done)); try simp only [Act.put, List.setIfInBounds_toArray, List.set_cons_zero, List.set_cons_succ])
          (refine wpL_calm (o := { dst := some 32, op := Go.Op.move (Go.Operand.tmp 2), type := 3, pos := "ref.go:54", after := #[], guard := none }) (v := ?_) rfl (Or.inl ⟨by rfl, ?_⟩) ?_; rotate_left; (focus (intro w hSw; (try dsimp only at hSw); go_simp; (try (with_reducible rfl)); done)); try simp only [Act.put, List.setIfInBounds_toArray, List.set_cons_zero, List.set_cons_succ])
          (refine wpL_calm (o := { dst := some 33, op := Go.Op.binOp Go.BinOp.mul 3 (Go.Operand.const (Go.Value.int Go.IntKind.i64 4)) (Go.Operand.tmp 32) 3, type := 3, pos := "ref.go:54", after := #[{ on := 13, ground := Go.Ground.data }], guard := none }) (v := ?_) rfl (Or.inl ⟨by rfl, ?_⟩) ?_; rotate_left; (focus (intro w hSw; (try dsimp only at hSw); go_simp; (try (with_reducible rfl)); done)); try simp only [Act.put, List.setIfInBounds_toArray, List.set_cons_zero, List.set_cons_succ])
          (refine wpL_calm (o := { dst := some 34, op := Go.Op.move (Go.Operand.tmp 8), type := 3, pos := "ref.go:54", after := #[], guard := none }) (v := ?_) rfl (Or.inl ⟨by rfl, ?_⟩) ?_; rotate_left; (focus (intro w hSw; (try dsimp only at hSw); go_simp; (try (with_reducible rfl)); done)); try simp only [Act.put, List.setIfInBounds_toArray, List.set_cons_zero, List.set_cons_succ])
          (refine wpL_calm (o := { dst := some 35, op := Go.Op.binOp Go.BinOp.add 3 (Go.Operand.tmp 33) (Go.Operand.tmp 34) 3, type := 3, pos := "ref.go:54", after := #[{ on := 14, ground := Go.Ground.data }, { on := 15, ground := Go.Ground.data }], guard := none }) (v := ?_) rfl (Or.inl ⟨by rfl, ?_⟩) ?_; rotate_left; (focus (intro w hSw; (try dsimp only at hSw); go_simp; (try (with_reducible rfl)); done)); try simp only [Act.put, List.setIfInBounds_toArray, List.set_cons_zero, List.set_cons_succ])
          (refine wpL_calm (o := { dst := some 36, op := Go.Op.indexAddr 33 (Go.Operand.tmp 31) (Go.Operand.tmp 35), type := 0, pos := "ref.go:54", after := #[{ on := 12, ground := Go.Ground.data }, { on := 16, ground := Go.Ground.data }], guard := none }) (v := ?_) rfl (Or.inl ⟨by rfl, ?_⟩) ?_; rotate_left; (focus (intro w hSw; (try dsimp only at hSw); go_simp; (try (with_reducible rfl)); done)); try simp only [Act.put, List.setIfInBounds_toArray, List.set_cons_zero, List.set_cons_succ])
          (refine wpL_calm (o := { dst := some 37, op := Go.Op.load 35 (Go.Operand.tmp 36), type := 35, pos := "ref.go:54", after := #[{ on := 17, ground := Go.Ground.data }], guard := none }) (v := ?_) rfl (Or.inl ⟨by rfl, ?_⟩) ?_; rotate_left; (focus (intro w hSw; (try dsimp only at hSw); go_simp; (try (with_reducible rfl)); done)); try simp only [Act.put, List.setIfInBounds_toArray, List.set_cons_zero, List.set_cons_succ])
          (refine wpL_calm (o := { dst := some 38, op := Go.Op.move (Go.Operand.tmp 9), type := 3, pos := "ref.go:54", after := #[], guard := none }) (v := ?_) rfl (Or.inl ⟨by rfl, ?_⟩) ?_; rotate_left; (focus (intro w hSw; (try dsimp only at hSw); go_simp; (try (with_reducible rfl)); done)); try simp only [Act.put, List.setIfInBounds_toArray, List.set_cons_zero, List.set_cons_succ])
          (refine wpL_calm (o := { dst := some 39, op := Go.Op.indexAddr 35 (Go.Operand.tmp 37) (Go.Operand.tmp 38), type := 0, pos := "ref.go:54", after := #[{ on := 18, ground := Go.Ground.data }, { on := 19, ground := Go.Ground.data }], guard := none }) (v := ?_) rfl (Or.inl ⟨by rfl, ?_⟩) ?_; rotate_left; (focus (intro w hSw; (try dsimp only at hSw); go_simp; (try (with_reducible rfl)); done)); try simp only [Act.put, List.setIfInBounds_toArray, List.set_cons_zero, List.set_cons_succ])
          (refine wpL_calm (o := { dst := some 40, op := Go.Op.load 3 (Go.Operand.tmp 39), type := 3, pos := "ref.go:54", after := #[{ on := 20, ground := Go.Ground.data }], guard := none }) (v := ?_) rfl (Or.inl ⟨by rfl, ?_⟩) ?_; rotate_left; (focus (intro w hSw; (try dsimp only at hSw); go_simp; (try (with_reducible rfl)); done)); try simp only [Act.put, List.setIfInBounds_toArray, List.set_cons_zero, List.set_cons_succ])
          refine wpL_loud1 (o := { dst := some 41, op := Go.Op.call { callee := Go.Callee.value (Go.Operand.func 47), args := #[Go.Operand.tmp 30, Go.Operand.tmp 40], argTypes := #[3, 3] }, type := 3, pos := "ref.go:54", after := #[{ on := 11, ground := Go.Ground.data }, { on := 21, ground := Go.Ground.data }], guard := none }) rfl (fun K hK => ?_)
          (go_simp; go_at_call 47; refine (CA.out _).mono ?_; rintro e w' ⟨rfl, rfl⟩)
          try go_wp2_with fail
          refine hK.out _ _ ?_ (fun hHeld => ?_)
          · (try dsimp only); try trivial
          clear hK K
          try simp only [Act.put, List.setIfInBounds_toArray, List.set_cons_zero, List.set_cons_succ]
          (refine wpL_calm (o := { dst := some 42, op := Go.Op.indexAddr 35 (Go.Operand.tmp 19) (Go.Operand.tmp 23), type := 0, pos := "ref.go:54", after := #[{ on := 0, ground := Go.Ground.data }, { on := 4, ground := Go.Ground.data }, { on := 0, ground := Go.Ground.phase }, { on := 1, ground := Go.Ground.phase }, { on := 2, ground := Go.Ground.phase }, { on := 3, ground := Go.Ground.phase }, { on := 4, ground := Go.Ground.phase }, { on := 5, ground := Go.Ground.phase }, { on := 6, ground := Go.Ground.phase }, { on := 7, ground := Go.Ground.phase }, { on := 8, ground := Go.Ground.phase }, { on := 9, ground := Go.Ground.phase }, { on := 10, ground := Go.Ground.phase }, { on := 11, ground := Go.Ground.phase }, { on := 12, ground := Go.Ground.phase }, { on := 13, ground := Go.Ground.phase }, { on := 14, ground := Go.Ground.phase }, { on := 15, ground := Go.Ground.phase }, { on := 16, ground := Go.Ground.phase }, { on := 17, ground := Go.Ground.phase }, { on := 18, ground := Go.Ground.phase }, { on := 19, ground := Go.Ground.phase }, { on := 20, ground := Go.Ground.phase }, { on := 21, ground := Go.Ground.phase }, { on := 22, ground := Go.Ground.phase }], guard := none }) (v := ?_) rfl (Or.inl ⟨by rfl, ?_⟩) ?_; rotate_left; (focus (intro w hSw; (try dsimp only at hSw); go_simp; (try (with_reducible rfl)); done)); try simp only [Act.put, List.setIfInBounds_toArray, List.set_cons_zero, List.set_cons_succ])
          refine wpL_loud0 (o := { dst := none, op := Go.Op.store 3 (Go.Operand.tmp 42) (Go.Operand.tmp 41), type := 0, pos := "ref.go:54", after := #[{ on := 23, ground := Go.Ground.data }, { on := 22, ground := Go.Ground.data }, { on := 22, ground := Go.Ground.chain }, { on := 0, ground := Go.Ground.phase }, { on := 1, ground := Go.Ground.phase }, { on := 2, ground := Go.Ground.phase }, { on := 3, ground := Go.Ground.phase }, { on := 4, ground := Go.Ground.phase }, { on := 5, ground := Go.Ground.phase }, { on := 6, ground := Go.Ground.phase }, { on := 7, ground := Go.Ground.phase }, { on := 8, ground := Go.Ground.phase }, { on := 9, ground := Go.Ground.phase }, { on := 10, ground := Go.Ground.phase }, { on := 11, ground := Go.Ground.phase }, { on := 12, ground := Go.Ground.phase }, { on := 13, ground := Go.Ground.phase }, { on := 14, ground := Go.Ground.phase }, { on := 15, ground := Go.Ground.phase }, { on := 16, ground := Go.Ground.phase }, { on := 17, ground := Go.Ground.phase }, { on := 18, ground := Go.Ground.phase }, { on := 19, ground := Go.Ground.phase }, { on := 20, ground := Go.Ground.phase }, { on := 21, ground := Go.Ground.phase }, { on := 22, ground := Go.Ground.phase }], guard := none }) rfl (by kernel_rfl) (fun K hK => ?_)
          go_simp
          refine hK.out _ _ ?_
          clear hK K
          try simp only [Act.put, List.setIfInBounds_toArray, List.set_cons_zero, List.set_cons_succ]
          refine wpL_nil ?_
          refine NoPanic.normal ?_
          go_wp2_with fail
          go_roundw
          case rel => exact ⟨r + 1, by go_num, by omega, Lib.hid (by
            refine World.rowIs.congr (World.rowIs.set HR.out (r + 4 * c) (.int .i64 (z : Int))) fun j hj => ?_
            rw [HST.out j]
            by_cases e : j = r + 4 * c
            · rw [if_pos e, if_pos e]
            · rw [if_neg e, if_neg e]), Lib.hid (by first | exact HB.out.setCell (p := ⟨q, r + 4 * c, none⟩) (Nat.le_refl _) _ | exact (HB.out.setCell (p := ⟨q, r + 4 * c, none⟩) (Nat.le_refl _) _).drew | exact (HB.out.setCell (p := ⟨q, r + 4 * c, none⟩) (Nat.le_refl _) _).drew.drew)⟩
          case measure => simp [intOf]; omega
        · as_aux_lemma =>
          obtain rfl : r = 4 := by omega
          rw [show ((4 : Nat) : Int) = 4 from rfl]
          go_wp2_with fail
          go_roundw
          case rel => exact ⟨c + 1, by go_num, by omega, Lib.hid (by rw [show 4 * (c + 1) + 0 = 4 * c + 4 by omega]; exact HR.out), HB⟩
          case measure => simp [intOf]; omega
    · as_aux_lemma =>
      obtain rfl : c = 4 := by omega
      rw [show ((4 : Nat) : Int) = 4 from rfl]
      go_wp2_with fail
      go_ret
      refine ⟨by rw [hq.out]; rfl, ?_, ?_⟩
      · rw [hq.out]; exact (IAt.of_row HR.out).congr fun j hj => by unfold oF; rw [if_pos (show j < 4 * 4 + 0 by omega)]
      · exact B2.out.trans (by rw [hq.out]; exact HB.out)
end Go.Proofs.Ytbbanhjcchnhpaa

/- The reference of package aes (cellaret): mixed. -/
namespace Go.Proofs.Ytbbanhjcchnhpaa
open Go.RowKit Go.Deep
set_option linter.unusedVariables false
set_option linter.unusedSimpArgs false
/-- Column c's four numbers. -/
def xC (f : Nat → Nat) (c i : Nat) : Nat := f (4 * c + i)
def mO (f : Nat → Nat) (c t j : Nat) : Nat := if j / 4 < c then colT aE (xC f (j / 4)) 16 (j % 4) else if j / 4 = c then colT aE (xC f c) t (j % 4) else 0
theorem mO_zero (f : Nat → Nat) (j : Nat) : mO f 0 0 j = 0 := by
  unfold mO
  rw [if_neg (show ¬ j / 4 < 0 by omega)]
  split <;> rfl
theorem mO_next (f : Nat → Nat) (c j : Nat) : mO f (c + 1) 0 j = mO f c 16 j := by
  unfold mO
  by_cases h : j / 4 < c
  · rw [if_pos h, if_pos (show j / 4 < c + 1 by omega)]
  · rw [if_neg h]
    by_cases e : j / 4 = c
    · rw [if_pos e, if_pos (show j / 4 < c + 1 by omega), e]
    · rw [if_neg e, if_neg (show ¬ j / 4 < c + 1 by omega)]
      split <;> rfl
theorem mO_at (f : Nat → Nat) (c t k : Nat) (hk : k < 4) : mO f c t (k + 4 * c) = colT aE (xC f c) t k := by
  unfold mO
  rw [if_neg (show ¬ (k + 4 * c) / 4 < c by omega), if_pos (show (k + 4 * c) / 4 = c by omega), show (k + 4 * c) % 4 = k by omega]
theorem mO_step (f : Nat → Nat) (c i k m : Nat) (hi : i < 4) (hk : k < 4) (hm : (i + k) % 4 = m) (j : Nat) : mO f c (4 * i + (k + 1)) j = if j = m + 4 * c then colT aE (xC f c) (4 * i + k) m ^^^ gmul (aE i) (f (4 * c + k)) else mO f c (4 * i + k) j := by
  unfold mO
  have hcol : ∀ x, colT aE (xC f c) (4 * i + (k + 1)) x = if x = m then colT aE (xC f c) (4 * i + k) x ^^^ gmul (aE i) (f (4 * c + k)) else colT aE (xC f c) (4 * i + k) x := fun x => by
    rw [show 4 * i + (k + 1) = 4 * i + k + 1 by omega]
    show (if x = ((4 * i + k) / 4 + (4 * i + k) % 4) % 4 then _ else _) = _
    rw [show (4 * i + k) / 4 = i by omega, show (4 * i + k) % 4 = k by omega, hm]
    rfl
  by_cases h : j / 4 < c
  · rw [if_pos h, if_pos h, if_neg (show ¬ j = m + 4 * c by omega)]
  · rw [if_neg h, if_neg h]
    by_cases e : j / 4 = c
    · rw [if_pos e, if_pos e, hcol]
      by_cases e2 : j % 4 = m
      · rw [if_pos e2, if_pos (show j = m + 4 * c by omega), e2]
      · rw [if_neg e2, if_neg (show ¬ j = m + 4 * c by omega)]
    · rw [if_neg e, if_neg e, if_neg (show ¬ j = m + 4 * c by omega)]
theorem mixed_worlds (f : Nat → Nat) (w : World) : ∃ w2, Hid ((w.alloc (.cells (madeCells #[.int .i64 0] 16) 3)).alloc (.cells #[.int .i64 2, .int .i64 1, .int .i64 1, .int .i64 3] 3) = w2) ∧ Hid (w2.rowIs w.heap.size 3 16 (fun j => .int .i64 (mO f 0 0 j : Int))) ∧ Hid (∀ i, i < 4 → w2.cell? ⟨w.heap.size + 1, i, none⟩ = some (.int .i64 (aE i : Int))) ∧ Hid (Below w.heap.size w w2) := by
  have h1 := World.rowIs_made w (.int .i64 0) 16 3
  have hs : (w.alloc (.cells (madeCells #[.int .i64 0] 16) 3)).heap.size = w.heap.size + 1 := by simp
  have B1 : Below w.heap.size w (w.alloc (.cells (madeCells #[.int .i64 0] 16) 3)) := (Below.refl _ _).alloc (Nat.le_refl _) _
  refine ⟨_, Lib.hid rfl, Lib.hid ?_, Lib.hid ?_, Lib.hid ((B1.alloc (by rw [hs]; omega) _))⟩
  · refine World.rowIs.congr (World.rowIs.of_block h1 (((Below.refl (w.heap.size + 1) _).alloc (by rw [hs]; exact Nat.le_refl _) _).block w.heap.size (Nat.lt_succ_self _))) fun j hj => by rw [mO_zero]; rfl
  · intro i hi
    have h2 := heap_alloc_new (w.alloc (.cells (madeCells #[.int .i64 0] 16) 3)) (.cells #[.int .i64 2, .int .i64 1, .int .i64 1, .int .i64 3] 3)
    rw [hs] at h2
    rw [cell_of_row _ _ i _ _ _ h2]
    rcases (show i = 0 ∨ i = 1 ∨ i = 2 ∨ i = 3 by omega) with rfl | rfl | rfl | rfl <;> rfl
set_option maxRecDepth 100000 in
set_option maxHeartbeats 3000000 in
theorem mixed_any (f : Nat → Nat) (sb sc : Nat) (w : World) (hf : ∀ j, j < 16 → f j < 256) (hS : Hid (IAt w sb 16 f)) :
    Calls Try.prog 62 #[.slice (some ⟨sb, 0, none⟩) 16 sc] w fun e w' => e = .returned (.slice (some ⟨w.heap.size, 0, none⟩) 16 16) ∧ IAt w' w.heap.size 16 (fun j => colT aE (xC f (j / 4)) 16 (j % 4)) ∧ Below w.heap.size w w' := by
  have hmk := makeI16
  obtain ⟨w2, HW2, HR2, HA2, B2⟩ := mixed_worlds f w
  go_enter Try.func62, Try.ntmps62
  go_wp2_with fail
  rw [HW2.out]
  have lts := hS.out.lt
  have HS := Lib.hid (hS.out.below B2.out)
  clear HW2 hS hmk
  obtain ⟨q, hq⟩ : ∃ q, Hid (w.heap.size = q) := ⟨_, Lib.hid rfl⟩
  rw [hq.out] at HR2 HA2 lts
  rw [show (w.heap.size) = q from hq.out]
  obtain ⟨p, hp⟩ : ∃ p, Hid (q + 1 = p) := ⟨_, Lib.hid rfl⟩
  rw [hp.out] at HA2 ⊢
  have hpq : p ≠ q := by have := hp.out; omega
  go_loopw [5] (fun x wi => ∃ c : Nat, x = .int .i64 (c : Int) ∧ c ≤ 4 ∧ Hid (wi.rowIs q 3 16 (fun j => .int .i64 (mO f c 0 j : Int))) ∧ Hid (Kp q w2 wi)) (fun x _ => 4 - (intOf x).toNat)
  case atStart => exact ⟨0, rfl, by omega, HR2, Lib.hid (Kp.refl _ _)⟩
  clear HR2
  case round =>
    obtain ⟨c, rfl, hc, HR, HB⟩ := hrel
    by_cases hlc : c < 4
    · as_aux_lemma =>
      have hci : (c : Int) < 4 := by omega
      go_wp2_with fail
      go_loopw [6] (fun x wi => ∃ i : Nat, x = .int .i64 (i : Int) ∧ i ≤ 4 ∧ Hid (wi.rowIs q 3 16 (fun j => .int .i64 (mO f c (4 * i) j : Int))) ∧ Hid (Kp q w2 wi)) (fun x _ => 4 - (intOf x).toNat)
      case atStart => exact ⟨0, rfl, by omega, HR, HB⟩
      clear HR HB
      case round =>
        obtain ⟨i, rfl, hi, HR, HB⟩ := hrel
        by_cases hli : i < 4
        · as_aux_lemma =>
          have hii : (i : Int) < 4 := by omega
          go_wp2_with fail
          go_loopw [7] (fun x wi => ∃ k : Nat, x = .int .i64 (k : Int) ∧ k ≤ 4 ∧ Hid (wi.rowIs q 3 16 (fun j => .int .i64 (mO f c (4 * i + k) j : Int))) ∧ Hid (Kp q w2 wi)) (fun x _ => 4 - (intOf x).toNat)
          case atStart => exact ⟨0, rfl, by omega, HR, HB⟩
          clear HR HB
          case round =>
            obtain ⟨k, rfl, hk, HR, HB⟩ := hrel
            by_cases hlk : k < 4
            · as_aux_lemma =>
              have hki : (k : Int) < 4 := by omega
              obtain ⟨m, hm⟩ : ∃ m, Hid ((i + k) % 4 = m) := ⟨_, Lib.hid rfl⟩
              have hm4 : m < 4 := by rw [← hm.out]; exact Nat.mod_lt _ (by decide)
              have hcm : ((i : Int) + (k : Int)) % 4 = (m : Int) := by have := hm.out; omega
              have hct : ((i : Int) + (k : Int)).tmod 4 = (m : Int) := by rw [Int.tmod_eq_emod_of_nonneg (by omega)]; exact hcm
              have x1 : ((m : Int) + 4 * (c : Int)).toNat = m + 4 * c := by omega
              have x2 : ((k : Int) + 4 * (c : Int)).toNat = k + 4 * c := by omega
              have x3 : (m : Int) + 4 * (c : Int) < 16 := by omega
              have x4 : (k : Int) + 4 * (c : Int) < 16 := by omega
              have x5 : (0 : Int) ≤ (m : Int) + 4 * (c : Int) := by omega
              have x6 : (0 : Int) ≤ (k : Int) + 4 * (c : Int) := by omega
              have y2 : IntKind.i64.wrap ((i : Int) + k) = i + k := IntWalk.i64_in _ (by omega)
              have y5 : IntKind.i64.wrap (4 * (c : Int)) = 4 * c := IntWalk.i64_in _ (by omega)
              have y6 : IntKind.i64.wrap ((k : Int) + 4 * c) = k + 4 * c := IntWalk.i64_in _ (by omega)
              have y7 : IntKind.i64.wrap ((m : Int) + 4 * c) = m + 4 * c := IntWalk.i64_in _ (by omega)
              have c0 := (HS.out.under lts HB.out.below).cell (k + 4 * c) (by omega)
              have hfb := hf (k + 4 * c) (by omega)
              have c1 := HB.out.cell hpq (HA2.out i hli)
              have hab := aE_lt i
              have HST : Hid (∀ j, mO f c (4 * i + (k + 1)) j = if j = m + 4 * c then colT aE (xC f c) (4 * i + k) m ^^^ gmul (aE i) (f (k + 4 * c)) else mO f c (4 * i + k) j) := Lib.hid (fun j => by
                rw [mO_step f c i k m hli hlk hm.out j, Nat.add_comm k (4 * c)])
              have d0 := World.rowIs.cell HR.out (i := m + 4 * c) (by omega)
              rw [mO_at f c _ m hm4] at d0
              have hcb := colT_lt aE (xC f c) aE_lt (4 * i + k) m
              have f0 := World.rowIs.frozen HR.out (m + 4 * c)
              generalize colT aE (xC f c) (4 * i + k) m = ov at d0 hcb HST
              generalize f (k + 4 * c) = fv at c0 hfb HST
              generalize aE i = av at c1 hab HST
              have CM := Lib.hid (fun w => r02mul_any av fv w hab hfb)
              have hgb := gmul_lt av fv hab
              generalize gmul av fv = gv at CM hgb HST
              have CA := Lib.hid (fun w => r02add_any ov gv w (by omega) (by omega))
              generalize ov ^^^ gv = z at CA HST
              go_upto_region 13 with fail
              refine wp_region_lin (S := (fun w' => w'.cell? ⟨sb, k + 4 * c, none⟩ = some (.int .i64 (fv : Int)) ∧ w'.cell? ⟨p, i, none⟩ = some (.int .i64 (av : Int)) ∧ w'.cell? ⟨q, m + 4 * c, none⟩ = some (.int .i64 (ov : Int)))) [(0, true), (1, true), (2, true), (3, true), (4, true), (5, true), (6, true), (7, true), (8, true), (9, true), (10, true), (11, true), (12, true), (13, true), (14, true), (15, true), (16, true), (17, false), (18, false), (19, true), (20, false)] (by kernel_rfl) (by kernel_rfl) rfl (by kernel_rfl) ?_ (fun hHeld => ?_)
              · (try dsimp only); exact ⟨c0, c1, d0⟩
              (refine wpL_calm (o := { dst := some 30, op := Go.Op.move (Go.Operand.tmp 3), type := 35, pos := "ref.go:79", after := #[], guard := none }) (v := ?_) rfl (Or.inl ⟨by rfl, ?_⟩) ?_; rotate_left; (focus (intro w hSw; (try dsimp only at hSw); go_simp; (try (with_reducible rfl)); done)); try simp only [Act.put, List.setIfInBounds_toArray, List.set_cons_zero, List.set_cons_succ])
              (refine wpL_calm (o := { dst := some 31, op := Go.Op.move (Go.Operand.tmp 8), type := 3, pos := "ref.go:79", after := #[], guard := none }) (v := ?_) rfl (Or.inl ⟨by rfl, ?_⟩) ?_; rotate_left; (focus (intro w hSw; (try dsimp only at hSw); go_simp; (try (with_reducible rfl)); done)); try simp only [Act.put, List.setIfInBounds_toArray, List.set_cons_zero, List.set_cons_succ])
              (refine wpL_calm (o := { dst := some 32, op := Go.Op.move (Go.Operand.tmp 3), type := 35, pos := "ref.go:79", after := #[], guard := none }) (v := ?_) rfl (Or.inl ⟨by rfl, ?_⟩) ?_; rotate_left; (focus (intro w hSw; (try dsimp only at hSw); go_simp; (try (with_reducible rfl)); done)); try simp only [Act.put, List.setIfInBounds_toArray, List.set_cons_zero, List.set_cons_succ])
              (refine wpL_calm (o := { dst := some 33, op := Go.Op.move (Go.Operand.tmp 8), type := 3, pos := "ref.go:79", after := #[], guard := none }) (v := ?_) rfl (Or.inl ⟨by rfl, ?_⟩) ?_; rotate_left; (focus (intro w hSw; (try dsimp only at hSw); go_simp; (try (with_reducible rfl)); done)); try simp only [Act.put, List.setIfInBounds_toArray, List.set_cons_zero, List.set_cons_succ])
              (refine wpL_calm (o := { dst := some 34, op := Go.Op.indexAddr 35 (Go.Operand.tmp 32) (Go.Operand.tmp 33), type := 0, pos := "ref.go:79", after := #[{ on := 2, ground := Go.Ground.data }, { on := 3, ground := Go.Ground.data }], guard := none }) (v := ?_) rfl (Or.inl ⟨by rfl, ?_⟩) ?_; rotate_left; (focus (intro w hSw; (try dsimp only at hSw); go_simp; (try (with_reducible rfl)); done)); try simp only [Act.put, List.setIfInBounds_toArray, List.set_cons_zero, List.set_cons_succ])
              (refine wpL_calm (o := { dst := some 35, op := Go.Op.load 3 (Go.Operand.tmp 34), type := 3, pos := "ref.go:79", after := #[{ on := 4, ground := Go.Ground.data }], guard := none }) (v := ?_) rfl (Or.inl ⟨by rfl, ?_⟩) ?_; rotate_left; (focus (intro w hSw; (try dsimp only at hSw); go_simp; (try (with_reducible rfl)); done)); try simp only [Act.put, List.setIfInBounds_toArray, List.set_cons_zero, List.set_cons_succ])
              (refine wpL_calm (o := { dst := some 36, op := Go.Op.move (Go.Operand.tmp 4), type := 35, pos := "ref.go:79", after := #[], guard := none }) (v := ?_) rfl (Or.inl ⟨by rfl, ?_⟩) ?_; rotate_left; (focus (intro w hSw; (try dsimp only at hSw); go_simp; (try (with_reducible rfl)); done)); try simp only [Act.put, List.setIfInBounds_toArray, List.set_cons_zero, List.set_cons_succ])
              (refine wpL_calm (o := { dst := some 37, op := Go.Op.move (Go.Operand.tmp 6), type := 3, pos := "ref.go:79", after := #[], guard := none }) (v := ?_) rfl (Or.inl ⟨by rfl, ?_⟩) ?_; rotate_left; (focus (intro w hSw; (try dsimp only at hSw); go_simp; (try (with_reducible rfl)); done)); try simp only [Act.put, List.setIfInBounds_toArray, List.set_cons_zero, List.set_cons_succ])
              (refine wpL_calm (o := { dst := some 38, op := Go.Op.indexAddr 35 (Go.Operand.tmp 36) (Go.Operand.tmp 37), type := 0, pos := "ref.go:79", after := #[{ on := 6, ground := Go.Ground.data }, { on := 7, ground := Go.Ground.data }], guard := none }) (v := ?_) rfl (Or.inl ⟨by rfl, ?_⟩) ?_; rotate_left; (focus (intro w hSw; (try dsimp only at hSw); go_simp; (try (with_reducible rfl)); done)); try simp only [Act.put, List.setIfInBounds_toArray, List.set_cons_zero, List.set_cons_succ])
              (refine wpL_calm (o := { dst := some 39, op := Go.Op.load 3 (Go.Operand.tmp 38), type := 3, pos := "ref.go:79", after := #[{ on := 8, ground := Go.Ground.data }], guard := none }) (v := ?_) rfl (Or.inl ⟨by rfl, ?_⟩) ?_; rotate_left; (focus (intro w hSw; (try dsimp only at hSw); go_simp; (try (with_reducible rfl)); done)); try simp only [Act.put, List.setIfInBounds_toArray, List.set_cons_zero, List.set_cons_succ])
              (refine wpL_calm (o := { dst := some 40, op := Go.Op.move (Go.Operand.tmp 0), type := 35, pos := "ref.go:79", after := #[], guard := none }) (v := ?_) rfl (Or.inl ⟨by rfl, ?_⟩) ?_; rotate_left; (focus (intro w hSw; (try dsimp only at hSw); go_simp; (try (with_reducible rfl)); done)); try simp only [Act.put, List.setIfInBounds_toArray, List.set_cons_zero, List.set_cons_succ])
              (refine wpL_calm (o := { dst := some 41, op := Go.Op.move (Go.Operand.tmp 7), type := 3, pos := "ref.go:79", after := #[], guard := none }) (v := ?_) rfl (Or.inl ⟨by rfl, ?_⟩) ?_; rotate_left; (focus (intro w hSw; (try dsimp only at hSw); go_simp; (try (with_reducible rfl)); done)); try simp only [Act.put, List.setIfInBounds_toArray, List.set_cons_zero, List.set_cons_succ])
              (refine wpL_calm (o := { dst := some 42, op := Go.Op.move (Go.Operand.tmp 5), type := 3, pos := "ref.go:79", after := #[], guard := none }) (v := ?_) rfl (Or.inl ⟨by rfl, ?_⟩) ?_; rotate_left; (focus (intro w hSw; (try dsimp only at hSw); go_simp; (try (with_reducible rfl)); done)); try simp only [Act.put, List.setIfInBounds_toArray, List.set_cons_zero, List.set_cons_succ])
              (refine wpL_calm (o := { dst := some 43, op := Go.Op.binOp Go.BinOp.mul 3 (Go.Operand.const (Go.Value.int Go.IntKind.i64 4)) (Go.Operand.tmp 42) 3, type := 3, pos := "ref.go:79", after := #[{ on := 12, ground := Go.Ground.data }], guard := none }) (v := ?_) rfl (Or.inl ⟨by rfl, ?_⟩) ?_; rotate_left; (focus (intro w hSw; (try dsimp only at hSw); go_simp; (try (with_reducible rfl)); done)); try simp only [Act.put, List.setIfInBounds_toArray, List.set_cons_zero, List.set_cons_succ])
              (refine wpL_calm (o := { dst := some 44, op := Go.Op.binOp Go.BinOp.add 3 (Go.Operand.tmp 41) (Go.Operand.tmp 43) 3, type := 3, pos := "ref.go:79", after := #[{ on := 11, ground := Go.Ground.data }, { on := 13, ground := Go.Ground.data }], guard := none }) (v := ?_) rfl (Or.inl ⟨by rfl, ?_⟩) ?_; rotate_left; (focus (intro w hSw; (try dsimp only at hSw); go_simp; (try (with_reducible rfl)); done)); try simp only [Act.put, List.setIfInBounds_toArray, List.set_cons_zero, List.set_cons_succ])
              (refine wpL_calm (o := { dst := some 45, op := Go.Op.indexAddr 35 (Go.Operand.tmp 40) (Go.Operand.tmp 44), type := 0, pos := "ref.go:79", after := #[{ on := 10, ground := Go.Ground.data }, { on := 14, ground := Go.Ground.data }], guard := none }) (v := ?_) rfl (Or.inl ⟨by rfl, ?_⟩) ?_; rotate_left; (focus (intro w hSw; (try dsimp only at hSw); go_simp; (try (with_reducible rfl)); done)); try simp only [Act.put, List.setIfInBounds_toArray, List.set_cons_zero, List.set_cons_succ])
              (refine wpL_calm (o := { dst := some 46, op := Go.Op.load 3 (Go.Operand.tmp 45), type := 3, pos := "ref.go:79", after := #[{ on := 15, ground := Go.Ground.data }], guard := none }) (v := ?_) rfl (Or.inl ⟨by rfl, ?_⟩) ?_; rotate_left; (focus (intro w hSw; (try dsimp only at hSw); go_simp; (try (with_reducible rfl)); done)); try simp only [Act.put, List.setIfInBounds_toArray, List.set_cons_zero, List.set_cons_succ])
              refine wpL_loud1 (o := { dst := some 47, op := Go.Op.call { callee := Go.Callee.value (Go.Operand.func 74), args := #[Go.Operand.tmp 39, Go.Operand.tmp 46], argTypes := #[3, 3] }, type := 3, pos := "ref.go:79", after := #[{ on := 9, ground := Go.Ground.data }, { on := 16, ground := Go.Ground.data }], guard := none }) rfl (fun K hK => ?_)
              (go_simp; go_at_call 74; refine (CM.out _).mono ?_; rintro e w' ⟨rfl, rfl⟩)
              try go_wp2_with fail
              refine hK.out _ _ ?_ (fun hHeld => ?_)
              · (try dsimp only); exact hHeld
              clear hK K
              try simp only [Act.put, List.setIfInBounds_toArray, List.set_cons_zero, List.set_cons_succ]
              refine wpL_loud1 (o := { dst := some 48, op := Go.Op.call { callee := Go.Callee.value (Go.Operand.func 47), args := #[Go.Operand.tmp 35, Go.Operand.tmp 47], argTypes := #[3, 3] }, type := 3, pos := "ref.go:79", after := #[{ on := 5, ground := Go.Ground.data }, { on := 17, ground := Go.Ground.data }, { on := 17, ground := Go.Ground.chain }], guard := none }) rfl (fun K hK => ?_)
              (go_simp; go_at_call 47; refine (CA.out _).mono ?_; rintro e w' ⟨rfl, rfl⟩)
              try go_wp2_with fail
              refine hK.out _ _ ?_ (fun hHeld => ?_)
              · (try dsimp only); exact hHeld
              clear hK K
              try simp only [Act.put, List.setIfInBounds_toArray, List.set_cons_zero, List.set_cons_succ]
              (refine wpL_calm (o := { dst := some 49, op := Go.Op.indexAddr 35 (Go.Operand.tmp 30) (Go.Operand.tmp 31), type := 0, pos := "ref.go:79", after := #[{ on := 0, ground := Go.Ground.data }, { on := 1, ground := Go.Ground.data }, { on := 0, ground := Go.Ground.phase }, { on := 1, ground := Go.Ground.phase }, { on := 2, ground := Go.Ground.phase }, { on := 3, ground := Go.Ground.phase }, { on := 4, ground := Go.Ground.phase }, { on := 5, ground := Go.Ground.phase }, { on := 6, ground := Go.Ground.phase }, { on := 7, ground := Go.Ground.phase }, { on := 8, ground := Go.Ground.phase }, { on := 9, ground := Go.Ground.phase }, { on := 10, ground := Go.Ground.phase }, { on := 11, ground := Go.Ground.phase }, { on := 12, ground := Go.Ground.phase }, { on := 13, ground := Go.Ground.phase }, { on := 14, ground := Go.Ground.phase }, { on := 15, ground := Go.Ground.phase }, { on := 16, ground := Go.Ground.phase }, { on := 17, ground := Go.Ground.phase }, { on := 18, ground := Go.Ground.phase }], guard := none }) (v := ?_) rfl (Or.inl ⟨by rfl, ?_⟩) ?_; rotate_left; (focus (intro w hSw; (try dsimp only at hSw); go_simp; (try (with_reducible rfl)); done)); try simp only [Act.put, List.setIfInBounds_toArray, List.set_cons_zero, List.set_cons_succ])
              refine wpL_loud0 (o := { dst := none, op := Go.Op.store 3 (Go.Operand.tmp 49) (Go.Operand.tmp 48), type := 0, pos := "ref.go:79", after := #[{ on := 19, ground := Go.Ground.data }, { on := 18, ground := Go.Ground.data }, { on := 18, ground := Go.Ground.chain }, { on := 0, ground := Go.Ground.phase }, { on := 1, ground := Go.Ground.phase }, { on := 2, ground := Go.Ground.phase }, { on := 3, ground := Go.Ground.phase }, { on := 4, ground := Go.Ground.phase }, { on := 5, ground := Go.Ground.phase }, { on := 6, ground := Go.Ground.phase }, { on := 7, ground := Go.Ground.phase }, { on := 8, ground := Go.Ground.phase }, { on := 9, ground := Go.Ground.phase }, { on := 10, ground := Go.Ground.phase }, { on := 11, ground := Go.Ground.phase }, { on := 12, ground := Go.Ground.phase }, { on := 13, ground := Go.Ground.phase }, { on := 14, ground := Go.Ground.phase }, { on := 15, ground := Go.Ground.phase }, { on := 16, ground := Go.Ground.phase }, { on := 17, ground := Go.Ground.phase }, { on := 18, ground := Go.Ground.phase }], guard := none }) rfl (by kernel_rfl) (fun K hK => ?_)
              go_simp
              refine hK.out _ _ ?_
              clear hK K
              try simp only [Act.put, List.setIfInBounds_toArray, List.set_cons_zero, List.set_cons_succ]
              refine wpL_nil ?_
              refine NoPanic.normal ?_
              go_wp2_with fail
              go_roundw
              case rel => exact ⟨k + 1, by go_num, by omega, Lib.hid (by
                refine World.rowIs.congr (World.rowIs.set HR.out (m + 4 * c) (.int .i64 (z : Int))) fun j hj => ?_
                rw [HST.out j]
                by_cases e : j = m + 4 * c
                · rw [if_pos e, if_pos e]
                · rw [if_neg e, if_neg e]), Lib.hid (by first | exact HB.out.setCell (m + 4 * c) _ | exact (HB.out.setCell (m + 4 * c) _).drew | exact (HB.out.setCell (m + 4 * c) _).drew.drew)⟩
              case measure => simp [intOf]; omega
            · as_aux_lemma =>
              obtain rfl : k = 4 := by omega
              rw [show ((4 : Nat) : Int) = 4 from rfl]
              go_wp2_with fail
              go_roundw
              case rel => exact ⟨i + 1, by go_num, by omega, Lib.hid (by rw [show 4 * (i + 1) = 4 * i + 4 by omega]; exact HR.out), HB⟩
              case measure => simp [intOf]; omega
        · as_aux_lemma =>
          obtain rfl : i = 4 := by omega
          rw [show ((4 : Nat) : Int) = 4 from rfl]
          go_wp2_with fail
          go_roundw
          case rel => exact ⟨c + 1, by go_num, by omega, Lib.hid (World.rowIs.congr HR.out fun j hj => by rw [mO_next]), HB⟩
          case measure => simp [intOf]; omega
    · as_aux_lemma =>
      obtain rfl : c = 4 := by omega
      rw [show ((4 : Nat) : Int) = 4 from rfl]
      go_wp2_with fail
      go_ret
      refine ⟨by rw [hq.out]; rfl, ?_, ?_⟩
      · rw [hq.out]; exact (IAt.of_row HR.out).congr fun j hj => by unfold mO; rw [if_pos (show j / 4 < 4 by omega)]
      · exact B2.out.trans (by rw [hq.out]; exact HB.out.below)
end Go.Proofs.Ytbbanhjcchnhpaa

/- The reference of package aes (cellaret): rows of rows; a key's words' bytes. -/
namespace Go.Proofs.Ytbbanhjcchnhpaa
open Go.RowKit Go.Deep
set_option linter.unusedVariables false
set_option linter.unusedSimpArgs false
theorem wp_build4 {P : Program} {o : Oper} {a : Act} {w : World} {K : Act → World → Prop} {Q : Exit → Act → World → Prop} (t e : TypeId) (x0 x1 x2 x3 : Operand) (ho : o.op = .buildSlice t 4 #[(0, x0), (1, x1), (2, x2), (3, x3)])
    (ie : TypeInfo) (hu : P.underlying t = some (.slice e)) (hie : P.info? e = some ie) (hz : ie.zero = some (.int .i64 0)) (hsz : ie.size = 1) (n0 n1 n2 n3 : Int) (h0 : a.eval x0 = .int .i64 n0) (h1 : a.eval x1 = .int .i64 n1) (h2 : a.eval x2 = .int .i64 n2) (h3 : a.eval x3 = .int .i64 n3)
    (h : K (a.put o.dst (.slice (some ⟨w.heap.size, 0, none⟩) 4 4)) (w.alloc (.cells #[.int .i64 n0, .int .i64 n1, .int .i64 n2, .int .i64 n3] e))) : o.wp P a w K Q := by
  refine wp_buildSlice t e 4 _ ho _ ie (.int .i64 0) hu hie hz (by rw [hsz]; decide) (by rw [hsz]; decide) ?_ h
  rw [hsz]
  simp only [List.map_toArray, List.map_cons, List.map_nil, h0, h1, h2, h3]
  simp [go_sem]
theorem info_rowG : (Try.prog.info? 35).map (fun i => (i.zero, i.size, i.bytes)) = some (some (.slice none 0 0), 1, 24) := by kernel_rfl
theorem nilRowG (w : World) (cs : Array Value) (hcs : cs.size = 0) : (w.alloc (.cells cs 3)).ownsRow w.heap.size 3 1 (.slice (some ⟨w.heap.size, 0, none⟩) 0 0) 0 [] :=
  ⟨rfl, Or.inr ⟨w.heap.size, 0, cs, rfl, Nat.le_refl _, heap_alloc_new _ _, Nat.le_refl _, by decide, by simpa using hcs, by simp⟩⟩
/-- A row of four numbers of one's own. -/
structure XRow (w : World) (b : Nat) (f : Nat → Nat) : Prop where
  lt : b < w.heap.size
  cell : ∀ r, r < 4 → w.cell? ⟨b, r, none⟩ = some (.int .i64 (f r : Int))
  free : ∀ r, w.frozen? ⟨b, r, none⟩ = false
theorem XRow.of_own {w : World} {base : Nat} {v : Value} {l : List Value} {f : Nat → Nat} {t : TypeId} (h : w.ownsRow base t 1 v 4 l) (hl : ∀ r, r < 4 → l[r]? = some (.int .i64 (f r : Int))) : ∃ b c, v = .slice (some ⟨b, 0, none⟩) 4 c ∧ base ≤ b ∧ XRow w b f := by
  rcases h.2 with ⟨rfl, h0⟩ | ⟨g, cap, cur, rfl, hb, hg, hnc, hcm, _⟩
  · omega
  · refine ⟨g, cap, rfl, hb, (Array.getElem?_eq_some_iff.1 hg).1, fun r hr => ?_, fun r => frozen_of_row _ g r _ _ hg⟩
    have := h.cells (g := g) rfl r _ (hl r hr)
    rwa [Addr.add_mid, Nat.zero_add] at this
theorem XRow.of_lit {w : World} {b : Nat} {n0 n1 n2 n3 : Int} {t : TypeId} {f : Nat → Nat} (h : w.heap[b]? = some (.cells #[.int .i64 n0, .int .i64 n1, .int .i64 n2, .int .i64 n3] t (0, 0))) (h0 : n0 = (f 0 : Int)) (h1 : n1 = (f 1 : Int)) (h2 : n2 = (f 2 : Int)) (h3 : n3 = (f 3 : Int)) : XRow w b f := by
  subst h0 h1 h2 h3
  refine ⟨(Array.getElem?_eq_some_iff.1 h).1, fun r hr => ?_, fun r => frozen_of_row _ b r _ _ h⟩
  rw [cell_of_row _ b r _ _ _ h]
  rcases (show r = 0 ∨ r = 1 ∨ r = 2 ∨ r = 3 by omega) with rfl | rfl | rfl | rfl <;> rfl
theorem XRow.congr {w : World} {b : Nat} {f g : Nat → Nat} (h : XRow w b f) (e : ∀ r, r < 4 → f r = g r) : XRow w b g := ⟨h.lt, fun r hr => by rw [h.cell r hr, e r hr], h.free⟩
theorem XRow.below {w w' : World} {b : Nat} {f : Nat → Nat} (h : XRow w b f) (hb : Below w.heap.size w w') : XRow w' b f := ⟨Nat.lt_of_lt_of_le h.lt hb.size, fun r hr => (hb.cell (p := ⟨b, r, none⟩) h.lt).trans (h.cell r hr), fun r => (hb.frozen (p := ⟨b, r, none⟩) h.lt).trans (h.free r)⟩
theorem XRow.set {w : World} {b : Nat} {f : Nat → Nat} (h : XRow w b f) (k : Nat) (hk : k < 4) (v : Nat) : XRow (w.setCell ⟨b, k, none⟩ (.int .i64 (v : Int))) b (fun r => if r = k then v else f r) := by
  refine ⟨by simpa [World.setCell] using h.lt, fun r hr => ?_, fun r => by rw [World.frozen?_setCell]; exact h.free r⟩
  by_cases e : r = k
  · subst e
    rw [World.cell?_setCell_same _ _ _ (h.cell r hr)]
    show _ = some (Value.int .i64 ((if r = r then v else f r : Nat) : Int))
    rw [if_pos rfl]
  · rw [World.cell?_setCell_other _ _ _ _ (by intro e'; simp only [Addr.mk.injEq] at e'; omega), h.cell r hr, if_neg e]
theorem XRow.drew {w : World} {b : Nat} {f : Nat → Nat} (h : XRow w b f) : XRow w.drew b f := ⟨h.lt, h.cell, h.free⟩
/-- So many rows' addresses. -/
def slV (bs cs : Nat → Nat) (n : Nat) : List Value := (List.range n).map fun i => .slice (some ⟨bs i, 0, none⟩) 4 (cs i)
theorem slV_get (bs cs : Nat → Nat) (n i : Nat) (hi : i < n) : (slV bs cs n)[i]? = some (.slice (some ⟨bs i, 0, none⟩) 4 (cs i)) := by unfold slV; rw [List.getElem?_map, List.getElem?_range hi]; rfl
theorem slV_succ (bs cs : Nat → Nat) (n b c : Nat) : slV (fun i => if i = n then b else bs i) (fun i => if i = n then c else cs i) (n + 1) = slV bs cs n ++ [.slice (some ⟨b, 0, none⟩) 4 c] := by
  unfold slV
  rw [List.range_succ, List.map_append]
  have : (List.range n).map (fun i => Value.slice (some ⟨if i = n then b else bs i, 0, none⟩) 4 (if i = n then c else cs i)) = (List.range n).map fun i => Value.slice (some ⟨bs i, 0, none⟩) 4 (cs i) := List.map_congr_left fun i hi => by
    have : i ≠ n := by have := List.mem_range.1 hi; omega
    rw [if_neg this, if_neg this]
  rw [this]
  simp
/-- The key's words so far. -/
structure WIn (base : Nat) (w : World) (v : Value) (n : Nat) (W : Nat → UInt32) (bs cs : Nat → Nat) : Prop where
  own : w.ownsRow base 35 1 v n (slV bs cs n)
  wlt : ∀ i, i < n → bs i < w.heap.size
  far : ∀ i, i < n → v.ownBlock ≠ some (bs i)
  word : ∀ i, i < n → ∀ r, r < 4 → w.cell? ⟨bs i, r, none⟩ = some (.int .i64 ((byW (W i) r).toNat : Int))
theorem WIn.below {base n : Nat} {w w' : World} {v : Value} {W : Nat → UInt32} {bs cs : Nat → Nat} (h : WIn base w v n W bs cs) (hb : Below w.heap.size w w') : WIn base w' v n W bs cs :=
  ⟨own_belowG h.own hb, fun i hi => Nat.lt_of_lt_of_le (h.wlt i hi) hb.size, h.far, fun i hi r hr => (hb.cell (p := ⟨bs i, r, none⟩) (h.wlt i hi)).trans (h.word i hi r hr)⟩
theorem WIn.drew {base n : Nat} {w : World} {v : Value} {W : Nat → UInt32} {bs cs : Nat → Nat} (h : WIn base w v n W bs cs) : WIn base w.drew v n W bs cs := ⟨h.own, h.wlt, h.far, h.word⟩
theorem WIn.push {base n : Nat} {wi W2 w1 : World} {v v' : Value} {W : Nat → UInt32} {bs cs : Nat → Nat} (h : WIn base wi v n W bs cs) (hb : Below wi.heap.size wi W2) {xb c : Nat} (hxb : wi.heap.size ≤ xb) (hx : XRow W2 xb (fun r => (byW (W n) r).toNat))
    (hown : w1.ownsRow base 35 1 v' (n + 1) (slV bs cs n ++ [.slice (some ⟨xb, 0, none⟩) 4 c])) (hg : W2.grownBy w1 v.ownBlock) : WIn base w1 v' (n + 1) W (fun i => if i = n then xb else bs i) (fun i => if i = n then c else cs i) := by
  have hvx : v.ownBlock ≠ some xb := fun e => by have := (h.own.lt xb e).2; omega
  have hword : ∀ i, i < n + 1 → ∀ r, r < 4 → w1.cell? ⟨if i = n then xb else bs i, r, none⟩ = some (.int .i64 ((byW (W i) r).toNat : Int)) := fun i hi r hr => by
    by_cases e : i = n
    · subst e
      rw [if_pos rfl]
      exact (hg.cell_far ⟨xb, r, none⟩ hx.lt (fun e => hvx e.symm)).trans (hx.cell r hr)
    · rw [if_neg e]
      have hlt := h.wlt i (by omega)
      exact (hg.cell_far ⟨bs i, r, none⟩ (Nat.lt_of_lt_of_le hlt hb.size) (fun q => h.far i (by omega) q.symm)).trans ((hb.cell (p := ⟨bs i, r, none⟩) hlt).trans (h.word i (by omega) r hr))
  have hlt1 : ∀ i, i < n + 1 → (if i = n then xb else bs i) < w1.heap.size := fun i hi => by
    by_cases e : i = n
    · rw [if_pos e]; exact Nat.lt_of_lt_of_le hx.lt hg.size
    · rw [if_neg e]; exact Nat.lt_of_lt_of_le (h.wlt i (by omega)) (Nat.le_trans hb.size hg.size)
  refine ⟨by rw [slV_succ]; exact hown, hlt1, fun i hi q => ?_, hword⟩
  have h0 : ∃ p l k, (slV bs cs n ++ [Value.slice (some ⟨xb, 0, none⟩) 4 c])[0]? = some (.slice p l k) := by
    by_cases e : n = 0
    · subst e; exact ⟨_, _, _, rfl⟩
    · rw [List.getElem?_append_left (by unfold slV; simp; omega), slV_get bs cs n 0 (by omega)]
      exact ⟨_, _, _, rfl⟩
  obtain ⟨p, l, k, h0⟩ := h0
  have h1 := hown.cells q 0 _ h0
  have h2 := hword i hi 0 (by omega)
  rw [Addr.add_mid, Nat.zero_add, h2] at h1
  cases h1
theorem WIn.done {base n : Nat} {w : World} {v : Value} {W : Nat → UInt32} {bs cs : Nat → Nat} (h : WIn base w v n W bs cs) (hn : 0 < n) : ∃ rb rc, v = .slice (some ⟨rb, 0, none⟩) n rc ∧ n ≤ rc ∧ base ≤ rb ∧ WAt w rb n W bs cs := by
  obtain ⟨g, c, rfl, h1, h2, h3, h4⟩ := own_rowG h.own hn
  exact ⟨g, c, rfl, h1, h2, h3, fun i hi => h4 i _ (slV_get bs cs n i hi), h.wlt, h.word⟩
/-! What a word's bytes are. -/
theorem byW_be (a b c d : UInt8) (r : Nat) (hr : r < 4) : byW (be4 a b c d) r = if r = 0 then a else if r = 1 then b else if r = 2 then c else d := by
  obtain ⟨h0, h1, h2, h3⟩ := byW_be4 a b c d
  rcases (show r = 0 ∨ r = 1 ∨ r = 2 ∨ r = 3 by omega) with rfl | rfl | rfl | rfl
  · exact h0
  · exact h1
  · exact h2
  · exact h3
theorem byW_img (x : UInt32) (r : Nat) (hr : r < 4) : byW (imgW x) r = bx (byW x r) := by
  unfold imgW
  rw [byW_be _ _ _ _ r hr]
  rcases (show r = 0 ∨ r = 1 ∨ r = 2 ∨ r = 3 by omega) with rfl | rfl | rfl | rfl <;> rfl
theorem byW_xor (x y : UInt32) (r : Nat) (hr : r < 4) : byW (x ^^^ y) r = byW x r ^^^ byW y r := by
  rw [← UInt8.toNat_inj, UInt8.toNat_xor]
  unfold byW
  rw [UInt8.toNat_ofNat', UInt8.toNat_ofNat', UInt8.toNat_ofNat', UInt32.toNat_xor]
  rw [show (256 : Nat) ^ (3 - r) = 2 ^ (8 * (3 - r)) by rw [Nat.pow_mul]]
  apply Nat.eq_of_testBit_eq
  intro i
  simp only [Nat.testBit_xor, Nat.testBit_mod_two_pow, Nat.testBit_div_two_pow]
  cases decide (i < 8) <;> simp
theorem rolW_be (x : UInt32) : rolW x = be4 (byW x 1) (byW x 2) (byW x 3) (byW x 0) := by
  have h := rolW_walk x
  have hx := x.toNat_lt
  obtain ⟨e0, e1, e2, e3⟩ := byW_int x
  rw [← UInt32.toNat_inj, be4_nat]
  have h1 : rolW x = (x <<< UInt32.ofNat 8) ||| (x >>> UInt32.ofNat 24) := rfl
  have h2 : (rolW x).toNat = (x.toNat * 256 % 4294967296) ||| (x.toNat / 16777216) := by
    rw [h1, UInt32.toNat_or, UInt32.toNat_shiftLeft, UInt32.toNat_shiftRight]
    simp [Nat.shiftLeft_eq, Nat.shiftRight_eq_div_pow]
  have h3 : (x.toNat * 256 % 4294967296) ||| (x.toNat / 16777216) = x.toNat * 256 % 4294967296 + x.toNat / 16777216 := by
    have h4 : x.toNat * 256 % 4294967296 = (x.toNat % 16777216) <<< 8 := by rw [Nat.shiftLeft_eq]; omega
    rw [h4, ← Nat.shiftLeft_add_eq_or_of_lt (show x.toNat / 16777216 < 2 ^ 8 by omega)]
  have h5 : x.toNat * 256 % 4294967296 = (x.toNat % 16777216) * 256 := by omega
  have h6 : x.toNat % 16777216 = (x.toNat / 65536 % 256) * 65536 + (x.toNat / 256 % 256) * 256 + x.toNat % 256 := by omega
  have n0 : (byW x 0).toNat = x.toNat / 16777216 := by clear h2 h3 h5 h6; omega
  have n1 : (byW x 1).toNat = x.toNat / 65536 % 256 := by clear h2 h3 h5 h6; omega
  have n2 : (byW x 2).toNat = x.toNat / 256 % 256 := by clear h2 h3 h5 h6; omega
  have n3 : (byW x 3).toNat = x.toNat % 256 := by clear h2 h3 h5 h6; omega
  rw [h2, h3, h5, h6, n0, n1, n2, n3]
  clear h2 h3 h5 h6 n0 n1 n2 n3 e0 e1 e2 e3 h
  generalize x.toNat / 65536 % 256 = a
  generalize x.toNat / 256 % 256 = b
  omega
theorem byW_rol (x : UInt32) (r : Nat) (hr : r < 4) : byW (rolW x) r = byW x ((r + 1) % 4) := by
  rw [rolW_be, byW_be _ _ _ _ r hr]
  rcases (show r = 0 ∨ r = 1 ∨ r = 2 ∨ r = 3 by omega) with rfl | rfl | rfl | rfl <;> rfl
theorem byW_pow (p r : Nat) (hp : p < 256) (hr : r < 4) : byW (UInt32.ofNat p <<< UInt32.ofNat 24) r = if r = 0 then UInt8.ofNat p else 0 := by
  have h := pow_walk p hp
  have h1 : (UInt32.ofNat p <<< UInt32.ofNat 24).toNat = p * 16777216 := by omega
  unfold byW
  rw [h1]
  rcases (show r = 0 ∨ r = 1 ∨ r = 2 ∨ r = 3 by omega) with rfl | rfl | rfl | rfl
  · rw [if_pos rfl]; rw [show p * 16777216 / 256 ^ (3 - 0) = p by omega]
  · rw [if_neg (by omega), ← UInt8.toNat_inj, UInt8.toNat_ofNat']; simp; omega
  · rw [if_neg (by omega), ← UInt8.toNat_inj, UInt8.toNat_ofNat']; simp; omega
  · rw [if_neg (by omega), ← UInt8.toNat_inj, UInt8.toNat_ofNat']; simp; omega
/-- The bytes of what is added to the word eight ahead. -/
def f1N (y : UInt32) (i r : Nat) : Nat := if i % 8 = 0 then boxN (byW y ((r + 1) % 4)).toNat ^^^ (if r = 0 then pwI i else 0) else (byW y r).toNat
def f2N (y : UInt32) (i r : Nat) : Nat := if i % 8 = 4 then boxN (byW y r).toNat else f1N y i r
theorem f2N_tW (W : Nat → UInt32) (i r : Nat) (hr : r < 4) : f2N (W (i - 1)) i r = (byW (tW W (pwI i) i) r).toNat := by
  have hp := pwI_lt i
  unfold f2N f1N tW
  by_cases h0 : i % 8 = 0
  · rw [if_neg (by omega), if_pos h0, if_pos h0, byW_xor _ _ r hr, byW_img _ r hr, byW_rol _ r hr, byW_pow _ r hp hr, UInt8.toNat_xor, bx_nat]
    by_cases e : r = 0
    · rw [if_pos e, if_pos e, UInt8.toNat_ofNat', Nat.mod_eq_of_lt hp]
    · rw [if_neg e, if_neg e]; rfl
  · by_cases h4 : i % 8 = 4
    · rw [if_pos h4, if_neg h0, if_pos h4, byW_img _ r hr, bx_nat]
    · rw [if_neg h4, if_neg h0, if_neg h0, if_neg h4]
theorem word_next (l : List UInt8) (i r : Nat) (h8 : 8 ≤ i) (h60 : i < 60) (hr : r < 4) : f2N (wI l 60 (i - 1)) i r ^^^ (byW (wI l 60 (i - 8)) r).toNat = (byW (wI l 60 i) r).toNat := by
  rw [f2N_tW _ i r hr, wI_rec l i h8 h60]
  unfold nextW
  rw [byW_xor _ _ r hr, UInt8.toNat_xor, Nat.xor_comm]
theorem pw_pow (i : Nat) (h : i < 60) (h8 : 8 ≤ i) (h0 : i % 8 = 0) : gpow 2 (i / 8 - 1) = pwI i := by
  have := all1 (p := fun i => decide (8 ≤ i → i % 8 = 0 → gpow 2 (i / 8 - 1) = pwI i)) 60 (by decide +kernel) i h
  exact of_decide_eq_true this h8 h0
theorem word_key (l : List UInt8) (i r : Nat) (hi : i < 8) (hr : r < 4) : byW (wI l 60 i) r = bAt l (4 * i + r) := by
  rw [wI_key l 60 i (by omega) hi]
  unfold kw
  rw [byW_be _ _ _ _ r hr]
  rcases (show r = 0 ∨ r = 1 ∨ r = 2 ∨ r = 3 by omega) with rfl | rfl | rfl | rfl <;> rfl
end Go.Proofs.Ytbbanhjcchnhpaa
