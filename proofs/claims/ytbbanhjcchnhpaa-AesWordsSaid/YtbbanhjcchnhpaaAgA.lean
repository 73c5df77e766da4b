/- The reference of package aes (cellaret): rows of numbers; Boxes. -/
import Derived.Test.YtbbanhjcchnhpaaAeW
import Derived.Laws.AppendOwn
import Derived.Laws.MakeOwn
namespace Go.Proofs.Ytbbanhjcchnhpaa
open Go.RowKit Go.Deep
set_option linter.unusedVariables false
set_option linter.unusedSimpArgs false
theorem info_partsG {P : Program} {t : TypeId} {z : Value} {n m : Nat} (h : (P.info? t).map (fun i => (i.zero, i.size, i.bytes)) = some (some z, n, m)) : ∃ i, P.info? t = some i ∧ i.zero = some z ∧ i.size = n ∧ i.bytes = m := by
  cases hq : P.info? t with
  | none => simp [hq] at h
  | some i => simp [hq] at h; exact ⟨i, rfl, h.1, h.2.1, h.2.2⟩
theorem info_i64G : (Try.prog.info? 3).map (fun i => (i.zero, i.size, i.bytes)) = some (some (.int .i64 0), 1, 8) := by kernel_rfl
theorem own_belowG {w w' : World} {base n size : Nat} {e : TypeId} {v : Value} {xs : List Value} (h3 : w.ownsRow base e size v n xs) (hb : Below w.heap.size w w') : w'.ownsRow base e size v n xs := by
  refine ⟨h3.1, ?_⟩
  rcases h3.2 with h | ⟨g2, cap, cur, rfl, q1, q2, q3⟩
  · exact Or.inl h
  · exact Or.inr ⟨g2, cap, cur, rfl, q1, (hb.block g2 (Array.getElem?_eq_some_iff.1 q2).1).trans q2, q3⟩
theorem own_rowG {w : World} {base : Nat} {v : Value} {l : List Value} {n : Nat} {t : TypeId} (h : w.ownsRow base t 1 v n l) (hn : 0 < n) : ∃ g c, v = .slice (some ⟨g, 0, none⟩) n c ∧ n ≤ c ∧ base ≤ g ∧ g < w.heap.size ∧ ∀ j u, l[j]? = some u → w.cell? ⟨g, j, none⟩ = some u := by
  rcases h.2 with ⟨rfl, rfl⟩ | ⟨g, cap, cur, rfl, hb, hg, hnc, hcm, _⟩
  · omega
  · refine ⟨g, cap, rfl, hnc, hb, (Array.getElem?_eq_some_iff.1 hg).1, fun j u hu => ?_⟩
    have := h.cells (g := g) rfl j u hu
    rwa [Addr.add_mid, Nat.zero_add] at this
/-- Numbers at a block's head. -/
structure IAt (w : World) (b n : Nat) (f : Nat → Nat) : Prop where
  lt : b < w.heap.size
  cell : ∀ j, j < n → w.cell? ⟨b, j, none⟩ = some (.int .i64 (f j : Int))
theorem IAt.below {w w' : World} {b n : Nat} {f : Nat → Nat} (h : IAt w b n f) (hb : Below w.heap.size w w') : IAt w' b n f := ⟨Nat.lt_of_lt_of_le h.lt hb.size, fun j hj => (hb.cell (p := ⟨b, j, none⟩) h.lt).trans (h.cell j hj)⟩
theorem IAt.under {w w' : World} {b n q : Nat} {f : Nat → Nat} (h : IAt w b n f) (hq : b < q) (hb : Below q w w') : IAt w' b n f := ⟨Nat.lt_of_lt_of_le h.lt hb.size, fun j hj => (hb.cell (p := ⟨b, j, none⟩) hq).trans (h.cell j hj)⟩
theorem IAt.of_row {w : World} {b n : Nat} {t : TypeId} {f : Nat → Nat} (h : w.rowIs b t n (fun j => .int .i64 (f j : Int))) : IAt w b n f := ⟨World.rowIs.lt h, fun j hj => World.rowIs.cell h hj⟩
theorem IAt.congr {w : World} {b n : Nat} {f g : Nat → Nat} (h : IAt w b n f) (e : ∀ j, j < n → f j = g j) : IAt w b n g := ⟨h.lt, fun j hj => by rw [h.cell j hj, e j hj]⟩
def bxV (k : Nat) : List Value := (List.range k).map fun j => .int .i64 (boxN j : Int)
theorem bxV_succ (k : Nat) : bxV (k + 1) = bxV k ++ [.int .i64 (boxN k : Int)] := by unfold bxV; rw [List.range_succ, List.map_append]; rfl
theorem bxV_get (k j : Nat) (hj : j < k) : (bxV k)[j]? = some (.int .i64 (boxN j : Int)) := by unfold bxV; rw [List.getElem?_map, List.getElem?_range hj]; rfl
set_option maxRecDepth 100000 in
set_option maxHeartbeats 2000000 in
theorem boxes_any (w : World) : Calls Try.prog 21 #[] w fun e w' => ∃ g c, e = .returned (.slice (some ⟨g, 0, none⟩) 256 c) ∧ IAt w' g 256 boxN ∧ Below w.heap.size w w' := by
  obtain ⟨i0, hi0, hz0, hz1, hz2⟩ := info_partsG info_i64G
  go_enter Try.func21, Try.ntmps21
  go_wp2_with fail
  go_loopw [1, 2] (fun x z wi => ∃ k : Nat, z = .int .i64 (k : Int) ∧ k ≤ 256 ∧ Hid (wi.ownsRow w.heap.size 3 1 x k (bxV k)) ∧ Below w.heap.size w wi) (fun _ z _ => 256 - (intOf z).toNat)
  case atStart => exact ⟨0, rfl, by omega, Lib.hid (World.ownsRow_nil _ _ _ _), Below.refl _ _⟩
  case round =>
    obtain ⟨k, rfl, hk, HO, hbel⟩ := hrel
    by_cases hlt : k < 256
    · as_aux_lemma =>
      have hli : (k : Int) < 256 := by omega
      have HTK := Lib.hid (bxV_succ k)
      have CB := Lib.hid (fun w => r04box_any k w hlt)
      have hsz := hbel.size
      generalize boxN k = u at HTK CB
      go_wp2_with fail
      refine (CB.out _).mono ?_
      rintro e w' ⟨rfl, rfl⟩
      clear CB
      go_wp2_with (at_builtin; refine wpList_append_own _ rfl _ _ 35 rfl w.heap.size 3 i0 (.int .i64 0) 1 8 Try.underlying35 hi0 hz0 hz1 hz2 rfl (by decide) _ _ _ rfl (HO.out.alloc _) ⟨wr.heap.size, 0, none⟩ 1 1 [.int .i64 (u : Int)] rfl rfl ?c1 ?c2 ?c3 ?c4 ?c5 ?_)
      case c1 =>
        intro j v hj
        match j, hj with
        | 0, hj => simp at hj; subst hj; exact World.cell?_alloc_at (w := wr) _ _ _ _ rfl
      case c2 => intro v hv; simp at hv; subst hv; rfl
      case c3 => unfold maxLen; omega
      case c4 => omega
      case c5 => simp; omega
      · intro v' w1 hown' hgrow _
        have hb1 : Below w.heap.size w w1 := (hbel.alloc hbel.size _).grown hgrow (by simp; omega) (fun j e => (HO.out.lt j e).1)
        have HO1 : Hid (w1.ownsRow w.heap.size 3 1 v' (k + 1) (bxV (k + 1))) := Lib.hid (by rw [HTK.out]; simpa using hown')
        clear hown' hgrow
        go_wp2_with fail
        go_roundw
        case rel => exact ⟨k + 1, by go_num, by omega, HO1, hb1⟩
        case measure => simp [intOf]; omega
    · as_aux_lemma =>
      obtain rfl : k = 256 := by omega
      rw [show ((256 : Nat) : Int) = 256 from rfl]
      obtain ⟨g, c, rfl, hc, hg1, hg2, hcell⟩ := own_rowG HO.out (by omega)
      have HI : Hid (IAt wr g 256 boxN) := Lib.hid ⟨hg2, fun j hj => hcell j _ (bxV_get 256 j hj)⟩
      clear hcell HO
      go_wp2_with fail
      go_ret
      exact ⟨g, c, rfl, HI.out, hbel⟩
end Go.Proofs.Ytbbanhjcchnhpaa
