/- Contracts of package dice (cellaret): Order. -/
import Derived.Test.YtnhnicjljbdjjaaDiB
namespace Go.Proofs.Ytnhnicjljbdjjaa
open Go.RowKit Go.Deep
set_option linter.unusedVariables false

theorem map_snoc (out : List Int) (z : Int) : (out ++ [z]).map (Value.int .i64) = out.map (Value.int .i64) ++ [.int .i64 z] := by simp
theorem range_cells (k : Nat) : ((List.range (k + 1)).map Int.ofNat).map (Value.int .i64) = ((List.range k).map Int.ofNat).map (Value.int .i64) ++ [.int .i64 (k : Int)] := by
  rw [List.range_succ]; simp
theorem ownsRow_lower {w : World} {b c : Nat} {e : TypeId} {s n : Nat} {v : Value} {xs : List Value} (h : w.ownsRow b e s v n xs) (hc : c ≤ b) : w.ownsRow c e s v n xs := by
  refine ⟨h.1, ?_⟩
  rcases h.2 with h0 | ⟨g, cap, cur, h1, h2, h3⟩
  · exact .inl h0
  · exact .inr ⟨g, cap, cur, h1, Nat.le_trans hc h2, h3⟩
set_option maxRecDepth 100000 in
set_option maxHeartbeats 2000000 in
theorem order_pos (draw n : Nat) (tgt : List Int) (w : World) (hd : draw ≤ 9223372036854775807) (hn : n ≤ 12) (hn0 : 0 < n) (ht : Hid (orderL draw n = tgt)) :
    Calls Try.prog 11 #[.int .i64 draw, .int .i64 n] w fun e w' => (∃ v, e = .returned (.tuple #[v, .int .i64 0]) ∧ w'.ownsRow w.heap.size 3 1 v tgt.length (tgt.map (Value.int .i64))) ∧ Below w.heap.size w w' := by
  obtain ⟨i0, hi, hz0, hz1, hz2⟩ := info_parts Try.info_i64
  go_enter Try.func11, Try.ntmps11
  go_wp2
  go_loopw [6, 21] (fun x y wi => ∃ k : Nat, y = .int .i64 k ∧ k ≤ n ∧ wi.ownsRow w.heap.size 3 1 x k (((List.range k).map Int.ofNat).map (Value.int .i64)) ∧ Below w.heap.size w wi)
    (fun _ y _ => n - (intOf y).toNat)
  case atStart => exact ⟨0, rfl, by omega, World.ownsRow_nil _ _ _ _, Below.refl _ _⟩
  case round =>
    obtain ⟨k, rfl, hk, hown, hbel⟩ := hrel
    by_cases hlt : k < n
    · have HO := Lib.hid hown
      clear hown
      go_wp2_with (at_builtin; refine wpList_append_own _ rfl _ _ 30 rfl w.heap.size 3 i0 (.int .i64 0) 1 8 Try.underlying30 hi hz0 hz1 hz2 rfl (by decide) _ _ _ rfl (HO.out.alloc _) ⟨wr.heap.size, 0, none⟩ 1 1 [.int .i64 (k : Int)] rfl rfl ?c1 ?c2 ?c3 ?c4 ?c5 ?_)
      case c1 =>
        intro j u hj
        match j, hj with
        | 0, hj => simp at hj; subst hj; exact World.cell?_alloc_at (w := wr) _ _ _ _ rfl
      case c2 => intro u hu; simp at hu; subst hu; rfl
      case c3 => unfold maxLen; omega
      case c4 => omega
      case c5 => have := hbel.size; simp; omega
      · intro v' w1 hown' hgrow _
        have hb1 : Below w.heap.size w w1 := (hbel.alloc hbel.size _).grown hgrow (by have := hbel.size; simp; omega) (fun j e => (HO.out.lt j e).1)
        go_wp2
        go_roundw
        case rel =>
          refine ⟨k + 1, by go_num, by omega, ?_, hb1⟩
          rw [range_cells, List.map_map]; exact hown'
        case measure => simp [intOf]; omega
    · obtain rfl : k = n := by omega
      have hO : ∃ g cap, u6 = .slice (some ⟨g, 0, none⟩) k cap ∧ w.heap.size ≤ g ∧ Rest wr g cap ((List.range k).map Int.ofNat) := by
        rcases hown.2 with ⟨_, h0⟩ | ⟨g, cap, cur, h0, hb, hg, h1, h2, h3, h4⟩
        · omega
        · subst h0
          obtain ⟨_, h5, h6⟩ := Rest.of hown
          exact ⟨g, cap, rfl, h5, h6⟩
      clear hown
      obtain ⟨g, cap, rfl, hg1, hR⟩ := hO
      have hg2 := hR.lt
      have hrl : ((List.range k).map Int.ofNat).length = k := by simp
      have hO0 : Ord w (wr.alloc (.cells #[.int .i64 (draw : Int)] 3)) w.heap.size wr.heap.size (wr.heap.size + 1) (.slice (some ⟨g, 0, none⟩) k cap) (.slice none 0 0) draw ((List.range k).map Int.ofNat) [] := by
        have hb : Below wr.heap.size wr (wr.alloc (.cells #[.int .i64 (draw : Int)] 3)) := (Below.refl _ _).alloc (Nat.le_refl _) _
        refine ⟨.inr ⟨g, cap, by rw [hrl], hg1, hg2, hR.same (hb.block g hg2) hb.size⟩, World.cell?_alloc_new wr #[.int .i64 (draw : Int)] 3 0, by simp, by omega, hbel.size, World.ownsRow_nil _ _ _ _, by simp, hbel.alloc hbel.size _⟩
      have ht0 : Hid (orderGo k draw ((List.range k).map Int.ofNat) [] = tgt) := ht
      clear ht hR
      generalize (List.range k).map Int.ofNat = zs0 at hrl hO0 ht0
      go_wp2_with fail
      refine (roller_any _ _).mono ?_
      rintro e w' ⟨rfl, rfl⟩
      have hbs := hbel.size
      generalize hb0 : wr.heap.size = b0 at hO0 hg2 hbs ⊢
      clear hb0
      generalize wr.alloc (.cells #[.int .i64 (draw : Int)] 3) = w0 at hO0 ⊢
      go_wp2
      go_loopw [6, 7, 32] (fun x y z wi => ∃ (j L left : Nat) (zs out : List Int), z = .int .i64 j ∧ j + L = k ∧ zs.length = L ∧ out.length = j ∧ left ≤ draw ∧ Hid (orderGo L left zs out = tgt) ∧ x = .slice (some ⟨g, 0, none⟩) L cap ∧ Ord w wi w.heap.size b0 (b0 + 1) x y left zs out)
        (fun _ _ z _ => k - (intOf z).toNat)
      case atStart => exact ⟨0, k, draw, zs0, [], rfl, by omega, hrl, rfl, Nat.le_refl _, ht0, rfl, hO0⟩
      case round =>
        obtain ⟨j, L, left, zs, out, rfl, hj, hzl, hol, hld, HT, rfl, hord⟩ := hrel
        clear hO0 ht0
        by_cases hlt2 : j < k
        · have hL : 1 ≤ L := by omega
          obtain ⟨L, rfl⟩ : ∃ M, L = M + 1 := ⟨L - 1, by omega⟩
          have hqk : left % (L + 1) < L + 1 := Nat.mod_lt _ (by omega)
          have hql : left / (L + 1) ≤ left := Nat.div_le_self _ _
          obtain ⟨q, hq⟩ : ∃ q, left / (L + 1) = q := ⟨_, rfl⟩
          obtain ⟨m, hm⟩ : ∃ m, left % (L + 1) = m := ⟨_, rfl⟩
          have HT2 : Hid (orderGo L q (zs.eraseIdx m) (out ++ [zs.getD m 0]) = tgt) := Lib.hid (by have := HT.out; unfold orderGo at this; rwa [hzl, hq, hm] at this)
          rw [hq] at hql
          rw [hm] at hqk
          have HQ := Lib.hid hq
          have HM := Lib.hid hm
          clear hq hm HT
          have c0 := hord.roll
          have f0 := hord.free
          go_wp2_with fail
          refine (roll_any b0 left (L + 1) m q _ c0 f0 (by omega) (by omega) HM HQ).mono ?_
          rintro e w1 ⟨rfl, d, hw1⟩
          have h1 := hord.rolled q d
          rw [hw1] at h1
          clear hw1 hord c0 f0
          have hrr : Rest w1 g cap zs := by
            rcases h1.rest with h0 | ⟨g', cap', h2, _, _, h3⟩
            · rw [h0] at hzl; simp at hzl
            · simp only [Value.slice.injEq, Option.some.injEq, Addr.mk.injEq] at h2
              obtain ⟨⟨rfl, _⟩, _, rfl⟩ := h2
              exact h3
          have hcell := hrr.cells m (by omega)
          obtain ⟨zv, hzv⟩ : ∃ zv, zs.getD m 0 = zv := ⟨_, rfl⟩
          rw [hzv] at hcell HT2
          have H1 := Lib.hid h1
          have hcp := hrr.hcap
          have hcm := hrr.most
          have hB := h1.Bsz
          clear h1 hrr
          go_wp2_with (at_builtin; refine wpList_append_own _ rfl _ _ 30 rfl (b0 + 1) 3 i0 (.int .i64 0) 1 8 Try.underlying30 hi hz0 hz1 hz2 rfl (by decide) _ _ _ rfl (H1.out.alloc _).out ⟨w1.heap.size, 0, none⟩ 1 1 [.int .i64 zv] rfl rfl ?c1 ?c2 ?c3 ?c4 ?c5 ?_)
          case c1 =>
            intro j u hj
            match j, hj with
            | 0, hj => simp at hj; subst hj; exact World.cell?_alloc_at (w := w1) _ _ _ _ rfl
          case c2 => intro u hu; simp at hu; subst hu; rfl
          case c3 => unfold maxLen; omega
          case c4 => omega
          case c5 => simp; omega
          · intro y2 w2 hown2 hgrow2 _
            have h2 := (H1.out.alloc _).grown hgrow2 (out2 := out ++ [zv]) (by rw [map_snoc]; simpa [hol] using hown2)
            clear hown2 hgrow2
            have hr2 : Rest w2 g cap zs := by
              rcases h2.rest with h0 | ⟨g', cap', h2, _, _, h3⟩
              · rw [h0] at hzl; simp at hzl
              · simp only [Value.slice.injEq, Option.some.injEq, Addr.mk.injEq] at h2
                obtain ⟨⟨rfl, _⟩, _, rfl⟩ := h2
                exact h3
            have h3 := h2.erased hg1 hg2 hr2 m (by omega) 1
            obtain ⟨A, hA, hnews⟩ : ∃ A : Addr, (if cap = m + 1 then some (⟨g, 0, none⟩ : Addr) else some ⟨g, m + 1, none⟩) = some A ∧ Hid (∀ j u, (moved zs m)[j]? = some u → w2.drew.cell? (A.add j) = some u) := by
              by_cases h : cap = m + 1
              · refine ⟨⟨g, 0, none⟩, by simp [h], fun j u hu => ?_⟩
                have h0 : (moved zs m).length = 0 := by rw [moved_length]; omega
                rw [List.length_eq_zero_iff.1 h0] at hu
                simp at hu
              · refine ⟨⟨g, m + 1, none⟩, by simp [h], fun j u hu => ?_⟩
                have hj : j < zs.length - (m + 1) := by
                  have := (List.getElem?_eq_some_iff.1 hu).1
                  rwa [moved_length] at this
                rw [moved_get hj] at hu
                rw [Addr.add_lit]
                exact (hr2.cells (m + 1 + j) (by omega)).trans hu
            have s1 : Hid ((moved zs m).length = (L - m) * 1) := Lib.hid (by rw [Nat.mul_one, moved_length, hzl, Nat.add_sub_add_right])
            have s2 : Hid (∀ u ∈ moved zs m, u.oneCell' = true) := by
              intro u hu
              obtain ⟨x, _, rfl⟩ := List.mem_map.1 hu
              rfl
            have s3 : Hid (∀ j, j < (moved zs m).length → (w2.drew.cell? ⟨g, 0 + m * 1 + j, none⟩).isSome = true ∧ w2.drew.frozen? ⟨g, 0 + m * 1 + j, none⟩ = false) := by
              intro j hj
              rw [moved_length] at hj
              rw [Nat.mul_one, Nat.zero_add]
              exact ⟨by show (w2.cell? _).isSome = true; rw [hr2.cells (m + j) (by omega)]; rfl, hr2.free (m + j) (by omega)⟩
            have hmc : m ≤ cap := by omega
            have hml : m ≤ L := by omega
            have hwr : IntKind.i64.wrap ((m : Int) + 1) = (m : Int) + 1 := by rw [IntKind.wrap_i64]; omega
            have hp0 : (0 : Int) ≤ (m : Int) + 1 := by omega
            have hp1 : (m : Int) + 1 ≤ ((L + 1 : Nat) : Int) := by omega
            have hp2 : ((m : Int) + 1).toNat = m + 1 := by omega
            have H3 := Lib.hid h3
            clear h2 h3 hr2 hcell
            go_wp2_with fail
            go_region_law (refine step_append_room rfl (.tmp 50) (.tmp 54) 30 rfl 3 i0 1 Try.underlying30 hi hz1 g 0 m cap (by simp [Act.eval, Act.put]) A (L - m) (cap - (m + 1)) (moved zs m) (by simp [Act.eval, Act.put]) s1.out hnews.out s2.out (by omega) s3.out ?_)
            go_wp2
            go_roundw
            case rel =>
              refine ⟨j + 1, L, q, zs.eraseIdx m, out ++ [zv], by go_num, by omega, by rw [List.length_eraseIdx, if_pos (by omega)]; omega, by simp [hol], by omega, HT2, ?_, ?_⟩
              · rfl
              · have h := H3.out
                rw [show (zs.eraseIdx m).length = L from by rw [List.length_eraseIdx, if_pos (by omega)]; omega] at h
                exact h
            case measure => simp [intOf]; omega
        · have e0 : L = 0 := by omega
          subst e0
          have e1 : out = tgt := HT.out
          subst e1
          have ho := hord.out
          have hb := hord.below
          clear hord
          go_wp2
          go_ret2
          exact ⟨⟨_, rfl, ownsRow_lower ho (by omega)⟩, hb⟩
end Go.Proofs.Ytnhnicjljbdjjaa
