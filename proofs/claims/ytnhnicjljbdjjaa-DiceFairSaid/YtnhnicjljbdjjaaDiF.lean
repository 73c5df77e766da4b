/- Contracts (cellaret): the reference's Order; the law DiceOrders. -/
import Derived.Test.YtnhnicjljbdjjaaDiE
namespace Go.Proofs.Ytnhnicjljbdjjaa
open Go.RowKit Go.Deep
set_option linter.unusedVariables false

theorem eraseIdx_filter (l : List Int) (k : Nat) (hk : k < l.length) (hn : l.Nodup) : l.eraseIdx k = l.filter (fun x => x != l.getD k 0) := by
  induction l generalizing k with
  | nil => simp at hk
  | cons a l ih =>
    rw [List.nodup_cons] at hn
    cases k with
    | zero =>
      have : l.filter (fun x => x != a) = l := by
        rw [List.filter_eq_self]
        intro x hx
        rw [bne_iff_ne]
        rintro rfl
        exact hn.1 hx
      simp [this]
    | succ k =>
      have hk' : k < l.length := by simpa using hk
      have hmem : l.getD k 0 ∈ l := by
        rw [List.getD_eq_getElem?_getD, List.getElem?_eq_getElem hk']
        exact List.getElem_mem hk'
      have hne : (a != l.getD k 0) = true := by
        rw [bne_iff_ne]
        intro e
        exact hn.1 (by rw [e]; exact hmem)
      have hg : (a :: l).getD (k + 1) 0 = l.getD k 0 := rfl
      rw [hg, List.filter_cons, if_pos hne, ← ih k hk' hn.2]
      rfl
/-- The numbers from i to below n that are not in out. -/
def free (i n : Nat) (out : List Int) : List Int := ((List.range' i (n - i)).map Int.ofNat).filter (fun x => decide (x ∉ out))
theorem free_end (n : Nat) (out : List Int) : free n n out = [] := by simp [free]
theorem free_in (i n : Nat) (out : List Int) (h : i < n) (hm : (i : Int) ∈ out) : free i n out = free (i + 1) n out := by
  obtain ⟨m, rfl⟩ : ∃ m, n = i + 1 + m := ⟨n - (i + 1), by omega⟩
  unfold free
  rw [show i + 1 + m - i = m + 1 from by omega, show i + 1 + m - (i + 1) = m from by omega, List.range'_succ]
  rw [List.map_cons, List.filter_cons, if_neg (by simpa using hm)]
theorem free_out (i n : Nat) (out : List Int) (h : i < n) (hm : (i : Int) ∉ out) : free i n out = (i : Int) :: free (i + 1) n out := by
  obtain ⟨m, rfl⟩ : ∃ m, n = i + 1 + m := ⟨n - (i + 1), by omega⟩
  unfold free
  rw [show i + 1 + m - i = m + 1 from by omega, show i + 1 + m - (i + 1) = m from by omega, List.range'_succ]
  rw [List.map_cons, List.filter_cons, if_pos (by simpa using hm)]
  rfl
theorem range_nodup (n : Nat) : ((List.range n).map Int.ofNat).Nodup := by
  rw [List.nodup_iff_pairwise_ne, List.pairwise_map]
  exact (List.nodup_iff_pairwise_ne.1 List.nodup_range).imp (fun h e => h (Int.ofNat.inj e))
theorem free_zero (n : Nat) (out : List Int) : free 0 n out = ((List.range n).map Int.ofNat).filter (fun x => decide (x ∉ out)) := by
  unfold free; rw [Nat.sub_zero, ← List.range_eq_range']
theorem free_nodup (n : Nat) (out : List Int) : (free 0 n out).Nodup := by
  rw [free_zero]; exact (range_nodup n).filter _
theorem free_erase (n : Nat) (out : List Int) (k : Nat) (hk : k < (free 0 n out).length) : (free 0 n out).eraseIdx k = free 0 n (out ++ [(free 0 n out).getD k 0]) := by
  rw [eraseIdx_filter _ _ hk (free_nodup n out)]
  generalize (free 0 n out).getD k 0 = z
  rw [free_zero, free_zero, List.filter_filter]
  congr 1
  funext x
  rw [Bool.eq_iff_iff]
  simp
  first | exact and_comm | exact Iff.rfl | exact ⟨fun ⟨a, b⟩ => ⟨b, a⟩, fun ⟨a, b⟩ => ⟨b, a⟩⟩
theorem free_none (n : Nat) : free 0 n [] = (List.range n).map Int.ofNat := by
  rw [free_zero, List.filter_eq_self]
  intro x _
  simp

set_option maxRecDepth 100000 in
set_option maxHeartbeats 400000 in
theorem has_raw (ao : Option Addr) (len cap : Nat) (zs : List Int) (n : Int) (w : World) (hz : zs.length = len) (hat : IntsAt w ao len zs) (hm : len ≤ 9223372036854775807) (r : Bool) (hr : Hid (decide (n ∈ zs) = r)) :
    Calls Try.prog 12 #[.slice ao len cap, .int .i64 n] w fun e w' => e = .returned (.bool r) ∧ w = w' := by
  have HAT := Lib.hid hat
  clear hat
  go_enter Try.func12, Try.ntmps12
  go_wp2
  go_loop [5] (fun x => ∃ i : Nat, x = .int .i64 i ∧ i ≤ len ∧ Hid (∀ j, j < i → zs.getD j 0 ≠ n)) (fun x => len - (intOf x).toNat)
  case atStart => exact ⟨0, rfl, by omega, Lib.hid (fun j hj => absurd hj (by omega))⟩
  case round =>
    obtain ⟨i, rfl, hi, HN⟩ := hrel
    by_cases hlt : i < len
    · obtain ⟨b, off, rfl, _, hc⟩ := HAT.out (by omega)
      have c0 := hc i hlt
      clear hc
      by_cases he : zs.getD i 0 = n
      · have er : r = true := by
          rw [← hr.out, decide_eq_true_iff, ← he, List.getD_eq_getElem?_getD, List.getElem?_eq_getElem (by omega)]
          exact List.getElem_mem _
        subst er
        rw [he] at c0
        go_wp2
        go_ret
        exact ⟨rfl, rfl⟩
      · have HN2 : Hid (∀ j, j < i + 1 → zs.getD j 0 ≠ n) := Lib.hid (fun j hj => by
          by_cases e : j = i
          · rw [e]; exact he
          · exact HN.out j (by omega))
        have hb : (zs.getD i 0 == n) = false := by rw [beq_eq_false_iff_ne]; exact he
        clear he
        generalize zs.getD i 0 = z at c0 hb
        go_wp2
        go_round
        case rel => exact ⟨i + 1, by go_num, by omega, HN2⟩
        case measure => simp [intOf]; omega
    · obtain rfl : i = len := by omega
      have er : r = false := by
        rw [← hr.out, decide_eq_false_iff_not]
        intro hmem
        obtain ⟨j, hj, e⟩ := List.getElem_of_mem hmem
        exact HN.out j (by omega) (by rw [List.getD_eq_getElem?_getD, List.getElem?_eq_getElem hj]; exact e)
      subst er
      go_wp2
      go_ret
      exact ⟨rfl, rfl⟩

set_option maxRecDepth 100000 in
set_option maxHeartbeats 2000000 in
theorem r08order_any (draw n : Nat) (tgt : List Int) (w : World) (hd : draw ≤ 9223372036854775807) (hn : n ≤ 12) (ht : Hid (orderL draw n = tgt)) :
    Calls Try.prog 14 #[.int .i64 draw, .int .i64 n] w fun e w' => (∃ v, e = .returned v ∧ w'.ownsRow w.heap.size 3 1 v tgt.length (tgt.map (Value.int .i64))) ∧ Below w.heap.size w w' := by
  obtain ⟨i0, hi, hz0, hz1, hz2⟩ := info_parts Try.info_i64
  have hs0 : Hid (orderGo (n - 0) draw (free 0 n []) [] = tgt) := Lib.hid (by rw [free_none]; exact ht.out)
  have hl0 : (free 0 n []).length = n - 0 := by rw [free_none]; simp
  clear ht
  go_enter Try.func14, Try.ntmps14
  go_wp2
  go_loopw [0, 5] (fun x y wi => ∃ (left m : Nat) (out : List Int), x = .int .i64 left ∧ left ≤ draw ∧ out.length = m ∧ m ≤ n ∧ Hid ((free 0 n out).length = n - m) ∧ Hid (orderGo (n - m) left (free 0 n out) out = tgt) ∧ (∃ ao c, y = .slice ao m c) ∧ wi.ownsRow w.heap.size 3 1 y m (out.map (Value.int .i64)) ∧ Below w.heap.size w wi)
    (fun _ y _ => n - (match y with | .slice _ l _ => l | _ => 0))
  case atStart => exact ⟨draw, 0, [], rfl, Nat.le_refl _, rfl, by omega, Lib.hid hl0, hs0, ⟨_, _, rfl⟩, World.ownsRow_nil _ _ _ _, Below.refl _ _⟩
  case round =>
    obtain ⟨left, m, out, rfl, hleft, hol, hmn, HL, HT, ⟨ao, c, rfl⟩, hown, hbel⟩ := hrel
    by_cases hlt : m < n
    · obtain ⟨L, hL⟩ : ∃ L, n - m = L + 1 := ⟨n - m - 1, by omega⟩
      have HL1 : (free 0 n out).length = L + 1 := by rw [HL.out, hL]
      have hsub : (n : Int) - (m : Int) = ((L + 1 : Nat) : Int) := by omega
      obtain ⟨d1, d2⟩ := divs left (L + 1)
      have hkl : left % (L + 1) < L + 1 := Nat.mod_lt _ (by omega)
      have hql : left / (L + 1) ≤ left := Nat.div_le_self _ _
      have HT2 : Hid (orderGo L (left / (L + 1)) ((free 0 n out).eraseIdx (left % (L + 1))) (out ++ [(free 0 n out).getD (left % (L + 1)) 0]) = tgt) := Lib.hid (by have := HT.out; rw [hL] at this; unfold orderGo at this; rwa [HL1] at this)
      have HL2 : Hid ((free 0 n (out ++ [(free 0 n out).getD (left % (L + 1)) 0])).length = L) := Lib.hid (by rw [← free_erase n out _ (by omega), List.length_eraseIdx, if_pos (by omega), HL1]; rfl)
      rw [free_erase n out _ (by omega)] at HT2
      rw [Int.tmod_eq_emod_of_nonneg (by omega), Int.natCast_add] at d2
      rw [Int.tdiv_eq_ediv_of_nonneg (by omega), Int.natCast_add] at d1
      generalize left % (L + 1) = k at d2 hkl HT2 HL2
      generalize left / (L + 1) = q at d1 hql HT2
      have e1 : (left : Int) % ((L : Int) + 1) = (k : Int) := d2
      have e2 : (left : Int) / ((L : Int) + 1) = (q : Int) := d1
      have hat : IntsAt wr ao m out := by
        have := hol
        subst this
        exact (IntsAt.own hown).2
      have HK : Hid (k < (free 0 n out).length ∧ (free 0 n out).getD k 0 = (free 0 n out).getD k 0) := Lib.hid ⟨by omega, rfl⟩
      generalize hz : (free 0 n out).getD k 0 = z at HT2 HL2
      have HZ : Hid (k < (free 0 n out).length ∧ (free 0 n out).getD k 0 = z) := Lib.hid ⟨by omega, hz⟩
      have HO := Lib.hid hown
      have HA := Lib.hid hat
      clear hown hat hz HK HL1 HL HT
      go_wp2
      rw [e1]
      go_loop [5, 6, 7] (fun v x y => ∃ k' i : Nat, v = .slice ao m c ∧ x = .int .i64 k' ∧ y = .int .i64 i ∧ i ≤ n ∧ k' ≤ 12 ∧ Hid (k' < (free i n out).length ∧ (free i n out).getD k' 0 = z))
        (fun _ _ y => n - (intOf y).toNat)
      case atStart => exact ⟨k, 0, rfl, rfl, rfl, by omega, by omega, HZ⟩
      case round =>
        obtain ⟨k', i, rfl, rfl, rfl, hin, hk12, HZ'⟩ := hrel
        have hlt2 : i < n := by
          by_cases e : i = n
          · subst e
            have := HZ'.out.1
            rw [free_end] at this
            simp at this
          · omega
        by_cases hmem : (i : Int) ∈ out
        · have HH := Lib.hid (fun w hat => has_raw ao m c out (i : Int) w hol hat (by omega) true (Lib.hid (by rw [decide_eq_true_iff]; exact hmem)))
          have HZ2 : Hid (k' < (free (i + 1) n out).length ∧ (free (i + 1) n out).getD k' 0 = z) := Lib.hid (by rw [← free_in i n out hlt2 hmem]; exact HZ'.out)
          clear hmem
          go_wp2_with fail
          refine (HH.out _ HA.out).mono ?_
          rintro e w' ⟨rfl, rfl⟩
          go_wp2
          go_round
          case rel => exact ⟨k', i + 1, rfl, rfl, by go_num, by omega, by omega, HZ2⟩
          case measure => simp [intOf]; omega
        · have HH := Lib.hid (fun w hat => has_raw ao m c out (i : Int) w hol hat (by omega) false (Lib.hid (by rw [decide_eq_false_iff_not]; exact hmem)))
          have HZ2 := HZ'.out
          rw [free_out i n out hlt2 hmem] at HZ2
          clear hmem
          by_cases hk0 : k' = 0
          · subst hk0
            have e : z = (i : Int) := HZ2.2.symm
            subst e
            clear HZ2
            go_wp2_with fail
            refine (HH.out _ HA.out).mono ?_
            rintro e w' ⟨rfl, rfl⟩
            go_wp2_with (at_builtin; refine wpList_append_own _ rfl _ _ 30 rfl w.heap.size 3 i0 (.int .i64 0) 1 8 Try.underlying30 hi hz0 hz1 hz2 rfl (by decide) _ _ _ rfl (HO.out.alloc _) ⟨wr.heap.size, 0, none⟩ 1 1 [.int .i64 (i : Int)] rfl rfl ?c1 ?c2 ?c3 ?c4 ?c5 ?_)
            case c1 =>
              intro j u hj
              match j, hj with
              | 0, hj => simp at hj; subst hj; exact World.cell?_alloc_at (w := wr) _ _ _ _ rfl
            case c2 => intro u hu; simp at hu; subst hu; rfl
            case c3 => unfold maxLen; omega
            case c4 => omega
            case c5 => have := hbel.size; simp; omega
            · intro v' w1 hown' hgrow _
              have hb1 : Below w.heap.size w w1 := (hbel.alloc hbel.size _).grown hgrow (by have := hbel.size; simp; omega) (fun j e => (HO.out.lt j e).1)
              obtain ⟨a2, l2, c2, rfl⟩ := own_slice hown'
              have hl2 : l2 = m + 1 := by
                rcases hown'.2 with ⟨h, h'⟩ | ⟨g, cap, cur, h, _⟩
                · simp only [Value.slice.injEq] at h; omega
                · simp only [Value.slice.injEq] at h; exact h.2.1
              subst hl2
              go_wp2
              go_roundw
              case rel =>
                refine ⟨q, m + 1, out ++ [(i : Int)], by go_num, by omega, by simp [hol], by omega, Lib.hid (by rw [HL2.out]; omega), Lib.hid (by rw [show n - (m + 1) = L from by omega]; exact HT2.out), ⟨_, _, rfl⟩, by rw [map_snoc]; exact hown', hb1⟩
              case measure => simp; omega
          · obtain ⟨k2, rfl⟩ : ∃ k2, k' = k2 + 1 := ⟨k' - 1, by omega⟩
            have HZ3 : Hid (k2 < (free (i + 1) n out).length ∧ (free (i + 1) n out).getD k2 0 = z) := Lib.hid ⟨by simpa using HZ2.1, HZ2.2⟩
            clear HZ2 hk0
            go_wp2_with fail
            refine (HH.out _ HA.out).mono ?_
            rintro e w' ⟨rfl, rfl⟩
            go_wp2
            go_round
            case rel => exact ⟨k2, i + 1, rfl, by go_num, by go_num, by omega, by omega, HZ3⟩
            case measure => simp [intOf]; omega
    · obtain rfl : m = n := by omega
      have e : out = tgt := by have := HT.out; rwa [Nat.sub_self] at this
      subst e
      subst hol
      go_wp2
      go_ret
      exact ⟨⟨_, rfl, hown⟩, hbel⟩
end Go.Proofs.Ytnhnicjljbdjjaa
