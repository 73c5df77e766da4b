/- Contracts (cellaret): the reference's Order; the law DiceOrders. -/
import Derived.Test.YtfkepplpeakgmaaDiE
namespace Go.Proofs.Ytfkepplpeakgmaa
open Go.RowKit Go.Deep
set_option linter.unusedVariables false

theorem eraseIdx_filter (l : List Int) (k : Nat) (hk : k < l.length) (hn : l.Nodup) : l.eraseIdx k = l.filter (fun x => x != l.getD k 0) := by
  induction l generalizing k with
  | nil => simp at hk
  | cons a l ih =>
    rw [List.nodup_cons] at hn
    cases k with
    | zero =>
      have : l.filter (fun x => x != a) = l := by
        rw [List.filter_eq_self]
        intro x hx
        rw [bne_iff_ne]
        rintro rfl
        exact hn.1 hx
      simp [this]
    | succ k =>
      have hk' : k < l.length := by simpa using hk
      have hmem : l.getD k 0 ∈ l := by
        rw [List.getD_eq_getElem?_getD, List.getElem?_eq_getElem hk']
        exact List.getElem_mem hk'
      have hne : (a != l.getD k 0) = true := by
        rw [bne_iff_ne]
        intro e
        exact hn.1 (by rw [e]; exact hmem)
      have hg : (a :: l).getD (k + 1) 0 = l.getD k 0 := rfl
      rw [hg, List.filter_cons, if_pos hne, ← ih k hk' hn.2]
      rfl
/-- The numbers from i to below n that are not in out. -/
def free (i n : Nat) (out : List Int) : List Int := ((List.range' i (n - i)).map Int.ofNat).filter (fun x => decide (x ∉ out))
theorem free_end (n : Nat) (out : List Int) : free n n out = [] := by simp [free]
theorem free_in (i n : Nat) (out : List Int) (h : i < n) (hm : (i : Int) ∈ out) : free i n out = free (i + 1) n out := by
  obtain ⟨m, rfl⟩ : ∃ m, n = i + 1 + m := ⟨n - (i + 1), by omega⟩
  unfold free
  rw [show i + 1 + m - i = m + 1 from by omega, show i + 1 + m - (i + 1) = m from by omega, List.range'_succ]
  rw [List.map_cons, List.filter_cons, if_neg (by simpa using hm)]
theorem free_out (i n : Nat) (out : List Int) (h : i < n) (hm : (i : Int) ∉ out) : free i n out = (i : Int) :: free (i + 1) n out := by
  obtain ⟨m, rfl⟩ : ∃ m, n = i + 1 + m := ⟨n - (i + 1), by omega⟩
  unfold free
  rw [show i + 1 + m - i = m + 1 from by omega, show i + 1 + m - (i + 1) = m from by omega, List.range'_succ]
  rw [List.map_cons, List.filter_cons, if_pos (by simpa using hm)]
  rfl
theorem range_nodup (n : Nat) : ((List.range n).map Int.ofNat).Nodup := by
  rw [List.nodup_iff_pairwise_ne, List.pairwise_map]
  exact (List.nodup_iff_pairwise_ne.1 List.nodup_range).imp (fun h e => h (Int.ofNat.inj e))
theorem free_zero (n : Nat) (out : List Int) : free 0 n out = ((List.range n).map Int.ofNat).filter (fun x => decide (x ∉ out)) := by
  unfold free; rw [Nat.sub_zero, ← List.range_eq_range']
theorem free_nodup (n : Nat) (out : List Int) : (free 0 n out).Nodup := by
  rw [free_zero]; exact (range_nodup n).filter _
theorem free_erase (n : Nat) (out : List Int) (k : Nat) (hk : k < (free 0 n out).length) : (free 0 n out).eraseIdx k = free 0 n (out ++ [(free 0 n out).getD k 0]) := by
  rw [eraseIdx_filter _ _ hk (free_nodup n out)]
  generalize (free 0 n out).getD k 0 = z
  rw [free_zero, free_zero, List.filter_filter]
  congr 1
  funext x
  rw [Bool.eq_iff_iff]
  simp
  first | exact and_comm | exact Iff.rfl | exact ⟨fun ⟨a, b⟩ => ⟨b, a⟩, fun ⟨a, b⟩ => ⟨b, a⟩⟩
theorem free_none (n : Nat) : free 0 n [] = (List.range n).map Int.ofNat := by
  rw [free_zero, List.filter_eq_self]
  intro x _
  simp

set_option maxRecDepth 100000 in
set_option maxHeartbeats 400000 in
theorem has_raw (ao : Option Addr) (len cap : Nat) (zs : List Int) (n : Int) (w : World) (hz : zs.length = len) (hat : IntsAt w ao len zs) (hm : len ≤ 9223372036854775807) (r : Bool) (hr : Hid (decide (n ∈ zs) = r)) :
    Calls Try.prog 42 #[.slice ao len cap, .int .i64 n] w fun e w' => e = .returned (.bool r) ∧ w = w' := by
  have HAT := Lib.hid hat
  clear hat
  go_enter Try.func42, Try.ntmps42
  go_wp2
  go_loop [5] (fun x => ∃ i : Nat, x = .int .i64 i ∧ i ≤ len ∧ Hid (∀ j, j < i → zs.getD j 0 ≠ n)) (fun x => len - (intOf x).toNat)
  case atStart => exact ⟨0, rfl, by omega, Lib.hid (fun j hj => absurd hj (by omega))⟩
  case round =>
    obtain ⟨i, rfl, hi, HN⟩ := hrel
    by_cases hlt : i < len
    · obtain ⟨b, off, rfl, _, hc⟩ := HAT.out (by omega)
      have c0 := hc i hlt
      clear hc
      by_cases he : zs.getD i 0 = n
      · have er : r = true := by
          rw [← hr.out, decide_eq_true_iff, ← he, List.getD_eq_getElem?_getD, List.getElem?_eq_getElem (by omega)]
          exact List.getElem_mem _
        subst er
        rw [he] at c0
        go_wp2
        go_ret
        exact ⟨rfl, rfl⟩
      · have HN2 : Hid (∀ j, j < i + 1 → zs.getD j 0 ≠ n) := Lib.hid (fun j hj => by
          by_cases e : j = i
          · rw [e]; exact he
          · exact HN.out j (by omega))
        have hb : (zs.getD i 0 == n) = false := by rw [beq_eq_false_iff_ne]; exact he
        clear he
        generalize zs.getD i 0 = z at c0 hb
        go_wp2
        go_round
        case rel => exact ⟨i + 1, by go_num, by omega, HN2⟩
        case measure => simp [intOf]; omega
    · obtain rfl : i = len := by omega
      have er : r = false := by
        rw [← hr.out, decide_eq_false_iff_not]
        intro hmem
        obtain ⟨j, hj, e⟩ := List.getElem_of_mem hmem
        exact HN.out j (by omega) (by rw [List.getD_eq_getElem?_getD, List.getElem?_eq_getElem hj]; exact e)
      subst er
      go_wp2
      go_ret
      exact ⟨rfl, rfl⟩

end Go.Proofs.Ytfkepplpeakgmaa
