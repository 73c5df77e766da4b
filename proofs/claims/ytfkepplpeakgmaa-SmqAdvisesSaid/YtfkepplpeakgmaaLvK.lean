/- Package level: List by rows. -/
import Derived.Test.YtfkepplpeakgmaaLvJ
namespace Go.Proofs.Ytfkepplpeakgmaa
open Go.RowKit Go.Deep
set_option linter.unusedVariables false
set_option linter.unusedSimpArgs false
/-- A row's numbers as values. -/
def nvL (L : List Nat) : List Value := L.map fun x : Nat => Value.int .i64 (x : Int)
theorem nvL_length (L : List Nat) : (nvL L).length = L.length := by unfold nvL; simp
theorem nvL_take (L : List Nat) (k : Nat) (hk : k < L.length) : nvL (L.take (k + 1)) = nvL (L.take k) ++ [.int .i64 (L[k] : Int)] := by
  unfold nvL
  rw [List.take_succ_eq_append_getElem hk, List.map_append]
  rfl
def rowL (R : Nat → List Nat) (l : Int) : List Nat := if 0 ≤ l ∧ l < 4 then R l.toNat else []
theorem nodup_le {L : List Nat} (h : L.Nodup) (n : Nat) (hn : ∀ x ∈ L, x < n) : L.length ≤ n := by
  have : L ⊆ List.range n := fun x hx => List.mem_range.2 (hn x hx)
  have h2 := h.length_le_of_subset this
  simpa using h2
set_option maxRecDepth 100000 in
set_option maxHeartbeats 4000000 in
theorem list_any (g n : Nat) (R : Nat → List Nat) (l : Int) (w : World) (h : QR w g n R) : Calls Try.prog 29 #[.pointer (some ⟨g, 0, none⟩), .int .i64 l] w fun e w' => ∃ v base, e = .returned v ∧ w.heap.size ≤ base ∧ w'.ownsRow base 3 1 v (rowL R l).length (nvL (rowL R l)) ∧ Below w.heap.size w w' := by
  obtain ⟨F, hQ, hO⟩ := h
  have PL := Lib.hid (fun w => isLevel_any l w)
  unfold rowL
  by_cases h2 : 0 ≤ l ∧ l < 4
  · rw [decide_eq_true h2] at PL
    rw [if_pos h2]
    obtain ⟨m, rfl⟩ : ∃ m : Nat, l = (m : Int) := ⟨l.toNat, by omega⟩
    have hm : m < 4 := by omega
    rw [Int.toNat_natCast]
    have hrow := hO.row m hm
    have h16 : ∀ x ∈ R m, x < 16 := fun x hx => by have := hO.lt m hm x hx; have := hO.n16; omega
    have hlen : (R m).length ≤ 16 := nodup_le hrow.nd 16 h16
    generalize hLe : R m = L at *
    have hgl : g < w.heap.size := hQ.lt
    obtain ⟨w0, HW0, c0, f0, B0⟩ : ∃ w0, Hid (w.alloc (.cells #[.slice none 0 0] 39) = w0) ∧ w0.cell? ⟨w.heap.size, 0, none⟩ = some (.slice none 0 0) ∧ w0.frozen? ⟨w.heap.size, 0, none⟩ = false ∧ Hid (Below w.heap.size w w0) := ⟨_, Lib.hid rfl, cell_of_row _ _ 0 _ _ _ (heap_alloc_new _ _), frozen_of_row _ _ 0 _ _ (heap_alloc_new _ _), Lib.hid ((Below.refl _ _).alloc (Nat.le_refl _) _)⟩
    have HD0 := Lib.hid (hQ.below B0.out)
    have hl0 : w.heap.size < w0.heap.size := block_lt_of_cell c0
    have C0 := Lib.hid c0
    have F0 := Lib.hid f0
    have HR := Lib.hid hrow
    have H16 := Lib.hid h16
    clear c0 f0 hO hQ hrow h16 hLe
    go_enter Try.func29, Try.ntmps29
    go_wp2_with fail
    refine (PL.out _).mono ?_
    rintro e w' ⟨rfl, rfl⟩
    go_upto_region 4 with fail
    rw [HW0.out]
    clear HW0
    go_wp2_with fail
    refine (walker_any g _ _).mono ?_
    rintro e w1 ⟨rfl, hp, hp2, b1⟩
    have HD1 := Lib.hid (HD0.out.below b1)
    have HP1 := Lib.hid hp
    have HP2 := Lib.hid hp2
    have hs1 : w0.heap.size < w1.heap.size := block_lt_of_cell hp
    have C1 := Lib.hid ((b1.cell (p := ⟨w.heap.size, 0, none⟩) hl0).trans C0.out)
    have F1 := Lib.hid ((b1.frozen (p := ⟨w.heap.size, 0, none⟩) hl0).trans F0.out)
    have B1 := Lib.hid (B0.out.trans (b1.mono B0.out.size))
    obtain ⟨k, hk⟩ : ∃ k, Hid (w.heap.size = k) := ⟨_, Lib.hid rfl⟩
    rw [hk.out] at C1 F1 hgl hl0 B1
    rw [show w.heap.size = k from hk.out]
    clear hp hp2 b1 HD0 C0 F0 B0
    generalize w0.heap.size = p at *
    have HU1 : Hid (∀ d, UnAtD w1.heap.size k w1 (w1.drewN d) (nvL (L.take 0))) := Lib.hid (fun d => ⟨⟨_, C1.out, World.ownsRow_nil _ _ _ _⟩, F1.out, (Kq.drewN (B := k) (L := []) w1 d).below, fun _ _ _ => rfl, Nat.le_refl _⟩)
    have HDP : Hid (∀ w', (∀ j, j < w1.heap.size → j ≠ k → w'.heap[j]? = w1.heap[j]?) → QAt w' g F) := Lib.hid (fun w' ho => HD1.out.block (ho g HD1.out.lt (Nat.ne_of_lt hgl)))
    have CW := Lib.hid (walkL g p (p + 1) 48 m F L (.pointer (some ⟨k, 0, none⟩)) (fun j w' => UnAtD w1.heap.size k w1 w' (nvL (L.take j))) w1 hm HR.out H16.out HD1 HP1 HP2 HU1 list1_enter
      (Lib.hid (fun j hj w' hD' hp' hJ' => by
        have hx : (nvL (L.take j)).length ≤ 1000 := by rw [nvL_length, List.length_take]; omega
        have hv := H16.out L[j] (List.getElem_mem hj)
        exact (list1_any w1.heap.size k L[j] (nvL (L.take j)) w1 w' (by omega) (Lib.hid hJ') hx (by omega)).mono (fun e w'' h => by
          have h2 : UnAtD w1.heap.size k w1 w'' (nvL (L.take (j + 1))) := by rw [nvL_take L j hj]; exact h.2
          refine ⟨h.1, HDP.out _ h2.other, ?_, h2⟩
          have hpb := h.2.other p hs1 (Nat.ne_of_gt hl0)
          exact (World.cell?_of_block (a := ⟨p, 0, none⟩) hpb).trans HP1.out))))
    go_wp2_with fail
    refine (CW.out).mono ?_
    rintro e w2 ⟨rfl, u2⟩
    rw [List.take_length] at u2
    obtain ⟨v, hv, hov⟩ := u2.row
    have HOV := Lib.hid hov
    have HB2 := Lib.hid (B1.out.trans u2.below)
    have HS1 := Lib.hid hs1
    obtain ⟨a', c', rfl⟩ := own_slD hov
    rw [nvL_length] at HOV
    rw [nvL_length] at hv
    clear u2 CW hov HDP HU1
    go_wp2_with fail
    go_ret
    exact ⟨_, _, rfl, by rw [hk.out]; omega, HOV.out, by rw [hk.out]; exact HB2.out⟩
  · rw [decide_eq_false h2] at PL
    rw [if_neg h2]
    clear h2 hQ hO
    go_enter Try.func29, Try.ntmps29
    go_wp2_with fail
    refine (PL.out _).mono ?_
    rintro e w' ⟨rfl, rfl⟩
    go_wp2_with fail
    go_ret
    exact ⟨_, w.heap.size, rfl, Nat.le_refl _, World.ownsRow_nil _ _ _ _, Below.refl _ _⟩
end Go.Proofs.Ytfkepplpeakgmaa
