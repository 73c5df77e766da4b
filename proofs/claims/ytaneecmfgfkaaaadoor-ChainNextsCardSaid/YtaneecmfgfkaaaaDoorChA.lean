/- Contracts (cellaret): chain.check, gatherer and its closure. -/
import Derived.Test.YtaneecmfgfkaaaaDoorOrY
import Derived.Test.YtaneecmfgfkaaaaDoorDgs
import Derived.Test.YtaneecmfgfkaaaaDoorShf
namespace Go.Proofs.YtaneecmfgfkaaaaDoor
open Go.RowKit Go.Deep Go.Maps
set_option linter.unusedVariables false
set_option linter.unusedSimpArgs false
/-- Texts behind a slice, in a block that is not the oracle's own. -/
def TxtG (w : World) (X : Option OrS) (a : Option Addr) (L : List ByteArray) : Prop := 0 < L.length → ∃ g o, a = some ⟨g, o, none⟩ ∧ g < w.heap.size ∧ FreeX X g ∧ ∀ i (h : i < L.length), w.cell? ⟨g, o + i, none⟩ = some (.string L[i])
theorem TxtG.kept {w w' : World} {X X' : Option OrS} {a : Option Addr} {L : List ByteArray} (h : TxtG w X a L) (hk : KeptX w w' X X') : TxtG w' X' a L := fun h0 => by
  obtain ⟨g, o, h1, h2, h3, h4⟩ := h h0
  exact ⟨g, o, h1, Nat.lt_of_lt_of_le h2 hk.size, hk.free g h2 h3, fun i hi => hk.cell (p := ⟨g, o + i, none⟩) (h4 i hi) h3⟩
/-- May blocks stand behind an anchor? -/
def okB (L : List ByteArray) : Bool := decide (0 < L.length ∧ L.length ≤ 80) && L.all (fun b => b.size == 64)
theorem okB_len (L : List ByteArray) (h : ¬ (0 < L.length ∧ L.length ≤ 80)) : okB L = false := by unfold okB; rw [decide_eq_false h]; rfl
theorem okB_bad (L : List ByteArray) (i : Nat) (hi : i < L.length) (h : (L[i]).size ≠ 64) : okB L = false := by
  unfold okB
  rw [Bool.and_eq_false_iff]
  right
  rw [List.all_eq_false]
  exact ⟨L[i], List.getElem_mem hi, by simpa using h⟩
theorem okB_all (L : List ByteArray) (h : 0 < L.length ∧ L.length ≤ 80) (ha : ∀ i (hi : i < L.length), (L[i]).size = 64) : okB L = true := by
  unfold okB
  rw [decide_eq_true h, Bool.true_and, List.all_eq_true]
  intro b hb
  obtain ⟨i, hi, rfl⟩ := List.getElem_of_mem hb
  simpa using ha i hi
theorem okB_inv (L : List ByteArray) (h : okB L = true) : (0 < L.length ∧ L.length ≤ 80) ∧ ∀ b ∈ L, b.size = 64 := by
  unfold okB at h
  rw [Bool.and_eq_true, decide_eq_true_eq, List.all_eq_true] at h
  exact ⟨h.1, fun b hb => by simpa using h.2 b hb⟩
def erB (L : List ByteArray) : Int := if okB L = true then 0 else 6
set_option maxRecDepth 100000 in
set_option maxHeartbeats 1000000 in
theorem check_any (L : List ByteArray) (la : Option Addr) (n c : Nat) (w : World) (hn : L.length = n) (hm : n ≤ 9223372036854775807) (hT : Hid (0 < L.length → ∃ g o, la = some ⟨g, o, none⟩ ∧ ∀ i (h : i < L.length), w.cell? ⟨g, o + i, none⟩ = some (.string L[i]))) :
    Calls Tryd.prog 38 #[.slice la n c] w fun e w' => e = .returned (.int .i64 (erB L)) ∧ w = w' := by
  by_cases h0 : n = 0
  · subst h0
    have he : erB L = 6 := by unfold erB; rw [if_neg (by rw [okB_len L (by omega)]; simp)]
    rw [he]
    clear hn hT he
    go_enter Tryd.func38, Tryd.ntmps38
    go_wp2_with fail
    go_ret
    exact ⟨rfl, rfl⟩
  · by_cases h80 : 80 < n
    · have he : erB L = 6 := by unfold erB; rw [if_neg (by rw [okB_len L (by omega)]; simp)]
      rw [he]
      have e0 : ((n : Int) == 0) = false := by rw [beq_eq_false_iff_ne]; omega
      have e1 : (80 : Int) < (n : Int) := by omega
      clear hn hT he h0
      go_enter Tryd.func38, Tryd.ntmps38
      go_wp2_with fail
      go_ret
      exact ⟨rfl, rfl⟩
    · have e0 : ((n : Int) == 0) = false := by rw [beq_eq_false_iff_ne]; omega
      have e1 : ¬ (80 : Int) < (n : Int) := by omega
      have hpos : 0 < n := by omega
      obtain ⟨g, o, rfl, hc⟩ := hT.out (by omega)
      have HC := Lib.hid hc
      have HN := Lib.hid hn
      have HB := Lib.hid (okB_bad L)
      have HA := Lib.hid (okB_all L)
      have HE : Hid (erB L = if okB L = true then 0 else 6) := Lib.hid rfl
      clear hc hn hT h0
      generalize erB L = er at *
      go_enter Tryd.func38, Tryd.ntmps38
      go_wp2_with fail
      go_loop [15] (fun x => ∃ k : Nat, x = .int .i64 (k : Int) ∧ k ≤ n ∧ Hid (∀ i (hi : i < L.length), i < k → (L[i]).size = 64)) (fun x => n - (intOf x).toNat)
      case atStart => exact ⟨0, rfl, by omega, Lib.hid (fun i hi h => absurd h (by omega))⟩
      case round =>
        obtain ⟨k, rfl, hk, HK⟩ := hrel
        by_cases hlt : k < n
        · have hkL : k < L.length := by rw [HN.out]; exact hlt
          have c0 := HC.out k hkL
          have hli : (k : Int) < (n : Int) := by omega
          by_cases hs : (L[k]).size = 64
          · have HK2 : Hid (∀ i (hi : i < L.length), i < k + 1 → (L[i]).size = 64) := Lib.hid (fun i hi h => by
              by_cases e : i = k
              · subst e; exact hs
              · exact HK.out i hi (by omega))
            have ht : (((L[k]).size : Int) != 64) = false := by simp; omega
            clear hs
            generalize (L[k]'hkL) = b at *
            go_wp2_with fail
            go_round
            case rel => exact ⟨k + 1, by go_num, by omega, HK2⟩
            case measure => simp [intOf]; omega
          · have ht : (((L[k]).size : Int) != 64) = true := by simp; omega
            have hE : er = 6 := by rw [HE.out, if_neg (by rw [HB.out k hkL hs]; simp)]
            subst hE
            clear hs
            generalize (L[k]'hkL) = b at *
            go_wp2_with fail
            go_ret
            exact ⟨rfl, rfl⟩
        · obtain rfl : k = n := by omega
          have hE : er = 0 := by rw [HE.out, if_pos (HA.out ⟨by rw [HN.out]; omega, by rw [HN.out]; omega⟩ (fun i hi => HK.out i hi (by rw [← HN.out]; exact hi)))]
          subst hE
          go_wp2_with fail
          go_ret
          exact ⟨rfl, rfl⟩
set_option maxRecDepth 100000 in
set_option maxHeartbeats 1000000 in
theorem gatherer_any (o : Option Addr) (D : Array Value) (w : World) : Calls Tryd.prog 39 #[.pointer o, .agg D] w fun e w' => e = .returned (.func (.func 51) #[] #[.pointer (some ⟨w.heap.size, 0, none⟩), .pointer (some ⟨w.heap.size + 1, 0, none⟩)]) ∧ w'.cell? ⟨w.heap.size, 0, none⟩ = some (.pointer o) ∧ w'.heap[w.heap.size + 1]? = some (.cells D 34 (0, 0)) ∧ Below w.heap.size w w' ∧ w'.heap.size = w.heap.size + 2 := by
  have hs : ∀ x : Obj, (w.alloc x).heap.size = w.heap.size + 1 := fun x => by simp
  have hnew := heap_alloc_new (w.alloc (.cells #[.pointer o] 23)) (.cells D 34)
  rw [hs] at hnew
  have HNW := Lib.hid hnew
  clear hnew hs
  go_enter Tryd.func39, Tryd.ntmps39
  go_wp2_with fail
  go_ret
  exact ⟨rfl, by simp [go_sem], HNW.out, ((Below.refl _ _).alloc (Nat.le_refl _) _).alloc (by simp) _, by simp⟩
end Go.Proofs.YtaneecmfgfkaaaaDoor
