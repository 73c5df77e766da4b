/- The law ViewDiffers: its parts, plainly; its argument opened. -/
import Derived.Test.YtapmnacggpcffaaVwL
import Derived.Test.YtapmnacggpcffaaOpenR
import Derived.OpenShut
import Derived.ChangeArms
namespace Go.Proofs.Ytapmnacggpcffaa
open Go.ChangeShapes Go.WideShapes Go.Deep Go.RowKit
set_option linter.unusedVariables false
set_option linter.unusedSimpArgs false
theorem difL_nil {a b : ByteArray} {slow : Bool} (h : ∀ i, i < 288 → partP a slow i = partP b slow i) : difL a b slow 288 = [] := by
  unfold difL
  rw [List.map_eq_nil_iff, List.filter_eq_nil_iff]
  intro i hi
  unfold difP
  rw [h i (List.mem_range.1 hi)]
  simp
theorem difL_self (a : ByteArray) (slow : Bool) : difL a a slow 288 = [] := difL_nil (fun _ _ => rfl)
def othB (a c : ByteArray) : ByteArray := a.extract 0 32 ++ c ++ a.extract 64 18432
theorem othB_size {a c : ByteArray} (ha : a.size = 18432) (hc : c.size = 32) : (othB a c).size = 18432 := by
  unfold othB
  rw [ByteArray.size_append, ByteArray.size_append, ByteArray.size_extract, ByteArray.size_extract]
  omega
theorem oth_list {a c : ByteArray} : (othB a c).data.toList = (a.data.toList.take 32 ++ c.data.toList) ++ (a.data.toList.drop 64).take (18432 - 64) := by
  unfold othB
  rw [ByteArray.data_append, ByteArray.data_append, Array.toList_append, Array.toList_append, ByteArray.data_extract, ByteArray.data_extract, Array.toList_extract, Array.toList_extract, List.extract_eq_take_drop, List.extract_eq_take_drop, List.drop_zero, Nat.sub_zero]
theorem oth_get {a c : ByteArray} (ha : a.size = 18432) (hc : c.size = 32) (k : Nat) (hk : k < 18432) (h : k < 32 ∨ 64 ≤ k) : (othB a c).data.toList[k]? = a.data.toList[k]? := by
  have hal : a.data.toList.length = 18432 := by rw [Array.length_toList]; exact ha
  have hcl : c.data.toList.length = 32 := by rw [Array.length_toList]; exact hc
  rw [oth_list]
  rcases h with h | h
  · rw [List.append_assoc, List.getElem?_append_left (by rw [List.length_take]; omega), List.getElem?_take, if_pos h]
  · rw [List.getElem?_append_right (by rw [List.length_append, List.length_take]; omega), List.getElem?_take, if_pos (by rw [List.length_append, List.length_take]; omega), List.getElem?_drop, List.length_append, List.length_take]
    congr 1
    omega
theorem ext_get (s : ByteArray) (a b i : Nat) : (s.extract a b).data.toList[i]? = if i < b - a then s.data.toList[a + i]? else none := by
  rw [ByteArray.data_extract, Array.toList_extract, List.extract_eq_take_drop, List.getElem?_take]
  by_cases h : i < b - a
  · rw [if_pos h, if_pos h, List.getElem?_drop]
  · rw [if_neg h, if_neg h]
theorem oth_part {a c : ByteArray} (ha : a.size = 18432) (hc : c.size = 32) (i : Nat) (hi : i < 288) : partP a true i = partP (othB a c) true i := by
  unfold partP
  by_cases h0 : i = 0
  · subst h0
    rw [if_pos ⟨rfl, rfl⟩, if_pos ⟨rfl, rfl⟩]
    apply ba_eq33
    apply List.ext_getElem?
    intro k
    rw [ext_get, ext_get]
    by_cases hk : k < 32 - 0
    · rw [if_pos hk, if_pos hk]
      unfold blkP
      rw [ext_get, ext_get, if_pos (by omega), if_pos (by omega), oth_get ha hc _ (by omega) (by omega)]
    · rw [if_neg hk, if_neg hk]
  · rw [if_neg (fun h => h0 h.2), if_neg (fun h => h0 h.2)]
    unfold blkP
    apply ba_eq33
    apply List.ext_getElem?
    intro k
    rw [ext_get, ext_get]
    by_cases hk : k < (i + 1) * 64 - i * 64
    · rw [if_pos hk, if_pos hk, oth_get ha hc _ (by omega) (by omega)]
    · rw [if_neg hk, if_neg hk]
theorem difL_oth {a c : ByteArray} (ha : a.size = 18432) (hc : c.size = 32) : difL a (othB a c) true 288 = [] := difL_nil (fun i hi => oth_part ha hc i hi)
/-- The box of the argument. -/
structure BxS (w : World) (gx : Nat) (l m : Value) (slow : Bool) (ck : List Value) : Prop where
  lt : gx < w.heap.size
  c0 : w.cell? ⟨gx, 0, none⟩ = some l
  c1 : w.cell? ⟨gx, 1, none⟩ = some m
  c2 : w.cell? ⟨gx, 2, none⟩ = some (.bool slow)
  rg : w.rangeAt gx 3 ck
theorem BxS.below {w w' : World} {gx N : Nat} {l m : Value} {slow : Bool} {ck : List Value} (h : BxS w gx l m slow ck) (b : Below N w w') (hN : gx < N) : BxS w' gx l m slow ck :=
  ⟨Nat.lt_of_lt_of_le h.lt b.size, (b.cell (p := ⟨gx, 0, none⟩) hN).trans h.c0, (b.cell (p := ⟨gx, 1, none⟩) hN).trans h.c1, (b.cell (p := ⟨gx, 2, none⟩) hN).trans h.c2, fun j u hu => (b.cell (p := ⟨gx, 3 + j, none⟩) hN).trans (h.rg j u hu)⟩
def ckC (f : Nat → UInt8) : List Value := (List.range 32).map fun j => .int .u8 ((f j).toNat : Int)
theorem ckC_len (f : Nat → UInt8) : (ckC f).length = 32 := by unfold ckC; rw [List.length_map, List.length_range]
theorem ckC_one (f : Nat → UInt8) : (ckC f).toArray.all (·.oneCell') = true := by
  rw [List.all_toArray, List.all_eq_true]
  intro u hu
  unfold ckC at hu
  rw [List.mem_map] at hu
  obtain ⟨b, _, rfl⟩ := hu
  rfl
theorem ck_size (f : Nat → UInt8) : (Try.prog.info? 36).map (·.size) = some (ckC f).length := by rw [ckC_len]; kernel_rfl
end Go.Proofs.Ytapmnacggpcffaa
