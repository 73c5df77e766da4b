/- Package plan: changer and what it gives. -/
import Derived.Test.YtnlgkhggokloeaaPlK
namespace Go.Proofs.Ytnlgkhggokloeaa
open Go.RowKit Go.Deep
set_option linter.unusedVariables false
set_option linter.unusedSimpArgs false
def e288 : Array Value := Array.replicate 288 (.string ⟨#[]⟩)
theorem e288_size : e288.size = 288 := by unfold e288; rw [Array.size_replicate]
theorem e288_get (i : Nat) (hi : i < 288) : e288[i]? = some (.string ⟨#[]⟩) := by unfold e288; rw [Array.getElem?_replicate, if_pos hi]
set_option maxRecDepth 100000 in
theorem zero_288 : ∀ w, (zeroValue 70).run Try.prog w = .ok (.agg e288) w := fun w => by kernel_rfl
/-- A row of 288 texts. -/
def BlAt (w : World) (b : Nat) (F : Nat → ByteArray) : Prop := w.rowIs b 70 288 (fun j => .string (F j))
def upB (F : Nat → ByteArray) (k : Nat) (s : ByteArray) : Nat → ByteArray := fun j => if j = k then s else F j
theorem upB_val (F : Nat → ByteArray) (k : Nat) (s : ByteArray) : (fun j => Value.string (upB F k s j)) = (fun j => if j = k then Value.string s else Value.string (F j)) := by
  funext j
  unfold upB
  split <;> rfl
attribute [local irreducible] e288
set_option maxRecDepth 100000 in
set_option maxHeartbeats 4000000 in
theorem changer_any (s : ByteArray) (w : World) (hs : s.size = 18432) : Calls Try.prog 28 #[.string s] w fun e w' => ∃ b, e = .returned (.tuple #[.func (.func 34) #[] #[.pointer (some ⟨b, 0, none⟩)], .func (.func 35) #[] #[.pointer (some ⟨b, 0, none⟩)]]) ∧ w.heap.size ≤ b ∧ BlAt w' b (blkP s) ∧ Below w.heap.size w w' := by
  have hz := zero_288
  obtain ⟨w1, hw1⟩ : ∃ w1, w.alloc (.cells e288 70) = w1 := ⟨_, rfl⟩
  have B1 : Below w.heap.size w w1 := by rw [← hw1]; exact (Below.refl _ _).alloc (Nat.le_refl _) _
  have HR1 : Hid (BlAt w1 w.heap.size (fun _ => ⟨#[]⟩)) := Lib.hid (by
    rw [← hw1]
    exact ⟨e288, heap_alloc_new _ _, e288_size, fun i hi => e288_get i hi⟩)
  have HW1 := Lib.hid hw1
  have HB1 := Lib.hid B1
  obtain ⟨N, hN⟩ : ∃ N, Hid (w.heap.size = N) := ⟨_, Lib.hid rfl⟩
  rw [hN.out] at HR1 HB1 ⊢
  clear hw1 B1
  go_enter Try.func28, Try.ntmps28
  go_upto_region 2 with fail
  rw [HW1.out, hN.out]
  clear HW1 hz
  go_wp2_with fail
  go_loopw [6] (fun s6 wi => ∃ (i : Nat) (F : Nat → ByteArray), s6 = .int .i64 (i : Int) ∧ i ≤ 288 ∧ Hid (BlAt wi N F) ∧ Hid (∀ j, j < i → F j = blkP s j) ∧ Hid (Below N w wi)) (fun s6 _ => 288 - (intOf s6).toNat)
  case atStart => exact ⟨0, _, rfl, by omega, HR1, Lib.hid (fun j h => absurd h (by omega)), HB1⟩
  case round =>
    obtain ⟨i, F, rfl, hi, HR, HF, HB⟩ := hrel
    by_cases hlt : i < 288
    · as_aux_lemma =>
      have hli : (i : Int) < 288 := by omega
      have CB := Lib.hid (block_any s i wr hs hlt)
      have hf := World.rowIs.frozen HR.out i
      have HR2 : Hid (∀ t, BlAt (wr.setCell ⟨N, i, none⟩ (.string t)) N (upB F i t)) := Lib.hid (fun t => by unfold BlAt; rw [upB_val]; exact World.rowIs.set HR.out i _)
      have HB2 : Hid (∀ t, Below N w (wr.setCell ⟨N, i, none⟩ (.string t))) := Lib.hid (fun t => HB.out.setCell (p := ⟨N, i, none⟩) (Nat.le_refl _) _)
      have hcell := World.rowIs.cell HR.out hlt
      go_wp2_with fail
      refine CB.out.mono ?_
      rintro e w2 ⟨rfl, rfl⟩
      have HF2 : Hid (∀ j, j < i + 1 → upB F i (blkP s i) j = blkP s j) := Lib.hid (fun j hj => by
        unfold upB
        split
        · rename_i e; rw [e]
        · exact HF.out j (by omega))
      clear CB
      go_wp2_with fail
      go_roundw
      case rel => exact ⟨i + 1, _, by go_num, by omega, Lib.hid (HR2.out _), HF2, Lib.hid (HB2.out _)⟩
      case measure => simp [intOf]; omega
    · as_aux_lemma =>
      have hli : ¬ (i : Int) < 288 := by omega
      have HX : Hid (BlAt wr N (blkP s)) := Lib.hid (by
        obtain ⟨c, h1, h2, h3⟩ := HR.out
        exact ⟨c, h1, h2, fun j hj => by rw [h3 j hj]; show some (Value.string (F j)) = _; rw [HF.out j (by omega)]⟩)
      go_wp2_with fail
      go_ret2
      exact ⟨N, rfl, Nat.le_refl _, HX.out, HB.out⟩
set_option maxRecDepth 100000 in
set_option maxHeartbeats 4000000 in
theorem lay_any (N b k : Nat) (t : ByteArray) (F : Nat → ByteArray) (w : World) (hb : BlAt w b F) (hk : k < 288) (hN : N ≤ b) : Calls Try.prog 34 #[putV ((k : Int), t), .pointer (some ⟨b, 0, none⟩)] w fun e w' => e = .returned (.tuple #[]) ∧ BlAt w' b (upB F k t) ∧ Below N w w' := by
  unfold putV
  have hlt := World.rowIs.lt hb
  have hne : b ≠ w.heap.size := by omega
  obtain ⟨w1, hw1⟩ : ∃ w1, w.alloc (.cells #[.int .i64 (k : Int), .string t] 48) = w1 := ⟨_, rfl⟩
  have B1 : Below N w w1 := by rw [← hw1]; exact (Below.refl _ _).alloc (by omega) _
  have x0 : w1.cell? ⟨w.heap.size, 0, none⟩ = some (.int .i64 (k : Int)) := by rw [← hw1]; exact World.cell?_alloc_at _ _ _ _ rfl
  have x1 : w1.cell? ⟨w.heap.size, 1, none⟩ = some (.string t) := by rw [← hw1]; exact World.cell?_alloc_at _ _ _ _ rfl
  have HR1 : BlAt w1 b F := by rw [← hw1]; exact World.rowIs.alloc hb _
  have hf := World.rowIs.frozen HR1 k
  have hcell := World.rowIs.cell HR1 hk
  have HR2 : Hid (BlAt (w1.setCell ⟨b, k, none⟩ (.string t)) b (upB F k t)) := Lib.hid (by unfold BlAt; rw [upB_val]; exact World.rowIs.set HR1 k _)
  have HB2 : Hid (Below N w (w1.setCell ⟨b, k, none⟩ (.string t))) := Lib.hid (B1.setCell (p := ⟨b, k, none⟩) hN _)
  have hki : (k : Int) < 288 := by omega
  have HW1 := Lib.hid hw1
  clear hw1 B1 HR1 hb
  go_enter Try.func34, Try.ntmps34
  go_upto_region 1 with fail
  rw [HW1.out]
  go_wp2_with fail
  go_end0
  exact ⟨rfl, HR2.out, HB2.out⟩
theorem lay_enter (args : Array Value) (w : World) : (callFunc 34 args).run Try.prog w = .ok (.enter 34 args) w := by go_simp
theorem told_enter (args : Array Value) (w : World) : (callFunc 35 args).run Try.prog w = .ok (.enter 35 args) w := by go_simp
/-- All texts, one behind the other. -/
def catL (F : Nat → ByteArray) : List UInt8 := (List.range 288).flatMap (fun j => (F j).data.toList)
def catF (F : Nat → ByteArray) : ByteArray := ⟨(catL F).toArray⟩
theorem join_flat : ∀ L : List (List UInt8), Lib.join L [] = L.flatten
  | [] => rfl
  | [x] => by simp [Lib.join]
  | x :: y :: r => by
    have ih := join_flat (y :: r)
    simp [Lib.join] at ih ⊢
    rw [ih]
set_option maxRecDepth 100000 in
set_option maxHeartbeats 4000000 in
theorem told_any (b : Nat) (F : Nat → ByteArray) (w : World) (hb : BlAt w b F) (hz : ∀ j, j < 288 → (F j).size = 64) : Calls Try.prog 35 #[.pointer (some ⟨b, 0, none⟩)] w fun e w' => e = .returned (.string (catF F)) ∧ Below w.heap.size w w' := by
  have hlt := World.rowIs.lt hb
  have hcells : ∀ (j : Nat) x, ((List.range 288).map F)[j]? = some x → w.cell? ⟨b, 0 + j, none⟩ = some (.string x) := fun j x hx => by
    rw [List.getElem?_map] at hx
    by_cases hj : j < 288
    · rw [List.getElem?_range hj] at hx
      injection hx with hx
      rw [Nat.zero_add, ← hx]
      exact World.rowIs.cell hb hj
    · rw [List.getElem?_eq_none (by rw [List.length_range]; omega)] at hx
      cases hx
  have hjoin : Lib.join (((List.range 288).map F).map (·.data.toList)) [] = catL F := by
    rw [join_flat, List.map_map]; unfold catL; rw [List.flatMap_def]; rfl
  have hlen : (catL F).length ≤ 140737488355328 := by
    unfold catL
    rw [List.length_flatMap]
    have : ∀ n, n ≤ 288 → (List.map (fun j => ((F j).data.toList).length) (List.range n)).sum = n * 64 := by
      intro n
      induction n with
      | zero => intro _; rfl
      | succ n ih =>
        intro hn
        rw [List.range_succ, List.map_append, List.sum_append, ih (by omega)]
        have := hz n (by omega)
        rw [List.map_cons, List.map_nil, List.sum_cons, List.sum_nil, show ((F n).data.toList).length = (F n).size from Array.length_toList]
        omega
    rw [this 288 (Nat.le_refl _)]; omega
  have CJ := Try.strings_Join b 0 288 ((List.range 288).map F) ⟨#[]⟩ w hcells hlt (by rw [List.length_map, List.length_range]; omega) (by rw [List.length_map, List.length_range]; omega) (by
    show (Lib.join (((List.range 288).map F).map (·.data.toList)) []).length ≤ _
    rw [hjoin]; exact hlen)
  have CJ2 : Hid (Calls Try.prog 36 #[.slice (some ⟨b, 0, none⟩) 288 288, .string ⟨#[]⟩] w fun e w' => e = .returned (.string (catF F)) ∧ Below w.heap.size w w') := Lib.hid (by
    have e1 : ((List.range 288).map F).length = 288 := by rw [List.length_map, List.length_range]
    rw [e1] at CJ
    refine CJ.mono ?_
    rintro e w' ⟨rfl, h⟩
    refine ⟨?_, h⟩
    show Ending.returned (.string ⟨(Lib.join (((List.range 288).map F).map (·.data.toList)) []).toArray⟩) = _
    rw [hjoin]; rfl)
  clear CJ hjoin hlen hcells hz
  go_enter Try.func35, Try.ntmps35
  go_wp2_with fail
  refine CJ2.out.mono ?_
  rintro e w2 ⟨rfl, h2⟩
  go_wp2_with fail
  go_ret
  exact ⟨rfl, h2⟩
end Go.Proofs.Ytnlgkhggokloeaa
