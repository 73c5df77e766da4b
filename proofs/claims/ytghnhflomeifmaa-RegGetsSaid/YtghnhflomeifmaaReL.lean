/- The law RegPuts: its argument opened. -/
import Derived.Test.YtghnhflomeifmaaReK
import Derived.Test.YtghnhflomeifmaaOpen
import Derived.OpenShut
import Derived.ChangeArms
namespace Go.Proofs.Ytghnhflomeifmaa
open Go.ChangeShapes Go.WideShapes Go.Deep Go.RowKit
set_option linter.unusedVariables false
section
variable {H : Type} {enc : TypeId × Value → H} {P : Program} {w : World}
theorem arr_ints {t e : TypeId} {n fuel : Nat} {k : IntKind} {cs : List Value} {x : DataW H × List MemPlace} (ht : P.underlying t = some (.array n e)) (he : P.underlying e = some (.int k)) (hc : P.cellsOf e = 1)
    (h : DataW.trod enc P w 0 (fun _ => true) true fuel t cs = some x) : ∀ j, j < n → ∃ z, cs[j]? = some (.int k z) ∧ (Lit.int k z).wf = true := by
  obtain ⟨xs, m, _, _, _, hxl, hi⟩ := DataW.trod_array ht h
  intro j hj
  have h1 := hi j hj
  rw [hc, Nat.mul_one, List.getElem?_eq_getElem (by omega)] at h1
  obtain ⟨z, hz, _, hw⟩ := DataW.trod_int he h1
  refine ⟨z, ?_, hw⟩
  have := congrArg (fun l => l[0]?) hz
  simpa [List.getElem?_take, List.getElem?_drop] using this
theorem arr_digests {t d e : TypeId} {fuel : Nat} {cs : List Value} {x : DataW H × List MemPlace} (ht : P.underlying t = some (.array 2 d)) (hd : P.underlying d = some (.array 32 e)) (he : P.underlying e = some (.int .u8)) (hc : P.cellsOf e = 1) (hcd : P.cellsOf d = 32)
    (h : DataW.trod enc P w 0 (fun _ => true) true fuel t cs = some x) : ∀ j, j < 64 → ∃ z, cs[j]? = some (.int .u8 z) ∧ (Lit.int .u8 z).wf = true := by
  obtain ⟨xs, m, _, _, _, hxl, hi⟩ := DataW.trod_array ht h
  intro j hj
  have hq : j / 32 < 2 := by omega
  have h1 := hi (j / 32) hq
  rw [hcd, List.getElem?_eq_getElem (by omega)] at h1
  obtain ⟨z, hz, hw⟩ := arr_ints hd he hc h1 (j % 32) (by omega)
  refine ⟨z, ?_, hw⟩
  rw [List.getElem?_take, if_pos (by omega), List.getElem?_drop, show j / 32 * 32 + j % 32 = j from by omega] at hz
  exact hz
theorem take_get {α : Type} (l : List α) (o n j : Nat) (hj : j < n) : ((l.drop o).take n)[j]? = l[o + j]? := by
  rw [List.getElem?_take, if_pos hj, List.getElem?_drop]
end
def u8at (l : List Value) (j : Nat) : UInt8 := match l[j]? with | some (.int _ z) => UInt8.ofNat z.toNat | _ => 0
def intAt (l : List Value) (j : Nat) : Int := match l[j]? with | some (.int _ z) => z | _ => 0
def boolAt (l : List Value) (j : Nat) : Bool := match l[j]? with | some (.bool b) => b | _ => false
theorem u8_wf {z : Int} (h : (Lit.int .u8 z).wf = true) : ((UInt8.ofNat z.toNat).toNat : Int) = z := by
  have h2 : IntKind.u8.min ≤ z ∧ z ≤ IntKind.u8.max := by simpa [Lit.wf] using h
  rw [show IntKind.u8.min = 0 from by decide, show IntKind.u8.max = 255 from by decide] at h2
  obtain ⟨h3, h4⟩ := h2
  rw [UInt8.toNat_ofNat']
  omega
theorem reg_fields : ∃ f0 f1 f2 f3 f4 f5 f6 f7, Try.prog.underlying 27 = some (.struct #[f0, f1, f2, f3, f4, f5, f6, f7]) ∧ (f0.type = 24 ∧ f0.offset = 0) ∧ (f1.type = 3 ∧ f1.offset = 64) ∧ (f2.type = 3 ∧ f2.offset = 65) ∧ (f3.type = 25 ∧ f3.offset = 66) ∧ (f4.type = 25 ∧ f4.offset = 68) ∧ (f5.type = 3 ∧ f5.offset = 70) ∧ (f6.type = 3 ∧ f6.offset = 71) ∧ (f7.type = 4 ∧ f7.offset = 72) :=
  ⟨_, _, _, _, _, _, _, _, Try.underlying27, ⟨rfl, rfl⟩, ⟨rfl, rfl⟩, ⟨rfl, rfl⟩, ⟨rfl, rfl⟩, ⟨rfl, rfl⟩, ⟨rfl, rfl⟩, ⟨rfl, rfl⟩, ⟨rfl, rfl⟩⟩
section
variable {H : Type} {enc : TypeId × Value → H} {w : World}
theorem one_int {n : Nat} {l : List Value} {o : Nat} {y : Option (DataW H × List MemPlace)} (hy : y ≠ none) (h : DataW.trod enc Try.prog w 0 (fun _ => true) true n 3 ((l.drop o).take (Try.prog.cellsOf 3)) = y) : l[o]? = some (.int .i64 (intAt l o)) := by
  obtain ⟨x, rfl⟩ := Option.ne_none_iff_exists'.1 hy
  obtain ⟨z, hz, _, _⟩ := DataW.trod_int Try.underlying3 h
  have h1 := congrArg (fun l => l[0]?) hz
  rw [show Try.prog.cellsOf 3 = 1 from by kernel_rfl] at h1
  have h2 : l[o]? = some (.int .i64 z) := by simpa [List.getElem?_take, List.getElem?_drop] using h1
  rw [h2]
  unfold intAt
  rw [h2]
theorem two_int {n : Nat} {l : List Value} {o : Nat} {y : Option (DataW H × List MemPlace)} (hy : y ≠ none) (h : DataW.trod enc Try.prog w 0 (fun _ => true) true n 25 ((l.drop o).take (Try.prog.cellsOf 25)) = y) (j : Nat) (hj : j < 2) : l[o + j]? = some (.int .i64 (intAt l (o + j))) := by
  obtain ⟨x, rfl⟩ := Option.ne_none_iff_exists'.1 hy
  obtain ⟨z, hz, _⟩ := arr_ints Try.underlying25 Try.underlying3 (by kernel_rfl) h j hj
  rw [show Try.prog.cellsOf 25 = 2 from by kernel_rfl, take_get _ _ _ _ hj] at hz
  rw [hz]
  unfold intAt
  rw [hz]
theorem open_reg {r : Reach} {b0 : Nat} {v : Value} {d : DataW H} {p : List MemPlace} (hok : Value.okWide Try.prog w r b0 27 v) (h : DataW.Trod enc Try.prog w 0 (fun _ => true) true 27 v d p) : ∃ R : Rg, v = .agg (rcells R) := by
  obtain ⟨f0, f1, f2, f3, f4, f5, f6, f7, hs, ⟨t0, o0⟩, ⟨t1, o1⟩, ⟨t2, o2⟩, ⟨t3, o3⟩, ⟨t4, o4⟩, ⟨t5, o5⟩, ⟨t6, o6⟩, ⟨t7, o7⟩⟩ := reg_fields
  obtain ⟨cs, rfl, hsz⟩ := okWide_struct hs hok
  obtain ⟨l⟩ := cs
  have hl : l.length = 73 := hsz.trans (by kernel_rfl)
  obtain ⟨fuel, hf⟩ := h
  obtain ⟨ys, n', hn', hy, hlen, hyl, hf'⟩ := DataW.trod_struct hs hf
  have e0 : (Value.agg ⟨l⟩).cells.toList = l := by simp [Value.cells]
  rw [e0] at hf'
  have hys : ∀ j, j < 8 → ys[j]? ≠ none := fun j hj => by
    have hyl8 : ys.length = 8 := hyl
    rw [List.getElem?_eq_getElem (by omega)]; simp
  have h0 := hf' 0 f0 rfl
  have h1 := hf' 1 f1 rfl
  have h2 := hf' 2 f2 rfl
  have h3 := hf' 3 f3 rfl
  have h4 := hf' 4 f4 rfl
  have h5 := hf' 5 f5 rfl
  have h6 := hf' 6 f6 rfl
  have h7 := hf' 7 f7 rfl
  rw [t0, o0] at h0
  rw [t1, o1] at h1
  rw [t2, o2] at h2
  rw [t3, o3] at h3
  rw [t4, o4] at h4
  rw [t5, o5] at h5
  rw [t6, o6] at h6
  rw [t7, o7] at h7
  have g0 : ∀ j, j < 64 → l[j]? = some (.int .u8 ((u8at l j).toNat : Int)) := fun j hj => by
    obtain ⟨x, hx⟩ := Option.ne_none_iff_exists'.1 (hys 0 (by omega))
    rw [hx] at h0
    obtain ⟨z, hz, hw⟩ := arr_digests Try.underlying24 Try.underlying23 Try.underlying5 (by kernel_rfl) (by kernel_rfl) h0 j hj
    rw [show Try.prog.cellsOf 24 = 64 from by kernel_rfl, take_get _ _ _ _ hj, Nat.zero_add] at hz
    rw [hz]
    unfold u8at
    rw [hz]
    show _ = some (Value.int .u8 ((UInt8.ofNat z.toNat).toNat : Int))
    rw [u8_wf hw]
  have g1 := one_int (hys 1 (by omega)) h1
  have g2 := one_int (hys 2 (by omega)) h2
  have g3 := two_int (hys 3 (by omega)) h3
  have g4 := two_int (hys 4 (by omega)) h4
  have g5 := one_int (hys 5 (by omega)) h5
  have g6 := one_int (hys 6 (by omega)) h6
  have g7 : l[72]? = some (.bool (boolAt l 72)) := by
    obtain ⟨x, hx⟩ := Option.ne_none_iff_exists'.1 (hys 7 (by omega))
    rw [hx] at h7
    obtain ⟨z, hz, _⟩ := DataW.trod_bool Try.underlying4 h7
    have h1 := congrArg (fun l => l[0]?) hz
    rw [show Try.prog.cellsOf 4 = 1 from by kernel_rfl] at h1
    have h2 : l[72]? = some (.bool z) := by simpa [List.getElem?_take, List.getElem?_drop] using h1
    rw [h2]
    unfold boolAt
    rw [h2]
  refine ⟨⟨fun j => u8at l j, fun j => u8at l (32 + j), intAt l 64, intAt l 65, intAt l 66, intAt l 67, intAt l 68, intAt l 69, intAt l 70, intAt l 71, boolAt l 72⟩, ?_⟩
  congr 1
  refine rcells_ext _ _ hl (fun j hj => ?_)
  rw [List.getElem?_toArray]
  by_cases q0 : j < 32
  · rw [g0 j (by omega)]
    simp only [rcell, if_pos q0]
  by_cases q1 : j < 64
  · rw [g0 j q1]
    simp only [rcell, if_neg q0, if_pos q1]
    rw [show 32 + (j - 32) = j from by omega]
  rcases (show j = 64 ∨ j = 65 ∨ j = 66 ∨ j = 67 ∨ j = 68 ∨ j = 69 ∨ j = 70 ∨ j = 71 ∨ j = 72 by omega) with rfl | rfl | rfl | rfl | rfl | rfl | rfl | rfl | rfl
  · exact g1
  · exact g2
  · exact g3 0 (by omega)
  · exact g3 1 (by omega)
  · exact g4 0 (by omega)
  · exact g4 1 (by omega)
  · exact g5
  · exact g6
  · exact g7
theorem regPuts_walk {r : Reach} {b0 : Nat} (v : Value) (d : DataW H) (p : List MemPlace) (w : World) (hok : Value.okWide Try.prog w r b0 27 v) (h : DataW.Trod enc Try.prog w 0 (fun _ => true) true 27 v d p) :
    Calls Try.prog 3 #[v] w fun e w' => e = .returned (.bool true) ∧ Below w.heap.size w w' := by
  obtain ⟨R, rfl⟩ := open_reg hok h
  by_cases hR : Rt R
  · exact regPuts_yes R w hR
  · exact regPuts_no R w hR
end
end Go.Proofs.Ytghnhflomeifmaa
