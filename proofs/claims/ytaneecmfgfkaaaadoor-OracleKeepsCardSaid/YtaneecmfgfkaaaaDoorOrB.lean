/- The oracle: what it is in memory; New; a nil one. -/
import Derived.Test.YtaneecmfgfkaaaaDoorOrA
import Derived.Maps.OwnOps
import Derived.Carry
import Derived.Laws.ResultCell
import Derived.Below
namespace Go.Proofs.YtaneecmfgfkaaaaDoor
open Go.RowKit Go.Deep Go.Maps
set_option linter.unusedVariables false
set_option linter.unusedSimpArgs false
theorem lawS : Keyed Tryd.prog 9 := string_keyed Tryd.underlying9
theorem zeroI (w : World) : (zeroValue 3).run Tryd.prog w = .ok (.int .i64 0) w := by kernel_rfl
theorem zero_or : ∀ w, (zeroValue 70).run Tryd.prog w = .ok (.agg #[.slice none 0 0, .slice none 0 0, .map none]) w := fun w => by kernel_rfl
theorem Gl.at_ {w w' : World} {base : Nat} (h : Gl w) (hb : Below base w w') (h1 : 0 < base) (h2 : 1 < base) : Gl w' :=
  ⟨fun j v hv => (hb.cell (p := ⟨0, 0 + j, none⟩) h1).trans (h.f j v hv), fun j v hv => (hb.cell (p := ⟨1, 0 + j, none⟩) h2).trans (h.k j v hv), Nat.lt_of_lt_of_le h.sf hb.size, Nat.lt_of_lt_of_le h.sk hb.size⟩
/-- An oracle that keeps texts. -/
structure OrP (base : Nat) (w : World) (g : Nat) (l : List (List UInt8)) (tv sv : Value) (b : Nat) (D : DataW Unit) : Prop where
  hb : base ≤ g
  hg : w.heap[g]? = some (.cells #[tv, sv, .map (some b)] 70 (0, 0))
  ht : w.ownsRow base 9 1 tv l.length (l.map fun x => Value.string ⟨x.toArray⟩)
  hs : w.ownsRow base 34 32 sv l.length (l.flatMap fun x => bv (sumL x))
  hm : w.ownsMap Tryd.prog 9 (plainElem Tryd.prog 3) b l.length D
  hbb : base ≤ b
  ix : Idx D l
  nd : l.Nodup
theorem OrP.below {base : Nat} {w w' : World} {g : Nat} {l : List (List UInt8)} {tv sv : Value} {b : Nat} {D : DataW Unit} (h : OrP base w g l tv sv b D) (hb : Below w.heap.size w w') : OrP base w' g l tv sv b D :=
  ⟨h.hb, (hb.block g (Array.getElem?_eq_some_iff.1 h.hg).1).trans h.hg, own_below' h.ht hb, own_below' h.hs hb, by
    obtain ⟨es, clock, hb0, F, hs, hD⟩ := h.hm
    exact ⟨es, clock, (hb.block b (Array.getElem?_eq_some_iff.1 hb0).1).trans hb0, F, hs, hD⟩, h.hbb, h.ix, h.nd⟩
set_option maxRecDepth 100000 in
set_option maxHeartbeats 1000000 in
theorem orNew_any (base : Nat) (w : World) (hb : base ≤ w.heap.size) : Calls Tryd.prog 9 #[] w fun e w' => e = .returned (.pointer (some ⟨w.heap.size + 1, 0, none⟩)) ∧ OrP base w' (w.heap.size + 1) [] (.slice none 0 0) (.slice none 0 0) w.heap.size (.map []) ∧ Below w.heap.size w w' := by
  have hmm := @run_makeMap Tryd.prog
  have hz := zero_or
  go_enter Tryd.func9, Tryd.ntmps9
  go_wp2
  go_ret
  have hsz : (w.alloc (.map #[] 0)).heap.size = w.heap.size + 1 := by simp
  refine ⟨rfl, ⟨by omega, ?_, World.ownsRow_nil _ _ _ _, World.ownsRow_nil _ _ _ _, (World.ownsMap_made w Tryd.prog 9 _).alloc _, hb, Idx.nil, List.nodup_nil⟩, ((Below.refl _ _).alloc (Nat.le_refl _) _).alloc (by simp) _⟩
  have := heap_alloc_new (w.alloc (.map #[] 0)) (.cells #[.slice none 0 0, .slice none 0 0, .map (some w.heap.size)] 70)
  rw [hsz] at this
  exact this
set_option maxRecDepth 100000 in
set_option maxHeartbeats 1000000 in
theorem orSum_nil (s : ByteArray) (w : World) (hG : Gl w) (hn : s.size ≤ 1125899906842000) : Calls Tryd.prog 13 #[.pointer none, .string s] w fun e w' => e = .returned (.agg (digA (sumL s.data.toList))) ∧ Below w.heap.size w w' := by
  have hz := zero_dig
  have HS := Lib.hid (fun w hw => sum_any s w hn hw)
  obtain ⟨hsz, hone⟩ := dig_ok (sumV s.data.toList)
  have hsl : layV (sumV s.data.toList) = sumL s.data.toList := rfl
  rw [hsl] at hsz hone
  clear hsl
  generalize hDG : digA (sumL s.data.toList) = D at *
  clear hDG
  go_enter Tryd.func13, Tryd.ntmps13
  go_upto_region 1 with fail
  obtain ⟨w1, HW1, hr1, B1⟩ : ∃ w1, Hid (w.alloc (.cells z32 34) = w1) ∧ w1.heap[w.heap.size]? = some (.cells z32 34 (0, 0)) ∧ Below w.heap.size w w1 := ⟨_, Lib.hid rfl, heap_alloc_new _ _, (Below.refl _ _).alloc (Nat.le_refl _) _⟩
  rw [HW1.out]
  clear HW1
  go_wp2_with fail
  refine (HS.out w1 (hG.below B1)).mono ?_
  rintro e w3 ⟨rfl, b3⟩
  have hr3 : w3.heap[w.heap.size]? = some (.cells z32 34 (0, 0)) := (b3.block _ (Array.getElem?_eq_some_iff.1 hr1).1).trans hr1
  have B3 := B1.trans (b3.mono B1.size)
  clear b3 hr1
  go_wp2_with (refine wpList_store_row rfl _ _ _ rfl w.heap.size D rfl rfl 34 _ hr3 (by rw [hsz]; kernel_rfl) (by rw [hsz]; rfl) hone ?_)
  refine bodyPost_ret_by (results_cell_row rfl _ _ w.heap.size 34 D (0, 0) _ rfl (setRow_heap _ _ _ D 34 (0, 0) hr3) Tryd.underlying34 rfl (by rw [hsz]; kernel_rfl)) rfl ⟨rfl, ?_⟩
  exact below_setRow B3 (Nat.le_refl _) _
theorem orLen_nil (w : World) : Calls Tryd.prog 15 #[.pointer none] w fun e w' => e = .returned (.int .i64 0) ∧ w = w' := by
  go_enter Tryd.func15, Tryd.ntmps15
  go_wp2
  go_ret
  exact ⟨rfl, rfl⟩
theorem orForget_nil (s : ByteArray) (w : World) : Calls Tryd.prog 11 #[.pointer none, .string s] w fun e w' => e = .returned (.int .i64 1) ∧ w = w' := by
  go_enter Tryd.func11, Tryd.ntmps11
  go_wp2
  go_ret
  exact ⟨rfl, rfl⟩
theorem orCollide_nil (w : World) : Calls Tryd.prog 18 #[.pointer none] w fun e w' => e = .returned (.tuple #[.string ⟨#[]⟩, .string ⟨#[]⟩, .bool false]) ∧ w = w' := by
  go_enter Tryd.func18, Tryd.ntmps18
  go_wp2
  go_ret3
  exact ⟨rfl, rfl⟩
theorem results_tct {P : Program} {fn : Func} {p q u : Tmp} {ty : TypeId} (h : fn.results = #[.tmp q, .cell p ty, .tmp u]) (tmps : Array Value) (w : World) (g : Nat) (t : TypeId) (cs : Array Value) (fr : Nat × Nat) (d : TypeDesc)
    (hp : tmps.getD p undef = .pointer (some ⟨g, 0, none⟩)) (hg : w.heap[g]? = some (.cells cs t fr))
    (hu : P.underlying ty = some d) (hd : (match d with | .struct _ | .array _ _ => true | _ => false) = true) (hi : (P.info? ty).map (·.size) = some cs.size) :
    (results fn tmps).run P w = .ok (.tuple #[tmps.getD q undef, .agg cs, tmps.getD u undef]) w := by
  have hp' : tmps[p]?.getD undef = .pointer (some ⟨g, 0, none⟩) := by simpa using hp
  unfold results
  simp [h, hp', asAddr, run_loadVar_row w g t ty cs fr d hg hu hd hi, Result.andThen]
theorem z32_one : z32.all (·.oneCell') = true := by simp [z32, Value.oneCell']
set_option maxRecDepth 100000 in
set_option maxHeartbeats 1000000 in
theorem orInput_nil (i : Int) (w : World) : Calls Tryd.prog 16 #[.pointer none, .int .i64 i] w fun e w' => e = .returned (.tuple #[.string ⟨#[]⟩, .agg z32, .int .i64 1]) ∧ Below w.heap.size w w' := by
  have hz := zero_dig
  go_enter Tryd.func16, Tryd.ntmps16
  go_upto_region 1 with fail
  obtain ⟨w1, HW1, hr1, B1⟩ : ∃ w1, Hid (w.alloc (.cells z32 34) = w1) ∧ w1.heap[w.heap.size]? = some (.cells z32 34 (0, 0)) ∧ Below w.heap.size w w1 := ⟨_, Lib.hid rfl, heap_alloc_new _ _, (Below.refl _ _).alloc (Nat.le_refl _) _⟩
  rw [HW1.out]
  clear HW1
  go_wp2_with (refine wpList_store_row rfl _ _ _ rfl w.heap.size z32 rfl rfl 34 _ hr1 (by kernel_rfl) rfl z32_one ?_)
  refine bodyPost_ret_by (results_tct rfl _ _ w.heap.size 34 z32 (0, 0) _ rfl (setRow_heap _ _ _ z32 34 (0, 0) hr1) Tryd.underlying34 rfl (by kernel_rfl)) rfl ⟨rfl, ?_⟩
  exact below_setRow B1 (Nat.le_refl _) _
end Go.Proofs.YtaneecmfgfkaaaaDoor
