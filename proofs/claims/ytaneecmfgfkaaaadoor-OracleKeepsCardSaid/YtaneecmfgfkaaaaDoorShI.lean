/- Contracts (cellaret): sha.Sum. -/
import Derived.Test.YtaneecmfgfkaaaaDoorShH
import Derived.Lib.ConvBytes
namespace Go.Proofs.YtaneecmfgfkaaaaDoor
open Go.RowKit Go.Deep
set_option linter.unusedVariables false
set_option linter.unusedSimpArgs false
/-- What the package's variables hold. -/
structure Gl (w : World) : Prop where
  f : w.rangeAt 0 0 (vL v0)
  k : w.rangeAt 1 0 kL
  sf : 0 < w.heap.size
  sk : 1 < w.heap.size
theorem range_below {w w' : World} {g o : Nat} {cs : List Value} (h : w.rangeAt g o cs) (hb : Below w.heap.size w w') (hg : g < w.heap.size) : w'.rangeAt g o cs := fun j v hv => (hb.cell (p := ⟨g, o + j, none⟩) hg).trans (h j v hv)
theorem Gl.below {w w' : World} (h : Gl w) (hb : Below w.heap.size w w') : Gl w' := ⟨range_below h.f hb h.sf, range_below h.k hb h.sk, Nat.lt_of_lt_of_le h.sf hb.size, Nat.lt_of_lt_of_le h.sk hb.size⟩
theorem conv_sb (s : ByteArray) (w : World) (hs : s.size ≤ 1125899906842624) : ∃ cap w', Hid ((convert 9 65 (.string s)).run Tryd.prog w = .ok (.slice (some ⟨w.heap.size, 0, none⟩) s.size cap) w') ∧ s.size ≤ cap ∧ cap ≤ 9223372036854775807 ∧ w'.rangeAt w.heap.size 0 (bv s.data.toList) ∧ Below w.heap.size w w' ∧ w'.heap.size = w.heap.size + 1 := by
  refine ⟨_, _, Lib.hid (Lib.run_convert_string_bytes (P := Tryd.prog) w 9 65 5 s Tryd.underlying9 Tryd.underlying65 Tryd.underlying5), grownCap_ge _ _ _ _, ?_, ?_, ?_, Lib.bytesWorld_size _ _ _⟩
  · have := grownCap_le_maxLen w s.size 0 5 (by unfold maxLen; omega)
    unfold maxLen at this
    omega
  · intro j u hu
    have hj : j < s.size := by
      have := (List.getElem?_eq_some_iff.1 hu).1
      rw [Lib.size_eq]
      simpa [bv] using this
    rw [Nat.zero_add, Lib.bytesWorld_cell w 5 s j hj, ← hu]
    unfold bv
    have hj' : j < s.data.toList.length := by rw [← Lib.size_eq]; exact hj
    rw [List.getElem?_map, List.getElem?_eq_getElem hj', List.getD_eq_getElem?_getD, List.getElem?_eq_getElem hj']
    rfl
  · exact ⟨rfl, rfl, rfl, by rw [Lib.bytesWorld_size]; omega, fun k hk => Lib.bytesWorld_at_old w _ s k hk⟩
theorem padB_len (s : ByteArray) : (padB s).data.toList = padL s.data.toList := rfl
theorem pad_mod (l : List UInt8) : (padL l).length % 64 = 0 := by
  unfold padL tailL nz
  simp
  omega
theorem stored_w8r (w : World) (v : V8) : ∃ w3, Hid ((w.alloc (.cells #[.int .u32 0, .int .u32 0, .int .u32 0, .int .u32 0, .int .u32 0, .int .u32 0, .int .u32 0, .int .u32 0] 73)).setRow w.heap.size (vL v).toArray = w3) ∧ w3.heap[w.heap.size]? = some (.cells (vL v).toArray 73 (0, 0)) ∧ Below w.heap.size w w3 :=
  ⟨_, Lib.hid rfl, setRow_heap _ _ _ (vL v).toArray 73 (0, 0) (heap_alloc_new _ _), below_setRow ((Below.refl _ _).alloc (Nat.le_refl _) _) (Nat.le_refl _) _⟩
theorem words_of {w : World} {g : Nat} {v : V8} (h : w.heap[g]? = some (.cells (vL v).toArray 73 (0, 0))) : WordsAt w g 0 v :=
  ⟨fun j u hu => by rw [Nat.zero_add, cell_of_row w g j _ _ _ h, List.getElem?_toArray]; exact hu, fun j hj => by
    have hr : w.rowIs g 73 8 (fun j => wv (v.at j)) := ⟨_, h, rfl, fun i hi => by
      rcases (show i = 0 ∨ i = 1 ∨ i = 2 ∨ i = 3 ∨ i = 4 ∨ i = 5 ∨ i = 6 ∨ i = 7 by omega) with rfl | rfl | rfl | rfl | rfl | rfl | rfl | rfl <;> rfl⟩
    rw [Nat.zero_add, hr.cell hj, hr.frozen j]; exact ⟨rfl, rfl⟩, (Array.getElem?_eq_some_iff.1 h).1⟩
theorem dig_ok (v : V8) : (digA (layV v)).size = 32 ∧ (digA (layV v)).all (·.oneCell') = true := by
  constructor
  · unfold digA bv; rw [← lb_all]; simp
  · unfold digA bv
    simp only [List.all_toArray, List.all_eq_true, List.mem_map]
    rintro u ⟨i, _, rfl⟩
    rfl
attribute [local irreducible] work blk klist kL layV padL
set_option maxRecDepth 100000 in
set_option maxHeartbeats 2000000 in
theorem sum_any (s : ByteArray) (w : World) (hn : s.size ≤ 1125899906842000) (hG : Gl w) : Calls Tryd.prog 14 #[.string s] w fun e w' => e = .returned (.agg (digA (sumL s.data.toList))) ∧ Below w.heap.size w w' := by
  have hz := zero_dig
  have hz8 := zero_w8
  have HP := Lib.hid (pad_any s · (by omega))
  have hps : (padB s).size ≤ 1125899906842624 := by
    rw [Lib.size_eq, padB_len]
    have h1 : (padL s.data.toList).length = s.data.toList.length + (9 + nz s.data.toList.length) := by
      with_unfolding_all (show (s.data.toList ++ tailL s.data.toList.length).length = _)
      simp [tailL]
      omega
    have h2 : nz s.data.toList.length ≤ 63 := by unfold nz; omega
    rw [Lib.size_eq] at hn
    omega
  have HL := Lib.hid (fun v w => lay_any v w)
  generalize hsl : sumL s.data.toList = SL
  go_enter Tryd.func14, Tryd.ntmps14
  go_upto_region 1 with fail
  obtain ⟨w1, HW1, hr1, B1⟩ : ∃ w1, Hid (w.alloc (.cells z32 34) = w1) ∧ w1.heap[w.heap.size]? = some (.cells z32 34 (0, 0)) ∧ Below w.heap.size w w1 := ⟨_, Lib.hid rfl, heap_alloc_new _ _, (Below.refl _ _).alloc (Nat.le_refl _) _⟩
  rw [HW1.out]
  clear HW1
  have G1 := hG.below B1
  obtain ⟨w3, HW3, hv3, b3⟩ := stored_w8r w1 v0
  have hlt : w.heap.size < w1.heap.size := (Array.getElem?_eq_some_iff.1 hr1).1
  have hr3 : w3.heap[w.heap.size]? = some (.cells z32 34 (0, 0)) := (b3.block _ hlt).trans hr1
  have G3 := G1.below b3
  have B3 := B1.trans (b3.mono B1.size)
  have k1 := G1.f
  go_upto_region 2 with (first | (refine wpList_load_mid rfl 73 _ rfl 0 0 rfl (vL v0) _ k1 Tryd.underlying73 rfl (by kernel_rfl) ?_) | (refine wpList_store_row rfl _ _ _ rfl w1.heap.size (vL v0).toArray rfl rfl 73 _ (heap_alloc_new _ _) (by kernel_rfl) rfl (by simp [vL, Value.oneCell']) ?_))
  rw [HW3.out]
  clear HW3 k1 hr1 B1 G1 b3
  have W3 := Lib.hid (words_of hv3)
  have hs3 : w1.heap.size < w3.heap.size := (Array.getElem?_eq_some_iff.1 hv3).1
  clear hv3
  generalize hg3 : w1.heap.size = g3 at *
  clear hg3
  go_wp2_with fail
  refine (HP.out _).mono ?_
  rintro e w4 ⟨rfl, b4⟩
  have hs4 := b4.size
  have G4 := G3.below b4
  have hr4 : w4.heap[w.heap.size]? = some (.cells z32 34 (0, 0)) := (b4.block _ (by omega)).trans hr3
  have B4 := B3.trans (b4.mono B3.size)
  have W4 : Hid (WordsAt w4 g3 0 v0) := Lib.hid ⟨range_below W3.out.r b4 W3.out.lt, there_below W3.out.t b4 W3.out.lt, by omega⟩
  clear G3 hr3 b4 B3 W3
  obtain ⟨cap, w5, HC, hc1, hc2, hrg, b5, hs5⟩ := conv_sb (padB s) w4 hps
  have hc := HC.out
  have G5 := G4.below b5
  have hr5 : w5.heap[w.heap.size]? = some (.cells z32 34 (0, 0)) := (b5.block _ (by omega)).trans hr4
  have B5 := B4.trans (b5.mono B4.size)
  have W5 : WordsAt w5 g3 0 v0 := ⟨range_below W4.out.r b5 W4.out.lt, there_below W4.out.t b5 W4.out.lt, by omega⟩
  have HWA := Lib.hid (workAll_any (padL s.data.toList) v0 g3 0 (some ⟨w4.heap.size, 0, none⟩) cap w5 G5.k (by have := hG.sk; omega) G5.sk W5 (fun _ => ⟨w4.heap.size, 0, rfl, by omega, hrg⟩) (fun g o s' e => by cases e; omega) (by rw [← padB_len, ← Lib.size_eq]; exact hc1) hc2)
  rw [← padB_len, ← Lib.size_eq] at HWA
  clear HC G4 hr4 b5 B4 W4 W5 hrg
  have HSV : Hid (layV (work v0 (padB s).data.toList ((padB s).size / 64)) = SL) := Lib.hid (by rw [← hsl, padB_len, Lib.size_eq, padB_len]; rfl)
  clear hsl
  go_wp2_with fail
  refine HWA.out.mono ?_
  rintro e w6 ⟨⟨a6, c6, rfl, _⟩, W6, g6, _⟩
  have hr6 : w6.heap[w.heap.size]? = some (.cells z32 34 (0, 0)) := (g6.block _ (by omega) (fun e => by cases e; omega)).trans hr5
  have B6 := B5.grown g6 B5.size (fun k e => by cases e; omega)
  clear hc G5 hr5 B5 HWA g6
  generalize work v0 (padB s).data.toList ((padB s).size / 64) = V at *
  have rV := W6.r
  go_wp2_with (refine wpList_load_mid rfl 73 _ rfl g3 0 rfl (vL V) _ rV Tryd.underlying73 rfl (by kernel_rfl) ?_)
  refine (HL.out _ _).mono ?_
  rintro e w7 ⟨rfl, b7⟩
  have hr7 : w7.heap[w.heap.size]? = some (.cells z32 34 (0, 0)) := (b7.block _ (Array.getElem?_eq_some_iff.1 hr6).1).trans hr6
  have B7 := B6.trans (b7.mono B6.size)
  obtain ⟨hsz, hone⟩ := dig_ok V
  rw [HSV.out] at hsz hone
  have HS2 := HSV.out
  clear rV W6 hr6 b7 B6
  rw [HS2]
  generalize hDG : digA SL = D at *
  go_wp2_with (refine wpList_store_row rfl _ _ _ rfl w.heap.size D rfl rfl 34 _ hr7 (by rw [hsz]; kernel_rfl) (by rw [hsz]; rfl) hone ?_)
  refine bodyPost_ret_by (results_cell_row rfl _ _ w.heap.size 34 D (0, 0) _ rfl (setRow_heap _ _ _ D 34 (0, 0) hr7) Tryd.underlying34 rfl (by rw [hsz]; kernel_rfl)) rfl ⟨by rw [hDG], ?_⟩
  exact below_setRow B7 (Nat.le_refl _) _
end Go.Proofs.YtaneecmfgfkaaaaDoor
