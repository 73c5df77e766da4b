/- The oracle: Sum of a text that is kept. -/
import Derived.Test.YtaneecmfgfkaaaaDoorOrB
namespace Go.Proofs.YtaneecmfgfkaaaaDoor
open Go.RowKit Go.Deep Go.Maps
set_option linter.unusedVariables false
set_option linter.unusedSimpArgs false
theorem flat_at {α β : Type} (f : α → List β) (m : Nat) : ∀ (l : List α) (i j : Nat) (h : i < l.length), (∀ s ∈ l, (f s).length = m) → j < m → (l.flatMap f)[i * m + j]? = (f l[i])[j]?
  | a :: l, 0, j, _, hf, hj => by
    rw [List.flatMap_cons, Nat.zero_mul, Nat.zero_add, List.getElem?_append_left (by rw [hf a (by simp)]; exact hj)]
    rfl
  | a :: l, i + 1, j, h, hf, hj => by
    rw [List.flatMap_cons, Nat.succ_mul, List.getElem?_append_right (by rw [hf a (by simp)]; omega), hf a (by simp), show i * m + m + j - m = i * m + j from by omega]
    exact flat_at f m l i j (by simpa using h) (fun s hs => hf s (by simp [hs])) hj
theorem dig_len (s : List UInt8) : (bv (sumL s)).length = 32 := by unfold bv; rw [List.length_map, sumL_len]
/-- A row of one's own with something in it. -/
theorem own_rowG {w : World} {base n size : Nat} {e : TypeId} {v : Value} {xs : List Value} (h : w.ownsRow base e size v n xs) (hn : 0 < n) : ∃ g c, v = .slice (some ⟨g, 0, none⟩) n c ∧ n ≤ c ∧ base ≤ g ∧ g < w.heap.size ∧ w.rangeAt g 0 xs := by
  rcases h.2 with ⟨rfl, rfl⟩ | ⟨g, cap, cur, rfl, hb, hg, hnc, hcm, _⟩
  · omega
  · refine ⟨g, cap, rfl, hnc, hb, (Array.getElem?_eq_some_iff.1 hg).1, fun j u hu => ?_⟩
    have := h.cells (g := g) rfl j u hu
    rw [Nat.zero_add]
    rwa [Addr.add_mid, Nat.zero_add] at this
theorem dig_ok' (l : List UInt8) : (digA (sumL l)).size = 32 ∧ (digA (sumL l)).all (·.oneCell') = true := dig_ok (sumV l)
set_option maxRecDepth 100000 in
set_option maxHeartbeats 1000000 in
theorem orSum_old (base g : Nat) (l : List (List UInt8)) (tv sv : Value) (b : Nat) (D : DataW Unit) (s : ByteArray) (w : World) (hP : OrP base w g l tv sv b D) (hs : s.size ≤ maxLen) (hin : s.data.toList ∈ l) (hl : l.length ≤ 1000000) :
    Calls Tryd.prog 13 #[.pointer (some ⟨g, 0, none⟩), .string s] w fun e w' => e = .returned (.agg (digA (sumL s.data.toList))) ∧ Below w.heap.size w w' := by
  have hz := zero_dig
  obtain ⟨w1, HW1, hr1, B1⟩ : ∃ w1, Hid (w.alloc (.cells z32 34) = w1) ∧ w1.heap[w.heap.size]? = some (.cells z32 34 (0, 0)) ∧ Below w.heap.size w w1 := ⟨_, Lib.hid rfl, heap_alloc_new _ _, (Below.refl _ _).alloc (Nat.le_refl _) _⟩
  have P1 := hP.below B1
  have c1 := cell_of_row w1 g 1 _ _ _ P1.hg
  have c2 := cell_of_row w1 g 2 _ _ _ P1.hg
  have hkey : keyOf Tryd.prog 9 (.string s) = some (kS s.data.toList) := Go.WideMaps.keyOf_string_mk Tryd.underlying9 hs
  have hhas : has D (kS s.data.toList) = true := by rw [(hP.ix s.data.toList).1]; exact decide_eq_true hin
  have hix := (hP.ix s.data.toList).2 hin
  have hil : l.idxOf s.data.toList < l.length := List.idxOf_lt_length_iff.2 hin
  have hget : l[l.idxOf s.data.toList]'hil = s.data.toList := List.getElem_idxOf hil
  have hm1 := P1.hm
  obtain ⟨gs, cs, rfl, hcs, hbs, hgs, hrs⟩ := own_rowG P1.hs (by omega)
  have hr : w1.rangeAt gs (l.idxOf s.data.toList * 32) (bv (sumL s.data.toList)) := fun j u hu => by
    have hj : j < 32 := by have := (List.getElem?_eq_some_iff.1 hu).1; rwa [dig_len] at this
    have := flat_at (fun x : List UInt8 => bv (sumL x)) 32 l (l.idxOf s.data.toList) j hil (fun s _ => dig_len s) hj
    rw [hget] at this
    have h2 := hrs (l.idxOf s.data.toList * 32 + j) u (by rw [this]; exact hu)
    rwa [Nat.zero_add] at h2
  have hil' : ((l.idxOf s.data.toList : Nat) : Int) < (l.length : Int) := by omega
  have hilM : ((l.idxOf s.data.toList : Nat) : Int) ≤ 1000000 := by omega
  have hD32 := dig_len s.data.toList
  obtain ⟨hsz, hone⟩ := dig_ok' s.data.toList
  have hdg : (bv (sumL s.data.toList)).toArray = digA (sumL s.data.toList) := rfl
  generalize bv (sumL s.data.toList) = BV at *
  generalize digA (sumL s.data.toList) = DG at *
  have HHAS := Lib.hid hhas
  have HIX := Lib.hid hix
  have HKEY := Lib.hid hkey
  have HD32 := Lib.hid hD32
  have HDG := Lib.hid hdg
  clear hhas hix hkey hrs hget P1 hP hD32 hdg
  generalize l.idxOf s.data.toList = ix at *
  generalize l.length = n at *
  go_enter Tryd.func13, Tryd.ntmps13
  go_upto_region 1 with fail
  rw [HW1.out]
  clear HW1
  go_upto_region 4 with (at_lookup; refine wpList_lookup_own_ok_int _ rfl _ _ 68 rfl 9 3 .i64 lawS Tryd.underlying68 Tryd.underlying3 (zeroI _) b n D rfl hm1 _ (kS s.data.toList) rfl HKEY.out ?_; intro c hat hwc; rw [HIX.out] at hat; obtain rfl : (ix : Int) = c := (by injection hat with hat; injection hat); rw [HHAS.out]; clear hat hwc)
  go_wp2_with (first | (refine wpList_load_mid rfl 34 _ rfl gs (ix * 32) rfl BV _ hr Tryd.underlying34 rfl (by rw [HD32.out]; kernel_rfl) ?_; rw [HDG.out]) | (refine wpList_store_row rfl _ _ _ rfl w.heap.size DG rfl rfl 34 _ hr1 (by rw [hsz]; kernel_rfl) (by rw [hsz]; rfl) hone ?_))
  refine bodyPost_ret_by (results_cell_row rfl _ _ w.heap.size 34 DG (0, 0) _ rfl (setRow_heap _ _ _ DG 34 (0, 0) hr1) Tryd.underlying34 rfl (by rw [hsz]; kernel_rfl)) rfl ⟨rfl, ?_⟩
  exact below_setRow B1 (Nat.le_refl _) _
end Go.Proofs.YtaneecmfgfkaaaaDoor
