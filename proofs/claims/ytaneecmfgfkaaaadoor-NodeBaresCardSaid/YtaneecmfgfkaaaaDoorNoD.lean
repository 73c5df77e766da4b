/- Contracts (cellaret): an oracle's Sum of any text; node.summer and its closure; Leaf. -/
import Derived.Test.YtaneecmfgfkaaaaDoorNoC
import Derived.Test.YtaneecmfgfkaaaaDoorOrX
import Derived.Test.YtaneecmfgfkaaaaDoorDgs
import Derived.Laws.EntriesVeiled
namespace Go.Proofs.YtaneecmfgfkaaaaDoor
open Go.RowKit Go.Deep Go.Maps
set_option linter.unusedVariables false
set_option linter.unusedSimpArgs false
set_option maxRecDepth 100000 in
set_option maxHeartbeats 1000000 in
theorem summer_any (o : Option Addr) (m : ByteArray) (w : World) : Calls Tryd.prog 40 #[.pointer o, .string m] w fun e w' => e = .returned (.func (.func 53) #[] #[.pointer (some ⟨w.heap.size + 1, 0, none⟩), .pointer (some ⟨w.heap.size, 0, none⟩)]) ∧ w'.cell? ⟨w.heap.size + 1, 0, none⟩ = some (.func (.func 13) #[.pointer o] #[]) ∧ w'.cell? ⟨w.heap.size, 0, none⟩ = some (.string m) ∧ Below w.heap.size w w' ∧ w'.heap.size = w.heap.size + 2 := by
  have hz : ∀ w, (zeroValue 35).run Tryd.prog w = .ok Value.nilFunc w := fun w => by kernel_rfl
  go_enter Tryd.func40, Tryd.ntmps40
  go_wp2_with fail
  go_ret
  exact ⟨rfl, by simp [go_sem], by simp [go_sem], ((Below.refl _ _).alloc (Nat.le_refl _) _).alloc (by simp) _, by simp⟩
set_option maxRecDepth 100000 in
set_option maxHeartbeats 1000000 in
theorem sumr_no (s : ByteArray) (p q : Nat) (w : World) (hs : s.size ≠ 64) : Calls Tryd.prog 53 #[.string s, .pointer (some ⟨p, 0, none⟩), .pointer (some ⟨q, 0, none⟩)] w fun e w' => e = .returned (.tuple #[.agg z32, .int .i64 6]) ∧ Below w.heap.size w w' := by
  have hz := zero_dig
  have hb := build_z32
  have ht : ((s.size : Int) != 64) = true := by simp; omega
  obtain ⟨w1, HW1, hr1, B1⟩ : ∃ w1, Hid (w.alloc (.cells z32 34) = w1) ∧ w1.heap[w.heap.size]? = some (.cells z32 34 (0, 0)) ∧ Below w.heap.size w w1 := ⟨_, Lib.hid rfl, heap_alloc_new _ _, (Below.refl _ _).alloc (Nat.le_refl _) _⟩
  go_enter Tryd.func53, Tryd.ntmps53
  go_upto_region 1 with fail
  rw [HW1.out]
  clear HW1
  go_wp2_with (refine wpList_store_row rfl _ _ _ rfl w.heap.size z32 rfl rfl 34 _ hr1 (by kernel_rfl) rfl z32_one ?_)
  refine bodyPost_ret_by (results_ct rfl _ _ w.heap.size 34 z32 (0, 0) _ rfl (setRow_heap _ _ _ z32 34 (0, 0) hr1) Tryd.underlying34 rfl (by kernel_rfl)) rfl ⟨rfl, ?_⟩
  exact below_setRow B1 (Nat.le_refl _) _
set_option maxRecDepth 100000 in
set_option maxHeartbeats 1000000 in
theorem sumr_nil (s m : ByteArray) (p q : Nat) (w : World) (hG : Gl w) (hs : s.size = 64) (hm : m.size ≤ 64) (c1 : w.cell? ⟨p, 0, none⟩ = some (.func (.func 13) #[.pointer none] #[])) (c2 : w.cell? ⟨q, 0, none⟩ = some (.string m)) :
    Calls Tryd.prog 53 #[.string s, .pointer (some ⟨p, 0, none⟩), .pointer (some ⟨q, 0, none⟩)] w fun e w' => e = .returned (.tuple #[.agg (digA (sumL (m ++ s).data.toList)), .int .i64 0]) ∧ Below w.heap.size w w' := by
  have hz := zero_dig
  have ht : ((s.size : Int) != 64) = false := by simp; omega
  have hsz : (m ++ s).size ≤ 1000 := by simp; omega
  have HS := Lib.hid (fun w hw => orSum_nil (m ++ s) w hw (by omega))
  have a1 : (9223372036854775807 < m.size + s.size) = False := by simp; omega
  obtain ⟨w1, HW1, hr1, B1⟩ : ∃ w1, Hid (w.alloc (.cells z32 34) = w1) ∧ w1.heap[w.heap.size]? = some (.cells z32 34 (0, 0)) ∧ Below w.heap.size w w1 := ⟨_, Lib.hid rfl, heap_alloc_new _ _, (Below.refl _ _).alloc (Nat.le_refl _) _⟩
  have G1 := hG.below B1
  have d1 := (B1.cell (p := ⟨p, 0, none⟩) (block_lt_of_cell c1)).trans c1
  have d2 := (B1.cell (p := ⟨q, 0, none⟩) (block_lt_of_cell c2)).trans c2
  obtain ⟨hdz, hone⟩ := dig_ok' (m ++ s).data.toList
  generalize (m ++ s).data.toList = ms at *
  generalize digA (sumL ms) = DG at *
  go_enter Tryd.func53, Tryd.ntmps53
  go_upto_region 1 with fail
  rw [HW1.out]
  clear HW1 hsz
  go_wp2_with fail
  refine (HS.out _ G1).mono ?_
  rintro e w3 ⟨rfl, b3⟩
  have hr3 : w3.heap[w.heap.size]? = some (.cells z32 34 (0, 0)) := (b3.block _ (Array.getElem?_eq_some_iff.1 hr1).1).trans hr1
  have B3 := B1.trans (b3.mono B1.size)
  go_wp2_with (refine wpList_store_row rfl _ _ _ rfl w.heap.size DG rfl rfl 34 _ hr3 (by rw [hdz]; kernel_rfl) (by rw [hdz]; rfl) hone ?_)
  refine bodyPost_ret_by (results_ct rfl _ _ w.heap.size 34 DG (0, 0) _ rfl (setRow_heap _ _ _ DG 34 (0, 0) hr3) Tryd.underlying34 rfl (by rw [hdz]; kernel_rfl)) rfl ⟨rfl, ?_⟩
  exact below_setRow B3 (Nat.le_refl _) _
/-- A closure that sums for an oracle: what stands behind it. -/
structure SumR (w : World) (p q g : Nat) (m : ByteArray) : Prop where
  c1 : w.cell? ⟨p, 0, none⟩ = some (.func (.func 13) #[.pointer (some ⟨g, 0, none⟩)] #[])
  c2 : w.cell? ⟨q, 0, none⟩ = some (.string m)
theorem OrKept.trans1 {w w1 w' : World} {g b : Nat} {tv sv tv' sv' : Value} (hB : Below w.heap.size w w1) (h : OrKept w1 w' g b tv sv tv' sv') : OrKept w w' g b tv sv tv' sv' :=
  ⟨fun k o hk h1 h2 h3 h4 => h.keep k o ((hB.block k (Array.getElem?_eq_some_iff.1 hk).1).trans hk) h1 h2 h3 h4, fun k e => (h.ht k e).imp id (fun q => Nat.le_trans hB.size q), fun k e => (h.hs k e).imp id (fun q => Nat.le_trans hB.size q)⟩
theorem OrP.own_t {base : Nat} {w : World} {g : Nat} {l : List (List UInt8)} {tv sv : Value} {b : Nat} {D : DataW Unit} (h : OrP base w g l tv sv b D) (k : Nat) (e : tv.ownBlock = some k) : base ≤ k ∧ k < w.heap.size := h.ht.lt k e
theorem OrP.own_s {base : Nat} {w : World} {g : Nat} {l : List (List UInt8)} {tv sv : Value} {b : Nat} {D : DataW Unit} (h : OrP base w g l tv sv b D) (k : Nat) (e : sv.ownBlock = some k) : base ≤ k ∧ k < w.heap.size := h.hs.lt k e
/-- A store into a row that is not the oracle's. -/
theorem OrP.row {base : Nat} {w : World} {g : Nat} {l : List (List UInt8)} {tv sv : Value} {b : Nat} {D : DataW Unit} (h : OrP base w g l tv sv b D) (q : Nat) (X : Array Value) (h1 : q ≠ g) (h2 : q ≠ b) (h3 : tv.ownBlock ≠ some q) (h4 : sv.ownBlock ≠ some q) : OrP base (w.setRow q X) g l tv sv b D :=
  ⟨h.hb, (setRow_other w q g X (Ne.symm h1)).trans h.hg, own_at_block h.ht (fun k e => setRow_other w q k X (fun e2 => h3 (e2 ▸ e))), own_at_block h.hs (fun k e => setRow_other w q k X (fun e2 => h4 (e2 ▸ e))), map_at_block h.hm (setRow_other w q b X (Ne.symm h2)), h.hbb, h.ix, h.nd⟩
theorem own_map_lt {base : Nat} {w : World} {g : Nat} {l : List (List UInt8)} {tv sv : Value} {b : Nat} {D : DataW Unit} (h : OrP base w g l tv sv b D) : g < w.heap.size ∧ b < w.heap.size := ⟨(Array.getElem?_eq_some_iff.1 h.hg).1, h.hm.lt⟩
set_option maxRecDepth 100000 in
set_option maxHeartbeats 2000000 in
theorem sumr_or (base g : Nat) (l : List (List UInt8)) (tv sv : Value) (b : Nat) (D : DataW Unit) (s m : ByteArray) (p q : Nat) (w : World) (hG : Gl w) (hbf : 0 < base) (hbk : 1 < base) (hP : OrP base w g l tv sv b D) (hl : l.length ≤ 1000000) (hs : s.size = 64) (hm : m.size ≤ 64) (hR : SumR w p q g m) :
    Calls Tryd.prog 53 #[.string s, .pointer (some ⟨p, 0, none⟩), .pointer (some ⟨q, 0, none⟩)] w fun e w' => ∃ tv' sv' D', e = .returned (.tuple #[.agg (digA (sumL (m ++ s).data.toList)), .int .i64 0]) ∧ OrP base w' g (orNext l (m ++ s).data.toList) tv' sv' b D' ∧ Below base w w' ∧ OrKept w w' g b tv sv tv' sv' := by
  have hz := zero_dig
  have ht : ((s.size : Int) != 64) = false := by simp; omega
  have hsz : (m ++ s).size ≤ 1000 := by simp; omega
  have HS := Lib.hid (fun w hw hp => orSum_or base g l tv sv b D (m ++ s) w hw hbf hbk hp (by omega) hl)
  have a1 : (9223372036854775807 < m.size + s.size) = False := by simp; omega
  obtain ⟨w1, HW1, hr1, B1⟩ : ∃ w1, Hid (w.alloc (.cells z32 34) = w1) ∧ w1.heap[w.heap.size]? = some (.cells z32 34 (0, 0)) ∧ Below w.heap.size w w1 := ⟨_, Lib.hid rfl, heap_alloc_new _ _, (Below.refl _ _).alloc (Nat.le_refl _) _⟩
  have G1 := hG.below B1
  have P1 := hP.below B1
  have d1 := (B1.cell (p := ⟨p, 0, none⟩) (block_lt_of_cell hR.c1)).trans hR.c1
  have d2 := (B1.cell (p := ⟨q, 0, none⟩) (block_lt_of_cell hR.c2)).trans hR.c2
  obtain ⟨hdz, hone⟩ := dig_ok' (m ++ s).data.toList
  have hgb := own_map_lt hP
  have htl := fun k e => (hP.own_t k e).2
  have hsl := fun k e => (hP.own_s k e).2
  have HTL := Lib.hid htl
  have HSL := Lib.hid hsl
  have hbw : base ≤ w.heap.size := Nat.le_trans hP.hb (Nat.le_of_lt hgb.1)
  obtain ⟨hgl, hbl⟩ := hgb
  clear hP hR htl hsl hsz
  generalize (m ++ s).data.toList = ms at *
  generalize digA (sumL ms) = DG at *
  go_enter Tryd.func53, Tryd.ntmps53
  go_upto_region 1 with fail
  rw [HW1.out]
  clear HW1
  go_wp2_with fail
  refine (HS.out _ G1 P1).mono ?_
  rintro e w3 ⟨tv', sv', D', rfl, P3, b3, K3⟩
  have hr3 := K3.keep _ _ hr1 (by omega) (by omega) (fun e => by have := HTL.out _ e; omega) (fun e => by have := HSL.out _ e; omega)
  have hs1 := (Array.getElem?_eq_some_iff.1 hr1).1
  have ht3 : tv'.ownBlock ≠ some w.heap.size := fun e => by
    rcases K3.ht _ e with h | h
    · have := HTL.out _ h; omega
    · omega
  have hs3 : sv'.ownBlock ≠ some w.heap.size := fun e => by
    rcases K3.hs _ e with h | h
    · have := HSL.out _ h; omega
    · omega
  have B3 : Below base w w3 := (B1.mono hbw).trans b3
  have K := OrKept.trans1 B1 K3
  have HP3 := Lib.hid (P3.row w.heap.size DG (by omega) (by omega) ht3 hs3)
  have HK3 := Lib.hid K
  clear P3 K K3 b3 P1 G1 d1 d2 hr1 B1 ht3 hs3
  go_wp2_with (refine wpList_store_row rfl _ _ _ rfl w.heap.size DG rfl rfl 34 _ hr3 (by rw [hdz]; kernel_rfl) (by rw [hdz]; rfl) hone ?_)
  refine bodyPost_ret_by (results_ct rfl _ _ w.heap.size 34 DG (0, 0) _ rfl (setRow_heap _ _ _ DG 34 (0, 0) hr3) Tryd.underlying34 rfl (by rw [hdz]; kernel_rfl)) rfl ⟨tv', sv', D', rfl, HP3.out, ?_, ?_⟩
  · exact below_setRow B3 hbw _
  · exact ⟨fun k o hk h1 h2 h3 h4 => (setRow_other w3 w.heap.size k DG (fun e => by have := (Array.getElem?_eq_some_iff.1 hk).1; omega)).trans (HK3.out.keep k o hk h1 h2 h3 h4), HK3.out.ht, HK3.out.hs⟩
set_option maxRecDepth 100000 in
set_option maxHeartbeats 1000000 in
theorem leaf_nil (s : ByteArray) (w : World) (hG : Gl w) (hs : s.size = 64) : Calls Tryd.prog 44 #[.pointer none, .string s] w fun e w' => e = .returned (.tuple #[.agg (digA (sumL ((⟨#[0]⟩ : ByteArray) ++ s).data.toList)), .int .i64 0]) ∧ Below w.heap.size w w' := by
  have hz := zero_dig
  obtain ⟨w1, HW1, hr1, B1⟩ : ∃ w1, Hid (w.alloc (.cells z32 34) = w1) ∧ w1.heap[w.heap.size]? = some (.cells z32 34 (0, 0)) ∧ Below w.heap.size w w1 := ⟨_, Lib.hid rfl, heap_alloc_new _ _, (Below.refl _ _).alloc (Nat.le_refl _) _⟩
  have G1 := hG.below B1
  have HS := Lib.hid (fun p q w hw c1 c2 => sumr_nil s (⟨#[0]⟩ : ByteArray) p q w hw hs (by decide) c1 c2)
  obtain ⟨hdz, hone⟩ := dig_ok' ((⟨#[0]⟩ : ByteArray) ++ s).data.toList
  generalize ((⟨#[0]⟩ : ByteArray) ++ s).data.toList = ms at *
  generalize digA (sumL ms) = DG at *
  go_enter Tryd.func44, Tryd.ntmps44
  go_upto_region 1 with fail
  rw [HW1.out]
  clear HW1
  go_wp2_with fail
  refine (summer_any none _ w1).mono ?_
  rintro e w2 ⟨rfl, c1, c2, b2, _⟩
  have G2 := G1.below b2
  have hr2 := (b2.block _ (Array.getElem?_eq_some_iff.1 hr1).1).trans hr1
  have B2 := B1.trans (b2.mono B1.size)
  have HS2 := Lib.hid (HS.out _ _ w2 G2 c1 c2)
  clear c1 c2 HS G1 G2 b2 hr1 B1
  go_wp2_with fail
  refine HS2.out.mono ?_
  rintro e w3 ⟨rfl, b3⟩
  have hr3 := (b3.block _ (Array.getElem?_eq_some_iff.1 hr2).1).trans hr2
  have B3 := B2.trans (b3.mono B2.size)
  clear b3 hr2 HS2 B2
  go_wp2_with (refine wpList_store_row rfl _ _ _ rfl w.heap.size DG rfl rfl 34 _ hr3 (by rw [hdz]; kernel_rfl) (by rw [hdz]; rfl) hone ?_)
  refine bodyPost_ret_by (results_ct rfl _ _ w.heap.size 34 DG (0, 0) _ rfl (setRow_heap _ _ _ DG 34 (0, 0) hr3) Tryd.underlying34 rfl (by rw [hdz]; kernel_rfl)) rfl ⟨rfl, ?_⟩
  exact below_setRow B3 (Nat.le_refl _) _
end Go.Proofs.YtaneecmfgfkaaaaDoor
