/- Contracts (cellaret): Leaf, Node; the law NodeSums (made by gennoj.py). -/
import Derived.Test.YtaneecmfgfkaaaaDoorNoE
namespace Go.Proofs.YtaneecmfgfkaaaaDoor
open Go.RowKit Go.Deep Go.Maps
set_option linter.unusedVariables false
set_option linter.unusedSimpArgs false
theorem z32_size' : z32.size = 32 := rfl
set_option maxRecDepth 100000 in
set_option maxHeartbeats 1000000 in
theorem leaf_no (o : Option Addr) (s : ByteArray) (w : World) (hs : s.size ≠ 64) : Calls Tryd.prog 44 #[.pointer o, .string s] w fun e w' => e = .returned (.tuple #[.agg z32, .int .i64 6]) ∧ Below w.heap.size w w' := by
  have hz := zero_dig
  obtain ⟨w1, HW1, hr1, B1⟩ : ∃ w1, Hid (w.alloc (.cells z32 34) = w1) ∧ w1.heap[w.heap.size]? = some (.cells z32 34 (0, 0)) ∧ Below w.heap.size w w1 := ⟨_, Lib.hid rfl, heap_alloc_new _ _, (Below.refl _ _).alloc (Nat.le_refl _) _⟩
  have HS := Lib.hid (fun p q w => sumr_no s p q w hs)
  go_enter Tryd.func44, Tryd.ntmps44
  go_upto_region 1 with fail
  rw [HW1.out]
  clear HW1
  go_wp2_with fail
  refine (summer_any o _ w1).mono ?_
  rintro e w2 ⟨rfl, _, _, b2, _⟩
  have hr2 := (b2.block _ (Array.getElem?_eq_some_iff.1 hr1).1).trans hr1
  have B2 := B1.trans (b2.mono B1.size)
  clear b2 hr1 B1
  go_wp2_with fail
  refine (HS.out _ _ _).mono ?_
  rintro e w3 ⟨rfl, b3⟩
  have hr3 := (b3.block _ (Array.getElem?_eq_some_iff.1 hr2).1).trans hr2
  have B3 := B2.trans (b3.mono B2.size)
  clear b3 hr2 B2
  go_wp2_with (refine wpList_store_row rfl _ _ _ rfl w.heap.size z32 rfl rfl 34 _ hr3 (by kernel_rfl) rfl z32_one ?_)
  refine bodyPost_ret_by (results_ct rfl _ _ w.heap.size 34 z32 (0, 0) _ rfl (setRow_heap _ _ _ z32 34 (0, 0) hr3) Tryd.underlying34 rfl (by kernel_rfl)) rfl ⟨rfl, ?_⟩
  exact below_setRow B3 (Nat.le_refl _) _
set_option maxRecDepth 100000 in
set_option maxHeartbeats 1000000 in
theorem leaf_or (base g : Nat) (l : List (List UInt8)) (tv sv : Value) (b : Nat) (D : DataW Unit) (s : ByteArray) (w : World) (hG : Gl w) (hbf : 0 < base) (hbk : 1 < base) (hP : OrP base w g l tv sv b D) (hl : l.length ≤ 1000000) (hs : s.size = 64) :
    Calls Tryd.prog 44 #[.pointer (some ⟨g, 0, none⟩), .string s] w fun e w' => ∃ tv' sv' D', e = .returned (.tuple #[.agg (digA (sumL ((⟨#[0]⟩ : ByteArray) ++ s).data.toList)), .int .i64 0]) ∧ OrP base w' g (orNext l ((⟨#[0]⟩ : ByteArray) ++ s).data.toList) tv' sv' b D' ∧ Below base w w' := by
  have hz := zero_dig
  obtain ⟨w1, HW1, hr1, B1⟩ : ∃ w1, Hid (w.alloc (.cells z32 34) = w1) ∧ w1.heap[w.heap.size]? = some (.cells z32 34 (0, 0)) ∧ Below w.heap.size w w1 := ⟨_, Lib.hid rfl, heap_alloc_new _ _, (Below.refl _ _).alloc (Nat.le_refl _) _⟩
  have HS := Lib.hid (fun p q w hw hp hr => sumr_or base g l tv sv b D s (⟨#[0]⟩ : ByteArray) p q w hw hbf hbk hp hl hs (by decide) hr)
  obtain ⟨hdz, hone⟩ := dig_ok' ((⟨#[0]⟩ : ByteArray) ++ s).data.toList
  generalize ((⟨#[0]⟩ : ByteArray) ++ s).data.toList = ms at *
  generalize digA (sumL ms) = DG at *
  have hgb := own_map_lt hP
  obtain ⟨hgl, hbl⟩ := hgb
  have HTL := Lib.hid (fun k e => (hP.own_t k e).2)
  have HSL := Lib.hid (fun k e => (hP.own_s k e).2)
  have hbw : base ≤ w.heap.size := Nat.le_trans hP.hb (Nat.le_of_lt hgl)
  have P1 := hP.below B1
  have G1 := hG.below B1
  clear hP
  go_enter Tryd.func44, Tryd.ntmps44
  go_upto_region 1 with fail
  rw [HW1.out]
  clear HW1
  go_wp2_with fail
  refine (summer_any (some ⟨g, 0, none⟩) _ w1).mono ?_
  rintro e w2 ⟨rfl, c1, c2, b2, _⟩
  have hr2 := (b2.block _ (Array.getElem?_eq_some_iff.1 hr1).1).trans hr1
  have B2 := B1.trans (b2.mono B1.size)
  have HS2 := Lib.hid (HS.out _ _ w2 (G1.below b2) (P1.below b2) ⟨c1, c2⟩)
  clear b2 hr1 B1 c1 c2 P1 G1 HS
  go_wp2_with fail
  refine HS2.out.mono ?_
  rintro e w3 ⟨tv', sv', D', rfl, P3, b3, K3⟩
  have K := OrKept.trans1 B2 K3
  have hr3 := K3.keep _ _ hr2 (by omega) (by omega) (fun e => by have := HTL.out _ e; omega) (fun e => by have := HSL.out _ e; omega)
  have hs2 := (Array.getElem?_eq_some_iff.1 hr2).1
  have ht3 : tv'.ownBlock ≠ some w.heap.size := fun e => by
    rcases K3.ht _ e with h | h
    · have := HTL.out _ h; omega
    · omega
  have hs3 : sv'.ownBlock ≠ some w.heap.size := fun e => by
    rcases K3.hs _ e with h | h
    · have := HSL.out _ h; omega
    · omega
  have B3 : Below base w w3 := (B2.mono hbw).trans b3
  have HP3 := Lib.hid (P3.row w.heap.size DG (by omega) (by omega) ht3 hs3)
  clear P3 K K3 b3 hr2 B2 ht3 hs3 HS2
  go_wp2_with (refine wpList_store_row rfl _ _ _ rfl w.heap.size DG rfl rfl 34 _ hr3 (by rw [hdz]; kernel_rfl) (by rw [hdz]; rfl) hone ?_)
  refine bodyPost_ret_by (results_ct rfl _ _ w.heap.size 34 DG (0, 0) _ rfl (setRow_heap _ _ _ DG 34 (0, 0) hr3) Tryd.underlying34 rfl (by rw [hdz]; kernel_rfl)) rfl ⟨tv', sv', D', rfl, HP3.out, ?_⟩
  exact below_setRow B3 hbw _
theorem leaf_new (s : ByteArray) (w0 w : World) (hG : Gl w) (hw : Gl w0) (hP : OrP w0.heap.size w (w0.heap.size + 1) [] (.slice none 0 0) (.slice none 0 0) w0.heap.size (.map [])) (hs : s.size = 64) :
    Calls Tryd.prog 44 #[.pointer (some ⟨w0.heap.size + 1, 0, none⟩), .string s] w fun e w' => e = .returned (.tuple #[.agg (digA (sumL ((⟨#[0]⟩ : ByteArray) ++ s).data.toList)), .int .i64 0]) ∧ Below w0.heap.size w w' :=
  (leaf_or w0.heap.size _ [] _ _ _ _ s w hG hw.sf hw.sk hP (by simp) hs).mono fun e w' ⟨_, _, _, h1, _, h2⟩ => ⟨h1, h2⟩
end Go.Proofs.YtaneecmfgfkaaaaDoor
