/- Package plan: Root; laws of package plan: few. -/
import Derived.Test.YtnlgkhggokloeaaPlJ
namespace Go.Proofs.Ytnlgkhggokloeaa
open Go.RowKit Go.Deep
set_option linter.unusedVariables false
set_option linter.unusedSimpArgs false
attribute [local irreducible] rcA
/-- Records that are not far too great. -/
def FewP (L : List Rv) : Prop := L.length ≤ 10 ∧ ∀ j (hj : j < L.length), LightP L[j].r.ps
def FewR (L : List Rv) (w : World) (e : Ending) (w' : World) : Prop := ∃ b : Bool, e = .returned (.bool b) ∧ Hid (b = true → FewP L) ∧ Below w.heap.size w w'
theorem allP_few {L : List Rv} (h : FewP L) : (allP L).length ≤ 800 := by
  have : ∀ i, i ≤ L.length → (allP (L.take i)).length ≤ i * 80 := by
    intro i
    induction i with
    | zero => intro _; simp [allP]
    | succ i ih =>
      intro hi
      rw [allP_snoc L i (by omega), List.length_append]
      have h1 := ih (by omega)
      have h2 := (h.2 i (by omega)).1
      omega
  have h1 := this L.length (Nat.le_refl _)
  rw [List.take_length] at h1
  have := h.1
  omega
set_option maxRecDepth 100000 in
set_option maxHeartbeats 4000000 in
theorem few_any (ao : Option Addr) (c : Nat) (L : List Rv) (w : World) (hat : RsAt w ao L) (hn : L.length ≤ 9223372036854775807) : Calls Try.prog 7 #[.slice ao L.length c] w (FewR L w) := by
  have HAT := Lib.hid hat
  obtain ⟨n, hnn⟩ : ∃ n, Hid (L.length = n) := ⟨_, Lib.hid rfl⟩
  rw [hnn.out] at hn ⊢
  clear hat
  go_enter Try.func7, Try.ntmps7
  go_wp2_with fail
  go_loopw [3] (fun s3 wi => ∃ i : Nat, s3 = .int .i64 (i : Int) ∧ i ≤ 10 ∧ Hid (∀ j (hj : j < L.length), j < i → LightP L[j].r.ps) ∧ Hid (Below w.heap.size w wi)) (fun s3 _ => 10 - (intOf s3).toNat)
  case atStart => exact ⟨0, rfl, by omega, Lib.hid (fun j _ h => absurd h (by omega)), Lib.hid (Below.refl _ _)⟩
  case round =>
    obtain ⟨i, rfl, hi, HE, HB⟩ := hrel
    rcases (show ((i : Int) < (n : Int) ∧ (i : Int) < 10) ∨ ((i : Int) < (n : Int) ∧ ¬ (i : Int) < 10) ∨ ¬ (i : Int) < (n : Int) by omega) with ⟨hli, h8⟩ | ⟨hli, h8⟩ | hli
    · have hil : i < L.length := by rw [hnn.out]; omega
      have HOK := HAT.out.1 _ (List.getElem_mem hil)
      obtain ⟨g, o, rfl, hg, hc⟩ := HAT.out.2 (by omega)
      have c33 := (HB.out.cell (p := ⟨g, o + i * 34 + 33, none⟩) hg).trans ((hc i hil) 33 _ (rvL_33 HOK))
      have CL := Lib.hid (light_any L[i].a L[i].c L[i].r.ps wr (HOK.puts.below HB.out) (by have := HOK.cap; have := HOK.max; unfold maxLen at this; omega))
      have HX : Hid (LightP L[i].r.ps → ∀ j (hj : j < L.length), j < i + 1 → LightP L[j].r.ps) := Lib.hid (fun h j hj hji => by
        by_cases e : j = i
        · subst e; exact h
        · exact HE.out j hj (by omega))
      unfold rvS at c33
      clear hc HE HOK
      generalize L[i] = z at *
      obtain ⟨r, za, zc⟩ := z
      dsimp only at *
      generalize hps : r.ps = ps at *
      obtain ⟨m, hmm⟩ : ∃ m, Hid (ps.length = m) := ⟨_, Lib.hid rfl⟩
      rw [hmm.out] at c33 CL
      go_wp2_with fail
      refine CL.out.mono ?_
      rintro e w2 ⟨b, rfl, HL, hb2⟩
      have HB2 := Lib.hid (HB.out.trans (hb2.mono HB.out.size))
      clear CL hb2 HB
      cases b
      · go_wp2_with fail
        go_ret
        exact ⟨false, rfl, Lib.hid (fun h => by cases h), HB2.out⟩
      · have HX2 := Lib.hid (HX.out (HL.out rfl))
        clear HX HL
        go_wp2_with fail
        go_roundw
        case rel => exact ⟨i + 1, by go_num, by omega, HX2, HB2⟩
        case measure => simp [intOf]; omega
    · by_cases h9 : (n : Int) ≤ 10
      · have HL : Hid (FewP L) := Lib.hid ⟨by rw [hnn.out]; omega, fun j hj => HE.out j hj (by have := hnn.out; omega)⟩
        go_wp2_with fail
        go_ret
        exact ⟨true, by first | rfl | simp, Lib.hid (fun _ => HL.out), HB.out⟩
      · go_wp2_with fail
        go_ret
        exact ⟨false, by first | rfl | simp, Lib.hid (fun h => by cases h), HB.out⟩
    · have h9 : (n : Int) ≤ 10 := by omega
      have HL : Hid (FewP L) := Lib.hid ⟨by rw [hnn.out]; omega, fun j hj => HE.out j hj (by have := hnn.out; omega)⟩
      go_wp2_with fail
      go_ret
      exact ⟨true, by first | rfl | simp, Lib.hid (fun _ => HL.out), HB.out⟩
def z32 : Array Value := #[.int .u8 0, .int .u8 0, .int .u8 0, .int .u8 0, .int .u8 0, .int .u8 0, .int .u8 0, .int .u8 0, .int .u8 0, .int .u8 0, .int .u8 0, .int .u8 0, .int .u8 0, .int .u8 0, .int .u8 0, .int .u8 0, .int .u8 0, .int .u8 0, .int .u8 0, .int .u8 0, .int .u8 0, .int .u8 0, .int .u8 0, .int .u8 0, .int .u8 0, .int .u8 0, .int .u8 0, .int .u8 0, .int .u8 0, .int .u8 0, .int .u8 0, .int .u8 0]
theorem z32_size : z32.size = 32 := rfl
theorem z32_one : z32.all (·.oneCell') = true := by simp [z32, Value.oneCell']
theorem zero_dig : ∀ w, (zeroValue 30).run Try.prog w = .ok (.agg z32) w := fun w => by kernel_rfl
theorem build_z32 : ∀ w, (Instr.build 30 #[]).run Try.prog w = .ok (.agg z32) w := fun w => by kernel_rfl
theorem results_ct {P : Program} {fn : Func} {p u : Tmp} {ty : TypeId} (h : fn.results = #[.cell p ty, .tmp u]) (tmps : Array Value) (w : World) (g : Nat) (t : TypeId) (cs : Array Value) (fr : Nat × Nat) (d : TypeDesc)
    (hp : tmps.getD p undef = .pointer (some ⟨g, 0, none⟩)) (hg : w.heap[g]? = some (.cells cs t fr))
    (hu : P.underlying ty = some d) (hd : (match d with | .struct _ | .array _ _ => true | _ => false) = true) (hi : (P.info? ty).map (·.size) = some cs.size) :
    (results fn tmps).run P w = .ok (.tuple #[.agg cs, tmps.getD u undef]) w := by
  have hp' : tmps[p]?.getD undef = .pointer (some ⟨g, 0, none⟩) := by simpa using hp
  rw [results_cell_tmp h]
  simp [hp', asAddr, run_loadVar_row w g t ty cs fr d hg hu hd hi, Result.andThen]
attribute [local irreducible] z32
def rootL (L : List Rv) : List Value := if h : 0 < L.length then rootV (L[L.length - 1]'(by omega)).r.root else z32.toList
def rootE (L : List Rv) : Int := if 0 < L.length then 0 else 7
def RootR (L : List Rv) (w : World) (e : Ending) (w' : World) : Prop := e = .returned (.tuple #[.agg (rootL L).toArray, .int .i64 (rootE L)]) ∧ Below w.heap.size w w'
theorem rootV_range {w : World} {g o : Nat} {x : Rv} (h : w.rangeAt g o (rvL x)) (hr : x.r.root.length = 32) : w.rangeAt g (o + 1) (rootV x.r.root) := fun j u hu => by
  have hl : (rootV x.r.root).length = 32 := by rw [rootV_len, hr]
  have hj : j < 32 := by have := (List.getElem?_eq_some_iff.1 hu).1; omega
  have h1 := h (1 + j) u (by unfold rvL; rw [Nat.add_comm 1 j, List.getElem?_cons_succ, List.getElem?_append_left (by omega)]; exact hu)
  rw [show o + 1 + j = o + (1 + j) by omega]
  exact h1
theorem rootV_one (l : List UInt8) : (rootV l).toArray.all (·.oneCell') = true := by
  rw [List.all_toArray, List.all_eq_true]
  intro u hu
  unfold rootV at hu
  rw [List.mem_map] at hu
  obtain ⟨b, _, rfl⟩ := hu
  rfl
set_option maxRecDepth 100000 in
set_option maxHeartbeats 4000000 in
theorem root_any (ao : Option Addr) (c : Nat) (L : List Rv) (w : World) (hat : RsAt w ao L) (hn : L.length ≤ 9223372036854775807) : Calls Try.prog 10 #[.slice ao L.length c] w (RootR L w) := by
  have HAT := Lib.hid hat
  obtain ⟨n, hnn⟩ : ∃ n, Hid (L.length = n) := ⟨_, Lib.hid rfl⟩
  by_cases hp : 0 < L.length
  · have hil : L.length - 1 < L.length := by omega
    have HOK := HAT.out.1 _ (List.getElem_mem hil)
    obtain ⟨g, o, rfl, hg, hc⟩ := HAT.out.2 (by omega)
    have hr0 := rootV_range (hc _ hil) HOK.root
    have HL : Hid (rootL L = rootV (L[L.length - 1]'hil).r.root) := Lib.hid (by unfold rootL; rw [dif_pos hp])
    have HE : Hid (rootE L = 0) := Lib.hid (by unfold rootE; rw [if_pos hp])
    have hroot := HOK.root
    clear hc HOK hat
    generalize (L[L.length - 1]'hil).r.root = rt at *
    rw [hnn.out] at hn hp hr0 ⊢
    have e1 : ((n : Int) == 0) = false := by simp; omega
    have e2 : (n : Int) - 1 = ((n - 1 : Nat) : Int) := by omega
    have hlen : (rootV rt).length = 32 := by rw [rootV_len, hroot]
    have hone := rootV_one rt
    unfold RootR
    rw [HL.out, HE.out]
    generalize rootV rt = cs at *
    have hsz : (Try.prog.info? 30).map (·.size) = some cs.length := by rw [hlen]; kernel_rfl
    have hsz2 : (Try.prog.info? 30).map (·.size) = some cs.toArray.size := by rw [List.size_toArray]; exact hsz
    have hlen2 : cs.toArray.size = 32 := by rw [List.size_toArray, hlen]
    have hz0 : ¬ (n : Int) = 0 := by omega
    obtain ⟨k, hk⟩ : ∃ k, n - 1 = k := ⟨_, rfl⟩
    have hkn : (k : Int) < (n : Int) := by omega
    rw [hk] at hr0 e2
    have hr1 : ∀ Z, (w.alloc (.cells Z 30)).rangeAt g (o + k * 34 + 1) cs := fun Z => range_below hr0 hg hg ((Below.refl _ _).alloc (Nat.le_refl _) _)
    clear hr0
    go_enter Try.func10, Try.ntmps10
    go_wp2_with (first | (refine wpList_load_mid rfl 30 _ rfl g (o + k * 34 + 1) rfl cs _ (hr1 _) Try.underlying30 rfl hsz ?_) | (refine wpList_store_new rfl 30 _ _ rfl w.heap.size cs.toArray rfl rfl 30 _ (heap_alloc_new _ _) hsz2 (by rw [hlen2]; rfl) hone ?_; intro w2 hrow2 hbel2 hs2))
    refine bodyPost_ret_by (results_ct rfl _ _ w.heap.size 30 cs.toArray (0, 0) _ rfl hrow2 Try.underlying30 rfl hsz2) rfl ⟨rfl, ((Below.refl w.heap.size w).alloc (Nat.le_refl _) _).trans hbel2⟩
  · have hn0 : n = 0 := by have := hnn.out; omega
    have HL : Hid (rootL L = z32.toList) := Lib.hid (by unfold rootL; rw [dif_neg hp])
    have HE : Hid (rootE L = 7) := Lib.hid (by unfold rootE; rw [if_neg hp])
    unfold RootR
    rw [HL.out, HE.out, hnn.out, hn0]
    have hz := zero_dig
    have hb := build_z32
    have hsz2 : (Try.prog.info? 30).map (·.size) = some z32.size := by rw [z32_size]; kernel_rfl
    clear hn0 hp HL HE HAT hat
    go_enter Try.func10, Try.ntmps10
    go_wp2_with (refine wpList_store_new rfl 30 _ _ rfl w.heap.size z32 rfl rfl 30 _ (heap_alloc_new _ _) hsz2 rfl (by with_unfolding_all exact z32_one) ?_; intro w2 hrow2 hbel2 hs2)
    refine bodyPost_ret_by (results_ct rfl _ _ w.heap.size 30 z32 (0, 0) _ rfl hrow2 Try.underlying30 rfl hsz2) rfl ⟨by simp, ((Below.refl w.heap.size w).alloc (Nat.le_refl _) _).trans hbel2⟩
end Go.Proofs.Ytnlgkhggokloeaa
