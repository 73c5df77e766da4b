/- Contracts (cellaret): node.Root, walked. -/
import Derived.Test.YtaneecmfgfkaaaaDoorNoO
namespace Go.Proofs.YtaneecmfgfkaaaaDoor
open Go.RowKit Go.Deep Go.Maps
set_option linter.unusedVariables false
set_option linter.unusedSimpArgs false
theorem flatD_len : ∀ (L : List (List UInt8)), (∀ x ∈ L, x.length = 32) → (L.flatMap bv).length = L.length * 32
  | [], _ => rfl
  | a :: L, h => by
    rw [List.flatMap_cons, List.length_append, flatD_len L (fun x hx => h x (by simp [hx])), bv_len, h a (by simp), List.length_cons]
    omega
theorem flatD_at (L : List (List UInt8)) (h : ∀ x ∈ L, x.length = 32) (i j : Nat) (hi : i < L.length) (hj : j < 32) : (L.flatMap bv)[i * 32 + j]? = (bv L[i])[j]? :=
  flat_at bv 32 L i j hi (fun s hs => (bv_len s).trans (h s hs)) hj
theorem flatD_cells {w : World} {g o : Nat} (L : List (List UInt8)) (h : ∀ x ∈ L, x.length = 32) (hT : ∀ i (hi : i < L.length), w.rangeAt g (o + i * 32) (bv L[i])) : ∀ j u, (L.flatMap bv)[j]? = some u → w.cell? ((⟨g, o, none⟩ : Addr).add j) = some u := fun j u hu => by
  have hj : j < L.length * 32 := by rw [← flatD_len L h]; exact (List.getElem?_eq_some_iff.1 hu).1
  have hi : j / 32 < L.length := by omega
  have e : j = j / 32 * 32 + j % 32 := by omega
  rw [e, flatD_at L h (j / 32) (j % 32) hi (Nat.mod_lt _ (by omega))] at hu
  have := hT (j / 32) hi (j % 32) u hu
  rw [Addr.add_mid]
  have e2 : o + j / 32 * 32 + j % 32 = o + j := by omega
  rw [e2] at this
  exact this
theorem bv_one (l : List UInt8) : ∀ u ∈ bv l, u.oneCell' = true := fun u hu => by
  unfold bv at hu
  obtain ⟨b, _, rfl⟩ := List.mem_map.1 hu
  rfl
theorem own_rowBlk {w : World} {base : Nat} {v : Value} (L : List (List UInt8)) (hL : L.length = 64) (h : ∀ x ∈ L, x.length = 32) (hO : w.ownsRow base 34 32 v (0 + 64) ([] ++ L.flatMap bv)) : ∃ g c, v = .slice (some ⟨g, 0, none⟩) 64 c ∧ base ≤ g ∧ RowD w g c 64 (dg L) := by
  rcases hO.2 with ⟨rfl, h0⟩ | ⟨g, cap, cur, rfl, hb, hg, hnc, hcm, hcs, htake⟩
  · exact absurd h0 (by omega)
  · refine ⟨g, cap, by rw [Nat.zero_add], hb, ⟨cur, hg, hcs, by omega, fun i hi j u hu => ?_⟩, fun i hi => dg_32 L h i (by omega)⟩
    have hi' : i < L.length := by omega
    rw [dg_at L i hi'] at hu
    have hj : j < 32 := by have := (List.getElem?_eq_some_iff.1 hu).1; rwa [bv_len, h _ (List.getElem_mem hi')] at this
    have h1 := flatD_at L h i j hi' hj
    rw [hu] at h1
    rw [List.nil_append] at htake
    rw [← htake, List.getElem?_take, if_pos (by omega), Array.getElem?_toList] at h1
    exact h1
theorem loadAt_dig {w : World} {g o : Nat} {d : List UInt8} (h : w.rangeAt g o (bv d)) (hd : d.length = 32) : (Instr.loadAt 34 (.pointer (some ⟨g, o, none⟩))).run Tryd.prog w = .ok (.agg (digA d)) w :=
  run_loadAt_mid w g o 34 (bv d) _ h Tryd.underlying34 rfl (by rw [bv_len, hd]; kernel_rfl)
/-- What the loads of a round read. -/
structure LdS (g c N p q : Nat) (f : Nat → List UInt8) (A B : Array Value) (w : World) : Prop where
  row : RowD w g c N f
  a : (Instr.loadAt 34 (.pointer (some ⟨g, p * 32, none⟩))).run Tryd.prog w = .ok (.agg A) w
  b : (Instr.loadAt 34 (.pointer (some ⟨g, q * 32, none⟩))).run Tryd.prog w = .ok (.agg B) w
theorem LdS.mk' {g c N p q : Nat} {f : Nat → List UInt8} {w : World} (h : RowD w g c N f) (hp : p < N) (hq : q < N) {A B : Array Value} (hA : digA (f p) = A) (hB : digA (f q) = B) : LdS g c N p q f A B w :=
  ⟨h, by rw [← hA]; exact loadAt_dig (h.range p hp) (h.l32 p hp), by rw [← hB]; exact loadAt_dig (h.range q hq) (h.l32 q hq)⟩
attribute [local irreducible] digA sumL z32 sB lv txs mixF nt oneB bv
set_option maxRecDepth 100000 in
set_option maxHeartbeats 8000000 in
theorem root_x (base : Nat) (o : Option Addr) (X : Option OrS) (L : List (List UInt8)) (la : Option Addr) (c0 : Nat) (w : World) (hG : Gl w) (hbf : 0 < base) (hbk : 1 < base) (hX : OrX base w o X) (hF : FewX X 1000) (hL : L.length = 64) (h32 : ∀ x ∈ L, x.length = 32) (hT : DigAt w la L) :
    Calls Tryd.prog 24 #[.pointer o, .slice la 64 c0] w fun e w' => ∃ X', e = .returned (.tuple #[.agg (digA (rootD 6 L)), .int .i64 0]) ∧ OrX base w' o X' ∧ SumsX X X' (txs L 6 0) ∧ Below base w w' ∧ KeptX w w' X X' := by
  have hz := zero_dig
  obtain ⟨id_, hdi, hdz0, hdz1, hdz2⟩ := info_parts' info_dig'
  have hbw := hX.base
  obtain ⟨g0, o0, rfl, hg0, hrow⟩ := hT (by omega)
  obtain ⟨w1, HW1, hr1, B1, hs1⟩ : ∃ w1, Hid (w.alloc (.cells z32 34) = w1) ∧ w1.heap[w.heap.size]? = some (.cells z32 34 (0, 0)) ∧ Below w.heap.size w w1 ∧ Hid (w1.heap.size = w.heap.size + 1) := ⟨_, Lib.hid rfl, heap_alloc_new _ _, (Below.refl _ _).alloc (Nat.le_refl _) _, Lib.hid (by simp)⟩
  have HL6 : Hid (dg (lv 6 L) 0 = rootD 6 L) := Lib.hid (by rw [lv_root 6 L hL]; rfl)
  have HR0 := Lib.hid hrow
  have HX0 := Lib.hid hX
  have HF0 := Lib.hid hF
  have HL0 := Lib.hid hL
  have H32 := Lib.hid h32
  have HFL := Lib.hid (flatD_len L h32)
  have HF1 : Hid (∀ u ∈ L.flatMap bv, u.oneCell' = true) := Lib.hid (fun u hu => by
    obtain ⟨x, _, hx⟩ := List.mem_flatMap.1 hu
    exact bv_one x u hx)
  clear hrow hX hF hL h32 hT
  go_enter Tryd.func24, Tryd.ntmps24
  go_upto_region 1 with fail
  rw [HW1.out]
  clear HW1
  go_wp2_with fail
  refine (summer_any o _ w1).mono ?_
  rintro e w2 ⟨rfl, c1, c2, b2, hs2⟩
  have hr2 := (b2.block _ (Array.getElem?_eq_some_iff.1 hr1).1).trans hr1
  have B2 := B1.trans (b2.mono B1.size)
  have HS2 : Hid (w2.heap.size = w.heap.size + 3) := Lib.hid (by rw [hs2, hs1.out])
  rw [hs1.out] at c1 c2
  have HC1 := Lib.hid c1
  have HC2 := Lib.hid c2
  have HR2 := Lib.hid hr2
  rw [hs1.out]
  clear c1 c2 hr2 hr1 b2 hs2 hs1 B1
  have HCELL := Lib.hid (fun j u hu => flatD_cells (w := w2) L H32.out (fun i hi => range_below (HR0.out i hi) B2 hg0) j u hu)
  have hsz2 : w2.heap.size ≤ w2.heap.size := Nat.le_refl _
  go_upto_region 5 with (at_builtin; refine wpList_append_src2 _ rfl _ _ 54 54 rfl w2.heap.size 34 id_ (.agg z32) 32 32 Tryd.underlying54 hdi hdz0 hdz1 hdz2 (by with_unfolding_all rfl) (by decide) (.slice none 0 0) 0 [] rfl (by with_unfolding_all exact World.ownsRow_nil _ _ _ _) (.slice (some ⟨g0, o0, none⟩) 64 c0) 64 (L.flatMap bv) rfl (Src.ofSlice _ Tryd.underlying54 ⟨g0, o0, none⟩ 64 c0 (L.flatMap bv) (by rw [HFL.out, HL0.out]) HCELL.out HF1.out) (by unfold maxLen; omega) (by omega) (Nat.le_refl _) ?_; intro v5 w5 O5 G5 A5; obtain ⟨g, c, rfl, hgb, HROW⟩ := own_rowBlk L HL0.out H32.out O5)
  have B5 : Below w.heap.size w w5 := B2.grown G5 B2.size (fun j e => by cases e)
  have b25 : Below w2.heap.size w2 w5 := (Below.refl _ _).grown G5 (Nat.le_refl _) (fun j e => by cases e)
  have HI0 : Hid (RtI base w X o w.heap.size g c 64 (dg (lv 0 L)) (txs L 0 0) 1000 w5 X) := Lib.hid ⟨(b25.block _ (Array.getElem?_eq_some_iff.1 HR2.out).1).trans HR2.out, (b25.cell (p := ⟨w.heap.size + 2, 0, none⟩) (block_lt_of_cell HC1.out)).trans HC1.out, by with_unfolding_all exact (b25.cell (p := ⟨w.heap.size + 1, 0, none⟩) (block_lt_of_cell HC2.out)).trans HC2.out, by with_unfolding_all exact HROW, HX0.out.below B5, by with_unfolding_all exact SumsX.refl X, B5.mono hbw, KeptX.below B5, fun j _ => HX0.out.free _ (by omega), HX0.out.free _ (by rw [HS2.out] at hgb; omega), HF0.out, ⟨hbw, rfl, by rw [HS2.out] at hgb; exact hgb⟩⟩
  clear G5 O5 A5 hgb HROW B5 b25 HC1 HC2 HR2 HS2 hsz2 B2 HCELL HF1 HFL HR0 hdi hdz0 hdz1 hdz2 HX0 HF0
  generalize hbb : w.heap.size = b at *
  have HBB := Lib.hid hbb
  clear hbb
  go_wp2_with fail
  go_loopw [7] (fun x wi => ∃ (h N : Nat) (Xi : Option OrS), x = .slice (some ⟨g, 0, none⟩) N c ∧ h ≤ 6 ∧ Hid (N = 64 / 2 ^ h) ∧ Hid (RtI base w X o b g c N (dg (lv h L)) (txs L h 0) (1000 + 64 * h) wi Xi)) (fun x _ => slN x)
  case atStart => exact ⟨0, 64, X, rfl, by omega, Lib.hid rfl, HI0⟩
  clear HI0
  case round =>
    obtain ⟨h, N, Xi, rfl, hh6, HN, HI⟩ := hrel
    by_cases hlt : h < 6
    · obtain ⟨M, HM⟩ : ∃ M, Hid (M = 64 / 2 ^ (h + 1)) := ⟨_, Lib.hid rfl⟩
      have hNM : N = 2 * M ∧ 1 ≤ M ∧ M ≤ 32 := by
        have := pow_facts h hlt
        rw [← HN.out, ← HM.out] at this
        exact this
      obtain ⟨e1, e2, e3⟩ := hNM
      have hdiv : (N : Int) / 2 = (M : Int) := by omega
      have HNM := Lib.hid e1
      have h1N : (1 : Int) < (N : Int) := by omega
      have hNc : N ≤ c := by
        obtain ⟨cur, _, _, q, _⟩ := HI.out.row.ex
        exact q
      have hMN : (M : Int) ≤ (N : Int) := by omega
      have hN64 : N ≤ 64 := by omega
      clear e1
      have HI1 : Hid (RtI base w X o b g c N (mixF L h 0) (txs L h 0) (1000 + 64 * h + 0) wr Xi) := Lib.hid (HI.out.congr (Nat.le_refl _) (fun i _ => by with_unfolding_all exact mixF_hi L h 0 i (by omega)) rfl (by omega))
      clear HI
      go_wp2_with fail
      go_loopw [25] (fun x wi => ∃ (i : Nat) (Xi : Option OrS), x = .int .i64 (i : Int) ∧ i ≤ M ∧ Hid (RtI base w X o b g c N (mixF L h i) (txs L h i) (1000 + 64 * h + i) wi Xi)) (fun x _ => M - (intOf x).toNat)
      case atStart => exact ⟨0, Xi, rfl, by omega, HI1⟩
      clear HI1
      case round =>
        obtain ⟨i, Xj, rfl, hi, HJ⟩ := hrel
        by_cases hiM : i < M
        · as_aux_lemma =>
          have hli : (i : Int) < (M : Int) := by omega
          obtain ⟨p, HP⟩ : ∃ p, Hid (p = 2 * i) := ⟨_, Lib.hid rfl⟩
          obtain ⟨q, HQ⟩ : ∃ q, Hid (q = 2 * i + 1) := ⟨_, Lib.hid rfl⟩
          have hp2 : 2 * (i : Int) = (p : Int) := by rw [HP.out]; push_cast; rfl
          have hp3 : (p : Int) + 1 = (q : Int) := by rw [HP.out, HQ.out]; push_cast; rfl
          have hpN : (p : Int) < (N : Int) := by have := HNM.out; have := HP.out; omega
          have hqN : (q : Int) < (N : Int) := by have := HNM.out; have := HQ.out; omega
          have hq64 : (q : Int) ≤ 64 := by omega
          have wr1 : IntKind.i64.wrap (p : Int) = (p : Int) := wrap64 _ (by omega) (by omega)
          have wr2 : IntKind.i64.wrap (q : Int) = (q : Int) := wrap64 _ (by omega) (by omega)
          have h0p : 0 ≤ (p : Int) := by omega
          have h0q : 0 ≤ (q : Int) := by omega
          have hiN : (i : Int) < (N : Int) := by omega
          have h0N : i < N := by omega
          have LA := HJ.out.row.l32 p (by omega)
          have LB := HJ.out.row.l32 q (by omega)
          have EA : mixF L h i p = dg (lv h L) (2 * i) := by rw [HP.out]; with_unfolding_all exact mixF_hi L h i _ (by omega)
          have EB : mixF L h i q = dg (lv h L) (2 * i + 1) := by rw [HQ.out]; with_unfolding_all exact mixF_hi L h i _ (by omega)
          have HMK : Hid (∀ w', RowD w' g c N (mixF L h i) → w'.rangeAt g (p * 32) (bv (mixF L h i p)) ∧ w'.rangeAt g (q * 32) (bv (mixF L h i q))) := Lib.hid (fun w' hr => ⟨hr.range p (by omega), hr.range q (by omega)⟩)
          have HLA : Hid ((bv (mixF L h i p)).length = 32) := Lib.hid ((bv_len _).trans LA)
          have HLB : Hid ((bv (mixF L h i q)).length = 32) := Lib.hid ((bv_len _).trans LB)
          have HBA : Hid ((bv (mixF L h i p)).toArray = digA (mixF L h i p)) := Lib.hid (by with_unfolding_all rfl)
          have HBB2 : Hid ((bv (mixF L h i q)).toArray = digA (mixF L h i q)) := Lib.hid (by with_unfolding_all rfl)
          have HJN := Lib.hid (fun w => join_any (mixF L h i p) (mixF L h i q) LA LB w)
          have ENT : (oneB ++ sB (mixF L h i p ++ mixF L h i q)).data.toList = nt L h i := by with_unfolding_all (rw [oneB_nd, EA, EB]; rfl)
          have hss : (sB (mixF L h i p ++ mixF L h i q)).size = 64 := by with_unfolding_all (rw [sB_size, List.length_append, LA, LB])
          have HSR : Hid (∀ wc Xc, Gl wc → OrX base wc o Xc → FewX Xc 1000000 → wc.cell? ⟨b + 2, 0, none⟩ = some (.func (.func 13) #[.pointer o] #[]) → wc.cell? ⟨b + 1, 0, none⟩ = some (.string oneB) → Calls Tryd.prog 53 #[.string (sB (mixF L h i p ++ mixF L h i q)), .pointer (some ⟨b + 1 + 1, 0, none⟩), .pointer (some ⟨b + 1, 0, none⟩)] wc fun e w' => ∃ X', e = .returned (.tuple #[.agg (digA (sumL (nt L h i))), .int .i64 0]) ∧ OrX base w' o X' ∧ SumX Xc X' (nt L h i) ∧ Below base wc w' ∧ KeptX wc w' Xc X') := Lib.hid (fun wc Xc h1 h2 h3 h4 h5 => by
            have := sumr_x base o Xc (sB (mixF L h i p ++ mixF L h i q)) oneB (b + 1 + 1) (b + 1) wc h1 hbf hbk h2 h3 hss (by with_unfolding_all decide) h4 h5
            rw [ENT] at this
            exact this)
          have HNODE := Lib.hid (lv_node L HL0.out h i hlt (by rw [← HM.out]; exact hiM))
          have HTX := Lib.hid (txs_snoc L h i)
          have HMS := Lib.hid (mixF_step L h i)
          have hdz : (digA (sumL (nt L h i))).size = 32 := by with_unfolding_all (rw [digA_size, sumL_len])
          have hone : (digA (sumL (nt L h i))).all (·.oneCell') = true := by with_unfolding_all exact digA_one _
          have HDL : Hid ((digA (sumL (nt L h i))).toList = bv (sumL (nt L h i))) := Lib.hid (by with_unfolding_all rfl)
          have H32N := Lib.hid (sumL_len (nt L h i))
          clear LA LB EA EB ENT hss
          obtain ⟨DA, HDA⟩ : ∃ DA, digA (mixF L h i p) = DA := ⟨_, rfl⟩
          obtain ⟨DB, HDB⟩ : ∃ DB, digA (mixF L h i q) = DB := ⟨_, rfl⟩
          rw [HDA, HDB] at HJN
          rw [HDA] at HBA
          rw [HDB] at HBB2
          clear HDA HDB
          generalize bv (mixF L h i p) = VA at *
          generalize bv (mixF L h i q) = VB at *
          generalize sB (mixF L h i p ++ mixF L h i q) = sAB at *
          generalize digA (sumL (nt L h i)) = DN at *
          go_upto_region 9 with fail
          have HC : Hid (RtI base w X o b g c N (mixF L h i) (txs L h i) (1000 + 64 * h + i) wr.drew Xj) := Lib.hid (HJ.out.below (Below.refl _ _).drew)
          clear HJ
          refine wp_region_noPanic ?_
          refine wp_region_held_drew (S := (fun w' => w'.rangeAt g (p * 32) VA ∧ w'.rangeAt g (q * 32) VB)) (by kernel_rfl) ?_ (fun hHeld => ?_)
          · (try dsimp only); exact HMK.out _ HC.out.row
          generalize World.drew wr = wd at *
          refine wpAnyH_take (i := 0) (oi := { dst := some 29, op := Go.Op.move (Go.Operand.tmp 6), type := 85, pos := "node.go:126", after := #[], guard := none }) (v := ?_) rfl (by kernel_rfl) (by kernel_rfl) (by kernel_rfl) (fun _ _ _ h => h) (Or.inl ⟨by rfl, ?_⟩) (by assumption) ?_
          rotate_left
          · (intro w hSw; (try dsimp only at hSw); go_simp; (try (with_reducible rfl)); done)
          try simp only [Act.put, List.setIfInBounds_toArray, List.set_cons_zero, List.set_cons_succ]
          refine wpAnyH_take (i := 1) (oi := { dst := some 30, op := Go.Op.move (Go.Operand.tmp 7), type := 54, pos := "node.go:126", after := #[], guard := none }) (v := ?_) rfl (by kernel_rfl) (by kernel_rfl) (by kernel_rfl) (fun _ _ _ h => h) (Or.inl ⟨by rfl, ?_⟩) (by assumption) ?_
          rotate_left
          · (intro w hSw; (try dsimp only at hSw); go_simp; (try (with_reducible rfl)); done)
          try simp only [Act.put, List.setIfInBounds_toArray, List.set_cons_zero, List.set_cons_succ]
          refine wpAnyH_take (i := 2) (oi := { dst := some 31, op := Go.Op.move (Go.Operand.tmp 8), type := 3, pos := "node.go:126", after := #[], guard := none }) (v := ?_) rfl (by kernel_rfl) (by kernel_rfl) (by kernel_rfl) (fun _ _ _ h => h) (Or.inl ⟨by rfl, ?_⟩) (by assumption) ?_
          rotate_left
          · (intro w hSw; (try dsimp only at hSw); go_simp; (try (with_reducible rfl)); done)
          try simp only [Act.put, List.setIfInBounds_toArray, List.set_cons_zero, List.set_cons_succ]
          refine wpAnyH_take (i := 3) (oi := { dst := some 32, op := Go.Op.binOp Go.BinOp.mul 3 (Go.Operand.const (Go.Value.int Go.IntKind.i64 2)) (Go.Operand.tmp 31) 3, type := 3, pos := "node.go:126", after := #[{ on := 2, ground := Go.Ground.data }], guard := none }) (v := ?_) rfl (by kernel_rfl) (by kernel_rfl) (by kernel_rfl) (fun _ _ _ h => h) (Or.inl ⟨by rfl, ?_⟩) (by assumption) ?_
          rotate_left
          · (intro w hSw; (try dsimp only at hSw); go_simp; (try (with_reducible rfl)); done)
          try simp only [Act.put, List.setIfInBounds_toArray, List.set_cons_zero, List.set_cons_succ]
          refine wpAnyH_take (i := 4) (oi := { dst := some 33, op := Go.Op.indexAddr 54 (Go.Operand.tmp 30) (Go.Operand.tmp 32), type := 0, pos := "node.go:126", after := #[{ on := 1, ground := Go.Ground.data }, { on := 3, ground := Go.Ground.data }], guard := none }) (v := ?_) rfl (by kernel_rfl) (by kernel_rfl) (by kernel_rfl) (fun _ _ _ h => h) (Or.inl ⟨by rfl, ?_⟩) (by assumption) ?_
          rotate_left
          · (intro w hSw; (try dsimp only at hSw); go_simp; (try (with_reducible rfl)); done)
          try simp only [Act.put, List.setIfInBounds_toArray, List.set_cons_zero, List.set_cons_succ]
          refine wpAnyH_take (i := 5) (oi := { dst := some 34, op := Go.Op.load 34 (Go.Operand.tmp 33), type := 34, pos := "node.go:126", after := #[{ on := 4, ground := Go.Ground.data }], guard := none }) rfl (by kernel_rfl) (by kernel_rfl) (by kernel_rfl) (fun _ _ _ h => h) (yieldsIf_load_mid (by rfl) _ _ rfl g (p * 32) rfl VA _ (fun _ h => h.1) Tryd.underlying34 rfl (by rw [HLA.out]; kernel_rfl)) (by assumption) ?_
          rw [HBA.out]
          try simp only [Act.put, List.setIfInBounds_toArray, List.set_cons_zero, List.set_cons_succ]
          refine wpAnyH_take (i := 6) (oi := { dst := some 35, op := Go.Op.move (Go.Operand.tmp 7), type := 54, pos := "node.go:126", after := #[], guard := none }) (v := ?_) rfl (by kernel_rfl) (by kernel_rfl) (by kernel_rfl) (fun _ _ _ h => h) (Or.inl ⟨by rfl, ?_⟩) (by assumption) ?_
          rotate_left
          · (intro w hSw; (try dsimp only at hSw); go_simp; (try (with_reducible rfl)); done)
          try simp only [Act.put, List.setIfInBounds_toArray, List.set_cons_zero, List.set_cons_succ]
          refine wpAnyH_take (i := 7) (oi := { dst := some 36, op := Go.Op.move (Go.Operand.tmp 8), type := 3, pos := "node.go:126", after := #[], guard := none }) (v := ?_) rfl (by kernel_rfl) (by kernel_rfl) (by kernel_rfl) (fun _ _ _ h => h) (Or.inl ⟨by rfl, ?_⟩) (by assumption) ?_
          rotate_left
          · (intro w hSw; (try dsimp only at hSw); go_simp; (try (with_reducible rfl)); done)
          try simp only [Act.put, List.setIfInBounds_toArray, List.set_cons_zero, List.set_cons_succ]
          refine wpAnyH_take (i := 8) (oi := { dst := some 37, op := Go.Op.binOp Go.BinOp.mul 3 (Go.Operand.const (Go.Value.int Go.IntKind.i64 2)) (Go.Operand.tmp 36) 3, type := 3, pos := "node.go:126", after := #[{ on := 7, ground := Go.Ground.data }], guard := none }) (v := ?_) rfl (by kernel_rfl) (by kernel_rfl) (by kernel_rfl) (fun _ _ _ h => h) (Or.inl ⟨by rfl, ?_⟩) (by assumption) ?_
          rotate_left
          · (intro w hSw; (try dsimp only at hSw); go_simp; (try (with_reducible rfl)); done)
          try simp only [Act.put, List.setIfInBounds_toArray, List.set_cons_zero, List.set_cons_succ]
          refine wpAnyH_take (i := 9) (oi := { dst := some 38, op := Go.Op.binOp Go.BinOp.add 3 (Go.Operand.tmp 37) (Go.Operand.const (Go.Value.int Go.IntKind.i64 1)) 3, type := 3, pos := "node.go:126", after := #[{ on := 8, ground := Go.Ground.data }], guard := none }) (v := ?_) rfl (by kernel_rfl) (by kernel_rfl) (by kernel_rfl) (fun _ _ _ h => h) (Or.inl ⟨by rfl, ?_⟩) (by assumption) ?_
          rotate_left
          · (intro w hSw; (try dsimp only at hSw); go_simp; (try (with_reducible rfl)); done)
          try simp only [Act.put, List.setIfInBounds_toArray, List.set_cons_zero, List.set_cons_succ]
          refine wpAnyH_take (i := 10) (oi := { dst := some 39, op := Go.Op.indexAddr 54 (Go.Operand.tmp 35) (Go.Operand.tmp 38), type := 0, pos := "node.go:126", after := #[{ on := 6, ground := Go.Ground.data }, { on := 9, ground := Go.Ground.data }], guard := none }) (v := ?_) rfl (by kernel_rfl) (by kernel_rfl) (by kernel_rfl) (fun _ _ _ h => h) (Or.inl ⟨by rfl, ?_⟩) (by assumption) ?_
          rotate_left
          · (intro w hSw; (try dsimp only at hSw); go_simp; (try (with_reducible rfl)); done)
          try simp only [Act.put, List.setIfInBounds_toArray, List.set_cons_zero, List.set_cons_succ]
          refine wpAnyH_take (i := 11) (oi := { dst := some 40, op := Go.Op.load 34 (Go.Operand.tmp 39), type := 34, pos := "node.go:126", after := #[{ on := 10, ground := Go.Ground.data }], guard := none }) rfl (by kernel_rfl) (by kernel_rfl) (by kernel_rfl) (fun _ _ _ h => h) (yieldsIf_load_mid (by rfl) _ _ rfl g (q * 32) rfl VB _ (fun _ h => h.2) Tryd.underlying34 rfl (by rw [HLB.out]; kernel_rfl)) (by assumption) ?_
          rw [HBB2.out]
          try simp only [Act.put, List.setIfInBounds_toArray, List.set_cons_zero, List.set_cons_succ]
          refine wpAnyH_ready (rs := [12, 17]) (by kernel_rfl) (by simp) ?_
          refine AllReadyH.cons (o := { dst := some 41, op := Go.Op.call { callee := Go.Callee.value (Go.Operand.func 41), args := #[Go.Operand.tmp 34, Go.Operand.tmp 40], argTypes := #[34, 34] }, type := 9, pos := "node.go:126", after := #[{ on := 5, ground := Go.Ground.data }, { on := 11, ground := Go.Ground.data }], guard := none }) rfl (fun K hK => ?_) (AllReadyH.cons (o := { dst := some 9, op := Go.Op.alloc 34, type := 0, pos := "node.go:126", after := #[], guard := none }) rfl (fun K hK => ?_) AllReadyH.nil)
          ·
            (go_simp; go_at_call 41; refine (HJN.out _).mono ?_; rintro e w' ⟨rfl, hb⟩; have HC := Lib.hid (HC.out.below hb); (try have HZ := Lib.hid (HZ.out.below hb)))
            try go_wp2_with fail
            refine hK.out _ _ ?_ (fun hHeld => ?_)
            · (try dsimp only); exact HMK.out _ HC.out.row
            clear hK K
            try simp only [Act.put, List.setIfInBounds_toArray, List.set_cons_zero, List.set_cons_succ]
            refine wpAnyH_ready (rs := [13, 17]) (by kernel_rfl) (by simp) ?_
            refine AllReadyH.cons (o := { dst := some 42, op := Go.Op.call { callee := Go.Callee.value (Go.Operand.tmp 29), args := #[Go.Operand.tmp 41], argTypes := #[9] }, type := 44, pos := "node.go:126", after := #[{ on := 0, ground := Go.Ground.data }, { on := 12, ground := Go.Ground.data }, { on := 12, ground := Go.Ground.chain }], guard := none }) rfl (fun K hK => ?_) (AllReadyH.cons (o := { dst := some 9, op := Go.Op.alloc 34, type := 0, pos := "node.go:126", after := #[], guard := none }) rfl (fun K hK => ?_) AllReadyH.nil)
            ·
              (go_simp; go_at_call 53; refine (HSR.out _ _ (Gl.at_ hG HC.out.bel hbf hbk) HC.out.hx (HC.out.fw.mono (by omega)) HC.out.c1 HC.out.c2).mono ?_; rintro e w' ⟨X', rfl, q1, q2, q3, q4⟩; have HC := Lib.hid (HC.out.sum q1 q2 q3 q4); (try have HZ := Lib.hid (HZ.out.kept q4)); clear q1 q2 q3 q4)
              try go_wp2_with fail
              refine hK.out _ _ ?_ (fun hHeld => ?_)
              · (try dsimp only); exact HMK.out _ HC.out.row
              clear hK K
              try simp only [Act.put, List.setIfInBounds_toArray, List.set_cons_zero, List.set_cons_succ]
              refine wpAnyH_take (i := 14) (oi := { dst := some 28, op := Go.Op.move (Go.Operand.tmp 42), type := 44, pos := "node.go:126", after := #[{ on := 13, ground := Go.Ground.data }], guard := none }) (v := ?_) rfl (by kernel_rfl) (by kernel_rfl) (by kernel_rfl) (fun _ _ _ h => h) (Or.inl ⟨by rfl, ?_⟩) (by assumption) ?_
              rotate_left
              · (intro w hSw; (try dsimp only at hSw); go_simp; (try (with_reducible rfl)); done)
              try simp only [Act.put, List.setIfInBounds_toArray, List.set_cons_zero, List.set_cons_succ]
              refine wpAnyH_take (i := 15) (oi := { dst := some 43, op := Go.Op.extract (Go.Operand.tmp 28) 0, type := 34, pos := "node.go:126", after := #[{ on := 14, ground := Go.Ground.data }], guard := none }) (v := ?_) rfl (by kernel_rfl) (by kernel_rfl) (by kernel_rfl) (fun _ _ _ h => h) (Or.inl ⟨by rfl, ?_⟩) (by assumption) ?_
              rotate_left
              · (intro w hSw; (try dsimp only at hSw); go_simp; (try (with_reducible rfl)); done)
              try simp only [Act.put, List.setIfInBounds_toArray, List.set_cons_zero, List.set_cons_succ]
              refine wpAnyH_take (i := 16) (oi := { dst := some 44, op := Go.Op.extract (Go.Operand.tmp 28) 1, type := 30, pos := "node.go:126", after := #[{ on := 14, ground := Go.Ground.data }, { on := 18, ground := Go.Ground.gcOnly Go.Departure.lateStores }], guard := none }) (v := ?_) rfl (by kernel_rfl) (by kernel_rfl) (by kernel_rfl) (fun _ _ _ h => h) (Or.inl ⟨by rfl, ?_⟩) (by assumption) ?_
              rotate_left
              · (intro w hSw; (try dsimp only at hSw); go_simp; (try (with_reducible rfl)); done)
              try simp only [Act.put, List.setIfInBounds_toArray, List.set_cons_zero, List.set_cons_succ]
              refine wpAnyH_ready (rs := [17]) (by kernel_rfl) (by simp) ?_
              refine AllReadyH.cons (o := { dst := some 9, op := Go.Op.alloc 34, type := 0, pos := "node.go:126", after := #[], guard := none }) rfl (fun K hK => ?_) AllReadyH.nil
              go_simp
              refine alloc_step hK (HMK.out _ ((HC.out.below ((Below.refl _ _).alloc (Nat.le_refl _) _)).row)) (fun W' hW' hz hHeld => ?_); have HZ := Lib.hid (BlkF.mk hz (HC.out.hx.free _ (Nat.le_refl _)) HC.out.row.lt); have HC := Lib.hid (HC.out.below (w' := W') (by rw [hW'.out]; exact (Below.refl _ _).alloc (Nat.le_refl _) _)); clear hz hW'
              clear hK K
              try simp only [Act.put, List.setIfInBounds_toArray, List.set_cons_zero, List.set_cons_succ]
              refine wpAnyH_ready (rs := [18]) (by kernel_rfl) (by simp) ?_
              refine AllReadyH.cons (o := { dst := none, op := Go.Op.store 34 (Go.Operand.tmp 9) (Go.Operand.tmp 43), type := 0, pos := "node.go:126", after := #[{ on := 17, ground := Go.Ground.data }, { on := 15, ground := Go.Ground.data }, { on := 13, ground := Go.Ground.chain }, { on := 0, ground := Go.Ground.phase }, { on := 1, ground := Go.Ground.phase }, { on := 2, ground := Go.Ground.phase }, { on := 3, ground := Go.Ground.phase }, { on := 4, ground := Go.Ground.phase }, { on := 5, ground := Go.Ground.phase }, { on := 6, ground := Go.Ground.phase }, { on := 7, ground := Go.Ground.phase }, { on := 8, ground := Go.Ground.phase }, { on := 9, ground := Go.Ground.phase }, { on := 10, ground := Go.Ground.phase }, { on := 11, ground := Go.Ground.phase }, { on := 12, ground := Go.Ground.phase }, { on := 13, ground := Go.Ground.phase }, { on := 14, ground := Go.Ground.phase }, { on := 15, ground := Go.Ground.phase }, { on := 16, ground := Go.Ground.textOnly Go.Departure.lateStores }, { on := 17, ground := Go.Ground.phase }], guard := none }) rfl (fun K hK => ?_) AllReadyH.nil
              (rw [if_pos (by rfl)]; refine wp_store_row _ _ _ rfl _ DN rfl rfl 34 _ HZ.out.h (by rw [hdz]; kernel_rfl) (by rw [hdz, z32_size']) hone ?_)
              refine any_step hK (HMK.out _ (HC.out.rowp _ DN HZ.out.f HZ.out.lb).row) (fun W' hW' hHeld => ?_); have HC := Lib.hid (hW'.out ▸ HC.out.rowp _ DN HZ.out.f HZ.out.lb); have HD := Lib.hid (hW'.out ▸ setRow_heap _ _ _ DN 34 (0, 0) HZ.out.h); clear hW' HZ
              clear hK K
              try simp only [Act.put, List.setIfInBounds_toArray, List.set_cons_zero, List.set_cons_succ]
              refine wpAnyH_take (i := 19) (oi := { dst := some 10, op := Go.Op.assign (Go.Operand.tmp 44), type := 30, pos := "node.go:126", after := #[{ on := 16, ground := Go.Ground.data }, { on := 18, ground := Go.Ground.chain }, { on := 0, ground := Go.Ground.phase }, { on := 1, ground := Go.Ground.phase }, { on := 2, ground := Go.Ground.phase }, { on := 3, ground := Go.Ground.phase }, { on := 4, ground := Go.Ground.phase }, { on := 5, ground := Go.Ground.phase }, { on := 6, ground := Go.Ground.phase }, { on := 7, ground := Go.Ground.phase }, { on := 8, ground := Go.Ground.phase }, { on := 9, ground := Go.Ground.phase }, { on := 10, ground := Go.Ground.phase }, { on := 11, ground := Go.Ground.phase }, { on := 12, ground := Go.Ground.phase }, { on := 13, ground := Go.Ground.phase }, { on := 14, ground := Go.Ground.phase }, { on := 15, ground := Go.Ground.phase }, { on := 16, ground := Go.Ground.phase }, { on := 17, ground := Go.Ground.phase }, { on := 18, ground := Go.Ground.phase }], guard := none }) (v := ?_) rfl (by kernel_rfl) (by kernel_rfl) (by kernel_rfl) (fun _ _ _ h => h) (Or.inl ⟨by rfl, ?_⟩) (by assumption) ?_
              rotate_left
              · (intro w hSw; (try dsimp only at hSw); go_simp; (try (with_reducible rfl)); done)
              try simp only [Act.put, List.setIfInBounds_toArray, List.set_cons_zero, List.set_cons_succ]
              refine wpAnyH_done (by kernel_rfl) ?_ _
              refine NoPanic.normal ?_
              have hd9 := HD.out
              go_wp2_with (first | (refine wpList_load_row rfl _ _ rfl _ rfl 34 DN (0, 0) _ hd9 Tryd.underlying34 rfl (by rw [hdz]; kernel_rfl) ?_) | (refine wpList_store_mid rfl 34 _ _ rfl g (i * 32) DN rfl rfl (by rw [hdz]; exact HC.out.row.there i h0N) (by rw [hdz]; kernel_rfl) hone ?_; rw [HDL.out]))
              go_roundw
              case rel => exact ⟨i + 1, X', by go_num, by omega, Lib.hid ((HC.out.set i h0N _ H32N.out).congr (Nat.le_refl _) (fun k _ => by rw [HMS.out k, HNODE.out]) HTX.out (by omega))⟩
              case measure => (simp [intOf]; omega)
            ·
              go_simp
              refine alloc_step hK (HMK.out _ ((HC.out.below ((Below.refl _ _).alloc (Nat.le_refl _) _)).row)) (fun W' hW' hz hHeld => ?_); have HZ := Lib.hid (BlkF.mk hz (HC.out.hx.free _ (Nat.le_refl _)) HC.out.row.lt); have HC := Lib.hid (HC.out.below (w' := W') (by rw [hW'.out]; exact (Below.refl _ _).alloc (Nat.le_refl _) _)); clear hz hW'
              clear hK K
              try simp only [Act.put, List.setIfInBounds_toArray, List.set_cons_zero, List.set_cons_succ]
              refine wpAnyH_ready (rs := [13]) (by kernel_rfl) (by simp) ?_
              refine AllReadyH.cons (o := { dst := some 42, op := Go.Op.call { callee := Go.Callee.value (Go.Operand.tmp 29), args := #[Go.Operand.tmp 41], argTypes := #[9] }, type := 44, pos := "node.go:126", after := #[{ on := 0, ground := Go.Ground.data }, { on := 12, ground := Go.Ground.data }, { on := 12, ground := Go.Ground.chain }], guard := none }) rfl (fun K hK => ?_) AllReadyH.nil
              (go_simp; go_at_call 53; refine (HSR.out _ _ (Gl.at_ hG HC.out.bel hbf hbk) HC.out.hx (HC.out.fw.mono (by omega)) HC.out.c1 HC.out.c2).mono ?_; rintro e w' ⟨X', rfl, q1, q2, q3, q4⟩; have HC := Lib.hid (HC.out.sum q1 q2 q3 q4); (try have HZ := Lib.hid (HZ.out.kept q4)); clear q1 q2 q3 q4)
              try go_wp2_with fail
              refine hK.out _ _ ?_ (fun hHeld => ?_)
              · (try dsimp only); exact HMK.out _ HC.out.row
              clear hK K
              try simp only [Act.put, List.setIfInBounds_toArray, List.set_cons_zero, List.set_cons_succ]
              refine wpAnyH_take (i := 14) (oi := { dst := some 28, op := Go.Op.move (Go.Operand.tmp 42), type := 44, pos := "node.go:126", after := #[{ on := 13, ground := Go.Ground.data }], guard := none }) (v := ?_) rfl (by kernel_rfl) (by kernel_rfl) (by kernel_rfl) (fun _ _ _ h => h) (Or.inl ⟨by rfl, ?_⟩) (by assumption) ?_
              rotate_left
              · (intro w hSw; (try dsimp only at hSw); go_simp; (try (with_reducible rfl)); done)
              try simp only [Act.put, List.setIfInBounds_toArray, List.set_cons_zero, List.set_cons_succ]
              refine wpAnyH_take (i := 15) (oi := { dst := some 43, op := Go.Op.extract (Go.Operand.tmp 28) 0, type := 34, pos := "node.go:126", after := #[{ on := 14, ground := Go.Ground.data }], guard := none }) (v := ?_) rfl (by kernel_rfl) (by kernel_rfl) (by kernel_rfl) (fun _ _ _ h => h) (Or.inl ⟨by rfl, ?_⟩) (by assumption) ?_
              rotate_left
              · (intro w hSw; (try dsimp only at hSw); go_simp; (try (with_reducible rfl)); done)
              try simp only [Act.put, List.setIfInBounds_toArray, List.set_cons_zero, List.set_cons_succ]
              refine wpAnyH_take (i := 16) (oi := { dst := some 44, op := Go.Op.extract (Go.Operand.tmp 28) 1, type := 30, pos := "node.go:126", after := #[{ on := 14, ground := Go.Ground.data }, { on := 18, ground := Go.Ground.gcOnly Go.Departure.lateStores }], guard := none }) (v := ?_) rfl (by kernel_rfl) (by kernel_rfl) (by kernel_rfl) (fun _ _ _ h => h) (Or.inl ⟨by rfl, ?_⟩) (by assumption) ?_
              rotate_left
              · (intro w hSw; (try dsimp only at hSw); go_simp; (try (with_reducible rfl)); done)
              try simp only [Act.put, List.setIfInBounds_toArray, List.set_cons_zero, List.set_cons_succ]
              refine wpAnyH_ready (rs := [18]) (by kernel_rfl) (by simp) ?_
              refine AllReadyH.cons (o := { dst := none, op := Go.Op.store 34 (Go.Operand.tmp 9) (Go.Operand.tmp 43), type := 0, pos := "node.go:126", after := #[{ on := 17, ground := Go.Ground.data }, { on := 15, ground := Go.Ground.data }, { on := 13, ground := Go.Ground.chain }, { on := 0, ground := Go.Ground.phase }, { on := 1, ground := Go.Ground.phase }, { on := 2, ground := Go.Ground.phase }, { on := 3, ground := Go.Ground.phase }, { on := 4, ground := Go.Ground.phase }, { on := 5, ground := Go.Ground.phase }, { on := 6, ground := Go.Ground.phase }, { on := 7, ground := Go.Ground.phase }, { on := 8, ground := Go.Ground.phase }, { on := 9, ground := Go.Ground.phase }, { on := 10, ground := Go.Ground.phase }, { on := 11, ground := Go.Ground.phase }, { on := 12, ground := Go.Ground.phase }, { on := 13, ground := Go.Ground.phase }, { on := 14, ground := Go.Ground.phase }, { on := 15, ground := Go.Ground.phase }, { on := 16, ground := Go.Ground.textOnly Go.Departure.lateStores }, { on := 17, ground := Go.Ground.phase }], guard := none }) rfl (fun K hK => ?_) AllReadyH.nil
              (rw [if_pos (by rfl)]; refine wp_store_row _ _ _ rfl _ DN rfl rfl 34 _ HZ.out.h (by rw [hdz]; kernel_rfl) (by rw [hdz, z32_size']) hone ?_)
              refine any_step hK (HMK.out _ (HC.out.rowp _ DN HZ.out.f HZ.out.lb).row) (fun W' hW' hHeld => ?_); have HC := Lib.hid (hW'.out ▸ HC.out.rowp _ DN HZ.out.f HZ.out.lb); have HD := Lib.hid (hW'.out ▸ setRow_heap _ _ _ DN 34 (0, 0) HZ.out.h); clear hW' HZ
              clear hK K
              try simp only [Act.put, List.setIfInBounds_toArray, List.set_cons_zero, List.set_cons_succ]
              refine wpAnyH_take (i := 19) (oi := { dst := some 10, op := Go.Op.assign (Go.Operand.tmp 44), type := 30, pos := "node.go:126", after := #[{ on := 16, ground := Go.Ground.data }, { on := 18, ground := Go.Ground.chain }, { on := 0, ground := Go.Ground.phase }, { on := 1, ground := Go.Ground.phase }, { on := 2, ground := Go.Ground.phase }, { on := 3, ground := Go.Ground.phase }, { on := 4, ground := Go.Ground.phase }, { on := 5, ground := Go.Ground.phase }, { on := 6, ground := Go.Ground.phase }, { on := 7, ground := Go.Ground.phase }, { on := 8, ground := Go.Ground.phase }, { on := 9, ground := Go.Ground.phase }, { on := 10, ground := Go.Ground.phase }, { on := 11, ground := Go.Ground.phase }, { on := 12, ground := Go.Ground.phase }, { on := 13, ground := Go.Ground.phase }, { on := 14, ground := Go.Ground.phase }, { on := 15, ground := Go.Ground.phase }, { on := 16, ground := Go.Ground.phase }, { on := 17, ground := Go.Ground.phase }, { on := 18, ground := Go.Ground.phase }], guard := none }) (v := ?_) rfl (by kernel_rfl) (by kernel_rfl) (by kernel_rfl) (fun _ _ _ h => h) (Or.inl ⟨by rfl, ?_⟩) (by assumption) ?_
              rotate_left
              · (intro w hSw; (try dsimp only at hSw); go_simp; (try (with_reducible rfl)); done)
              try simp only [Act.put, List.setIfInBounds_toArray, List.set_cons_zero, List.set_cons_succ]
              refine wpAnyH_done (by kernel_rfl) ?_ _
              refine NoPanic.normal ?_
              have hd9 := HD.out
              go_wp2_with (first | (refine wpList_load_row rfl _ _ rfl _ rfl 34 DN (0, 0) _ hd9 Tryd.underlying34 rfl (by rw [hdz]; kernel_rfl) ?_) | (refine wpList_store_mid rfl 34 _ _ rfl g (i * 32) DN rfl rfl (by rw [hdz]; exact HC.out.row.there i h0N) (by rw [hdz]; kernel_rfl) hone ?_; rw [HDL.out]))
              go_roundw
              case rel => exact ⟨i + 1, X', by go_num, by omega, Lib.hid ((HC.out.set i h0N _ H32N.out).congr (Nat.le_refl _) (fun k _ => by rw [HMS.out k, HNODE.out]) HTX.out (by omega))⟩
              case measure => (simp [intOf]; omega)
          ·
            go_simp
            refine alloc_step hK (HMK.out _ ((HC.out.below ((Below.refl _ _).alloc (Nat.le_refl _) _)).row)) (fun W' hW' hz hHeld => ?_); have HZ := Lib.hid (BlkF.mk hz (HC.out.hx.free _ (Nat.le_refl _)) HC.out.row.lt); have HC := Lib.hid (HC.out.below (w' := W') (by rw [hW'.out]; exact (Below.refl _ _).alloc (Nat.le_refl _) _)); clear hz hW'
            clear hK K
            try simp only [Act.put, List.setIfInBounds_toArray, List.set_cons_zero, List.set_cons_succ]
            refine wpAnyH_ready (rs := [12]) (by kernel_rfl) (by simp) ?_
            refine AllReadyH.cons (o := { dst := some 41, op := Go.Op.call { callee := Go.Callee.value (Go.Operand.func 41), args := #[Go.Operand.tmp 34, Go.Operand.tmp 40], argTypes := #[34, 34] }, type := 9, pos := "node.go:126", after := #[{ on := 5, ground := Go.Ground.data }, { on := 11, ground := Go.Ground.data }], guard := none }) rfl (fun K hK => ?_) AllReadyH.nil
            (go_simp; go_at_call 41; refine (HJN.out _).mono ?_; rintro e w' ⟨rfl, hb⟩; have HC := Lib.hid (HC.out.below hb); (try have HZ := Lib.hid (HZ.out.below hb)))
            try go_wp2_with fail
            refine hK.out _ _ ?_ (fun hHeld => ?_)
            · (try dsimp only); exact HMK.out _ HC.out.row
            clear hK K
            try simp only [Act.put, List.setIfInBounds_toArray, List.set_cons_zero, List.set_cons_succ]
            refine wpAnyH_ready (rs := [13]) (by kernel_rfl) (by simp) ?_
            refine AllReadyH.cons (o := { dst := some 42, op := Go.Op.call { callee := Go.Callee.value (Go.Operand.tmp 29), args := #[Go.Operand.tmp 41], argTypes := #[9] }, type := 44, pos := "node.go:126", after := #[{ on := 0, ground := Go.Ground.data }, { on := 12, ground := Go.Ground.data }, { on := 12, ground := Go.Ground.chain }], guard := none }) rfl (fun K hK => ?_) AllReadyH.nil
            (go_simp; go_at_call 53; refine (HSR.out _ _ (Gl.at_ hG HC.out.bel hbf hbk) HC.out.hx (HC.out.fw.mono (by omega)) HC.out.c1 HC.out.c2).mono ?_; rintro e w' ⟨X', rfl, q1, q2, q3, q4⟩; have HC := Lib.hid (HC.out.sum q1 q2 q3 q4); (try have HZ := Lib.hid (HZ.out.kept q4)); clear q1 q2 q3 q4)
            try go_wp2_with fail
            refine hK.out _ _ ?_ (fun hHeld => ?_)
            · (try dsimp only); exact HMK.out _ HC.out.row
            clear hK K
            try simp only [Act.put, List.setIfInBounds_toArray, List.set_cons_zero, List.set_cons_succ]
            refine wpAnyH_take (i := 14) (oi := { dst := some 28, op := Go.Op.move (Go.Operand.tmp 42), type := 44, pos := "node.go:126", after := #[{ on := 13, ground := Go.Ground.data }], guard := none }) (v := ?_) rfl (by kernel_rfl) (by kernel_rfl) (by kernel_rfl) (fun _ _ _ h => h) (Or.inl ⟨by rfl, ?_⟩) (by assumption) ?_
            rotate_left
            · (intro w hSw; (try dsimp only at hSw); go_simp; (try (with_reducible rfl)); done)
            try simp only [Act.put, List.setIfInBounds_toArray, List.set_cons_zero, List.set_cons_succ]
            refine wpAnyH_take (i := 15) (oi := { dst := some 43, op := Go.Op.extract (Go.Operand.tmp 28) 0, type := 34, pos := "node.go:126", after := #[{ on := 14, ground := Go.Ground.data }], guard := none }) (v := ?_) rfl (by kernel_rfl) (by kernel_rfl) (by kernel_rfl) (fun _ _ _ h => h) (Or.inl ⟨by rfl, ?_⟩) (by assumption) ?_
            rotate_left
            · (intro w hSw; (try dsimp only at hSw); go_simp; (try (with_reducible rfl)); done)
            try simp only [Act.put, List.setIfInBounds_toArray, List.set_cons_zero, List.set_cons_succ]
            refine wpAnyH_take (i := 16) (oi := { dst := some 44, op := Go.Op.extract (Go.Operand.tmp 28) 1, type := 30, pos := "node.go:126", after := #[{ on := 14, ground := Go.Ground.data }, { on := 18, ground := Go.Ground.gcOnly Go.Departure.lateStores }], guard := none }) (v := ?_) rfl (by kernel_rfl) (by kernel_rfl) (by kernel_rfl) (fun _ _ _ h => h) (Or.inl ⟨by rfl, ?_⟩) (by assumption) ?_
            rotate_left
            · (intro w hSw; (try dsimp only at hSw); go_simp; (try (with_reducible rfl)); done)
            try simp only [Act.put, List.setIfInBounds_toArray, List.set_cons_zero, List.set_cons_succ]
            refine wpAnyH_ready (rs := [18]) (by kernel_rfl) (by simp) ?_
            refine AllReadyH.cons (o := { dst := none, op := Go.Op.store 34 (Go.Operand.tmp 9) (Go.Operand.tmp 43), type := 0, pos := "node.go:126", after := #[{ on := 17, ground := Go.Ground.data }, { on := 15, ground := Go.Ground.data }, { on := 13, ground := Go.Ground.chain }, { on := 0, ground := Go.Ground.phase }, { on := 1, ground := Go.Ground.phase }, { on := 2, ground := Go.Ground.phase }, { on := 3, ground := Go.Ground.phase }, { on := 4, ground := Go.Ground.phase }, { on := 5, ground := Go.Ground.phase }, { on := 6, ground := Go.Ground.phase }, { on := 7, ground := Go.Ground.phase }, { on := 8, ground := Go.Ground.phase }, { on := 9, ground := Go.Ground.phase }, { on := 10, ground := Go.Ground.phase }, { on := 11, ground := Go.Ground.phase }, { on := 12, ground := Go.Ground.phase }, { on := 13, ground := Go.Ground.phase }, { on := 14, ground := Go.Ground.phase }, { on := 15, ground := Go.Ground.phase }, { on := 16, ground := Go.Ground.textOnly Go.Departure.lateStores }, { on := 17, ground := Go.Ground.phase }], guard := none }) rfl (fun K hK => ?_) AllReadyH.nil
            (rw [if_pos (by rfl)]; refine wp_store_row _ _ _ rfl _ DN rfl rfl 34 _ HZ.out.h (by rw [hdz]; kernel_rfl) (by rw [hdz, z32_size']) hone ?_)
            refine any_step hK (HMK.out _ (HC.out.rowp _ DN HZ.out.f HZ.out.lb).row) (fun W' hW' hHeld => ?_); have HC := Lib.hid (hW'.out ▸ HC.out.rowp _ DN HZ.out.f HZ.out.lb); have HD := Lib.hid (hW'.out ▸ setRow_heap _ _ _ DN 34 (0, 0) HZ.out.h); clear hW' HZ
            clear hK K
            try simp only [Act.put, List.setIfInBounds_toArray, List.set_cons_zero, List.set_cons_succ]
            refine wpAnyH_take (i := 19) (oi := { dst := some 10, op := Go.Op.assign (Go.Operand.tmp 44), type := 30, pos := "node.go:126", after := #[{ on := 16, ground := Go.Ground.data }, { on := 18, ground := Go.Ground.chain }, { on := 0, ground := Go.Ground.phase }, { on := 1, ground := Go.Ground.phase }, { on := 2, ground := Go.Ground.phase }, { on := 3, ground := Go.Ground.phase }, { on := 4, ground := Go.Ground.phase }, { on := 5, ground := Go.Ground.phase }, { on := 6, ground := Go.Ground.phase }, { on := 7, ground := Go.Ground.phase }, { on := 8, ground := Go.Ground.phase }, { on := 9, ground := Go.Ground.phase }, { on := 10, ground := Go.Ground.phase }, { on := 11, ground := Go.Ground.phase }, { on := 12, ground := Go.Ground.phase }, { on := 13, ground := Go.Ground.phase }, { on := 14, ground := Go.Ground.phase }, { on := 15, ground := Go.Ground.phase }, { on := 16, ground := Go.Ground.phase }, { on := 17, ground := Go.Ground.phase }, { on := 18, ground := Go.Ground.phase }], guard := none }) (v := ?_) rfl (by kernel_rfl) (by kernel_rfl) (by kernel_rfl) (fun _ _ _ h => h) (Or.inl ⟨by rfl, ?_⟩) (by assumption) ?_
            rotate_left
            · (intro w hSw; (try dsimp only at hSw); go_simp; (try (with_reducible rfl)); done)
            try simp only [Act.put, List.setIfInBounds_toArray, List.set_cons_zero, List.set_cons_succ]
            refine wpAnyH_done (by kernel_rfl) ?_ _
            refine NoPanic.normal ?_
            have hd9 := HD.out
            go_wp2_with (first | (refine wpList_load_row rfl _ _ rfl _ rfl 34 DN (0, 0) _ hd9 Tryd.underlying34 rfl (by rw [hdz]; kernel_rfl) ?_) | (refine wpList_store_mid rfl 34 _ _ rfl g (i * 32) DN rfl rfl (by rw [hdz]; exact HC.out.row.there i h0N) (by rw [hdz]; kernel_rfl) hone ?_; rw [HDL.out]))
            go_roundw
            case rel => exact ⟨i + 1, X', by go_num, by omega, Lib.hid ((HC.out.set i h0N _ H32N.out).congr (Nat.le_refl _) (fun k _ => by rw [HMS.out k, HNODE.out]) HTX.out (by omega))⟩
            case measure => (simp [intOf]; omega)
        · as_aux_lemma =>
          obtain rfl : i = M := by omega
          have HNX : Hid (RtI base w X o b g c i (dg (lv (h + 1) L)) (txs L (h + 1) 0) (1000 + 64 * (h + 1)) wr Xj) := Lib.hid (HJ.out.congr (by have := HNM.out; omega) (fun k hk => by with_unfolding_all exact (if_pos hk).symm) (by rw [HM.out]; with_unfolding_all exact (txs_up L h).symm) (by omega))
          clear HJ
          go_wp2_with fail
          go_roundw
          case rel => exact ⟨h + 1, i, Xj, rfl, by omega, HM, HNX⟩
          case measure => have := HNM.out; simp [slN]; omega
    · as_aux_lemma =>
      obtain rfl : h = 6 := by omega
      obtain rfl : N = 1 := HN.out
      have hr := HI.out.row.range 0 (by omega)
      rw [HL6.out] at hr
      have HRL : (rootD 6 L).length = 32 := by
        have := HI.out.row.l32 0 (by omega)
        rw [HL6.out] at this
        exact this
      have hdz : (digA (rootD 6 L)).size = 32 := by with_unfolding_all (rw [digA_size, HRL])
      have hone : (digA (rootD 6 L)).all (·.oneCell') = true := by with_unfolding_all exact digA_one _
      have hbl : (bv (rootD 6 L)).length = 32 := (bv_len _).trans HRL
      have HBD : Hid ((bv (rootD 6 L)).toArray = digA (rootD 6 L)) := Lib.hid (by with_unfolding_all rfl)
      have f4 := HI.out.f4
      have hfin : Hid (∀ D, OrX base (wr.setRow b D) o Xi ∧ SumsX X Xi (txs L 6 0) ∧ Below base w (wr.setRow b D) ∧ KeptX w (wr.setRow b D) X Xi) := Lib.hid (fun D => ⟨HI.out.hx.row b D (HI.out.fr 0 (by omega)), HI.out.st, below_setRow HI.out.bel HI.out.hb.1 _, HI.out.kp.row b D (by rw [HBB.out]; exact Nat.le_refl _)⟩)
      clear HI HL6 H32 HL0 HN HRL
      obtain ⟨DN, HDN⟩ : ∃ DN, Hid (digA (rootD 6 L) = DN) := ⟨_, Lib.hid rfl⟩
      rw [HDN.out] at hdz hone HBD
      generalize bv (rootD 6 L) = BN at *
      go_wp2_with (first | (refine wpList_load_mid rfl 34 _ rfl g (0 * 32) rfl BN _ hr Tryd.underlying34 rfl (by rw [hbl]; kernel_rfl) ?_; rw [HBD.out]) | (refine wpList_store_row rfl _ _ _ rfl b DN rfl rfl 34 _ f4 (by rw [hdz]; kernel_rfl) (by rw [hdz, z32_size']) hone ?_))
      refine bodyPost_ret_by (results_ct rfl _ _ b 34 DN (0, 0) _ rfl (setRow_heap _ _ _ DN 34 (0, 0) f4) Tryd.underlying34 rfl (by rw [hdz]; kernel_rfl)) rfl ⟨Xi, by rw [HDN.out]; rfl, hfin.out DN⟩
end Go.Proofs.YtaneecmfgfkaaaaDoor
