/- The oracle: Pair. -/
import Derived.Test.YtaneecmfgfkaaaaDoorOrG
namespace Go.Proofs.YtaneecmfgfkaaaaDoor
open Go.RowKit Go.Deep Go.Maps
set_option linter.unusedVariables false
set_option linter.unusedSimpArgs false
/-- Texts behind a slice. -/
def TxtAt (w : World) (a : Option Addr) (L : List ByteArray) : Prop := 0 < L.length → ∃ g o, a = some ⟨g, o, none⟩ ∧ g < w.heap.size ∧ ∀ i (h : i < L.length), w.cell? ⟨g, o + i, none⟩ = some (.string L[i])
/-- Digests behind a slice. -/
def DigAt (w : World) (a : Option Addr) (X : List (List UInt8)) : Prop := 0 < X.length → ∃ g o, a = some ⟨g, o, none⟩ ∧ g < w.heap.size ∧ ∀ i (h : i < X.length), w.rangeAt g (o + i * 32) (bv X[i])
theorem TxtAt.below {w w' : World} {a : Option Addr} {L : List ByteArray} (h : TxtAt w a L) (hb : Below w.heap.size w w') : TxtAt w' a L := fun h0 => by
  obtain ⟨g, o, h1, h2, h3⟩ := h h0
  exact ⟨g, o, h1, Nat.lt_of_lt_of_le h2 hb.size, fun i hi => (hb.cell (p := ⟨g, o + i, none⟩) h2).trans (h3 i hi)⟩
theorem DigAt.below {w w' : World} {a : Option Addr} {X : List (List UInt8)} (h : DigAt w a X) (hb : Below w.heap.size w w') : DigAt w' a X := fun h0 => by
  obtain ⟨g, o, h1, h2, h3⟩ := h h0
  exact ⟨g, o, h1, Nat.lt_of_lt_of_le h2 hb.size, fun i hi => range_below (h3 i hi) hb h2⟩
/-- What the map of first places tells behind k steps. -/
def FI (kD : List UInt8 → Lit) (X : List (List UInt8)) (F : DataW Unit) (k : Nat) : Prop := ∀ x ∈ X, has F (kD x) = decide (x ∈ X.take k) ∧ F.atKey (kD x) (.lit (.int .i64 0)) = .lit (.int .i64 (if x ∈ X.take k then ((X.take k).idxOf x : Int) else 0))
theorem FI.zero (kD : List UInt8 → Lit) (X : List (List UInt8)) : FI kD X (.map []) 0 := fun x _ => ⟨by simp [has], by simp [DataW.atKey]⟩
theorem take_snoc' (X : List (List UInt8)) (k : Nat) (h : k < X.length) : X.take (k + 1) = X.take k ++ [X[k]] := List.take_succ_eq_append_getElem h
theorem FI.same {kD : List UInt8 → Lit} {X : List (List UInt8)} {F : DataW Unit} {k : Nat} (h : FI kD X F k) (hk : k < X.length) (hin : X[k] ∈ X.take k) : FI kD X F (k + 1) := fun x hx => by
  obtain ⟨h1, h2⟩ := h x hx
  have hm : x ∈ X.take (k + 1) ↔ x ∈ X.take k := by
    rw [take_snoc' X k hk, List.mem_append, List.mem_singleton]
    exact ⟨fun q => q.elim id (fun e => e ▸ hin), Or.inl⟩
  refine ⟨by rw [h1, decide_eq_decide]; exact hm.symm, ?_⟩
  rw [h2]
  by_cases q : x ∈ X.take k
  · rw [if_pos q, if_pos (hm.2 q), take_snoc' X k hk, List.idxOf_append, if_pos q]
  · rw [if_neg q, if_neg (fun e => q (hm.1 e))]
theorem FI.put {kD : List UInt8 → Lit} {X : List (List UInt8)} {F : DataW Unit} {k : Nat} (h : FI kD X F k) (hF : IsMap F) (hk : k < X.length) (hin : X[k] ∉ X.take k) (hinj : ∀ x ∈ X, ∀ y ∈ X, kD x = kD y → x = y) (hlit : ∀ x ∈ X, WideAt.IsKeyLit (kD x)) : FI kD X (F.put (kD X[k]) (.lit (.int .i64 (k : Int)))) (k + 1) := fun x hx => by
  obtain ⟨h1, h2⟩ := h x hx
  have hkx : X[k] ∈ X := List.getElem_mem hk
  by_cases e : x = X[k]
  · subst e
    have hm : X[k] ∈ X.take (k + 1) := by rw [take_snoc' X k hk]; exact List.mem_append.2 (Or.inr (List.mem_singleton.2 rfl))
    refine ⟨by rw [has_put_same hF (hlit _ hkx)]; exact (decide_eq_true hm).symm, ?_⟩
    rw [atKey_put_same hF (hlit _ hkx), if_pos hm, take_snoc' X k hk, List.idxOf_append, if_neg hin]
    have e2 : List.idxOf X[k] [X[k]] = 0 := by simp
    rw [e2, List.length_take, Nat.min_eq_left (Nat.le_of_lt hk)]
    simp
  · have hne : kD x ≠ kD X[k] := fun q => e (hinj x hx _ hkx q)
    have hm : x ∈ X.take (k + 1) ↔ x ∈ X.take k := by
      rw [take_snoc' X k hk, List.mem_append, List.mem_singleton]
      exact ⟨fun q => q.elim id (fun q => absurd q e), Or.inl⟩
    refine ⟨by rw [has_put_other hne, h1, decide_eq_decide]; exact hm.symm, ?_⟩
    rw [atKey_put_other hne, h2]
    by_cases q : x ∈ X.take k
    · rw [if_pos q, if_pos (hm.2 q), take_snoc' X k hk, List.idxOf_append, if_pos q]
    · rw [if_neg q, if_neg (fun e => q (hm.1 e))]
/-- Is place k the second of two unlike texts of one sum, the first one the first of its sum? -/
def hitB (L : List ByteArray) (X : List (List UInt8)) (k : Nat) : Bool := decide ((X[k]?.getD []) ∈ X.take k) && !((L[(X.take k).idxOf (X[k]?.getD [])]?.getD ⟨#[]⟩).toList == (L[k]?.getD ⟨#[]⟩).toList)
/-- What Pair tells of the first n places. -/
def pairF (L : List ByteArray) (X : List (List UInt8)) : Nat → Option (Nat × Nat)
  | 0 => none
  | k + 1 => (pairF L X k).or (if hitB L X k then some ((X.take k).idxOf (X[k]?.getD []), k) else none)
def pairV (r : Option (Nat × Nat)) : Value := match r with
  | some (i, k) => .tuple #[.int .i64 (i : Int), .int .i64 (k : Int), .bool true]
  | none => .tuple #[.int .i64 0, .int .i64 0, .bool false]
theorem pairF_mono (L : List ByteArray) (X : List (List UInt8)) (k d : Nat) (r : Nat × Nat) (h : pairF L X k = some r) : pairF L X (k + d) = some r := by
  induction d with
  | zero => exact h
  | succ d ih => show (pairF L X (k + d)).or _ = _; rw [ih]; rfl
set_option maxRecDepth 100000 in
set_option maxHeartbeats 1000000 in
theorem seeker_any (la da : Option Addr) (nl lc m dc : Nat) (w : World) : Calls Tryd.prog 50 #[.slice la nl lc, .slice da m dc] w fun e w' => e = .returned (.func (.func 60) #[] #[.pointer (some ⟨w.heap.size + 3, 0, none⟩), .pointer (some ⟨w.heap.size + 1, 0, none⟩), .pointer (some ⟨w.heap.size, 0, none⟩)]) ∧ w'.cell? ⟨w.heap.size + 3, 0, none⟩ = some (.map (some (w.heap.size + 2))) ∧ w'.cell? ⟨w.heap.size + 1, 0, none⟩ = some (.slice da m dc) ∧ w'.cell? ⟨w.heap.size, 0, none⟩ = some (.slice la nl lc) ∧ w'.ownsMap Tryd.prog 34 (plainElem Tryd.prog 3) (w.heap.size + 2) 0 (.map [] : DataW Unit) ∧ Below w.heap.size w w' ∧ w'.heap.size = w.heap.size + 4 := by
  have hmm := @run_makeMap Tryd.prog
  have hz : ∀ w, (zeroValue 110).run Tryd.prog w = .ok (.map none) w := fun w => by kernel_rfl
  go_enter Tryd.func50, Tryd.ntmps50
  go_wp2
  go_ret
  generalize h1 : w.alloc (.cells #[.slice la nl lc] 25) = w1 at *
  have s1 : w1.heap.size = w.heap.size + 1 := by rw [← h1]; simp
  have n1 : w1.heap[w.heap.size]? = some (.cells #[.slice la nl lc] 25 (0, 0)) := by rw [← h1]; exact heap_alloc_new _ _
  have b1 : Below w.heap.size w w1 := by rw [← h1]; exact (Below.refl _ _).alloc (Nat.le_refl _) _
  generalize h2 : w1.alloc (.cells #[.slice da m dc] 54) = w2 at *
  have s2 : w2.heap.size = w.heap.size + 2 := by rw [← h2]; simp [s1]
  have n2 : w2.heap[w.heap.size + 1]? = some (.cells #[.slice da m dc] 54 (0, 0)) := by rw [← h2, ← s1]; exact heap_alloc_new _ _
  have b2 : Below w1.heap.size w1 w2 := by rw [← h2]; exact (Below.refl _ _).alloc (Nat.le_refl _) _
  generalize h3 : w2.alloc (.map #[] 0) = w3 at *
  have s3 : w3.heap.size = w.heap.size + 3 := by rw [← h3]; simp [s2]
  have m3 : w3.ownsMap Tryd.prog 34 (plainElem Tryd.prog 3) (w.heap.size + 2) 0 (.map [] : DataW Unit) := by rw [← h3, ← s2]; exact World.ownsMap_made _ _ _ _
  have b3 : Below w2.heap.size w2 w3 := by rw [← h3]; exact (Below.refl _ _).alloc (Nat.le_refl _) _
  have m4 := m3.alloc (.cells #[.map (some (w.heap.size + 1 + 1))] 110)
  generalize h4 : w3.alloc (.cells #[.map (some (w.heap.size + 1 + 1))] 110) = w4 at *
  have s4 : w4.heap.size = w.heap.size + 4 := by rw [← h4]; simp [s3]
  have n4 : w4.heap[w.heap.size + 3]? = some (.cells #[.map (some (w.heap.size + 1 + 1))] 110 (0, 0)) := by rw [← h4, ← s3]; exact heap_alloc_new _ _
  have b4 : Below w3.heap.size w3 w4 := by rw [← h4]; exact (Below.refl _ _).alloc (Nat.le_refl _) _
  have B3 : Below w.heap.size w w4 := ((b1.trans (b2.mono (by omega))).trans (b3.mono (by omega))).trans (b4.mono (by omega))
  have n14 := (b4.block w.heap.size (by omega)).trans ((b3.block w.heap.size (by omega)).trans ((b2.block w.heap.size (by omega)).trans n1))
  have n24 := (b4.block (w.heap.size + 1) (by omega)).trans ((b3.block (w.heap.size + 1) (by omega)).trans n2)
  exact ⟨rfl, cell_of_row w4 _ 0 _ _ _ n4, cell_of_row w4 _ 0 _ _ _ n24, cell_of_row w4 _ 0 _ _ _ n14, m4, B3, s4⟩
theorem cell_kept {w w' : World} {row : Option Nat} (hg : w.grownBy w' row) {a : Addr} {v : Value} (h : w.cell? a = some v) (hne : some a.block ≠ row) : w'.cell? a = some v := by
  have hl : a.block < w.heap.size := block_lt_of_cell h
  exact (World.cell?_of_block (hg.block a.block hl hne)).trans h
theorem grown_weaken {w w' : World} {row : Option Nat} (h : w.grownBy w' none) : w.grownBy w' row := ⟨h.os, h.tape, h.output, h.size, fun k hk _ => h.block k hk (fun e => by cases e)⟩
attribute [local irreducible] pairF hitB FI digA
set_option maxRecDepth 100000 in
set_option maxHeartbeats 4000000 in
theorem pair_any (L : List ByteArray) (X : List (List UInt8)) (kD : List UInt8 → Lit) (la da : Option Addr) (lc dc : Nat) (w : World) (hT : TxtAt w la L) (hX : DigAt w da X) (h32 : ∀ x ∈ X, x.length = 32) (hkD : ∀ x ∈ X, keyOf Tryd.prog 34 (.agg (digA x)) = some (kD x)) (hdA : ∀ x ∈ X, ∀ y ∈ X, digA x = digA y → x = y) (hnl : L.length ≤ 1000000) (hml : X.length ≤ 9223372036854775807) :
    Calls Tryd.prog 35 #[.slice la L.length lc, .slice da X.length dc] w fun e w' => e = .returned (pairV (pairF L X (min L.length X.length))) ∧ Below w.heap.size w w' := by
  have hinj : ∀ x ∈ X, ∀ y ∈ X, kD x = kD y → x = y := fun x hx y hy e => hdA x hx y hy (by
    have h1 := hkD x hx
    have h2 := hkD y hy
    rw [e] at h1
    have := lawD.inj h1 h2
    injection this)
  have hlit : ∀ x ∈ X, WideAt.IsKeyLit (kD x) := fun x hx => lawD.key (hkD x hx)
  have HINJ := Lib.hid hinj
  have HLIT := Lib.hid hlit
  have HT := Lib.hid hT
  have HX := Lib.hid hX
  have H32 := Lib.hid h32
  have HKD := Lib.hid hkD
  clear hinj hlit hT hX h32 hkD hdA
  have HF0 : Hid (FI kD X (.map []) 0) := Lib.hid (FI.zero kD X)
  have HP0 : Hid (pairF L X 0 = none) := Lib.hid (by with_unfolding_all rfl)
  have HPS : Hid (∀ k, pairF L X (k + 1) = (pairF L X k).or (if hitB L X k then some ((X.take k).idxOf (X[k]?.getD []), k) else none)) := Lib.hid (fun k => by with_unfolding_all rfl)
  have HHB : Hid (∀ k, hitB L X k = (decide ((X[k]?.getD []) ∈ X.take k) && !((L[(X.take k).idxOf (X[k]?.getD [])]?.getD ⟨#[]⟩).toList == (L[k]?.getD ⟨#[]⟩).toList))) := Lib.hid (fun k => by with_unfolding_all rfl)
  generalize hnl2 : L.length = nl at *
  generalize hml2 : X.length = m at *
  have HNL := Lib.hid hnl2
  have HML := Lib.hid hml2
  clear hnl2 hml2
  go_enter Tryd.func35, Tryd.ntmps35
  go_wp2_with fail
  refine (seeker_any la da nl lc m dc w).mono ?_
  rintro e w1 ⟨rfl, c3, c1, c2, M0, B1, hs1⟩
  have HT1 := Lib.hid (HT.out.below B1)
  have HX1 := Lib.hid (HX.out.below B1)
  have hTb : ∀ g o, 0 < L.length → la = some ⟨g, o, none⟩ → g < w.heap.size := fun g o h0 e => by
    obtain ⟨g', o', h1, h2, _⟩ := HT.out h0
    rw [e] at h1; cases h1; exact h2
  have hXb : ∀ g o, 0 < X.length → da = some ⟨g, o, none⟩ → g < w.heap.size := fun g o h0 e => by
    obtain ⟨g', o', h1, h2, _⟩ := HX.out h0
    rw [e] at h1; cases h1; exact h2
  have HTB := Lib.hid hTb
  have HXB := Lib.hid hXb
  have HB1 := Lib.hid B1
  have HC1 := Lib.hid c1
  have HC2 := Lib.hid c2
  have HC3 := Lib.hid c3
  have HM0 := Lib.hid M0
  clear HT HX hTb hXb B1 c1 c2 c3 M0
  generalize hq : w.heap.size = q at *
  have HQ := Lib.hid hq
  clear hq
  go_upto_region 2 with fail
  go_cut [18, 19] from 14 (fun s18 s19 wx => s18 = .int .i64 ((min nl m : Nat) : Int) ∧ s19 = .int .i64 0 ∧ w1 = wx)
  case first =>
    go_wp2
    all_goals
      go_meet
      refine ⟨?_, rfl, rfl⟩
      congr 1
      omega
  case rest =>
    obtain ⟨rfl, rfl, rfl⟩ := hcut
    have hN1 : min nl m ≤ nl := Nat.min_le_left _ _
    have hN2 : min nl m ≤ m := Nat.min_le_right _ _
    generalize hNN : min nl m = N at *
    have HNN := Lib.hid hNN
    clear hNN
    go_wp2_with fail
    go_loopw [19] (fun x wi => ∃ (k n : Nat) (F : DataW Unit), x = .int .i64 k ∧ k ≤ N ∧ n ≤ k ∧ Hid (pairF L X k = none) ∧ Hid (FI kD X F k) ∧ Hid (wi.ownsMap Tryd.prog 34 (plainElem Tryd.prog 3) (q + 2) n F) ∧ Hid (w1.grownBy wi (some (q + 2)))) (fun x _ => N - (intOf x).toNat)
    case atStart => exact ⟨0, 0, _, rfl, by omega, by omega, HP0, HF0, HM0, Lib.hid (.refl _ _)⟩
    case round =>
      obtain ⟨k, n, F, rfl, hk, hn, HPN, HFI, HM, HG⟩ := hrel
      by_cases hlt : k < N
      · have hli : (k : Int) < (N : Int) := by omega
        have hkL : k < L.length := by rw [HNL.out]; omega
        have hkX : k < X.length := by rw [HML.out]; omega
        obtain ⟨gl, ol, rfl, hgl, htx⟩ := HT1.out (by omega)
        obtain ⟨gd, od, rfl, hgd, hdx⟩ := HX1.out (by omega)
        have hglq := HTB.out gl ol (by omega) rfl
        have hgdq := HXB.out gd od (by omega) rfl
        have hxk : X[k] ∈ X := List.getElem_mem hkX
        have d3 := cell_kept HG.out HC3.out (by show some (q + 3) ≠ some (q + 2); intro e; have := Option.some.inj e; omega)
        have d1 := cell_kept HG.out HC1.out (by show some (q + 1) ≠ some (q + 2); intro e; have := Option.some.inj e; omega)
        have d2 := cell_kept HG.out HC2.out (by show some q ≠ some (q + 2); intro e; have := Option.some.inj e; omega)
        have hrk : wr.rangeAt gd (od + k * 32) (bv X[k]) := fun j u hu => cell_kept HG.out (hdx k hkX j u hu) (by show some gd ≠ some (q + 2); intro e; have := Option.some.inj e; omega)
        have htk := fun i hi => cell_kept HG.out (htx i hi) (by show some gl ≠ some (q + 2); intro e; have := Option.some.inj e; omega)
        have hl32 : (bv X[k]).length = 32 := by unfold bv; rw [List.length_map]; exact H32.out _ hxk
        have HPS1 := HPS.out k
        rw [HPN.out, HHB.out k, List.getElem?_eq_getElem hkX, List.getElem?_eq_getElem hkL] at HPS1
        simp only [Option.getD_some, Option.none_or] at HPS1
        have hat := (HFI.out : FI kD X F k)
        have hat1 : has F (kD X[k]) = decide (X[k] ∈ X.take k) ∧ F.atKey (kD X[k]) (.lit (.int .i64 0)) = .lit (.int .i64 (if X[k] ∈ X.take k then ((X.take k).idxOf X[k] : Int) else 0)) := by with_unfolding_all exact hat X[k] hxk
        obtain ⟨ha1, ha2⟩ := hat1
        by_cases hin : X[k] ∈ X.take k
        · as_aux_lemma =>
          rw [decide_eq_true hin] at ha1 HPS1
          rw [if_pos hin] at ha2
          have hil : (X.take k).idxOf X[k] < (X.take k).length := List.idxOf_lt_length_iff.2 hin
          have hik : (X.take k).idxOf X[k] < k := by rw [List.length_take] at hil; omega
          have hiL : (X.take k).idxOf X[k] < L.length := by omega
          rw [List.getElem?_eq_getElem hiL] at HPS1
          have hsi := htk _ hiL
          have hsk := htk k hkL
          have HFI1 := Lib.hid (FI.same HFI.out hkX hin)
          have HMONO := Lib.hid (fun r h => pairF_mono L X (k + 1) (N - (k + 1)) r h)
          obtain ⟨r, hr⟩ : ∃ r, (!((L[(X.take k).idxOf X[k]]'hiL).toList == (L[k]'hkL).toList)) = r := ⟨_, rfl⟩
          have HSK := Lib.hid (seek_yes k ((X.take k).idxOf X[k]) (q + 1) q (q + 3) gd od m dc gl ol nl lc (q + 2) n F (bv X[k]) (digA X[k]) (kD X[k]) _ _ wr (by with_unfolding_all rfl) hl32 d3 d1 d2 hrk HM.out hsi hsk (HKD.out _ hxk) ha1 ha2 (by omega) (by omega) (by omega) r hr)
          simp only [Option.getD_some, Bool.true_and] at HPS1
          rw [hr] at HPS1
          have HPS2 := Lib.hid HPS1
          clear hat ha1 ha2 HPS1 d1 d2 d3 hrk htk htx hdx hl32 hsi hsk hr hil
          generalize (X.take k).idxOf X[k] = ix at *
          go_wp2_with fail
          refine HSK.out.mono ?_
          rintro e w3 ⟨rfl, G3⟩
          have HM3 := Lib.hid (HM.out.kept G3 (by simp))
          have HG3 := Lib.hid (HG.out.trans (grown_weaken G3))
          clear G3 HSK
          cases r
          · have HPN1 : Hid (pairF L X (k + 1) = none) := Lib.hid (by rw [HPS2.out]; simp)
            go_wp2_with fail
            go_roundw
            case rel => exact ⟨k + 1, n, F, by go_num, by omega, by omega, HPN1, HFI1, HM3, HG3⟩
            case measure => simp [intOf]; omega
          · have HPN1 : Hid (pairF L X N = some (ix, k)) := Lib.hid (by
              have := HMONO.out (ix, k) (by rw [HPS2.out]; simp)
              rwa [show k + 1 + (N - (k + 1)) = N from by omega] at this)
            go_wp2_with fail
            go_ret3
            refine ⟨by rw [HNN.out, HPN1.out]; rfl, ?_⟩
            rw [HQ.out]
            exact HB1.out.grown HG3.out (by omega) (fun j e => by cases e; omega)
        · as_aux_lemma =>
          rw [decide_eq_false hin] at ha1 HPS1
          rw [if_neg hin] at ha2
          have HPN1 : Hid (pairF L X (k + 1) = none) := Lib.hid (by rw [HPS1]; simp)
          have HSK := Lib.hid (seek_no k (q + 1) q (q + 3) gd od m dc (q + 2) n F (bv X[k]) (digA X[k]) (kD X[k]) wr (by with_unfolding_all rfl) hl32 d3 d1 hrk HM.out (HKD.out _ hxk) ha1 ha2 (by omega) (by omega) (by omega))
          have HFI1 := Lib.hid (FI.put HFI.out HM.out.isMap hkX hin HINJ.out HLIT.out)
          clear hat ha1 ha2 HPS1 d1 d2 d3 hrk htk htx hdx hl32
          go_wp2_with fail
          refine HSK.out.mono ?_
          rintro e w3 ⟨rfl, M3, G3⟩
          have HM3 := Lib.hid M3
          have HG3 := Lib.hid (HG.out.trans G3)
          clear M3 G3 HSK
          go_wp2_with fail
          go_roundw
          case rel => exact ⟨k + 1, n + 1, _, by go_num, by omega, by omega, HPN1, HFI1, HM3, HG3⟩
          case measure => simp [intOf]; omega
      · as_aux_lemma =>
        obtain rfl : k = N := by omega
        go_wp2_with fail
        go_ret3
        refine ⟨by rw [HNN.out, HPN.out]; rfl, ?_⟩
        rw [HQ.out]
        exact HB1.out.grown HG.out (by omega) (fun j e => by cases e; omega)
end Go.Proofs.YtaneecmfgfkaaaaDoor
