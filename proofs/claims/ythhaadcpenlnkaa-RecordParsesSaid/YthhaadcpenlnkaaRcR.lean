/- Package record (cellaret): rows of records; All. -/
import Derived.Test.YthhaadcpenlnkaaRcQ
import Derived.Great.BuildSlice
namespace Go.Proofs.Ythhaadcpenlnkaa
open Go.RowKit Go.Deep
set_option linter.unusedVariables false
set_option linter.unusedSimpArgs false
theorem wp_build1r {P : Program} {o : Oper} {a : Act} {w : World} {K : Act → World → Prop} {Q : Exit → Act → World → Prop} (t e : TypeId) (x : Operand) (ho : o.op = .buildSlice t 1 #[(0, x)])
    (ie : TypeInfo) (z : Value) (size : Nat) (hu : P.underlying t = some (.slice e)) (hie : P.info? e = some ie) (hz : ie.zero = some z) (hsz : ie.size = size) (hpos : 0 < size) (hsm : size ≤ 1000) (v : Value) (hv : a.eval x = v) (hvs : v.cells.size = size)
    (h : K (a.put o.dst (.slice (some ⟨w.heap.size, 0, none⟩) 1 1)) (w.alloc (.cells v.cells e))) : o.wp P a w K Q := by
  refine wp_buildSlice t e 1 _ ho v.cells ie z hu hie hz (by rw [hsz]; omega) (by rw [hsz]; omega) ?_ h
  rw [hsz]
  obtain ⟨r, h1, h2, h3⟩ := Great.fill_dense hpos [v] 0 ((Array.range (1 * size)).map (z.cells[· % z.cells.size]!)) (by simpa using hvs) (by simp)
  have hr : r = v.cells := by
    apply Array.ext_getElem?
    intro k
    rw [h3 k]
    by_cases hk : k < size
    · rw [if_pos (by simp; omega), Nat.div_eq_of_lt hk, Nat.mod_eq_of_lt hk]; rfl
    · rw [if_neg (by simp; omega), Array.getElem?_eq_none (by simp; omega), Array.getElem?_eq_none (by omega)]
  rw [← hr]
  simpa [hv] using h1
theorem wpList_build1r {P : Program} {ops : Array Oper} {rest : List Oper} {o : Oper} {a : Act} {w : World} {Q : Exit → Act → World → Prop} (hgd : o.guard = none) (t e : TypeId) (x : Operand) (ho : o.op = .buildSlice t 1 #[(0, x)])
    (ie : TypeInfo) (z : Value) (size : Nat) (hu : P.underlying t = some (.slice e)) (hie : P.info? e = some ie) (hz : ie.zero = some z) (hsz : ie.size = size) (hpos : 0 < size) (hsm : size ≤ 1000) (v : Value) (hv : a.eval x = v) (hvs : v.cells.size = size)
    (h : wpList P ops Q rest (a.put o.dst (.slice (some ⟨w.heap.size, 0, none⟩) 1 1)) (w.alloc (.cells v.cells e))) : wpList P ops Q (o :: rest) a w :=
  wpList_plain hgd fun _ hK => wp_build1r t e x ho ie z size hu hie hz hsz hpos hsm v hv hvs (hK _ _ h)
theorem info_recR : (Try.prog.info? 26).map (fun i => (i.zero, i.size, i.bytes)) = some (some (.agg (rcA rz0 nilS)), 34, 64) := by kernel_rfl
/-- A record with the place of its Puts. -/
abbrev Rx : Type := Rc × Option Addr × Nat
def rxA (x : Rx) : Array Value := rcA x.1 (.slice x.2.1 x.1.ps.length x.2.2)
def rsV (X : List Rx) : List Value := X.flatMap fun x => (rxA x).toList
def rsOk (w : World) (X : List Rx) : Prop := ∀ x ∈ X, PtAt w x.2.1 x.1.ps ∧ PtT w x.2.1 ∧ x.1.root.length = 32
theorem rsOk.below {w w' : World} {X : List Rx} (h : rsOk w X) (hb : Below w.heap.size w w') : rsOk w' X := fun x hx => ⟨(h x hx).1.below hb, (h x hx).2.1.below hb, (h x hx).2.2⟩
theorem rsOk.nil (w : World) : rsOk w [] := fun x hx => by cases hx
theorem rsOk.snoc {w : World} {X : List Rx} {x : Rx} (h : rsOk w X) (h1 : PtAt w x.2.1 x.1.ps) (h2 : PtT w x.2.1) (h3 : x.1.root.length = 32) : rsOk w (X ++ [x]) := fun y hy => by
  rcases List.mem_append.1 hy with hy | hy
  · exact h y hy
  · simp at hy; subst hy; exact ⟨h1, h2, h3⟩
theorem rxA_len {x : Rx} (h : x.1.root.length = 32) : (rxA x).toList.length = 34 := by unfold rxA; rw [Array.length_toList, rcA_size _ _ h]
theorem rsV_snoc (X : List Rx) (x : Rx) : rsV (X ++ [x]) = rsV X ++ (rxA x).toList := by
  unfold rsV
  rw [List.flatMap_append]
  simp
theorem rsV_get (X : List Rx) (h : ∀ x ∈ X, x.1.root.length = 32) : ∀ i (hi : i < X.length), ∀ j, j < 34 → (rsV X)[i * 34 + j]? = (rxA X[i]).toList[j]? := by
  induction X with
  | nil => intro i hi; simp at hi
  | cons p r ih =>
    intro i hi j hj
    have e : rsV (p :: r) = (rxA p).toList ++ rsV r := by unfold rsV; rw [List.flatMap_cons]
    have hl := rxA_len (h p (by simp))
    rw [e]
    cases i with
    | zero => rw [Nat.zero_mul, Nat.zero_add, List.getElem?_append_left (by omega)]; rfl
    | succ i =>
      rw [List.getElem?_append_right (by omega), hl, show (i + 1) * 34 + j - 34 = i * 34 + j by omega]
      exact ih (fun x hx => h x (by simp [hx])) i (by simpa using hi) j hj
theorem rsV_len (X : List Rx) (h : ∀ x ∈ X, x.1.root.length = 32) : (rsV X).length = X.length * 34 := by
  induction X with
  | nil => rfl
  | cons p r ih =>
    have e : rsV (p :: r) = (rxA p).toList ++ rsV r := by unfold rsV; rw [List.flatMap_cons]
    rw [e, List.length_append, rxA_len (h p (by simp)), ih (fun x hx => h x (by simp [hx]))]
    simp; omega
theorem own_rs {w : World} {base : Nat} {v : Value} {n : Nat} {X : List Rx} (h : w.ownsRow base 26 34 v n (rsV X)) (hX : rsOk w X) : ∃ a c, v = .slice a n c ∧ n ≤ c ∧ c ≤ maxLen ∧ X.length = n ∧ ∀ i (hi : i < X.length), ∃ g, a = some ⟨g, 0, none⟩ ∧ base ≤ g ∧ g < w.heap.size ∧ LoadedM Try.prog 26 w g (i * 34) (rxA X[i]).toList := by
  have h32 : ∀ x ∈ X, x.1.root.length = 32 := fun x hx => (hX x hx).2.2
  have hl : X.length = n := by have := h.1; rw [rsV_len X h32] at this; omega
  rcases h.2 with ⟨rfl, h0⟩ | ⟨g, cap, cur, rfl, hb, hg, hnc, hcm, hcs, htk⟩
  · exact ⟨none, 0, by rw [h0], by omega, by unfold maxLen; omega, hl, fun i hi => by omega⟩
  · refine ⟨_, _, rfl, hnc, hcm, hl, fun i hi => ⟨g, rfl, hb, (Array.getElem?_eq_some_iff.1 hg).1, _, fun j u hu => ?_, Try.underlying26, rfl, by rw [rxA_len (h32 _ (List.getElem_mem _))]; kernel_rfl⟩⟩
    have hj : j < 34 := by have := (List.getElem?_eq_some_iff.1 hu).1; rw [rxA_len (h32 _ (List.getElem_mem _))] at this; exact this
    have h2 := rsV_get X h32 i hi j hj
    rw [hu] at h2
    have c0 := h.cells (g := g) rfl (i * 34 + j) _ h2
    rw [Addr.add_lit, Nat.zero_add] at c0
    exact c0
theorem lenN_pos (n : Nat) : 1 ≤ lenN n := by unfold lenN; omega
/-- All records that a list of blocks holds: those ahead, and why it ends. -/
def allF (L : List ByteArray) (acc : List Rc) : List Rc × Int :=
  if h : L = [] then (acc, 0) else if eP L = 0 then allF (L.drop (lenN (cntP (tB L 0)))) (acc ++ [recP L]) else ([], eP L)
termination_by L.length
decreasing_by
  have := lenN_pos (cntP (tB L 0))
  have : 0 < L.length := by cases L with | nil => exact absurd rfl h | cons a l => simp
  rw [List.length_drop]; omega
theorem allF_nil (acc : List Rc) : allF [] acc = (acc, 0) := by rw [allF, dif_pos rfl]
theorem allF_bad {L : List ByteArray} (acc : List Rc) (h : L ≠ []) (h2 : eP L ≠ 0) : allF L acc = ([], eP L) := by rw [allF, dif_neg h, if_neg h2]
theorem allF_ok {L : List ByteArray} (acc : List Rc) (h2 : eP L = 0) : allF L acc = allF (L.drop (lenN (cntP (tB L 0)))) (acc ++ [recP L]) := by
  have h : L ≠ [] := (eP_zero h2).1
  rw [allF, dif_neg h, if_pos h2]
theorem PtAt.grown {w w' : World} {base n sz : Nat} {v : Value} {xs : List Value} {a : Option Addr} {ps : List Pt} (h : PtAt w a ps) (hT : PtT w a) (ho : w.ownsRow base 26 sz v n xs) (hg : w.grownBy w' v.ownBlock) : PtAt w' a ps := fun h0 => by
  obtain ⟨g, o, h1, h2, h3⟩ := h h0
  obtain ⟨cs, fr, hh⟩ := hT g o h1
  have hb := hg.block g h2 (fun e => own_ne_type ho hh (by decide) e.symm)
  exact ⟨g, o, h1, Nat.lt_of_lt_of_le h2 hg.size, fun i hi => ⟨(World.cell?_of_block (a := ⟨g, o + i * 2, none⟩) hb).trans (h3 i hi).1, (World.cell?_of_block (a := ⟨g, o + i * 2 + 1, none⟩) hb).trans (h3 i hi).2⟩⟩
theorem PtT.grown {w w' : World} {base n sz : Nat} {v : Value} {xs : List Value} {a : Option Addr} (hT : PtT w a) (ho : w.ownsRow base 26 sz v n xs) (hg : w.grownBy w' v.ownBlock) : PtT w' a := fun g o e => by
  obtain ⟨cs, fr, hh⟩ := hT g o e
  exact ⟨cs, fr, (hg.block g (Array.getElem?_eq_some_iff.1 hh).1 (fun e => own_ne_type ho hh (by decide) e.symm)).trans hh⟩
theorem rsOk.grown {w w' : World} {base n sz : Nat} {v : Value} {xs : List Value} {X : List Rx} (h : rsOk w X) (ho : w.ownsRow base 26 sz v n xs) (hg : w.grownBy w' v.ownBlock) : rsOk w' X := fun x hx => ⟨(h x hx).1.grown (h x hx).2.1 ho hg, (h x hx).2.1.grown ho hg, (h x hx).2.2⟩
theorem own_at34 {w : World} {base n : Nat} {e : TypeId} {v : Value} {xs : List Value} (h : w.ownsRow base e 34 v n xs) : ∃ a c, v = .slice a n c := by
  rcases h.2 with ⟨rfl, h0⟩ | ⟨g, cap, cur, rfl, _⟩
  · exact ⟨none, 0, by rw [h0]⟩
  · exact ⟨_, _, rfl⟩
def lenV : Value → Nat | .slice _ n _ => n | _ => 0
theorem TxtAt.drop {w : World} {g o : Nat} {L : List ByteArray} (h : TxtAt w (some ⟨g, o, none⟩) L) (n : Nat) : TxtAt w (some ⟨g, o + n, none⟩) (L.drop n) := fun h0 => by
  rw [List.length_drop] at h0
  obtain ⟨g', o', h1, h2, h3⟩ := h (by omega)
  cases h1
  exact ⟨g, o + n, rfl, h2, fun i hi => by
    rw [List.getElem_drop, Nat.add_assoc]
    exact h3 (n + i) (by rw [List.length_drop] at hi; omega)⟩
/-- What All gives. -/
def AllP (T : List Rc × Int) (w : World) (e : Ending) (w' : World) : Prop := ∃ (v : Value) (X : List Rx), e = .returned (.tuple #[v, .int .i64 T.2]) ∧ X.map (·.1) = T.1 ∧ w'.ownsRow w.heap.size 26 34 v X.length (rsV X) ∧ rsOk w' X ∧ Below w.heap.size w w'
theorem AllP.bad {z : Int} {w w' : World} (hb : Below w.heap.size w w') : AllP ([], z) w (.returned (.tuple #[.slice none 0 0, .int .i64 z])) w' := ⟨_, [], rfl, rfl, World.ownsRow_nil _ _ _ _, rsOk.nil _, hb⟩
theorem AllP.good {v : Value} {X : List Rx} {w w' : World} (h1 : w'.ownsRow w.heap.size 26 34 v X.length (rsV X)) (h2 : rsOk w' X) (hb : Below w.heap.size w w') : AllP (X.map (·.1), 0) w (.returned (.tuple #[v, .int .i64 0])) w' := ⟨_, X, rfl, rfl, h1, h2, hb⟩
theorem resR_root (L : List ByteArray) : (resR L).root.length = 32 := by
  unfold resR
  split
  · rename_i h; exact recP_root (eP_zero h).2.1.1
  · simp [rz0]
theorem resR_good {L : List ByteArray} (h : eP L = 0) : resR L = recP L := by unfold resR; rw [if_pos h]
theorem resN_good {L : List ByteArray} (h : eP L = 0) : resN L = (lenN (cntP (tB L 0)) : Int) := by unfold resN; rw [if_pos h]
theorem alloc_row {w : World} {t : TypeId} {A : Array Value} : ∀ j u, A.toList[j]? = some u → (w.alloc (.cells A t)).cell? ((⟨w.heap.size, 0, none⟩ : Addr).add j) = some u := fun j u hu => by
  rw [Addr.add_lit, Nat.zero_add, cell_of_row _ _ j _ _ _ (heap_alloc_new _ _), ← Array.getElem?_toList]
  exact hu
theorem rxA_one (x : Rx) : ∀ u ∈ (rxA x).toList, u.oneCell' = true := fun u hu => by
  have := rcA_one x.1 (.slice x.2.1 x.1.ps.length x.2.2) rfl
  rw [Array.all_eq_true_iff_forall_mem] at this
  exact this u (by unfold rxA at hu; simpa using hu)
theorem TxtAt.cut {w : World} {a : Option Addr} {L : List ByteArray} {c n : Nat} (h : TxtAt w a L) (hc : L.length ≤ c) : TxtAt w (if c = n then a else Option.map (fun x => x.add n) a) (L.drop n) := fun h0 => by
  have hl := h0
  rw [List.length_drop] at hl
  obtain ⟨g, o, rfl, h2, h3⟩ := h (by omega)
  have := h.drop n h0
  rw [if_neg (by omega), Option.map_some, Addr.add_lit]
  exact this
attribute [local irreducible] rcA
set_option maxRecDepth 100000 in
set_option maxHeartbeats 4000000 in
theorem all_any (L : List ByteArray) (ao : Option Addr) (n cap : Nat) (w : World) (hn : L.length = n) (hc : n ≤ cap) (hcm : cap ≤ maxLen) (hnl : n ≤ 100000) (hT : TxtAt w ao L) :
    Calls Try.prog 19 #[.slice ao n cap] w fun e w' => AllP (allF L []) w e w' := by
  obtain ⟨T, hTT⟩ : ∃ T, Hid (allF L [] = T) := ⟨_, Lib.hid rfl⟩
  rw [hTT.out]
  have HT := Lib.hid hT
  have HN := Lib.hid hn
  have PP := Lib.hid parse_any
  obtain ⟨ir, hir, hr0, hr1, hr2⟩ := rc_info info_recR
  clear hT hn
  have HO0 : Hid (w.ownsRow w.heap.size 26 34 nilS 0 (rsV [])) := Lib.hid (World.ownsRow_nil _ _ _ _)
  have HX0 : Hid (rsOk w []) := Lib.hid (rsOk.nil w)
  have HF0 : Hid (allF L (([] : List Rx).map (·.1)) = T) := hTT
  have HB0 : Hid (Below w.heap.size w w) := Lib.hid (Below.refl _ _)
  clear hTT
  have hzr := zero_rc
  go_enter Try.func19, Try.ntmps19
  go_wp2_with fail
  go_loopw [0, 4, 5, 6, 7] (fun x0 x4 _ _ _ wi => ∃ (M : List ByteArray) (a : Option Addr) (m c : Nat) (v : Value) (X : List Rx), x0 = .slice a m c ∧ x4 = v ∧ Hid (M.length = m) ∧ X.length + m ≤ n ∧ m ≤ c ∧ c ≤ maxLen ∧ Hid (TxtAt w a M) ∧ Hid (wi.ownsRow w.heap.size 26 34 v X.length (rsV X)) ∧ Hid (rsOk wi X) ∧ Hid (allF M (X.map (·.1)) = T) ∧ Hid (Below w.heap.size w wi)) (fun x _ _ _ _ _ => lenV x)
  case atStart => exact ⟨L, ao, n, cap, _, [], rfl, rfl, HN, by simp, hc, hcm, HT, HO0, HX0, HF0, HB0⟩
  case round =>
    obtain ⟨M, a, m, c, v, X, rfl, rfl, HM, hXm, hmc, hcm2, HTM, HO, HX, HF, HB⟩ := hrel
    by_cases hm0 : 0 < m
    · have hmi : (0 : Int) < (m : Int) := by omega
      have hM0 : M ≠ [] := fun e => by have := HM.out; rw [e] at this; simp at this; omega
      have PC := Lib.hid (PP.out M a m c wr HM.out hmc hcm2 (HTM.out.below HB.out))
      have HBAD := Lib.hid (fun h : eP M ≠ 0 => (HF.out.symm.trans (allF_bad _ hM0 h) : T = ([], eP M)))
      have HGD := Lib.hid (fun h : eP M = 0 => HF.out.symm.trans (allF_ok _ h))
      have HRG := Lib.hid (fun h : eP M = 0 => (resR_good h).symm)
      have HNG := Lib.hid (fun h : eP M = 0 => resN_good h)
      have HNM := Lib.hid (fun h : eP M = 0 => (eP_zero h).2.2.1)
      have hr32 := resR_root M
      clear hM0 HF
      unfold ParseP at PC
      generalize resR M = R at *
      obtain ⟨nz, hnz⟩ : ∃ nz, Hid (resN M = nz) := ⟨_, Lib.hid rfl⟩
      rw [hnz.out] at PC HNG
      obtain ⟨z, hz⟩ : ∃ z, Hid (eP M = z) := ⟨_, Lib.hid rfl⟩
      rw [hz.out] at PC HBAD HGD HRG HNG HNM
      obtain ⟨k, hk⟩ : ∃ k, Hid (R.ps.length = k) := ⟨_, Lib.hid rfl⟩
      rw [hk.out] at PC
      go_wp2_with fail
      refine PC.out.mono ?_
      rintro e w2 ⟨a2, c2, rfl, hP2, hT2, b2⟩
      have hszr := rc_loaded (.slice a2 k c2) hr32
      have honer := rcA_one R (.slice a2 k c2) rfl
      have HO2 := Lib.hid (own_keep HO.out b2 (Nat.le_refl _))
      have HX2 := Lib.hid (HX.out.below b2)
      have HB2 := Lib.hid (HB.out.trans (b2.mono HB.out.size))
      clear PC HO HX HB b2
      obtain ⟨w3, HW3, HR3, HB3⟩ := made_rc w2
      go_upto_region 4 with (rw [HW3.out]; refine wpList_store_row rfl _ _ _ rfl w2.heap.size (rcA R (.slice a2 k c2)) rfl rfl 26 _ HR3.1 hszr (by rw [rcA_size _ _ HR3.2, rcA_size _ _ hr32]) honer ?_)
      have hX4 : RcAt (w3.setRow w2.heap.size (rcA R (.slice a2 k c2))) w2.heap.size R (.slice a2 k c2) := ⟨setRow_heap _ _ _ (rcA R (.slice a2 k c2)) 26 (0, 0) HR3.1, hr32⟩
      have HR4 := Lib.hid hX4
      have b4 := below_setRow HB3.out (Nat.le_refl _) (rcA R (.slice a2 k c2))
      have HO4 := Lib.hid (own_keep HO2.out b4 (Nat.le_refl _))
      have HX4 := Lib.hid (HX2.out.below b4)
      have HB4 := Lib.hid (HB2.out.trans (b4.mono HB2.out.size))
      have HP4 := Lib.hid (hP2.below b4)
      have HTT4 := Lib.hid (hT2.below b4)
      clear HR3 HB3 HW3 hX4 b4 HO2 HX2 HB2 hP2 hT2
      generalize w3.setRow w2.heap.size (rcA R (.slice a2 k c2)) = w4 at *
      generalize w2.heap.size = gx at *
      by_cases h0 : z = 0
      · have HGD := Lib.hid (HGD.out h0)
        have HRG := Lib.hid (HRG.out h0)
        have HNG := Lib.hid (HNG.out h0)
        have hNM := HNM.out h0
        have e0 : (z != 0) = false := by simpa using h0
        obtain ⟨N, hN⟩ : ∃ N, Hid (lenN (cntP (tB M 0)) = N) := ⟨_, Lib.hid rfl⟩
        have hN1 : 1 ≤ N := by rw [← hN.out]; exact lenN_pos _
        rw [hN.out] at HGD HNG hNM
        rw [HM.out] at hNM
        clear HBAD HNM h0 hnz hz hN
        obtain rfl := HNG.out
        clear HNG
        have hNi : (N : Int) ≤ (m : Int) := by omega
        have hNm : N ≤ m := by omega
        clear HNG
        have hcz : (rcA R (.slice a2 k c2)).size = 34 := rcA_size _ _ hr32
        obtain ⟨x, hx⟩ : ∃ x : Rx, Hid (x = (R, a2, c2)) := ⟨_, Lib.hid rfl⟩
        have HXA : Hid (rcA R (.slice a2 k c2) = rxA x) := Lib.hid (by rw [hx.out]; unfold rxA; rw [hk.out])
        have HXL : Hid ((rxA x).toList.length = 1 * 34) := Lib.hid (rxA_len (by rw [hx.out]; exact hr32))
        have hgx := HR4.out.lt
        go_wp2_with (first | (refine wpList_load_row rfl _ _ rfl gx rfl 26 (rcA R (.slice a2 k c2)) (0, 0) _ HR4.out.1 Try.underlying26 rfl hszr ?_) | (refine wpList_build1r rfl 42 26 _ rfl ir (.agg (rcA rz0 nilS)) 34 Try.underlying42 hir hr0 hr1 (by decide) (by decide) (.agg (rcA R (.slice a2 k c2))) rfl hcz ?_) | (at_builtin; refine wpList_append_own _ rfl _ _ 42 rfl w.heap.size 26 ir (.agg (rcA rz0 nilS)) 34 64 Try.underlying42 hir hr0 hr1 hr2 (rcA_size _ _ rfl) (by decide) _ X.length (rsV X) rfl (HO4.out.alloc _) ⟨w4.heap.size, 0, none⟩ 1 1 (rxA x).toList rfl HXL.out ?c1 (rxA_one x) (by unfold maxLen; omega) (by omega) (by have := HB4.out.size; simp; omega) ?_))
        case c1 => rw [← HXA.out]; exact alloc_row
        intro v9 w9 O9 G9 _
        have HSN := Lib.hid (rsV_snoc X x)
        rw [← HSN.out] at O9
        have b5 : Below w4.heap.size w4 (w4.alloc (.cells (rcA R (.slice a2 k c2)) 26)) := (Below.refl _ _).alloc (Nat.le_refl _) _
        have HX9 : Hid (rsOk w9 (X ++ [x])) := Lib.hid (((HX4.out.below b5).grown (HO4.out.alloc _) G9).snoc (by rw [hx.out]; exact (HP4.out.below b5).grown (HTT4.out.below b5) (HO4.out.alloc _) G9) (by rw [hx.out]; exact (HTT4.out.below b5).grown (HO4.out.alloc _) G9) (by rw [hx.out]; exact hr32))
        have HB9 : Hid (Below w.heap.size w w9) := Lib.hid ((HB4.out.alloc HB4.out.size _).grown G9 (by have := HB4.out.size; simp; omega) (fun q hq => (HO4.out.lt q hq).1))
        have HT9 : Hid (TxtAt w (if c = N then a else Option.map (fun x => x.add N) a) (M.drop N)) := Lib.hid (HTM.out.cut (by rw [HM.out]; exact hmc))
        have HF9 : Hid (allF (M.drop N) ((X ++ [x]).map (·.1)) = T) := Lib.hid (by rw [HGD.out, HRG.out, List.map_append, hx.out]; rfl)
        have HM9 : Hid ((M.drop N).length = m - N) := Lib.hid (by rw [List.length_drop, HM.out])
        have HO9 : Hid (w9.ownsRow w.heap.size 26 34 v9 (X ++ [x]).length (rsV (X ++ [x]))) := Lib.hid (by rw [List.length_append]; exact O9)
        obtain ⟨a9, c9, rfl⟩ := own_at34 O9
        clear O9 G9 b5 HX4 HP4 HTT4 HO4 HB4
        go_wp2_with fail
        go_roundw
        case rel => exact ⟨_, _, _, _, _, X ++ [x], rfl, rfl, HM9, by rw [List.length_append, List.length_singleton]; omega, by omega, by omega, HT9, HO9, HX9, HF9, HB9⟩
        case measure => show m - N < m; omega
      · have HBAD := Lib.hid (HBAD.out h0)
        have e0 : (z != 0) = true := by simpa using h0
        clear h0
        go_wp2_with fail
        go_ret2
        rw [HBAD.out]
        exact AllP.bad HB4.out
    · have hmi : ¬ (0 : Int) < (m : Int) := by omega
      have hM0 : M = [] := List.length_eq_zero_iff.1 (by rw [HM.out]; omega)
      have HF2 : Hid (T = (X.map (·.1), 0)) := Lib.hid (by rw [← HF.out, hM0, allF_nil])
      clear hM0
      go_wp2_with fail
      go_ret2
      rw [HF2.out]
      exact AllP.good HO.out HX.out HB.out
end Go.Proofs.Ythhaadcpenlnkaa
