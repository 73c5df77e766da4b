/- Contracts (cellaret): the law GfColumns. -/
import Derived.Test.YtgojeonpnjjkeaaGfJ
import Derived.Outline
import Derived.Deep.CutRange
import Derived.Deep.CutBlock
import Derived.IntWalk
import Derived.StillTailTactics
import Derived.Deep.DrawnRows
import Derived.Deep.RegionHeld3
namespace Go.Proofs.Ytgojeonpnjjkeaa
open Go.RowKit Go.Deep
set_option linter.unusedVariables false
attribute [local go_sem ↓] Go.wp_at_zero Go.wp_at_succ
theorem Try.info_u8E : (Try.prog.info? 22).map (fun i => (i.zero, i.size, i.bytes)) = some (some (.int .u8 0), 1, 1) := by kernel_rfl

theorem ColAt.keep {w w' : World} {g B : Nat} {f : Nat → Nat} (h : ColAt w g f) (hb : Below B w w') (hB : g < B) : ColAt w' g f :=
  ⟨fun k hk => (hb.cell (p := ⟨g, k, none⟩) hB).trans (h.cells k hk), fun k hk => (hb.frozen (p := ⟨g, k, none⟩) hB).trans (h.free k hk), Nat.lt_of_lt_of_le h.lt hb.size⟩
theorem ColAt.congr {w : World} {g : Nat} {f h : Nat → Nat} (H : ColAt w g f) (e : ∀ k, k < 4 → f k = h k) : ColAt w g h := ⟨fun k hk => by rw [H.cells k hk, e k hk], H.free, H.lt⟩
def part4 (f : Nat → Nat) (i k : Nat) : Nat := if k < i then f k else 0
theorem ColAt.set {w : World} {g : Nat} {f : Nat → Nat} {i : Nat} (h : ColAt w g (part4 f i)) (hi : i < 4) : ColAt (w.setCell ⟨g, i, none⟩ (.int .u8 (f i : Int))) g (part4 f (i + 1)) := by
  refine ⟨fun j hj => ?_, fun j hj => by rw [World.frozen?_setCell]; exact h.free j hj, by simpa [World.setCell] using h.lt⟩
  by_cases e : j = i
  · subst e
    rw [show part4 f (j + 1) j = f j from if_pos (by omega)]
    exact World.cell?_setCell_same _ _ _ (h.cells j hj)
  · rw [World.cell?_setCell_other _ _ _ _ (by intro e'; simp only [Addr.mk.injEq] at e'; omega), h.cells j hj]
    congr 3
    unfold part4
    split <;> split <;> first | rfl | omega
theorem ColAt.other {w : World} {g : Nat} {f : Nat → Nat} (h : ColAt w g f) (p : Addr) (v : Value) (hp : p.block ≠ g) : ColAt (w.setCell p v) g f := by
  refine ⟨fun j hj => ?_, fun j hj => by rw [World.frozen?_setCell]; exact h.free j hj, by simpa [World.setCell] using h.lt⟩
  rw [World.cell?_setCell_other _ _ _ _ (by rintro rfl; exact hp rfl)]
  exact h.cells j hj
structure WantAt (w : World) (g : Nat) (f : Nat → Nat) : Prop where
  cells : ∀ k, k < 4 → w.cell? ⟨g, k, none⟩ = some (.int .i64 (f k : Int))
  free : ∀ k, k < 4 → w.frozen? ⟨g, k, none⟩ = false
  lt : g < w.heap.size
theorem WantAt.keep {w w' : World} {g B : Nat} {f : Nat → Nat} (h : WantAt w g f) (hb : Below B w w') (hB : g < B) : WantAt w' g f :=
  ⟨fun k hk => (hb.cell (p := ⟨g, k, none⟩) hB).trans (h.cells k hk), fun k hk => (hb.frozen (p := ⟨g, k, none⟩) hB).trans (h.free k hk), Nat.lt_of_lt_of_le h.lt hb.size⟩
theorem WantAt.drew {w : World} {g : Nat} {f : Nat → Nat} (h : WantAt w g f) : WantAt w.drew g f := ⟨h.cells, h.free, h.lt⟩
theorem WantAt.other {w : World} {g : Nat} {f : Nat → Nat} (h : WantAt w g f) (p : Addr) (v : Value) (hp : p.block ≠ g) : WantAt (w.setCell p v) g f := by
  refine ⟨fun j hj => ?_, fun j hj => by rw [World.frozen?_setCell]; exact h.free j hj, by simpa [World.setCell] using h.lt⟩
  rw [World.cell?_setCell_other _ _ _ _ (by rintro rfl; exact hp rfl)]
  exact h.cells j hj
theorem WantAt.put {w : World} {g : Nat} {ps qs : Nat → Nat} {t : Nat} (h : WantAt w g (colT ps qs t)) (k v : Nat) (hk : k < 4) (ht : (t / 4 + t % 4) % 4 = k) (hv : colT ps qs t k ^^^ gmul (ps (t / 4)) (qs (t % 4)) = v) : WantAt (w.setCell ⟨g, k, none⟩ (.int .i64 (v : Int))) g (colT ps qs (t + 1)) := by
  refine ⟨fun j hj => ?_, fun j hj => by rw [World.frozen?_setCell]; exact h.free j hj, by simpa [World.setCell] using h.lt⟩
  by_cases e : j = k
  · subst e
    have : colT ps qs (t + 1) j = v := by unfold colT; rw [if_pos ht.symm]; exact hv
    rw [this]
    exact World.cell?_setCell_same _ _ _ (h.cells j hj)
  · have : colT ps qs (t + 1) j = colT ps qs t j := by
      show (if j = (t / 4 + t % 4) % 4 then _ else _) = _
      rw [if_neg (by rw [ht]; exact e)]
    rw [this, World.cell?_setCell_other _ _ _ _ (by intro e'; simp only [Addr.mk.injEq] at e'; omega)]
    exact h.cells j hj
theorem k4 {k : Nat} (h : k < 4) : k = 0 ∨ k = 1 ∨ k = 2 ∨ k = 3 := by omega
/-- So many elements as cells. -/
def elL (zs : List Nat) (n : Nat) : List Value := (List.range n).map fun k => .int .u8 ((zs.getD k 0 : Nat) : Int)
theorem elL_succ (zs : List Nat) (n : Nat) : elL zs (n + 1) = elL zs n ++ [.int .u8 ((zs.getD n 0 : Nat) : Int)] := by unfold elL; rw [List.range_succ, List.map_append]; rfl
theorem ElsAt.own {w : World} {base : Nat} {e : TypeId} {v : Value} {n : Nat} {zs : List Nat} (h : w.ownsRow base e 1 v n (elL zs n)) : ∃ ao c, v = .slice ao n c ∧ ElsAt w ao n zs := by
  rcases h.2 with ⟨h0, h1⟩ | ⟨g, cap', cur, h0, hb, hg, _⟩
  · exact ⟨none, 0, by rw [h0, h1], fun hp => absurd hp (by omega)⟩
  · subst h0
    refine ⟨_, _, rfl, fun hp => ⟨g, 0, rfl, (Array.getElem?_eq_some_iff.1 hg).1, fun i hi => ?_⟩⟩
    have := h.cells (g := g) rfl i (.int .u8 ((zs.getD i 0 : Nat) : Int)) (by unfold elL; simp [hi])
    simpa [Addr.add_lit] using this
/-- What stands in memory ahead of the loops. -/
structure Init (s Q : Nat) (W w6 : World) (A B : Nat) (f g : Nat → Nat) : Prop where
  a : ColAt w6 A f
  b : ColAt w6 B g
  x : ColAt w6 Q (part4 f 0)
  y : ColAt w6 (Q + 1) (part4 g 0)
  z : WantAt w6 (Q + 1 + 1) (colT f g 0)
  size : w6.heap.size = Q + 1 + 1 + 1
  la : A < Q
  lb : B < Q
  below : Below s W w6
  sq : s ≤ Q
theorem init0 (w wc : World) (A B : Nat) (f g : Nat → Nat) (ha : ColAt wc A f) (hb : ColAt wc B g) (hw : Below w.heap.size w wc) : Hid (Init w.heap.size wc.heap.size w (((wc.alloc (.cells #[.int .u8 0, .int .u8 0, .int .u8 0, .int .u8 0] 40)).alloc (.cells #[.int .u8 0, .int .u8 0, .int .u8 0, .int .u8 0] 40)).alloc (.cells #[.int .i64 0, .int .i64 0, .int .i64 0, .int .i64 0] 41)) A B f g) := by
  have hw0 := hw.size
  have hl : Below wc.heap.size wc (((wc.alloc (.cells #[.int .u8 0, .int .u8 0, .int .u8 0, .int .u8 0] 40)).alloc (.cells #[.int .u8 0, .int .u8 0, .int .u8 0, .int .u8 0] 40)).alloc (.cells #[.int .i64 0, .int .i64 0, .int .i64 0, .int .i64 0] 41)) :=
    (((Below.refl _ _).alloc (Nat.le_refl _) _).alloc (by simp) _).alloc (by simp; omega) _
  refine Lib.hid ⟨ha.keep hl ha.lt, hb.keep hl hb.lt, ⟨fun k hk => ?_, fun k hk => ?_, by simp; try omega⟩, ⟨fun k hk => ?_, fun k hk => ?_, by simp⟩, ⟨fun k hk => ?_, fun k hk => ?_, by simp⟩, by simp, ha.lt, hb.lt, hw.trans (hl.mono hw0), hw0⟩
  all_goals (rcases k4 hk with rfl | rfl | rfl | rfl <;> simp [go_sem, part4, colT])
theorem Init.split {s Q A B : Nat} {W w6 : World} {f g : Nat → Nat} (h : Hid (Init s Q W w6 A B f g)) : ∃ w7, Hid (w6 = w7) ∧ Hid (Init s Q W w7 A B f g) := ⟨w6, Lib.hid rfl, h⟩
theorem rowF_b (zs ys : List Nat) : ∀ N, (∀ i, i < N → zs.getD i 0 < 256) → rowF zs ys N < 256
  | 0, _ => by show 0 < 256; omega
  | N + 1, hz => xor_lt _ _ (rowF_b zs ys N fun j hj => hz j (by omega)) (gmul_lt _ _ (hz N (by omega)))
theorem quietL {P : Program} {f : FuncId} {args : Array Value} {w : World} {n : Nat} {v : Value} (h : Calls P f args (w.drewN n) fun e w' => e = .returned v ∧ w.drewN n = w') :
    Calls P f args (w.drewN n) fun e w'' => e = .returned v ∧ ∃ m, w'' = w.drewN m := h.mono fun _ _ ⟨he, hm⟩ => ⟨he, n, hm.symm⟩
set_option maxRecDepth 100000 in
set_option maxHeartbeats 16000000 in
theorem gfColumns_body (f g : Nat → Nat) (ao bo : Option Addr) (m n c d : Nat) (zs ys : List Nat) (w : World) (hf : ∀ i, f i < 256) (hg : ∀ i, g i < 256) (hm : m ≤ maxLen) (hn : n ≤ maxLen) (ha : ElsAt w ao m zs) (hb : ElsAt w bo n ys) (HZ0 : Hid (∀ i, i < m → zs.getD i 0 < 256)) (HY0 : Hid (∀ i, i < n → ys.getD i 0 < 256)) :
    Calls Try.prog 7 #[.agg #[.int .u8 (f 0 : Int), .int .u8 (f 1 : Int), .int .u8 (f 2 : Int), .int .u8 (f 3 : Int), .int .u8 (g 0 : Int), .int .u8 (g 1 : Int), .int .u8 (g 2 : Int), .int .u8 (g 3 : Int), .slice ao m c, .slice bo n d]] w fun e w' => e = .returned (.bool true) ∧ Below w.heap.size w w' := by
  have HA := Lib.hid ha
  have HB := Lib.hid hb
  have HF := Lib.hid hf
  have HG := Lib.hid hg
  clear ha hb hf hg
  go_enter Try.func7, Try.ntmps7
  go_upto_region 1 with fail
  go_cut [3, 4, 5, 6] from 21 (fun s3 s4 s5 s6 wx => ∃ A B : Nat, s3 = .pointer (some ⟨A, 0, none⟩) ∧ s4 = .pointer (some ⟨B, 0, none⟩) ∧ s5 = .slice ao m c ∧ s6 = .slice bo n d ∧ Hid (ColAt wx A f) ∧ Hid (ColAt wx B g) ∧ Below w.heap.size w wx)
  case first =>
    go_region
    all_goals
      go_wp2
      go_meet
      refine ⟨_, _, rfl, rfl, rfl, rfl, Lib.hid ⟨fun k hk => ?_, fun k hk => ?_, by simp; try omega⟩, Lib.hid ⟨fun k hk => ?_, fun k hk => ?_, by simp; try omega⟩, ?_⟩
      all_goals first
        | (rcases k4 hk with rfl | rfl | rfl | rfl <;> simp [go_sem])
        | exact ((((Below.refl _ _).alloc (Nat.le_refl _) _).alloc (by simp) _).alloc (by simp; omega) _).drew
  case rest => as_aux_lemma =>
    obtain ⟨A, B, rfl, rfl, rfl, rfl, HCA, HCB, hwc⟩ := hcut
    obtain ⟨w6, HE, HI6⟩ := Init.split (init0 w wc A B f g HCA.out HCB.out hwc)
    clear HCA HCB hwc
    go_wp2
    rw [HE.out]
    clear HE
    generalize wc.heap.size = Q at HI6 ⊢
    have hsq := HI6.out.sq
    go_loopw [10] (fun x wi => ∃ i : Nat, x = .int .i64 i ∧ i ≤ 4 ∧ Hid (ColAt wi (Q) (part4 f i)) ∧ Hid (ColAt wi (Q + 1) (part4 g i)) ∧ Hid (WantAt wi (Q + 1 + 1) (colT f g (4 * 0))) ∧ Below (Q) w6 wi) (fun x _ => 4 - (intOf x).toNat)
    case atStart => exact ⟨0, rfl, by omega, Lib.hid HI6.out.x, Lib.hid HI6.out.y, Lib.hid HI6.out.z, Below.refl _ _⟩
    case round =>
      obtain ⟨i, rfl, hi, HX, HY, HZ, hbw⟩ := hrel
      by_cases hlt : i < 4
      · as_aux_lemma =>
        have hli : (i : Int) < 4 := by omega
        have ca := (HI6.out.a.keep hbw HI6.out.la).cells i hlt
        have cb := (HI6.out.b.keep hbw HI6.out.lb).cells i hlt
        have lbq := HI6.out.lb
        have cbQ : (wr.setCell ⟨Q, i, none⟩ (.int .u8 ((f i : Nat) : Int))).cell? ⟨B, i, none⟩ = some (.int .u8 ((g i : Nat) : Int)) := (World.cell?_setCell_other _ _ _ _ (by intro e; simp only [Addr.mk.injEq] at e; omega)).trans cb
        have cx := HX.out.cells i hlt
        have fx := HX.out.free i hlt
        have cy := HY.out.cells i hlt
        have fy := HY.out.free i hlt
        go_wp2
        go_roundw
        case rel => exact ⟨i + 1, by go_num, by omega, Lib.hid ((HX.out.set hlt).other ⟨_, _, _⟩ _ (by simp <;> omega)), Lib.hid ((HY.out.other ⟨Q, i, none⟩ _ (by simp <;> omega)).set hlt), Lib.hid ((HZ.out.other ⟨Q, i, none⟩ _ (by simp <;> omega)).other ⟨Q + 1, i, none⟩ _ (by simp <;> omega)), (hbw.setCell (p := ⟨Q, i, none⟩) (by simp <;> omega) _).setCell (p := ⟨Q + 1, i, none⟩) (by simp <;> omega) _⟩
        case measure => simp [intOf]; omega
      · as_aux_lemma =>
        obtain rfl : i = 4 := by omega
        rw [show ((4 : Nat) : Int) = 4 from rfl]
        obtain ⟨w7, rfl⟩ : ∃ w7 : World, w7 = wr := ⟨_, rfl⟩
        have A7 := Lib.hid (HI6.out.a.keep hbw HI6.out.la)
        have B7 := Lib.hid (HI6.out.b.keep hbw HI6.out.lb)
        have X7 := Lib.hid (HX.out.congr (h := f) (fun k hk => if_pos hk))
        have Y7 := Lib.hid (HY.out.congr (h := g) (fun k hk => if_pos hk))
        have la := HI6.out.la
        have lb := HI6.out.lb
        have hw7 : Q + 1 + 1 + 1 ≤ w7.heap.size := by rw [← HI6.out.size]; exact hbw.size
        have hB7 : Below w.heap.size w w7 := HI6.out.below.trans (hbw.mono (by omega))
        clear HX HY HI6 hbw hlt hi
        go_wp2
        go_loopw [11] (fun x wi => ∃ i : Nat, x = .int .i64 i ∧ i ≤ 4 ∧ Hid (WantAt wi (Q + 1 + 1) (colT f g (4 * i))) ∧ Below (Q + 1 + 1) w7 wi) (fun x _ => 4 - (intOf x).toNat)
        case atStart => exact ⟨0, rfl, by omega, HZ, Below.refl _ _⟩
        case round =>
          obtain ⟨i, rfl, hi, HC, hbw⟩ := hrel
          clear HZ
          by_cases hlt : i < 4
          · as_aux_lemma =>
            have hli : (i : Int) < 4 := by omega
            have hpi := HF.out i
            have HC' : Hid (WantAt wr (Q + 1 + 1) (colT f g (4 * i + 0))) := HC
            go_wp2
            obtain ⟨wo, rfl⟩ : ∃ wo : World, wo = wr := ⟨_, rfl⟩
            go_loopw [12] (fun x wi => ∃ j : Nat, x = .int .i64 j ∧ j ≤ 4 ∧ Hid (WantAt wi (Q + 1 + 1) (colT f g (4 * i + j))) ∧ Below (Q + 1 + 1) w7 wi) (fun x _ => 4 - (intOf x).toNat)
            case atStart => exact ⟨0, rfl, by omega, HC', hbw⟩
            case round =>
              obtain ⟨j, rfl, hj, HC2, hbw2⟩ := hrel
              by_cases hlt2 : j < 4
              · as_aux_lemma =>
                have hlj : (j : Int) < 4 := by omega
                have hqj := HG.out j
                obtain ⟨k, hk⟩ : ∃ k, (i + j) % 4 = k := ⟨_, rfl⟩
                have hk4 : k < 4 := by omega
                have e1 : ((i : Int) + (j : Int)) % 4 = (k : Int) := by omega
                have d1 : (4 * i + j) / 4 = i := by omega
                have d2 : (4 * i + j) % 4 = j := by omega
                have c0 := HC2.out.cells k hk4
                have f0 := HC2.out.free k hk4
                have ci := (A7.out.keep hbw2 (by omega)).cells i hlt
                have cj := (B7.out.keep hbw2 (by omega)).cells j hlt2
                have hl := colT_lt f g HF.out (4 * i + j) k
                have HP := Lib.hid (fun v hv => HC2.out.put k v hk4 (by rw [d1, d2]; exact hk) (by rw [d1, d2]; exact hv))
                generalize colT f g (4 * i + j) k = cc at c0 hl HP
                have HM := Lib.hid (fun w => r02mul_any (f i) (g j) w hpi hqj)
                have hgm := gmul_lt (f i) (g j) hpi
                generalize hgv : gmul (f i) (g j) = gv at HM hgm HP
                have HX := Lib.hid (fun w => r02add_any cc gv w (by omega) (by omega))
                have hcx := xor_lt cc gv hl hgm
                have HP2 := Lib.hid (HP.out _ rfl)
                generalize cc ^^^ gv = z at HX hcx HP2
                clear HP hgv d1 d2 hk
                have hk0 : (0 : Int) ≤ (k : Int) := by omega
                have hki : (k : Int) < 4 := by omega
                have ew1 : IntKind.i64.wrap ((f i : Nat) : Int) = (f i : Int) := IntWalk.i64_in _ (by omega)
                have ew2 : IntKind.i64.wrap ((g j : Nat) : Int) = (g j : Int) := IntWalk.i64_in _ (by omega)
                have es : IntKind.i64.wrap ((i : Int) + (j : Int)) = (i : Int) + (j : Int) := IntWalk.i64_in _ (by omega)
                have et : ((i : Int) + (j : Int)).tmod 4 = (k : Int) := by rw [Int.tmod_eq_emod_of_nonneg (by omega)]; exact e1
                go_wp2
                refine wp_region_still_tail 21 (by kernel_rfl) (by kernel_rfl) ?_
                simp only [List.take_succ_cons, List.take_zero, List.drop_succ_cons, List.drop_zero]
                repeat still_step
                still_call ((HM.out _).mono fun _ _ ⟨a, b⟩ => ⟨a, b.symm⟩)
                repeat still_step
                still_call ((HX.out _).mono fun _ _ ⟨a, b⟩ => ⟨a, b.symm⟩)
                repeat still_step
                refine wpStill_nil ?_
                clear ew1 ew2 es et e1 c0 ci cj
                have c0 := HC2.out.cells k hk4
                change wpList _ _ _ _ _ (World.drew wr)
                all_goals
                  go_wp2
                  go_roundw
                  case rel => exact ⟨j + 1, by go_num, by omega, Lib.hid (HP2.out.drew), (hbw2.setCell (p := ⟨Q + 1 + 1, k, none⟩) (Nat.le_refl _) _).drew⟩
                  case measure => simp [intOf]; omega
              · as_aux_lemma =>
                obtain rfl : j = 4 := by omega
                go_wp2
                go_roundw
                case rel => exact ⟨i + 1, by go_num, by omega, HC2, hbw2⟩
                case measure => simp [intOf]; omega
          · as_aux_lemma =>
            obtain rfl : i = 4 := by omega
            rw [show ((4 : Nat) : Int) = 4 from rfl]
            obtain ⟨w8, rfl⟩ : ∃ w8 : World, w8 = wr := ⟨_, rfl⟩
            have X8 := Lib.hid (X7.out.keep hbw (by omega))
            have Y8 := Lib.hid (Y7.out.keep hbw (by omega))
            have x0 := X8.out.cells 0 (by omega)
            have x1 := X8.out.cells 1 (by omega)
            have x2 := X8.out.cells 2 (by omega)
            have x3 := X8.out.cells 3 (by omega)
            have y0 := Y8.out.cells 0 (by omega)
            have y1 := Y8.out.cells 1 (by omega)
            have y2 := Y8.out.cells 2 (by omega)
            have y3 := Y8.out.cells 3 (by omega)
            go_wp2_with fail
            refine (column_raw f g _ HF.out HG.out).mono ?_
            rintro e w9 ⟨rfl, b9⟩
            obtain ⟨w10, HE, Z10, W10, b10⟩ : ∃ w10, Hid (w9.alloc (.cells #[.int .u8 (colT f g 16 0 : Int), .int .u8 (colT f g 16 1 : Int), .int .u8 (colT f g 16 2 : Int), .int .u8 (colT f g 16 3 : Int)] 40) = w10) ∧ Hid (ColAt w10 w9.heap.size (colT f g 16)) ∧ Hid (WantAt w10 (Q + 1 + 1) (colT f g 16)) ∧ Below w.heap.size w w10 := by
              have q1 : Q + 1 + 1 < w8.heap.size := by have := hbw.size; omega
              have q2 : w8.heap.size ≤ w9.heap.size := b9.size
              refine ⟨_, Lib.hid rfl, Lib.hid ⟨fun k hk => ?_, fun k hk => ?_, by simp⟩, Lib.hid ((HC.out.keep b9 q1).keep ((Below.refl _ _).alloc (Nat.le_refl _) _) (Nat.lt_of_lt_of_le q1 q2)), ?_⟩
              · rcases k4 hk with rfl | rfl | rfl | rfl <;> simp [go_sem]
              · rcases k4 hk with rfl | rfl | rfl | rfl <;> simp [go_sem]
              · exact ((hB7.trans (hbw.mono (by omega))).trans (b9.mono (by omega))).alloc (by omega) _
            clear x0 x1 x2 x3 y0 y1 y2 y3 X8 Y8 HC hbw hB7 b9 A7 B7 X7 Y7 hw7 la lb hlt hi
            go_wp2
            rw [HE.out]
            clear HE
            generalize w9.heap.size = G at Z10 ⊢
            go_loopw [14] (fun x wi => ∃ k : Nat, x = .int .i64 k ∧ k ≤ 4 ∧ ∃ q, wi = w10.drewN q) (fun x _ => 4 - (intOf x).toNat)
            case atStart => exact ⟨0, rfl, by omega, 0, rfl⟩
            case round =>
              obtain ⟨k, rfl, hk, q, rfl⟩ := hrel
              by_cases hlt : k < 4
              · as_aux_lemma =>
                have hli : (k : Int) < 4 := by omega
                have cz : (w10.drewN q).cell? ⟨G, k, none⟩ = _ := Z10.out.cells k hlt
                have cw : (w10.drewN q).cell? ⟨Q + 1 + 1, k, none⟩ = _ := W10.out.cells k hlt
                have hv := colT_lt f g HF.out 16 k
                generalize colT f g 16 k = v at cz cw hv
                generalize hwq : w10.drewN q = wq at cz cw ⊢
                have HW := Lib.hid hwq
                clear hwq
                go_wp2
                go_quiet (fail)
                go_wp2
                go_roundw
                case rel => exact ⟨k + 1, by go_num, by omega, _, by rw [← HW.out]; exact (World.drewN_drewN _ _ _)⟩
                case measure => simp [intOf]; omega
              · as_aux_lemma =>
                obtain rfl : k = 4 := by omega
                have b11 : Below w.heap.size w (w10.drewN q) := drewN_after b10 q
                generalize w10.drewN q = w11 at b11 ⊢
                clear Z10 W10 hlt hk b10
                rw [show ((4 : Nat) : Int) = 4 from rfl]
                have hmm : m ≤ 9223372036854775807 := hm
                have hnn : n ≤ 9223372036854775807 := hn
                obtain ⟨i0, hi0, hz0, hz1, hz2⟩ := info_parts Try.info_u8E
                have HA11 := Lib.hid (HA.out.below (b11.mono (Nat.le_refl _)))
                have HB11 := Lib.hid (HB.out.below (b11.mono (Nat.le_refl _)))
                go_upto_block 8 with fail
                go_cut [15, 18] from 87 (fun s15 s18 wx => ∃ N : Nat, ((N = m ∧ m ≤ 20) ∨ (20 < m ∧ N = 20)) ∧ (∃ v, s18 = v) ∧ Hid (wx.ownsRow w.heap.size 22 1 s15 N (elL zs N)) ∧ Below w.heap.size w wx)
                case first =>
                  go_wp2_with fail
                  go_loopw [15, 18] (fun x z wi => ∃ i : Nat, z = .int .i64 i ∧ i ≤ m ∧ i ≤ 20 ∧ Hid (wi.ownsRow w.heap.size 22 1 x i (elL zs i)) ∧ Below w.heap.size w wi) (fun _ z _ => 20 - (intOf z).toNat)
                  case atStart => exact ⟨0, rfl, by omega, by omega, Lib.hid (World.ownsRow_nil _ _ _ _), b11⟩
                  case round =>
                    obtain ⟨i, rfl, him, hi20, HO, hbel⟩ := hrel
                    have hway : (i < m ∧ i < 20) ∨ (i = m) ∨ (i < m ∧ i = 20) := by omega
                    rcases hway with ⟨h1, h2⟩ | rfl | ⟨h1, rfl⟩
                    · obtain ⟨b, off, hao, hb, hc⟩ := HA.out (by omega)
                      have c0 := (hbel.cell (p := ⟨b, off + i, none⟩) hb).trans (hc i h1)
                      subst hao
                      have HTK : Hid (elL zs (i + 1) = elL zs i ++ [.int .u8 ((zs.getD i 0 : Nat) : Int)]) := Lib.hid (elL_succ zs i)
                      clear hc
                      generalize zs.getD i 0 = u at c0 HTK
                      go_wp2_with (at_builtin; refine wpList_append_own _ rfl _ _ 43 rfl w.heap.size 22 i0 (.int .u8 0) 1 1 Try.underlying43 hi0 hz0 hz1 hz2 rfl (by decide) _ _ _ rfl (HO.out.alloc _) ⟨wr.heap.size, 0, none⟩ 1 1 [.int .u8 u] rfl rfl ?c1 ?c2 ?c3 ?c4 ?c5 ?_)
                      case c1 =>
                        intro j v hj
                        match j, hj with
                        | 0, hj => simp at hj; subst hj; exact World.cell?_alloc_at (w := wr) _ _ _ _ rfl
                      case c2 => intro v hv; simp at hv; subst hv; rfl
                      case c3 => unfold maxLen; omega
                      case c4 => omega
                      case c5 => have := hbel.size; simp; omega
                      · intro v' w1 hown' hgrow _
                        have hb1 : Below w.heap.size w w1 := (hbel.alloc hbel.size _).grown hgrow (by have := hbel.size; simp; omega) (fun j e => (HO.out.lt j e).1)
                        have HO1 : Hid (w1.ownsRow w.heap.size 22 1 v' (i + 1) (elL zs (i + 1))) := Lib.hid (by rw [HTK.out]; simpa using hown')
                        clear hown' hgrow
                        go_wp2
                        go_roundw
                        case rel => exact ⟨i + 1, by go_num, by omega, by omega, HO1, hb1⟩
                        case measure => simp [intOf]; omega
                    · go_wp2
                      go_meet
                      exact ⟨i, .inl ⟨rfl, by omega⟩, ⟨_, rfl⟩, HO, hbel⟩
                    · rw [show ((20 : Nat) : Int) = 20 from rfl]
                      go_wp2
                      go_meet
                      exact ⟨20, .inr ⟨h1, rfl⟩, ⟨_, rfl⟩, HO, hbel⟩
                case rest => as_aux_lemma =>
                  obtain ⟨N1, hN1, ⟨v18, rfl⟩, HO, hbel⟩ := hcut
                  obtain ⟨pa, pc, rfl, HPE⟩ := ElsAt.own HO.out
                  clear HO
                  obtain ⟨w12, rfl⟩ : ∃ w12 : World, w12 = wc := ⟨_, rfl⟩
                  have HPE := Lib.hid HPE
                  have HA5 := Lib.hid (HA.out.below hbel)
                  have HB5 := Lib.hid (HB.out.below hbel)
                  have hN1m : N1 ≤ m := by omega
                  have hN1c : N1 ≤ 20 := by omega
                  have HB0 := Lib.hid hbel
                  clear hN1 hbel b11 HA HB HA11 HB11
                  go_upto_block 10 with fail
                  go_cut [16, 19] from 104 (fun s16 s19 wx => ∃ N : Nat, N ≤ n ∧ N ≤ 20 ∧ (∃ v, s19 = v) ∧ Hid (wx.ownsRow w12.heap.size 22 1 s16 N (elL ys N)) ∧ Below w12.heap.size w12 wx)
                  case first =>
                    go_wp2_with fail
                    go_loopw [16, 19] (fun x z wi => ∃ i : Nat, z = .int .i64 i ∧ i ≤ n ∧ i ≤ 20 ∧ Hid (wi.ownsRow w12.heap.size 22 1 x i (elL ys i)) ∧ Below w12.heap.size w12 wi) (fun _ z _ => 20 - (intOf z).toNat)
                    case atStart => exact ⟨0, rfl, by omega, by omega, Lib.hid (World.ownsRow_nil _ _ _ _), Below.refl _ _⟩
                    case round =>
                      obtain ⟨i, rfl, hin, hi20, HO, hbel⟩ := hrel
                      have hway : (i < n ∧ i < 20) ∨ (i = n) ∨ (i < n ∧ i = 20) := by omega
                      rcases hway with ⟨h1, h2⟩ | rfl | ⟨h1, rfl⟩
                      · obtain ⟨b, off, hao, hb, hc⟩ := HB5.out (by omega)
                        have c0 := (hbel.cell (p := ⟨b, off + i, none⟩) hb).trans (hc i h1)
                        subst hao
                        have HTK : Hid (elL ys (i + 1) = elL ys i ++ [.int .u8 ((ys.getD i 0 : Nat) : Int)]) := Lib.hid (elL_succ ys i)
                        clear hc
                        generalize ys.getD i 0 = u at c0 HTK
                        go_wp2_with (at_builtin; refine wpList_append_own _ rfl _ _ 43 rfl w12.heap.size 22 i0 (.int .u8 0) 1 1 Try.underlying43 hi0 hz0 hz1 hz2 rfl (by decide) _ _ _ rfl (HO.out.alloc _) ⟨wr.heap.size, 0, none⟩ 1 1 [.int .u8 u] rfl rfl ?c1 ?c2 ?c3 ?c4 ?c5 ?_)
                        case c1 =>
                          intro j v hj
                          match j, hj with
                          | 0, hj => simp at hj; subst hj; exact World.cell?_alloc_at (w := wr) _ _ _ _ rfl
                        case c2 => intro v hv; simp at hv; subst hv; rfl
                        case c3 => unfold maxLen; omega
                        case c4 => omega
                        case c5 => have := hbel.size; simp; omega
                        · intro v' w1 hown' hgrow _
                          have hb1 : Below w12.heap.size w12 w1 := (hbel.alloc hbel.size _).grown hgrow (by have := hbel.size; simp; omega) (fun j e => (HO.out.lt j e).1)
                          have HO1 : Hid (w1.ownsRow w12.heap.size 22 1 v' (i + 1) (elL ys (i + 1))) := Lib.hid (by rw [HTK.out]; simpa using hown')
                          clear hown' hgrow
                          go_wp2
                          go_roundw
                          case rel => exact ⟨i + 1, by go_num, by omega, by omega, HO1, hb1⟩
                          case measure => simp [intOf]; omega
                      · go_wp2
                        go_meet
                        exact ⟨i, Nat.le_refl _, by omega, ⟨_, rfl⟩, HO, hbel⟩
                      · rw [show ((20 : Nat) : Int) = 20 from rfl]
                        go_wp2
                        go_meet
                        exact ⟨20, by omega, by omega, ⟨_, rfl⟩, HO, hbel⟩
                  case rest => as_aux_lemma =>
                    obtain ⟨N2, hN2n, hN2c, ⟨v19, rfl⟩, HO, hb12⟩ := hcut
                    obtain ⟨qa, qc, rfl, HQE⟩ := ElsAt.own HO.out
                    clear HO
                    obtain ⟨w13, rfl⟩ : ∃ w13 : World, w13 = wc := ⟨_, rfl⟩
                    have HQ13 := Lib.hid HQE
                    have HP13 := Lib.hid (HPE.out.below hb12)
                    have HA13 := Lib.hid (HA5.out.below hb12)
                    have HB13 := Lib.hid (HB5.out.below hb12)
                    have hb13 : Below w.heap.size w w13 := HB0.out.trans (hb12.mono HB0.out.size)
                    clear HQE HPE HA5 HB5 hb12 HB0
                    go_wp2
                    go_loopw [17, 20] (fun s x wi => ∃ i : Nat, ∃ sv : Nat, s = .int .i64 sv ∧ x = .int .i64 i ∧ i ≤ N1 ∧ i ≤ N2 ∧ Hid (rowF zs ys i = sv) ∧ ∃ q, wi = w13.drewN q) (fun _ x _ => 20 - (intOf x).toNat)
                    case atStart => exact ⟨0, 0, rfl, rfl, by omega, by omega, Lib.hid rfl, 0, rfl⟩
                    case round =>
                      obtain ⟨i, sv, rfl, rfl, hi1, hi2, HR, q, rfl⟩ := hrel
                      have hway : (i < N1 ∧ i < N2) ∨ (i = N1) ∨ (i < N1 ∧ i = N2) := by omega
                      rcases hway with ⟨h1, h2⟩ | rfl | ⟨h1, rfl⟩
                      · as_aux_lemma =>
                        obtain ⟨b1, o1, rfl, l1, c1⟩ := HA13.out (by omega)
                        obtain ⟨b2, o2, rfl, l2, c2⟩ := HB13.out (by omega)
                        have cz : (w13.drewN q).cell? ⟨b1, o1 + i, none⟩ = _ := c1 i (by omega)
                        have cy : (w13.drewN q).cell? ⟨b2, o2 + i, none⟩ = _ := c2 i (by omega)
                        have hsv : sv < 256 := by rw [← HR.out]; exact rowF_b zs ys i fun j hj => HZ0.out j (by omega)
                        have hzi := HZ0.out i (by omega)
                        have hyi := HY0.out i (by omega)
                        have HR2 : Hid (rowF zs ys (i + 1) = sv ^^^ gmul (zs.getD i 0) (ys.getD i 0)) := Lib.hid (by rw [← HR.out]; rfl)
                        clear c1 c2 l1 l2 HA13 HB13
                        generalize zs.getD i 0 = zi at cz hzi HR2
                        generalize ys.getD i 0 = yi at cy hyi HR2
                        have HM := Lib.hid (fun w => r02mul_any zi yi w hzi hyi)
                        have hgm := gmul_lt zi yi hzi
                        generalize gmul zi yi = gv at HM hgm HR2
                        have HX := Lib.hid (fun w => r02add_any sv gv w (by omega) (by omega))
                        generalize sv ^^^ gv = z at HX HR2
                        generalize hwq : w13.drewN q = wq at cz cy ⊢
                        have HW := Lib.hid hwq
                        clear hwq
                        have ew1 : IntKind.i64.wrap (zi : Int) = (zi : Int) := IntWalk.i64_in _ (by omega)
                        have ew2 : IntKind.i64.wrap (yi : Int) = (yi : Int) := IntWalk.i64_in _ (by omega)
                        have hg0 : (0 : Int) ≤ (i : Int) := by omega
                        have hgi : (i : Int) < (m : Int) := by omega
                        have hgj : (i : Int) < (n : Int) := by omega
                        have hg1 : (i : Int) < (N1 : Int) := by omega
                        have hg2 : (i : Int) < (N2 : Int) := by omega
                        go_wp2
                        go_quiet ((first | (go_at_call 12; exact quietL (HM.out _)) | (go_at_call 10; exact quietL (HX.out _))))
                        go_wp2
                        go_roundw
                        case rel => exact ⟨i + 1, z, rfl, by go_num, by omega, by omega, HR2, _, by rw [← HW.out]; exact (World.drewN_drewN _ _ _)⟩
                        case measure => simp [intOf]; omega
                      all_goals
                        have hsv : sv < 256 := by rw [← HR.out]; exact rowF_b zs ys i fun j hj => HZ0.out j (by omega)
                        have b14 : Below w.heap.size w (w13.drewN q) := drewN_after hb13 q
                        have HP14 := Lib.hid (HP13.out.below (drewN_after (Below.refl _ _) q))
                        have HQ14 := Lib.hid (HQ13.out.below (drewN_after (Below.refl _ _) q))
                        generalize w13.drewN q = w14 at b14 HP14 HQ14 ⊢
                        have ew1 : IntKind.i64.wrap (sv : Int) = (sv : Int) := IntWalk.i64_in _ (by omega)
                        clear HP13 HQ13 HA13 HB13
                      · as_aux_lemma =>
                        go_wp2_with fail
                        refine (awake02 _).mono ?_
                        rintro e w15 ⟨rfl, b15⟩
                        go_wp2_with fail
                        refine (row_raw pa qa i N2 pc qc i zs ys _ (HP14.out.below b15) (HQ14.out.below b15) (by unfold maxLen; omega) (by unfold maxLen; omega) (Lib.hid fun j hj => HZ0.out j (by omega)) (Lib.hid fun j hj => HY0.out j (by omega)) (.inl ⟨hi2, rfl⟩) sv HR).mono ?_
                        rintro e w16 ⟨rfl, b16⟩
                        have b17 : Below w.heap.size w w16 := (b14.trans (b15.mono b14.size)).trans (b16.mono (b14.trans (b15.mono b14.size)).size)
                        clear b14 b15 b16 HP14 HQ14
                        go_wp2
                        go_ret
                        exact ⟨rfl, b17⟩
                      · as_aux_lemma =>
                        go_wp2_with fail
                        refine (awake02 _).mono ?_
                        rintro e w15 ⟨rfl, b15⟩
                        go_wp2_with fail
                        refine (row_raw pa qa N1 i pc qc i zs ys _ (HP14.out.below b15) (HQ14.out.below b15) (by unfold maxLen; omega) (by unfold maxLen; omega) (Lib.hid fun j hj => HZ0.out j (by omega)) (Lib.hid fun j hj => HY0.out j (by omega)) (.inr ⟨h1, rfl⟩) sv HR).mono ?_
                        rintro e w16 ⟨rfl, b16⟩
                        have b17 : Below w.heap.size w w16 := (b14.trans (b15.mono b14.size)).trans (b16.mono (b14.trans (b15.mono b14.size)).size)
                        clear b14 b15 b16 HP14 HQ14
                        go_wp2
                        go_ret
                        exact ⟨rfl, b17⟩
end Go.Proofs.Ytgojeonpnjjkeaa
