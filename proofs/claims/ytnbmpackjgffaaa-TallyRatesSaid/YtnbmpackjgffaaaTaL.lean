/- The law TallyRates. -/
import Derived.Test.YtnbmpackjgffaaaTaK
namespace Go.Proofs.Ytnbmpackjgffaaa
open Go.RowKit Go.Deep Go.ChangeShapes Go.WideShapes
set_option linter.unusedVariables false
attribute [local go_sem] unary_negf run_store_complex run_store_float
theorem wor_bd (f : Nat → Int) : ∀ k, 0 ≤ (wor f k).1 ∧ (wor f k).1 ≤ k
  | 0 => by simp [wor]
  | k + 1 => by
    have := wor_bd f k
    unfold wor
    split
    · simp; omega
    · split
      · simp; omega
      · omega
set_option maxRecDepth 100000 in
set_option maxHeartbeats 8000000 in
theorem tallyRates_body (ao bo : Option Addr) (n c m d : Nat) (K E : Nat → Int) (S : Nat → ByteArray) (w : World) (hn : n ≤ 4503599627370496) (hm : m ≤ 4503599627370496) (hA : ActsAt w ao n K) (hT : ToldAt w bo m E S) :
    Calls Try.prog 5 #[.slice ao n c, .slice bo m d] w fun r w' => r = .returned (.bool true) ∧ Below w.heap.size w w' := by
  have HO := Lib.hid (of_any ao bo n c m d K E S w hn (by omega) hA hT)
  have HT := Lib.hid hT
  clear hA hT
  go_enter Try.func5, Try.ntmps5
  go_upto_region 1 with fail
  go_cut [5] from 14 (fun s5 wx => s5 = .int .i64 ((min n m : Nat) : Int) ∧ w = wx)
  case first =>
    go_wp2
    all_goals
      go_meet
      refine ⟨?_, rfl⟩
      congr 1
      omega
  case rest =>
  obtain ⟨rfl, rfl⟩ := hcut
  obtain ⟨N, hN⟩ : ∃ N, min n m = N := ⟨_, rfl⟩
  rw [hN] at HO ⊢
  have hNn : N ≤ n := by omega
  have hNm : N ≤ m := by omega
  clear hN
  go_wp2_with fail
  refine HO.out.mono ?_
  rintro e w1 ⟨rfl, b1⟩
  obtain ⟨w2, HW2, HT2, b2⟩ := stored_tally w1 (tl K E S N)
  have B2 := b1.trans (b2.mono b1.size)
  go_upto_region 3 with (refine wpList_store_row rfl _ _ _ rfl w1.heap.size (tcells (tl K E S N)) rfl rfl 28 _ (heap_alloc_new _ _) (by rw [tcells_size]; kernel_rfl) (by rw [tcells_size]; rfl) (tcells_one _) ?_)
  rw [HW2.out]
  clear HW2 b2
  have hg1 := b1.size
  generalize w1.heap.size = g at HT2 hg1 ⊢
  have HTT := Lib.hid HT2
  clear HT2
  have HE0 := Lib.hid (fun w3 (h : Below w.heap.size w w3) => errors_any bo m d N 0 E S w3 hm hNm (by omega) (HT.out.below h))
  have hc0 := cnt_bd (fun j => decide (errI (E j) = ((0 : Nat) : Int))) N
  have e0 : (tl K E S N).e 0 = cnt (fun j => decide (errI (E j) = ((0 : Nat) : Int))) N := rfl
  have HRt := Lib.hid (fun w => tl_rate K E S N (by omega) w)
  rw [e0] at HRt
  clear e0
  generalize cnt (fun j => decide (errI (E j) = ((0 : Nat) : Int))) N = v0 at hc0 HE0 HRt
  obtain ⟨v1, v2⟩ := hc0
  rw [show ((0 : Nat) : Int) = 0 from rfl] at HE0
  have hrv : ∃ rt, rateV N v0 = rt := ⟨_, rfl⟩
  obtain ⟨rt, hrt⟩ := hrv
  rw [hrt] at HRt
  go_upto_if 23 with fail
  go_cut [7] from 23 (fun s7 wx => s7 = .int .i64 rt ∧ w2 = wx)
  case first =>
    by_cases hz : N = 0
    · subst hz
      have : rt = 0 := by rw [← hrt]; rfl
      subst this
      have ht := HTT.out.lt
      clear hrt
      go_wp2
      go_meet
      exact ⟨rfl, rfl⟩
    · have h0 : (0 : Int) < N := by omega
      have hq : (100 * v0).tdiv N = 100 * v0 / N := Int.tdiv_eq_ediv_of_nonneg (by omega)
      have q1 : 0 ≤ 100 * v0 / (N : Int) := Int.ediv_nonneg (by omega) (by omega)
      have q2 : 100 * v0 / (N : Int) ≤ 100 * v0 := Int.ediv_le_self _ (by omega)
      have hz' : ((N : Int) == 0) = false := by simpa using hz
      have HQ : Hid (100 * v0 / (N : Int) = rt) := Lib.hid (by rw [← hrt]; unfold rateV; rw [if_neg (by omega)])
      clear hrt
      go_wp2_with (go_at_call 9; ((with_reducible refine (HE0.out _ B2).mono ?_); rintro e w' ⟨rfl, rfl⟩))
      go_meet
      exact ⟨by first | rw [HQ.out] | (rw [← HQ.out]; rfl), rfl⟩
  case rest =>
  obtain ⟨rfl, rfl⟩ := hcut
  clear hrt HE0
  have ht : w2.heap[g]? = some (.cells (tcells (tl K E S N)) 28 (0, 0)) := HTT.out
  go_wp2_with (first
    | (refine wpList_load_row rfl _ _ rfl g rfl 28 (tcells (tl K E S N)) (0, 0) _ ht Try.underlying28 rfl (by rw [tcells_size]; kernel_rfl) ?_))
  refine (worst_any _ _).mono ?_
  rintro e w3 ⟨rfl, b3⟩
  have HT3 := Lib.hid (HTT.out.below b3 HTT.out.lt)
  have B3 := B2.trans (b3.mono B2.size)
  clear b3 HTT ht B2
  obtain ⟨f, hf⟩ : ∃ f, (tl K E S N).e = f := ⟨_, rfl⟩
  rw [hf]
  have hfv : ∀ i : Nat, cnt (fun j => decide (errI (E j) = (i : Int))) N = f i := fun i => by rw [← hf]; rfl
  have HF := Lib.hid hfv
  clear hfv hf
  go_wp2
  go_loopw [10, 11, 12] (fun a b x wi => ∃ i : Nat, x = .int .i64 i ∧ 1 ≤ i ∧ i ≤ 32 ∧ a = .int .i64 (wor f i).2 ∧ b = .int .i64 (wor f i).1 ∧ w3 = wi) (fun _ _ x _ => 32 - (intOf x).toNat)
  case atStart => exact ⟨1, rfl, by omega, by omega, rfl, rfl, rfl⟩
  case round =>
    obtain ⟨i, rfl, h1, hi, rfl, rfl, rfl⟩ := hrel
    by_cases hlt : i < 32
    · have hli : (i : Int) < 32 := by omega
      have HK := Lib.hid (fun w3 (h : Below w.heap.size w w3) => errors_any bo m d N i E S w3 hm hNm hlt (HT.out.below h))
      rw [HF.out i] at HK
      have e3 : wor f (i + 1) = if (wor f i).2 < f i then ((i : Int), f i) else wor f i := if_neg (by omega)
      by_cases hg : (wor f i).2 < f i
      · rw [if_pos hg] at e3
        have E3 := Lib.hid e3
        clear e3
        go_wp2_with (go_at_call 9; ((with_reducible refine (HK.out _ B3).mono ?_); rintro e w' ⟨rfl, rfl⟩))
        go_roundw
        case rel => exact ⟨i + 1, by go_num, by omega, by omega, by rw [E3.out], by rw [E3.out], by first | rfl | trivial⟩
        case measure => simp [intOf]; omega
      · rw [if_neg hg] at e3
        have E3 := Lib.hid e3
        clear e3
        have hg' : f i ≤ (wor f i).2 := by omega
        go_wp2_with (go_at_call 9; ((with_reducible refine (HK.out _ B3).mono ?_); rintro e w' ⟨rfl, rfl⟩))
        go_roundw
        case rel => exact ⟨i + 1, by go_num, by omega, by omega, by rw [E3.out], by rw [E3.out], by first | rfl | trivial⟩
        case measure => simp [intOf]; omega
    · obtain rfl : i = 32 := by omega
      have hsz3 := HT3.out.lt
      go_wp2_with fail
      refine (awake35 _).mono ?_
      rintro e w5 ⟨rfl, b5⟩
      have T5 := HT3.out.below b5 hsz3
      have B5 := B3.trans (b5.mono B3.size)
      have ht5 : w5.heap[g]? = some (.cells (tcells (tl K E S N)) 28 (0, 0)) := T5
      clear b5 T5 HT3 B3
      go_wp2_with (first
        | (refine wpList_load_row_g rfl _ _ rfl g rfl 28 (tcells (tl K E S N)) (0, 0) _ ht5 Try.underlying28 rfl (by rw [tcells_size]; kernel_rfl) ?_)
        | (go_at_call 16; refine (HRt.out _).mono ?_; rintro e w6 ⟨rfl, b6⟩))
      go_ret
      exact ⟨rfl, B5.trans (b6.mono B5.size)⟩
theorem tallyRates_walk {H : Type} {enc : TypeId × Value → H} (v : Value) (d : DataW H) (p : List MemPlace) (u : Value) (e : DataW H) (q : List MemPlace) (w : World)
    (hok : ∃ a len cap, v = .slice a len cap) (h : DataW.Trod enc Try.prog w 0 (fun _ => true) true 22 v d p) (hok2 : ∃ a len cap, u = .slice a len cap) (h2 : DataW.Trod enc Try.prog w 0 (fun _ => true) true 23 u e q)
    (z : ∀ es sp, d = .slice es sp → (es.length + sp.length) * Try.prog.bytesOf 57 ≤ reachBytes) (z2 : ∀ es sp, e = .slice es sp → (es.length + sp.length) * Try.prog.bytesOf 60 ≤ reachBytes) :
    Calls Try.prog 5 #[v, u] w fun e w' => e = .returned (.bool true) ∧ Below w.heap.size w w' := by
  obtain ⟨ao, n, c, K, rfl, hn, _, hA⟩ := open_acts hok h z
  obtain ⟨bo, m, d', E, S, rfl, hm, _, hT⟩ := open_told hok2 h2 z2
  exact tallyRates_body ao bo n c m d' K E S w hn hm hA hT
end Go.Proofs.Ytnbmpackjgffaaa
