/- Sums of counts; what must come at any rate. -/
import Derived.Test.YtnbmpackjgffaaaTaI
import Derived.Test.YtnbmpackjgffaaaTaG
namespace Go.Proofs.Ytnbmpackjgffaaa
open Go.RowKit Go.Deep
set_option linter.unusedVariables false
attribute [local go_sem] unary_negf run_store_complex run_store_float
theorem sumA_bd (f : Nat → Int) (hf : ∀ j, 0 ≤ f j) : ∀ k m, k ≤ m → 0 ≤ sumA f k ∧ sumA f k ≤ sumA f m
  | 0, 0, _ => by simp [sumA]
  | 0, m + 1, _ => by
    have := sumA_bd f hf 0 m (by omega)
    have := hf m
    simp only [sumA] at *
    omega
  | k + 1, 0, h => by omega
  | k + 1, m + 1, h => by
    have h1 := sumA_bd f hf k m (by omega)
    have h2 := hf k
    have h3 := hf m
    by_cases e : k = m
    · subst e; simp only [sumA]; omega
    · have h4 := sumA_bd f hf (k + 1) m (by omega)
      simp only [sumA] at *
      omega
theorem sumA_add (f g : Nat → Int) : ∀ n, sumA (fun j => f j + g j) n = sumA f n + sumA g n
  | 0 => by simp [sumA]
  | n + 1 => by simp only [sumA]; rw [sumA_add f g n]; omega
theorem sumA_one (x : Int) : ∀ n : Nat, sumA (fun j => if decide (x = (j : Int)) = true then 1 else 0) n = if 0 ≤ x ∧ x < n then 1 else 0
  | 0 => by simp only [sumA]; rw [if_neg (by omega)]
  | n + 1 => by
    simp only [sumA]
    rw [sumA_one x n]
    by_cases h : x = (n : Int)
    · subst h
      rw [if_neg (by omega), if_pos (by simp), if_pos (by omega)]; rfl
    · rw [if_neg (show ¬ (decide (x = (n : Int)) = true) by simpa using h)]
      by_cases h2 : 0 ≤ x ∧ x < n
      · rw [if_pos h2, if_pos (by omega)]; rfl
      · rw [if_neg h2, if_neg (by omega)]; rfl
theorem sumA_zero : ∀ n : Nat, sumA (fun _ => 0) n = 0
  | 0 => rfl
  | n + 1 => by simp only [sumA]; rw [sumA_zero n]; rfl
theorem sumA_cnt (f : Nat → Int) (M : Nat) (hf : ∀ i, 0 ≤ f i ∧ f i < M) : ∀ n : Nat, sumA (fun j => cnt (fun i => decide (f i = (j : Int))) n) M = n
  | 0 => by simp only [cnt]; exact sumA_zero M
  | n + 1 => by
    have h := sumA_cnt f M hf n
    have h1 := sumA_add (fun j => cnt (fun i => decide (f i = (j : Int))) n) (fun j => if decide (f n = (j : Int)) = true then 1 else 0) M
    rw [h, sumA_one, if_pos (hf n)] at h1
    simp only [cnt]
    rw [h1]
    omega
theorem cnt_nonneg (p : Nat → Bool) (n : Nat) : 0 ≤ cnt p n := (cnt_bd p n).1
theorem sum_acts (K E : Nat → Int) (S : Nat → ByteArray) (n : Nat) : sumA (tl K E S n).a 24 = n := sumA_cnt (fun i => kindI (K i)) 24 (fun i => kindI_range _) n
theorem sum_errs (K E : Nat → Int) (S : Nat → ByteArray) (n : Nat) : sumA (tl K E S n).e 32 = n := sumA_cnt (fun i => errI (E i)) 32 (fun i => errI_range _) n
theorem acts_bd (K E : Nat → Int) (S : Nat → ByteArray) (n : Nat) (hn : n ≤ 4503599627370496) : ∀ k, k ≤ 24 → 0 ≤ sumA (tl K E S n).a k ∧ sumA (tl K E S n).a k ≤ 9007199254740992 := fun k hk => by
  have := sumA_bd (tl K E S n).a (fun j => cnt_nonneg _ _) k 24 hk
  rw [sum_acts] at this
  omega
theorem errs_bd (K E : Nat → Int) (S : Nat → ByteArray) (n : Nat) (hn : n ≤ 4503599627370496) : ∀ k, k ≤ 32 → 0 ≤ sumA (tl K E S n).e k ∧ sumA (tl K E S n).e k ≤ 9007199254740992 := fun k hk => by
  have := sumA_bd (tl K E S n).e (fun j => cnt_nonneg _ _) k 32 hk
  rw [sum_errs] at this
  omega
theorem tl_rate (K E : Nat → Int) (S : Nat → ByteArray) (n : Nat) (hn : n ≤ 4503599627370496) (w : World) :
    Calls Try.prog 16 #[.agg (tcells (tl K E S n))] w fun e w' => e = .returned (.int .i64 (rateV n ((tl K E S n).e 0))) ∧ Below w.heap.size w w' := by
  have h := cnt_bd (fun i => decide (errI (E i) = ((0 : Nat) : Int))) n
  have := rate_any (tl K E S n) w (errs_bd K E S n hn) ⟨h.1, by have := h.2; show cnt _ n ≤ _; omega⟩
  rwa [sum_errs] at this
theorem tl_many (K E : Nat → Int) (S : Nat → ByteArray) (n : Nat) (hn : n ≤ 4503599627370496) (w : World) :
    Calls Try.prog 12 #[.agg (tcells (tl K E S n))] w fun e w' => e = .returned (.int .i64 n) ∧ Below w.heap.size w w' := by
  have := many_any (tl K E S n) w (acts_bd K E S n hn)
  rwa [sum_acts] at this
/-- A tally stored into a variable that was just made. -/
theorem stored_tally (w : World) (T : Tl) : ∃ w2, Hid ((w.alloc (.cells #[.int .i64 0, .int .i64 0, .int .i64 0, .int .i64 0, .int .i64 0, .int .i64 0, .int .i64 0, .int .i64 0, .int .i64 0, .int .i64 0, .int .i64 0, .int .i64 0, .int .i64 0, .int .i64 0, .int .i64 0, .int .i64 0, .int .i64 0, .int .i64 0, .int .i64 0, .int .i64 0, .int .i64 0, .int .i64 0, .int .i64 0, .int .i64 0, .int .i64 0, .int .i64 0, .int .i64 0, .int .i64 0, .int .i64 0, .int .i64 0, .int .i64 0, .int .i64 0, .int .i64 0, .int .i64 0, .int .i64 0, .int .i64 0, .int .i64 0, .int .i64 0, .int .i64 0, .int .i64 0, .int .i64 0, .int .i64 0, .int .i64 0, .int .i64 0, .int .i64 0, .int .i64 0, .int .i64 0, .int .i64 0, .int .i64 0, .int .i64 0, .int .i64 0, .int .i64 0, .int .i64 0, .int .i64 0, .int .i64 0, .int .i64 0, .int .i64 0, .complex .f64 0 0] 28)).setRow w.heap.size (tcells T) = w2) ∧ TallyAt w2 w.heap.size T ∧ Below w.heap.size w w2 :=
  ⟨_, Lib.hid rfl, setRow_heap _ _ _ (tcells T) 28 (0, 0) (heap_alloc_new w _), below_setRow ((Below.refl _ _).alloc (Nat.le_refl _) _) (Nat.le_refl _) _⟩
/-- A load of a whole row by a guarded operation that is wanted. -/
theorem wpList_load_row_g {P : Program} {ops : Array Oper} {rest : List Oper} {o : Oper} {a : Act} {w : World} {Q : Exit → Act → World → Prop} (hw : Region.wanted o (yielded ops a.tmps) = true) (ty : TypeId) (x : Operand) (ho : o.op = .load ty x)
    (g : Nat) (hx : a.eval x = .pointer (some ⟨g, 0, none⟩)) (t : TypeId) (cs : Array Value) (fr : Nat × Nat) (d : TypeDesc) (hg : w.heap[g]? = some (.cells cs t fr))
    (hu : P.underlying ty = some d) (hd : (match d with | .struct _ | .array _ _ => true | _ => false) = true) (hi : (P.info? ty).map (·.size) = some cs.size)
    (h : wpList P ops Q rest (a.put o.dst (.agg cs)) w) : wpList P ops Q (o :: rest) a w := by
  unfold wpList
  rw [if_pos hw]
  exact .inl (wp_load_row ty x ho g hx t cs fr d hg hu hd hi h)
def awK : Nat → Int := fun _ => 1
def awE : Nat → Int := fun _ => 0
def awS : Nat → ByteArray := fun i => if i = 0 then ⟨#[97, 98]⟩ else ⟨#[99]⟩
theorem aw_a : (tl awK awE awS 2).a 1 = 2 := by decide +kernel
theorem aw_e : (tl awK awE awS 2).e 0 = 2 := by decide +kernel
theorem aw_b : (tl awK awE awS 2).b = 3 := by decide +kernel
theorem aw_x : (tl awK awE awS 2).x = 4607182418800017408 := by decide +kernel
theorem aw_y : (tl awK awE awS 2).y = 4607182418800017408 := by decide +kernel
set_option maxRecDepth 100000 in
set_option maxHeartbeats 4000000 in
theorem awake35 (w : World) : Calls Try.prog 11 #[] w fun e w' => e = .returned (.bool true) ∧ Below w.heap.size w w' := by
  have HR := Lib.hid (fun w => tl_rate awK awE awS 2 (by omega) w)
  rw [aw_e] at HR
  rw [show rateV ((2 : Nat) : Int) 2 = 100 from by decide +kernel] at HR
  have HO := Lib.hid (fun ao bo c d w h1 h2 => of_any ao bo 2 c 2 d awK awE awS w (by omega) (by omega) h1 h2)
  go_enter Try.func11, Try.ntmps11
  go_wp2_with fail
  refine (HO.out _ _ _ _ _ (fun _ => ⟨w.heap.size, 0, rfl, by simp; omega, fun i hi => ?_⟩) (fun _ => ⟨w.heap.size + 1, 0, rfl, by simp, fun i hi => ?_⟩)).mono ?_
  · have : i = 0 ∨ i = 1 := by omega
    rcases this with rfl | rfl
    all_goals exact ⟨_, _, _, _, _, _, _, _, _, _, by simp [go_sem, awK], by first | (simp [go_sem]; rfl) | simp [go_sem], by first | (simp [go_sem]; rfl) | simp [go_sem], by first | (simp [go_sem]; rfl) | simp [go_sem], by first | (simp [go_sem]; rfl) | simp [go_sem], by first | (simp [go_sem]; rfl) | simp [go_sem], by first | (simp [go_sem]; rfl) | simp [go_sem], by first | (simp [go_sem]; rfl) | simp [go_sem], by first | (simp [go_sem]; rfl) | simp [go_sem], by first | (simp [go_sem]; rfl) | simp [go_sem], by first | (simp [go_sem]; rfl) | simp [go_sem]⟩
  · have : i = 0 ∨ i = 1 := by omega
    rcases this with rfl | rfl
    all_goals exact ⟨_, by simp [go_sem, awE], by simp [go_sem, awS], by first | (simp [go_sem]; rfl) | simp [go_sem]⟩
  rintro e w1 ⟨rfl, b1⟩
  have B1 : Below w.heap.size w w1 := (((Below.refl _ _).alloc (Nat.le_refl _) _).alloc (by simp) _).trans (b1.mono (by simp; omega))
  clear b1
  obtain ⟨w2, HW2, HT2, b2⟩ := stored_tally w1 (tl awK awE awS 2)
  rw [show min 2 2 = 2 from rfl]
  have B2 := B1.trans (b2.mono B1.size)
  have c0 := HT2.ca 1 (by omega)
  have c1 := HT2.ce 0 (by omega)
  rw [Nat.add_zero] at c1
  have c2 := HT2.cb
  have c3 := HT2.cz
  rw [aw_a] at c0
  rw [aw_e] at c1
  rw [aw_b] at c2
  rw [aw_x, aw_y] at c3
  have o1 : (FloatKind.f64.format.order 4607182418800017408 4607182418800017408 == some Ordering.eq) = true := by decide +kernel
  have ht : w2.heap[w1.heap.size]? = some (.cells (tcells (tl awK awE awS 2)) 28 (0, 0)) := HT2
  go_wp2_with (first
    | (refine wpList_store_row rfl _ _ _ rfl w1.heap.size (tcells (tl awK awE awS 2)) rfl rfl 28 _ (heap_alloc_new _ _) (by rw [tcells_size]; kernel_rfl) (by rw [tcells_size]; rfl) (tcells_one _) ?_; rw [HW2.out])
    | (refine wpList_load_row_g rfl _ _ rfl w1.heap.size rfl 28 (tcells (tl awK awE awS 2)) (0, 0) _ ht Try.underlying28 rfl (by rw [tcells_size]; kernel_rfl) ?_)
    | (go_at_call 16; refine (HR.out _).mono ?_; rintro e w3 ⟨rfl, b3⟩))
  go_goals
  go_ret
  exact ⟨rfl, B2.trans (b3.mono B2.size)⟩
end Go.Proofs.Ytnbmpackjgffaaa
