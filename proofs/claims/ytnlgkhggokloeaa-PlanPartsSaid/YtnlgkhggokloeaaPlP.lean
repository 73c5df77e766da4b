/- Laws of package plan: what must come at any rate. -/
import Derived.Test.YtnlgkhggokloeaaPlO
namespace Go.Proofs.Ytnlgkhggokloeaa
open Go.RowKit Go.Deep
set_option linter.unusedVariables false
set_option linter.unusedSimpArgs false
theorem full_one (c : UInt8) (w : World) : Calls Try.prog 23 #[.string ⟨#[c]⟩, .int .i64 64] w fun e w' => e = .returned (.string ⟨(fullL [c] 64).toArray⟩) ∧ Below w.heap.size w w' := full_anyz ⟨#[c]⟩ 64 w (by omega) (by show (1 : Nat) ≤ _; omega)
theorem full_one_size (c : UInt8) : (⟨(fullL [c] 64).toArray⟩ : ByteArray).size = 64 := by rw [bytes_size]; exact fullL_len _ _ (by simp)
def awX0 (A : ByteArray) (g : Nat) : Rv := ⟨⟨0, List.replicate 32 0, [(161, A)]⟩, some ⟨g, 0, none⟩, 1⟩
def awX1 (A B : ByteArray) (g : Nat) : Rv := ⟨⟨0, List.replicate 32 0, [(161, B), (170, A)]⟩, some ⟨g, 0, none⟩, 2⟩
def awRs (A B : ByteArray) (g h : Nat) : List Rv := [awX0 A g, awX1 A B h]
theorem aw_chk0 (A : ByteArray) (g : Nat) (h : A.size = 64) : chkE (awX0 A g).r = 0 := by
  refine chkE_ok ?_ ?_ ?_
  · show ¬ 64 < 1; omega
  · show ¬ ((0 : Int) < 0 ∨ (4294967295 : Int) < 0); omega
  · intro j hj
    have hj : j < 1 := hj
    obtain rfl : j = 0 := by omega
    exact ⟨by show (160 : Int) < 161; omega, by show (161 : Int) ≤ 287; omega, h⟩
theorem aw_chk1 (A B : ByteArray) (g : Nat) (h : A.size = 64) (h2 : B.size = 64) : chkE (awX1 A B g).r = 0 := by
  refine chkE_ok ?_ ?_ ?_
  · show ¬ 64 < 2; omega
  · show ¬ ((0 : Int) < 0 ∨ (4294967295 : Int) < 0); omega
  · intro j hj
    have hj : j < 2 := hj
    have : j = 0 ∨ j = 1 := by omega
    rcases this with rfl | rfl
    · exact ⟨by show (160 : Int) < 161; omega, by show (161 : Int) ≤ 287; omega, h2⟩
    · exact ⟨by show (161 : Int) < 170; omega, by show (170 : Int) ≤ 287; omega, h⟩
theorem aw_ofE (A B : ByteArray) (g k : Nat) (h : A.size = 64) (h2 : B.size = 64) : ofE (awRs A B g k) = 0 := by
  unfold awRs ofE
  rw [if_neg (by rw [aw_chk0 A g h]; decide)]
  unfold ofE
  rw [if_neg (by rw [aw_chk1 A B k h h2]; decide)]
  rfl
def awP (A B : ByteArray) : List Pu := [(161, B), (170, A)]
theorem aw_ofL (A B : ByteArray) (g k : Nat) (h : A.size = 64) (h2 : B.size = 64) : ofL (awRs A B g k) = awP A B := by
  unfold ofL
  rw [if_pos (aw_ofE A B g k h h2)]
  rfl
theorem aw_ok (A B : ByteArray) (h : A.size = 64) (h2 : B.size = 64) : ∀ p ∈ awP A B, okP p = 0 := by
  intro p hp
  unfold awP at hp
  simp at hp
  rcases hp with rfl | rfl
  · unfold okP; rw [if_neg (by show ¬ ((161 : Int) < 0 ∨ (287 : Int) < 161); omega), if_neg (by simpa using h2)]
  · unfold okP; rw [if_neg (by show ¬ ((170 : Int) < 0 ∨ (287 : Int) < 170); omega), if_neg (by simpa using h)]
theorem errP_ok : ∀ {L : List Pu}, (∀ p ∈ L, okP p = 0) → errP L = 0
  | [], _ => rfl
  | p :: r, h => by
    unfold errP
    rw [if_neg (by rw [h p (by simp)]; decide)]
    exact errP_ok (fun q hq => h q (by simp [hq]))
theorem errA_ok0 {s : ByteArray} {L : List Pu} (hs : s.size = 18432) (h : ∀ p ∈ L, okP p = 0) : errA s L = 0 := by rw [errA_ok hs]; exact errP_ok h
theorem aw_161 (x A B : ByteArray) (hx : x.size = 18432) (h : A.size = 64) (h2 : B.size = 64) : (appA x (awP A B)).extract 10304 10368 = B := by
  unfold appA
  rw [if_pos (errA_ok0 hx (aw_ok A B h h2))]
  exact (cat_blk (layF_img (blk_img hx) (aw_ok A B h h2)) (k := 161) (by omega)).trans rfl
theorem app_size {s : ByteArray} {L : List Pu} (h : errA s L = 0) : (appA s L).size = 18432 := by
  unfold appA
  rw [if_pos h]
  obtain ⟨h1, h2⟩ := errA_zero h
  exact cat_size (layF_img (blk_img h1) h2)
theorem rs_two {w : World} {g : Nat} {x y : Rv} (h : w.heap[g]? = some (.cells (rvL x ++ rvL y).toArray 34 (0, 0))) (hx : RvOk w x) (hy : RvOk w y) : RsAt w (some ⟨g, 0, none⟩) [x, y] := by
  refine ⟨fun z hz => ?_, fun _ => ⟨g, 0, rfl, (Array.getElem?_eq_some_iff.1 h).1, fun i hi => ?_⟩⟩
  · simp at hz
    rcases hz with rfl | rfl
    · exact hx
    · exact hy
  · have hi : i < 2 := hi
    have h1 := rvL_len hx
    have : i = 0 ∨ i = 1 := by omega
    rcases this with rfl | rfl
    · intro j u hu
      have hj := (List.getElem?_eq_some_iff.1 hu).1
      have hu : (rvL x)[j]? = some u := hu
      have hj : j < (rvL x).length := hj
      rw [cell_of_row w g _ _ _ _ h, List.getElem?_toArray, show 0 + 0 * 34 + j = j by omega, List.getElem?_append_left (by omega)]
      exact hu
    · intro j u hu
      have hu : (rvL y)[j]? = some u := hu
      rw [cell_of_row w g _ _ _ _ h, List.getElem?_toArray, List.getElem?_append_right (by omega), show 0 + 1 * 34 + j - (rvL x).length = j by omega]
      exact hu
set_option maxRecDepth 100000 in
set_option maxHeartbeats 8000000 in
theorem aw_world (A B : ByteArray) (w : World) : ∃ w3, Hid (((w.alloc (.cells #[.int .i64 161, .string A] 48)).alloc (.cells #[.int .i64 161, .string B, .int .i64 170, .string A] 48)).alloc (.cells (rvL (awX0 A w.heap.size) ++ rvL (awX1 A B (w.heap.size + 1))).toArray 34) = w3) ∧ Hid (RsAt w3 (some ⟨w.heap.size + 1 + 1, 0, none⟩) (awRs A B w.heap.size (w.heap.size + 1))) ∧ Hid (Below w.heap.size w w3) := by
  refine ⟨_, Lib.hid rfl, Lib.hid ?_, Lib.hid ((((Below.refl _ _).alloc (Nat.le_refl _) _).alloc (by simp) _).alloc (by simp; omega) _)⟩
  generalize hw1 : w.alloc (.cells #[.int .i64 161, .string A] 48) = w1
  have s1 : w1.heap.size = w.heap.size + 1 := by rw [← hw1]; simp
  have a0 : w1.cell? ⟨w.heap.size, 0, none⟩ = some (.int .i64 161) := by rw [← hw1]; exact World.cell?_alloc_at _ _ _ _ rfl
  have a1 : w1.cell? ⟨w.heap.size, 1, none⟩ = some (.string A) := by rw [← hw1]; exact World.cell?_alloc_at _ _ _ _ rfl
  generalize hw2 : w1.alloc (.cells #[.int .i64 161, .string B, .int .i64 170, .string A] 48) = w2
  have b12 : Below w1.heap.size w1 w2 := by rw [← hw2]; exact (Below.refl _ _).alloc (Nat.le_refl _) _
  have s2 : w2.heap.size = w.heap.size + 1 + 1 := by rw [← hw2]; simp [s1]
  have c0 : w2.cell? ⟨w.heap.size + 1, 0, none⟩ = some (.int .i64 161) := by rw [← hw2, ← s1]; exact World.cell?_alloc_at _ _ _ _ rfl
  have c1 : w2.cell? ⟨w.heap.size + 1, 1, none⟩ = some (.string B) := by rw [← hw2, ← s1]; exact World.cell?_alloc_at _ _ _ _ rfl
  have c2 : w2.cell? ⟨w.heap.size + 1, 2, none⟩ = some (.int .i64 170) := by rw [← hw2, ← s1]; exact World.cell?_alloc_at _ _ _ _ rfl
  have c3 : w2.cell? ⟨w.heap.size + 1, 3, none⟩ = some (.string A) := by rw [← hw2, ← s1]; exact World.cell?_alloc_at _ _ _ _ rfl
  have a0 := (b12.cell (p := ⟨w.heap.size, 0, none⟩) (by simp; omega)).trans a0
  have a1 := (b12.cell (p := ⟨w.heap.size, 1, none⟩) (by simp; omega)).trans a1
  have P0 : PuAt w2 (some ⟨w.heap.size, 0, none⟩) [(161, A)] := fun _ => ⟨_, 0, rfl, by omega, fun i hi => by
    have hi : i < 1 := hi
    obtain rfl : i = 0 := by omega
    exact ⟨a0, a1⟩⟩
  have P1 : PuAt w2 (some ⟨w.heap.size + 1, 0, none⟩) [(161, B), (170, A)] := fun _ => ⟨_, 0, rfl, by omega, fun i hi => by
    have hi : i < 2 := hi
    have : i = 0 ∨ i = 1 := by omega
    rcases this with rfl | rfl
    · exact ⟨c0, c1⟩
    · exact ⟨c2, c3⟩⟩
  have b23 : Below w2.heap.size w2 (w2.alloc (.cells (rvL (awX0 A w.heap.size) ++ rvL (awX1 A B (w.heap.size + 1))).toArray 34)) := (Below.refl _ _).alloc (Nat.le_refl _) _
  have hwf : ∀ a : Int, 0 ≤ a → a ≤ 287 → InI a := fun a h1 h2 => by unfold InI; omega
  refine rs_two ?_ ⟨rfl, by show (1 : Nat) ≤ 1; omega, by show (1 : Nat) ≤ maxLen; unfold maxLen; omega, P0.below b23, ?_⟩ ⟨rfl, by show (2 : Nat) ≤ 2; omega, by show (2 : Nat) ≤ maxLen; unfold maxLen; omega, P1.below b23, ?_⟩
  · rw [← s2]; exact heap_alloc_new _ _
  · intro p hp
    have hp : p ∈ [((161 : Int), A)] := hp
    simp at hp
    subst hp
    exact hwf 161 (by omega) (by omega)
  · intro p hp
    have hp : p ∈ [((161 : Int), B), (170, A)] := hp
    simp at hp
    rcases hp with rfl | rfl
    · exact hwf 161 (by omega) (by omega)
    · exact hwf 170 (by omega) (by omega)
set_option maxRecDepth 100000 in
set_option maxHeartbeats 8000000 in
theorem awake32 (w : World) : Calls Try.prog 8 #[] w fun e w' => e = .returned (.bool true) ∧ Below w.heap.size w w' := by
  have CA := Lib.hid (full_one 97)
  have CB := Lib.hid (full_one 98)
  have ha := full_one_size 97
  have hb := full_one_size 98
  generalize (⟨(fullL [97] 64).toArray⟩ : ByteArray) = A at *
  generalize (⟨(fullL [98] 64).toArray⟩ : ByteArray) = B at *
  go_enter Try.func8, Try.ntmps8
  go_wp2_with fail
  refine (CA.out w).mono ?_
  rintro e w1 ⟨rfl, hb1⟩
  go_wp2_with fail
  refine (CB.out w1).mono ?_
  rintro e w2 ⟨rfl, hb2⟩
  have HB2 := Lib.hid (hb1.trans (hb2.mono hb1.size))
  clear CA CB hb1 hb2
  obtain ⟨w3, HW3, HR3, HB3⟩ := aw_world A B w2
  have CO := Lib.hid (of_any (some ⟨w2.heap.size + 1 + 1, 0, none⟩) 2 (awRs A B w2.heap.size (w2.heap.size + 1)) w3 HR3.out (by show (2 : Nat) ≤ _; omega) (by show (3 : Nat) ≤ _; omega))
  unfold OfR at CO
  rw [aw_ofL A B _ _ ha hb, aw_ofE A B _ _ ha hb] at CO
  go_wp2_with fail
  change Calls Try.prog 9 #[.slice (some ⟨w2.heap.size + 1 + 1, 0, none⟩) (awRs A B w2.heap.size (w2.heap.size + 1)).length 2] (((w2.alloc (.cells #[.int .i64 161, .string A] 48)).alloc (.cells #[.int .i64 161, .string B, .int .i64 170, .string A] 48)).alloc (.cells (rvL (awX0 A w2.heap.size) ++ rvL (awX1 A B (w2.heap.size + 1))).toArray 34)) _
  rw [HW3.out]
  refine CO.out.mono ?_
  rintro e w4 ⟨a4, c4, rfl, hpu4, hb4⟩
  have HB4 := Lib.hid (HB2.out.trans ((HB3.out.trans (hb4.mono HB3.out.size)).mono HB2.out.size))
  have HP4 := Lib.hid hpu4
  clear CO HW3 HR3 HB3 HB2 hb4 hpu4
  have CI := Lib.hid (image_any ⟨#[]⟩ false w4 (by show (0 : Nat) ≤ _; omega))
  have hx : (imgO ⟨#[]⟩ false).size = 18432 := imgA_size _
  generalize imgO ⟨#[]⟩ false = x at *
  have hl4 : (awP A B).length = 2 := rfl
  rw [hl4]
  go_wp2_with fail
  refine CI.out.mono ?_
  rintro e w5 ⟨rfl, hb5⟩
  have HP5 := Lib.hid (HP4.out.below hb5)
  have HB5 := Lib.hid (HB4.out.trans (hb5.mono HB4.out.size))
  have CP := Lib.hid (apply_any x a4 c4 (awP A B) w5 (by omega) HP5.out (by show (2 : Nat) ≤ _; omega))
  have he := errA_ok0 hx (aw_ok A B ha hb)
  have HTB := aw_161 x A B hx ha hb
  have hts := app_size he
  rw [he, hl4] at CP
  generalize appA x (awP A B) = T at *
  clear CI HP4 HB4 hb5
  go_wp2_with fail
  refine CP.out.mono ?_
  rintro e w6 ⟨rfl, hb6⟩
  have HP6 := Lib.hid (HP5.out.below hb6)
  have HB6 := Lib.hid (HB5.out.trans (hb6.mono HB5.out.size))
  clear CP HP5 HB5 hb6
  obtain ⟨w7, hw7⟩ : ∃ w7, w6.alloc (.cells #[.int .i64 161, .string B, .int .i64 170, .string A] 48) = w7 := ⟨_, rfl⟩
  have b7 : Below w6.heap.size w6 w7 := by rw [← hw7]; exact (Below.refl _ _).alloc (Nat.le_refl _) _
  have hs7 : w6.heap.size < w7.heap.size := by rw [← hw7]; simp
  have d0 : w7.cell? ⟨w6.heap.size, 0, none⟩ = some (.int .i64 161) := by rw [← hw7]; exact World.cell?_alloc_at _ _ _ _ rfl
  have d1 : w7.cell? ⟨w6.heap.size, 1, none⟩ = some (.string B) := by rw [← hw7]; exact World.cell?_alloc_at _ _ _ _ rfl
  have d2 : w7.cell? ⟨w6.heap.size, 2, none⟩ = some (.int .i64 170) := by rw [← hw7]; exact World.cell?_alloc_at _ _ _ _ rfl
  have d3 : w7.cell? ⟨w6.heap.size, 3, none⟩ = some (.string A) := by rw [← hw7]; exact World.cell?_alloc_at _ _ _ _ rfl
  have P7 : PuAt w7 (some ⟨w6.heap.size, 0, none⟩) (awP A B) := fun _ => ⟨_, 0, rfl, hs7, fun i hi => by
    have hi : i < 2 := hi
    have : i = 0 ∨ i = 1 := by omega
    rcases this with rfl | rfl
    · exact ⟨d0, d1⟩
    · exact ⟨d2, d3⟩⟩
  have CS := Lib.hid (osame_any (awP A B) (awP A B) a4 (some ⟨w6.heap.size, 0, none⟩) 2 c4 2 2 w7 rfl rfl (by omega) (by omega) (HP6.out.below b7) P7)
  rw [decide_eq_true rfl] at CS
  have HB7 := Lib.hid (HB6.out.trans (b7.mono HB6.out.size))
  have HW7 := Lib.hid hw7
  clear hw7 b7 d0 d1 d2 d3 P7 HP6 HB6
  go_wp2_with fail
  rw [HW7.out]
  refine CS.out.mono ?_
  rintro e w8 ⟨rfl, hb8⟩
  have HB8 := Lib.hid (HB7.out.trans (hb8.mono HB7.out.size))
  clear CS hb8 HB7 HW7
  go_wp2_with fail
  go_ret
  exact ⟨by first | rfl | simp [HTB], HB8.out⟩
end Go.Proofs.Ytnlgkhggokloeaa
