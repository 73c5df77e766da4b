/- Level: LevelApart. -/
import Derived.Test.YtdoeaepfjdjmmaaLwM
namespace Go.Proofs.Ytdoeaepfjdjmmaa
open Go.RowKit Go.Deep Go.ChangeShapes Go.WideShapes
set_option linter.unusedVariables false
set_option linter.unusedSimpArgs false
theorem XqAt.kq2 {B h g2 h2 : Nat} {w w' : World} {X : Nat → List Nat} {F : Nat → Int} {s2 : Nat → Value} (hX : XqAt w B h X) (k : Kq B [g2, h2] w w') (h1 : h ≠ g2) (h2' : h ≠ h2) (hg : QAt w g2 F) (hh : w.rowIs h2 32 4 s2) : XqAt w' B h X := by
  obtain ⟨hB, s, hs, ho⟩ := hX
  refine ⟨hB, s, World.rowIs.of_block hs (k.other h (World.rowIs.lt hs) (by simp; exact ⟨h1, h2'⟩)), fun l hl => ?_⟩
  have hu := ho l hl
  refine ⟨hu.1, ?_⟩
  rcases hu.2 with hh' | ⟨b, cap, cur, e, q1, q2, q3⟩
  · exact Or.inl hh'
  · refine Or.inr ⟨b, cap, cur, e, q1, ?_, q3⟩
    refine k.row (by
      intro hm
      simp at hm
      rcases hm with rfl | rfl
      · obtain ⟨c, hb, _, _⟩ := hg
        rw [hb] at q2
        injection q2 with q2
        injection q2 with _ t
        exact absurd t (by decide)
      · obtain ⟨c, hb, _, _⟩ := hh
        rw [hb] at q2
        injection q2 with q2
        injection q2 with _ t
        exact absurd t (by decide)) q2
theorem Bq.other {B g h n g2 h2 : Nat} {w w' : World} {R X : Nat → List Nat} {F : Nat → Int} {s2 : Nat → Value} (b : Bq B w g h n R X) (k : Kq B [g2, h2] w w') (a1 : g ≠ g2) (a2 : g ≠ h2) (a3 : h ≠ g2) (a4 : h ≠ h2) (hg : QAt w g2 F) (hh : w.rowIs h2 32 4 s2) : Bq B w' g h n R X := by
  obtain ⟨F', hQ, hO⟩ := b.q
  exact ⟨⟨F', hQ.block (k.other g hQ.lt (by simp; exact ⟨a1, a2⟩)), hO⟩, b.x.kq2 k a3 a4 hg hh, b.ne, b.bg, b.ok⟩
set_option maxRecDepth 100000 in
set_option maxHeartbeats 8000000 in
theorem apart_law (z : Nat) (a1 : Option Addr) (l1 c1 : Nat) (a2 : Option Addr) (l2 c2 : Nat) (ak ai am : Int) (w : World) (hz : z < 256) (hl1 : l1 ≤ 9223372036854775807) (hl2 : l2 ≤ 9223372036854775807) (hA1 : ActRow w a1 l1) (hA2 : ActRow w a2 l2) : Calls Try.prog 6 #[.agg #[.int .u8 (z : Int), .slice a1 l1 c1, .slice a2 l2 c2, .int .i64 ak, .int .i64 ai, .int .i64 am]] w fun e w' => e = .returned (.bool true) ∧ Below w.heap.size w w' := by
  obtain ⟨n, hn⟩ : ∃ n, z % 16 + 1 = n := ⟨_, rfl⟩
  have h1 : 1 ≤ n := by omega
  have h16 : n ≤ 16 := by omega
  have HA1 := Lib.hid hA1
  have HA2 := Lib.hid hA2
  clear hA1 hA2
  obtain ⟨w1, hw1⟩ : ∃ w1, Hid (w.alloc (.cells #[.int .u8 (z : Int), .slice a1 l1 c1, .slice a2 l2 c2, .int .i64 ak, .int .i64 ai, .int .i64 am] 47) = w1) := ⟨_, Lib.hid rfl⟩
  obtain ⟨a0, ha0⟩ : ∃ a0, Hid (w.heap.size = a0) := ⟨_, Lib.hid rfl⟩
  have hrow : w1.heap[a0]? = some (.cells #[.int .u8 (z : Int), .slice a1 l1 c1, .slice a2 l2 c2, .int .i64 ak, .int .i64 ai, .int .i64 am] 47 (0, 0)) := by rw [← hw1.out, ← ha0.out]; exact heap_alloc_new _ _
  have HB1 : Hid (Below w.heap.size w w1) := Lib.hid (by rw [← hw1.out]; exact (Below.refl _ _).alloc (Nat.le_refl _) _)
  have q0 : w1.cell? ⟨a0, 0, none⟩ = some (.int .u8 (z : Int)) := row_cell hrow 0 _ rfl
  have q1 : w1.cell? ⟨a0, 1, none⟩ = some (.slice a1 l1 c1) := row_cell hrow 1 _ rfl
  have q2 : w1.cell? ⟨a0, 2, none⟩ = some (.slice a2 l2 c2) := row_cell hrow 2 _ rfl
  have q3 : w1.cell? ⟨a0, 3, none⟩ = some (.int .i64 ak) := row_cell hrow 3 _ rfl
  have q4 : w1.cell? ⟨a0, 4, none⟩ = some (.int .i64 ai) := row_cell hrow 4 _ rfl
  have q5 : w1.cell? ⟨a0, 5, none⟩ = some (.int .i64 am) := row_cell hrow 5 _ rfl
  have hs1 : w.heap.size ≤ w1.heap.size := HB1.out.size
  go_enter Try.func6, Try.ntmps6
  go_upto_region 1 with fail
  rw [hw1.out, ha0.out]
  clear hw1 hrow
  refine wp_region_lin (S := (fun w' => w'.cell? ⟨a0, 0, none⟩ = some (.int .u8 (z : Int)) ∧ w'.cell? ⟨a0, 1, none⟩ = some (.slice a1 l1 c1) ∧ w'.cell? ⟨a0, 2, none⟩ = some (.slice a2 l2 c2) ∧ w'.cell? ⟨a0, 3, none⟩ = some (.int .i64 ak) ∧ w'.cell? ⟨a0, 4, none⟩ = some (.int .i64 ai) ∧ w'.cell? ⟨a0, 5, none⟩ = some (.int .i64 am))) [(0, true), (1, true), (2, true), (3, true), (4, true), (5, true), (6, true), (7, true), (8, false), (9, true), (10, true), (11, true), (12, false)] (by kernel_rfl) (by kernel_rfl) rfl (by kernel_rfl) ?_ (fun hHeld => ?_)
  · (try dsimp only); exact ⟨q0, q1, q2, q3, q4, q5⟩
  have HB2 : Hid (Below w.heap.size w w1.drew) := Lib.hid HB1.out.drew
  have hlt0 : a0 < w1.drew.heap.size := block_lt_of_cell hHeld.1
  generalize World.drew w1 = w2 at hHeld HB2 hlt0 ⊢
  refine wpL_calm (o := { dst := some 21, op := Go.Op.fieldAddr 47 (Go.Operand.tmp 1) 0, type := 0, pos := "law.go:164", after := #[], guard := none }) (v := ?_) rfl (Or.inl ⟨by rfl, ?_⟩) ?_; rotate_left; (focus (intro w hSw; (try dsimp only at hSw); go_simp; (try (with_reducible rfl)); done)); try simp only [Act.put, List.setIfInBounds_toArray, List.set_cons_zero, List.set_cons_succ]
  refine wpL_calm (o := { dst := some 22, op := Go.Op.load 5 (Go.Operand.tmp 21), type := 5, pos := "law.go:164", after := #[{ on := 0, ground := Go.Ground.data }], guard := none }) (v := ?_) rfl (Or.inl ⟨by rfl, ?_⟩) ?_; rotate_left; (focus (intro w hSw; (try dsimp only at hSw); go_simp; (try (with_reducible rfl)); done)); try simp only [Act.put, List.setIfInBounds_toArray, List.set_cons_zero, List.set_cons_succ]
  refine wpL_calm (o := { dst := some 23, op := Go.Op.fieldAddr 47 (Go.Operand.tmp 1) 1, type := 0, pos := "law.go:164", after := #[{ on := 9, ground := Go.Ground.gcOnly Go.Departure.lateStores }], guard := none }) (v := ?_) rfl (Or.inl ⟨by rfl, ?_⟩) ?_; rotate_left; (focus (intro w hSw; (try dsimp only at hSw); go_simp; (try (with_reducible rfl)); done)); try simp only [Act.put, List.setIfInBounds_toArray, List.set_cons_zero, List.set_cons_succ]
  refine wpL_calm (o := { dst := some 24, op := Go.Op.load 22 (Go.Operand.tmp 23), type := 22, pos := "law.go:164", after := #[{ on := 2, ground := Go.Ground.data }, { on := 9, ground := Go.Ground.gcOnly Go.Departure.lateStores }], guard := none }) (v := ?_) rfl (Or.inl ⟨by rfl, ?_⟩) ?_; rotate_left; (focus (intro w hSw; (try dsimp only at hSw); go_simp; (try (with_reducible rfl)); done)); try simp only [Act.put, List.setIfInBounds_toArray, List.set_cons_zero, List.set_cons_succ]
  refine wpL_calm (o := { dst := some 25, op := Go.Op.fieldAddr 47 (Go.Operand.tmp 1) 2, type := 0, pos := "law.go:164", after := #[{ on := 10, ground := Go.Ground.gcOnly Go.Departure.lateStores }], guard := none }) (v := ?_) rfl (Or.inl ⟨by rfl, ?_⟩) ?_; rotate_left; (focus (intro w hSw; (try dsimp only at hSw); go_simp; (try (with_reducible rfl)); done)); try simp only [Act.put, List.setIfInBounds_toArray, List.set_cons_zero, List.set_cons_succ]
  refine wpL_calm (o := { dst := some 26, op := Go.Op.load 22 (Go.Operand.tmp 25), type := 22, pos := "law.go:164", after := #[{ on := 4, ground := Go.Ground.data }, { on := 10, ground := Go.Ground.gcOnly Go.Departure.lateStores }], guard := none }) (v := ?_) rfl (Or.inl ⟨by rfl, ?_⟩) ?_; rotate_left; (focus (intro w hSw; (try dsimp only at hSw); go_simp; (try (with_reducible rfl)); done)); try simp only [Act.put, List.setIfInBounds_toArray, List.set_cons_zero, List.set_cons_succ]
  refine wpL_calm (o := { dst := some 27, op := Go.Op.fieldAddr 47 (Go.Operand.tmp 1) 3, type := 0, pos := "law.go:164", after := #[{ on := 11, ground := Go.Ground.gcOnly Go.Departure.lateStores }], guard := none }) (v := ?_) rfl (Or.inl ⟨by rfl, ?_⟩) ?_; rotate_left; (focus (intro w hSw; (try dsimp only at hSw); go_simp; (try (with_reducible rfl)); done)); try simp only [Act.put, List.setIfInBounds_toArray, List.set_cons_zero, List.set_cons_succ]
  refine wpL_calm (o := { dst := some 28, op := Go.Op.load 35 (Go.Operand.tmp 27), type := 35, pos := "law.go:164", after := #[{ on := 6, ground := Go.Ground.data }, { on := 11, ground := Go.Ground.gcOnly Go.Departure.lateStores }], guard := none }) (v := ?_) rfl (Or.inl ⟨by rfl, ?_⟩) ?_; rotate_left; (focus (intro w hSw; (try dsimp only at hSw); go_simp; (try (with_reducible rfl)); done)); try simp only [Act.put, List.setIfInBounds_toArray, List.set_cons_zero, List.set_cons_succ]
  refine wpL_loud1 (o := { dst := some 6, op := Go.Op.alloc 35, type := 0, pos := "law.go:164", after := #[], guard := none }) rfl (fun K hK => ?_)
  (go_simp; have hBA : Below w2.heap.size w2 (w2.alloc (.cells #[.int .i64 0, .int .i64 0, .int .i64 0] 35)) := (Below.refl _ _).alloc (Nat.le_refl _) _; have r0 := (hBA.cell (p := ⟨a0, 0, none⟩) hlt0).trans hHeld.1; have r1 := (hBA.cell (p := ⟨a0, 1, none⟩) hlt0).trans hHeld.2.1; have r2 := (hBA.cell (p := ⟨a0, 2, none⟩) hlt0).trans hHeld.2.2.1; have r3 := (hBA.cell (p := ⟨a0, 3, none⟩) hlt0).trans hHeld.2.2.2.1; have r4 := (hBA.cell (p := ⟨a0, 4, none⟩) hlt0).trans hHeld.2.2.2.2.1; have r5 := (hBA.cell (p := ⟨a0, 5, none⟩) hlt0).trans hHeld.2.2.2.2.2; obtain ⟨q0, q1, q2, q3, q4, q5⟩ := hHeld)
  refine hK.out _ _ ?_ (fun hHeld => ?_)
  · (try dsimp only); exact ⟨r0, r1, r2, r3, r4, r5⟩
  clear hK K
  try simp only [Act.put, List.setIfInBounds_toArray, List.set_cons_zero, List.set_cons_succ]
  refine wpL_calm (o := { dst := some 3, op := Go.Op.assign (Go.Operand.tmp 22), type := 5, pos := "law.go:164", after := #[{ on := 1, ground := Go.Ground.data }, { on := 0, ground := Go.Ground.phase }, { on := 1, ground := Go.Ground.phase }, { on := 2, ground := Go.Ground.textOnly Go.Departure.lateStores }, { on := 3, ground := Go.Ground.textOnly Go.Departure.lateStores }, { on := 4, ground := Go.Ground.textOnly Go.Departure.lateStores }, { on := 5, ground := Go.Ground.textOnly Go.Departure.lateStores }, { on := 6, ground := Go.Ground.textOnly Go.Departure.lateStores }, { on := 7, ground := Go.Ground.textOnly Go.Departure.lateStores }, { on := 8, ground := Go.Ground.phase }], guard := none }) (v := ?_) rfl (Or.inl ⟨by rfl, ?_⟩) ?_; rotate_left; (focus (intro w hSw; (try dsimp only at hSw); go_simp; (try (with_reducible rfl)); done)); try simp only [Act.put, List.setIfInBounds_toArray, List.set_cons_zero, List.set_cons_succ]
  refine wpL_calm (o := { dst := some 4, op := Go.Op.assign (Go.Operand.tmp 24), type := 22, pos := "law.go:164", after := #[{ on := 3, ground := Go.Ground.data }, { on := 9, ground := Go.Ground.chain }, { on := 0, ground := Go.Ground.phase }, { on := 1, ground := Go.Ground.phase }, { on := 2, ground := Go.Ground.phase }, { on := 3, ground := Go.Ground.phase }, { on := 4, ground := Go.Ground.textOnly Go.Departure.lateStores }, { on := 5, ground := Go.Ground.textOnly Go.Departure.lateStores }, { on := 6, ground := Go.Ground.textOnly Go.Departure.lateStores }, { on := 7, ground := Go.Ground.textOnly Go.Departure.lateStores }, { on := 8, ground := Go.Ground.phase }, { on := 9, ground := Go.Ground.phase }], guard := none }) (v := ?_) rfl (Or.inl ⟨by rfl, ?_⟩) ?_; rotate_left; (focus (intro w hSw; (try dsimp only at hSw); go_simp; (try (with_reducible rfl)); done)); try simp only [Act.put, List.setIfInBounds_toArray, List.set_cons_zero, List.set_cons_succ]
  refine wpL_calm (o := { dst := some 5, op := Go.Op.assign (Go.Operand.tmp 26), type := 22, pos := "law.go:164", after := #[{ on := 5, ground := Go.Ground.data }, { on := 10, ground := Go.Ground.chain }, { on := 0, ground := Go.Ground.phase }, { on := 1, ground := Go.Ground.phase }, { on := 2, ground := Go.Ground.phase }, { on := 3, ground := Go.Ground.phase }, { on := 4, ground := Go.Ground.phase }, { on := 5, ground := Go.Ground.phase }, { on := 6, ground := Go.Ground.textOnly Go.Departure.lateStores }, { on := 7, ground := Go.Ground.textOnly Go.Departure.lateStores }, { on := 8, ground := Go.Ground.phase }, { on := 9, ground := Go.Ground.phase }, { on := 10, ground := Go.Ground.phase }], guard := none }) (v := ?_) rfl (Or.inl ⟨by rfl, ?_⟩) ?_; rotate_left; (focus (intro w hSw; (try dsimp only at hSw); go_simp; (try (with_reducible rfl)); done)); try simp only [Act.put, List.setIfInBounds_toArray, List.set_cons_zero, List.set_cons_succ]
  refine wpL_loud0 (o := { dst := none, op := Go.Op.store 35 (Go.Operand.tmp 6) (Go.Operand.tmp 28), type := 0, pos := "law.go:164", after := #[{ on := 8, ground := Go.Ground.data }, { on := 7, ground := Go.Ground.data }, { on := 11, ground := Go.Ground.chain }, { on := 0, ground := Go.Ground.phase }, { on := 1, ground := Go.Ground.phase }, { on := 2, ground := Go.Ground.phase }, { on := 3, ground := Go.Ground.phase }, { on := 4, ground := Go.Ground.phase }, { on := 5, ground := Go.Ground.phase }, { on := 6, ground := Go.Ground.phase }, { on := 7, ground := Go.Ground.phase }, { on := 8, ground := Go.Ground.phase }, { on := 9, ground := Go.Ground.phase }, { on := 10, ground := Go.Ground.phase }, { on := 11, ground := Go.Ground.phase }], guard := none }) rfl (by kernel_rfl) (fun K hK => ?_)
  (go_simp; have hBA : Below w2.heap.size w2 (w2.alloc (.cells #[.int .i64 ak, .int .i64 ai, .int .i64 am] 35)) := (Below.refl _ _).alloc (Nat.le_refl _) _; have t0 := (hBA.cell (p := ⟨a0, 0, none⟩) hlt0).trans q0; have t1 := (hBA.cell (p := ⟨a0, 1, none⟩) hlt0).trans q1; have t2 := (hBA.cell (p := ⟨a0, 2, none⟩) hlt0).trans q2; have t3 := (hBA.cell (p := ⟨a0, 3, none⟩) hlt0).trans q3; have t4 := (hBA.cell (p := ⟨a0, 4, none⟩) hlt0).trans q4; have t5 := (hBA.cell (p := ⟨a0, 5, none⟩) hlt0).trans q5)
  refine hK.out _ _ ?_
  clear hK K
  try simp only [Act.put, List.setIfInBounds_toArray, List.set_cons_zero, List.set_cons_succ]
  refine wpL_nil ?_
  refine NoPanic.normal ?_
  have hr3 : (w2.alloc (.cells #[.int .i64 ak, .int .i64 ai, .int .i64 am] 35)).heap[w2.heap.size]? = some (.cells #[.int .i64 ak, .int .i64 ai, .int .i64 am] 35 (0, 0)) := heap_alloc_new _ _
  have hB3 : Below w.heap.size w (w2.alloc (.cells #[.int .i64 ak, .int .i64 ai, .int .i64 am] 35)) := HB2.out.alloc HB2.out.size _
  have hab : w.heap.size ≤ w2.heap.size := HB2.out.size
  clear hHeld r0 r1 r2 r3 r4 r5 t0 t1 t2 t3 t4 t5 q0 q1 q2 q3 q4 q5 hlt0 HB2 HB1 hs1 ha0
  generalize (w2.alloc (.cells #[.int .i64 ak, .int .i64 ai, .int .i64 am] 35)) = w3 at *
  generalize w2.heap.size = ab at *
  have HR3 := Lib.hid hr3
  have HB3 := Lib.hid hB3
  have habw : ab < w3.heap.size := (Array.getElem?_eq_some_iff.1 hr3).1
  clear hr3 hB3
  have CN := Lib.hid (newQ_ok n w3 h1 h16)
  go_upto_region 2 with fail
  go_cut [7] from 29 to 32 (fun s7 wx => s7 = .int .i64 (n : Int) ∧ w3 = wx)
  case first =>
    go_wp2_with fail
    go_meet
    exact ⟨by congr 1; omega, rfl⟩
  case rest =>
  obtain ⟨rfl, rfl⟩ := hcut
  clear hn
  go_wp2_with fail
  refine CN.out.mono ?_
  rintro e w4 ⟨g, rfl, q4, hg, b4⟩
  have hgB : w.heap.size ≤ g := Nat.le_trans HB3.out.size hg
  have hB4 := HB3.out.trans (b4.mono HB3.out.size)
  have HQ5 := Lib.hid (bq_start q4 hgB hB4.size)
  have HB5 := Lib.hid (hB4.alloc hB4.size (.cells #[.slice none 0 0, .slice none 0 0, .slice none 0 0, .slice none 0 0] 32))
  have HR5 : Hid ((w4.alloc (.cells #[.slice none 0 0, .slice none 0 0, .slice none 0 0, .slice none 0 0] 32)).heap[ab]? = _) := Lib.hid ((((Below.refl _ _).alloc (Nat.le_refl _) _ : Below w4.heap.size w4 (w4.alloc (.cells #[.slice none 0 0, .slice none 0 0, .slice none 0 0, .slice none 0 0] 32))).block ab (Nat.lt_of_lt_of_le habw b4.size)).trans ((b4.block ab habw).trans HR3.out))
  have hag : ab ≠ g := by omega
  have hah : ab ≠ w4.heap.size := by have := b4.size; omega
  clear b4 CN q4 hB4 HB3 HR3
  obtain ⟨h, hh⟩ : ∃ h, Hid (w4.heap.size = h) := ⟨_, Lib.hid rfl⟩
  rw [hh.out] at HQ5 hah
  obtain ⟨w5, hw5⟩ : ∃ w5, Hid (w4.alloc (.cells #[.slice none 0 0, .slice none 0 0, .slice none 0 0, .slice none 0 0] 32) = w5) := ⟨_, Lib.hid rfl⟩
  rw [hw5.out] at HQ5 HB5 HR5
  go_upto_region 5 with fail
  rw [hw5.out, hh.out]
  clear hw5 hh
  have CA := Lib.hid (awake24 w5)
  go_wp2_with fail
  refine CA.out.mono ?_
  rintro e w6 ⟨rfl, b6⟩
  have HQ6 := Lib.hid (HQ5.out.below b6)
  have HR6 := Lib.hid ((b6.block ab (Array.getElem?_eq_some_iff.1 HR5.out).1).trans HR5.out)
  have HB6 := Lib.hid (HB5.out.trans (b6.mono HB5.out.size))
  clear b6 CA HQ5 HB5 HR5
  go_wp2_with fail
  go_loopw [11] (fun s8 wi => ∃ (k : Nat) (R : Nat → List Nat), s8 = .int .i64 (k : Int) ∧ k ≤ l1 ∧ Hid (Bq w.heap.size wi g h n R R) ∧ Hid (wi.heap[ab]? = some (.cells #[.int .i64 ak, .int .i64 ai, .int .i64 am] 35 (0, 0))) ∧ Hid (Below w.heap.size w wi)) (fun s8 _ => l1 - (intOf s8).toNat)
  case atStart => exact ⟨0, _, rfl, by omega, HQ6, HR6, HB6⟩
  case round =>
    obtain ⟨k, R, rfl, hk, HQ, HR, HB⟩ := hrel
    clear HQ6 HR6 HB6
    by_cases hgo : k < l1 ∧ k < 30
    · have hlt' : (k : Int) < (l1 : Int) := by omega
      have h30' : (k : Int) < 30 := by omega
      have hlt := hgo.1
      obtain ⟨b, off, rfl, hb, hcs⟩ := HA1.out (by omega)
      obtain ⟨x, t, m, m1, m2, c0, c1', c2'⟩ := hcs k hlt
      have d0 := (HB.out.cell (p := ⟨b, off + k * 3, none⟩) hb).trans c0
      have d1 := (HB.out.cell (p := ⟨b, off + k * 3 + 1, none⟩) hb).trans c1'
      have d2 := (HB.out.cell (p := ⟨b, off + k * 3 + 2, none⟩) hb).trans c2'
      have CD := Lib.hid (lwdo_any w.heap.size g h n R R x t m wr HQ.out m1 m2)
      clear hcs c0 c1' c2'
      go_wp2_with fail
      refine CD.out.mono ?_
      rintro e w7 ⟨bb, rfl, hbb, q5, k5⟩
      have HQ7 := Lib.hid q5
      have HR7 := Lib.hid (k5.row (by simp; exact ⟨hag, hah⟩) HR.out)
      have HB7 := Lib.hid (HB.out.trans k5.below)
      clear q5 k5 CD HQ HB HR d0 d1 d2 hbb
      go_wp2_with fail
      go_roundw
      case rel => exact ⟨k + 1, _, by go_num, by omega, HQ7, HR7, HB7⟩
      case measure => simp [intOf]; omega
    · have CC := Lib.hid (copy_any g n R wr HQ.out.q)
      rcases (show ¬ (k : Int) < (l1 : Int) ∨ ((k : Int) < (l1 : Int) ∧ ¬ (k : Int) < 30) by omega) with hx | ⟨hx, hy⟩
      all_goals
        go_wp2_with fail
        refine CC.out.mono ?_
        rintro e w8 ⟨g2, rfl, hg2, q8, b8⟩
        have hg2g : g ≠ g2 := by have := HQ.out.glt; omega
        have hg2h : h ≠ g2 := by have := HQ.out.hlt; omega
        have hg2a : ab ≠ g2 := by have := (Array.getElem?_eq_some_iff.1 HR.out).1; omega
        have hg2B : w.heap.size ≤ g2 := Nat.le_trans HQ.out.bw hg2
        have HQ8 := Lib.hid (HQ.out.below b8)
        have HC8 := Lib.hid q8
        have HR8 := Lib.hid ((b8.block ab (Array.getElem?_eq_some_iff.1 HR.out).1).trans HR.out)
        have HB8 := Lib.hid (HB.out.trans (b8.mono HB.out.size))
        clear b8 q8 CC HQ HR HB
        go_wp2_with fail
        go_loopw [13] (fun s13 wi => ∃ (j : Nat) (R2 : Nat → List Nat), s13 = .int .i64 (j : Int) ∧ j ≤ l2 ∧ Hid (Bq w.heap.size wi g h n R R) ∧ Hid (QR wi g2 n R2) ∧ Hid (wi.heap[ab]? = some (.cells #[.int .i64 ak, .int .i64 ai, .int .i64 am] 35 (0, 0))) ∧ Hid (Below w.heap.size w wi)) (fun s13 _ => l2 - (intOf s13).toNat)
        case atStart => exact ⟨0, _, rfl, by omega, HQ8, HC8, HR8, HB8⟩
        case round =>
          obtain ⟨j, R2, rfl, hj, HQ, HC, HR, HB⟩ := hrel
          clear HQ8 HC8 HR8 HB8
          by_cases hgo2 : j < l2 ∧ j < 30
          · have hlt' : (j : Int) < (l2 : Int) := by omega
            have h30' : (j : Int) < 30 := by omega
            have hlt := hgo2.1
            obtain ⟨b, off, rfl, hb, hcs⟩ := HA2.out (by omega)
            obtain ⟨x, t, m, m1, m2, e0, e1, e2⟩ := hcs j hlt
            have d0 := (HB.out.cell (p := ⟨b, off + j * 3, none⟩) hb).trans e0
            have d1 := (HB.out.cell (p := ⟨b, off + j * 3 + 1, none⟩) hb).trans e1
            have d2 := (HB.out.cell (p := ⟨b, off + j * 3 + 2, none⟩) hb).trans e2
            obtain ⟨hBh, s, hs, ho⟩ := HQ.out.x
            have x0 : wr.cell? ⟨h, 0, none⟩ = some (s 0) := World.rowIs.cell hs (by omega)
            have x1 : wr.cell? ⟨h, 1, none⟩ = some (s 1) := World.rowIs.cell hs (by omega)
            have x2 : wr.cell? ⟨h, 2, none⟩ = some (s 2) := World.rowIs.cell hs (by omega)
            have x3 : wr.cell? ⟨h, 3, none⟩ = some (s 3) := World.rowIs.cell hs (by omega)
            have HO := Lib.hid ho
            have hbw : b < wr.heap.size := Nat.lt_of_lt_of_le hb HB.out.size
            clear hcs e0 e1 e2 hs ho
            go_upto_region 15 with fail
            refine wp_region_lin (S := (fun w' => w'.cell? ⟨h, 0, none⟩ = some (s 0) ∧ w'.cell? ⟨h, 1, none⟩ = some (s 1) ∧ w'.cell? ⟨h, 2, none⟩ = some (s 2) ∧ w'.cell? ⟨h, 3, none⟩ = some (s 3) ∧ w'.cell? ⟨b, off + j * 3, none⟩ = some (.int .i64 x) ∧ w'.cell? ⟨b, off + j * 3 + 1, none⟩ = some (.int .i64 t) ∧ w'.cell? ⟨b, off + j * 3 + 2, none⟩ = some (.int .i64 m))) [(0, true), (1, true), (2, true), (3, true), (4, true), (5, true), (7, true), (8, true), (9, true), (10, true), (11, true), (6, false), (12, false)] (by kernel_rfl) (by kernel_rfl) rfl (by kernel_rfl) ?_ (fun hHeld => ?_)
            · (try dsimp only); exact ⟨x0, x1, x2, x3, d0, d1, d2⟩
            have BD : Hid (Below wr.heap.size wr wr.drew) := Lib.hid (Below.refl _ _).drew
            have HQD := Lib.hid (HQ.out.below BD.out)
            have HCD := Lib.hid (HC.out.below BD.out)
            have HRD : Hid (wr.drew.heap[ab]? = some (.cells #[.int .i64 ak, .int .i64 ai, .int .i64 am] 35 (0, 0))) := Lib.hid HR.out
            have HOD := Lib.hid (fun l hl => own_belowD (HO.out l hl) BD.out)
            have HBD := Lib.hid (HB.out.trans (BD.out.mono HB.out.size))
            have hbw2 : b < wr.drew.heap.size := hbw
            clear x0 x1 x2 x3 d0 d1 d2 HQ HC HR HB HO BD
            generalize World.drew wr = wd at hHeld HQD HCD HRD HBD HOD hbw2 ⊢
            refine wpL_calm (o := { dst := some 80, op := Go.Op.move (Go.Operand.tmp 12), type := 23, pos := "law.go:176", after := #[], guard := none }) (v := ?_) rfl (Or.inl ⟨by rfl, ?_⟩) ?_; rotate_left; (focus (intro w hSw; (try dsimp only at hSw); go_simp; (try (with_reducible rfl)); done)); try simp only [Act.put, List.setIfInBounds_toArray, List.set_cons_zero, List.set_cons_succ]
            refine wpL_calm (o := { dst := some 81, op := Go.Op.move (Go.Operand.tmp 10), type := 28, pos := "law.go:176", after := #[], guard := none }) (v := ?_) rfl (Or.inl ⟨by rfl, ?_⟩) ?_; rotate_left; (focus (intro w hSw; (try dsimp only at hSw); go_simp; (try (with_reducible rfl)); done)); try simp only [Act.put, List.setIfInBounds_toArray, List.set_cons_zero, List.set_cons_succ]
            refine wpL_calm (o := { dst := some 82, op := Go.Op.nilCheck (Go.Operand.tmp 81), type := 0, pos := "law.go:176", after := #[{ on := 1, ground := Go.Ground.data }], guard := none }) (v := ?_) rfl (Or.inl ⟨by rfl, ?_⟩) ?_; rotate_left; (focus (intro w hSw; (try dsimp only at hSw); go_simp; (try (with_reducible rfl)); done)); try simp only [Act.put, List.setIfInBounds_toArray, List.set_cons_zero, List.set_cons_succ]
            refine wpL_calm (o := { dst := some 83, op := Go.Op.fieldAddr 32 (Go.Operand.tmp 82) 0, type := 0, pos := "law.go:176", after := #[{ on := 2, ground := Go.Ground.data }], guard := none }) (v := ?_) rfl (Or.inl ⟨by rfl, ?_⟩) ?_; rotate_left; (focus (intro w hSw; (try dsimp only at hSw); go_simp; (try (with_reducible rfl)); done)); try simp only [Act.put, List.setIfInBounds_toArray, List.set_cons_zero, List.set_cons_succ]
            refine wpL_calm (o := { dst := some 84, op := Go.Op.load 30 (Go.Operand.tmp 83), type := 30, pos := "law.go:176", after := #[{ on := 3, ground := Go.Ground.data }], guard := none }) (v := ?_) rfl (Or.inl ⟨by rfl, ?_⟩) ?_; rotate_left; (focus (intro w hSw; (try dsimp only at hSw); go_simp; (try (with_reducible rfl)); done)); try simp only [Act.put, List.setIfInBounds_toArray, List.set_cons_zero, List.set_cons_succ]
            refine wpL_calm (o := { dst := some 85, op := Go.Op.build 32 #[(0, Go.Operand.tmp 84)], type := 32, pos := "law.go:176", after := #[{ on := 4, ground := Go.Ground.data }], guard := none }) (v := ?_) rfl (Or.inl ⟨by rfl, ?_⟩) ?_; rotate_left; (focus (intro w hSw; (try dsimp only at hSw); go_simp; (try (with_reducible rfl)); done)); try simp only [Act.put, List.setIfInBounds_toArray, List.set_cons_zero, List.set_cons_succ]
            refine wpL_calm (o := { dst := some 87, op := Go.Op.move (Go.Operand.tmp 7), type := 3, pos := "law.go:176", after := #[], guard := none }) (v := ?_) rfl (Or.inl ⟨by rfl, ?_⟩) ?_; rotate_left; (focus (intro w hSw; (try dsimp only at hSw); go_simp; (try (with_reducible rfl)); done)); try simp only [Act.put, List.setIfInBounds_toArray, List.set_cons_zero, List.set_cons_succ]
            refine wpL_calm (o := { dst := some 88, op := Go.Op.move (Go.Operand.tmp 5), type := 22, pos := "law.go:176", after := #[], guard := none }) (v := ?_) rfl (Or.inl ⟨by rfl, ?_⟩) ?_; rotate_left; (focus (intro w hSw; (try dsimp only at hSw); go_simp; (try (with_reducible rfl)); done)); try simp only [Act.put, List.setIfInBounds_toArray, List.set_cons_zero, List.set_cons_succ]
            refine wpL_calm (o := { dst := some 89, op := Go.Op.move (Go.Operand.tmp 13), type := 3, pos := "law.go:176", after := #[], guard := none }) (v := ?_) rfl (Or.inl ⟨by rfl, ?_⟩) ?_; rotate_left; (focus (intro w hSw; (try dsimp only at hSw); go_simp; (try (with_reducible rfl)); done)); try simp only [Act.put, List.setIfInBounds_toArray, List.set_cons_zero, List.set_cons_succ]
            refine wpL_calm (o := { dst := some 90, op := Go.Op.indexAddr 22 (Go.Operand.tmp 88) (Go.Operand.tmp 89), type := 0, pos := "law.go:176", after := #[{ on := 8, ground := Go.Ground.data }, { on := 9, ground := Go.Ground.data }], guard := none }) (v := ?_) rfl (Or.inl ⟨by rfl, ?_⟩) ?_; rotate_left; (focus (intro w hSw; (try dsimp only at hSw); go_simp; (try (with_reducible rfl)); done)); try simp only [Act.put, List.setIfInBounds_toArray, List.set_cons_zero, List.set_cons_succ]
            refine wpL_calm (o := { dst := some 91, op := Go.Op.load 35 (Go.Operand.tmp 90), type := 35, pos := "law.go:176", after := #[{ on := 10, ground := Go.Ground.data }], guard := none }) (v := ?_) rfl (Or.inl ⟨by rfl, ?_⟩) ?_; rotate_left; (focus (intro w hSw; (try dsimp only at hSw); go_simp; (try (with_reducible rfl)); done)); try simp only [Act.put, List.setIfInBounds_toArray, List.set_cons_zero, List.set_cons_succ]
            refine wpL_loud1 (o := { dst := some 86, op := Go.Op.box 32 (Go.Operand.tmp 85), type := 28, pos := "law.go:176", after := #[{ on := 5, ground := Go.Ground.data }], guard := none }) rfl (fun K hK => ?_)
            (go_simp; have hBA : Below wd.heap.size wd (wd.alloc (.cells #[s 0, s 1, s 2, s 3] 32)) := (Below.refl _ _).alloc (Nat.le_refl _) _; have hXN : XqAt (wd.alloc (.cells #[s 0, s 1, s 2, s 3] 32)) w.heap.size wd.heap.size R := ⟨HBD.out.size, s, World.rowIs_alloc wd #[s 0, s 1, s 2, s 3] 32 s (fun i hi => by rcases (show i = 0 ∨ i = 1 ∨ i = 2 ∨ i = 3 by simp at hi; omega) with rfl | rfl | rfl | rfl <;> rfl), fun l hl => own_belowD (HOD.out l hl) hBA⟩; have hhl : h < wd.heap.size := HQD.out.hlt; have hgl : g < wd.heap.size := HQD.out.glt; have hg2l : g2 < wd.heap.size := (by obtain ⟨F, hF, _⟩ := HCD.out; exact hF.lt); have y0 := (hBA.cell (p := ⟨h, 0, none⟩) hhl).trans hHeld.1; have y1 := (hBA.cell (p := ⟨h, 1, none⟩) hhl).trans hHeld.2.1; have y2 := (hBA.cell (p := ⟨h, 2, none⟩) hhl).trans hHeld.2.2.1; have y3 := (hBA.cell (p := ⟨h, 3, none⟩) hhl).trans hHeld.2.2.2.1; have y4 := (hBA.cell (p := ⟨b, off + j * 3, none⟩) hbw2).trans hHeld.2.2.2.2.1; have y5 := (hBA.cell (p := ⟨b, off + j * 3 + 1, none⟩) hbw2).trans hHeld.2.2.2.2.2.1; have y6 := (hBA.cell (p := ⟨b, off + j * 3 + 2, none⟩) hbw2).trans hHeld.2.2.2.2.2.2; have HXN := Lib.hid hXN; have HQE := Lib.hid (HQD.out.below hBA); have HCE := Lib.hid (HCD.out.below hBA); have HRE := Lib.hid ((hBA.block ab (Array.getElem?_eq_some_iff.1 HRD.out).1).trans HRD.out); have HBE := Lib.hid (HBD.out.trans (hBA.mono HBD.out.size)); have hh2 : h ≠ wd.heap.size := (by omega); have hgh2 : g ≠ wd.heap.size := (by omega); have hg2h2 : g2 ≠ wd.heap.size := (by omega); have hah2 : ab ≠ wd.heap.size := (by have := (Array.getElem?_eq_some_iff.1 HRD.out).1; omega); have hbe : b < (wd.alloc (.cells #[s 0, s 1, s 2, s 3] 32)).heap.size := Nat.lt_of_lt_of_le hbw2 hBA.size; clear hXN hBA hHeld HQD HCD HRD HBD HOD hhl hgl hg2l hbw2; generalize (wd.alloc (.cells #[s 0, s 1, s 2, s 3] 32)) = we at *; generalize wd.heap.size = h2 at *)
            refine hK.out _ _ ?_ (fun hHeld => ?_)
            · (try dsimp only); exact ⟨y0, y1, y2, y3, y4, y5, y6⟩
            clear hK K
            try simp only [Act.put, List.setIfInBounds_toArray, List.set_cons_zero, List.set_cons_succ]
            refine wpL_loud0 (o := { dst := some 92, op := Go.Op.call { callee := Go.Callee.value (Go.Operand.func 9), args := #[Go.Operand.tmp 80, Go.Operand.tmp 86, Go.Operand.tmp 87, Go.Operand.tmp 91], argTypes := #[23, 28, 3, 35] }, type := 4, pos := "law.go:176", after := #[{ on := 0, ground := Go.Ground.data }, { on := 6, ground := Go.Ground.data }, { on := 7, ground := Go.Ground.data }, { on := 11, ground := Go.Ground.data }], guard := none }) rfl (by kernel_rfl) (fun K hK => ?_)
            (go_simp; go_at_call 9; refine (lwdo_any w.heap.size g2 h2 n R2 R x t m we ⟨HCE.out, HXN.out, hg2h2, hg2B, HQE.out.ok⟩ m1 m2).mono ?_; rintro e w10 ⟨bb, rfl, _, q10, k10⟩; have HQF := Lib.hid (by obtain ⟨F, hF, _⟩ := HCE.out; obtain ⟨_, s2, hs2, _⟩ := HXN.out; exact HQE.out.other k10 hg2g hgh2 hg2h hh2 hF hs2); have HCF := Lib.hid q10.q; have HRF := Lib.hid (k10.row (by simp; exact ⟨hg2a, hah2⟩) HRE.out); have HBF := Lib.hid (HBE.out.trans k10.below); have z0 := k10.cell (b := h) (by simp; exact ⟨hg2h, hh2⟩) y0; have z1 := k10.cell (b := h) (by simp; exact ⟨hg2h, hh2⟩) y1; have z2 := k10.cell (b := h) (by simp; exact ⟨hg2h, hh2⟩) y2; have z3 := k10.cell (b := h) (by simp; exact ⟨hg2h, hh2⟩) y3; have z4 := (k10.below.cell (p := ⟨b, off + j * 3, none⟩) hb).trans y4; have z5 := (k10.below.cell (p := ⟨b, off + j * 3 + 1, none⟩) hb).trans y5; have z6 := (k10.below.cell (p := ⟨b, off + j * 3 + 2, none⟩) hb).trans y6; clear q10 k10)
            try go_wp2_with fail
            refine hK.out _ _ ?_
            clear hK K
            try simp only [Act.put, List.setIfInBounds_toArray, List.set_cons_zero, List.set_cons_succ]
            refine wpL_nil ?_
            refine NoPanic.normal ?_
            clear hHeld y0 y1 y2 y3 y4 y5 y6 z0 z1 z2 z3 z4 z5 z6 HQE HCE HRE HBE HXN
            go_wp2_with fail
            go_roundw
            case rel => exact ⟨j + 1, _, by go_num, by omega, HQF, HCF, HRF, HBF⟩
            case measure => simp [intOf]; omega
          · rcases (show ¬ (j : Int) < (l2 : Int) ∨ ((j : Int) < (l2 : Int) ∧ ¬ (j : Int) < 30) by omega) with hu | ⟨hu, hv⟩
            all_goals
              have c1 := row_cell HR.out 1 (.int .i64 ai) rfl
              have c2 := row_cell HR.out 2 (.int .i64 am) rfl
              have habw2 : ab < wr.heap.size := (Array.getElem?_eq_some_iff.1 HR.out).1
              go_wp2_with fail
              refine (level_nil ai wr).mono ?_
              rintro e w' ⟨rfl, rfl⟩
              go_wp2_with fail
              refine (front_nil am wr).mono ?_
              rintro e w' ⟨rfl, rfl⟩
              go_wp2_with fail
              refine (least_nil wr).mono ?_
              rintro e w' ⟨rfl, rfl⟩
              go_upto_region 20 with fail
              refine wp_region_lin_all (S := (fun w' => w'.cell? ⟨ab, 1, none⟩ = some (.int .i64 ai) ∧ w'.cell? ⟨ab, 2, none⟩ = some (.int .i64 am))) [(0, true), (1, true), (2, false), (3, true), (4, true), (5, true), (6, true), (7, true), (8, true), (9, false), (10, true), (11, true), (12, true), (13, true), (14, true), (15, true), (16, false), (17, true), (18, true), (19, true), (20, true), (21, true), (22, true), (23, false), (24, true), (25, true), (26, true), (27, true), (28, true), (29, true), (30, true), (31, true), (32, false), (33, true), (34, true), (35, true), (36, true), (37, true), (38, true), (39, true), (40, true), (41, true), (42, true), (43, true), (44, true), (45, true), (46, true), (47, true), (48, true), (50, true), (51, true), (52, true), (55, true), (56, true), (57, true), (49, false), (53, false), (54, true), (58, false), (59, true), (60, true), (61, true), (62, true), (63, true), (64, true), (65, false), (66, true), (67, true), (68, true)] (by kernel_rfl) (by kernel_rfl) rfl (by kernel_rfl) ?_ (fun hHeld => ?_)
              · (try dsimp only); exact ⟨c1, c2⟩
              have BD : Hid (Below wr.heap.size wr wr.drew) := Lib.hid (Below.refl _ _).drew
              have HQD := Lib.hid (HQ.out.below BD.out)
              have HBD := Lib.hid (HB.out.trans (BD.out.mono HB.out.size))
              have hab2 : ab < wr.drew.heap.size := habw2
              clear c1 c2 HQ HC HR HB BD habw2
              generalize World.drew wr = wd at hHeld HQD HBD hab2 ⊢
              refine wpL_calm (o := { dst := some 112, op := Go.Op.move (Go.Operand.tmp 8), type := 23, pos := "law.go:182", after := #[], guard := none }) (v := ?_) rfl (Or.inl ⟨by rfl, ?_⟩) ?_; rotate_left; (focus (intro w hSw; (try dsimp only at hSw); go_simp; (try (with_reducible rfl)); done)); try simp only [Act.put, List.setIfInBounds_toArray, List.set_cons_zero, List.set_cons_succ]
              refine wpL_calm (o := { dst := some 113, op := Go.Op.move (Go.Operand.tmp 10), type := 28, pos := "law.go:182", after := #[], guard := none }) (v := ?_) rfl (Or.inl ⟨by rfl, ?_⟩) ?_; rotate_left; (focus (intro w hSw; (try dsimp only at hSw); go_simp; (try (with_reducible rfl)); done)); try simp only [Act.put, List.setIfInBounds_toArray, List.set_cons_zero, List.set_cons_succ]
              refine wpL_loud1 (o := { dst := some 114, op := Go.Op.call { callee := Go.Callee.value (Go.Operand.func 10), args := #[Go.Operand.tmp 112, Go.Operand.tmp 113], argTypes := #[23, 28] }, type := 4, pos := "law.go:182", after := #[{ on := 0, ground := Go.Ground.data }, { on := 1, ground := Go.Ground.data }], guard := none }) rfl (fun K hK => ?_)
              (go_simp; go_at_call 10; refine (lwsame_any w.heap.size g h n R wd HQD.out).mono ?_; rintro e w11 ⟨rfl, b11⟩; have r1 := (b11.cell (p := ⟨ab, 1, none⟩) hab2).trans hHeld.1; have r2 := (b11.cell (p := ⟨ab, 2, none⟩) hab2).trans hHeld.2; have HB11 := Lib.hid (HBD.out.trans (b11.mono HBD.out.size)); clear b11)
              try go_wp2_with fail
              refine hK.out _ _ ?_ (fun hHeld => ?_)
              · (try dsimp only); exact ⟨r1, r2⟩
              clear hK K
              try simp only [Act.put, List.setIfInBounds_toArray, List.set_cons_zero, List.set_cons_succ]
              refine wpL_calm (o := { dst := some 115, op := Go.Op.move (Go.Operand.tmp 114), type := 4, pos := "law.go:182", after := #[{ on := 2, ground := Go.Ground.data }, { on := 2, ground := Go.Ground.chain }], guard := none }) (v := ?_) rfl (Or.inl ⟨by rfl, ?_⟩) ?_; rotate_left; (focus (intro w hSw; (try dsimp only at hSw); go_simp; (try (with_reducible rfl)); done)); try simp only [Act.put, List.setIfInBounds_toArray, List.set_cons_zero, List.set_cons_succ]
              refine wpL_calm (o := { dst := some 116, op := Go.Op.move (Go.Operand.tmp 14), type := 23, pos := "law.go:182", after := #[{ on := 3, ground := Go.Ground.guard }], guard := some (3, true) }) (v := ?_) rfl (Or.inl ⟨by rfl, ?_⟩) ?_; rotate_left; (focus (intro w hSw; (try dsimp only at hSw); go_simp; (try (with_reducible rfl)); done)); try simp only [Act.put, List.setIfInBounds_toArray, List.set_cons_zero, List.set_cons_succ]
              refine wpL_calm (o := { dst := some 117, op := Go.Op.fieldAddr 35 (Go.Operand.tmp 6) 1, type := 0, pos := "law.go:182", after := #[{ on := 3, ground := Go.Ground.guard }], guard := some (3, true) }) (v := ?_) rfl (Or.inl ⟨by rfl, ?_⟩) ?_; rotate_left; (focus (intro w hSw; (try dsimp only at hSw); go_simp; (try (with_reducible rfl)); done)); try simp only [Act.put, List.setIfInBounds_toArray, List.set_cons_zero, List.set_cons_succ]
              refine wpL_calm (o := { dst := some 118, op := Go.Op.load 3 (Go.Operand.tmp 117), type := 3, pos := "law.go:182", after := #[{ on := 5, ground := Go.Ground.data }, { on := 3, ground := Go.Ground.guard }], guard := some (3, true) }) (v := ?_) rfl (Or.inl ⟨by rfl, ?_⟩) ?_; rotate_left; (focus (intro w hSw; (try dsimp only at hSw); go_simp; (try (with_reducible rfl)); done)); try simp only [Act.put, List.setIfInBounds_toArray, List.set_cons_zero, List.set_cons_succ]
              refine wpL_calm (o := { dst := some 119, op := Go.Op.fieldAddr 35 (Go.Operand.tmp 6) 2, type := 0, pos := "law.go:182", after := #[{ on := 3, ground := Go.Ground.guard }], guard := some (3, true) }) (v := ?_) rfl (Or.inl ⟨by rfl, ?_⟩) ?_; rotate_left; (focus (intro w hSw; (try dsimp only at hSw); go_simp; (try (with_reducible rfl)); done)); try simp only [Act.put, List.setIfInBounds_toArray, List.set_cons_zero, List.set_cons_succ]
              refine wpL_calm (o := { dst := some 120, op := Go.Op.load 3 (Go.Operand.tmp 119), type := 3, pos := "law.go:182", after := #[{ on := 7, ground := Go.Ground.data }, { on := 3, ground := Go.Ground.guard }], guard := some (3, true) }) (v := ?_) rfl (Or.inl ⟨by rfl, ?_⟩) ?_; rotate_left; (focus (intro w hSw; (try dsimp only at hSw); go_simp; (try (with_reducible rfl)); done)); try simp only [Act.put, List.setIfInBounds_toArray, List.set_cons_zero, List.set_cons_succ]
              refine wpL_loud1 (o := { dst := some 121, op := Go.Op.call { callee := Go.Callee.value (Go.Operand.func 18), args := #[Go.Operand.tmp 116, Go.Operand.tmp 118, Go.Operand.tmp 120], argTypes := #[23, 3, 3] }, type := 24, pos := "law.go:182", after := #[{ on := 4, ground := Go.Ground.data }, { on := 6, ground := Go.Ground.data }, { on := 8, ground := Go.Ground.data }, { on := 3, ground := Go.Ground.chain }, { on := 3, ground := Go.Ground.guard }], guard := some (3, true) }) rfl (fun K hK => ?_)
              (go_simp; go_at_call 18; refine (add_nil ai am w11).mono ?_; rintro e w' ⟨rfl, rfl⟩)
              try go_wp2_with fail
              refine hK.out _ _ ?_ (fun hHeld => ?_)
              · (try dsimp only); exact ⟨r1, r2⟩
              clear hK K
              try simp only [Act.put, List.setIfInBounds_toArray, List.set_cons_zero, List.set_cons_succ]
              refine wpL_calm (o := { dst := some 122, op := Go.Op.binOp Go.BinOp.eql 24 (Go.Operand.tmp 121) (Go.Operand.const (Go.Value.int Go.IntKind.i64 1)) 24, type := 4, pos := "law.go:182", after := #[{ on := 9, ground := Go.Ground.data }, { on := 3, ground := Go.Ground.guard }], guard := some (3, true) }) (v := ?_) rfl (Or.inl ⟨by rfl, ?_⟩) ?_; rotate_left; (focus (intro w hSw; (try dsimp only at hSw); go_simp; (try (with_reducible rfl)); done)); try simp only [Act.put, List.setIfInBounds_toArray, List.set_cons_zero, List.set_cons_succ]
              refine wpL_calm (o := { dst := some 123, op := Go.Op.pick (Go.Operand.tmp 115) (Go.Operand.tmp 122) (Go.Operand.const (Go.Value.bool false)), type := 4, pos := "law.go:182", after := #[{ on := 3, ground := Go.Ground.data }, { on := 10, ground := Go.Ground.data }], guard := none }) (v := ?_) rfl (Or.inl ⟨by rfl, ?_⟩) ?_; rotate_left; (focus (intro w hSw; (try dsimp only at hSw); go_simp; (try (with_reducible rfl)); done)); try simp only [Act.put, List.setIfInBounds_toArray, List.set_cons_zero, List.set_cons_succ]
              refine wpL_calm (o := { dst := some 124, op := Go.Op.move (Go.Operand.tmp 123), type := 4, pos := "law.go:182", after := #[{ on := 11, ground := Go.Ground.data }, { on := 9, ground := Go.Ground.chain }], guard := none }) (v := ?_) rfl (Or.inl ⟨by rfl, ?_⟩) ?_; rotate_left; (focus (intro w hSw; (try dsimp only at hSw); go_simp; (try (with_reducible rfl)); done)); try simp only [Act.put, List.setIfInBounds_toArray, List.set_cons_zero, List.set_cons_succ]
              refine wpL_calm (o := { dst := some 125, op := Go.Op.move (Go.Operand.tmp 14), type := 23, pos := "law.go:182", after := #[{ on := 12, ground := Go.Ground.guard }], guard := some (12, true) }) (v := ?_) rfl (Or.inl ⟨by rfl, ?_⟩) ?_; rotate_left; (focus (intro w hSw; (try dsimp only at hSw); go_simp; (try (with_reducible rfl)); done)); try simp only [Act.put, List.setIfInBounds_toArray, List.set_cons_zero, List.set_cons_succ]
              refine wpL_calm (o := { dst := some 126, op := Go.Op.fieldAddr 35 (Go.Operand.tmp 6) 1, type := 0, pos := "law.go:182", after := #[{ on := 12, ground := Go.Ground.guard }], guard := some (12, true) }) (v := ?_) rfl (Or.inl ⟨by rfl, ?_⟩) ?_; rotate_left; (focus (intro w hSw; (try dsimp only at hSw); go_simp; (try (with_reducible rfl)); done)); try simp only [Act.put, List.setIfInBounds_toArray, List.set_cons_zero, List.set_cons_succ]
              refine wpL_calm (o := { dst := some 127, op := Go.Op.load 3 (Go.Operand.tmp 126), type := 3, pos := "law.go:182", after := #[{ on := 14, ground := Go.Ground.data }, { on := 12, ground := Go.Ground.guard }], guard := some (12, true) }) (v := ?_) rfl (Or.inl ⟨by rfl, ?_⟩) ?_; rotate_left; (focus (intro w hSw; (try dsimp only at hSw); go_simp; (try (with_reducible rfl)); done)); try simp only [Act.put, List.setIfInBounds_toArray, List.set_cons_zero, List.set_cons_succ]
              refine wpL_loud1 (o := { dst := some 128, op := Go.Op.call { callee := Go.Callee.value (Go.Operand.func 19), args := #[Go.Operand.tmp 125, Go.Operand.tmp 127], argTypes := #[23, 3] }, type := 24, pos := "law.go:182", after := #[{ on := 13, ground := Go.Ground.data }, { on := 15, ground := Go.Ground.data }, { on := 12, ground := Go.Ground.chain }, { on := 12, ground := Go.Ground.guard }], guard := some (12, true) }) rfl (fun K hK => ?_)
              (go_simp; go_at_call 19; refine (remove_nil ai w11).mono ?_; rintro e w' ⟨rfl, rfl⟩)
              try go_wp2_with fail
              refine hK.out _ _ ?_ (fun hHeld => ?_)
              · (try dsimp only); exact ⟨r1, r2⟩
              clear hK K
              try simp only [Act.put, List.setIfInBounds_toArray, List.set_cons_zero, List.set_cons_succ]
              refine wpL_calm (o := { dst := some 129, op := Go.Op.binOp Go.BinOp.eql 24 (Go.Operand.tmp 128) (Go.Operand.const (Go.Value.int Go.IntKind.i64 1)) 24, type := 4, pos := "law.go:182", after := #[{ on := 16, ground := Go.Ground.data }, { on := 12, ground := Go.Ground.guard }], guard := some (12, true) }) (v := ?_) rfl (Or.inl ⟨by rfl, ?_⟩) ?_; rotate_left; (focus (intro w hSw; (try dsimp only at hSw); go_simp; (try (with_reducible rfl)); done)); try simp only [Act.put, List.setIfInBounds_toArray, List.set_cons_zero, List.set_cons_succ]
              refine wpL_calm (o := { dst := some 130, op := Go.Op.pick (Go.Operand.tmp 124) (Go.Operand.tmp 129) (Go.Operand.const (Go.Value.bool false)), type := 4, pos := "law.go:182", after := #[{ on := 12, ground := Go.Ground.data }, { on := 17, ground := Go.Ground.data }], guard := none }) (v := ?_) rfl (Or.inl ⟨by rfl, ?_⟩) ?_; rotate_left; (focus (intro w hSw; (try dsimp only at hSw); go_simp; (try (with_reducible rfl)); done)); try simp only [Act.put, List.setIfInBounds_toArray, List.set_cons_zero, List.set_cons_succ]
              refine wpL_calm (o := { dst := some 131, op := Go.Op.move (Go.Operand.tmp 130), type := 4, pos := "law.go:182", after := #[{ on := 18, ground := Go.Ground.data }, { on := 16, ground := Go.Ground.chain }], guard := none }) (v := ?_) rfl (Or.inl ⟨by rfl, ?_⟩) ?_; rotate_left; (focus (intro w hSw; (try dsimp only at hSw); go_simp; (try (with_reducible rfl)); done)); try simp only [Act.put, List.setIfInBounds_toArray, List.set_cons_zero, List.set_cons_succ]
              refine wpL_calm (o := { dst := some 132, op := Go.Op.move (Go.Operand.tmp 14), type := 23, pos := "law.go:182", after := #[{ on := 19, ground := Go.Ground.guard }], guard := some (19, true) }) (v := ?_) rfl (Or.inl ⟨by rfl, ?_⟩) ?_; rotate_left; (focus (intro w hSw; (try dsimp only at hSw); go_simp; (try (with_reducible rfl)); done)); try simp only [Act.put, List.setIfInBounds_toArray, List.set_cons_zero, List.set_cons_succ]
              refine wpL_calm (o := { dst := some 133, op := Go.Op.fieldAddr 35 (Go.Operand.tmp 6) 1, type := 0, pos := "law.go:182", after := #[{ on := 19, ground := Go.Ground.guard }], guard := some (19, true) }) (v := ?_) rfl (Or.inl ⟨by rfl, ?_⟩) ?_; rotate_left; (focus (intro w hSw; (try dsimp only at hSw); go_simp; (try (with_reducible rfl)); done)); try simp only [Act.put, List.setIfInBounds_toArray, List.set_cons_zero, List.set_cons_succ]
              refine wpL_calm (o := { dst := some 134, op := Go.Op.load 3 (Go.Operand.tmp 133), type := 3, pos := "law.go:182", after := #[{ on := 21, ground := Go.Ground.data }, { on := 19, ground := Go.Ground.guard }], guard := some (19, true) }) (v := ?_) rfl (Or.inl ⟨by rfl, ?_⟩) ?_; rotate_left; (focus (intro w hSw; (try dsimp only at hSw); go_simp; (try (with_reducible rfl)); done)); try simp only [Act.put, List.setIfInBounds_toArray, List.set_cons_zero, List.set_cons_succ]
              refine wpL_loud1 (o := { dst := some 135, op := Go.Op.call { callee := Go.Callee.value (Go.Operand.func 20), args := #[Go.Operand.tmp 132, Go.Operand.tmp 134], argTypes := #[23, 3] }, type := 24, pos := "law.go:182", after := #[{ on := 20, ground := Go.Ground.data }, { on := 22, ground := Go.Ground.data }, { on := 19, ground := Go.Ground.chain }, { on := 19, ground := Go.Ground.guard }], guard := some (19, true) }) rfl (fun K hK => ?_)
              (go_simp; go_at_call 20; refine (touch_nil ai w11).mono ?_; rintro e w' ⟨rfl, rfl⟩)
              try go_wp2_with fail
              refine hK.out _ _ ?_ (fun hHeld => ?_)
              · (try dsimp only); exact ⟨r1, r2⟩
              clear hK K
              try simp only [Act.put, List.setIfInBounds_toArray, List.set_cons_zero, List.set_cons_succ]
              refine wpL_calm (o := { dst := some 136, op := Go.Op.binOp Go.BinOp.eql 24 (Go.Operand.tmp 135) (Go.Operand.const (Go.Value.int Go.IntKind.i64 1)) 24, type := 4, pos := "law.go:182", after := #[{ on := 23, ground := Go.Ground.data }, { on := 19, ground := Go.Ground.guard }], guard := some (19, true) }) (v := ?_) rfl (Or.inl ⟨by rfl, ?_⟩) ?_; rotate_left; (focus (intro w hSw; (try dsimp only at hSw); go_simp; (try (with_reducible rfl)); done)); try simp only [Act.put, List.setIfInBounds_toArray, List.set_cons_zero, List.set_cons_succ]
              refine wpL_calm (o := { dst := some 137, op := Go.Op.pick (Go.Operand.tmp 131) (Go.Operand.tmp 136) (Go.Operand.const (Go.Value.bool false)), type := 4, pos := "law.go:182", after := #[{ on := 19, ground := Go.Ground.data }, { on := 24, ground := Go.Ground.data }], guard := none }) (v := ?_) rfl (Or.inl ⟨by rfl, ?_⟩) ?_; rotate_left; (focus (intro w hSw; (try dsimp only at hSw); go_simp; (try (with_reducible rfl)); done)); try simp only [Act.put, List.setIfInBounds_toArray, List.set_cons_zero, List.set_cons_succ]
              refine wpL_calm (o := { dst := some 138, op := Go.Op.move (Go.Operand.tmp 137), type := 4, pos := "law.go:182", after := #[{ on := 25, ground := Go.Ground.data }, { on := 23, ground := Go.Ground.chain }], guard := none }) (v := ?_) rfl (Or.inl ⟨by rfl, ?_⟩) ?_; rotate_left; (focus (intro w hSw; (try dsimp only at hSw); go_simp; (try (with_reducible rfl)); done)); try simp only [Act.put, List.setIfInBounds_toArray, List.set_cons_zero, List.set_cons_succ]
              refine wpL_calm (o := { dst := some 139, op := Go.Op.move (Go.Operand.tmp 14), type := 23, pos := "law.go:182", after := #[{ on := 26, ground := Go.Ground.guard }], guard := some (26, true) }) (v := ?_) rfl (Or.inl ⟨by rfl, ?_⟩) ?_; rotate_left; (focus (intro w hSw; (try dsimp only at hSw); go_simp; (try (with_reducible rfl)); done)); try simp only [Act.put, List.setIfInBounds_toArray, List.set_cons_zero, List.set_cons_succ]
              refine wpL_calm (o := { dst := some 140, op := Go.Op.fieldAddr 35 (Go.Operand.tmp 6) 1, type := 0, pos := "law.go:182", after := #[{ on := 26, ground := Go.Ground.guard }], guard := some (26, true) }) (v := ?_) rfl (Or.inl ⟨by rfl, ?_⟩) ?_; rotate_left; (focus (intro w hSw; (try dsimp only at hSw); go_simp; (try (with_reducible rfl)); done)); try simp only [Act.put, List.setIfInBounds_toArray, List.set_cons_zero, List.set_cons_succ]
              refine wpL_calm (o := { dst := some 141, op := Go.Op.load 3 (Go.Operand.tmp 140), type := 3, pos := "law.go:182", after := #[{ on := 28, ground := Go.Ground.data }, { on := 26, ground := Go.Ground.guard }], guard := some (26, true) }) (v := ?_) rfl (Or.inl ⟨by rfl, ?_⟩) ?_; rotate_left; (focus (intro w hSw; (try dsimp only at hSw); go_simp; (try (with_reducible rfl)); done)); try simp only [Act.put, List.setIfInBounds_toArray, List.set_cons_zero, List.set_cons_succ]
              refine wpL_calm (o := { dst := some 142, op := Go.Op.fieldAddr 35 (Go.Operand.tmp 6) 2, type := 0, pos := "law.go:182", after := #[{ on := 26, ground := Go.Ground.guard }], guard := some (26, true) }) (v := ?_) rfl (Or.inl ⟨by rfl, ?_⟩) ?_; rotate_left; (focus (intro w hSw; (try dsimp only at hSw); go_simp; (try (with_reducible rfl)); done)); try simp only [Act.put, List.setIfInBounds_toArray, List.set_cons_zero, List.set_cons_succ]
              refine wpL_calm (o := { dst := some 143, op := Go.Op.load 3 (Go.Operand.tmp 142), type := 3, pos := "law.go:182", after := #[{ on := 30, ground := Go.Ground.data }, { on := 26, ground := Go.Ground.guard }], guard := some (26, true) }) (v := ?_) rfl (Or.inl ⟨by rfl, ?_⟩) ?_; rotate_left; (focus (intro w hSw; (try dsimp only at hSw); go_simp; (try (with_reducible rfl)); done)); try simp only [Act.put, List.setIfInBounds_toArray, List.set_cons_zero, List.set_cons_succ]
              refine wpL_loud1 (o := { dst := some 144, op := Go.Op.call { callee := Go.Callee.value (Go.Operand.func 21), args := #[Go.Operand.tmp 139, Go.Operand.tmp 141, Go.Operand.tmp 143], argTypes := #[23, 3, 3] }, type := 24, pos := "law.go:182", after := #[{ on := 27, ground := Go.Ground.data }, { on := 29, ground := Go.Ground.data }, { on := 31, ground := Go.Ground.data }, { on := 26, ground := Go.Ground.chain }, { on := 26, ground := Go.Ground.guard }], guard := some (26, true) }) rfl (fun K hK => ?_)
              (go_simp; go_at_call 21; refine (move_nil ai am w11).mono ?_; rintro e w' ⟨rfl, rfl⟩)
              try go_wp2_with fail
              refine hK.out _ _ ?_ (fun hHeld => ?_)
              · (try dsimp only); exact ⟨r1, r2⟩
              clear hK K
              try simp only [Act.put, List.setIfInBounds_toArray, List.set_cons_zero, List.set_cons_succ]
              refine wpL_calm (o := { dst := some 145, op := Go.Op.binOp Go.BinOp.eql 24 (Go.Operand.tmp 144) (Go.Operand.const (Go.Value.int Go.IntKind.i64 1)) 24, type := 4, pos := "law.go:182", after := #[{ on := 32, ground := Go.Ground.data }, { on := 26, ground := Go.Ground.guard }], guard := some (26, true) }) (v := ?_) rfl (Or.inl ⟨by rfl, ?_⟩) ?_; rotate_left; (focus (intro w hSw; (try dsimp only at hSw); go_simp; (try (with_reducible rfl)); done)); try simp only [Act.put, List.setIfInBounds_toArray, List.set_cons_zero, List.set_cons_succ]
              refine wpL_calm (o := { dst := some 146, op := Go.Op.pick (Go.Operand.tmp 138) (Go.Operand.tmp 145) (Go.Operand.const (Go.Value.bool false)), type := 4, pos := "law.go:182", after := #[{ on := 26, ground := Go.Ground.data }, { on := 33, ground := Go.Ground.data }], guard := none }) (v := ?_) rfl (Or.inl ⟨by rfl, ?_⟩) ?_; rotate_left; (focus (intro w hSw; (try dsimp only at hSw); go_simp; (try (with_reducible rfl)); done)); try simp only [Act.put, List.setIfInBounds_toArray, List.set_cons_zero, List.set_cons_succ]
              refine wpL_calm (o := { dst := some 147, op := Go.Op.move (Go.Operand.tmp 146), type := 4, pos := "law.go:182", after := #[{ on := 34, ground := Go.Ground.data }, { on := 32, ground := Go.Ground.chain }], guard := none }) (v := ?_) rfl (Or.inl ⟨by rfl, ?_⟩) ?_; rotate_left; (focus (intro w hSw; (try dsimp only at hSw); go_simp; (try (with_reducible rfl)); done)); try simp only [Act.put, List.setIfInBounds_toArray, List.set_cons_zero, List.set_cons_succ]
              refine wpL_calm (o := { dst := some 148, op := Go.Op.move (Go.Operand.tmp 16), type := 4, pos := "law.go:182", after := #[{ on := 35, ground := Go.Ground.guard }], guard := some (35, true) }) (v := ?_) rfl (Or.inl ⟨by rfl, ?_⟩) ?_; rotate_left; (focus (intro w hSw; (try dsimp only at hSw); go_simp; (try (with_reducible rfl)); done)); try simp only [Act.put, List.setIfInBounds_toArray, List.set_cons_zero, List.set_cons_succ]
              refine wpL_calm (o := { dst := some 149, op := Go.Op.unOp Go.UnOp.not 4 (Go.Operand.tmp 148), type := 4, pos := "law.go:182", after := #[{ on := 36, ground := Go.Ground.data }, { on := 35, ground := Go.Ground.guard }], guard := some (35, true) }) (v := ?_) rfl (Or.inl ⟨by rfl, ?_⟩) ?_; rotate_left; (focus (intro w hSw; (try dsimp only at hSw); go_simp; (try (with_reducible rfl)); done)); try simp only [Act.put, List.setIfInBounds_toArray, List.set_cons_zero, List.set_cons_succ]
              refine wpL_calm (o := { dst := some 150, op := Go.Op.pick (Go.Operand.tmp 147) (Go.Operand.tmp 149) (Go.Operand.const (Go.Value.bool false)), type := 4, pos := "law.go:182", after := #[{ on := 35, ground := Go.Ground.data }, { on := 37, ground := Go.Ground.data }], guard := none }) (v := ?_) rfl (Or.inl ⟨by rfl, ?_⟩) ?_; rotate_left; (focus (intro w hSw; (try dsimp only at hSw); go_simp; (try (with_reducible rfl)); done)); try simp only [Act.put, List.setIfInBounds_toArray, List.set_cons_zero, List.set_cons_succ]
              refine wpL_calm (o := { dst := some 151, op := Go.Op.move (Go.Operand.tmp 150), type := 4, pos := "law.go:182", after := #[{ on := 38, ground := Go.Ground.data }, { on := 35, ground := Go.Ground.chain }], guard := none }) (v := ?_) rfl (Or.inl ⟨by rfl, ?_⟩) ?_; rotate_left; (focus (intro w hSw; (try dsimp only at hSw); go_simp; (try (with_reducible rfl)); done)); try simp only [Act.put, List.setIfInBounds_toArray, List.set_cons_zero, List.set_cons_succ]
              refine wpL_calm (o := { dst := some 152, op := Go.Op.move (Go.Operand.tmp 18), type := 4, pos := "law.go:182", after := #[{ on := 39, ground := Go.Ground.guard }], guard := some (39, true) }) (v := ?_) rfl (Or.inl ⟨by rfl, ?_⟩) ?_; rotate_left; (focus (intro w hSw; (try dsimp only at hSw); go_simp; (try (with_reducible rfl)); done)); try simp only [Act.put, List.setIfInBounds_toArray, List.set_cons_zero, List.set_cons_succ]
              refine wpL_calm (o := { dst := some 153, op := Go.Op.unOp Go.UnOp.not 4 (Go.Operand.tmp 152), type := 4, pos := "law.go:182", after := #[{ on := 40, ground := Go.Ground.data }, { on := 39, ground := Go.Ground.guard }], guard := some (39, true) }) (v := ?_) rfl (Or.inl ⟨by rfl, ?_⟩) ?_; rotate_left; (focus (intro w hSw; (try dsimp only at hSw); go_simp; (try (with_reducible rfl)); done)); try simp only [Act.put, List.setIfInBounds_toArray, List.set_cons_zero, List.set_cons_succ]
              refine wpL_calm (o := { dst := some 154, op := Go.Op.pick (Go.Operand.tmp 151) (Go.Operand.tmp 153) (Go.Operand.const (Go.Value.bool false)), type := 4, pos := "law.go:182", after := #[{ on := 39, ground := Go.Ground.data }, { on := 41, ground := Go.Ground.data }], guard := none }) (v := ?_) rfl (Or.inl ⟨by rfl, ?_⟩) ?_; rotate_left; (focus (intro w hSw; (try dsimp only at hSw); go_simp; (try (with_reducible rfl)); done)); try simp only [Act.put, List.setIfInBounds_toArray, List.set_cons_zero, List.set_cons_succ]
              refine wpL_calm (o := { dst := some 155, op := Go.Op.move (Go.Operand.tmp 154), type := 4, pos := "law.go:182", after := #[{ on := 42, ground := Go.Ground.data }, { on := 39, ground := Go.Ground.chain }], guard := none }) (v := ?_) rfl (Or.inl ⟨by rfl, ?_⟩) ?_; rotate_left; (focus (intro w hSw; (try dsimp only at hSw); go_simp; (try (with_reducible rfl)); done)); try simp only [Act.put, List.setIfInBounds_toArray, List.set_cons_zero, List.set_cons_succ]
              refine wpL_calm (o := { dst := some 156, op := Go.Op.move (Go.Operand.tmp 20), type := 4, pos := "law.go:182", after := #[{ on := 43, ground := Go.Ground.guard }], guard := some (43, true) }) (v := ?_) rfl (Or.inl ⟨by rfl, ?_⟩) ?_; rotate_left; (focus (intro w hSw; (try dsimp only at hSw); go_simp; (try (with_reducible rfl)); done)); try simp only [Act.put, List.setIfInBounds_toArray, List.set_cons_zero, List.set_cons_succ]
              refine wpL_calm (o := { dst := some 157, op := Go.Op.unOp Go.UnOp.not 4 (Go.Operand.tmp 156), type := 4, pos := "law.go:182", after := #[{ on := 44, ground := Go.Ground.data }, { on := 43, ground := Go.Ground.guard }], guard := some (43, true) }) (v := ?_) rfl (Or.inl ⟨by rfl, ?_⟩) ?_; rotate_left; (focus (intro w hSw; (try dsimp only at hSw); go_simp; (try (with_reducible rfl)); done)); try simp only [Act.put, List.setIfInBounds_toArray, List.set_cons_zero, List.set_cons_succ]
              refine wpL_calm (o := { dst := some 158, op := Go.Op.pick (Go.Operand.tmp 155) (Go.Operand.tmp 157) (Go.Operand.const (Go.Value.bool false)), type := 4, pos := "law.go:182", after := #[{ on := 43, ground := Go.Ground.data }, { on := 45, ground := Go.Ground.data }], guard := none }) (v := ?_) rfl (Or.inl ⟨by rfl, ?_⟩) ?_; rotate_left; (focus (intro w hSw; (try dsimp only at hSw); go_simp; (try (with_reducible rfl)); done)); try simp only [Act.put, List.setIfInBounds_toArray, List.set_cons_zero, List.set_cons_succ]
              refine wpL_calm (o := { dst := some 159, op := Go.Op.move (Go.Operand.tmp 158), type := 4, pos := "law.go:182", after := #[{ on := 46, ground := Go.Ground.data }, { on := 43, ground := Go.Ground.chain }], guard := none }) (v := ?_) rfl (Or.inl ⟨by rfl, ?_⟩) ?_; rotate_left; (focus (intro w hSw; (try dsimp only at hSw); go_simp; (try (with_reducible rfl)); done)); try simp only [Act.put, List.setIfInBounds_toArray, List.set_cons_zero, List.set_cons_succ]
              refine wpL_calm (o := { dst := some 160, op := Go.Op.move (Go.Operand.tmp 14), type := 23, pos := "law.go:182", after := #[{ on := 47, ground := Go.Ground.guard }], guard := some (47, true) }) (v := ?_) rfl (Or.inl ⟨by rfl, ?_⟩) ?_; rotate_left; (focus (intro w hSw; (try dsimp only at hSw); go_simp; (try (with_reducible rfl)); done)); try simp only [Act.put, List.setIfInBounds_toArray, List.set_cons_zero, List.set_cons_succ]
              refine wpL_calm (o := { dst := some 162, op := Go.Op.move (Go.Operand.tmp 14), type := 23, pos := "law.go:182", after := #[{ on := 47, ground := Go.Ground.guard }], guard := some (47, true) }) (v := ?_) rfl (Or.inl ⟨by rfl, ?_⟩) ?_; rotate_left; (focus (intro w hSw; (try dsimp only at hSw); go_simp; (try (with_reducible rfl)); done)); try simp only [Act.put, List.setIfInBounds_toArray, List.set_cons_zero, List.set_cons_succ]
              refine wpL_calm (o := { dst := some 163, op := Go.Op.fieldAddr 35 (Go.Operand.tmp 6) 2, type := 0, pos := "law.go:182", after := #[{ on := 47, ground := Go.Ground.guard }], guard := some (47, true) }) (v := ?_) rfl (Or.inl ⟨by rfl, ?_⟩) ?_; rotate_left; (focus (intro w hSw; (try dsimp only at hSw); go_simp; (try (with_reducible rfl)); done)); try simp only [Act.put, List.setIfInBounds_toArray, List.set_cons_zero, List.set_cons_succ]
              refine wpL_calm (o := { dst := some 164, op := Go.Op.load 3 (Go.Operand.tmp 163), type := 3, pos := "law.go:182", after := #[{ on := 51, ground := Go.Ground.data }, { on := 47, ground := Go.Ground.guard }], guard := some (47, true) }) (v := ?_) rfl (Or.inl ⟨by rfl, ?_⟩) ?_; rotate_left; (focus (intro w hSw; (try dsimp only at hSw); go_simp; (try (with_reducible rfl)); done)); try simp only [Act.put, List.setIfInBounds_toArray, List.set_cons_zero, List.set_cons_succ]
              refine wpL_calm (o := { dst := some 167, op := Go.Op.move (Go.Operand.tmp 14), type := 23, pos := "law.go:182", after := #[{ on := 47, ground := Go.Ground.guard }], guard := some (47, true) }) (v := ?_) rfl (Or.inl ⟨by rfl, ?_⟩) ?_; rotate_left; (focus (intro w hSw; (try dsimp only at hSw); go_simp; (try (with_reducible rfl)); done)); try simp only [Act.put, List.setIfInBounds_toArray, List.set_cons_zero, List.set_cons_succ]
              refine wpL_calm (o := { dst := some 168, op := Go.Op.fieldAddr 35 (Go.Operand.tmp 6) 2, type := 0, pos := "law.go:182", after := #[{ on := 47, ground := Go.Ground.guard }], guard := some (47, true) }) (v := ?_) rfl (Or.inl ⟨by rfl, ?_⟩) ?_; rotate_left; (focus (intro w hSw; (try dsimp only at hSw); go_simp; (try (with_reducible rfl)); done)); try simp only [Act.put, List.setIfInBounds_toArray, List.set_cons_zero, List.set_cons_succ]
              refine wpL_calm (o := { dst := some 169, op := Go.Op.load 3 (Go.Operand.tmp 168), type := 3, pos := "law.go:182", after := #[{ on := 56, ground := Go.Ground.data }, { on := 47, ground := Go.Ground.guard }], guard := some (47, true) }) (v := ?_) rfl (Or.inl ⟨by rfl, ?_⟩) ?_; rotate_left; (focus (intro w hSw; (try dsimp only at hSw); go_simp; (try (with_reducible rfl)); done)); try simp only [Act.put, List.setIfInBounds_toArray, List.set_cons_zero, List.set_cons_succ]
              refine wpL_loud1 (o := { dst := some 161, op := Go.Op.call { callee := Go.Callee.value (Go.Operand.func 13), args := #[Go.Operand.tmp 160], argTypes := #[23] }, type := 3, pos := "law.go:182", after := #[{ on := 48, ground := Go.Ground.data }, { on := 47, ground := Go.Ground.chain }, { on := 47, ground := Go.Ground.guard }], guard := some (47, true) }) rfl (fun K hK => ?_)
              (go_simp; go_at_call 13; refine (len_nil w11).mono ?_; rintro e w' ⟨rfl, rfl⟩)
              try go_wp2_with fail
              refine hK.out _ _ ?_ (fun hHeld => ?_)
              · (try dsimp only); exact ⟨r1, r2⟩
              clear hK K
              try simp only [Act.put, List.setIfInBounds_toArray, List.set_cons_zero, List.set_cons_succ]
              refine wpL_loud1 (o := { dst := some 165, op := Go.Op.call { callee := Go.Callee.value (Go.Operand.func 14), args := #[Go.Operand.tmp 162, Go.Operand.tmp 164], argTypes := #[23, 3] }, type := 3, pos := "law.go:182", after := #[{ on := 50, ground := Go.Ground.data }, { on := 52, ground := Go.Ground.data }, { on := 49, ground := Go.Ground.chain }, { on := 47, ground := Go.Ground.guard }], guard := some (47, true) }) rfl (fun K hK => ?_)
              (go_simp; go_at_call 14; refine (balance_nil am w11).mono ?_; rintro e w' ⟨rfl, rfl⟩)
              try go_wp2_with fail
              refine hK.out _ _ ?_ (fun hHeld => ?_)
              · (try dsimp only); exact ⟨r1, r2⟩
              clear hK K
              try simp only [Act.put, List.setIfInBounds_toArray, List.set_cons_zero, List.set_cons_succ]
              refine wpL_calm (o := { dst := some 166, op := Go.Op.binOp Go.BinOp.add 3 (Go.Operand.tmp 161) (Go.Operand.tmp 165) 3, type := 3, pos := "law.go:182", after := #[{ on := 49, ground := Go.Ground.data }, { on := 53, ground := Go.Ground.data }, { on := 47, ground := Go.Ground.guard }], guard := some (47, true) }) (v := ?_) rfl (Or.inl ⟨by rfl, ?_⟩) ?_; rotate_left; (focus (intro w hSw; (try dsimp only at hSw); go_simp; (try (with_reducible rfl)); done)); try simp only [Act.put, List.setIfInBounds_toArray, List.set_cons_zero, List.set_cons_succ]
              refine wpL_loud1 (o := { dst := some 170, op := Go.Op.call { callee := Go.Callee.value (Go.Operand.func 11), args := #[Go.Operand.tmp 167, Go.Operand.tmp 169], argTypes := #[23, 3] }, type := 29, pos := "law.go:182", after := #[{ on := 55, ground := Go.Ground.data }, { on := 57, ground := Go.Ground.data }, { on := 53, ground := Go.Ground.chain }, { on := 47, ground := Go.Ground.guard }], guard := some (47, true) }) rfl (fun K hK => ?_)
              (go_simp; go_at_call 11; refine (list_nil am w11).mono ?_; rintro e w' ⟨rfl, rfl⟩)
              try go_wp2_with fail
              refine hK.out _ _ ?_ (fun hHeld => ?_)
              · (try dsimp only); exact ⟨r1, r2⟩
              clear hK K
              try simp only [Act.put, List.setIfInBounds_toArray, List.set_cons_zero, List.set_cons_succ]
              refine wpL_calm (o := { dst := some 171, op := Go.Op.call { callee := Go.Callee.builtin Go.Builtin.len, args := #[Go.Operand.tmp 170], argTypes := #[29] }, type := 3, pos := "law.go:182", after := #[{ on := 58, ground := Go.Ground.data }, { on := 47, ground := Go.Ground.guard }], guard := some (47, true) }) (v := ?_) rfl (Or.inl ⟨by rfl, ?_⟩) ?_; rotate_left; (focus (intro w hSw; (try dsimp only at hSw); go_simp; (try (with_reducible rfl)); done)); try simp only [Act.put, List.setIfInBounds_toArray, List.set_cons_zero, List.set_cons_succ]
              refine wpL_calm (o := { dst := some 172, op := Go.Op.binOp Go.BinOp.add 3 (Go.Operand.tmp 166) (Go.Operand.tmp 171) 3, type := 3, pos := "law.go:182", after := #[{ on := 54, ground := Go.Ground.data }, { on := 59, ground := Go.Ground.data }, { on := 47, ground := Go.Ground.guard }], guard := some (47, true) }) (v := ?_) rfl (Or.inl ⟨by rfl, ?_⟩) ?_; rotate_left; (focus (intro w hSw; (try dsimp only at hSw); go_simp; (try (with_reducible rfl)); done)); try simp only [Act.put, List.setIfInBounds_toArray, List.set_cons_zero, List.set_cons_succ]
              refine wpL_calm (o := { dst := some 173, op := Go.Op.binOp Go.BinOp.eql 3 (Go.Operand.tmp 172) (Go.Operand.const (Go.Value.int Go.IntKind.i64 0)) 3, type := 4, pos := "law.go:182", after := #[{ on := 60, ground := Go.Ground.data }, { on := 47, ground := Go.Ground.guard }], guard := some (47, true) }) (v := ?_) rfl (Or.inl ⟨by rfl, ?_⟩) ?_; rotate_left; (focus (intro w hSw; (try dsimp only at hSw); go_simp; (try (with_reducible rfl)); done)); try simp only [Act.put, List.setIfInBounds_toArray, List.set_cons_zero, List.set_cons_succ]
              refine wpL_calm (o := { dst := some 174, op := Go.Op.pick (Go.Operand.tmp 159) (Go.Operand.tmp 173) (Go.Operand.const (Go.Value.bool false)), type := 4, pos := "law.go:182", after := #[{ on := 47, ground := Go.Ground.data }, { on := 61, ground := Go.Ground.data }], guard := none }) (v := ?_) rfl (Or.inl ⟨by rfl, ?_⟩) ?_; rotate_left; (focus (intro w hSw; (try dsimp only at hSw); go_simp; (try (with_reducible rfl)); done)); try simp only [Act.put, List.setIfInBounds_toArray, List.set_cons_zero, List.set_cons_succ]
              refine wpL_calm (o := { dst := some 175, op := Go.Op.move (Go.Operand.tmp 174), type := 4, pos := "law.go:182", after := #[{ on := 62, ground := Go.Ground.data }, { on := 58, ground := Go.Ground.chain }], guard := none }) (v := ?_) rfl (Or.inl ⟨by rfl, ?_⟩) ?_; rotate_left; (focus (intro w hSw; (try dsimp only at hSw); go_simp; (try (with_reducible rfl)); done)); try simp only [Act.put, List.setIfInBounds_toArray, List.set_cons_zero, List.set_cons_succ]
              refine wpL_calm (o := { dst := some 176, op := Go.Op.move (Go.Operand.tmp 14), type := 23, pos := "law.go:182", after := #[{ on := 63, ground := Go.Ground.guard }], guard := some (63, true) }) (v := ?_) rfl (Or.inl ⟨by rfl, ?_⟩) ?_; rotate_left; (focus (intro w hSw; (try dsimp only at hSw); go_simp; (try (with_reducible rfl)); done)); try simp only [Act.put, List.setIfInBounds_toArray, List.set_cons_zero, List.set_cons_succ]
              refine wpL_loud1 (o := { dst := some 177, op := Go.Op.call { callee := Go.Callee.value (Go.Operand.func 15), args := #[Go.Operand.tmp 176], argTypes := #[23] }, type := 23, pos := "law.go:182", after := #[{ on := 64, ground := Go.Ground.data }, { on := 63, ground := Go.Ground.chain }, { on := 63, ground := Go.Ground.guard }], guard := some (63, true) }) rfl (fun K hK => ?_)
              (go_simp; rw [if_pos (by decide)]; go_at_call 15; refine (copy_nil w11).mono ?_; rintro e w' ⟨rfl, rfl⟩)
              try go_wp2_with fail
              refine hK.out _ _ ?_ (fun hHeld => ?_)
              · (try dsimp only); exact ⟨r1, r2⟩
              clear hK K
              try simp only [Act.put, List.setIfInBounds_toArray, List.set_cons_zero, List.set_cons_succ]
              refine wpL_calm (o := { dst := some 178, op := Go.Op.binOp Go.BinOp.eql 23 (Go.Operand.tmp 177) (Go.Operand.const (Go.Value.pointer none)) 23, type := 4, pos := "law.go:182", after := #[{ on := 65, ground := Go.Ground.data }, { on := 63, ground := Go.Ground.guard }], guard := some (63, true) }) (v := ?_) rfl (Or.inl ⟨by rfl, ?_⟩) ?_; rotate_left; (focus (intro w hSw; (try dsimp only at hSw); go_simp; (try (with_reducible rfl)); done)); try simp only [Act.put, List.setIfInBounds_toArray, List.set_cons_zero, List.set_cons_succ]
              refine wpL_calm (o := { dst := some 179, op := Go.Op.pick (Go.Operand.tmp 175) (Go.Operand.tmp 178) (Go.Operand.const (Go.Value.bool false)), type := 4, pos := "law.go:182", after := #[{ on := 63, ground := Go.Ground.data }, { on := 66, ground := Go.Ground.data }], guard := none }) (v := ?_) rfl (Or.inl ⟨by rfl, ?_⟩) ?_; rotate_left; (focus (intro w hSw; (try dsimp only at hSw); go_simp; (try (with_reducible rfl)); done)); try simp only [Act.put, List.setIfInBounds_toArray, List.set_cons_zero, List.set_cons_succ]
              refine wpL_calm (o := { dst := some 2, op := Go.Op.assign (Go.Operand.tmp 179), type := 4, pos := "law.go:182", after := ([{ on := 67, ground := Go.Ground.data }, { on := 65, ground := Go.Ground.chain }, { on := 0, ground := Go.Ground.phase }, { on := 1, ground := Go.Ground.phase }, { on := 2, ground := Go.Ground.phase }, { on := 3, ground := Go.Ground.phase }, { on := 4, ground := Go.Ground.phase }, { on := 5, ground := Go.Ground.phase }, { on := 6, ground := Go.Ground.phase }, { on := 7, ground := Go.Ground.phase }, { on := 8, ground := Go.Ground.phase }, { on := 9, ground := Go.Ground.phase }, { on := 10, ground := Go.Ground.phase }, { on := 11, ground := Go.Ground.phase }, { on := 12, ground := Go.Ground.phase }, { on := 13, ground := Go.Ground.phase }, { on := 14, ground := Go.Ground.phase }, { on := 15, ground := Go.Ground.phase }, { on := 16, ground := Go.Ground.phase }, { on := 17, ground := Go.Ground.phase }, { on := 18, ground := Go.Ground.phase }, { on := 19, ground := Go.Ground.phase }, { on := 20, ground := Go.Ground.phase }, { on := 21, ground := Go.Ground.phase }, { on := 22, ground := Go.Ground.phase }, { on := 23, ground := Go.Ground.phase }, { on := 24, ground := Go.Ground.phase }, { on := 25, ground := Go.Ground.phase }, { on := 26, ground := Go.Ground.phase }, { on := 27, ground := Go.Ground.phase }, { on := 28, ground := Go.Ground.phase }, { on := 29, ground := Go.Ground.phase }, { on := 30, ground := Go.Ground.phase }, { on := 31, ground := Go.Ground.phase }, { on := 32, ground := Go.Ground.phase }].append [{ on := 33, ground := Go.Ground.phase }, { on := 34, ground := Go.Ground.phase }, { on := 35, ground := Go.Ground.phase }, { on := 36, ground := Go.Ground.phase }, { on := 37, ground := Go.Ground.phase }, { on := 38, ground := Go.Ground.phase }, { on := 39, ground := Go.Ground.phase }, { on := 40, ground := Go.Ground.phase }, { on := 41, ground := Go.Ground.phase }, { on := 42, ground := Go.Ground.phase }, { on := 43, ground := Go.Ground.phase }, { on := 44, ground := Go.Ground.phase }, { on := 45, ground := Go.Ground.phase }, { on := 46, ground := Go.Ground.phase }, { on := 47, ground := Go.Ground.phase }, { on := 48, ground := Go.Ground.phase }, { on := 49, ground := Go.Ground.phase }, { on := 50, ground := Go.Ground.phase }, { on := 51, ground := Go.Ground.phase }, { on := 52, ground := Go.Ground.phase }, { on := 53, ground := Go.Ground.phase }, { on := 54, ground := Go.Ground.phase }, { on := 55, ground := Go.Ground.phase }, { on := 56, ground := Go.Ground.phase }, { on := 57, ground := Go.Ground.phase }, { on := 58, ground := Go.Ground.phase }, { on := 59, ground := Go.Ground.phase }, { on := 60, ground := Go.Ground.phase }, { on := 61, ground := Go.Ground.phase }, { on := 62, ground := Go.Ground.phase }, { on := 63, ground := Go.Ground.phase }, { on := 64, ground := Go.Ground.phase }, { on := 65, ground := Go.Ground.phase }, { on := 66, ground := Go.Ground.phase }, { on := 67, ground := Go.Ground.phase }]).toArray, guard := none }) (v := ?_) rfl (Or.inl ⟨by rfl, ?_⟩) ?_; rotate_left; (focus (intro w hSw; (try dsimp only at hSw); go_simp; (try (with_reducible rfl)); done)); try simp only [Act.put, List.setIfInBounds_toArray, List.set_cons_zero, List.set_cons_succ]
              refine wpL_nil ?_
              refine NoPanic.normal ?_
              go_wp2_with fail
              go_ret
              exact ⟨rfl, HB11.out⟩
section
variable {H : Type} {enc : TypeId × Value → H}
theorem levelApart_walk {r : Reach} {b0 : Nat} (v : Value) (d : DataW H) (p : List MemPlace) (w : World) (hok : Value.okWide Try.prog w r b0 47 v) (h : DataW.Trod enc Try.prog w 0 (fun _ => true) true 47 v d p) :
    Calls Try.prog 6 #[v] w fun e w' => e = .returned (.bool true) ∧ Below w.heap.size w w' := by
  obtain ⟨z, a1, l1, c1, a2, l2, c2, k, i, m, hz, rfl, hl1, hA1, hl2, hA2⟩ := open_four hok h
  exact apart_law z a1 l1 c1 a2 l2 c2 k i m w hz (by unfold maxLen at hl1; exact hl1) (by unfold maxLen at hl2; exact hl2) hA1 hA2
end
end Go.Proofs.Ytdoeaepfjdjmmaa
