/- Package slots: Mark, Copy; a nil table. -/
import Derived.Test.YthhgodfgigcacaaSlG
import Derived.Laws.Rows
namespace Go.Proofs.Ythhgodfgigcacaa
open Go.RowKit Go.Deep
set_option linter.unusedVariables false
set_option linter.unusedSimpArgs false
def Sl.setV (s : Sl) (p : Nat) (v : Bool) : Sl := match p with
  | 0 => { s with v0 := v }
  | 1 => { s with v1 := v }
  | 2 => { s with v2 := v }
  | _ => { s with v3 := v }
def Sl.setD (s : Sl) (p : Nat) (d : Bool) : Sl := match p with
  | 0 => { s with d0 := d }
  | 1 => { s with d1 := d }
  | 2 => { s with d2 := d }
  | _ => { s with d3 := d }
theorem slC_v (s : Sl) (p : Nat) (v : Bool) (hp : p < 4) : ∀ i, i < 10 → slC (s.setV p v) i = if i = 1 + p then .bool v else slC s i := fun i hi => by
  rcases (show p = 0 ∨ p = 1 ∨ p = 2 ∨ p = 3 by omega) with rfl | rfl | rfl | rfl <;>
    rcases (show i = 0 ∨ i = 1 ∨ i = 2 ∨ i = 3 ∨ i = 4 ∨ i = 5 ∨ i = 6 ∨ i = 7 ∨ i = 8 ∨ i = 9 by omega) with rfl | rfl | rfl | rfl | rfl | rfl | rfl | rfl | rfl | rfl <;> rfl
theorem slC_d (s : Sl) (p : Nat) (v : Bool) (hp : p < 4) : ∀ i, i < 10 → slC (s.setD p v) i = if i = 5 + p then .bool v else slC s i := fun i hi => by
  rcases (show p = 0 ∨ p = 1 ∨ p = 2 ∨ p = 3 by omega) with rfl | rfl | rfl | rfl <;>
    rcases (show i = 0 ∨ i = 1 ∨ i = 2 ∨ i = 3 ∨ i = 4 ∨ i = 5 ∨ i = 6 ∨ i = 7 ∨ i = 8 ∨ i = 9 by omega) with rfl | rfl | rfl | rfl | rfl | rfl | rfl | rfl | rfl | rfl <;> rfl
def marS (s : Sl) (p : Nat) (v d : Bool) : Sl := (s.setV p v).setD p d
def marE (n : Nat) (T : Nat → Sl) (i p : Int) (v d : Bool) : Int := if refE n T i (outB p) = 0 then (if (d && !v) = true then 2 else 0) else refE n T i (outB p)
def marT (n : Nat) (T : Nat → Sl) (i p : Int) (v d : Bool) : Nat → Sl := if marE n T i p v d = 0 then upd T i.toNat (marS (T i.toNat) p.toNat v d) else T
theorem upd_upd (T : Nat → Sl) (k : Nat) (s t : Sl) : upd (upd T k s) k t = upd T k t := by
  funext i
  unfold upd
  by_cases e : i = k
  · rw [if_pos e, if_pos e]
  · rw [if_neg e, if_neg e, if_neg e]
theorem upd_same (T : Nat → Sl) (k : Nat) (s : Sl) : upd T k s k = s := by unfold upd; rw [if_pos rfl]
theorem slC_bool (s : Sl) (j : Nat) (h1 : 1 ≤ j) (h9 : j < 9) : ∃ v, slC s j = .bool v := by
  rcases (show j = 1 ∨ j = 2 ∨ j = 3 ∨ j = 4 ∨ j = 5 ∨ j = 6 ∨ j = 7 ∨ j = 8 by omega) with rfl | rfl | rfl | rfl | rfl | rfl | rfl | rfl <;> exact ⟨_, rfl⟩
set_option maxRecDepth 100000 in
set_option maxHeartbeats 8000000 in
theorem markT_any (B b n : Nat) (T : Nat → Sl) (i m : Int) (v d : Bool) (w : World) (hT : TAt w b n T) (hn : n ≤ 8) (hB : B ≤ b) : Calls Try.prog 21 #[.pointer (some ⟨b, 0, none⟩), .int .i64 i, .int .i64 m, .bool v, .bool d] w fun e w' => e = .returned (.int .i64 (marE n T i m v d)) ∧ TAt w' b n (marT n T i m v d) ∧ Kt B b w w' := by
  have hBw : B ≤ w.heap.size := Nat.le_trans hB (Nat.le_of_lt hT.lt)
  have HT := Lib.hid hT
  have CR := Lib.hid (refT_any b n T i (outB m) w hT hn)
  have HZ := Lib.hid (fun (h : refE n T i (outB m) = 0) => ref_zero h)
  obtain ⟨E, hE⟩ : ∃ E, Hid (marE n T i m v d = E) := ⟨_, Lib.hid rfl⟩
  have HTF : Hid (marT n T i m v d = if E = 0 then upd T i.toNat (marS (T i.toNat) m.toNat v d) else T) := Lib.hid (by unfold marT; rw [hE.out])
  rw [hE.out, HTF.out]
  have HE : Hid (E = if refE n T i (outB m) = 0 then (if (d && !v) = true then 2 else 0) else refE n T i (outB m)) := Lib.hid (hE.out.symm)
  obtain ⟨r, hr⟩ : ∃ r, refE n T i (outB m) = r := ⟨_, rfl⟩
  rw [hr] at CR HZ HE
  obtain ⟨T2, hT2⟩ : ∃ T2, Hid ((if E = 0 then upd T i.toNat (marS (T i.toNat) m.toNat v d) else T) = T2) := ⟨_, Lib.hid rfl⟩
  rw [hT2.out]
  clear hr hT hE HTF
  obtain ⟨ob, hob⟩ : ∃ ob, Hid (outB m = ob) := ⟨_, Lib.hid rfl⟩
  rw [hob.out] at CR
  have HOE := Lib.hid hob.out
  have HM : Hid ((m < 0 ∨ 4 ≤ m) ↔ ob = true) := Lib.hid (by rw [← hob.out]; unfold outB; simp)
  have key : ∀ (P : Prop), (m < 0 → ob = true → P) → (¬ m < 0 → 4 ≤ m → ob = true → P) → (¬ m < 0 → ¬ 4 ≤ m → ob = false → P) → P := fun P h1 h2 h3 => by
    by_cases a : m < 0
    · exact h1 a (HM.out.1 (Or.inl a))
    · by_cases c : 4 ≤ m
      · exact h2 a c (HM.out.1 (Or.inr c))
      · exact h3 a c (by cases ob; rfl; exact absurd (HM.out.2 rfl) (by omega))
  clear HM hob
  go_enter Try.func21, Try.ntmps21
  refine key _ (fun a1 a2 => ?_) (fun a1 a2 a3 => ?_) (fun a1 a2 a3 => ?_)
  case refine_3 =>
    subst a3
    obtain ⟨p, rfl⟩ : ∃ p : Nat, m = (p : Int) := ⟨m.toNat, by omega⟩
    have a2' : (p : Int) < 4 := by omega
    have hp4 : p < 4 := by omega
    go_wp2_with fail
    refine CR.out.mono ?_
    rintro e w2 ⟨rfl, b2⟩
    have HB2 := Lib.hid b2
    have HT3 := Lib.hid (HT.out.below b2)
    clear b2 CR key
    by_cases h0 : r = 0
    · obtain ⟨k, rfl, hkn, _, _⟩ := HZ.out h0
      subst h0
      have hk8 : k < 8 := by omega
      have hki : (k : Int) < 8 := by omega
      have he := HE.out
      rw [if_pos rfl] at he
      have HTT := hT2.out
      rw [Int.toNat_natCast, Int.toNat_natCast] at HTT
      have HTT := Lib.hid HTT
      have HE2 := Lib.hid he
      clear he HE hT2 HZ
      have hdv : (d = true ∧ v = false) ∨ (d = false) ∨ (d = true ∧ v = true) := by cases d <;> cases v <;> simp
      rcases hdv with ⟨rfl, rfl⟩ | hdv
      · have HE3 : Hid (E = 2) := Lib.hid HE2.out
        go_wp2_with fail
        go_ret
        exact ⟨by rw [HE3.out]; rfl, by rw [← HTT.out, if_neg (by rw [HE3.out]; decide)]; exact HT3.out, Kt.of_below HB2.out hBw⟩
      · have HE3 : Hid (E = 0) := Lib.hid (by rw [HE2.out]; rcases hdv with rfl | ⟨rfl, rfl⟩ <;> simp)
        obtain ⟨xv, hxv⟩ := slC_bool (T k) (1 + p) (by omega) (by omega)
        obtain ⟨xd, hxd⟩ := slC_bool ((T k).setV p v) (5 + p) (by omega) (by omega)
        have cV : w2.cell? ⟨b, 1 + k * 10 + 1 + p, none⟩ = some (.bool xv) := by rw [Nat.add_assoc (1 + k * 10) 1 p, ← hxv]; exact HT3.out.at_ hk8 (1 + p) (by omega)
        have fV := HT3.out.free (1 + k * 10 + 1 + p)
        have HT4 : Hid (TAt (w2.setCell ⟨b, 1 + k * 10 + 1 + p, none⟩ (.bool v)) b n (upd T k ((T k).setV p v))) := Lib.hid (by
          rw [Nat.add_assoc (1 + k * 10) 1 p]
          exact HT3.out.set1 hk8 (1 + p) (by omega) _ _ (slC_v (T k) p v hp4))
        have cD : (w2.setCell ⟨b, 1 + k * 10 + 1 + p, none⟩ (.bool v)).cell? ⟨b, 1 + k * 10 + 5 + p, none⟩ = some (.bool xd) := by
          have := HT4.out.at_ hk8 (5 + p) (by omega)
          rw [upd_same, hxd, ← Nat.add_assoc (1 + k * 10) 5 p] at this
          exact this
        have fD := HT4.out.free (1 + k * 10 + 5 + p)
        have HT5 : Hid (TAt ((w2.setCell ⟨b, 1 + k * 10 + 1 + p, none⟩ (.bool v)).setCell ⟨b, 1 + k * 10 + 5 + p, none⟩ (.bool d)) b n T2) := Lib.hid (by
          rw [← HTT.out, if_pos HE3.out, Nat.add_assoc (1 + k * 10) 5 p]
          have := HT4.out.set1 hk8 (5 + p) (by omega) (.bool d) (marS (T k) p v d) (fun i hi => by rw [upd_same]; exact slC_d _ p d hp4 i hi)
          rw [upd_upd] at this
          exact this)
        have HK := Lib.hid (((Kt.of_below HB2.out hBw : Kt B b w w2).set (1 + k * 10 + 1 + p) (.bool v) hB).set (1 + k * 10 + 5 + p) (.bool d) hB)
        clear hxv hxd HT4 HT3 HB2 HE2 HTT
        have HT5 := Lib.hid (show TAt ((w2.drew.setCell ⟨b, 1 + k * 10 + 1 + p, none⟩ (.bool v)).setCell ⟨b, 1 + k * 10 + 5 + p, none⟩ (.bool d)) b n T2 from HT5.out)
        have HK : Hid (Kt B b w ((w2.drew.setCell ⟨b, 1 + k * 10 + 1 + p, none⟩ (.bool v)).setCell ⟨b, 1 + k * 10 + 5 + p, none⟩ (.bool d))) := Lib.hid ⟨⟨HK.out.below.os, HK.out.below.tape, HK.out.below.output, HK.out.below.size, HK.out.below.block⟩, HK.out.other⟩
        replace cV : w2.drew.cell? ⟨b, 1 + k * 10 + 1 + p, none⟩ = some (.bool xv) := cV
        replace fV : w2.drew.frozen? ⟨b, 1 + k * 10 + 1 + p, none⟩ = false := fV
        replace cD : (w2.drew.setCell ⟨b, 1 + k * 10 + 1 + p, none⟩ (.bool v)).cell? ⟨b, 1 + k * 10 + 5 + p, none⟩ = some (.bool xd) := cD
        replace fD : (w2.drew.setCell ⟨b, 1 + k * 10 + 1 + p, none⟩ (.bool v)).frozen? ⟨b, 1 + k * 10 + 5 + p, none⟩ = false := fD
        rcases hdv with rfl | ⟨rfl, rfl⟩
        all_goals
          go_upto_region 6 with fail
          refine wp_region_lin (S := (fun _ => True)) [(0, true), (1, true), (2, true), (3, true), (4, true), (5, true), (6, true), (7, true), (8, true), (9, true), (10, true), (11, true), (12, true), (14, true), (15, true), (16, true), (17, true), (13, false), (18, true), (19, false)] (by kernel_rfl) (by kernel_rfl) rfl (by kernel_rfl) ?_ (fun hHeld => ?_)
          · (try dsimp only); try exact trivial
          generalize World.drew w2 = w3 at cV fV cD fD HT5 HK ⊢
          refine wpL_calm (o := { dst := some 29, op := Go.Op.move (Go.Operand.tmp 0), type := 23, pos := "slots.go:199", after := #[], guard := none }) (v := ?_) rfl (Or.inl ⟨by rfl, ?_⟩) ?_; rotate_left; (focus (intro w hSw; (try dsimp only at hSw); go_simp; (try (with_reducible rfl)); done)); try simp only [Act.put, List.setIfInBounds_toArray, List.set_cons_zero, List.set_cons_succ]
          refine wpL_calm (o := { dst := some 30, op := Go.Op.move (Go.Operand.tmp 1), type := 3, pos := "slots.go:199", after := #[], guard := none }) (v := ?_) rfl (Or.inl ⟨by rfl, ?_⟩) ?_; rotate_left; (focus (intro w hSw; (try dsimp only at hSw); go_simp; (try (with_reducible rfl)); done)); try simp only [Act.put, List.setIfInBounds_toArray, List.set_cons_zero, List.set_cons_succ]
          refine wpL_calm (o := { dst := some 31, op := Go.Op.move (Go.Operand.tmp 2), type := 3, pos := "slots.go:199", after := #[], guard := none }) (v := ?_) rfl (Or.inl ⟨by rfl, ?_⟩) ?_; rotate_left; (focus (intro w hSw; (try dsimp only at hSw); go_simp; (try (with_reducible rfl)); done)); try simp only [Act.put, List.setIfInBounds_toArray, List.set_cons_zero, List.set_cons_succ]
          refine wpL_calm (o := { dst := some 32, op := Go.Op.move (Go.Operand.tmp 0), type := 23, pos := "slots.go:199", after := #[{ on := 13, ground := Go.Ground.gcOnly Go.Departure.lateStores }], guard := none }) (v := ?_) rfl (Or.inl ⟨by rfl, ?_⟩) ?_; rotate_left; (focus (intro w hSw; (try dsimp only at hSw); go_simp; (try (with_reducible rfl)); done)); try simp only [Act.put, List.setIfInBounds_toArray, List.set_cons_zero, List.set_cons_succ]
          refine wpL_calm (o := { dst := some 33, op := Go.Op.move (Go.Operand.tmp 1), type := 3, pos := "slots.go:199", after := #[{ on := 13, ground := Go.Ground.gcOnly Go.Departure.lateStores }], guard := none }) (v := ?_) rfl (Or.inl ⟨by rfl, ?_⟩) ?_; rotate_left; (focus (intro w hSw; (try dsimp only at hSw); go_simp; (try (with_reducible rfl)); done)); try simp only [Act.put, List.setIfInBounds_toArray, List.set_cons_zero, List.set_cons_succ]
          refine wpL_calm (o := { dst := some 34, op := Go.Op.move (Go.Operand.tmp 2), type := 3, pos := "slots.go:199", after := #[{ on := 13, ground := Go.Ground.gcOnly Go.Departure.lateStores }], guard := none }) (v := ?_) rfl (Or.inl ⟨by rfl, ?_⟩) ?_; rotate_left; (focus (intro w hSw; (try dsimp only at hSw); go_simp; (try (with_reducible rfl)); done)); try simp only [Act.put, List.setIfInBounds_toArray, List.set_cons_zero, List.set_cons_succ]
          refine wpL_calm (o := { dst := some 35, op := Go.Op.move (Go.Operand.tmp 3), type := 4, pos := "slots.go:199", after := #[], guard := none }) (v := ?_) rfl (Or.inl ⟨by rfl, ?_⟩) ?_; rotate_left; (focus (intro w hSw; (try dsimp only at hSw); go_simp; (try (with_reducible rfl)); done)); try simp only [Act.put, List.setIfInBounds_toArray, List.set_cons_zero, List.set_cons_succ]
          refine wpL_calm (o := { dst := some 36, op := Go.Op.move (Go.Operand.tmp 4), type := 4, pos := "slots.go:199", after := #[{ on := 13, ground := Go.Ground.gcOnly Go.Departure.lateStores }], guard := none }) (v := ?_) rfl (Or.inl ⟨by rfl, ?_⟩) ?_; rotate_left; (focus (intro w hSw; (try dsimp only at hSw); go_simp; (try (with_reducible rfl)); done)); try simp only [Act.put, List.setIfInBounds_toArray, List.set_cons_zero, List.set_cons_succ]
          refine wpL_calm (o := { dst := some 37, op := Go.Op.nilCheck (Go.Operand.tmp 29), type := 0, pos := "slots.go:199", after := #[{ on := 0, ground := Go.Ground.data }], guard := none }) (v := ?_) rfl (Or.inl ⟨by rfl, ?_⟩) ?_; rotate_left; (focus (intro w hSw; (try dsimp only at hSw); go_simp; (try (with_reducible rfl)); done)); try simp only [Act.put, List.setIfInBounds_toArray, List.set_cons_zero, List.set_cons_succ]
          refine wpL_calm (o := { dst := some 38, op := Go.Op.fieldAddr 59 (Go.Operand.tmp 37) 1, type := 0, pos := "slots.go:199", after := #[{ on := 8, ground := Go.Ground.data }], guard := none }) (v := ?_) rfl (Or.inl ⟨by rfl, ?_⟩) ?_; rotate_left; (focus (intro w hSw; (try dsimp only at hSw); go_simp; (try (with_reducible rfl)); done)); try simp only [Act.put, List.setIfInBounds_toArray, List.set_cons_zero, List.set_cons_succ]
          refine wpL_calm (o := { dst := some 39, op := Go.Op.indexAddr 57 (Go.Operand.tmp 38) (Go.Operand.tmp 30), type := 0, pos := "slots.go:199", after := #[{ on := 9, ground := Go.Ground.data }, { on := 1, ground := Go.Ground.data }], guard := none }) (v := ?_) rfl (Or.inl ⟨by rfl, ?_⟩) ?_; rotate_left; (focus (intro w hSw; (try dsimp only at hSw); go_simp; (try (with_reducible rfl)); done)); try simp only [Act.put, List.setIfInBounds_toArray, List.set_cons_zero, List.set_cons_succ]
          refine wpL_calm (o := { dst := some 40, op := Go.Op.fieldAddr 44 (Go.Operand.tmp 39) 1, type := 0, pos := "slots.go:199", after := #[{ on := 10, ground := Go.Ground.data }], guard := none }) (v := ?_) rfl (Or.inl ⟨by rfl, ?_⟩) ?_; rotate_left; (focus (intro w hSw; (try dsimp only at hSw); go_simp; (try (with_reducible rfl)); done)); try simp only [Act.put, List.setIfInBounds_toArray, List.set_cons_zero, List.set_cons_succ]
          refine wpL_calm (o := { dst := some 41, op := Go.Op.indexAddr 42 (Go.Operand.tmp 40) (Go.Operand.tmp 31), type := 0, pos := "slots.go:199", after := #[{ on := 11, ground := Go.Ground.data }, { on := 2, ground := Go.Ground.data }, { on := 0, ground := Go.Ground.phase }, { on := 1, ground := Go.Ground.phase }, { on := 2, ground := Go.Ground.phase }, { on := 3, ground := Go.Ground.textOnly Go.Departure.lateStores }, { on := 4, ground := Go.Ground.textOnly Go.Departure.lateStores }, { on := 5, ground := Go.Ground.textOnly Go.Departure.lateStores }, { on := 6, ground := Go.Ground.phase }, { on := 7, ground := Go.Ground.textOnly Go.Departure.lateStores }], guard := none }) (v := ?_) rfl (Or.inl ⟨by rfl, ?_⟩) ?_; rotate_left; (focus (intro w hSw; (try dsimp only at hSw); go_simp; (try (with_reducible rfl)); done)); try simp only [Act.put, List.setIfInBounds_toArray, List.set_cons_zero, List.set_cons_succ]
          refine wpL_calm (o := { dst := some 42, op := Go.Op.nilCheck (Go.Operand.tmp 32), type := 0, pos := "slots.go:199", after := #[{ on := 3, ground := Go.Ground.data }], guard := none }) (v := ?_) rfl (Or.inl ⟨by rfl, ?_⟩) ?_; rotate_left; (focus (intro w hSw; (try dsimp only at hSw); go_simp; (try (with_reducible rfl)); done)); try simp only [Act.put, List.setIfInBounds_toArray, List.set_cons_zero, List.set_cons_succ]
          refine wpL_calm (o := { dst := some 43, op := Go.Op.fieldAddr 59 (Go.Operand.tmp 42) 1, type := 0, pos := "slots.go:199", after := #[{ on := 14, ground := Go.Ground.data }], guard := none }) (v := ?_) rfl (Or.inl ⟨by rfl, ?_⟩) ?_; rotate_left; (focus (intro w hSw; (try dsimp only at hSw); go_simp; (try (with_reducible rfl)); done)); try simp only [Act.put, List.setIfInBounds_toArray, List.set_cons_zero, List.set_cons_succ]
          refine wpL_calm (o := { dst := some 44, op := Go.Op.indexAddr 57 (Go.Operand.tmp 43) (Go.Operand.tmp 33), type := 0, pos := "slots.go:199", after := #[{ on := 15, ground := Go.Ground.data }, { on := 4, ground := Go.Ground.data }], guard := none }) (v := ?_) rfl (Or.inl ⟨by rfl, ?_⟩) ?_; rotate_left; (focus (intro w hSw; (try dsimp only at hSw); go_simp; (try (with_reducible rfl)); done)); try simp only [Act.put, List.setIfInBounds_toArray, List.set_cons_zero, List.set_cons_succ]
          refine wpL_calm (o := { dst := some 45, op := Go.Op.fieldAddr 44 (Go.Operand.tmp 44) 2, type := 0, pos := "slots.go:199", after := #[{ on := 16, ground := Go.Ground.data }], guard := none }) (v := ?_) rfl (Or.inl ⟨by rfl, ?_⟩) ?_; rotate_left; (focus (intro w hSw; (try dsimp only at hSw); go_simp; (try (with_reducible rfl)); done)); try simp only [Act.put, List.setIfInBounds_toArray, List.set_cons_zero, List.set_cons_succ]
          refine wpL_loud1 (o := { dst := none, op := Go.Op.store 4 (Go.Operand.tmp 41) (Go.Operand.tmp 35), type := 0, pos := "slots.go:199", after := #[{ on := 12, ground := Go.Ground.data }, { on := 6, ground := Go.Ground.data }, { on := 0, ground := Go.Ground.phase }, { on := 1, ground := Go.Ground.phase }, { on := 2, ground := Go.Ground.phase }, { on := 3, ground := Go.Ground.textOnly Go.Departure.lateStores }, { on := 4, ground := Go.Ground.textOnly Go.Departure.lateStores }, { on := 5, ground := Go.Ground.textOnly Go.Departure.lateStores }, { on := 6, ground := Go.Ground.phase }, { on := 7, ground := Go.Ground.textOnly Go.Departure.lateStores }], guard := none }) rfl (fun K hK => ?_)
          (go_simp)
          refine hK.out _ _ ?_ (fun hHeld => ?_)
          · (try dsimp only); try trivial
          clear hK K
          try simp only [Act.put, List.setIfInBounds_toArray, List.set_cons_zero, List.set_cons_succ]
          refine wpL_calm (o := { dst := some 46, op := Go.Op.indexAddr 42 (Go.Operand.tmp 45) (Go.Operand.tmp 34), type := 0, pos := "slots.go:199", after := #[{ on := 17, ground := Go.Ground.data }, { on := 5, ground := Go.Ground.data }, { on := 0, ground := Go.Ground.phase }, { on := 1, ground := Go.Ground.phase }, { on := 2, ground := Go.Ground.phase }, { on := 3, ground := Go.Ground.phase }, { on := 4, ground := Go.Ground.phase }, { on := 5, ground := Go.Ground.phase }, { on := 6, ground := Go.Ground.phase }, { on := 7, ground := Go.Ground.phase }, { on := 8, ground := Go.Ground.phase }, { on := 9, ground := Go.Ground.phase }, { on := 10, ground := Go.Ground.phase }, { on := 11, ground := Go.Ground.phase }, { on := 12, ground := Go.Ground.phase }, { on := 13, ground := Go.Ground.phase }], guard := none }) (v := ?_) rfl (Or.inl ⟨by rfl, ?_⟩) ?_; rotate_left; (focus (intro w hSw; (try dsimp only at hSw); go_simp; (try (with_reducible rfl)); done)); try simp only [Act.put, List.setIfInBounds_toArray, List.set_cons_zero, List.set_cons_succ]
          refine wpL_loud0 (o := { dst := none, op := Go.Op.store 4 (Go.Operand.tmp 46) (Go.Operand.tmp 36), type := 0, pos := "slots.go:199", after := #[{ on := 18, ground := Go.Ground.data }, { on := 7, ground := Go.Ground.data }, { on := 13, ground := Go.Ground.chain }, { on := 0, ground := Go.Ground.phase }, { on := 1, ground := Go.Ground.phase }, { on := 2, ground := Go.Ground.phase }, { on := 3, ground := Go.Ground.phase }, { on := 4, ground := Go.Ground.phase }, { on := 5, ground := Go.Ground.phase }, { on := 6, ground := Go.Ground.phase }, { on := 7, ground := Go.Ground.phase }, { on := 8, ground := Go.Ground.phase }, { on := 9, ground := Go.Ground.phase }, { on := 10, ground := Go.Ground.phase }, { on := 11, ground := Go.Ground.phase }, { on := 12, ground := Go.Ground.phase }, { on := 13, ground := Go.Ground.phase }], guard := none }) rfl (by kernel_rfl) (fun K hK => ?_)
          (go_simp)
          refine hK.out _ _ ?_
          clear hK K
          try simp only [Act.put, List.setIfInBounds_toArray, List.set_cons_zero, List.set_cons_succ]
          refine wpL_nil ?_
          refine NoPanic.normal ?_
          go_wp2_with fail
          go_ret
          exact ⟨by rw [HE3.out]; rfl, HT5.out, HK.out⟩
    · have h0' : (r != 0) = true := by simpa using h0
      have he := HE.out
      rw [if_neg h0] at he
      subst he
      have HN := Lib.hid h0
      clear h0 HE HZ
      go_wp2_with fail
      go_ret
      exact ⟨rfl, by rw [← hT2.out, if_neg HN.out]; exact HT3.out, Kt.of_below HB2.out hBw⟩
  all_goals
    have h3 : r ≠ 0 := fun h0 => by
      obtain ⟨_, _, _, h, _⟩ := HZ.out h0
      have hh := HOE.out
      rw [h] at hh
      first | exact absurd (hh.trans a3) (by simp) | exact absurd (hh.trans a2) (by simp)
    have h0' : (r != 0) = true := by simpa using h3
    have he := HE.out
    rw [if_neg h3] at he
    subst he
    have HN := Lib.hid h3
    clear h3 key HE HZ
    first | subst a3 | subst a2
    go_wp2_with fail
    refine CR.out.mono ?_
    rintro e w2 ⟨rfl, b2⟩
    have HB2 := Lib.hid b2
    clear b2 CR
    go_wp2_with fail
    go_ret
    exact ⟨rfl, by rw [← hT2.out, if_neg HN.out]; exact HT.out.below HB2.out, Kt.of_below HB2.out hBw⟩
theorem tab_info : (Try.prog.info? 59).map (·.size) = some 81 := by kernel_rfl
set_option maxRecDepth 100000 in
set_option maxHeartbeats 4000000 in
theorem copyT_any (g n : Nat) (T : Nat → Sl) (w : World) (h : TAt w g n T) : Calls Try.prog 16 #[.pointer (some ⟨g, 0, none⟩)] w fun e w' => ∃ g', e = .returned (.pointer (some ⟨g', 0, none⟩)) ∧ w.heap.size ≤ g' ∧ TAt w' g' n T ∧ Below w.heap.size w w' := by
  obtain ⟨c, hb, hn, hc⟩ := h
  have HC := Lib.hid hc
  have HBL := Lib.hid hb
  have HN := Lib.hid hn
  have hz := zero_tab
  have H1 : Hid (c.all (·.oneCell') = true) := Lib.hid (by
    refine Array.all_eq_true_iff_forall_mem.2 fun v hv => ?_
    obtain ⟨i, hi, rfl⟩ := Array.mem_iff_getElem.1 hv
    have := hc i (by omega)
    rw [Array.getElem?_eq_getElem hi] at this
    injection this with this
    rw [this]
    unfold taC
    by_cases e0 : i = 0
    · rw [if_pos e0]; rfl
    · rw [if_neg e0]
      have hj : (i - 1) % 10 < 10 := Nat.mod_lt _ (by omega)
      rcases (show (i - 1) % 10 = 0 ∨ (i - 1) % 10 = 9 ∨ (1 ≤ (i - 1) % 10 ∧ (i - 1) % 10 < 9) by omega) with e | e | ⟨e1, e2⟩
      · rw [e]; rfl
      · rw [e]; rfl
      · obtain ⟨v, hv⟩ := slC_bool (T ((i - 1) / 10)) _ e1 e2
        rw [hv]; rfl)
  clear hb hn hc
  go_enter Try.func16, Try.ntmps16
  go_wp2_with (first | refine wpList_load_row rfl _ _ rfl g rfl 59 c (0, 0) _ HBL.out Try.underlying59 rfl (by rw [HN.out]; exact tab_info) ?_ | refine wpList_store_row rfl _ _ _ rfl w.heap.size c rfl rfl 59 _ (heap_alloc_new _ _) (by rw [HN.out]; exact tab_info) (by rw [HN.out]; rfl) H1.out ?_)
  go_ret
  exact ⟨_, rfl, Nat.le_refl _, ⟨c, setRow_heap _ _ _ c _ (0, 0) (heap_alloc_new w _), HN.out, HC.out⟩, below_setRow ((Below.refl _ _).alloc (Nat.le_refl _) _) (Nat.le_refl _) _⟩
end Go.Proofs.Ythhgodfgigcacaa
