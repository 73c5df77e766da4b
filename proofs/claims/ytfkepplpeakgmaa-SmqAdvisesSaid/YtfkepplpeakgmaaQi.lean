/- Package smq: awake; both policies as they begin. -/
import Derived.Test.YtfkepplpeakgmaaQg
namespace Go.Proofs.Ytfkepplpeakgmaa
open Go.RowKit Go.Deep
set_option linter.unusedVariables false
set_option linter.unusedSimpArgs false
theorem aw_heat : lvV (rowT 2) 16 3 = .tuple #[.int .i64 2, .bool true] := by
  unfold lvV
  rw [if_pos (by decide)]
  rfl
theorem zero_kc : ∀ w, (zeroValue 33).run Try.prog w = .ok (.agg #[.bool false, .bool false, .bool false, .bool false, .bool false, .bool false, .bool false, .bool false, .bool false, .bool false, .bool false, .bool false, .bool false, .bool false, .bool false, .bool false]) w := fun w => by kernel_rfl
theorem aw_pick (wx : World) (ao : Option Addr) (c : Nat) (h : IntsAt wx ao 16 (weiL (rowT 2) (fun _ => false))) : Calls Try.prog 28 #[.int .i64 5, .slice ao 16 c] wx fun x w' => x = .returned (.tuple #[.int .i64 3, .int .i64 1, .int .i64 0]) ∧ Below wx.heap.size wx w' := by
  have := pick_ok 5 4 1 1 3 ao 16 c (weiL (rowT 2) (fun _ => false)) wx (by omega) (by omega) h (Lib.hid (wei_fits _ _)) (Lib.hid (by rw [aw_w]; decide)) (by omega) (by omega) (Lib.hid (by decide)) (Lib.hid (by decide)) (by omega) (Lib.hid (by rw [aw_w]; decide))
  exact this
set_option maxRecDepth 100000 in
set_option maxHeartbeats 8000000 in
theorem awake25 (w : World) : Calls Try.prog 8 #[] w fun x w' => x = .returned (.bool true) ∧ Below w.heap.size w w' := by
  have CN := Lib.hid (newP_any w)
  have hz := zero_kc
  go_enter Try.func8, Try.ntmps8
  go_wp2_with fail
  refine CN.out.mono ?_
  rintro x w1 ⟨p, h, e, rfl, q1, b1⟩
  have HQ1 : Hid (PoAt w1 w.heap.size p h e (hR 0) (fun _ => []) (hC 0) zU 0) := Lib.hid q1
  have HB1 := Lib.hid b1
  clear q1 b1 CN
  go_wp2_with fail
  go_loopw [2] (fun s2 wi => ∃ i : Nat, s2 = .int .i64 (i : Int) ∧ i ≤ 4 ∧ Hid (PoAt wi w.heap.size p h e (hR i) (fun _ => []) (hC i) zU 0) ∧ Hid (Below w.heap.size w wi)) (fun s2 _ => 4 - (intOf s2).toNat)
  case atStart => exact ⟨0, rfl, by omega, HQ1, HB1⟩
  case round =>
    obtain ⟨i, rfl, hi, HQ, HB⟩ := hrel
    clear HQ1 HB1
    by_cases hlt : i < 4
    · have hli : (i : Int) < 4 := by omega
      have CH := hit_any 3 HQ.out (by omega)
      rw [show ((3 : Nat) : Int) = 3 from rfl] at CH
      have CH := Lib.hid CH
      as_aux_lemma =>
      go_wp2_with fail
      refine CH.out.mono ?_
      rintro x w2 ⟨rfl, q2, k2⟩
      have HQ2 : Hid (PoAt w2 w.heap.size p h e (hR (i + 1)) (fun _ => []) (hC (i + 1)) zU 0) := Lib.hid q2
      have HB2 := Lib.hid (HB.out.trans k2.below)
      clear q2 k2 CH HQ HB
      go_wp2_with fail
      go_roundw
      case rel => exact ⟨i + 1, by go_num, by omega, HQ2, HB2⟩
      case measure => simp [intOf]; omega
    · obtain rfl : i = 4 := by omega
      rw [show ((4 : Nat) : Int) = 4 from rfl]
      have HQ3 : Hid (PoAt wr w.heap.size p h e (itT aw0 0).R (itT aw0 0).S (itT aw0 0).C (itT aw0 0).U (itT aw0 0).k) := Lib.hid HQ.out
      clear HQ
      as_aux_lemma =>
      go_wp2_with fail
      go_loopw [3] (fun s3 wi => ∃ j : Nat, s3 = .int .i64 (j : Int) ∧ j ≤ 8 ∧ Hid (PoAt wi w.heap.size p h e (itT aw0 j).R (itT aw0 j).S (itT aw0 j).C (itT aw0 j).U (itT aw0 j).k) ∧ Hid (Below w.heap.size w wi)) (fun s3 _ => 8 - (intOf s3).toNat)
      case atStart => exact ⟨0, rfl, by omega, HQ3, HB⟩
      case round =>
        clear HB HQ3
        obtain ⟨j, rfl, hj, HQ, HB⟩ := hrel
        by_cases hlt2 : j < 8
        · have hli2 : (j : Int) < 8 := by omega
          have CT := Lib.hid (tick_any HQ.out (by rw [itT_k]; show 0 + j < _; omega))
          as_aux_lemma =>
          go_wp2_with fail
          refine CT.out.mono ?_
          rintro x w2 ⟨rfl, q2, k2⟩
          have HQ2 : Hid (PoAt w2 w.heap.size p h e (itT aw0 (j + 1)).R (itT aw0 (j + 1)).S (itT aw0 (j + 1)).C (itT aw0 (j + 1)).U (itT aw0 (j + 1)).k) := Lib.hid q2
          have HB2 := Lib.hid (HB.out.trans k2.below)
          clear q2 k2 CT HQ HB
          go_wp2_with fail
          go_roundw
          case rel => exact ⟨j + 1, by go_num, by omega, HQ2, HB2⟩
          case measure => simp [intOf]; omega
        · obtain rfl : j = 8 := by omega
          rw [show ((8 : Nat) : Int) = 8 from rfl]
          have q := HQ.out
          rw [aw_R, aw_k] at q
          have HQ2 := Lib.hid q
          have CH := heat_any 3 q
          rw [aw_heat] at CH
          have CH := Lib.hid CH
          have CP := promote_any (fun _ => false) 5 3 1 0 true (Lib.hid rfl) q (Lib.hid aw_pick)
          have CP := Lib.hid CP
          clear q HQ
          as_aux_lemma =>
          go_wp2_with fail
          refine CH.out.mono ?_
          rintro x w2 ⟨rfl, rfl⟩
          go_wp2_with fail
          refine CP.out.mono ?_
          rintro x w3 ⟨rfl, b3⟩
          have HB3 := Lib.hid (HB.out.trans (b3.mono HB.out.size))
          have CC := Lib.hid (clock_any (HQ2.out.below b3))
          rw [show ((8 : Nat) : Int) = 8 from rfl] at CC
          clear b3 CP CH HQ2
          go_wp2_with fail
          refine CC.out.mono ?_
          rintro x w4 ⟨rfl, rfl⟩
          go_wp2_with fail
          go_ret
          exact ⟨rfl, HB3.out⟩
theorem XqAt.base {w : World} {B C h : Nat} {X : Nat → List Nat} (hX : XqAt w B h X) (hc : C ≤ B) : XqAt w C h X := by
  obtain ⟨hB, s, hs, ho⟩ := hX
  exact ⟨Nat.le_trans hc hB, s, hs, fun l hl => own_base (ho l hl) hc⟩
theorem PxAt.base {w : World} {B D p h e k : Nat} {R S : Nat → List Nat} {C : Nat → Int} {U : Nat → Bool} (q : PxAt w B p h e R S C U k) (hc : D ≤ B) : PxAt w D p h e R S C U k :=
  { q with hot := q.hot.base hc, held := q.held.base hc, bp := Nat.le_trans hc q.bp }
def s0 : St := { R := fun _ => [], S := fun _ => [], C := zC, U := zU, k := 0 }
theorem sb_start {w0 w1 w2 : World} {p h e P H E : Nat} (q : PoAt w1 w0.heap.size p h e (fun _ => []) (fun _ => []) zC zU 0) (x : PxAt w2 w1.heap.size P H E (fun _ => []) (fun _ => []) zC zU 0) (b1 : Below w0.heap.size w0 w1) (b2 : Below w1.heap.size w1 w2) : Sb w0.heap.size w2 p h e P H E s0 s0 :=
  ⟨q.below b2, x.base b1.size, fun y hy hz => by
    have h1 := q.lt
    have h2 := q.hot.lt
    have h3 := q.held.lt
    have h4 := x.bp
    have h5 := x.hot.1
    have h6 := x.held.1
    simp at hy hz
    omega, RowsOk.nil _, RowsOk.nil _⟩
end Go.Proofs.Ytfkepplpeakgmaa

/- Package smq: SmqDoes, SmqCools. -/
namespace Go.Proofs.Ytfkepplpeakgmaa
open Go.RowKit Go.Deep
set_option linter.unusedVariables false
set_option linter.unusedSimpArgs false
set_option maxRecDepth 100000 in
set_option maxHeartbeats 8000000 in
theorem smqDoes_any (ao : Option Addr) (len cap : Nat) (w : World) (hl : len ≤ 9223372036854775807) (hA : ActQ w ao len) : Calls Try.prog 3 #[.slice ao len cap] w fun e w' => e = .returned (.bool true) ∧ Below w.heap.size w w' := by
  have CN := Lib.hid (newP_any w)
  have HA := Lib.hid hA
  clear hA
  go_enter Try.func3, Try.ntmps3
  go_wp2_with fail
  refine CN.out.mono ?_
  rintro x w1 ⟨p, h, e, rfl, q1, b1⟩
  have HQ1 := Lib.hid q1
  have HB1 := Lib.hid b1
  clear q1 b1 CN
  have CX := Lib.hid (newX_any w1)
  go_wp2_with fail
  refine CX.out.mono ?_
  rintro x w2 ⟨P, H, E, rfl, q2, b2⟩
  have HS2 := Lib.hid (sb_start HQ1.out q2 HB1.out b2)
  have HB2 := Lib.hid (HB1.out.trans (b2.mono HB1.out.size))
  clear q2 b2 CX HQ1 HB1
  have CA := Lib.hid (awake25 w2)
  go_wp2_with fail
  refine CA.out.mono ?_
  rintro x w3 ⟨rfl, b3⟩
  have HS3 := Lib.hid (HS2.out.below b3)
  have HB3 := Lib.hid (HB2.out.trans (b3.mono HB2.out.size))
  clear b3 CA HS2 HB2
  go_wp2_with fail
  go_loopw [5] (fun s5 wi => ∃ (k : Nat) (s : St), s5 = .int .i64 (k : Int) ∧ k ≤ len ∧ k ≤ 120 ∧ Hid (s.k ≤ k) ∧ Hid (Sb w.heap.size wi p h e P H E s s) ∧ Hid (Below w.heap.size w wi)) (fun s5 _ => len - (intOf s5).toNat)
  case atStart => exact ⟨0, s0, rfl, by omega, by omega, Lib.hid (Nat.le_refl _), HS3, HB3⟩
  case round =>
    obtain ⟨k, s, rfl, hk, hk2, HKS, HS, HB⟩ := hrel
    clear HS3 HB3
    by_cases hlt : k < len
    · by_cases h60 : k < 120
      · have hlt' : (k : Int) < (len : Int) := by omega
        have h60' : (k : Int) < 120 := by omega
        obtain ⟨b, off, rfl, hb, hcs⟩ := HA.out (by omega)
        obtain ⟨x, t, m1, m2, c0, c1⟩ := hcs k hlt
        have d0 := (HB.out.cell (p := ⟨b, off + k * 2, none⟩) hb).trans c0
        have d1 := (HB.out.cell (p := ⟨b, off + k * 2 + 1, none⟩) hb).trans c1
        have CD := Lib.hid (do_any x t (by have := HKS.out; omega) HS.out)
        clear hcs c0 c1
        as_aux_lemma =>
        go_wp2_with fail
        refine CD.out.mono ?_
        intro y w5 hd
        obtain ⟨rfl, HD⟩ := hd.post
        obtain ⟨s', hk', b5, k5⟩ := HD.out
        have HS5 := Lib.hid b5
        have HB5 := Lib.hid (HB.out.trans k5.below)
        have HKS5 : Hid (s'.k ≤ k + 1) := Lib.hid (by have := HKS.out; omega)
        clear b5 k5 hk' HD hd CD HS HB HKS d0 d1
        have CS := Lib.hid (same_any HS5.out)
        go_wp2_with fail
        refine CS.out.mono ?_
        rintro y w6 ⟨rfl, b6⟩
        have HS6 := Lib.hid (HS5.out.below b6)
        have HB6 := Lib.hid (HB5.out.trans (b6.mono HB5.out.size))
        clear b6 CS HS5 HB5
        go_wp2_with fail
        go_roundw
        case rel => exact ⟨k + 1, s', by go_num, by omega, by omega, HKS5, HS6, HB6⟩
        case measure => simp [intOf]; omega
      · have hlt' : (k : Int) < (len : Int) := by omega
        have h60' : ¬ (k : Int) < 120 := by omega
        go_wp2_with fail
        go_ret
        exact ⟨rfl, HB.out⟩
    · have hlt' : ¬ (k : Int) < (len : Int) := by omega
      go_wp2_with fail
      go_ret
      exact ⟨rfl, HB.out⟩
theorem no_wei {R : Nat → List Nat} (h : ∀ g, lvl R g = -1) (K : Nat → Bool) : wsum (weiL R K) 16 = 0 := by
  have : weiL R K = List.replicate 16 0 := by
    unfold weiL
    have e : (weiK R K) = fun _ => 0 := by
      funext g
      unfold weiK
      rw [if_pos (Or.inl (h g))]
    rw [e]
    rfl
  rw [this]
  decide
theorem pick_none {R : Nat → List Nat} {K : Nat → Bool} (hs : wsum (weiL R K) 16 = 0) (draw : Int) (hd : 0 ≤ draw) (wx : World) (ao : Option Addr) (c : Nat) (h : IntsAt wx ao 16 (weiL R K)) : Calls Try.prog 28 #[.int .i64 draw, .slice ao 16 c] wx fun x w' => x = .returned (.tuple #[.int .i64 0, .int .i64 0, .int .i64 7]) ∧ Below wx.heap.size wx w' :=
  (pick_err draw ao 16 c (weiL R K) wx hd (by omega) h 7 rfl (Lib.hid (fun r hr => by rw [hr.2 (wei_fits R K), if_pos hs]))).mono fun x w' hx => ⟨hx.1, hx.2 ▸ Below.refl _ _⟩
set_option maxRecDepth 100000 in
set_option maxHeartbeats 8000000 in
theorem smqCools_any (ao : Option Addr) (len cap : Nat) (w : World) (hl : len ≤ 9223372036854775807) (hA : ActQ w ao len) : Calls Try.prog 5 #[.slice ao len cap] w fun e w' => e = .returned (.bool true) ∧ Below w.heap.size w w' := by
  have CN := Lib.hid (newP_any w)
  have HA := Lib.hid hA
  have hz := zero_kc
  clear hA
  go_enter Try.func5, Try.ntmps5
  go_wp2_with fail
  refine CN.out.mono ?_
  rintro x w1 ⟨p, h, e, rfl, q1, b1⟩
  have HQ1 := Lib.hid q1
  have HB1 := Lib.hid b1
  clear q1 b1 CN
  have CX := Lib.hid (newX_any w1)
  go_wp2_with fail
  refine CX.out.mono ?_
  rintro x w2 ⟨P, H, E, rfl, q2, b2⟩
  have HS2 := Lib.hid (sb_start HQ1.out q2 HB1.out b2)
  have HB2 := Lib.hid (HB1.out.trans (b2.mono HB1.out.size))
  clear q2 b2 CX HQ1 HB1
  have CA := Lib.hid (awake25 w2)
  go_wp2_with fail
  refine CA.out.mono ?_
  rintro x w3 ⟨rfl, b3⟩
  have HS3 := Lib.hid (HS2.out.below b3)
  have HB3 := Lib.hid (HB2.out.trans (b3.mono HB2.out.size))
  clear b3 CA HS2 HB2
  go_wp2_with fail
  go_loopw [5] (fun s5 wi => ∃ (k : Nat) (s : St), s5 = .int .i64 (k : Int) ∧ k ≤ len ∧ k ≤ 100 ∧ Hid (s.k ≤ k) ∧ Hid (Sb w.heap.size wi p h e P H E s s) ∧ Hid (Below w.heap.size w wi)) (fun s5 _ => len - (intOf s5).toNat)
  case atStart => exact ⟨0, s0, rfl, by omega, by omega, Lib.hid (Nat.le_refl _), HS3, HB3⟩
  case round =>
    obtain ⟨k, s, rfl, hk, hk2, HKS, HS, HB⟩ := hrel
    clear HS3 HB3
    by_cases hc : k < len ∧ k < 100
    · have hlt := hc.1
      have hlt' : (k : Int) < (len : Int) := by omega
      have h60' : (k : Int) < 100 := by omega
      obtain ⟨b, off, rfl, hb, hcs⟩ := HA.out (by omega)
      obtain ⟨x, t, m1, m2, c0, c1⟩ := hcs k hlt
      have d0 := (HB.out.cell (p := ⟨b, off + k * 2, none⟩) hb).trans c0
      have d1 := (HB.out.cell (p := ⟨b, off + k * 2 + 1, none⟩) hb).trans c1
      have CD := Lib.hid (do_any x t (by have := HKS.out; omega) HS.out)
      clear hcs c0 c1 hc
      as_aux_lemma =>
      go_wp2_with fail
      refine CD.out.mono ?_
      intro y w5 hd
      obtain ⟨rfl, HD⟩ := hd.post
      obtain ⟨s', hk', b5, k5⟩ := HD.out
      have HS5 := Lib.hid b5
      have HB5 := Lib.hid (HB.out.trans k5.below)
      have HKS5 : Hid (s'.k ≤ k + 1) := Lib.hid (by have := HKS.out; omega)
      clear b5 k5 hk' HD hd CD HS HB HKS d0 d1
      go_wp2_with fail
      go_roundw
      case rel => exact ⟨k + 1, s', by go_num, by omega, by omega, HKS5, HS5, HB5⟩
      case measure => simp [intOf]; omega
    · have HQ0 : Hid (PoAt wr w.heap.size p h e (itT s 0).R (itT s 0).S (itT s 0).C (itT s 0).U (itT s 0).k) := Lib.hid HS.out.po
      have HCO : Hid (∀ g, lvl (itT s 48).R g = -1) := Lib.hid (cool48 HS.out.okR)
      have HKS2 : Hid (s.k ≤ 100) := Lib.hid (by have := HKS.out; omega)
      have hc2 : (((k : Int) < (len : Int)) ∧ ¬ (k : Int) < 100) ∨ ¬ (k : Int) < (len : Int) := by omega
      clear hc HS HKS
      rcases hc2 with ⟨a1, a2⟩ | a1
      all_goals
        as_aux_lemma =>
        go_wp2_with fail
        go_loopw [6] (fun s6 wi => ∃ n : Nat, s6 = .int .i64 (n : Int) ∧ n ≤ 48 ∧ Hid (PoAt wi w.heap.size p h e (itT s n).R (itT s n).S (itT s n).C (itT s n).U (itT s n).k) ∧ Hid (Below w.heap.size w wi)) (fun s6 _ => 48 - (intOf s6).toNat)
        case atStart => exact ⟨0, rfl, by omega, HQ0, HB⟩
        case round =>
          clear HB HQ0 a1
          obtain ⟨n, rfl, hn, HQ, HB⟩ := hrel
          by_cases hlt2 : n < 48
          · have hli2 : (n : Int) < 48 := by omega
            have CT := Lib.hid (tick_any HQ.out (by rw [itT_k]; have := HKS2.out; omega))
            as_aux_lemma =>
            go_wp2_with fail
            refine CT.out.mono ?_
            rintro x w2 ⟨rfl, q2, k2⟩
            have HQ2 : Hid (PoAt w2 w.heap.size p h e (itT s (n + 1)).R (itT s (n + 1)).S (itT s (n + 1)).C (itT s (n + 1)).U (itT s (n + 1)).k) := Lib.hid q2
            have HB2 := Lib.hid (HB.out.trans k2.below)
            clear q2 k2 CT HQ HB
            go_wp2_with fail
            go_roundw
            case rel => exact ⟨n + 1, by go_num, by omega, HQ2, HB2⟩
            case measure => simp [intOf]; omega
          · obtain rfl : n = 48 := by omega
            rw [show ((48 : Nat) : Int) = 48 from rfl]
            have HH : Hid (∀ g : Nat, Calls Try.prog 18 #[.pointer (some ⟨p, 0, none⟩), .int .i64 (g : Int)] wr fun x w' => x = .returned (.tuple #[.int .i64 0, .bool false]) ∧ wr = w') := Lib.hid (fun g => by
              have h1 := heat_any (g : Int) HQ.out
              rw [show lvV (itT s 48).R 16 (g : Int) = .tuple #[.int .i64 0, .bool false] by
                unfold lvV misA
                rw [Int.toNat_natCast, if_pos (HCO.out g)]
                split <;> rfl] at h1
              exact h1)
            have CP := promote_any (fun _ => false) 7 0 0 7 false (Lib.hid rfl) HQ.out (Lib.hid (fun wx ao c hi => pick_none (no_wei HCO.out _) 7 (by omega) wx ao c hi))
            have CP := Lib.hid CP
            clear HQ
            as_aux_lemma =>
            go_wp2_with fail
            go_loopw [7, 8, 9] (fun s7 _ _ wi => ∃ g : Nat, s7 = .int .i64 (g : Int) ∧ g ≤ 16 ∧ wr = wi) (fun s7 _ _ _ => 16 - (intOf s7).toNat)
            case atStart => exact ⟨0, rfl, by omega, rfl⟩
            case round =>
              obtain ⟨g, rfl, hg, rfl⟩ := hrel
              by_cases hlt3 : g < 16
              · have hli3 : (g : Int) < 16 := by omega
                have CH := Lib.hid (HH.out g)
                as_aux_lemma =>
                go_wp2_with fail
                refine CH.out.mono ?_
                rintro x w2 ⟨rfl, rfl⟩
                go_wp2_with fail
                go_roundw
                case rel => exact ⟨g + 1, by go_num, by omega, by first | rfl | trivial⟩
                case measure => simp [intOf]; omega
              · obtain rfl : g = 16 := by omega
                rw [show ((16 : Nat) : Int) = 16 from rfl]
                as_aux_lemma =>
                go_wp2_with fail
                refine CP.out.mono ?_
                rintro x w3 ⟨rfl, b3⟩
                have HB3 := Lib.hid (HB.out.trans (b3.mono HB.out.size))
                clear b3 CP
                go_wp2_with fail
                go_ret
                exact ⟨rfl, HB3.out⟩
section
variable {H : Type} {enc : TypeId × Value → H}
theorem smqDoes_walk (v : Value) (d : DataW H) (p : List MemPlace) (w : World) (hv : ∃ a len cap, v = .slice a len cap) (h : DataW.Trod enc Try.prog w 0 (fun _ => true) true 22 v d p) :
    Calls Try.prog 3 #[v] w fun e w' => e = .returned (.bool true) ∧ Below w.heap.size w w' := by
  obtain ⟨ao, len, cap, rfl, hl, hA⟩ := open_acts25 hv h
  exact smqDoes_any ao len cap w (by unfold maxLen at hl; exact hl) hA
theorem smqCools_walk (v : Value) (d : DataW H) (p : List MemPlace) (w : World) (hv : ∃ a len cap, v = .slice a len cap) (h : DataW.Trod enc Try.prog w 0 (fun _ => true) true 22 v d p) :
    Calls Try.prog 5 #[v] w fun e w' => e = .returned (.bool true) ∧ Below w.heap.size w w' := by
  obtain ⟨ao, len, cap, rfl, hl, hA⟩ := open_acts25 hv h
  exact smqCools_any ao len cap w (by unfold maxLen at hl; exact hl) hA
end
end Go.Proofs.Ytfkepplpeakgmaa
