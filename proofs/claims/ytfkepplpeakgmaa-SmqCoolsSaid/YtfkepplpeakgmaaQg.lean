/- Package smq: weigher, Promote. -/
import Derived.Test.YtfkepplpeakgmaaQf
namespace Go.Proofs.Ytfkepplpeakgmaa
open Go.RowKit Go.Deep
set_option linter.unusedVariables false
set_option linter.unusedSimpArgs false
theorem run_store_fn {P : Program} {w : World} {a : Addr} {m : Mode} (f : Fn) (fs cs : Array Value) : (store a (.func f fs cs) m).run P w = stored P w a (.func f fs cs) m := run_store P w a _ m rfl
attribute [local go_sem] run_store_fn
/-- What a group weighs. -/
def weiK (R : Nat → List Nat) (K : Nat → Bool) (g : Nat) : Int := if lvl R g = -1 ∨ K g = true then 0 else lvl R g * lvl R g
def weiL (R : Nat → List Nat) (K : Nat → Bool) : List Int := (List.range 16).map (weiK R K)
theorem lvl_le (R : Nat → List Nat) (g : Nat) : -1 ≤ lvl R g ∧ lvl R g ≤ 3 := by
  rcases lvl_cases R g with ⟨h, _⟩ | ⟨l, hl, h, _⟩ <;> omega
theorem wei_bound (R : Nat → List Nat) (K : Nat → Bool) (g : Nat) : 0 ≤ weiK R K g ∧ weiK R K g ≤ 9 := by
  have := lvl_le R g
  unfold weiK
  split
  · omega
  · rename_i h
    generalize lvl R g = x at *
    rcases (show x = -1 ∨ x = 0 ∨ x = 1 ∨ x = 2 ∨ x = 3 by omega) with rfl | rfl | rfl | rfl | rfl <;> simp at h ⊢
theorem weiL_len (R : Nat → List Nat) (K : Nat → Bool) : (weiL R K).length = 16 := by unfold weiL; simp
theorem weiL_get (R : Nat → List Nat) (K : Nat → Bool) {g : Nat} (hg : g < 16) : (weiL R K).getD g 0 = weiK R K g := by
  unfold weiL
  rw [List.getD_eq_getElem?_getD, List.getElem?_map, List.getElem?_range hg]; rfl
theorem wei_fits (R : Nat → List Nat) (K : Nat → Bool) : ∀ j, j < 16 → fits ((weiL R K).getD j 0) := fun j hj => by
  rw [weiL_get R K hj]
  have := wei_bound R K j
  unfold fits
  omega
theorem kap_list (K : Nat → Bool) : (#[.bool (K 0), .bool (K 1), .bool (K 2), .bool (K 3), .bool (K 4), .bool (K 5), .bool (K 6), .bool (K 7), .bool (K 8), .bool (K 9), .bool (K 10), .bool (K 11), .bool (K 12), .bool (K 13), .bool (K 14), .bool (K 15)] : Array Value).toList = (List.range 16).map (fun j => .bool (K j)) := by
  rfl
theorem kap_row (w : World) (K : Nat → Bool) : (w.alloc (.cells #[.bool (K 0), .bool (K 1), .bool (K 2), .bool (K 3), .bool (K 4), .bool (K 5), .bool (K 6), .bool (K 7), .bool (K 8), .bool (K 9), .bool (K 10), .bool (K 11), .bool (K 12), .bool (K 13), .bool (K 14), .bool (K 15)] 33)).rowIs w.heap.size 33 16 (fun j => .bool (K j)) := by
  have hs : (#[.bool (K 0), .bool (K 1), .bool (K 2), .bool (K 3), .bool (K 4), .bool (K 5), .bool (K 6), .bool (K 7), .bool (K 8), .bool (K 9), .bool (K 10), .bool (K 11), .bool (K 12), .bool (K 13), .bool (K 14), .bool (K 15)] : Array Value).size = 16 := rfl
  have := World.rowIs_alloc w #[.bool (K 0), .bool (K 1), .bool (K 2), .bool (K 3), .bool (K 4), .bool (K 5), .bool (K 6), .bool (K 7), .bool (K 8), .bool (K 9), .bool (K 10), .bool (K 11), .bool (K 12), .bool (K 13), .bool (K 14), .bool (K 15)] 33 (fun j => .bool (K j)) (fun i hi => by
    rw [hs] at hi
    rw [← Array.getElem?_toList, kap_list, List.getElem?_map, List.getElem?_range hi]
    rfl)
  rw [hs] at this
  exact this
section
variable {w : World} {B p ho e k : Nat} {R S : Nat → List Nat} {C : Nat → Int} {U : Nat → Bool}
set_option maxRecDepth 100000 in
set_option maxHeartbeats 2000000 in
theorem weigher_any (K : Nat → Bool) (q : PoAt w B p ho e R S C U k) : Calls Try.prog 27 #[.pointer (some ⟨p, 0, none⟩), .agg #[.bool (K 0), .bool (K 1), .bool (K 2), .bool (K 3), .bool (K 4), .bool (K 5), .bool (K 6), .bool (K 7), .bool (K 8), .bool (K 9), .bool (K 10), .bool (K 11), .bool (K 12), .bool (K 13), .bool (K 14), .bool (K 15)]] w fun x w' => x = .returned (.func (.func 43) #[] #[.pointer (some ⟨w.heap.size + 1, 0, none⟩), .pointer (some ⟨w.heap.size, 0, none⟩)]) ∧ w'.cell? ⟨w.heap.size + 1, 0, none⟩ = some (.func (.func 31) #[.pointer (some ⟨ho, 0, none⟩)] #[]) ∧ w'.rowIs w.heap.size 33 16 (fun j => .bool (K j)) ∧ Below w.heap.size w w' ∧ w.heap.size + 1 < w'.heap.size := by
  obtain ⟨w1, hw1⟩ : ∃ w1, w.alloc (.cells #[.bool (K 0), .bool (K 1), .bool (K 2), .bool (K 3), .bool (K 4), .bool (K 5), .bool (K 6), .bool (K 7), .bool (K 8), .bool (K 9), .bool (K 10), .bool (K 11), .bool (K 12), .bool (K 13), .bool (K 14), .bool (K 15)] 33) = w1 := ⟨_, rfl⟩
  have HR : Hid (w1.rowIs w.heap.size 33 16 (fun j => .bool (K j))) := Lib.hid (by rw [← hw1]; exact kap_row w K)
  have B1 : Below w.heap.size w w1 := by rw [← hw1]; exact (Below.refl _ _).alloc (Nat.le_refl _) _
  have S1 : w1.heap.size = w.heap.size + 1 := by rw [← hw1]; simp
  have HB1 := Lib.hid B1
  have HS1 := Lib.hid S1
  have c0 := (q.below B1).c0
  have HW := Lib.hid hw1
  clear hw1 B1 S1
  go_enter Try.func27, Try.ntmps27
  go_upto_region 1 with fail
  rw [HW.out]
  clear HW
  go_wp2_with fail
  have BB : Below w1.heap.size w1 (w1.alloc (.cells #[.func (.func 31) #[.pointer (some ⟨ho, 0, none⟩)] #[]] 47)) := (Below.refl _ _).alloc (Nat.le_refl _) _
  have hl1 : w.heap.size < w1.heap.size := by rw [HS1.out]; omega
  go_ret
  refine ⟨by rw [HS1.out]; rfl, ?_, HR.out.of_block (BB.block w.heap.size hl1), HB1.out.trans (BB.mono (Nat.le_of_lt hl1)), by simp [HS1.out]⟩
  rw [← HS1.out]
  exact World.cell?_alloc_at _ _ _ _ rfl
theorem weigh_enter (args : Array Value) (w : World) : (callFunc 43 args).run Try.prog w = .ok (.enter 43 args) w := by go_simp
set_option maxRecDepth 100000 in
set_option maxHeartbeats 2000000 in
theorem weigh1_any (K : Nat → Bool) (b1 b2 g : Nat) (hg : g < 16) (hR : QR w ho 16 R) (hc : w.cell? ⟨b1, 0, none⟩ = some (.func (.func 31) #[.pointer (some ⟨ho, 0, none⟩)] #[])) (hk : w.rowIs b2 33 16 (fun j => .bool (K j))) : Calls Try.prog 43 #[.int .i64 (g : Int), .pointer (some ⟨b1, 0, none⟩), .pointer (some ⟨b2, 0, none⟩)] w fun x w' => x = .returned (.int .i64 (weiK R K g)) ∧ w = w' := by
  have hgi : (g : Int) < 16 := by omega
  have CL := level_any ho 16 R (g : Int) w hR
  have ck := hk.cell (i := g) hg
  obtain ⟨c, hcc⟩ : ∃ c, K g = c := ⟨_, rfl⟩
  obtain ⟨l, hl⟩ : ∃ l, lvl R g = l := ⟨_, rfl⟩
  have hb := lvl_le R g
  have hmis : misA R 16 (g : Int) = if l = -1 then 7 else 0 := by unfold misA; rw [if_neg (by omega), Int.toNat_natCast, hl]
  have HV : Hid (weiK R K g = if l = -1 ∨ c = true then 0 else l * l) := Lib.hid (by unfold weiK; rw [hl, hcc])
  rw [Int.toNat_natCast, hl, hmis] at CL
  rw [hcc] at ck
  rw [hl] at hb
  clear hl hmis hcc hk hR
  by_cases e : l = -1
  · rw [if_pos e, if_neg (by decide)] at CL
    have CL := Lib.hid CL
    have HX : Hid (weiK R K g = 0) := Lib.hid (by rw [HV.out, if_pos (Or.inl e)])
    clear e HV
    go_enter Try.func43, Try.ntmps43
    go_wp2_with fail
    refine CL.out.mono ?_
    rintro x w' ⟨rfl, rfl⟩
    go_wp2_with fail
    go_ret
    exact ⟨by rw [HX.out]; rfl, rfl⟩
  · rw [if_neg e, if_pos rfl] at CL
    have CL := Lib.hid CL
    cases c
    · have HX : Hid (weiK R K g = l * l) := Lib.hid (by rw [HV.out, if_neg (by simp [e])])
      rcases (show l = 0 ∨ l = 1 ∨ l = 2 ∨ l = 3 by omega) with rfl | rfl | rfl | rfl
      all_goals
        clear e HV hb
        go_enter Try.func43, Try.ntmps43
        go_wp2_with fail
        refine CL.out.mono ?_
        rintro x w' ⟨rfl, rfl⟩
        go_wp2_with fail
        go_ret
        exact ⟨by rw [HX.out]; rfl, rfl⟩
    · have HX : Hid (weiK R K g = 0) := Lib.hid (by rw [HV.out, if_pos (Or.inr rfl)])
      clear e HV hb
      go_enter Try.func43, Try.ntmps43
      go_wp2_with fail
      refine CL.out.mono ?_
      rintro x w' ⟨rfl, rfl⟩
      go_wp2_with fail
      go_ret
      exact ⟨by rw [HX.out]; rfl, rfl⟩
end
end Go.Proofs.Ytfkepplpeakgmaa

/- Package smq: Promote. -/
namespace Go.Proofs.Ytfkepplpeakgmaa
open Go.RowKit Go.Deep
set_option linter.unusedVariables false
set_option linter.unusedSimpArgs false
def weiV (R : Nat → List Nat) (K : Nat → Bool) (g : Nat) : List Value := (List.range g).map fun j => .int .i64 (weiK R K j)
theorem weiV_len (R : Nat → List Nat) (K : Nat → Bool) (g : Nat) : (weiV R K g).length = g := by unfold weiV; simp
theorem weiV_next (R : Nat → List Nat) (K : Nat → Bool) (g : Nat) : weiV R K (g + 1) = weiV R K g ++ [.int .i64 (weiK R K g)] := by unfold weiV; rw [List.range_succ, List.map_append]; rfl
theorem weiV_all (R : Nat → List Nat) (K : Nat → Bool) : weiV R K 16 = (weiL R K).map (Value.int .i64) := by unfold weiV weiL; rw [List.map_map]; rfl
section
variable {w : World} {B p ho e k : Nat} {R S : Nat → List Nat} {C : Nat → Int} {U : Nat → Bool}
set_option maxRecDepth 100000 in
set_option maxHeartbeats 8000000 in
theorem promote_any (K : Nat → Bool) (draw G y E : Int) (b : Bool) (hb : Hid ((E == 0) = b)) (q : PoAt w B p ho e R S C U k) (HP : Hid (∀ wx ao c, IntsAt wx ao 16 (weiL R K) → Calls Try.prog 28 #[.int .i64 draw, .slice ao 16 c] wx fun x w' => x = .returned (.tuple #[.int .i64 G, .int .i64 y, .int .i64 E]) ∧ Below wx.heap.size wx w')) : Calls Try.prog 11 #[.pointer (some ⟨p, 0, none⟩), .agg #[.bool (K 0), .bool (K 1), .bool (K 2), .bool (K 3), .bool (K 4), .bool (K 5), .bool (K 6), .bool (K 7), .bool (K 8), .bool (K 9), .bool (K 10), .bool (K 11), .bool (K 12), .bool (K 13), .bool (K 14), .bool (K 15)], .int .i64 draw] w fun x w' => x = .returned (.tuple #[.int .i64 G, .bool b]) ∧ Below w.heap.size w w' := by
  obtain ⟨w1, hw1⟩ : ∃ w1, w.alloc (.cells #[.bool (K 0), .bool (K 1), .bool (K 2), .bool (K 3), .bool (K 4), .bool (K 5), .bool (K 6), .bool (K 7), .bool (K 8), .bool (K 9), .bool (K 10), .bool (K 11), .bool (K 12), .bool (K 13), .bool (K 14), .bool (K 15)] 33) = w1 := ⟨_, rfl⟩
  have HR : w1.rowIs w.heap.size 33 16 (fun j => .bool (K j)) := by rw [← hw1]; exact kap_row w K
  have B1 : Below w.heap.size w w1 := by rw [← hw1]; exact (Below.refl _ _).alloc (Nat.le_refl _) _
  have HQ1 := Lib.hid (q.below B1)
  have HB1 := Lib.hid B1
  have HW := Lib.hid hw1
  have k0 : w1.cell? ⟨w.heap.size, 0, none⟩ = some (.bool (K 0)) := HR.cell (i := 0) (by omega)
  have k1 : w1.cell? ⟨w.heap.size, 1, none⟩ = some (.bool (K 1)) := HR.cell (i := 1) (by omega)
  have k2 : w1.cell? ⟨w.heap.size, 2, none⟩ = some (.bool (K 2)) := HR.cell (i := 2) (by omega)
  have k3 : w1.cell? ⟨w.heap.size, 3, none⟩ = some (.bool (K 3)) := HR.cell (i := 3) (by omega)
  have k4 : w1.cell? ⟨w.heap.size, 4, none⟩ = some (.bool (K 4)) := HR.cell (i := 4) (by omega)
  have k5 : w1.cell? ⟨w.heap.size, 5, none⟩ = some (.bool (K 5)) := HR.cell (i := 5) (by omega)
  have k6 : w1.cell? ⟨w.heap.size, 6, none⟩ = some (.bool (K 6)) := HR.cell (i := 6) (by omega)
  have k7 : w1.cell? ⟨w.heap.size, 7, none⟩ = some (.bool (K 7)) := HR.cell (i := 7) (by omega)
  have k8 : w1.cell? ⟨w.heap.size, 8, none⟩ = some (.bool (K 8)) := HR.cell (i := 8) (by omega)
  have k9 : w1.cell? ⟨w.heap.size, 9, none⟩ = some (.bool (K 9)) := HR.cell (i := 9) (by omega)
  have k10 : w1.cell? ⟨w.heap.size, 10, none⟩ = some (.bool (K 10)) := HR.cell (i := 10) (by omega)
  have k11 : w1.cell? ⟨w.heap.size, 11, none⟩ = some (.bool (K 11)) := HR.cell (i := 11) (by omega)
  have k12 : w1.cell? ⟨w.heap.size, 12, none⟩ = some (.bool (K 12)) := HR.cell (i := 12) (by omega)
  have k13 : w1.cell? ⟨w.heap.size, 13, none⟩ = some (.bool (K 13)) := HR.cell (i := 13) (by omega)
  have k14 : w1.cell? ⟨w.heap.size, 14, none⟩ = some (.bool (K 14)) := HR.cell (i := 14) (by omega)
  have k15 : w1.cell? ⟨w.heap.size, 15, none⟩ = some (.bool (K 15)) := HR.cell (i := 15) (by omega)
  have CW := Lib.hid (weigher_any K HQ1.out)
  obtain ⟨i0, hi0, hz0, hz1, hz2⟩ := info_partsD info_i64D
  clear hw1 B1 HR q
  go_enter Try.func11, Try.ntmps11
  go_upto_region 1 with fail
  rw [HW.out]
  clear HW
  go_wp2_with fail
  refine CW.out.mono ?_
  rintro x w2 ⟨rfl, hc, hk, b2, hs2⟩
  have HC := Lib.hid hc
  have HKR := Lib.hid hk
  have HB2 := Lib.hid b2
  obtain ⟨b1, hb1⟩ : ∃ b1, w1.heap.size + 1 = b1 := ⟨_, rfl⟩
  obtain ⟨b2', hb2⟩ : ∃ b2', w1.heap.size = b2' := ⟨_, rfl⟩
  have HQ2 := Lib.hid (HQ1.out.below b2)
  have hlt2 : b2' < w2.heap.size := by omega
  rw [hb1] at HC hs2 ⊢
  rw [hb2] at HKR ⊢
  clear hc hk b2 CW hb1 hb2
  clear k0 k1 k2 k3 k4 k5 k6 k7 k8 k9 k10 k11 k12 k13 k14 k15
  go_wp2_with fail
  go_loopw [9, 10, 19] (fun s9 _ s19 wi => ∃ g : Nat, s19 = .int .i64 (g : Int) ∧ g ≤ 16 ∧ (∃ a m c, s9 = .slice a m c) ∧ Hid (wi.ownsRow w2.heap.size 3 1 s9 (weiV R K g).length (weiV R K g)) ∧ Hid (Below w2.heap.size w2 wi)) (fun _ _ s19 _ => 16 - (intOf s19).toNat)
  case atStart => exact ⟨0, rfl, by omega, ⟨_, _, _, rfl⟩, Lib.hid (World.ownsRow_nil _ _ _ _), Lib.hid (Below.refl _ _)⟩
  case round =>
    obtain ⟨g, rfl, hg, ⟨a, m, c, rfl⟩, HO, HB⟩ := hrel
    by_cases hlt : g < 16
    · have hli : (g : Int) < 16 := by omega
      have CG := Lib.hid (weigh1_any (w := wr) (R := R) (ho := ho) K b1 b2' g hlt (HQ2.out.below HB.out).hot ((HB.out.cell (p := ⟨b1, 0, none⟩) hs2).trans HC.out) (HKR.out.of_block (HB.out.block _ hlt2)))
      have hsz := HB.out.size
      have HT := Lib.hid (weiV_next R K g)
      have HLN := Lib.hid (weiV_len R K g)
      generalize weiK R K g = x at *
      go_wp2_with fail
      refine CG.out.mono ?_
      rintro y w3 ⟨rfl, rfl⟩
      clear CG
      go_wp2_with (at_builtin; refine wpList_append_own _ rfl _ _ 39 rfl w2.heap.size 3 i0 (.int .i64 0) 1 8 Try.underlying39 hi0 hz0 hz1 hz2 rfl (by decide) _ _ _ rfl (HO.out.alloc _) ⟨wr.heap.size, 0, none⟩ 1 1 [.int .i64 x] rfl rfl ?c1 ?c2 ?c3 ?c4 ?c5 ?_)
      case c1 =>
        intro q u hq
        match q, hq with
        | 0, hq => simp at hq; subst hq; exact World.cell?_alloc_at (w := wr) _ _ _ _ rfl
      case c2 => intro u hu; simp at hu; subst hu; rfl
      case c3 => have := HLN.out; unfold maxLen; omega
      case c4 => have := HLN.out; omega
      case c5 => simp; omega
      · intro v' w4 hown' hgrow _
        have hb1 := Lib.hid ((HB.out.alloc hsz _).grown hgrow (by simp; omega) (fun j e => (HO.out.lt j e).1))
        have HO2 : Hid (w4.ownsRow w2.heap.size 3 1 v' (weiV R K (g + 1)).length (weiV R K (g + 1))) := Lib.hid (by rw [HT.out, List.length_append]; exact hown')
        obtain ⟨a2, l2, c2, rfl⟩ := own_slice hown'
        clear hown' hgrow HO HB HT
        go_wp2_with fail
        go_roundw
        case rel => exact ⟨g + 1, by go_num, by omega, ⟨_, _, _, rfl⟩, HO2, hb1⟩
        case measure => simp [intOf]; omega
    · obtain rfl : g = 16 := by omega
      rw [show ((16 : Nat) : Int) = 16 from rfl]
      have ho' := HO.out
      rw [weiV_all, List.length_map] at ho'
      obtain ⟨hle, hat⟩ := IntsAt.own ho'
      obtain rfl : m = 16 := by rw [hle, weiL_len]
      have CP := Lib.hid (HP.out wr a c hat)
      have HB3 := Lib.hid (HB1.out.trans ((HB2.out.trans (HB.out.mono HB2.out.size)).mono HB1.out.size))
      clear ho' hle hat HO HP
      go_wp2_with fail
      refine CP.out.mono ?_
      rintro x w4 ⟨rfl, b4⟩
      have HB4 := Lib.hid (HB3.out.trans (b4.mono HB3.out.size))
      clear b4 CP
      go_wp2_with fail
      go_ret2
      exact ⟨by rw [hb.out]; rfl, HB4.out⟩
end
end Go.Proofs.Ytfkepplpeakgmaa

/- Package smq: the law's same. -/
namespace Go.Proofs.Ytfkepplpeakgmaa
open Go.RowKit Go.Deep
set_option linter.unusedVariables false
set_option linter.unusedSimpArgs false
theorem zi_m1 (L : List Nat) : (-1 : Int) ∉ ziL L := by
  unfold ziL
  rw [List.mem_map]
  rintro ⟨x, _, e⟩
  omega
set_option maxRecDepth 100000 in
set_option maxHeartbeats 2000000 in
theorem where_m1 (B h : Nat) (X : Nat → List Nat) (w : World) (hX : XqAt w B h X) (hl : ∀ l, l < 4 → (X l).length ≤ 16) : Calls Try.prog 25 #[.pointer (some ⟨h, 0, none⟩), .int .i64 (-1)] w fun e w' => e = .returned (.int .i64 (-1)) ∧ w = w' := by
  obtain ⟨_, s, hs, ho⟩ := hX
  have HS := Lib.hid hs
  have HO := Lib.hid (fun l hl' => own_zi (ho l hl'))
  have HL := Lib.hid hl
  clear hs ho hl
  go_enter Try.func25, Try.ntmps25
  go_wp2_with fail
  go_loopw [5] (fun s5 wi => ∃ k : Nat, s5 = .int .i64 (k : Int) ∧ k ≤ 4 ∧ w = wi) (fun s5 _ => 4 - (intOf s5).toNat)
  case atStart => exact ⟨0, rfl, by omega, rfl⟩
  case round =>
    obtain ⟨k, rfl, hk, rfl⟩ := hrel
    by_cases hlt : k < 4
    · have hli : (k : Int) < 4 := by omega
      have c0 := World.rowIs.cell HS.out (i := k) (by omega)
      obtain ⟨ao, c, e, hat⟩ := HO.out k hlt
      rw [e] at c0
      have hlen := HL.out k hlt
      have CS := Lib.hid (has_raw ao (X k).length c (ziL (X k)) (-1) w (ziL_length _) hat (by omega) false (Lib.hid (decide_eq_false (zi_m1 _))))
      clear e hat
      generalize (X k).length = len at *
      go_wp2_with fail
      refine CS.out.mono ?_
      rintro e w' ⟨rfl, rfl⟩
      go_wp2_with fail
      go_roundw
      case rel => exact ⟨k + 1, by go_num, by omega, by first | rfl | trivial⟩
      case measure => simp [intOf]; omega
    · obtain rfl : k = 4 := by omega
      rw [show ((4 : Nat) : Int) = 4 from rfl]
      go_wp2_with fail
      go_ret
      exact ⟨rfl, rfl⟩
def whI (X : Nat → List Nat) (i : Int) : Int := if i < 0 then -1 else lvl X i.toNat
def hV (l : Int) : Value := if l = -1 then .tuple #[.int .i64 0, .bool false] else .tuple #[.int .i64 l, .bool true]
theorem whereI_any (B h : Nat) (i : Int) (X : Nat → List Nat) (w : World) (hX : XqAt w B h X) (hl : ∀ l, l < 4 → (X l).length ≤ 16) (hi : -1 ≤ i) : Calls Try.prog 25 #[.pointer (some ⟨h, 0, none⟩), .int .i64 i] w fun e w' => e = .returned (.int .i64 (whI X i)) ∧ w = w' := by
  unfold whI
  rcases (show i = -1 ∨ 0 ≤ i by omega) with rfl | h0
  · rw [if_pos (by omega)]; exact where_m1 B h X w hX hl
  · obtain ⟨j, rfl⟩ : ∃ j : Nat, i = (j : Int) := ⟨i.toNat, by omega⟩
    rw [if_neg (by omega), Int.toNat_natCast]
    exact where_any B h j X w hX hl
theorem whI_le (X : Nat → List Nat) (i : Int) : whI X i = -1 ∨ (0 ≤ whI X i ∧ whI X i ≤ 3) := by
  unfold whI
  split
  · exact Or.inl rfl
  · have := lvl_le X i.toNat
    omega
theorem lvV_hV {n : Nat} {R : Nat → List Nat} (ok : RowsOk n R) (i : Int) : lvV R n i = hV (whI R i) := by
  unfold lvV hV whI misA
  by_cases h0 : i < 0
  · rw [if_pos (Or.inl h0), if_neg (by decide), if_pos h0, if_pos rfl]
  · rw [if_neg h0]
    by_cases h1 : (n : Int) ≤ i
    · rw [if_pos (Or.inr h1), if_neg (by decide), if_pos]
      rcases lvl_cases R i.toNat with ⟨h, _⟩ | ⟨l, hl, _, hm⟩
      · exact h
      · have := ok.lt l hl _ hm
        omega
    · rw [if_neg (show ¬ (i < 0 ∨ (n : Int) ≤ i) by omega)]
      by_cases h2 : lvl R i.toNat = -1
      · simp [h2]
      · simp [h2]
section
variable {B p h e P H E : Nat} {w : World} {s : St}
set_option maxRecDepth 100000 in
set_option maxHeartbeats 8000000 in
theorem same_any (b : Sb B w p h e P H E s s) : Calls Try.prog 10 #[.pointer (some ⟨p, 0, none⟩), .pointer (some ⟨P, 0, none⟩)] w fun x w' => x = .returned (.bool true) ∧ Below w.heap.size w w' := by
  have c0 := b.px.c0
  have c1 := b.px.c1
  have ck := b.px.ck
  have HB := Lib.hid b
  clear b
  go_enter Try.func10, Try.ntmps10
  go_wp2_with fail
  go_loopw [5, 6, 7, 8, 9, 10, 11] (fun s5 _ _ _ _ _ _ wi => ∃ i : Int, s5 = .int .i64 i ∧ -1 ≤ i ∧ i ≤ 17 ∧ w = wi) (fun s5 _ _ _ _ _ _ _ => (17 - intOf s5).toNat)
  case atStart => exact ⟨-1, rfl, by omega, by omega, rfl⟩
  case round =>
    obtain ⟨i, rfl, hi0, hi, rfl⟩ := hrel
    by_cases hlt : i < 17
    · have CH := heat_any i HB.out.po
      have CM := warmth_any i HB.out.po
      have CX := whereI_any B H i s.R w HB.out.px.hot (HB.out.okR.len (by omega)) hi0
      have CY := whereI_any B E i s.S w HB.out.px.held (HB.out.okS.len (by omega)) hi0
      rw [lvV_hV HB.out.okR] at CH
      rw [lvV_hV HB.out.okS] at CM
      have h1 := whI_le s.R i
      have h2 := whI_le s.S i
      generalize whI s.R i = l at *
      generalize whI s.S i = m at *
      unfold hV at CH CM
      rcases h1 with rfl | ⟨h1, h1'⟩
      · rw [if_pos rfl] at CH
        have CH := Lib.hid CH
        have CX := Lib.hid CX
        have CY := Lib.hid CY
        rcases h2 with rfl | ⟨h2, h2'⟩
        · rw [if_pos rfl] at CM
          have CM := Lib.hid CM
          as_aux_lemma =>
          go_wp2_with fail
          refine CH.out.mono ?_
          rintro x w' ⟨rfl, rfl⟩
          go_wp2_with fail
          refine CX.out.mono ?_
          rintro x w' ⟨rfl, rfl⟩
          go_wp2_with fail
          refine CM.out.mono ?_
          rintro x w' ⟨rfl, rfl⟩
          go_wp2_with fail
          refine CY.out.mono ?_
          rintro x w' ⟨rfl, rfl⟩
          go_wp2_with fail
          go_roundw
          case rel => exact ⟨i + 1, by go_num, by omega, by omega, by first | rfl | trivial⟩
          case measure => simp [intOf]; omega
        · rw [if_neg (by omega)] at CM
          have CM := Lib.hid CM
          have g2 : decide (0 ≤ m) = true := by simpa using h2
          as_aux_lemma =>
          go_wp2_with fail
          refine CH.out.mono ?_
          rintro x w' ⟨rfl, rfl⟩
          go_wp2_with fail
          refine CX.out.mono ?_
          rintro x w' ⟨rfl, rfl⟩
          go_wp2_with fail
          refine CM.out.mono ?_
          rintro x w' ⟨rfl, rfl⟩
          go_wp2_with fail
          refine CY.out.mono ?_
          rintro x w' ⟨rfl, rfl⟩
          go_wp2_with fail
          go_roundw
          case rel => exact ⟨i + 1, by go_num, by omega, by omega, by first | rfl | trivial⟩
          case measure => simp [intOf]; omega
      · rw [if_neg (by omega)] at CH
        have CH := Lib.hid CH
        have CX := Lib.hid CX
        have CY := Lib.hid CY
        have g1 : decide (0 ≤ l) = true := by simpa using h1
        rcases h2 with rfl | ⟨h2, h2'⟩
        · rw [if_pos rfl] at CM
          have CM := Lib.hid CM
          as_aux_lemma =>
          go_wp2_with fail
          refine CH.out.mono ?_
          rintro x w' ⟨rfl, rfl⟩
          go_wp2_with fail
          refine CX.out.mono ?_
          rintro x w' ⟨rfl, rfl⟩
          go_wp2_with fail
          refine CM.out.mono ?_
          rintro x w' ⟨rfl, rfl⟩
          go_wp2_with fail
          refine CY.out.mono ?_
          rintro x w' ⟨rfl, rfl⟩
          go_wp2_with fail
          go_roundw
          case rel => exact ⟨i + 1, by go_num, by omega, by omega, by first | rfl | trivial⟩
          case measure => simp [intOf]; omega
        · rw [if_neg (by omega)] at CM
          have CM := Lib.hid CM
          have g2 : decide (0 ≤ m) = true := by simpa using h2
          as_aux_lemma =>
          go_wp2_with fail
          refine CH.out.mono ?_
          rintro x w' ⟨rfl, rfl⟩
          go_wp2_with fail
          refine CX.out.mono ?_
          rintro x w' ⟨rfl, rfl⟩
          go_wp2_with fail
          refine CM.out.mono ?_
          rintro x w' ⟨rfl, rfl⟩
          go_wp2_with fail
          refine CY.out.mono ?_
          rintro x w' ⟨rfl, rfl⟩
          go_wp2_with fail
          go_roundw
          case rel => exact ⟨i + 1, by go_num, by omega, by omega, by first | rfl | trivial⟩
          case measure => simp [intOf]; omega
    · obtain rfl : i = 17 := by omega
      go_upto_region 12 with fail
      refine wp_region_lin (S := (fun w' => w'.cell? ⟨P, 74, none⟩ = some (.int .i64 (s.k : Int)))) [(0, true), (2, true), (3, true), (4, true), (5, true), (1, false), (6, true), (7, true)] (by kernel_rfl) (by kernel_rfl) rfl (by kernel_rfl) ?_ (fun hHeld => ?_)
      · (try dsimp only); exact ck
      have HB2 := Lib.hid (HB.out.below (Below.refl _ _).drew)
      have HBD : Hid (Below w.heap.size w w.drew) := Lib.hid (Below.refl _ _).drew
      clear c0 c1 ck HB
      generalize World.drew w = wd at hHeld HB2 HBD ⊢
      have CK := Lib.hid (clock_any HB2.out.po)
      (refine wpL_calm (o := { dst := some 80, op := Go.Op.move (Go.Operand.tmp 0), type := 23, pos := "law.go:103", after := #[], guard := none }) (v := ?_) rfl (Or.inl ⟨by rfl, ?_⟩) ?_; rotate_left; (focus (intro w hSw; (try dsimp only at hSw); go_simp; (try (with_reducible rfl)); done)); try simp only [Act.put, List.setIfInBounds_toArray, List.set_cons_zero, List.set_cons_succ])
      (refine wpL_calm (o := { dst := some 82, op := Go.Op.move (Go.Operand.tmp 1), type := 25, pos := "law.go:103", after := #[], guard := none }) (v := ?_) rfl (Or.inl ⟨by rfl, ?_⟩) ?_; rotate_left; (focus (intro w hSw; (try dsimp only at hSw); go_simp; (try (with_reducible rfl)); done)); try simp only [Act.put, List.setIfInBounds_toArray, List.set_cons_zero, List.set_cons_succ])
      (refine wpL_calm (o := { dst := some 83, op := Go.Op.nilCheck (Go.Operand.tmp 82), type := 0, pos := "law.go:103", after := #[{ on := 2, ground := Go.Ground.data }], guard := none }) (v := ?_) rfl (Or.inl ⟨by rfl, ?_⟩) ?_; rotate_left; (focus (intro w hSw; (try dsimp only at hSw); go_simp; (try (with_reducible rfl)); done)); try simp only [Act.put, List.setIfInBounds_toArray, List.set_cons_zero, List.set_cons_succ])
      (refine wpL_calm (o := { dst := some 84, op := Go.Op.fieldAddr 61 (Go.Operand.tmp 83) 4, type := 0, pos := "law.go:103", after := #[{ on := 3, ground := Go.Ground.data }], guard := none }) (v := ?_) rfl (Or.inl ⟨by rfl, ?_⟩) ?_; rotate_left; (focus (intro w hSw; (try dsimp only at hSw); go_simp; (try (with_reducible rfl)); done)); try simp only [Act.put, List.setIfInBounds_toArray, List.set_cons_zero, List.set_cons_succ])
      (refine wpL_calm (o := { dst := some 85, op := Go.Op.load 3 (Go.Operand.tmp 84), type := 3, pos := "law.go:103", after := #[{ on := 4, ground := Go.Ground.data }], guard := none }) (v := ?_) rfl (Or.inl ⟨by rfl, ?_⟩) ?_; rotate_left; (focus (intro w hSw; (try dsimp only at hSw); go_simp; (try (with_reducible rfl)); done)); try simp only [Act.put, List.setIfInBounds_toArray, List.set_cons_zero, List.set_cons_succ])
      refine wpL_loud1 (o := { dst := some 81, op := Go.Op.call { callee := Go.Callee.value (Go.Operand.func 21), args := #[Go.Operand.tmp 80], argTypes := #[23] }, type := 3, pos := "law.go:103", after := #[{ on := 0, ground := Go.Ground.data }], guard := none }) rfl (fun K hK => ?_)
      (go_simp; go_at_call 21; refine CK.out.mono ?_; rintro x w4 ⟨rfl, rfl⟩)
      try go_wp2_with fail
      refine hK.out _ _ ?_ (fun hHeld => ?_)
      · (try dsimp only); exact hHeld
      clear hK K
      try simp only [Act.put, List.setIfInBounds_toArray, List.set_cons_zero, List.set_cons_succ]
      (refine wpL_calm (o := { dst := some 86, op := Go.Op.binOp Go.BinOp.eql 3 (Go.Operand.tmp 81) (Go.Operand.tmp 85) 3, type := 4, pos := "law.go:103", after := #[{ on := 1, ground := Go.Ground.data }, { on := 5, ground := Go.Ground.data }], guard := none }) (v := ?_) rfl (Or.inl ⟨by rfl, ?_⟩) ?_; rotate_left; (focus (intro w hSw; (try dsimp only at hSw); go_simp; (try (with_reducible rfl)); done)); try simp only [Act.put, List.setIfInBounds_toArray, List.set_cons_zero, List.set_cons_succ])
      (refine wpL_calm (o := { dst := some 4, op := Go.Op.assign (Go.Operand.tmp 86), type := 4, pos := "law.go:103", after := #[{ on := 6, ground := Go.Ground.data }, { on := 1, ground := Go.Ground.chain }, { on := 0, ground := Go.Ground.phase }, { on := 1, ground := Go.Ground.phase }, { on := 2, ground := Go.Ground.phase }, { on := 3, ground := Go.Ground.phase }, { on := 4, ground := Go.Ground.phase }, { on := 5, ground := Go.Ground.phase }, { on := 6, ground := Go.Ground.phase }], guard := none }) (v := ?_) rfl (Or.inl ⟨by rfl, ?_⟩) ?_; rotate_left; (focus (intro w hSw; (try dsimp only at hSw); go_simp; (try (with_reducible rfl)); done)); try simp only [Act.put, List.setIfInBounds_toArray, List.set_cons_zero, List.set_cons_succ])
      refine wpL_nil ?_
      refine NoPanic.normal ?_
      go_wp2_with fail
      go_ret
      exact ⟨by first | rfl | simp, HBD.out⟩
end
end Go.Proofs.Ytfkepplpeakgmaa

/- Package smq: what cools; what awake comes to. -/
namespace Go.Proofs.Ytfkepplpeakgmaa
open Go.RowKit Go.Deep
set_option linter.unusedVariables false
set_option linter.unusedSimpArgs false
def tickS (s : St) : St := { R := tkR s.R s.C s.k, S := tkS s.S s.U s.k, C := tkC s.C s.k, U := tkU s.U s.k, k := s.k + 1 }
def itT (s : St) : Nat → St
  | 0 => s
  | n + 1 => tickS (itT s n)
theorem itT_k (s : St) : ∀ n, (itT s n).k = s.k + n
  | 0 => rfl
  | n + 1 => by show (itT s n).k + 1 = _; rw [itT_k s n]; omega
/-- No level from m on has a thing. -/
def Low (m : Nat) (R : Nat → List Nat) : Prop := ∀ l, l < 4 → m ≤ l → R l = []
theorem Low.up {m n : Nat} {R : Nat → List Nat} (h : Low m R) (hn : m ≤ n) : Low n R := fun l hl hm => h l hl (Nat.le_trans hn hm)
theorem sum_z (g : Nat) : sumQ (cnt zC g) = 0 := rfl
theorem endH_low {m : Nat} {R : Nat → List Nat} (ok : RowsOk 16 R) (h : Low (m + 1) R) : ∀ g, g ≤ 16 → ∀ l, l < 4 → ∀ x ∈ endH R zC g l, (x < g → l < m) ∧ (g ≤ x → l < m + 1)
  | 0, _ => fun l hl x hx => ⟨fun c => absurd c (by omega), fun _ => by
      by_cases c : l < m + 1
      · exact c
      · have e := h l hl (by omega)
        have hx' : x ∈ R l := hx
        rw [e] at hx'
        exact absurd hx' (by simp)⟩
  | g + 1, hg => by
    intro l hl x hx
    have ih := endH_low ok h g (by omega)
    have ok2 : RowsOk 16 (endH R zC g) := ok.endH zC g (by omega)
    by_cases e : lvl (endH R zC g) g = -1
    · rw [endH_no e] at hx
      have := ih l hl x hx
      by_cases hxg : x = g
      · subst hxg
        rcases lvl_cases (endH R zC x) x with ⟨_, hn⟩ | ⟨l2, _, hv, _⟩
        · exact absurd hx (hn l hl)
        · omega
      · exact ⟨fun c => this.1 (by omega), fun c => this.2 (by omega)⟩
    · rw [endH_yes e] at hx
      obtain ⟨l2, hl2, hv, hm2⟩ : ∃ l : Nat, l < 4 ∧ lvl (endH R zC g) g = (l : Int) ∧ g ∈ endH R zC g l := by
        rcases lvl_cases (endH R zC g) g with ⟨q, _⟩ | q
        · exact absurd q e
        · exact q
      have hlm := (ih l2 hl2 g hm2).2 (Nat.le_refl _)
      by_cases z : l2 = 0
      · subst z
        rw [setl_rem (sum_z g) hv] at hx
        obtain ⟨hx1, hx2⟩ := rem_mem.1 hx
        have := ih l hl x hx1
        exact ⟨fun c => this.1 (by omega), fun c => this.2 (by omega)⟩
      · rw [setl_down (sum_z g) (by rw [hv]; omega)] at hx
        unfold movA at hx
        rw [hv, show cutB (-1) = -1 from rfl, show cutL ((l2 : Int) + -1) = ((l2 - 1 : Nat) : Int) by unfold cutL; rw [if_neg (by omega), if_neg (by omega)]; omega, Int.toNat_natCast] at hx
        rcases put_mem.1 hx with ⟨hx1, hx2⟩ | ⟨q1, q2⟩
        · have := ih l hl x hx1
          exact ⟨fun c => this.1 (by omega), fun c => this.2 (by omega)⟩
        · exact ⟨fun c => by omega, fun c => by omega⟩
theorem low_of_mem {m : Nat} {R : Nat → List Nat} (h : ∀ l, l < 4 → ∀ x ∈ R l, l < m) : Low m R := fun l hl hm => by
  cases e : R l with
  | nil => rfl
  | cons x xs =>
    have := h l hl x (by rw [e]; simp)
    omega
theorem its_low {m : Nat} {R : Nat → List Nat} (ok : RowsOk 16 R) (h : Low m R) {l : Nat} (hl : l < 4) (h1 : 1 ≤ l) : ∀ k, k ≤ (R l).length → Low m (its R l k) := by
  intro k
  induction k with
  | zero => exact fun _ => h
  | succ k ih =>
    intro hk
    have hi := ih (by omega)
    obtain ⟨i1, i2⟩ := ok.its hl h1 k (by omega)
    have e := i2.trans (list_drop_cons (show k < (R l).length by omega))
    obtain ⟨_, hv⟩ := stp_row i1 hl h1 e
    have hd : hdN (its R l k l) = (R l)[k] := by rw [e]; rfl
    have hlm : l < m := by
      by_cases c : l < m
      · exact c
      · have := hi l hl (by omega)
        rw [e] at this
        exact absurd this (List.cons_ne_nil _ _)
    show Low m (movA (its R l k) (hdN (its R l k l)) (-1))
    rw [hd]
    unfold movA
    rw [hv, show cutB (-1) = -1 from rfl, show cutL ((l : Int) + -1) = ((l - 1 : Nat) : Int) by unfold cutL; rw [if_neg (by omega), if_neg (by omega)]; omega, Int.toNat_natCast]
    refine low_of_mem fun l' hl' x hx => ?_
    rcases put_mem.1 hx with ⟨hx1, _⟩ | ⟨q1, _⟩
    · by_cases c : l' < m
      · exact c
      · have := hi l' hl' (by omega)
        rw [this] at hx1
        exact absurd hx1 (by simp)
    · omega
theorem balR_low {m : Nat} {R : Nat → List Nat} (ok : RowsOk 16 R) (h : Low m R) (most : Int) : ∀ j, j ≤ 3 → Low m (balR R most j) := by
  intro j
  induction j with
  | zero => exact fun _ => h
  | succ j ih =>
    intro hj
    exact its_low (ok.balR most j (by omega)) (ih (by omega)) (by omega) (by omega) _ (overB_le _ _)
theorem end_low {m : Nat} {R : Nat → List Nat} (ok : RowsOk 16 R) (h : Low (m + 1) R) : Low m (balR (endH R zC 16) 4 3) :=
  balR_low (ok.endH zC 16 (by omega)) (low_of_mem fun l hl x hx => (endH_low ok h 16 (by omega) l hl x hx).1 ((ok.endH zC 16 (by omega)).lt l hl x hx)) 4 3 (by omega)
theorem tick_ok {s : St} (ok : RowsOk 16 s.R) : RowsOk 16 (tickS s).R := by
  show RowsOk 16 (tkR s.R s.C s.k)
  unfold tkR
  split
  · exact (ok.endH _ 16 (by omega)).balR 4 3 (by omega)
  · exact ok
theorem itT_ok {s : St} (ok : RowsOk 16 s.R) : ∀ n, RowsOk 16 (itT s n).R
  | 0 => ok
  | n + 1 => tick_ok (itT_ok ok n)
theorem cool {s : St} (ok : RowsOk 16 s.R) : ∀ n, 1 ≤ (s.k + n) / 8 - s.k / 8 → (itT s n).C = zC ∧ Low (5 - ((s.k + n) / 8 - s.k / 8)) (itT s n).R
  | 0, h => absurd h (by simp)
  | n + 1, h => by
    have hk := itT_k s n
    have okn := itT_ok ok n
    by_cases hr : (s.k + n + 1) % 8 = 0
    · have e1 : (itT s (n + 1)).C = zC := by
        show tkC (itT s n).C (itT s n).k = zC
        unfold tkC
        rw [hk, if_pos hr]
      have e2 : (itT s (n + 1)).R = balR (endH (itT s n).R (itT s n).C 16) 4 3 := by
        show tkR (itT s n).R (itT s n).C (itT s n).k = _
        unfold tkR
        rw [hk, if_pos hr]
      refine ⟨e1, ?_⟩
      rw [e2]
      by_cases h0 : 1 ≤ (s.k + n) / 8 - s.k / 8
      · obtain ⟨c1, c2⟩ := cool ok n h0
        rw [c1]
        exact end_low okn (c2.up (by omega))
      · intro l hl hm
        omega
    · have e1 : (itT s (n + 1)).C = (itT s n).C := by
        show tkC (itT s n).C (itT s n).k = _
        unfold tkC
        rw [hk, if_neg hr]
      have e2 : (itT s (n + 1)).R = (itT s n).R := by
        show tkR (itT s n).R (itT s n).C (itT s n).k = _
        unfold tkR
        rw [hk, if_neg hr]
      rw [e1, e2]
      obtain ⟨c1, c2⟩ := cool ok n (by omega)
      exact ⟨c1, c2.up (by omega)⟩
theorem cool48 {s : St} (ok : RowsOk 16 s.R) (g : Nat) : lvl (itT s 48).R g = -1 := by
  obtain ⟨_, h⟩ := cool ok 48 (by omega)
  refine lvl_no fun m hm hx => ?_
  have := h m hm (by omega)
  rw [this] at hx
  exact absurd hx (by simp)
/-- One thing, 3, at a level. -/
def rowT (l : Nat) : Nat → List Nat := fun k => if k = l then [3] else []
def hR : Nat → Nat → List Nat
  | 0 => fun _ => []
  | i + 1 => hitR (hR i) 3
def hC : Nat → Nat → Int
  | 0 => zC
  | i + 1 => hitC (hC i) 0 3
theorem lvl_T (l : Nat) (hl : l < 4) : lvl (rowT l) 3 = (l : Int) := by
  rcases (show l = 0 ∨ l = 1 ∨ l = 2 ∨ l = 3 by omega) with rfl | rfl | rfl | rfl <;> decide
theorem lvl_Tn (l g : Nat) (hg : g ≠ 3) : lvl (rowT l) g = -1 := lvl_no fun m _ hx => by
  unfold rowT at hx
  split at hx
  · simp at hx; exact hg hx
  · simp at hx
theorem put_nil : put (fun _ => []) 3 0 = rowT 0 := by
  funext k
  unfold put setR rem rowT
  split <;> simp
theorem put_T (l m : Nat) : put (rowT l) 3 m = rowT m := by
  funext k
  unfold put setR rem rowT
  simp
  split <;> split <;> simp
theorem mov_T (l m : Nat) (b : Int) (hl : l < 4) (h : cutL ((l : Int) + cutB b) = (m : Int)) : movA (rowT l) 3 b = rowT m := by
  unfold movA
  rw [lvl_T l hl, h, Int.toNat_natCast]
  exact put_T l m
theorem hR_T : ∀ i, hR (i + 1) = rowT 0
  | 0 => by
    show hitR (fun _ => []) 3 = rowT 0
    unfold hitR
    rw [if_pos (by decide)]
    exact put_nil
  | i + 1 => by
    show hitR (hR (i + 1)) 3 = rowT 0
    rw [hR_T i]
    unfold hitR
    rw [if_neg (by rw [lvl_T 0 (by omega)]; decide)]
    exact mov_T 0 0 0 (by omega) (by decide)
theorem endH_T (l l' : Nat) (C : Nat → Int) (h : setlR (rowT l) C 3 = rowT l') (hl : l < 4) : endH (rowT l) C 16 = rowT l' := by
  have a : ∀ g, g ≤ 3 → endH (rowT l) C g = rowT l := by
    intro g
    induction g with
    | zero => exact fun _ => rfl
    | succ g ih =>
      intro hg
      have e := ih (by omega)
      rw [endH_no (by rw [e]; exact lvl_Tn l g (by omega)), e]
  have b : endH (rowT l) C 4 = rowT l' := by
    have e := a 3 (by omega)
    rw [endH_yes (by rw [e, lvl_T l hl]; omega), e, h]
  have c : ∀ g, endH (rowT l) C (4 + g) = rowT l' := by
    intro g
    induction g with
    | zero => exact b
    | succ g ih =>
      have e := ih
      show endH (rowT l) C (4 + g + 1) = rowT l'
      rw [endH_no (by rw [e]; exact lvl_Tn l' _ (by omega)), e]
  exact c 12
theorem bal_T (l : Nat) : ∀ j, balR (rowT l) 4 j = rowT l := by
  intro j
  induction j with
  | zero => rfl
  | succ j ih =>
    show its (balR (rowT l) 4 j) (3 - j) (overB (balR (rowT l) 4 j (3 - j)) 4) = rowT l
    rw [ih]
    have : overB (rowT l (3 - j)) 4 = 0 := by
      unfold overB rowT
      split <;> decide
    rw [this]
    rfl
def aw0 : St := { R := hR 4, S := fun _ => [], C := hC 4, U := zU, k := 0 }
theorem aw_rise : riseI (cnt (hC 4) 3) = 2 := by decide +kernel
theorem aw_set : setlR (rowT 0) (hC 4) 3 = rowT 2 := by
  unfold setlR
  rw [aw_rise, if_neg (by decide)]
  show movA (movA (rowT 0) 3 1) 3 1 = rowT 2
  rw [mov_T 0 1 1 (by omega) (by decide), mov_T 1 2 1 (by omega) (by decide)]
theorem itT_R (s : St) (n : Nat) : (itT s (n + 1)).R = tkR (itT s n).R (itT s n).C (itT s n).k := rfl
theorem aw_pre : ∀ n, n ≤ 7 → (itT aw0 n).R = hR 4 ∧ (itT aw0 n).C = hC 4
  | 0, _ => ⟨rfl, rfl⟩
  | n + 1, hn => by
    obtain ⟨h1, h2⟩ := aw_pre n (by omega)
    have hk : (itT aw0 n).k = n := by rw [itT_k]; show 0 + n = n; omega
    refine ⟨?_, ?_⟩
    · show tkR (itT aw0 n).R (itT aw0 n).C (itT aw0 n).k = hR 4
      unfold tkR
      rw [hk, if_neg (by omega), h1]
    · show tkC (itT aw0 n).C (itT aw0 n).k = hC 4
      unfold tkC
      rw [hk, if_neg (by omega), h2]
theorem aw_R : (itT aw0 8).R = rowT 2 := by
  obtain ⟨h1, h2⟩ := aw_pre 7 (by omega)
  have hk : (itT aw0 7).k = 7 := by rw [itT_k]; rfl
  have hs := itT_R aw0 7
  unfold tkR at hs
  rw [hs, hk, if_pos (by omega), h1, h2, show hR 4 = rowT 0 from hR_T 3, endH_T 0 2 _ aw_set (by omega)]
  exact bal_T 2 3
theorem aw_k : (itT aw0 8).k = 8 := by rw [itT_k]; rfl
theorem aw_w : weiL (rowT 2) (fun _ => false) = [0, 0, 0, 4, 0, 0, 0, 0, 0, 0, 0, 0, 0, 0, 0, 0] := by decide +kernel
end Go.Proofs.Ytfkepplpeakgmaa
