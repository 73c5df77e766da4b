/- Contracts (cellaret): the law DiceFair. -/
import Derived.Test.YtnhnicjljbdjjaaDiG
import Derived.Test.YtnhnicjljbdjjaaOpen
namespace Go.Proofs.Ytnhnicjljbdjjaa
open Go.RowKit Go.Deep Go.ChangeShapes Go.WideShapes
set_option linter.unusedVariables false

/-- How many of so many draws have picked a place. -/
def gotv (ws : List Int) (k : Int) (j : Nat) : Int := if k ≤ wsum ws j then 0 else if k - wsum ws j ≤ ws.getD j 0 then k - wsum ws j else ws.getD j 0
theorem gotv_start (ws : List Int) (j : Nat) (h : 0 ≤ wsum ws j) : gotv ws 0 j = 0 := by unfold gotv; rw [if_pos h]
theorem gotv_end (ws : List Int) (N j : Nat) (hj : j < N) (hf : ∀ i, i < N → fits (ws.getD i 0)) : gotv ws (wsum ws N) j = ws.getD j 0 := by
  have h1 := wsum_mono ws (j + 1) N (by omega) hf
  have h2 := hf j hj
  have h3 : wsum ws (j + 1) = wsum ws j + ws.getD j 0 := rfl
  unfold fits at h2
  unfold gotv
  split
  · omega
  · split <;> omega
theorem gotv_same (ws : List Int) (N i j : Nat) (k : Int) (hi : i < N) (hj : j < N) (hf : ∀ i, i < N → fits (ws.getD i 0)) (h1 : wsum ws i ≤ k) (h2 : k < wsum ws (i + 1)) : gotv ws (k + 1) j = gotv ws k j + (if j = i then 1 else 0) := by
  have h3 : wsum ws (i + 1) = wsum ws i + ws.getD i 0 := rfl
  have h4 : wsum ws (j + 1) = wsum ws j + ws.getD j 0 := rfl
  have h5 := hf j hj
  unfold fits at h5
  by_cases e : j = i
  · subst e
    rw [if_pos rfl]
    unfold gotv
    repeat' split
    all_goals omega
  · rw [if_neg e]
    by_cases hlt : j < i
    · have := wsum_mono ws (j + 1) i (by omega) (fun m hm => hf m (by omega))
      unfold gotv
      repeat' split
      all_goals omega
    · have := wsum_mono ws (i + 1) j (by omega) (fun m hm => hf m (by omega))
      unfold gotv
      repeat' split
      all_goals omega
theorem gotv_bound (ws : List Int) (N j : Nat) (k : Int) (hj : j < N) (hf : ∀ i, i < N → fits (ws.getD i 0)) : 0 ≤ gotv ws k j ∧ gotv ws k j ≤ 1048576 := by
  have h5 := hf j hj
  unfold fits at h5
  unfold gotv
  repeat' split
  all_goals omega
theorem getD_take (ws : List Int) (i j : Nat) (h : j < i) : (ws.take i).getD j 0 = ws.getD j 0 := by simp [List.getD_eq_getElem?_getD, h]

/-- What the draws so far have picked. -/
def Got (w : World) (g : Nat) (ws : List Int) (N k : Nat) : Prop := g < w.heap.size ∧ ∀ j, j < N → w.cell? ⟨g, j, none⟩ = some (.int .i64 (gotv ws (k : Int) j)) ∧ w.frozen? ⟨g, j, none⟩ = false
theorem Got.below {w w' : World} {g N k : Nat} {ws : List Int} (h : Got w g ws N k) (hb : Below w.heap.size w w') : Got w' g ws N k :=
  ⟨Nat.lt_of_lt_of_le h.1 hb.size, fun j hj => ⟨(hb.cell (p := ⟨g, j, none⟩) h.1).trans (h.2 j hj).1, (hb.frozen (p := ⟨g, j, none⟩) h.1).trans (h.2 j hj).2⟩⟩
theorem Got.put {w : World} {g N k : Nat} {ws : List Int} (h : Got w g ws N k) (i k' : Nat) (hi : i < N) (hv : ∀ j, j < N → gotv ws ((k : Int) + 1) j = gotv ws k j + (if j = i then 1 else 0)) : Got (w.setCell ⟨g, i, none⟩ (.int .i64 (gotv ws k i + 1))) g ws N (k + 1) := by
  refine ⟨by simpa [World.setCell] using h.1, fun j hj => ⟨?_, by rw [World.frozen?_setCell]; exact (h.2 j hj).2⟩⟩
  have e : ((k + 1 : Nat) : Int) = (k : Int) + 1 := by omega
  rw [e, hv j hj]
  by_cases hji : j = i
  · subst hji
    rw [if_pos rfl]
    exact World.cell?_setCell_same _ _ _ (h.2 j hj).1
  · rw [if_neg hji, Int.add_zero, World.cell?_setCell_other _ _ _ _ (by intro e; simp only [Addr.mk.injEq] at e; omega)]
    exact (h.2 j hj).1
set_option maxRecDepth 100000 in
set_option maxHeartbeats 2000000 in
theorem diceFair_row (ao : Option Addr) (len cap N : Nat) (zs ws : List Int) (S : Nat) (w : World) (hm : len ≤ maxLen) (hrow : IntRow .u8 w ao len zs) (hN : N ≤ 8) (hNl : N ≤ len) (hNe : (8 ≤ N ∧ N < len) ∨ len ≤ N) (hwl : ws.length = N)
    (hws : Hid (∀ i, i < N → ws.getD i 0 = zs.getD i 0 % 9)) (hf : Hid (∀ i, i < N → fits (ws.getD i 0))) (hS : Hid (wsum ws N = (S : Int))) (hS2 : S ≤ 64) :
    Calls Try.prog 4 #[.slice ao len cap] w fun e w' => e = .returned (.bool true) ∧ Below w.heap.size w w' := by
  obtain ⟨i0, hi, hz0, hz1, hz2⟩ := info_parts Try.info_i64
  obtain ⟨r1, r2, r3⟩ := hrow
  have R2 := Lib.hid r2
  have R3 := Lib.hid r3
  have hmm : len ≤ 9223372036854775807 := hm
  clear r2 r3
  go_enter Try.func4, Try.ntmps4
  go_wp2
  go_loopw [3, 4, 5] (fun x y z wi => ∃ (i : Nat) (s : Int), z = .int .i64 i ∧ i ≤ N ∧ y = .int .i64 s ∧ 0 ≤ s ∧ s ≤ i * 8 ∧ Hid (wsum ws i = s) ∧ wi.ownsRow w.heap.size 3 1 x i ((ws.take i).map (Value.int .i64)) ∧ Below w.heap.size w wi)
    (fun _ _ z _ => 8 - (intOf z).toNat)
  case atStart => exact ⟨0, 0, rfl, by omega, rfl, by omega, by omega, Lib.hid rfl, World.ownsRow_nil _ _ _ _, Below.refl _ _⟩
  case round =>
    obtain ⟨i, s, rfl, hiN, rfl, hs0, hs1, HS, hown, hbel⟩ := hrel
    by_cases hlt : i < N
    · obtain ⟨b, off, rfl, hb, hc⟩ := R3.out (by omega)
      have hil : i < len := by omega
      have hi8 : i < 8 := by omega
      have c0 := (hbel.cell (p := ⟨b, off + i, none⟩) hb).trans (hc i hil)
      have wz := bounds_u8 (R2.out i hil)
      have hw9 := hws.out i hlt
      have HSN : Hid (wsum ws (i + 1) = s + zs.getD i 0 % 9) := Lib.hid (by show wsum ws i + ws.getD i 0 = _; rw [HS.out, hw9])
      have HTK : Hid ((ws.take (i + 1)).map (Value.int .i64) = (ws.take i).map (Value.int .i64) ++ [.int .i64 (zs.getD i 0 % 9)]) := Lib.hid (by
        rw [List.take_succ_eq_append_getElem (by omega), List.map_append, ← hw9, List.getD_eq_getElem?_getD, List.getElem?_eq_getElem (by omega)]; rfl)
      have HO := Lib.hid hown
      clear hc hw9 hown
      generalize zs.getD i 0 = z at c0 wz HSN HTK
      obtain ⟨z0, z1⟩ := wz
      have e1 : z.tmod 9 = z % 9 := Int.tmod_eq_emod_of_nonneg z0
      obtain ⟨u, hu⟩ : ∃ u, z % 9 = u := ⟨_, rfl⟩
      have hu0 : 0 ≤ u ∧ u ≤ 8 := by omega
      rw [hu] at HSN HTK e1
      go_wp2_with (at_builtin; refine wpList_append_own _ rfl _ _ 30 rfl w.heap.size 3 i0 (.int .i64 0) 1 8 Try.underlying30 hi hz0 hz1 hz2 rfl (by decide) _ _ _ rfl (HO.out.alloc _) ⟨wr.heap.size, 0, none⟩ 1 1 [.int .i64 u] rfl rfl ?c1 ?c2 ?c3 ?c4 ?c5 ?_)
      case c1 =>
        intro j v hj
        match j, hj with
        | 0, hj => simp at hj; subst hj; exact World.cell?_alloc_at (w := wr) _ _ _ _ rfl
      case c2 => intro v hv; simp at hv; subst hv; rfl
      case c3 => unfold maxLen; omega
      case c4 => omega
      case c5 => have := hbel.size; simp; omega
      · intro v' w1 hown' hgrow _
        have hb1 : Below w.heap.size w w1 := (hbel.alloc hbel.size _).grown hgrow (by have := hbel.size; simp; omega) (fun j e => (HO.out.lt j e).1)
        have c1 := (hb1.cell (p := ⟨b, off + i, none⟩) hb).trans ((hbel.cell (p := ⟨b, off + i, none⟩) hb).symm.trans c0)
        go_wp2
        go_roundw
        case rel => exact ⟨i + 1, s + u, by go_num, by omega, by go_num, by omega, by omega, HSN, by rw [HTK.out]; simpa using hown', hb1⟩
        case measure => simp [intOf]; omega
    · obtain rfl : i = N := by omega
      have e : s = S := by rw [← HS.out, hS.out]
      subst e
      obtain ⟨bo, m1, c1, rfl⟩ := own_slice hown
      rw [← hwl, List.take_length] at hown
      obtain ⟨hm1, hat⟩ := IntsAt.own hown
      rw [hwl] at hm1
      subst hm1
      have HA := Lib.hid hat
      clear hat hown
      obtain ⟨wb, rfl⟩ : ∃ wb : World, wb = wr := ⟨_, rfl⟩
      clear HS R2 R3 hlt hiN hs1
      have hsz : wb.heap.size < (wb.alloc (.cells #[.int .i64 0, .int .i64 0, .int .i64 0, .int .i64 0, .int .i64 0, .int .i64 0, .int .i64 0, .int .i64 0] 31)).heap.size := by simp
      have hB0 : Below wb.heap.size wb (wb.alloc (.cells #[.int .i64 0, .int .i64 0, .int .i64 0, .int .i64 0, .int .i64 0, .int .i64 0, .int .i64 0, .int .i64 0] 31)) := (Below.refl _ _).alloc (Nat.le_refl _) _
      have hg0 : Got (wb.alloc (.cells #[.int .i64 0, .int .i64 0, .int .i64 0, .int .i64 0, .int .i64 0, .int .i64 0, .int .i64 0, .int .i64 0] 31)) wb.heap.size ws m1 0 := by
        refine ⟨hsz, fun j hj => ?_⟩
        have hw0 := (wsum_bound ws j (fun i hi => hf.out i (by omega))).1
        rw [show ((0 : Nat) : Int) = 0 from rfl, gotv_start ws j hw0]
        have h8 : j = 0 ∨ j = 1 ∨ j = 2 ∨ j = 3 ∨ j = 4 ∨ j = 5 ∨ j = 6 ∨ j = 7 := by omega
        rcases h8 with rfl | rfl | rfl | rfl | rfl | rfl | rfl | rfl <;> simp
      have hB1 := hbel.size
      generalize hW1 : wb.alloc (.cells #[.int .i64 0, .int .i64 0, .int .i64 0, .int .i64 0, .int .i64 0, .int .i64 0, .int .i64 0, .int .i64 0] 31) = w1 at hsz hB0 hg0
      have HW1 := Lib.hid hW1
      clear hW1
      have HG := Lib.hid hg0
      clear hg0
      rcases hNe with ⟨h8, h8'⟩ | h8
      all_goals
        go_wp2
        rw [HW1.out]
        go_loopw [7] (fun x wi => ∃ k : Nat, x = .int .i64 k ∧ k ≤ S ∧ Hid (Got wi wb.heap.size ws m1 k) ∧ Below wb.heap.size wb wi) (fun x _ => S - (intOf x).toNat)
        case atStart => exact ⟨0, rfl, by omega, HG, hB0⟩
        case round =>
          obtain ⟨k, rfl, hkS, HGk, hbw⟩ := hrel
          by_cases hlt : k < S
          · obtain ⟨i, hiN, hp1, hp2⟩ := wsum_place ws m1 (k : Int) (by omega) (by rw [hS.out]; omega)
            have HP := Lib.hid (fun w hat => pick_ok k S k 0 i bo m1 c1 ws w (by omega) (by omega) hat hf hS (by omega) (by omega) (Lib.hid (Nat.mod_eq_of_lt hlt)) (Lib.hid (Nat.div_eq_of_lt hlt)) hiN (Lib.hid ⟨hp1, hp2⟩))
            have HV := Lib.hid (fun j (hj : j < m1) => gotv_same ws m1 i j (k : Int) hiN hj hf.out hp1 hp2)
            have HAk := HA.out.below hbw
            clear hp1 hp2
            go_wp2_with fail
            refine (HP.out _ HAk).mono ?_
            rintro e w2 ⟨rfl, b2⟩
            have hG2 := HGk.out.below b2
            have hbw2 := hbw.trans (b2.mono hbw.size)
            obtain ⟨ci, fi⟩ := hG2.2 i hiN
            have hbi := gotv_bound ws m1 i (k : Int) hiN hf.out
            have hG3 : Hid (Got (w2.setCell ⟨wb.heap.size, i, none⟩ (.int .i64 (gotv ws k i + 1))) wb.heap.size ws m1 (k + 1)) := Lib.hid (hG2.put i k hiN HV.out)
            clear hG2 HAk HGk b2
            generalize gotv ws k i = v at ci hbi hG3
            have hi8 : i < 8 := by omega
            go_wp2
            go_roundw
            case rel => exact ⟨k + 1, by go_num, by omega, hG3, hbw2.setCell (p := ⟨wb.heap.size, i, none⟩) (Nat.le_refl _) _⟩
            case measure => simp [intOf]; omega
          · obtain rfl : k = S := by omega
            have HAk := Lib.hid (HA.out.below hbw)
            have HV := Lib.hid (fun j (hj : j < m1) => gotv_end ws m1 j hj hf.out)
            rw [hS.out] at HV
            have hbw2 := hbel.trans (hbw.mono hbel.size)
            obtain ⟨w5, rfl⟩ : ∃ w5 : World, w5 = wr := ⟨_, rfl⟩
            clear HG
            go_wp2
            go_loopw [11] (fun x wi => ∃ j : Nat, x = .int .i64 j ∧ j ≤ m1 ∧ ∃ q, wi = w5.drewN q) (fun x _ => m1 - (intOf x).toNat)
            case atStart => exact ⟨0, rfl, by omega, 0, rfl⟩
            case round =>
              obtain ⟨j, rfl, hjm, q, rfl⟩ := hrel
              by_cases hlt2 : j < m1
              · obtain ⟨b, off, rfl, hbb, hc⟩ := HAk.out (by omega)
                have c5 : (w5.drewN q).cell? ⟨b, off + j, none⟩ = _ := hc j hlt2
                have c6 : (w5.drewN q).cell? ⟨wb.heap.size, j, none⟩ = _ := (HGk.out.2 j hlt2).1
                rw [HV.out j hlt2] at c6
                clear hc
                generalize ws.getD j 0 = v at c5 c6
                have hj8 : j < 8 := by omega
                generalize hwq : w5.drewN q = wq at c5 c6 ⊢
                have HW := Lib.hid hwq
                clear hwq
                go_wp2
                go_quiet (fail)
                go_wp2
                go_roundw
                case rel => exact ⟨j + 1, by go_num, by omega, _, by rw [← HW.out]; exact (World.drewN_drewN _ _ _)⟩
                case measure => simp [intOf]; omega
              · obtain rfl : j = m1 := by omega
                have hb6 := below_drewN hbw2 q
                go_wp2_with fail
                refine (awake08 _).mono ?_
                rintro e w7 ⟨rfl, b7⟩
                go_wp2
                go_ret
                exact ⟨rfl, hb6.trans (b7.mono hb6.size)⟩
theorem diceFair_walk {H : Type} {enc : TypeId × Value → H} (v : Value) (d : DataW H) (p : List MemPlace) (w : World)
    (hok : ∃ a len cap, v = .slice a len cap) (h : DataW.Trod enc Try.prog w 0 (fun _ => true) true 29 v d p) :
    Calls Try.prog 4 #[v] w fun e w' => e = .returned (.bool true) ∧ Below w.heap.size w w' := by
  obtain ⟨ao, len, cap, zs, rfl, hm, hrow⟩ := open_int_row Try.underlying29 Try.underlying5 (by kernel_rfl) hok h
  have hN : min len 8 ≤ 8 := Nat.min_le_right _ _
  have hNl : min len 8 ≤ len := Nat.min_le_left _ _
  obtain ⟨N, hNe⟩ : ∃ N, min len 8 = N := ⟨_, rfl⟩
  rw [hNe] at hN hNl
  have hor : (8 ≤ N ∧ N < len) ∨ len ≤ N := by omega
  have hzl := hrow.1
  have hg : ∀ i, i < N → ((zs.take N).map (· % 9)).getD i 0 = zs.getD i 0 % 9 := fun i hi => by
    rw [List.getD_eq_getElem?_getD, List.getElem?_map, List.getElem?_take_of_lt hi, List.getD_eq_getElem?_getD, List.getElem?_eq_getElem (by omega)]
    rfl
  have hf : ∀ i, i < N → fits (((zs.take N).map (· % 9)).getD i 0) := fun i hi => by
    rw [hg i hi]
    unfold fits
    omega
  have hwb := wsum_bound _ N hf
  have h8 : wsum ((zs.take N).map (· % 9)) N ≤ 64 := by
    have : ∀ k, k ≤ N → wsum ((zs.take N).map (· % 9)) k ≤ k * 8 := by
      intro k hk
      induction k with
      | zero => exact Int.le_refl _
      | succ k ih =>
        have h1 := ih (by omega)
        have h2 := hg k (by omega)
        show wsum _ k + List.getD _ k 0 ≤ _
        rw [h2]
        omega
    have := this N (Nat.le_refl _)
    omega
  refine diceFair_row ao len cap N zs ((zs.take N).map (· % 9)) (wsum ((zs.take N).map (· % 9)) N).toNat w hm hrow hN hNl hor ?_ (Lib.hid hg) (Lib.hid hf) (Lib.hid ?_) ?_
  · rw [List.length_map, List.length_take]; omega
  · omega
  · omega
end Go.Proofs.Ytnhnicjljbdjjaa
