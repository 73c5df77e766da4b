/- Level: LevelOne. -/
import Derived.Test.YtdoeaepfjdjmmaaLwK
namespace Go.Proofs.Ytdoeaepfjdjmmaa
open Go.RowKit Go.Deep Go.ChangeShapes Go.WideShapes
set_option linter.unusedVariables false
set_option linter.unusedSimpArgs false
/-- The things of the first r rows. -/
def lowR (R : Nat → List Nat) : Nat → List Nat
  | 0 => []
  | r + 1 => lowR R r ++ R r
def cntI (M : List Nat) (i : Nat) : Int := if i ∈ M then 1 else 0
theorem low_mem {R : Nat → List Nat} {r i : Nat} : i ∈ lowR R r ↔ ∃ m, m < r ∧ i ∈ R m := by
  induction r with
  | zero => simp [lowR]
  | succ r ih =>
    unfold lowR
    rw [List.mem_append, ih]
    constructor
    · rintro (⟨m, h1, h2⟩ | h)
      · exact ⟨m, by omega, h2⟩
      · exact ⟨r, by omega, h⟩
    · rintro ⟨m, h1, h2⟩
      by_cases e : m = r
      · exact Or.inr (e ▸ h2)
      · exact Or.inl ⟨m, by omega, h2⟩
theorem low_new {n : Nat} {R : Nat → List Nat} (h : RowsOk n R) {r j : Nat} (hr : r < 4) (hj : j < (R r).length) : (R r)[j] ∉ lowR R r ++ (R r).take j := by
  rw [List.mem_append]
  rintro (hh | hh)
  · obtain ⟨m, h1, h2⟩ := low_mem.1 hh
    have := h.one m r _ (by omega) hr h2 (List.getElem_mem hj)
    omega
  · obtain ⟨i, hi, e⟩ := List.mem_take_iff_getElem.1 hh
    have h1 := posL_at (h.nd r hr) i (by omega)
    have h2 := posL_at (h.nd r hr) j hj
    rw [e] at h1
    omega
theorem cnt_snoc (M : List Nat) (x : Nat) : ∀ i, cntI (M ++ [x]) i = if i = x then 1 else cntI M i := fun i => by
  unfold cntI
  by_cases e : i = x
  · subst e; rw [if_pos (by simp), if_pos rfl]
  · rw [if_neg e]
    by_cases h : i ∈ M
    · rw [if_pos h, if_pos (by simp [h])]
    · rw [if_neg h, if_neg (by simp [h, e])]
theorem cnt_lvl (R : Nat → List Nat) (i : Nat) : cntI (lowR R 4) i = if lvl R i = -1 then 0 else 1 := by
  unfold cntI
  rcases lvl_cases R i with ⟨h1, h2⟩ | ⟨l, h0, h1, h2⟩
  · rw [if_pos h1, if_neg]
    intro hh
    obtain ⟨m, hm, hx⟩ := low_mem.1 hh
    exact h2 m hm hx
  · rw [if_pos (low_mem.2 ⟨l, h0, h2⟩), if_neg (by omega)]
theorem ints_set {w : World} {ao : Option Addr} {len sb k : Nat} {zs : List Int} {v : Value} (h : IntsAt w ao len zs) (hne : ∀ b o, ao = some ⟨b, o, none⟩ → b ≠ sb) : IntsAt (w.setCell ⟨sb, k, none⟩ v) ao len zs := fun hp => by
  obtain ⟨b, o, e, hb, hc⟩ := h hp
  refine ⟨b, o, e, Nat.lt_of_lt_of_le hb ((Below.refl 0 w).setCell (p := ⟨sb, k, none⟩) (Nat.zero_le _) v).size, fun i hi => ?_⟩
  exact (World.cell?_of_block (a := ⟨b, o + i, none⟩) (Below.heap_setCell w ⟨sb, k, none⟩ v b (hne b o e))).trans (hc i hi)
theorem own_ne {w : World} {base n sb : Nat} {ao : Option Addr} {c : Nat} {xs : List Value} (h : w.ownsRow base 3 1 (.slice ao n c) n xs) (hb : sb < base) : ∀ b o, ao = some ⟨b, o, none⟩ → b ≠ sb := fun b o e => by
  subst e
  rcases h.2 with ⟨h1, _⟩ | ⟨g, cap, cur, h1, h2, _⟩
  · cases h1
  · injection h1 with h1
    injection h1 with h1
    injection h1 with h1
    omega
theorem QR.setCell {w : World} {g n sb k : Nat} {R : Nat → List Nat} {v : Value} (q : QR w g n R) (hne : g ≠ sb) : QR (w.setCell ⟨sb, k, none⟩ v) g n R := by
  obtain ⟨F, hQ, hO⟩ := q
  exact ⟨F, hQ.block (Below.heap_setCell w ⟨sb, k, none⟩ v g hne), hO⟩
/-- The counts. -/
def Sn (w : World) (sb : Nat) (M : List Nat) : Prop := w.rowIs sb 38 16 (fun i => .int .i64 (cntI M i))
theorem sn_new (w : World) : Sn (w.alloc (.cells #[.int .i64 0, .int .i64 0, .int .i64 0, .int .i64 0, .int .i64 0, .int .i64 0, .int .i64 0, .int .i64 0, .int .i64 0, .int .i64 0, .int .i64 0, .int .i64 0, .int .i64 0, .int .i64 0, .int .i64 0, .int .i64 0] 38)) w.heap.size [] := by
  have := World.rowIs_alloc w (Array.replicate 16 (.int .i64 0)) 38 (fun _ => .int .i64 0) (fun i hi => by
    rw [Array.getElem?_replicate, if_pos (by simpa using hi)])
  exact this.congr (fun i hi => by unfold cntI; rw [if_neg (by simp)])
theorem Sn.set {w : World} {sb x : Nat} {M : List Nat} (h : Sn w sb M) : Sn (w.setCell ⟨sb, x, none⟩ (.int .i64 1)) sb (M ++ [x]) :=
  (World.rowIs.set h x (.int .i64 1)).congr (fun i hi => by rw [cnt_snoc]; split <;> rfl)
set_option maxRecDepth 100000 in
set_option maxHeartbeats 8000000 in
theorem one_law (z : Nat) (ao : Option Addr) (len cap : Nat) (w : World) (hz : z < 256) (hl : len ≤ 9223372036854775807) (hA : ActRow w ao len) : Calls Try.prog 4 #[.int .u8 (z : Int), .slice ao len cap] w fun e w' => e = .returned (.bool true) ∧ Below w.heap.size w w' := by
  obtain ⟨n, hn⟩ : ∃ n, z % 16 + 1 = n := ⟨_, rfl⟩
  have h1 : 1 ≤ n := by omega
  have h16 : n ≤ 16 := by omega
  have CN := Lib.hid (newQ_ok n w h1 h16)
  have HA := Lib.hid hA
  clear hA
  go_enter Try.func4, Try.ntmps4
  go_upto_region 1 with fail
  go_cut [5] from 19 to 22 (fun s7 wx => s7 = .int .i64 (n : Int) ∧ w = wx)
  case first =>
    go_wp2_with fail
    go_meet
    exact ⟨by congr 1; omega, rfl⟩
  case rest =>
  obtain ⟨rfl, rfl⟩ := hcut
  go_wp2_with fail
  refine CN.out.mono ?_
  rintro e w1 ⟨g, rfl, q1, hg, b1⟩
  have HQ1 := Lib.hid (bq_start q1 hg b1.size)
  have HB1 := Lib.hid (b1.alloc b1.size (.cells #[.slice none 0 0, .slice none 0 0, .slice none 0 0, .slice none 0 0] 32))
  clear q1 b1 CN hn
  obtain ⟨h, hh⟩ : ∃ h, Hid (w1.heap.size = h) := ⟨_, Lib.hid rfl⟩
  rw [hh.out] at HQ1
  obtain ⟨w2, hw2⟩ : ∃ w2, Hid (w1.alloc (.cells #[.slice none 0 0, .slice none 0 0, .slice none 0 0, .slice none 0 0] 32) = w2) := ⟨_, Lib.hid rfl⟩
  rw [hw2.out] at HQ1 HB1
  go_upto_region 4 with fail
  rw [hw2.out, hh.out]
  clear hw2 hh
  have CA := Lib.hid (awake24 w2)
  go_wp2_with fail
  refine CA.out.mono ?_
  rintro e w3 ⟨rfl, b3⟩
  have HQ3 := Lib.hid (HQ1.out.below b3)
  have HB3 := Lib.hid (HB1.out.trans (b3.mono HB1.out.size))
  clear b3 CA HQ1 HB1
  go_wp2_with fail
  go_loopw [9, 10, 11, 12, 13, 14, 15, 16, 17, 18] (fun s8 _ _ _ _ _ _ _ _ _ wi => ∃ (k : Nat) (R : Nat → List Nat), s8 = .int .i64 (k : Int) ∧ k ≤ len ∧ Hid (Bq w.heap.size wi g h n R R) ∧ Hid (Below w.heap.size w wi)) (fun s8 _ _ _ _ _ _ _ _ _ _ => len - (intOf s8).toNat)
  case atStart => exact ⟨0, _, rfl, by omega, HQ3, HB3⟩
  case round =>
    obtain ⟨k, R, rfl, hk, HQ, HB⟩ := hrel
    clear HQ3 HB3
    by_cases hgo : k < len ∧ k < 60
    · have hlt' : (k : Int) < (len : Int) := by omega
      have h60' : (k : Int) < 60 := by omega
      have hlt := hgo.1
      obtain ⟨b, off, rfl, hb, hcs⟩ := HA.out (by omega)
      obtain ⟨x, t, m, m1, m2, c0, c1, c2⟩ := hcs k hlt
      have d0 := (HB.out.cell (p := ⟨b, off + k * 3, none⟩) hb).trans c0
      have d1 := (HB.out.cell (p := ⟨b, off + k * 3 + 1, none⟩) hb).trans c1
      have d2 := (HB.out.cell (p := ⟨b, off + k * 3 + 2, none⟩) hb).trans c2
      have CD := Lib.hid (lwdo_any w.heap.size g h n R R x t m wr HQ.out m1 m2)
      clear hcs c0 c1 c2
      go_wp2_with fail
      refine CD.out.mono ?_
      rintro e w5 ⟨bb, rfl, hbb, q5, k5⟩
      have HQ5 := Lib.hid q5
      have HB5 := Lib.hid (HB.out.trans k5.below)
      clear q5 k5 CD HQ HB d0 d1 d2 hbb
      go_wp2_with fail
      obtain ⟨R', hR'⟩ : ∃ R', actR n R x t m = R' := ⟨_, rfl⟩
      rw [hR'] at HQ5
      clear hR'
      have HOK := Lib.hid HQ5.out.q.ok
      have hBw5 := HQ5.out.bw
      have hg5 := HQ5.out.glt
      obtain ⟨sb, hsb⟩ : ∃ sb, Hid (w5.heap.size = sb) := ⟨_, Lib.hid rfl⟩
      have HS0 := Lib.hid (sn_new w5)
      have HD0 := Lib.hid ((Below.refl w5.heap.size w5).alloc (Nat.le_refl _) (.cells #[.int .i64 0, .int .i64 0, .int .i64 0, .int .i64 0, .int .i64 0, .int .i64 0, .int .i64 0, .int .i64 0, .int .i64 0, .int .i64 0, .int .i64 0, .int .i64 0, .int .i64 0, .int .i64 0, .int .i64 0, .int .i64 0] 38))
      obtain ⟨wa, hwa⟩ : ∃ wa, Hid (w5.alloc (.cells #[.int .i64 0, .int .i64 0, .int .i64 0, .int .i64 0, .int .i64 0, .int .i64 0, .int .i64 0, .int .i64 0, .int .i64 0, .int .i64 0, .int .i64 0, .int .i64 0, .int .i64 0, .int .i64 0, .int .i64 0, .int .i64 0] 38) = wa) := ⟨_, Lib.hid rfl⟩
      rw [hwa.out, hsb.out] at HS0
      rw [hwa.out] at HD0
      have hgs : g ≠ sb := by rw [← hsb.out]; omega
      have hs5 : w5.heap.size ≤ sb := by rw [hsb.out]; exact Nat.le_refl _
      have HQ6 := Lib.hid (HQ5.out.q.below HD0.out)
      rw [hwa.out, hsb.out]
      clear hwa hsb
      go_loopw [11, 12, 13, 14, 15] (fun s11 _ _ _ _ wi => ∃ r : Nat, s11 = .int .i64 (r : Int) ∧ r ≤ 4 ∧ Hid (QR wi g n R') ∧ Hid (Sn wi sb (lowR R' r)) ∧ Hid (Below w5.heap.size w5 wi)) (fun s11 _ _ _ _ _ => 4 - (intOf s11).toNat)
      case atStart => exact ⟨0, rfl, by omega, HQ6, HS0, HD0⟩
      case round =>
        obtain ⟨r, rfl, hr, HQ7, HS7, HD7⟩ := hrel
        clear HQ6 HS0 HD0
        by_cases hr4 : r < 4
        · have hr4' : (r : Int) < 4 := by omega
          have CR := Lib.hid (list_any g n R' (r : Int) wr HQ7.out)
          rw [show rowL R' (r : Int) = R' r by unfold rowL; rw [if_pos (by omega), Int.toNat_natCast]] at CR
          obtain ⟨L, hL⟩ : ∃ L, Hid (R' r = L) := ⟨_, Lib.hid rfl⟩
          rw [hL.out] at CR
          have hsw : sb < wr.heap.size := World.rowIs.lt HS7.out
          go_wp2_with fail
          refine CR.out.mono ?_
          rintro e w7 ⟨v, base, rfl, hbase, ho, b7⟩
          obtain ⟨a7, c7, rfl, hat⟩ := own_zi ho
          have HNE := Lib.hid (own_ne (xs := nvL L) ho (by omega : sb < base))
          have HQ8 := Lib.hid (HQ7.out.below b7)
          have HS8 : Hid (Sn w7 sb (lowR R' r ++ L.take 0)) := Lib.hid (by rw [List.take_zero, List.append_nil]; exact World.rowIs.of_block HS7.out (b7.block sb hsw))
          have HD8 := Lib.hid (HD7.out.trans (b7.mono HD7.out.size))
          have HAT := Lib.hid hat
          clear ho b7 CR HQ7 HS7 HD7 hat
          obtain ⟨rl, hrl⟩ : ∃ z, Hid (L.length = z) := ⟨_, Lib.hid rfl⟩
          rw [hrl.out] at HAT ⊢
          have hrl16 : rl ≤ 16 := by rw [← hrl.out, ← hL.out]; exact HOK.out.len h16 r hr4
          go_wp2_with fail
          go_loopw [13, 14, 15] (fun s13 _ _ wi => ∃ j : Nat, s13 = .int .i64 (j : Int) ∧ j ≤ rl ∧ Hid (QR wi g n R') ∧ Hid (Sn wi sb (lowR R' r ++ L.take j)) ∧ Hid (IntsAt wi a7 rl (ziL L)) ∧ Hid (Below w5.heap.size w5 wi)) (fun s13 _ _ _ => rl - (intOf s13).toNat)
          case atStart => exact ⟨0, rfl, by omega, HQ8, HS8, HAT, HD8⟩
          case round =>
            obtain ⟨j, rfl, hj, HQ9, HS9, HAT9, HD9⟩ := hrel
            clear HQ8 HS8 HAT HD8
            by_cases hjr : j < rl
            · have hjr' : (j : Int) < (rl : Int) := by omega
              have hjL : j < L.length := by rw [hrl.out]; exact hjr
              have hnew : L[j] ∉ lowR R' r ++ L.take j := by
                have := hL.out
                subst this
                exact low_new HOK.out hr4 hjL
              obtain ⟨b7, o7, e7, hb7, hc7⟩ := HAT9.out (by omega)
              have c1 := hc7 j hjr
              rw [zi_get hjL] at c1
              have hxm : L[j] ∈ R' r := by rw [hL.out]; exact List.getElem_mem hjL
              have hxn : L[j] < n := HOK.out.lt r hr4 _ hxm
              have hlv : lvl R' L[j] = (r : Int) := lvl_of hr4 hxm fun y hy hy' => HOK.out.one y r _ hy hr4 hy' hxm
              have hmis : misA R' n (L[j] : Int) = 0 := by unfold misA; rw [if_neg (by omega), Int.toNat_natCast, hlv, if_neg (by omega)]
              have CV := Lib.hid (level_any g n R' (L[j] : Int) wr HQ9.out)
              rw [hmis, if_pos rfl, Int.toNat_natCast, hlv] at CV
              have htk : L.take (j + 1) = L.take j ++ [L[j]] := List.take_succ_eq_append_getElem hjL
              have HS10 : Hid (Sn (wr.setCell ⟨sb, L[j], none⟩ (.int .i64 1)) sb (lowR R' r ++ L.take (j + 1))) := Lib.hid (by rw [htk, ← List.append_assoc]; exact HS9.out.set)
              have HA10 : Hid (IntsAt (wr.setCell ⟨sb, L[j], none⟩ (.int .i64 1)) a7 rl (ziL L)) := Lib.hid (ints_set HAT9.out HNE.out)
              have HQ10 : Hid (QR (wr.setCell ⟨sb, L[j], none⟩ (.int .i64 1)) g n R') := Lib.hid (HQ9.out.setCell hgs)
              have HD10 : Hid (Below w5.heap.size w5 (wr.setCell ⟨sb, L[j], none⟩ (.int .i64 1))) := Lib.hid (HD9.out.setCell (p := ⟨sb, L[j], none⟩) hs5 _)
              have c2 := HS9.out.cell (i := L[j]) (by omega)
              have f2 := World.rowIs.frozen HS9.out L[j]
              have hc0 : cntI (lowR R' r ++ L.take j) L[j] = 0 := by unfold cntI; rw [if_neg hnew]
              rw [hc0] at c2
              have c3 := HS10.out.cell (i := L[j]) (by omega)
              have hc1 : cntI (lowR R' r ++ L.take (j + 1)) L[j] = 1 := by unfold cntI; rw [if_pos (List.mem_append_right _ (by rw [htk]; exact List.mem_append_right _ (List.mem_singleton.2 rfl)))]
              rw [hc1] at c3
              have c4 : (wr.setCell ⟨sb, L[j], none⟩ (.int .i64 1)).cell? ⟨b7, o7 + j, none⟩ = some (.int .i64 (L[j] : Int)) := (World.cell?_of_block (a := ⟨b7, o7 + j, none⟩) (Below.heap_setCell wr ⟨sb, L[j], none⟩ _ b7 (HNE.out b7 o7 e7))).trans c1
              generalize L[j] = q at *
              have hq16 : (q : Int) < 16 := by omega
              have hqn : ¬ (n : Int) ≤ (q : Int) := by omega
              have hqn2 : (q : Int) < (n : Int) := by omega
              have hq0 : ¬ (q : Int) < 0 := by omega
              clear hnew hc7 hxm hlv hmis htk hc0 hc1 hb7 HS9 HAT9 HQ9 HD9
              subst e7
              go_wp2_with fail
              refine CV.out.mono ?_
              rintro e w8 ⟨rfl, rfl⟩
              clear CV
              go_wp2_with fail
              go_roundw
              case rel => exact ⟨j + 1, by go_num, by omega, HQ10, HS10, HA10, HD10⟩
              case measure => simp [intOf]; omega
            · have hjr' : ¬ (j : Int) < (rl : Int) := by omega
              obtain rfl : j = rl := by omega
              have HS11 : Hid (Sn wr sb (lowR R' (r + 1))) := Lib.hid (by
                have := HS9.out
                rw [List.take_of_length_le (by rw [hrl.out]; exact Nat.le_refl _), ← hL.out] at this
                exact this)
              clear HS9 HAT9
              go_wp2_with fail
              go_roundw
              case rel => exact ⟨r + 1, by go_num, by omega, HQ9, HS11, HD9⟩
              case measure => simp [intOf]; omega
        · obtain rfl : r = 4 := by omega
          rw [show ((4 : Nat) : Int) = 4 from rfl]
          go_wp2_with fail
          go_loopw [16, 17, 18] (fun s16 _ _ wi => ∃ j : Nat, s16 = .int .i64 (j : Int) ∧ j ≤ n ∧ wr = wi) (fun s16 _ _ _ => n - (intOf s16).toNat)
          case atStart => exact ⟨0, rfl, by omega, rfl⟩
          case round =>
            obtain ⟨j, rfl, hj, rfl⟩ := hrel
            by_cases hjn : j < n
            · have hjn' : (j : Int) < (n : Int) := by omega
              have hj16 : (j : Int) < 16 := by omega
              have CV := Lib.hid (level_any g n R' (j : Int) wr HQ7.out)
              have c1 := HS7.out.cell (i := j) (by omega)
              rw [cnt_lvl] at c1
              by_cases hv : lvl R' j = -1
              · have hmis : ¬ misA R' n (j : Int) = 0 := by unfold misA; rw [if_neg (by omega), Int.toNat_natCast, hv, if_pos rfl]; decide
                rw [if_neg hmis] at CV
                rw [if_pos hv] at c1
                clear hv hmis
                go_wp2_with fail
                refine CV.out.mono ?_
                rintro e w8 ⟨rfl, rfl⟩
                clear CV
                go_wp2_with fail
                go_roundw
                case rel => exact ⟨j + 1, by go_num, by omega, by first | rfl | trivial⟩
                case measure => simp [intOf]; omega
              · have hmis : misA R' n (j : Int) = 0 := by unfold misA; rw [if_neg (by omega), Int.toNat_natCast, if_neg hv]
                rw [if_pos hmis] at CV
                rw [if_neg hv] at c1
                obtain ⟨y, hy⟩ : ∃ y, lvl R' (j : Int).toNat = y := ⟨_, rfl⟩
                rw [hy] at CV
                clear hv hmis hy
                go_wp2_with fail
                refine CV.out.mono ?_
                rintro e w8 ⟨rfl, rfl⟩
                clear CV
                go_wp2_with fail
                go_roundw
                case rel => exact ⟨j + 1, by go_num, by omega, by first | rfl | trivial⟩
                case measure => simp [intOf]; omega
            · obtain rfl : j = n := by omega
              have hjn' : ¬ (j : Int) < (j : Int) := by omega
              have HQE := Lib.hid (HQ5.out.below HD7.out)
              have HBE := Lib.hid (HB5.out.trans (HD7.out.mono HB5.out.size))
              go_wp2_with fail
              go_roundw
              case rel => exact ⟨k + 1, _, by go_num, by omega, HQE, HBE⟩
              case measure => simp [intOf]; omega
    · rcases (show ¬ (k : Int) < (len : Int) ∨ ((k : Int) < (len : Int) ∧ ¬ (k : Int) < 60) by omega) with hx | ⟨hx, hy⟩
      all_goals
        go_wp2_with fail
        go_ret
        exact ⟨rfl, HB.out⟩
section
variable {H : Type} {enc : TypeId × Value → H}
theorem levelOne_walk (n : Int) (v : Value) (d : DataW H) (p : List MemPlace) (w : World) (hn : (Lit.int .u8 n).wf = true) (hv : ∃ a len cap, v = .slice a len cap) (h : DataW.Trod enc Try.prog w 0 (fun _ => true) true 22 v d p) :
    Calls Try.prog 4 #[.int .u8 n, v] w fun e w' => e = .returned (.bool true) ∧ Below w.heap.size w w' := by
  obtain ⟨ao, len, cap, rfl, hl, hA⟩ := open_acts24 hv h
  have hb := u8_in hn
  obtain ⟨z, rfl⟩ : ∃ z : Nat, n = (z : Int) := ⟨n.toNat, by omega⟩
  exact one_law z ao len cap w (by omega) (by unfold maxLen at hl; exact hl) hA
end
end Go.Proofs.Ytdoeaepfjdjmmaa
