/- Package plan: what Puts make of an image, plainly; Apply. -/
import Derived.Test.YtnlgkhggokloeaaPlL
namespace Go.Proofs.Ytnlgkhggokloeaa
open Go.RowKit Go.Deep
set_option linter.unusedVariables false
set_option linter.unusedSimpArgs false
def layF (F : Nat → ByteArray) (L : List Pu) : Nat → ByteArray := L.foldl (fun F p => upB F p.1.toNat p.2) F
theorem layF_snoc (F : Nat → ByteArray) (L : List Pu) (p : Pu) : layF F (L ++ [p]) = upB (layF F L) p.1.toNat p.2 := by unfold layF; rw [List.foldl_append]; rfl
def ImgF (F : Nat → ByteArray) : Prop := ∀ j, j < 288 → (F j).size = 64
theorem ImgF.up {F : Nat → ByteArray} (h : ImgF F) {k : Nat} {s : ByteArray} (hs : s.size = 64) : ImgF (upB F k s) := fun j hj => by
  unfold upB
  split
  · exact hs
  · exact h j hj
theorem blk_img {s : ByteArray} (h : s.size = 18432) : ImgF (blkP s) := fun j hj => by
  unfold blkP
  rw [ByteArray.size_extract]
  omega
theorem layF_img {F : Nat → ByteArray} (h : ImgF F) : ∀ {L : List Pu}, (∀ p ∈ L, okP p = 0) → ImgF (layF F L)
  | [], _ => h
  | p :: r, hp => layF_img (F := upB F p.1.toNat p.2) (h.up (okP_zero (hp p (by simp))).2.2) (fun q hq => hp q (by simp [hq]))
/-- What Apply comes to. -/
def appA (s : ByteArray) (L : List Pu) : ByteArray := if errA s L = 0 then catF (layF (blkP s) L) else ⟨#[]⟩
theorem errA_zero {s : ByteArray} {L : List Pu} (h : errA s L = 0) : s.size = 18432 ∧ ∀ p ∈ L, okP p = 0 := by
  unfold errA at h
  split at h
  · exact absurd h (by decide)
  · rename_i h1
    exact ⟨Classical.not_not.1 h1, errP_all h⟩
set_option maxRecDepth 100000 in
set_option maxHeartbeats 8000000 in
theorem apply_any (s : ByteArray) (ao : Option Addr) (c : Nat) (L : List Pu) (w : World) (hs : s.size ≤ 9223372036854775807) (hat : PuAt w ao L) (hn : L.length ≤ 50000) : Calls Try.prog 17 #[.string s, .slice ao L.length c] w fun e w' => e = .returned (.tuple #[.string (appA s L), .int .i64 (errA s L)]) ∧ Below w.heap.size w w' := by
  have HAT := Lib.hid hat
  have CR := Lib.hid (refused_any s ao c L w hs hat hn)
  obtain ⟨n, hnn⟩ : ∃ n, Hid (L.length = n) := ⟨_, Lib.hid rfl⟩
  obtain ⟨E, HE⟩ : ∃ E, Hid (errA s L = E) := ⟨_, Lib.hid rfl⟩
  rw [hnn.out] at hn CR ⊢
  rw [HE.out] at CR
  clear hat
  go_enter Try.func17, Try.ntmps17
  go_wp2_with fail
  refine CR.out.mono ?_
  rintro e w1 ⟨rfl, hb1⟩
  have HB1 := Lib.hid hb1
  clear CR hb1
  by_cases hE : E = 0
  · obtain ⟨hs1, hp1⟩ := errA_zero (HE.out.trans hE)
    have HP := Lib.hid hp1
    have HI := Lib.hid (blk_img hs1)
    have HA : Hid (appA s L = catF (layF (blkP s) L)) := Lib.hid (by unfold appA; rw [if_pos (HE.out.trans hE)])
    have CC := Lib.hid (changer_any s w1 hs1)
    subst hE
    clear hp1 hs1 hs
    go_wp2_with fail
    refine CC.out.mono ?_
    rintro e w2 ⟨b, rfl, hb, hr, hb2⟩
    have HB2 := Lib.hid (HB1.out.trans (hb2.mono HB1.out.size))
    have hNb : w.heap.size ≤ b := Nat.le_trans HB1.out.size hb
    have HR2 := Lib.hid hr
    clear CC hb2 HB1 hb hr
    go_wp2_with fail
    go_loopw [24] (fun s24 wi => ∃ i : Nat, s24 = .int .i64 (i : Int) ∧ i ≤ n ∧ Hid (BlAt wi b (layF (blkP s) (L.take i))) ∧ Hid (Below w.heap.size w wi)) (fun s24 _ => n - (intOf s24).toNat)
    case atStart => exact ⟨0, rfl, by omega, HR2, HB2⟩
    case round =>
      obtain ⟨i, rfl, hi, HR, HB⟩ := hrel
      by_cases hlt : i < n
      · as_aux_lemma =>
        have hli : (i : Int) < (n : Int) := by omega
        have hil : i < L.length := by rw [hnn.out]; exact hlt
        obtain ⟨g, o, rfl, hg, hc⟩ := HAT.out (by omega)
        have c0 := (HB.out.cell (p := ⟨g, o + i * 2, none⟩) hg).trans (hc i hil).1
        have c1 := (HB.out.cell (p := ⟨g, o + i * 2 + 1, none⟩) hg).trans (hc i hil).2
        obtain ⟨h0, h287, _⟩ := okP_zero (HP.out _ (List.getElem_mem hil))
        have HT : Hid (layF (blkP s) (L.take (i + 1)) = upB (layF (blkP s) (L.take i)) L[i].1.toNat L[i].2) := Lib.hid (by rw [take_snoc L i hil, layF_snoc])
        clear hc
        generalize layF (blkP s) (L.take i) = F at *
        generalize L[i] = z at *
        obtain ⟨x, t⟩ := z
        have h0 : 0 ≤ x := h0
        have h287 : x ≤ 287 := h287
        obtain ⟨k, rfl⟩ : ∃ k : Nat, x = (k : Int) := ⟨x.toNat, by omega⟩
        have HT : Hid (layF (blkP s) (L.take (i + 1)) = upB F k t) := Lib.hid (by rw [HT.out]; rfl)
        have c0 : wr.cell? ⟨g, o + i * 2, none⟩ = some (.int .i64 (k : Int)) := c0
        have c1 : wr.cell? ⟨g, o + i * 2 + 1, none⟩ = some (.string t) := c1
        have hbs := HB.out.size
        obtain ⟨w2, hw2⟩ : ∃ w2, wr.alloc (.cells #[.int .i64 (k : Int), .string t] 48) = w2 := ⟨_, rfl⟩
        obtain ⟨gx, hgx⟩ : ∃ gx, Hid (wr.heap.size = gx) := ⟨_, Lib.hid rfl⟩
        have b2 : Below wr.heap.size wr w2 := by rw [← hw2]; exact (Below.refl _ _).alloc (Nat.le_refl _) _
        have x0 : w2.cell? ⟨gx, 0, none⟩ = some (.int .i64 (k : Int)) := by rw [← hgx.out, ← hw2]; exact World.cell?_alloc_at _ _ _ _ rfl
        have x1 : w2.cell? ⟨gx, 1, none⟩ = some (.string t) := by rw [← hgx.out, ← hw2]; exact World.cell?_alloc_at _ _ _ _ rfl
        have HR2 : Hid (BlAt w2 b F) := Lib.hid (by rw [← hw2]; exact World.rowIs.alloc HR.out _)
        have HB2 := Lib.hid (HB.out.trans (b2.mono hbs))
        have CL := Lib.hid (lay_any w.heap.size b k t F w2 HR2.out (by omega) hNb)
        unfold putV at CL
        have HW2 := Lib.hid hw2
        have heg := lay_enter
        clear hw2 b2 HR HB HR2
        go_upto_region 8 with fail
        rw [HW2.out, hgx.out]
        clear HW2 c0 c1
        go_wp2_with fail
        refine CL.out.mono ?_
        rintro e w3 ⟨rfl, hr3, hb3⟩
        have HR3 := Lib.hid hr3
        have HB3 := Lib.hid (HB2.out.trans hb3)
        clear CL HB2 hr3 hb3
        go_wp2_with fail
        go_roundw
        case rel => exact ⟨i + 1, by go_num, by omega, Lib.hid (by rw [HT.out]; exact HR3.out), HB3⟩
        case measure => simp [intOf]; omega
      · as_aux_lemma =>
        have hli : ¬ (i : Int) < (n : Int) := by omega
        have hin : i = n := by omega
        have hr := HR.out
        rw [hin, ← hnn.out, List.take_length] at hr
        have CT := Lib.hid (told_any b _ wr hr (layF_img HI.out HP.out))
        have heg := told_enter
        rw [← HA.out] at CT
        clear HR hr
        go_wp2_with fail
        refine CT.out.mono ?_
        rintro e w3 ⟨rfl, hb3⟩
        have HB3 := Lib.hid (HB.out.trans (hb3.mono HB.out.size))
        clear CT hb3
        go_wp2_with fail
        go_ret2
        rw [HE.out]
        exact ⟨rfl, HB3.out⟩
  · have hE1 : (E != 0) = true := by simpa using hE
    have HA : Hid (appA s L = ⟨#[]⟩) := Lib.hid (by unfold appA; rw [if_neg (by rw [HE.out]; exact hE)])
    go_wp2_with fail
    go_ret2
    rw [HA.out, HE.out]
    exact ⟨rfl, HB1.out⟩
end Go.Proofs.Ytnlgkhggokloeaa
