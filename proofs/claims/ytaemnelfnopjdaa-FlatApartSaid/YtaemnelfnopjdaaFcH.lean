/- The reference of flat: Crash. -/
import Derived.Test.YtaemnelfnopjdaaFcF
import Derived.Test.YtaemnelfnopjdaaFbC
namespace Go.Proofs.Ytaemnelfnopjdaa
open Go.RowKit Go.Deep Go.Maps
set_option linter.unusedVariables false
set_option linter.unusedSimpArgs false
/-- Texts without doubles, in the order in which they came. -/
def addT (L : List (List UInt8)) (s : List UInt8) : List (List UInt8) := if s ∈ L then L else L ++ [s]
def dedT (xs : List (List UInt8)) : List (List UInt8) := xs.foldl addT []
theorem dedT_snoc (xs : List (List UInt8)) (s : List UInt8) : dedT (xs ++ [s]) = addT (dedT xs) s := by unfold dedT; rw [List.foldl_append]; rfl
theorem addT_len (L : List (List UInt8)) (s : List UInt8) : (addT L s).length ≤ L.length + 1 := by
  unfold addT; split
  · omega
  · simp
theorem foldl_addT_len : ∀ (xs L : List (List UInt8)), (xs.foldl addT L).length ≤ L.length + xs.length
  | [], L => by simp
  | x :: xs, L => by
    have h1 := foldl_addT_len xs (addT L x)
    have h2 := addT_len L x
    rw [List.foldl_cons, List.length_cons]; omega
theorem dedT_len (xs : List (List UInt8)) : (dedT xs).length ≤ xs.length := by
  have := foldl_addT_len xs []
  unfold dedT; simpa using this
def crR (cs : List RC) (i : Nat) : List (List UInt8) := (cs.take i).flatMap RC.L
theorem crR_succ (cs : List RC) (i : Nat) (h : i < cs.length) : crR cs (i + 1) = crR cs i ++ cs[i].L := by
  unfold crR
  rw [← List.take_append_getElem h, List.flatMap_append]; simp
theorem crR_in (cs : List RC) (i : Nat) (h : i < cs.length) (k : Nat) : (crR cs i ++ cs[i].L.take k).length ≤ (cs.flatMap RC.L).length := by
  have h1 : (cs.flatMap RC.L) = crR cs (i + 1) ++ (cs.drop (i + 1)).flatMap RC.L := by
    unfold crR; rw [← List.flatMap_append, List.take_append_drop]
  rw [h1, crR_succ cs i h]
  simp only [List.length_append, List.length_take]
  omega
theorem crR_le (cs : List RC) (i : Nat) : (crR cs i).length ≤ (cs.flatMap RC.L).length := by
  have h1 : (cs.flatMap RC.L) = crR cs i ++ (cs.drop i).flatMap RC.L := by
    unfold crR; rw [← List.flatMap_append, List.take_append_drop]
  rw [h1, List.length_append]; omega
theorem in_takeH {L : List (List UInt8)} {x : List UInt8} {j : Nat} (h : j < L.length) {b c : Bool} (hb : b = decide (x ∈ L.take j)) (hc : c = decide (L[j] = x)) : (b || c) = decide (x ∈ L.take (j + 1)) := by
  subst hb hc
  rw [← List.take_append_getElem h]
  simp only [List.mem_append, List.mem_singleton, Bool.decide_or]
  congr 2
  exact propext eq_comm
set_option maxRecDepth 100000 in
set_option maxHeartbeats 8000000 in
theorem rcrash_any {w : World} {B g n gc cap : Nat} {cs : List RC} (h : RfW w B g n cs gc cap) (hB : B ≤ w.heap.size) (hne : cs ≠ []) (hl : cs.length ≤ 1000000) (hL : (cs.flatMap RC.L).length ≤ 1000000) : Calls Try.prog 29 #[.pointer (some ⟨g, 0, none⟩)] w fun e w' => e = .returned (.tuple #[]) ∧ ∃ new gc' cap', RfW w' B g n new gc' cap' ∧ new.map RC.L = (dedT (cs.flatMap RC.L)).map (fun x => [x]) ∧ Kq B [g] w w' ∧ (∀ c ∈ new, w.heap.size ≤ c.b) ∧ w.heap.size ≤ gc' := by
  obtain ⟨ic, hic, cz0, cz1, cz2⟩ := info_partsF info_rc
  obtain ⟨is, his, sz0, sz1, sz2⟩ := info_partsF info_str'
  have H := Lib.hid h
  have HIN := Lib.hid (fun i (hi : i < cs.length) k => Nat.le_trans (dedT_len _) (Nat.le_trans (crR_in cs i hi k) hL))
  have HINC := Lib.hid (fun i (hi : i < cs.length) => Nat.le_trans (crR_in cs i hi cs[i].L.length) hL)
  have HSUC := Lib.hid (crR_succ cs)
  have hcap := h.cap
  obtain ⟨m, hm⟩ : ∃ m, Hid (cs.length = m) := ⟨_, Lib.hid rfl⟩
  obtain ⟨B1, hB1⟩ : ∃ B1, Hid (w.heap.size = B1) := ⟨_, Lib.hid rfl⟩
  have HFIN : Hid (crR cs m = cs.flatMap RC.L) := Lib.hid (by unfold crR; rw [List.take_of_length_le (by rw [hm.out]; exact Nat.le_refl _)])
  have HLEN0 := Lib.hid (Nat.le_trans (dedT_len (cs.flatMap RC.L)) hL)
  have HNE0 : Hid (dedT (cs.flatMap RC.L) ≠ []) := Lib.hid (by
    obtain ⟨c, hc⟩ := List.exists_mem_of_ne_nil _ hne
    obtain ⟨_, _, hn, _⟩ := h.row c hc
    obtain ⟨x, hx⟩ := List.exists_mem_of_ne_nil _ hn
    have hx2 : x ∈ cs.flatMap RC.L := List.mem_flatMap.2 ⟨c, hc, hx⟩
    intro e
    have key : ∀ (xs L : List (List UInt8)), L ≠ [] ∨ xs ≠ [] → xs.foldl addT L ≠ [] := by
      intro xs
      induction xs with
      | nil => intro L hL; simpa using hL
      | cons y ys ih =>
        intro L _
        rw [List.foldl_cons]
        refine ih _ (Or.inl ?_)
        unfold addT; split
        · rename_i hy; exact List.ne_nil_of_mem hy
        · simp
    exact key _ [] (Or.inr (List.ne_nil_of_mem hx2)) e)
  have c1 := cell_of_row w g 1 _ _ _ h.hg
  rw [hm.out] at hl hcap c1
  have hglt := h.lt
  have HB := Lib.hid hB
  clear h hL hB hne
  go_enter Try.func29, Try.ntmps29
  go_wp2_with fail
  go_loopw [2, 3] (fun s2 s3 wi => ∃ (i na : Nat) (va : Option Addr) (ca : Nat), s2 = .slice va na ca ∧ s3 = .int .i64 (i : Int) ∧ i ≤ m ∧ Hid ((dedT (crR cs i)).length = na) ∧ Hid (wi.ownsRow B1 9 1 (.slice va na ca) na (strF (dedT (crR cs i)))) ∧ Hid (Below w.heap.size w wi)) (fun _ s3 _ => m - (intOf s3).toNat)
  case atStart => exact ⟨0, 0, none, 0, rfl, rfl, by omega, Lib.hid rfl, Lib.hid (World.ownsRow_nil _ _ _ _), Lib.hid (Below.refl _ _)⟩
  case round =>
    obtain ⟨i, na, va, ca, rfl, rfl, hi, hna, HA, HW⟩ := hrel
    have HC1 := Lib.hid c1
    have c1 := (HW.out.cell (p := ⟨g, 1, none⟩) hglt).trans c1
    by_cases him : i < m
    · as_aux_lemma =>
      have hil : i < cs.length := by rw [hm.out]; exact him
      have hmem := List.getElem_mem hil
      have HCI := Lib.hid (H.out.cell i hil)
      have HROW := Lib.hid (H.out.row _ hmem)
      have HIN2 := Lib.hid (HIN.out i hil)
      have HLC : Hid (cs[i].L.length ≤ 1000000) := Lib.hid (by have := HINC.out i hil; rw [List.length_append, List.take_of_length_le (Nat.le_refl _)] at this; omega)
      have HSU := Lib.hid (HSUC.out i hil)
      obtain ⟨c, hcc⟩ : ∃ c, Hid (cs[i] = c) := ⟨_, Lib.hid rfl⟩
      rw [hcc.out] at HCI HROW HIN2 HSU HLC
      have hll := HLC.out
      have hc := (HW.out.cell (p := ⟨gc, i, none⟩) H.out.lc).trans HCI.out
      unfold rcV at hc
      obtain ⟨bb, hbb⟩ : ∃ bb, Hid (c.b = bb) := ⟨_, Lib.hid rfl⟩
      obtain ⟨cc, hcap2⟩ : ∃ cc, Hid (c.cap = cc) := ⟨_, Lib.hid rfl⟩
      obtain ⟨ll, hlc⟩ : ∃ ll, Hid (c.L.length = ll) := ⟨_, Lib.hid rfl⟩
      rw [hbb.out, hcap2.out, hlc.out] at hc
      rw [hlc.out] at hll
      have hji : (i : Int) < (m : Int) := by omega
      obtain ⟨X0, hX0⟩ : ∃ X0, Hid (crR cs i = X0) := ⟨_, Lib.hid rfl⟩
      rw [hX0.out] at hna HA HIN2 HSU
      have HA0 : Hid (wr.ownsRow B1 9 1 (.slice va na ca) na (strF (dedT (X0 ++ c.L.take 0)))) := Lib.hid (by rw [List.take_zero, List.append_nil]; exact HA.out)
      have HN0 : Hid ((dedT (X0 ++ c.L.take 0)).length = na) := Lib.hid (by rw [List.take_zero, List.append_nil]; exact hna.out)
      clear hmem HA hna
      go_upto_block 0 with fail
      go_loopw [2, 4] (fun s2 s4 wj => ∃ (k na : Nat) (va : Option Addr) (ca : Nat), s2 = .slice va na ca ∧ s4 = .int .i64 (k : Int) ∧ k ≤ ll ∧ Hid ((dedT (X0 ++ c.L.take k)).length = na) ∧ Hid (wj.ownsRow B1 9 1 (.slice va na ca) na (strF (dedT (X0 ++ c.L.take k)))) ∧ Hid (Below w.heap.size w wj)) (fun _ s4 _ => ll - (intOf s4).toNat)
      case atStart => exact ⟨0, na, va, ca, rfl, rfl, by omega, HN0, HA0, HW⟩
      case round =>
        clear HA0 HN0 c1 hc
        obtain ⟨k, na, va, ca, rfl, rfl, hk, hna, HA, HWj⟩ := hrel
        have c1 := (HWj.out.cell (p := ⟨g, 1, none⟩) hglt).trans HC1.out
        have hc := (HWj.out.cell (p := ⟨gc, i, none⟩) H.out.lc).trans HCI.out
        unfold rcV at hc
        rw [hbb.out, hcap2.out, hlc.out] at hc
        by_cases hkl : k < ll
        · as_aux_lemma =>
          have hkL : k < c.L.length := by rw [hlc.out]; exact hkl
          have hck := (HROW.out.1.below HWj.out).2 k hkL
          rw [hbb.out] at hck
          have HIN3 := Lib.hid (HIN2.out k)
          have hnb : na ≤ 1000000 := by have := HIN3.out; rw [hna.out] at this; exact this
          have htk := Lib.hid (List.take_append_getElem hkL)
          obtain ⟨x, hx⟩ : ∃ x, Hid (c.L[k] = x) := ⟨_, Lib.hid rfl⟩
          rw [hx.out] at hck htk
          obtain ⟨S, hS⟩ : ∃ S : ByteArray, Hid ((⟨x.toArray⟩ : ByteArray) = S) := ⟨_, Lib.hid rfl⟩
          rw [hS.out] at hck
          have hki : (k : Int) < (ll : Int) := by omega
          obtain ⟨A, hA⟩ : ∃ A, Hid (dedT (X0 ++ c.L.take k) = A) := ⟨_, Lib.hid rfl⟩
          rw [hA.out] at hna HA
          have HNX : Hid (dedT (X0 ++ c.L.take (k + 1)) = addT A x) := Lib.hid (by rw [← htk.out, ← List.append_assoc, dedT_snoc, hA.out])
          go_upto_block 0 with fail
          go_loopw [6, 7] (fun si sj wi => ∃ (b : Bool) (j : Nat), si = .bool b ∧ sj = .int .i64 (j : Int) ∧ j ≤ na ∧ Hid (b = decide (x ∈ A.take j)) ∧ wi = wr) (fun _ sj _ => na - (intOf sj).toNat)
          case atStart => exact ⟨false, 0, rfl, rfl, by omega, Lib.hid (by simp), rfl⟩
          case round =>
            obtain ⟨b, j, rfl, rfl, hj, hb, rfl⟩ := hrel
            by_cases hjn : j < na
            · as_aux_lemma =>
              obtain ⟨ga, cb, e9, _, _, hgl, hrg⟩ := own_rowG HA.out (by omega)
              injection e9 with e1 _ _
              subst e1
              have hjl : j < A.length := by rw [hna.out]; exact hjn
              have hcj := hrg j (.string ⟨(A[j]).toArray⟩) (by unfold strF; rw [List.getElem?_map, List.getElem?_eq_getElem hjl]; rfl)
              rw [Nat.zero_add] at hcj
              obtain ⟨Y, hY⟩ : ∃ Y : ByteArray, Hid ((⟨(A[j]).toArray⟩ : ByteArray) = Y) := ⟨_, Lib.hid rfl⟩
              rw [hY.out] at hcj
              have hji : (j : Int) < (na : Int) := by omega
              rcases b with _ | _
              · by_cases hYX : Y = S
                · have hin := Lib.hid (in_takeH hjl hb.out (c := true) (by
                    have e5 : (⟨(A[j]).toArray⟩ : ByteArray) = ⟨x.toArray⟩ := by rw [hY.out, hS.out, hYX]
                    have e6 : A[j] = x := by injection e5 with e5; exact Array.toList_inj.2 e5 |> fun h => by simpa using h
                    simp [e6]))
                  clear hY hS
                  subst hYX
                  go_wp2_with fail
                  go_roundw
                  case rel => exact ⟨true, j + 1, by first | rfl | simp, by go_num, by omega, hin, by trivial⟩
                  case measure => simp [intOf]; omega
                · have hin := Lib.hid (in_takeH hjl hb.out (c := false) (by
                    have : A[j] ≠ x := fun e => hYX (by rw [← hY.out, ← hS.out, e])
                    simp [this]))
                  go_wp2_with fail
                  go_roundw
                  case rel => exact ⟨false, j + 1, by first | rfl | (simp; exact fun e => hYX (ba_toR _ _ e)), by go_num, by omega, hin, by trivial⟩
                  case measure => simp [intOf]; omega
              · have hin := Lib.hid (in_takeH hjl hb.out (c := decide (A[j] = x)) rfl)
                go_wp2_with fail
                go_roundw
                case rel => exact ⟨true, j + 1, rfl, by go_num, by omega, Lib.hid (by rw [← hin.out]; rfl), by trivial⟩
                case measure => simp [intOf]; omega
            · as_aux_lemma =>
              obtain rfl : j = na := by omega
              have hnl : ¬ (j : Int) < (j : Int) := by omega
              have hb2 : b = decide (x ∈ A) := by
                have := hb.out
                rwa [List.take_of_length_le (by rw [hna.out]; exact Nat.le_refl _)] at this
              clear hb
              rcases b with _ | _
              · have hnx : x ∉ A := by simpa using hb2.symm
                have HNX2 : Hid (dedT (X0 ++ c.L.take (k + 1)) = A ++ [x]) := Lib.hid (by rw [HNX.out]; unfold addT; rw [if_neg hnx])
                obtain ⟨w3, hw3⟩ : ∃ w3, Hid (wr.alloc (.cells #[.string S] 9) = w3) := ⟨_, Lib.hid rfl⟩
                have b3 : Below wr.heap.size wr w3 := by rw [← hw3.out]; exact (Below.refl _ _).alloc (Nat.le_refl _) _
                have HB3 := Lib.hid (HWj.out.trans (b3.mono HWj.out.size))
                have hsrc := src_str (w := wr) S
                rw [hw3.out] at hsrc
                have hrow := own_at_block HA.out (fun q e => b3.block q (HA.out.lt q e).2)
                have o1 : j + 1 ≤ maxLen := by unfold maxLen; omega
                have o2 : (j + 1) * 16 ≤ 140737488355328 := by omega
                have o3 : B1 ≤ w3.heap.size := by rw [← hB1.out]; exact HB3.out.size
                clear hb2 hnx b3
                go_wp2_with (at_builtin; (try rw [hw3.out]); refine wpList_append_src2 _ rfl _ _ 49 49 rfl B1 9 is (.string ⟨#[]⟩) 1 16 Try.underlying49 his sz0 sz1 sz2 rfl (by decide) (.slice va j ca) j (strF A) rfl hrow _ 1 [.string S] rfl hsrc o1 o2 o3 ?_; intro v5 w5 O5 G5 L5; obtain ⟨a5, c5, rfl⟩ := own_slF O5)
                have HA5 : Hid (w5.ownsRow B1 9 1 (.slice a5 (j + 1) c5) (j + 1) (strF (A ++ [x]))) := Lib.hid (by rw [strF_app]; unfold strF at O5 ⊢; rw [List.map_singleton, hS.out]; exact O5)
                have HW5 := Lib.hid (HB3.out.trans (by rw [hB1.out]; exact (Kq.of_grownO G5 o3 (fun q e => (hrow.lt q e).1)).below))
                clear O5 G5 L5 hrow hsrc o1 o2 o3
                go_roundw
                case rel => exact ⟨k + 1, j + 1, a5, c5, rfl, by go_num, by omega, Lib.hid (by rw [HNX2.out, List.length_append, hna.out]; rfl), Lib.hid (by rw [HNX2.out]; exact HA5.out), HW5⟩
                case measure => simp [intOf]; omega
              · have hnx : x ∈ A := by simpa using hb2.symm
                have HNX2 : Hid (dedT (X0 ++ c.L.take (k + 1)) = A) := Lib.hid (by rw [HNX.out]; unfold addT; rw [if_pos hnx])
                clear hb2 hnx
                go_wp2_with fail
                go_roundw
                case rel => exact ⟨k + 1, j, va, ca, rfl, by go_num, by omega, Lib.hid (by rw [HNX2.out]; exact hna.out), Lib.hid (by rw [HNX2.out]; exact HA.out), HWj⟩
                case measure => simp [intOf]; omega
        · as_aux_lemma =>
          obtain rfl : k = ll := by omega
          have hlt : ¬ (k : Int) < (k : Int) := by omega
          rw [List.take_of_length_le (show c.L.length ≤ k by rw [hlc.out]; exact Nat.le_refl _), ← HSU.out] at hna HA
          go_wp2_with fail
          go_roundw
          case rel => exact ⟨i + 1, na, va, ca, rfl, by go_num, by omega, hna, HA, HWj⟩
          case measure => simp [intOf]; omega
    · as_aux_lemma =>
      obtain rfl : i = m := by omega
      have hlt : ¬ (i : Int) < (i : Int) := by omega
      rw [HFIN.out] at hna HA
      have hnb : na ≤ 1000000 := by have := HLEN0.out; rw [hna.out] at this; exact this
      have hn0 : 0 < na := by rw [← hna.out]; exact List.length_pos_iff.2 HNE0.out
      obtain ⟨A, hA⟩ : ∃ A, Hid (dedT (cs.flatMap RC.L) = A) := ⟨_, Lib.hid rfl⟩
      rw [hA.out] at hna HA
      obtain ⟨ga, cb, e9, _, _, hgl, hrg⟩ := own_rowG HA.out hn0
      injection e9 with e1 _ _
      subst e1
      have HRG := Lib.hid hrg
      obtain ⟨B2, hB2⟩ : ∃ B2, Hid (wr.heap.size = B2) := ⟨_, Lib.hid rfl⟩
      have hgl2 : ga < B2 := by rw [← hB2.out]; exact hgl
      have hB12 : B1 ≤ B2 := by rw [← hB1.out, ← hB2.out]; exact HW.out.size
      obtain ⟨wA, hwA⟩ : ∃ wA, Hid (wr = wA) := ⟨_, Lib.hid rfl⟩
      rw [hwA.out] at HW HRG hB2
      have HBW : Hid (Below B2 wA wr) := Lib.hid (by rw [hwA.out]; exact Below.refl _ _)
      have HO0 : Hid (OutW wr B2 B2 (.slice none 0 0) []) := Lib.hid (OutW.nil _ _ _)
      clear hrg hgl hwA
      go_upto_block 0 with fail
      go_loopw [8, 9] (fun s2 s3 wi => ∃ (j : Nat) (new : List RC) (vo : Option Addr) (co : Nat), s2 = .slice vo j co ∧ s3 = .int .i64 (j : Int) ∧ j ≤ na ∧ Hid (new.length = j) ∧ Hid (OutW wi B2 B2 (.slice vo j co) new) ∧ Hid (new.map RC.L = (A.take j).map (fun x => [x])) ∧ Hid (Below B2 wA wi)) (fun _ s3 _ => na - (intOf s3).toNat)
      case atStart => exact ⟨0, [], none, 0, rfl, rfl, by omega, Lib.hid rfl, HO0, Lib.hid rfl, HBW⟩
      case round =>
        clear c1 HO0 HBW
        obtain ⟨j, new, vo, co, rfl, rfl, hj, hnl, HO, HM, HBW⟩ := hrel
        have hbs : B2 ≤ wr.heap.size := by rw [← hB2.out]; exact HBW.out.size
        by_cases hjn : j < na
        · as_aux_lemma =>
          have hjl : j < A.length := by rw [hna.out]; exact hjn
          have hcq := HRG.out j (.string ⟨(A[j]).toArray⟩) (by unfold strF; rw [List.getElem?_map, List.getElem?_eq_getElem hjl]; rfl)
          rw [Nat.zero_add] at hcq
          have hcj := (HBW.out.cell (p := ⟨ga, j, none⟩) hgl2).trans hcq
          clear hcq
          have htk := Lib.hid (List.take_append_getElem hjl)
          obtain ⟨x, hx⟩ : ∃ x, Hid (A[j] = x) := ⟨_, Lib.hid rfl⟩
          rw [hx.out] at hcj htk
          obtain ⟨s, hs⟩ : ∃ s : ByteArray, Hid ((⟨x.toArray⟩ : ByteArray) = s) := ⟨_, Lib.hid rfl⟩
          rw [hs.out] at hcj
          have hji : (j : Int) < (na : Int) := by omega
          obtain ⟨w2, hw2⟩ : ∃ w2, wr.alloc (.cells #[.string s] 9) = w2 := ⟨_, rfl⟩
          have b2 : Below wr.heap.size wr w2 := by rw [← hw2]; exact (Below.refl _ _).alloc (Nat.le_refl _) _
          have s2 : w2.heap.size = wr.heap.size + 1 := by rw [← hw2]; simp
          have r2 : w2.cell? ⟨wr.heap.size, 0, none⟩ = some (.string s) := by rw [← hw2]; exact World.cell?_alloc_at _ _ _ _ rfl
          obtain ⟨p, hp⟩ : ∃ p, Hid (wr.heap.size = p) := ⟨_, Lib.hid rfl⟩
          obtain ⟨w3, hw3⟩ : ∃ w3, w2.alloc (.cells #[.slice (some ⟨p, 0, none⟩) 1 1] 62) = w3 := ⟨_, rfl⟩
          have b3 : Below w2.heap.size w2 w3 := by rw [← hw3]; exact (Below.refl _ _).alloc (Nat.le_refl _) _
          have hsrc := src_rc (w := w2) (.slice (some ⟨p, 0, none⟩) 1 1) rfl
          rw [hw3, s2, hp.out] at hsrc
          rw [hp.out] at r2 s2
          have b23 := b2.trans (b3.mono b2.size)
          have HO3 := Lib.hid (HO.out.below b23)
          have HW3 := Lib.hid (HBW.out.trans (b23.mono hbs))
          have r3 : w3.cell? ⟨p, 0, none⟩ = some (.string s) := (b3.cell (p := ⟨p, 0, none⟩) (by show p < _; omega)).trans r2
          have HTX : Hid (TxR w3 p [x] ∧ [x].length ≤ 1 ∧ [x] ≠ [] ∧ B2 ≤ p) := Lib.hid ⟨⟨Nat.lt_of_lt_of_le (show p < w2.heap.size by omega) b3.size, fun i hi => by
            rcases i with _ | i
            · show w3.cell? ⟨p, 0, none⟩ = _
              rw [r3, ← hs.out]; rfl
            · simp at hi⟩, Nat.le_refl _, by simp, by rw [← hp.out]; exact hbs⟩
          have HNE : Hid ((Value.slice vo j co).ownBlock ≠ some p) := Lib.hid (fun e => by have := (HO.out.row.lt p e).2; rw [hp.out] at this; omega)
          have hrow := HO3.out.row
          rw [hnl.out] at hrow
          have o1 : j + 1 ≤ maxLen := by unfold maxLen; omega
          have o2 : (j + 1) * 24 ≤ 140737488355328 := by omega
          have o3 : B2 ≤ w3.heap.size := Nat.le_trans hbs b23.size
          have HE2 := Lib.hid hw2
          have HE3 := Lib.hid hw3
          clear hw2 hw3 b2 b3 b23 r2 r3 s2
          go_wp2_with (at_builtin; (try rw [HE2.out]); (try rw [hp.out]); (try rw [HE3.out]); refine wpList_append_src2 _ rfl _ _ 34 34 rfl B2 62 ic (.agg #[.slice none 0 0]) 1 24 Try.underlying34 hic cz0 cz1 cz2 rfl (by decide) (.slice vo j co) j (new.map rcV) rfl hrow _ 1 [.slice (some ⟨p, 0, none⟩) 1 1] rfl hsrc o1 o2 o3 ?_; intro v5 w5 O5 G5 L5; obtain ⟨a5, c5, rfl⟩ := own_slF O5)
          obtain ⟨A5, B5⟩ := OutW.app (c := ⟨p, 1, [x]⟩) HO3.out o3 HTX.out HNE.out (by rw [hnl.out]; exact O5) G5 L5
          have HO5 := Lib.hid A5
          have HW5 := Lib.hid (HW3.out.trans B5)
          clear O5 G5 L5 A5 B5 hrow hsrc o1 o2 o3
          go_roundw
          case rel => exact ⟨j + 1, new ++ [⟨p, 1, [x]⟩], a5, c5, rfl, by go_num, by omega, Lib.hid (by rw [List.length_append, hnl.out]; rfl), HO5, Lib.hid (by rw [← htk.out, List.map_append, List.map_append, HM.out]; simp), HW5⟩
          case measure => simp [intOf]; omega
        · as_aux_lemma =>
          obtain rfl : j = na := by omega
          have hlt : ¬ (j : Int) < (j : Int) := by omega
          have HWW := Lib.hid (HW.out.trans (HBW.out.mono (by rw [hB1.out]; exact hB12)))
          have H2 := Lib.hid (H.out.below HWW.out)
          have hfull : new.map RC.L = A.map (fun x => [x]) := by rw [HM.out, List.take_of_length_le (by rw [hna.out]; exact Nat.le_refl _)]
          have hnn : new ≠ [] := fun e => by have := congrArg List.length hfull; rw [List.length_map, List.length_map, hna.out, e] at this; simp at this; omega
          have HF := Lib.hid hfull
          have hBB : B ≤ B2 := Nat.le_trans HB.out (by rw [hB1.out]; exact hB12)
          obtain ⟨gc', cap', e1, f1, k1, q1⟩ := RfW.set H2.out (⟨HO.out.row, fun c hc => ⟨(HO.out.tx c hc).1, (HO.out.tx c hc).2.1, (HO.out.tx c hc).2.2.1, Nat.le_trans hBB (HO.out.tx c hc).2.2.2⟩, HO.out.ne⟩ : OutW wr B B2 (.slice vo j co) new) hBB hnn (fun c hc e2 => by have := (HO.out.tx c hc).2.2.2; rw [← hB1.out] at hB12; omega)
          have HR := Lib.hid f1
          have HK := Lib.hid ((Kq.of_below (HWW.out) HB.out).trans k1)
          have HQ : Hid ((∀ c ∈ new, w.heap.size ≤ c.b) ∧ w.heap.size ≤ gc') := Lib.hid ⟨fun c hc => by rw [hB1.out]; exact Nat.le_trans hB12 (HO.out.tx c hc).2.2.2, by rw [hB1.out]; exact Nat.le_trans hB12 q1⟩
          have f0 := frozen_of_row wr g 1 _ _ H2.out.hg
          have c1 := cell_of_row wr g 1 _ _ _ H2.out.hg
          clear f1 k1 q1 hfull
          go_wp2_with fail
          go_end0
          exact ⟨rfl, new, gc', ⟨_, HR.out⟩, by rw [hA.out]; exact HF.out, HK.out, HQ.out.1, HQ.out.2⟩
end Go.Proofs.Ytaemnelfnopjdaa
