/- Package flat: cut. -/
import Derived.Test.YtaemnelfnopjdaaFaC
namespace Go.Proofs.Ytaemnelfnopjdaa
open Go.RowKit Go.Deep Go.Maps
set_option linter.unusedVariables false
set_option linter.unusedSimpArgs false
/-- Block i of data. -/
def pcF (l : List UInt8) (i : Nat) : List UInt8 := (l.drop (48 * i)).take 48
def pcs (l : List UInt8) (k : Nat) : List (List UInt8) := (List.range k).map (pcF l)
def strF (L : List (List UInt8)) : List Value := L.map fun x => Value.string ⟨x.toArray⟩
theorem pcs_succ (l : List UInt8) (k : Nat) : pcs l (k + 1) = pcs l k ++ [pcF l k] := by unfold pcs; rw [List.range_succ, List.map_append]; rfl
theorem pcs_len (l : List UInt8) (k : Nat) : (pcs l k).length = k := by unfold pcs; rw [List.length_map, List.length_range]
theorem strF_app (L R : List (List UInt8)) : strF (L ++ R) = strF L ++ strF R := by unfold strF; rw [List.map_append]
theorem ba_eqF {a b : ByteArray} (h : a.data.toList = b.data.toList) : a = b := by
  rcases a with ⟨⟨l⟩⟩; rcases b with ⟨⟨m⟩⟩
  simp at h
  subst h; rfl
theorem ext_pc (s : ByteArray) (i : Nat) : s.extract (48 * i) (48 * i + 48) = ⟨(pcF s.data.toList i).toArray⟩ := by
  apply ba_eqF
  rw [ByteArray.data_extract, Array.toList_extract, List.extract_eq_take_drop]
  show List.take (48 * i + 48 - 48 * i) _ = pcF s.data.toList i
  unfold pcF
  rw [Nat.add_sub_cancel_left]
theorem src_str {w : World} (s : ByteArray) : Src Try.prog 1 49 (.slice (some ⟨w.heap.size, 0, none⟩) 1 1) 1 [.string s] (w.alloc (.cells #[.string s] 9)) :=
  Src.ofSlice _ Try.underlying49 ⟨w.heap.size, 0, none⟩ 1 1 [.string s] rfl (fun j v hv => by
    rcases j with _ | j
    · simp at hv; subst hv; exact World.cell?_alloc_at _ _ _ _ rfl
    · simp at hv) (fun u hu => by simp at hu; subst hu; rfl)
theorem src_intF {w : World} (z : Int) : Src Try.prog 1 67 (.slice (some ⟨w.heap.size, 0, none⟩) 1 1) 1 [.int .i64 z] (w.alloc (.cells #[.int .i64 z] 3)) :=
  Src.ofSlice _ Try.underlying67 ⟨w.heap.size, 0, none⟩ 1 1 [.int .i64 z] rfl (fun j v hv => by
    rcases j with _ | j
    · simp at hv; subst hv; exact World.cell?_alloc_at _ _ _ _ rfl
    · simp at hv) (fun u hu => by simp at hu; subst hu; rfl)
theorem info_intF : (Try.prog.info? 3).map (fun i => (i.zero, i.size, i.bytes)) = some (some (.int .i64 0), 1, 8) := by kernel_rfl
set_option maxRecDepth 100000 in
set_option maxHeartbeats 4000000 in
theorem cut_any (s : ByteArray) (k : Nat) (w : World) (hs : s.size = 48 * k) (hk : k ≤ 1000) : Calls Try.prog 33 #[.string s] w fun e w' => ∃ a c, e = .returned (.slice a k c) ∧ w'.ownsRow w.heap.size 9 1 (.slice a k c) k (strF (pcs s.data.toList k)) ∧ Below w.heap.size w w' := by
  obtain ⟨is, his, hz0, hz1, hz2⟩ := info_partsF info_str'
  have HEX := Lib.hid (ext_pc s)
  have HPS := Lib.hid (pcs_succ s.data.toList)
  have HPL := Lib.hid (pcs_len s.data.toList)
  have H0 : Hid (w.ownsRow w.heap.size 9 1 (.slice none 0 0) 0 (strF (pcs s.data.toList 0))) := Lib.hid (World.ownsRow_nil _ _ _ _)
  generalize pcF s.data.toList = PC at *
  generalize pcs s.data.toList = PS at *
  obtain ⟨gb, hgb⟩ : ∃ gb, Hid (w.heap.size = gb) := ⟨_, Lib.hid rfl⟩
  have hgw : gb ≤ w.heap.size := by rw [hgb.out]; exact Nat.le_refl _
  rw [hgb.out] at H0 ⊢
  have hsi : (s.size : Int) = 48 * (k : Int) := by omega
  go_enter Try.func33, Try.ntmps33
  go_wp2_with fail
  go_loopw [3, 4] (fun s3 s4 wi => ∃ i : Nat, s4 = .int .i64 (48 * (i : Int)) ∧ i ≤ k ∧ (∃ a c, s3 = .slice a i c) ∧ Hid (wi.ownsRow gb 9 1 s3 i (strF (PS i))) ∧ Hid (Below gb w wi) ∧ gb ≤ wi.heap.size) (fun _ s4 _ => 48 * k - (intOf s4).toNat)
  case atStart => exact ⟨0, rfl, by omega, ⟨_, _, rfl⟩, H0, Lib.hid (Below.refl _ _), hgw⟩
  case round =>
    obtain ⟨i, rfl, hi, ⟨a, c, rfl⟩, HO, HB, hgi⟩ := hrel
    clear H0
    by_cases hlt : i < k
    · as_aux_lemma =>
      have hli : 48 * (i : Int) < (s.size : Int) := by omega
      have hle : 48 * (i : Int) + 48 ≤ (s.size : Int) := by omega
      have hex := HEX.out i
      have o1 : i + 1 ≤ maxLen := by unfold maxLen; omega
      have o2 : (i + 1) * 16 ≤ 140737488355328 := by omega
      have hx : s.extract (48 * (i : Int)).toNat (48 * (i : Int) + 48).toNat = ⟨(PC i).toArray⟩ := by
        rw [← hex]
        congr 1
      obtain ⟨P, hP⟩ : ∃ P, Hid ((⟨(PC i).toArray⟩ : ByteArray) = P) := ⟨_, Lib.hid rfl⟩
      rw [hP.out] at hx hex
      have hsrc := src_str (w := wr) P
      have hrow := HO.out
      have o3 : gb ≤ (wr.alloc (.cells #[.string P] 9)).heap.size := by simp; omega
      go_wp2_with (at_builtin; refine wpList_append_src2 _ rfl _ _ 49 49 rfl gb 9 is (.string ⟨#[]⟩) 1 16 Try.underlying49 his hz0 hz1 hz2 rfl (by decide) _ i (strF (PS i)) rfl (hrow.alloc _) _ 1 [.string P] rfl hsrc o1 o2 o3 ?_)
      intro v' w7 hown7 hg7 hloc7
      have ba : Below wr.heap.size wr (wr.alloc (.cells #[.string P] 9)) := (Below.refl _ _).alloc (Nat.le_refl _) _
      have HB7 := Lib.hid ((HB.out.trans (ba.mono hgi)).grown hg7 (by simp; omega) (fun j e => by have := (hrow.lt j e).1; omega))
      have hB7 : gb ≤ w7.heap.size := Nat.le_trans (Nat.le_trans hgi ba.size) hg7.size
      obtain ⟨a7, c7, rfl⟩ := own_slF hown7
      have HO7 : Hid (w7.ownsRow gb 9 1 (.slice a7 (i + 1) c7) (i + 1) (strF (PS (i + 1)))) := Lib.hid (by rw [HPS.out i, strF_app]; rw [← hP.out] at hown7; exact hown7)
      clear hown7 hg7 hloc7 hsrc ba hrow o1 o2 o3 HB hx hex HO
      go_wp2_with fail
      go_roundw
      case rel => exact ⟨i + 1, by go_num, by omega, ⟨_, _, rfl⟩, HO7, HB7, hB7⟩
      case measure => simp [intOf]; omega
    · as_aux_lemma =>
      have hli : ¬ 48 * (i : Int) < (s.size : Int) := by omega
      obtain rfl : i = k := by omega
      go_wp2_with fail
      go_ret
      exact ⟨_, _, rfl, HO.out, HB.out⟩
end Go.Proofs.Ytaemnelfnopjdaa
