/- The reference of layer 3: Padded. -/
import Derived.Test.YtndhegdhkoileaaDoorShP
import Derived.Test.YtndhegdhkoileaaDoorShX
namespace Go.Proofs.YtndhegdhkoileaaDoor
open Go.RowKit Go.Deep
set_option linter.unusedVariables false
set_option linter.unusedSimpArgs false
def zsB (s : ByteArray) (q : Nat) : ByteArray := ⟨(s.data.toList ++ 128 :: List.replicate q 0).toArray⟩
theorem zsB_size (s : ByteArray) (q : Nat) : (zsB s q).size = s.size + 1 + q := by
  unfold zsB
  rw [bytes_size, Lib.size_eq s]
  simp
  omega
theorem zsB_zero (s : ByteArray) : s ++ ⟨#[128]⟩ = zsB s 0 := by
  unfold zsB
  conv => lhs; rw [bytes_ba s]
  exact bytes_add _ [128]
theorem zsB_succ (s : ByteArray) (q : Nat) : zsB s q ++ ⟨#[0]⟩ = zsB s (q + 1) := by
  unfold zsB
  refine (bytes_add _ [0]).trans ?_
  rw [List.append_assoc, List.cons_append, ← List.replicate_succ']
def tlB (n k : Nat) : ByteArray := ⟨((List.range k).map fun j => UInt8.ofNat (8 * n / 256 ^ (k - 1 - j) % 256)).toArray⟩
theorem tlB_size (n k : Nat) : (tlB n k).size = k := by unfold tlB; rw [bytes_size]; simp
theorem tlB_succ (n k : Nat) : (⟨#[UInt8.ofNat (8 * n / 256 ^ k % 256)]⟩ : ByteArray) ++ tlB n k = tlB n (k + 1) := by
  unfold tlB
  refine (bytes_add [UInt8.ofNat (8 * n / 256 ^ k % 256)] _).trans ?_
  rw [List.range_succ_eq_map, List.map_cons, List.map_map, List.singleton_append]
  congr 3
  apply List.map_congr_left
  intro j hj
  show _ = UInt8.ofNat (8 * n / 256 ^ (k + 1 - 1 - (j + 1)) % 256)
  rw [show k + 1 - 1 - (j + 1) = k - 1 - j from by omega]
theorem pad_zt (s : ByteArray) : zsB s (nz s.size) ++ tlB s.size 8 = padB s := by
  unfold zsB tlB padB padL tailL
  rw [← Lib.size_eq s]
  refine (bytes_add _ _).trans ?_
  rw [List.append_assoc, List.cons_append]
theorem conv_1b (w : World) (b : UInt8) : (convert 49 9 (.slice (some ⟨w.heap.size, 0, none⟩) 1 1)).run Tryd.prog (w.alloc (.cells #[.int .u8 (b.toNat : Int)] 5)) = .ok (.string ⟨#[b]⟩) (w.alloc (.cells #[.int .u8 (b.toNat : Int)] 5)) := by
  have hr : (w.alloc (.cells #[.int .u8 (b.toNat : Int)] 5)).rowIs w.heap.size 5 1 (fun j => .int .u8 (((fun _ => b) j).toNat : Int)) := ⟨_, heap_alloc_new _ _, rfl, fun i hi => by
    obtain rfl : i = 0 := by omega
    rfl⟩
  exact conv_row (P := Tryd.prog) (cap := 1) (W := 1) (dst := 9) Tryd.underlying49 Tryd.underlying5 Tryd.underlying9 hr (Nat.le_refl _)
theorem conv_128 (w : World) : (convert 49 9 (.slice (some ⟨w.heap.size, 0, none⟩) 1 1)).run Tryd.prog (w.alloc (.cells #[.int .u8 128] 5)) = .ok (.string ⟨#[128]⟩) (w.alloc (.cells #[.int .u8 128] 5)) := conv_1b w 128
theorem conv_0 (w : World) : (convert 49 9 (.slice (some ⟨w.heap.size, 0, none⟩) 1 1)).run Tryd.prog (w.alloc (.cells #[.int .u8 0] 5)) = .ok (.string ⟨#[0]⟩) (w.alloc (.cells #[.int .u8 0] 5)) := conv_1b w 0
theorem q256 (n k : Nat) : 8 * n / 256 ^ (k + 1) = 8 * n / 256 ^ k / 256 := by rw [Nat.pow_succ, ← Nat.div_div_eq_div_mul]
set_option maxRecDepth 100000 in
set_option maxHeartbeats 2000000 in
theorem padded_any (s : ByteArray) (w : World) (hn : s.size ≤ 300) : Calls Tryd.prog 12 #[.string s] w fun e w' => e = .returned (.string (padB s)) ∧ Below w.heap.size w w' := by
  have hz : nz s.size ≤ 63 := by unfold nz; omega
  have HZ0 := Lib.hid (zsB_zero s)
  have HZS := Lib.hid (zsB_succ s)
  have HZL := Lib.hid (zsB_size s)
  have HTS := Lib.hid (tlB_succ s.size)
  have HTL := Lib.hid (tlB_size s.size)
  have HPZ := Lib.hid (pad_zt s)
  have HQ := Lib.hid (q256 s.size)
  have HNZ : Hid (nz s.size = (120 - (s.size + 1) % 64) % 64) := Lib.hid rfl
  have HT0 : Hid (tlB s.size 0 = ⟨#[]⟩) := Lib.hid rfl
  have HQ0 : Hid (8 * s.size = 8 * s.size / 256 ^ 0) := Lib.hid (by simp)
  have hcv := conv_128 w
  have a1 : (9223372036854775807 < s.size + (⟨#[128]⟩ : ByteArray).size) = False := by
    have : (⟨#[128]⟩ : ByteArray).size = 1 := rfl
    rw [this]; simp; omega
  have z0 := HZ0.out
  generalize (⟨#[128]⟩ : ByteArray) = B128 at *
  generalize hns : nz s.size = NZ at *
  have HNS := Lib.hid hns
  clear hns
  generalize hSZ : s.size = n at *
  have HSZ := Lib.hid hSZ
  have b1 : Below w.heap.size w (w.alloc (.cells #[.int .u8 128] 5)) := (Below.refl _ _).alloc (Nat.le_refl _) _
  go_enter Tryd.func12, Tryd.ntmps12
  go_upto_region 3 with fail
  clear hcv a1 z0 hSZ
  generalize w.alloc (.cells #[.int .u8 128] 5) = w1 at *
  generalize hg : w.heap.size = g at *
  have HG := Lib.hid hg
  have hg1 : g ≤ w1.heap.size := by rw [← hg]; exact hg ▸ b1.size
  clear hg
  go_loopw [0] (fun x wi => ∃ q : Nat, x = .string (zsB s q) ∧ q ≤ NZ ∧ Hid (Below g w wi)) (fun x _ => NZ + n + 1 - (match x with | .string t => t.size | _ => 0))
  case atStart => exact ⟨0, rfl, by omega, Lib.hid b1⟩
  clear b1
  case round =>
    obtain ⟨q, rfl, hq, HB⟩ := hrel
    have hsz := HZL.out q
    have HSZ2 : g ≤ wr.heap.size := by rw [← HG.out]; exact HB.out.size
    by_cases hlt : q < NZ
    · as_aux_lemma =>
      have ht : ((((zsB s q).size : Nat) : Int) % 64 != 56) = true := by
        rw [hsz, bne_iff_ne]; have := HNZ.out; omega
      have hcv := conv_0 wr
      have HZS1 := Lib.hid (HZS.out q)
      have z0 := HZS1.out
      have a1 : (9223372036854775807 < (zsB s q).size + (⟨#[0]⟩ : ByteArray).size) = False := by
        have : (⟨#[0]⟩ : ByteArray).size = 1 := rfl
        rw [this, hsz]; simp; omega
      have hsz1 := HZL.out (q + 1)
      have HS0 := Lib.hid hsz
      have HS1 := Lib.hid hsz1
      clear hsz hsz1
      generalize (⟨#[0]⟩ : ByteArray) = B0 at *
      generalize hz1 : zsB s (q + 1) = Z1 at *
      have HZ1 := Lib.hid hz1
      clear hz1
      generalize zsB s q = Z at *
      have b2 := HB.out.alloc HSZ2 (.cells #[.int .u8 0] 5)
      go_wp2_with fail
      go_roundw
      case rel => exact ⟨q + 1, by rw [HZ1.out], by omega, Lib.hid b2⟩
      case measure =>
        show NZ + n + 1 - Z1.size < NZ + n + 1 - Z.size
        rw [HS1.out, HS0.out]; omega
    · as_aux_lemma =>
      obtain rfl : q = NZ := by omega
      have ht : ((((zsB s q).size : Nat) : Int) % 64 != 56) = false := by
        rw [hsz, bne_eq_false_iff_eq]; have := HNZ.out; omega
      have HZB := Lib.hid hsz
      clear hsz
      generalize zsB s q = Z at *
      go_wp2_with fail
      go_loopw [3, 4, 5] (fun m t i wi => ∃ k : Nat, i = .int .i64 k ∧ k ≤ 8 ∧ m = .int .i64 ((8 * n / 256 ^ k : Nat) : Int) ∧ t = .string (tlB n k) ∧ Hid (Below g w wi)) (fun _ _ i _ => 8 - (intOf i).toNat)
      case atStart => exact ⟨0, rfl, by omega, by rw [← HQ0.out]; push_cast; rfl, by rw [HT0.out], HB⟩
      clear HB
      case round =>
        obtain ⟨k, rfl, hk, rfl, rfl, HB⟩ := hrel
        have hs2 : g ≤ wr.heap.size := by rw [← HG.out]; exact HB.out.size
        have htl := HTL.out k
        by_cases hlk : k < 8
        · as_aux_lemma =>
          have hlj : (k : Int) < 8 := by omega
          have HQ1 := Lib.hid (HQ.out k)
          have hbd : 8 * n / 256 ^ k ≤ 2400 := by have := Nat.div_le_self (8 * n) (256 ^ k); omega
          have hcv := conv_1b wr (UInt8.ofNat (8 * n / 256 ^ k % 256))
          have HTS1 := Lib.hid (HTS.out k)
          have t0 := HTS1.out
          have hby : ((UInt8.ofNat (8 * n / 256 ^ k % 256)).toNat : Int) = ((8 * n / 256 ^ k : Nat) : Int) % 256 := by
            rw [UInt8.toNat_ofNat']; omega
          have a1 : (9223372036854775807 < (⟨#[UInt8.ofNat (8 * n / 256 ^ k % 256)]⟩ : ByteArray).size + (tlB n k).size) = False := by
            have : (⟨#[UInt8.ofNat (8 * n / 256 ^ k % 256)]⟩ : ByteArray).size = 1 := rfl
            rw [this, htl]; simp; omega
          rw [hby] at hcv
          clear hby
          generalize (⟨#[UInt8.ofNat (8 * n / 256 ^ k % 256)]⟩ : ByteArray) = B1 at *
          generalize htn : tlB n (k + 1) = T1 at *
          have HTN := Lib.hid htn
          clear htn
          generalize tlB n k = T at *
          generalize 8 * n / 256 ^ k = N at *
          have b2 := HB.out.alloc hs2 (.cells #[.int .u8 ((N : Int) % 256)] 5)
          have HTLH := Lib.hid htl
          clear htl
          go_wp2_with fail
          go_roundw
          case rel => exact ⟨k + 1, by go_num, by omega, by rw [HQ1.out]; go_num, by rw [HTN.out], Lib.hid b2⟩
          case measure => simp [intOf]; omega
        · as_aux_lemma =>
          obtain rfl : k = 8 := by omega
          rw [show ((8 : Nat) : Int) = 8 from rfl]
          have p0 := HPZ.out
          have hzb := HZB.out
          have a1 : (9223372036854775807 < Z.size + (tlB n 8).size) = False := by rw [hzb, htl]; simp; omega
          have HP := Lib.hid p0
          clear htl hzb
          generalize tlB n 8 = T at *
          go_wp2_with fail
          go_ret
          exact ⟨rfl, by rw [HG.out]; exact HB.out⟩
end Go.Proofs.YtndhegdhkoileaaDoor
