/- Package aes (cellaret): Encrypt. -/
import Derived.Test.YtbbanhjcchnhpaaAeO
import Derived.Deep.AppendLies
namespace Go.Proofs.Ytbbanhjcchnhpaa
open Go.RowKit Go.Deep
set_option linter.unusedVariables false
set_option linter.unusedSimpArgs false
theorem Kp.cell {g : Nat} {w w' : World} (h : Kp g w w') {b o : Nat} {v : Value} (hn : b ≠ g) (hc : w.cell? ⟨b, o, none⟩ = some v) : w'.cell? ⟨b, o, none⟩ = some v :=
  (World.grownBy.cell_far (row := some g) ⟨h.below.os, h.below.tape, h.below.output, h.below.size, fun k hk hn => h.other k hk (fun e => hn (by rw [e]))⟩ ⟨b, o, none⟩ (block_lt_of_cell hc) (fun e => hn (Option.some.inj e))).trans hc
/-- What columns are multiplied by. -/
def aE (i : Nat) : Nat := if i = 0 then 2 else if i = 3 then 3 else 1
def aD (i : Nat) : Nat := if i = 0 then 14 else if i = 1 then 9 else if i = 2 then 13 else 11
theorem aE_lt (i : Nat) : aE i < 256 := by unfold aE; split; omega; split <;> omega
theorem aD_lt (i : Nat) : aD i < 256 := by unfold aD; split; omega; split; omega; split <;> omega
theorem mixE_any (f : Nat → UInt8) (g : Nat) (w : World) (hR : Hid (w.rowIs g 82 16 (fun j => .int .u8 ((f j).toNat : Int)))) :
    Calls Try.prog 59 #[.pointer (some ⟨g, 0, none⟩), .agg #[.int .u8 2, .int .u8 1, .int .u8 1, .int .u8 3]] w fun e w' => e = .returned (.tuple #[]) ∧ w'.rowIs g 82 16 (fun j => .int .u8 ((mxB aE f j).toNat : Int)) ∧ Kp g w w' := mix_any aE aE_lt f g w hR
theorem mixD_any (f : Nat → UInt8) (g : Nat) (w : World) (hR : Hid (w.rowIs g 82 16 (fun j => .int .u8 ((f j).toNat : Int)))) :
    Calls Try.prog 59 #[.pointer (some ⟨g, 0, none⟩), .agg #[.int .u8 14, .int .u8 9, .int .u8 13, .int .u8 11]] w fun e w' => e = .returned (.tuple #[]) ∧ w'.rowIs g 82 16 (fun j => .int .u8 ((mxB aD f j).toNat : Int)) ∧ Kp g w w' := mix_any aD aD_lt f g w hR
/-- A state behind round k. -/
def encR (W : Nat → UInt32) (f : Nat → UInt8) : Nat → Nat → UInt8
  | 0 => fun j => f j ^^^ wB W 0 j
  | k + 1 => fun j => (if k + 1 < 14 then mxB aE (fun i => bx (encR W f k (srcS 1 i))) j else bx (encR W f k (srcS 1 j))) ^^^ wB W (k + 1) j
theorem encR_mid (W : Nat → UInt32) (f : Nat → UInt8) (k : Nat) (h : k + 1 < 14) : encR W f (k + 1) = fun j => mxB aE (fun i => bx (encR W f k (srcS 1 i))) j ^^^ wB W (k + 1) j := by
  funext j
  show (if k + 1 < 14 then _ else _) ^^^ _ = _
  rw [if_pos h]
theorem encR_end (W : Nat → UInt32) (f : Nat → UInt8) (k : Nat) (h : ¬ k + 1 < 14) : encR W f (k + 1) = fun j => bx (encR W f k (srcS 1 j)) ^^^ wB W (k + 1) j := by
  funext j
  show (if k + 1 < 14 then _ else _) ^^^ _ = _
  rw [if_neg h]
/-- A state's text. -/
def txS (f : Nat → UInt8) : ByteArray := ⟨((List.range 16).map f).toArray⟩
theorem enc_nil (s : ByteArray) (w : World) :
    Calls Try.prog 23 #[.pointer none, .string s] w fun e w' => e = .returned (.tuple #[.string ⟨#[]⟩, .int .i64 1]) ∧ w = w' := by
  go_enter Try.func23, Try.ntmps23
  go_wp2_with fail
  refine (refused_nil s _).mono ?_
  rintro e w' ⟨rfl, rfl⟩
  go_wp2_with fail
  go_ret2
  exact ⟨rfl, rfl⟩
theorem enc_len (kg : Nat) (s : ByteArray) (w : World) (hs : s.size ≠ 16) :
    Calls Try.prog 23 #[.pointer (some ⟨kg, 0, none⟩), .string s] w fun e w' => e = .returned (.tuple #[.string ⟨#[]⟩, .int .i64 6]) ∧ w = w' := by
  go_enter Try.func23, Try.ntmps23
  go_wp2_with fail
  refine (refused_len kg s _ hs).mono ?_
  rintro e w' ⟨rfl, rfl⟩
  go_wp2_with fail
  go_ret2
  exact ⟨rfl, rfl⟩
theorem box16 (f : Nat → UInt8) (w : World) : ∃ w2, Hid ((w.alloc (.cells #[.int .u8 0, .int .u8 0, .int .u8 0, .int .u8 0, .int .u8 0, .int .u8 0, .int .u8 0, .int .u8 0, .int .u8 0, .int .u8 0, .int .u8 0, .int .u8 0, .int .u8 0, .int .u8 0, .int .u8 0, .int .u8 0] 82)).setRow w.heap.size (st16 f) = w2) ∧ Hid (w2.rowIs w.heap.size 82 16 (fun j => .int .u8 ((f j).toNat : Int))) ∧ Below w.heap.size w w2 ∧ w.heap.size < w2.heap.size :=
  ⟨_, Lib.hid rfl, Lib.hid ⟨_, setRow_heap _ _ _ (st16 f) 82 (0, 0) (heap_alloc_new _ _), st16_size f, st16_get f⟩, below_setRow ((Below.refl _ _).alloc (Nat.le_refl _) _) (Nat.le_refl _) _, by simp [World.setRow]⟩
theorem load16 {w : World} {g : Nat} {f : Nat → UInt8} (h : Hid (w.rowIs g 82 16 (fun j => .int .u8 ((f j).toNat : Int)))) : w.heap[g]? = some (.cells (st16 f) 82 (0, 0)) := st16_row h.out
theorem add0_row (f : Nat → UInt8) (W : Nat → UInt32) (p q g kg : Nat) (w : World) (hK : Hid (KeyAt w kg W)) (hgk : kg < g) (hp : p ≠ g) (hq : q ≠ g) (hR : Hid (w.rowIs g 82 16 (fun j => .int .u8 ((f j).toNat : Int))))
    (hP : Hid (w.cell? ⟨p, 0, none⟩ = some (.pointer (some ⟨kg, 0, none⟩)))) (hQ : Hid (w.cell? ⟨q, 0, none⟩ = some (.pointer (some ⟨g, 0, none⟩)))) :
    Calls Try.prog 77 #[.int .i64 0, .pointer (some ⟨p, 0, none⟩), .pointer (some ⟨q, 0, none⟩)] w fun e w' => e = .returned (.tuple #[]) ∧ w'.rowIs g 82 16 (fun j => .int .u8 ((f j ^^^ wB W 0 j).toNat : Int)) ∧ Kp g w w' :=
  (add_row f W p q g kg 0 w (by omega) hK hgk hp hq hR hP hQ).mono fun e w' h => ⟨h.1, h.2.1, h.2.2.1⟩
set_option maxRecDepth 100000 in
set_option maxHeartbeats 3000000 in
theorem enc_any (kg : Nat) (W : Nat → UInt32) (s : ByteArray) (w : World) (hs : s.size = 16) (hK : Hid (KeyAt w kg W)) :
    Calls Try.prog 23 #[.pointer (some ⟨kg, 0, none⟩), .string s] w fun e w' => e = .returned (.tuple #[.string (txS (encR W (bAt s.data.toList) 14)), .int .i64 0]) ∧ Below w.heap.size w w' := by
  have CR := Lib.hid (fun w => read_any s w hs)
  have CF := Lib.hid (fun w => refused_ok kg s w hs)
  obtain ⟨f, hf⟩ : ∃ f, Hid (bAt s.data.toList = f) := ⟨_, Lib.hid rfl⟩
  rw [hf.out] at CR ⊢
  clear hf hs
  have hkl := hK.out.lt
  go_enter Try.func23, Try.ntmps23
  go_wp2_with fail
  refine (CF.out _).mono ?_
  rintro e w' ⟨rfl, rfl⟩
  go_wp2_with fail
  refine (CR.out _).mono ?_
  rintro e w1 ⟨rfl, b1⟩
  clear CF CR
  have HB1 := Lib.hid b1
  have HZ1 := Lib.hid b1.size
  clear b1
  go_upto_region 5 with (refine wpList_store_row rfl _ _ _ rfl w1.heap.size (st16 f) rfl rfl 82 _ (heap_alloc_new _ _) (by rw [st16_size]; kernel_rfl) (by rw [st16_size]; rfl) (st16_one _) ?_)
  obtain ⟨w2, HW2, HR2, b2, hs2⟩ := box16 f w1
  rw [HW2.out]
  clear HW2
  have HK2 : Hid (KeyAt w2 kg W) := Lib.hid ((hK.out.below HB1.out).below b2)
  have HB2 : Hid (Below w.heap.size w w2) := Lib.hid (HB1.out.trans (b2.mono HZ1.out))
  have hgk : kg < w1.heap.size := Nat.lt_of_lt_of_le hkl HZ1.out
  clear HB1 b2 hK hkl
  generalize w1.heap.size = g at *
  go_wp2_with fail
  refine (adder_any kg g _).mono ?_
  rintro e w3 ⟨rfl, hp, hq, b3, hs3⟩
  have HR3 : Hid (w3.rowIs g 82 16 (fun j => .int .u8 ((f j).toNat : Int))) := Lib.hid (World.rowIs.of_block HR2.out (b3.block g hs2))
  have HK3 : Hid (KeyAt w3 kg W) := Lib.hid (HK2.out.below b3)
  have HB3 : Hid (Below w.heap.size w w3) := Lib.hid (HB2.out.trans (b3.mono HB2.out.size))
  have HP3 := Lib.hid hp
  have HQ3 := Lib.hid hq
  have npg : w2.heap.size ≠ g := Nat.ne_of_gt hs2
  have nqg : w2.heap.size + 1 ≠ g := by omega
  clear hp hq b3 hs3 HR2 HK2 HB2 hs2
  generalize w2.heap.size + 1 = q at *
  generalize w2.heap.size = p at *
  go_wp2_with fail
  refine (add0_row f W p q g kg _ HK3 hgk npg nqg HR3 HP3 HQ3).mono ?_
  rintro e w4 ⟨rfl, hr4, hk4⟩
  have HR4 : Hid (w4.rowIs g 82 16 (fun j => .int .u8 ((encR W f (1 - 1) j).toNat : Int))) := Lib.hid hr4
  have HKP := Lib.hid hk4
  clear hr4 hk4 HR3
  go_wp2_with fail
  go_loopw [10] (fun x wi => ∃ n : Nat, x = .int .i64 (n : Int) ∧ 1 ≤ n ∧ n ≤ 15 ∧ Hid (wi.rowIs g 82 16 (fun j => .int .u8 ((encR W f (n - 1) j).toNat : Int))) ∧ Hid (Kp g w3 wi)) (fun x _ => 15 - (intOf x).toNat)
  case atStart => exact ⟨1, rfl, by omega, by omega, HR4, HKP⟩
  clear HR4 HKP
  case round =>
    obtain ⟨n, rfl, hn1, hn2, HR, HP⟩ := hrel
    by_cases hln : n ≤ 14
    · as_aux_lemma =>
      have hni : (n : Int) ≤ 14 := by omega
      go_wp2_with fail
      refine (each_forth (encR W f (n - 1)) g kg W _ (Lib.hid (HK3.out.under hgk HP.out.below)) hgk HR).mono ?_
      rintro e w5 ⟨rfl, r5, k5⟩
      have HP5 := Lib.hid (HP.out.trans k5)
      have HR5 := Lib.hid r5
      clear r5 k5 HR HP
      go_wp2_with fail
      refine (shift_any (fun j => bx (encR W f (n - 1) j)) g 1 _ (by omega) HR5).mono ?_
      rintro e w6 ⟨rfl, r6, k6⟩
      have HP6 := Lib.hid (HP5.out.trans k6)
      have HR6 := Lib.hid r6
      clear r6 k6 HR5 HP5
      by_cases hl : n < 14
      · as_aux_lemma =>
        have hli : (n : Int) < 14 := by omega
        go_wp2_with fail
        refine (mixE_any (fun i => bx (encR W f (n - 1) (srcS 1 i))) g _ HR6).mono ?_
        rintro e w7 ⟨rfl, r7, k7⟩
        have HP7 := Lib.hid (HP6.out.trans k7)
        have HR7 := Lib.hid r7
        clear r7 k7 HR6 HP6
        go_wp2_with fail
        refine (add_row (mxB aE (fun i => bx (encR W f (n - 1) (srcS 1 i)))) W p q g kg n _ (by omega) (Lib.hid (HK3.out.under hgk HP7.out.below)) hgk npg nqg HR7 (Lib.hid (HP7.out.cell npg HP3.out)) (Lib.hid (HP7.out.cell nqg HQ3.out))).mono ?_
        rintro e w8 ⟨rfl, r8, k8, -⟩
        have HP8 := Lib.hid (HP7.out.trans k8)
        have HR8 := Lib.hid r8
        clear r8 k8 HR7 HP7
        go_wp2_with fail
        go_roundw
        case rel => exact ⟨n + 1, by go_num, by omega, by omega, Lib.hid (by
          obtain ⟨k, rfl⟩ : ∃ k, n = k + 1 := ⟨n - 1, by omega⟩
          rw [show k + 1 + 1 - 1 = k + 1 from rfl, encR_mid W f k (by omega)]
          exact HR8.out), HP8⟩
        case measure => simp [intOf]; omega
      · as_aux_lemma =>
        obtain rfl : n = 14 := by omega
        rw [show ((14 : Nat) : Int) = 14 from rfl]
        go_wp2_with fail
        refine (add_row (fun j => bx (encR W f (14 - 1) (srcS 1 j))) W p q g kg 14 _ (by omega) (Lib.hid (HK3.out.under hgk HP6.out.below)) hgk npg nqg HR6 (Lib.hid (HP6.out.cell npg HP3.out)) (Lib.hid (HP6.out.cell nqg HQ3.out))).mono ?_
        rintro e w8 ⟨rfl, r8, k8, -⟩
        have HP8 := Lib.hid (HP6.out.trans k8)
        have HR8 := Lib.hid r8
        clear r8 k8 HR6 HP6
        go_wp2_with fail
        go_roundw
        case rel => exact ⟨15, by first | rfl | go_num, by omega, by omega, Lib.hid (by
          rw [show 15 - 1 = 13 + 1 from rfl, encR_end W f 13 (by omega)]
          exact HR8.out), HP8⟩
        case measure => simp [intOf]
    · as_aux_lemma =>
      obtain rfl : n = 15 := by omega
      rw [show ((15 : Nat) : Int) = 15 from rfl]
      obtain ⟨F, hF⟩ : ∃ F, Hid (encR W f 14 = F) := ⟨_, Lib.hid rfl⟩
      rw [show 15 - 1 = 14 from rfl, hF.out] at HR
      have hr15 := load16 HR
      have HBE := Lib.hid (HB3.out.trans (HP.out.below.mono HZ1.out))
      go_wp2_with (refine wpList_load_row rfl 82 _ rfl g rfl _ _ _ _ hr15 Try.underlying82 rfl (by rw [st16_size]; kernel_rfl) ?_)
      refine (text_any F _).mono ?_
      rintro e w9 ⟨rfl, b9⟩
      go_wp2_with fail
      go_ret2
      exact ⟨by (rw [hF.out]; rfl), HBE.out.trans (b9.mono HBE.out.size)⟩
end Go.Proofs.Ytbbanhjcchnhpaa
