/- Laws of package record (cellaret): what must come at any rate. -/
import Derived.Test.YthhaadcpenlnkaaRcR
namespace Go.Proofs.Ythhaadcpenlnkaa
open Go.RowKit Go.Deep
set_option linter.unusedVariables false
set_option linter.unusedSimpArgs false
/-- A load of a whole row, guarded or not. -/
def Loaded (P : Program) (ty : TypeId) (w : World) (g : Nat) (cs : Array Value) : Prop := ∃ t fr fs, w.heap[g]? = some (.cells cs t fr) ∧ P.underlying ty = some (.struct fs) ∧ (P.info? ty).map (·.size) = some cs.size
theorem wpList_load_row_i {P : Program} {ops : Array Oper} {rest : List Oper} {o : Oper} {a : Act} {w : World} {Q : Exit → Act → World → Prop} {g : Nat} {cs : Array Value} (ty : TypeId) (x : Operand) (ho : o.op = .load ty x)
    (h2 : Region.wanted o (yielded ops a.tmps) = true ∧ a.eval x = .pointer (some ⟨g, 0, none⟩)) (hL : Loaded P ty w g cs)
    (h : wpList P ops Q rest (a.put o.dst (.agg cs)) w) : wpList P ops Q (o :: rest) a w := by
  obtain ⟨t, fr, fs, hg, hu, hi⟩ := hL
  unfold wpList
  rw [if_pos h2.1]
  exact .inl (wp_load_row ty x ho g h2.2 t cs fr (.struct fs) hg hu rfl hi h)
def faB : ByteArray := ⟨(zpadL [97] 64).toArray⟩
def fbB : ByteArray := ⟨(zpadL [98] 64).toArray⟩
def awR : Rc := ⟨7, List.replicate 32 0, [(161, faB), (200, fbB)]⟩
theorem awR_ok : chkE awR = 0 := by decide +kernel
theorem built_aw (a : Option Addr) (n c : Nat) : Try.prog.built 26 [(0, .int .i64 7), (2, .slice a n c)] = some (rcA awR (.slice a n c)) := by kernel_rfl
theorem awR_pt (w : World) (t : TypeId) : PtAt (w.alloc (.cells #[.int .i64 161, .string faB, .int .i64 200, .string fbB] t)) (some ⟨w.heap.size, 0, none⟩) awR.ps := fun _ => by
  refine ⟨_, _, rfl, by simp, fun i hi => ?_⟩
  have hi : i < 2 := hi
  rcases (show i = 0 ∨ i = 1 by omega) with rfl | rfl
  · exact ⟨cell_of_row _ _ 0 _ _ _ (heap_alloc_new _ _), cell_of_row _ _ 1 _ _ _ (heap_alloc_new _ _)⟩
  · exact ⟨cell_of_row _ _ 2 _ _ _ (heap_alloc_new _ _), cell_of_row _ _ 3 _ _ _ (heap_alloc_new _ _)⟩
theorem fa_any (w : World) : Calls Try.prog 21 #[.string ⟨#[97]⟩, .int .i64 64] w fun e w' => e = .returned (.string faB) ∧ Below w.heap.size w w' := full_any ⟨#[97]⟩ 64 w (by omega) (by decide)
theorem fb_any (w : World) : Calls Try.prog 21 #[.string ⟨#[98]⟩, .int .i64 64] w fun e w' => e = .returned (.string fbB) ∧ Below w.heap.size w w' := full_any ⟨#[98]⟩ 64 w (by omega) (by decide)
attribute [local irreducible] rcA faB fbB
set_option maxRecDepth 100000 in
set_option maxHeartbeats 4000000 in
theorem awake13 (w : World) : Calls Try.prog 8 #[] w fun e w' => e = .returned (.bool true) ∧ Below w.heap.size w w' := by
  have PA := Lib.hid fa_any
  have PB := Lib.hid fb_any
  have PL := Lib.hid (fun v w => lay_ok awR v 2 2 w rfl rfl)
  have hz := zero_rc
  have hlen : Hid (awR.ps.length = 2) := Lib.hid rfl
  have PT := Lib.hid awR_pt
  go_enter Try.func8, Try.ntmps8
  go_wp2_with fail
  refine (PA.out _).mono ?_
  rintro e w1 ⟨rfl, b1⟩
  go_wp2_with fail
  refine (PB.out _).mono ?_
  rintro e w2 ⟨rfl, b2⟩
  generalize faB = fa at *
  generalize fbB = fb at *
  have hszr := rc_loaded (R := awR) (.slice (some ⟨w2.heap.size, 0, none⟩) 2 2) rfl
  have honer := rcA_one awR (.slice (some ⟨w2.heap.size, 0, none⟩) 2 2) rfl
  have b3 : Below w2.heap.size w2 (w2.alloc (.cells #[.int .i64 161, .string fa, .int .i64 200, .string fb] 48)) := (Below.refl _ _).alloc (Nat.le_refl _) _
  have HP3 := Lib.hid (PT.out w2 48)
  obtain ⟨w4, HW4, HR4, HB4⟩ := made_rc (w2.alloc (.cells #[.int .i64 161, .string fa, .int .i64 200, .string fb] 48))
  have hs3 : (w2.alloc (.cells #[.int .i64 161, .string fa, .int .i64 200, .string fb] 48)).heap.size = w2.heap.size + 1 := by simp
  rw [hs3] at HR4 HB4
  go_upto_region 2 with (first | (refine wpList_buildTo rfl 26 _ rfl (some 12) rfl (rcA awR (.slice (some ⟨w2.heap.size, 0, none⟩) 2 2)) ?b ?_; case b => simp only [List.map_toArray, List.map_cons, List.map_nil]; exact built_aw (some ⟨w2.heap.size, 0, none⟩) 2 2) | (rw [HW4.out]; refine wpList_store_row rfl _ _ _ rfl (w2.heap.size + 1) (rcA awR (.slice (some ⟨w2.heap.size, 0, none⟩) 2 2)) rfl rfl 26 _ HR4.1 hszr (by rw [rcA_size _ _ HR4.2, rcA_size _ _ rfl]) honer ?_))
  have hs4 := HR4.lt
  have hX5 : RcAt (w4.setRow (w2.heap.size + 1) (rcA awR (.slice (some ⟨w2.heap.size, 0, none⟩) 2 2))) (w2.heap.size + 1) awR (.slice (some ⟨w2.heap.size, 0, none⟩) 2 2) := ⟨setRow_heap _ _ _ _ 26 (0, 0) HR4.1, rfl⟩
  have b5 := below_setRow HB4.out (Nat.le_refl _) (rcA awR (.slice (some ⟨w2.heap.size, 0, none⟩) 2 2))
  generalize w4.setRow (w2.heap.size + 1) (rcA awR (.slice (some ⟨w2.heap.size, 0, none⟩) 2 2)) = w5 at *
  rw [← hs3] at b5
  have HP5 := Lib.hid (HP3.out.below b5)
  have HX5 := Lib.hid hX5
  have b35 := b3.trans (b5.mono b3.size)
  have HB5 := Lib.hid (b1.trans ((b2.trans (b35.mono b2.size)).mono b1.size))
  clear HR4 HB4 HW4 hX5 b35 b5 b3 b2 b1 HP3 hs4 hs3 PA PB
  generalize w2.heap.size + 1 = gx at *
  generalize (some (⟨w2.heap.size, 0, none⟩ : Addr)) = ap at *
  have hsz4 : lenN 2 = 4 := rfl
  have PP := Lib.hid parse_any
  have HBK := Lib.hid (eP_back (R := awR) rfl awR_ok [])
  have HRB := Lib.hid (recP_back (R := awR) rfl awR_ok [])
  rw [List.append_nil] at HBK HRB
  have PS := Lib.hid (fun la c lb d w hT hU => rcsame_any awR awR la lb 2 c 2 d w rfl rfl rfl rfl (by omega) (by omega) hT hU)
  rw [rcEq_self] at PS
  have P33 := Lib.hid (fun w => length_any 33 w)
  rw [show lengthV 33 = 36 from rfl] at P33
  go_wp2_with (refine wpList_load_row rfl _ _ rfl gx rfl 26 (rcA awR (.slice ap 2 2)) (0, 0) _ HX5.out.1 Try.underlying26 rfl hszr ?_)
  refine (PL.out _ _ HP5.out awR_ok).mono ?_
  rintro e w6 ⟨vl, rfl, ol, b6⟩
  rw [hsz4] at ol
  obtain ⟨al, cl, rfl, hlc, hcm, hll, hTl⟩ := own_txt ol
  have HP6 := Lib.hid (HP5.out.below b6)
  have HX6 := Lib.hid (HX5.out.below b6)
  have HB6 := Lib.hid (HB5.out.trans (b6.mono HB5.out.size))
  have PC := Lib.hid (PP.out (layL awR) al 4 cl w6 hll hlc hcm hTl)
  clear ol b6 HP5 HX5 HB5 PP PL
  have HR1 : Hid (resR (layL awR) = awR ∧ resN (layL awR) = 4 ∧ eP (layL awR) = 0) := Lib.hid ⟨(resR_good HBK.out).trans HRB.out.1, (resN_good HBK.out).trans (by rw [HRB.out.2.2]; rfl), HBK.out⟩
  unfold ParseP at PC
  rw [HR1.out.1, HR1.out.2.1, HR1.out.2.2, hlen.out] at PC
  clear HR1 HRB HBK hTl hll
  go_wp2_with fail
  refine PC.out.mono ?_
  rintro e w7 ⟨a7, c7, rfl, hP7, _, b7⟩
  have hszr2 := rc_loaded (R := awR) (.slice a7 2 c7) rfl
  have honer2 := rcA_one awR (.slice a7 2 c7) rfl
  have HP7 := Lib.hid (HP6.out.below b7)
  have HX7 := Lib.hid (HX6.out.below b7)
  have HB7 := Lib.hid (HB6.out.trans (b7.mono HB6.out.size))
  have HQ7 := Lib.hid hP7
  clear b7 HP6 HX6 HB6 PC hP7
  obtain ⟨w8, HW8, HR8, HB8⟩ := made_rc w7
  go_upto_region 4 with (rw [HW8.out]; refine wpList_store_row rfl _ _ _ rfl w7.heap.size (rcA awR (.slice a7 2 c7)) rfl rfl 26 _ HR8.1 hszr2 (by rw [rcA_size _ _ HR8.2, rcA_size _ _ rfl]) honer2 ?_)
  have hY9 : RcAt (w8.setRow w7.heap.size (rcA awR (.slice a7 2 c7))) w7.heap.size awR (.slice a7 2 c7) := ⟨setRow_heap _ _ _ _ 26 (0, 0) HR8.1, rfl⟩
  have b9 := below_setRow HB8.out (Nat.le_refl _) (rcA awR (.slice a7 2 c7))
  have HY9 := Lib.hid hY9
  have HP9 := Lib.hid (HP7.out.below b9)
  have HX9 := Lib.hid (HX7.out.below b9)
  have HQ9 := Lib.hid (HQ7.out.below b9)
  have HB9 := Lib.hid (HB7.out.trans (b9.mono HB7.out.size))
  clear HW8 HR8 HB8 hY9 b9 HP7 HX7 HQ7 HB7
  generalize w8.setRow w7.heap.size (rcA awR (.slice a7 2 c7)) = w9 at *
  generalize w7.heap.size = gy at *
  have L1 : Loaded Try.prog 26 w9 gx (rcA awR (.slice ap 2 2)) := ⟨_, _, _, HX9.out.1, Try.underlying26, hszr⟩
  have L2 : Loaded Try.prog 26 w9 gy (rcA awR (.slice a7 2 c7)) := ⟨_, _, _, HY9.out.1, Try.underlying26, hszr2⟩
  go_wp2_with (first | ((with_reducible refine wpList_load_row_i (g := gx) (cs := rcA awR (.slice ap 2 2)) 26 _ rfl ?_ ?_ ?_); exact ⟨rfl, rfl⟩; assumption) | ((with_reducible refine wpList_load_row_i (g := gy) (cs := rcA awR (.slice a7 2 c7)) 26 _ rfl ?_ ?_ ?_); exact ⟨rfl, rfl⟩; assumption))
  refine (PS.out _ _ _ _ _ HP9.out HQ9.out).mono ?_
  rintro e w10 ⟨rfl, b10⟩
  have HB10 := Lib.hid (HB9.out.trans (b10.mono HB9.out.size))
  clear b10
  go_wp2_with fail
  refine (P33.out _).mono ?_
  rintro e w11 ⟨rfl, rfl⟩
  go_wp2_with fail
  go_ret
  exact ⟨rfl, HB10.out⟩
end Go.Proofs.Ythhaadcpenlnkaa
