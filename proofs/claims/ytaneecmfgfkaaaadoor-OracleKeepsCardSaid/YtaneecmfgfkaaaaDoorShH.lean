/- Contracts (cellaret): sha.lay. -/
import Derived.Test.YtaneecmfgfkaaaaDoorShG
namespace Go.Proofs.YtaneecmfgfkaaaaDoor
open Go.RowKit Go.Deep
set_option linter.unusedVariables false
set_option linter.unusedSimpArgs false
theorem index_8 (v : V8) (i : Nat) (hi : i < 8) (w : World) : (Instr.index 73 (.agg (vL v).toArray) (.int .i64 (i : Int))).run Tryd.prog w = .ok (.int .u32 ((v.at i).toNat : Int)) w := by
  rcases (show i = 0 ∨ i = 1 ∨ i = 2 ∨ i = 3 ∨ i = 4 ∨ i = 5 ∨ i = 6 ∨ i = 7 by omega) with rfl | rfl | rfl | rfl | rfl | rfl | rfl | rfl <;> kernel_rfl
def lb (v : V8) (j : Nat) : UInt8 := UInt8.ofNat ((v.at (j / 4)).toNat / 256 ^ (3 - j % 4) % 256)
theorem lay4_eq (x : UInt32) : lay4 x = [UInt8.ofNat (x.toNat / 256 ^ 3 % 256), UInt8.ofNat (x.toNat / 256 ^ 2 % 256), UInt8.ofNat (x.toNat / 256 ^ 1 % 256), UInt8.ofNat (x.toNat / 256 ^ 0 % 256)] := by
  have := x.toNat_lt
  unfold lay4
  rw [show 256 ^ 3 = 16777216 from rfl, show 256 ^ 2 = 65536 from rfl, show 256 ^ 1 = 256 from rfl, show 256 ^ 0 = 1 from rfl, Nat.div_one, Nat.mod_eq_of_lt (show x.toNat / 16777216 < 256 by omega)]
theorem l_byte (v : V8) (k m : Nat) (x : UInt32) (hx : v.at k = x) (hm : m < 4) : (x.toNat : Int) / 2 ^ (24 - 8 * m) % 256 = ((lb v (4 * k + m)).toNat : Int) := by
  unfold lb
  rw [show (4 * k + m) / 4 = k from by omega, show (4 * k + m) % 4 = m from by omega, hx, UInt8.toNat_ofNat']
  rcases (show m = 0 ∨ m = 1 ∨ m = 2 ∨ m = 3 by omega) with rfl | rfl | rfl | rfl <;> simp <;> omega
theorem lb_all (v : V8) : (List.range 32).map (lb v) = layV v := by
  unfold layV
  rw [lay4_eq, lay4_eq, lay4_eq, lay4_eq, lay4_eq, lay4_eq, lay4_eq, lay4_eq]
  rfl
def lrow (v : V8) (n : Nat) (j : Nat) : UInt8 := if j < n then lb v j else 0
theorem lrow_step (v : V8) (n : Nat) (j : Nat) : lrow v (n + 1) j = if j = n then lb v n else lrow v n j := by
  unfold lrow
  by_cases e : j = n
  · subst e; rw [if_pos (by omega), if_pos rfl]
  · rw [if_neg e]
    by_cases h : j < n
    · rw [if_pos h, if_pos (by omega)]
    · rw [if_neg h, if_neg (by omega)]
def digA (l : List UInt8) : Array Value := (bv l).toArray
def z32 : Array Value := #[.int .u8 0, .int .u8 0, .int .u8 0, .int .u8 0, .int .u8 0, .int .u8 0, .int .u8 0, .int .u8 0, .int .u8 0, .int .u8 0, .int .u8 0, .int .u8 0, .int .u8 0, .int .u8 0, .int .u8 0, .int .u8 0, .int .u8 0, .int .u8 0, .int .u8 0, .int .u8 0, .int .u8 0, .int .u8 0, .int .u8 0, .int .u8 0, .int .u8 0, .int .u8 0, .int .u8 0, .int .u8 0, .int .u8 0, .int .u8 0, .int .u8 0, .int .u8 0]
theorem zero_dig : ∀ w, (zeroValue 34).run Tryd.prog w = .ok (.agg z32) w := fun w => by kernel_rfl
theorem three_allocs (w : World) (v : V8) (V : Array Value) : ∃ w1, Hid (((w.alloc (.cells V 73)).alloc (.cells z32 34)).alloc (.cells z32 34) = w1) ∧ w1.heap[w.heap.size]? = some (.cells V 73 (0, 0)) ∧ w1.heap[w.heap.size + 1]? = some (.cells z32 34 (0, 0)) ∧ w1.rowIs (w.heap.size + 1 + 1) 34 32 (fun j => .int .u8 ((lrow v (4 * 0) j).toNat : Int)) ∧ Below w.heap.size w w1 := by
  have b1 := (Below.refl w.heap.size w).alloc (Nat.le_refl _) (.cells V 73)
  have h1 := heap_alloc_new w (.cells V 73)
  generalize hw1 : w.alloc (.cells V 73) = w1 at *
  have s1 : w1.heap.size = w.heap.size + 1 := by rw [← hw1]; simp
  have b2 := (Below.refl w1.heap.size w1).alloc (Nat.le_refl _) (.cells z32 34)
  have h2 := heap_alloc_new w1 (.cells z32 34)
  generalize hw2 : w1.alloc (.cells z32 34) = w2 at *
  have s2 : w2.heap.size = w.heap.size + 1 + 1 := by rw [← hw2]; simp [s1]
  have b3 := (Below.refl w2.heap.size w2).alloc (Nat.le_refl _) (.cells z32 34)
  have h3 := heap_alloc_new w2 (.cells z32 34)
  refine ⟨_, Lib.hid rfl, ?_, ?_, ?_, (b1.trans (b2.mono (by omega))).trans (b3.mono (by omega))⟩
  · rw [b3.block _ (by omega), b2.block _ (by omega)]; exact h1
  · rw [b3.block _ (by omega), ← s1]; exact h2
  · refine ⟨z32, by rw [← s2]; exact h3, rfl, fun i hi => ?_⟩
    show z32[i]? = some (.int .u8 ((lrow v (4 * 0) i).toNat : Int))
    have : lrow v (4 * 0) i = 0 := by unfold lrow; rw [if_neg (by omega)]
    rw [this]
    have hz : z32 = (List.replicate 32 (Value.int .u8 0)).toArray := rfl
    rw [hz, List.getElem?_toArray, List.getElem?_replicate, if_pos hi]
    rfl
set_option maxRecDepth 100000 in
set_option maxHeartbeats 2000000 in
theorem lay_any (v : V8) (w : World) : Calls Tryd.prog 34 #[.agg (vL v).toArray] w fun e w' => e = .returned (.agg (digA (layV v))) ∧ Below w.heap.size w w' := by
  have hz := zero_dig
  have HI := Lib.hid (index_8 v)
  generalize hV : (vL v).toArray = V at HI ⊢
  have hv8 : V.size = 8 := by rw [← hV]; rfl
  clear hV
  obtain ⟨w1, HE, HV, HR, HD, B1⟩ := three_allocs w v V
  go_enter Tryd.func34, Tryd.ntmps34
  go_upto_region 2 with fail
  rw [HE.out]
  clear HE
  go_wp2_with (refine wpList_load_row rfl _ _ rfl w.heap.size rfl 73 V (0, 0) _ HV Tryd.underlying73 rfl (by rw [hv8]; kernel_rfl) ?_)
  generalize hg : w.heap.size = g at *
  have HG := Lib.hid hg
  clear hg HV hv8
  go_loopw [8] (fun x wi => ∃ k : Nat, x = .int .i64 k ∧ k ≤ 8 ∧ wi.rowIs (g + 1 + 1) 34 32 (fun j => .int .u8 ((lrow v (4 * k) j).toNat : Int)) ∧ wi.heap[g + 1]? = some (.cells z32 34 (0, 0)) ∧ Below g w wi) (fun x _ => 8 - (intOf x).toNat)
  case atStart => exact ⟨0, rfl, by omega, HD, HR, B1⟩
  clear HD HR B1
  case round =>
    obtain ⟨k, rfl, hk, hd, hr, hb⟩ := hrel
    by_cases hlt : k < 8
    · have hli : (k : Int) < 8 := by omega
      have ix := HI.out k hlt
      generalize hxk : v.at k = xk at ix
      have HXK := Lib.hid hxk
      clear hxk
      go_wp2_with fail
      go_loopw [12] (fun x wi => ∃ m : Nat, x = .int .i64 m ∧ m ≤ 4 ∧ wi.rowIs (g + 1 + 1) 34 32 (fun j => .int .u8 ((lrow v (4 * k + m) j).toNat : Int)) ∧ wi.heap[g + 1]? = some (.cells z32 34 (0, 0)) ∧ Below g w wi) (fun x _ => 4 - (intOf x).toNat)
      case atStart => exact ⟨0, rfl, by omega, hd, hr, hb⟩
      clear hd hr hb
      case round =>
        obtain ⟨m, rfl, hm, hd, hr, hb⟩ := hrel
        by_cases hlm : m < 4
        · have hlj : (m : Int) < 4 := by omega
          have d0 := hd.cell (i := 4 * k + m) (by omega)
          have f0 := hd.frozen (4 * k + m)
          have HDD := Lib.hid hd
          have HRR := Lib.hid hr
          clear hd hr
          have p1 : 4 * (k : Int) + m < 32 := by omega
          have p2 : (4 * (k : Int) + m).toNat = 4 * k + m := by omega
          have p3 : 0 ≤ 24 - 8 * (m : Int) := by omega
          have p4 : 24 - 8 * (m : Int) < 32 := by omega
          go_wp2_with fail
          have HB := Lib.hid (l_byte v k m xk HXK.out hlm)
          go_roundw
          case rel => exact ⟨m + 1, by go_num, by omega, by rw [HB.out]; exact (HDD.out.set (4 * k + m) _).congr (fun j hj => by
              rw [show 4 * k + (m + 1) = 4 * k + m + 1 from by omega, lrow_step]
              by_cases e : j = 4 * k + m
              · rw [if_pos e, if_pos e]
              · rw [if_neg e, if_neg e]), (Below.heap_setCell wr _ _ (g + 1) (by show g + 1 ≠ g + 1 + 1; omega)).trans HRR.out, hb.setCell (p := ⟨g + 1 + 1, _, none⟩) (by show g ≤ g + 1 + 1; omega) _⟩
          case measure => simp [intOf]; omega
        · obtain rfl : m = 4 := by omega
          go_wp2_with fail
          go_roundw
          case rel => exact ⟨k + 1, by go_num, by omega, by rw [show 4 * (k + 1) = 4 * k + 4 from by omega]; exact hd, hr, hb⟩
          case measure => simp [intOf]; omega
    · obtain rfl : k = 8 := by omega
      have hD : wr.heap[g + 1 + 1]? = some (.cells (digA (layV v)) 34 (0, 0)) := by
        obtain ⟨c, h1, h2, h3⟩ := hd
        have hc : c = digA (layV v) := by
          apply Array.ext_getElem?
          intro i
          by_cases hi : i < 32
          · rw [h3 i hi]
            unfold digA bv
            rw [← lb_all, List.getElem?_toArray, List.getElem?_map, List.getElem?_map, List.getElem?_range hi]
            simp only [lrow, show 4 * 8 = 32 from rfl, if_pos hi, Option.map_some]
          · rw [Array.getElem?_eq_none (by omega), Array.getElem?_eq_none (by unfold digA bv; rw [← lb_all]; simp; omega)]
        rw [← hc]; exact h1
      have hsz : (digA (layV v)).size = 32 := by unfold digA bv; rw [← lb_all]; simp
      have hone : (digA (layV v)).all (·.oneCell') = true := by
        unfold digA bv
        simp only [List.all_toArray, List.all_eq_true, List.mem_map]
        rintro u ⟨i, _, rfl⟩
        rfl
      clear hd HI
      generalize hDG : digA (layV v) = D at *
      have HDG := Lib.hid hDG
      clear hDG
      go_wp2_with (first | (refine wpList_load_row rfl _ _ rfl (g + 1 + 1) rfl 34 D (0, 0) _ hD Tryd.underlying34 rfl (by rw [hsz]; kernel_rfl) ?_) | (refine wpList_store_row rfl _ _ _ rfl (g + 1) D rfl rfl 34 _ hr (by rw [hsz]; kernel_rfl) (by rw [hsz]; rfl) hone ?_))
      refine bodyPost_ret_by (results_cell_row rfl _ _ (g + 1) 34 D (0, 0) _ rfl (setRow_heap _ _ _ D 34 (0, 0) hr) Tryd.underlying34 rfl (by rw [hsz]; kernel_rfl)) rfl ⟨by rw [HDG.out], ?_⟩
      rw [HG.out]
      exact below_setRow hb (by omega) _
end Go.Proofs.YtaneecmfgfkaaaaDoor
