/- Package aes (cellaret): mix. -/
import Derived.Test.YtbbanhjcchnhpaaAeN
import Derived.Test.YtbbanhjcchnhpaaGfIc
import Derived.Deep.MidRow
import Derived.Deep.CutRange
import Derived.Laws.CopyOwn
import Derived.Laws.Tables
namespace Go.Proofs.Ytbbanhjcchnhpaa
open Go.RowKit Go.Deep
set_option linter.unusedVariables false
set_option linter.unusedSimpArgs false
theorem alloc_stepM {K X : Act → World → Prop} {S : World → Prop} {a : Act} {W : World} {o : Obj} (hK : Shut (∀ a w, S w → (S w → X a w) → K a w)) (hS : S (W.alloc o)) (h : ∀ W' : World, Hid (W' = W.alloc o) → W'.heap[W.heap.size]? = some o → S W' → X a W') : K a (W.alloc o) :=
  hK.out _ _ hS (fun h1 => h _ (Lib.hid rfl) (heap_alloc_new _ _) h1)
theorem any_stepM {K X : Act → World → Prop} {S : World → Prop} {a : Act} {W : World} (hK : Shut (∀ a w, S w → (S w → X a w) → K a w)) (hS : S W) (h : ∀ W' : World, Hid (W' = W) → S W' → X a W') : K a W :=
  hK.out _ _ hS (fun h1 => h _ (Lib.hid rfl) h1)
theorem blk_belowM {w w' : World} {b : Nat} {o : Obj} (hb : Below w.heap.size w w') (hz : w.heap[b]? = some o) : w'.heap[b]? = some o := (hb.block b (Array.getElem?_eq_some_iff.1 hz).1).trans hz
theorem blk_ltM {w : World} {b : Nat} {o : Obj} (hz : w.heap[b]? = some o) : b < w.heap.size := (Array.getElem?_eq_some_iff.1 hz).1
theorem below_of_allocM {W W' : World} {o : Obj} (h : Hid (W' = W.alloc o)) : Below W.heap.size W W' := by rw [h.out]; exact (Below.refl _ _).alloc (Nat.le_refl _) _
theorem step_copy_ownM {P : Program} {ops : Array Oper} {o : Oper} {a : Act} {w : World} {K : Act → World → Prop} {Q : Exit → Act → World → Prop} {E : Prop} (hgd : o.guard = none) (d s : Operand) (dT sT : TypeId)
    (ho : o.op = .call { callee := .builtin .copy, args := #[d, s], argTypes := #[dT, sT] }) (elem : TypeId) (hu : P.underlying dT = some (.slice elem)) (hsz : (P.info? elem).map (·.size) = some 1)
    (g off dLen dCap : Nat) (ad : Addr) (sLen sCap : Nat) (hd : a.eval d = .slice (some ⟨g, off, none⟩) dLen dCap) (hs : a.eval s = .slice (some ad) sLen sCap)
    (cur : List Value) (t : TypeId) (hg : w.heap[g]? = some (.cells cur.toArray t (0, 0))) (cs : List Value) (hn : cs.length = Nat.min sLen dLen)
    (hsrc : ∀ j v, cs[j]? = some v → w.cell? (ad.add j) = some v) (hfit : off + cs.length ≤ cur.length) (h1 : ∀ v ∈ cs, v.oneCell' = true)
    (h : ∀ w', Hid (w' = w.setRow g (splice cur off cs).toArray) → K (a.put o.dst (goInt cs.length)) w') :
    if Region.wanted o (yielded ops a.tmps) = true then Oper.wp P o a w K Q else E := by
  have hw : Region.wanted o (yielded ops a.tmps) = true := by simp [Region.wanted, hgd]
  rw [if_pos hw]
  have hrun := run_copy_row (P := P) w dT sT o.type elem g off dLen dCap ad sLen sCap cur.toArray t cs hu hsz hg hn hsrc (by simpa using hfit) h1
  have hh := h _ (Lib.hid rfl)
  unfold splice at hh
  unfold Oper.wp
  simp [execOp, ho, resolve, invoke, builtin, hd, hs, hrun, Result.andThen]
  exact hh
/-- A mixed state's byte j, mixed by a. -/
def mxB (a : Nat → Nat) (f : Nat → UInt8) (j : Nat) : UInt8 := UInt8.ofNat (colT a (fun i => (f (4 * (j / 4) + i)).toNat) 16 (j % 4))
theorem mxB_nat (a : Nat → Nat) (f : Nat → UInt8) (j : Nat) (ha : ∀ i, a i < 256) : (mxB a f j).toNat = colT a (fun i => (f (4 * (j / 4) + i)).toNat) 16 (j % 4) := by
  unfold mxB
  rw [UInt8.toNat_ofNat']
  exact Nat.mod_eq_of_lt (colT_lt _ _ ha _ _)
def mxF (a : Nat → Nat) (f : Nat → UInt8) (c j : Nat) : UInt8 := if j < 4 * c then mxB a f j else f j
theorem splice4 (f h : Nat → UInt8) (c : Nat) (hc : c < 4) (v0 v1 v2 v3 : Value) (hv : ∀ j, j < 16 → j / 4 = c → [v0, v1, v2, v3][j % 4]? = some (.int .u8 ((h j).toNat : Int))) (hn : ∀ j, j < 16 → j / 4 ≠ c → f j = h j) (w : World) (g : Nat) (t : TypeId)
    (hg : w.heap[g]? = some (.cells (splice (st16 f).toList (4 * c) [v0, v1, v2, v3]).toArray t (0, 0))) : w.rowIs g t 16 (fun j => .int .u8 ((h j).toNat : Int)) := by
  have hl : (st16 f).toList.length = 16 := by rw [Array.length_toList, st16_size]
  refine ⟨_, hg, by rw [List.size_toArray, length_splice _ _ _ (by rw [hl]; simp; omega), hl], fun j hj => ?_⟩
  rw [List.getElem?_toArray]
  unfold splice
  have h4 : [v0, v1, v2, v3].length = 4 := rfl
  have ht : ((st16 f).toList.take (4 * c)).length = 4 * c := by rw [List.length_take, hl]; omega
  by_cases h1 : j < 4 * c
  · rw [List.getElem?_append_left (by rw [ht]; exact h1), List.getElem?_take, if_pos h1, Array.getElem?_toList, st16_get f j hj, hn j hj (by omega)]
  · rw [List.getElem?_append_right (by rw [ht]; omega), ht]
    by_cases h2 : j < 4 * c + 4
    · rw [List.getElem?_append_left (by rw [h4]; omega), ← hv j hj (by omega), show j - 4 * c = j % 4 by omega]
    · rw [List.getElem?_append_right (by rw [h4]; omega), List.getElem?_drop, h4, Array.getElem?_toList, show 4 * c + 4 + (j - 4 * c - 4) = j by omega, st16_get f j hj, hn j hj (by omega)]
theorem array_atE (g o cap : Nat) (w : World) : (Instr.arrayAt 89 (.slice (some ⟨g, o, none⟩) 4 cap)).run Try.prog w = .ok (.pointer (some ⟨g, o, none⟩)) w := by kernel_rfl
set_option maxRecDepth 100000 in
set_option maxHeartbeats 3000000 in
theorem mix_any (a : Nat → Nat) (ha : ∀ i, a i < 256) (f : Nat → UInt8) (g : Nat) (w : World) (hR : Hid (w.rowIs g 82 16 (fun j => .int .u8 ((f j).toNat : Int)))) :
    Calls Try.prog 59 #[.pointer (some ⟨g, 0, none⟩), .agg #[.int .u8 (a 0 : Int), .int .u8 (a 1 : Int), .int .u8 (a 2 : Int), .int .u8 (a 3 : Int)]] w fun e w' => e = .returned (.tuple #[]) ∧ w'.rowIs g 82 16 (fun j => .int .u8 ((mxB a f j).toNat : Int)) ∧ Kp g w w' := by
  have HCO := Lib.hid (fun qs hq w => column_raw a qs w ha hq)
  have HBN := Lib.hid (fun j => mxB_nat a f j ha)
  obtain ⟨v0, hv0⟩ : ∃ v, Hid (Value.int .u8 (a 0 : Int) = v) := ⟨_, Lib.hid rfl⟩
  obtain ⟨v1, hv1⟩ : ∃ v, Hid (Value.int .u8 (a 1 : Int) = v) := ⟨_, Lib.hid rfl⟩
  obtain ⟨v2, hv2⟩ : ∃ v, Hid (Value.int .u8 (a 2 : Int) = v) := ⟨_, Lib.hid rfl⟩
  obtain ⟨v3, hv3⟩ : ∃ v, Hid (Value.int .u8 (a 3 : Int) = v) := ⟨_, Lib.hid rfl⟩
  have o0 : v0.oneCell' = true := by rw [← hv0.out]; rfl
  have o1 : v1.oneCell' = true := by rw [← hv1.out]; rfl
  have o2 : v2.oneCell' = true := by rw [← hv2.out]; rfl
  have o3 : v3.oneCell' = true := by rw [← hv3.out]; rfl
  rw [hv0.out, hv1.out, hv2.out, hv3.out] at HCO ⊢
  clear hv0 hv1 hv2 hv3
  have hgs := World.rowIs.lt hR.out
  obtain ⟨w1, HW1, hb1, B1⟩ : ∃ w1, Hid (w.alloc (.cells #[v0, v1, v2, v3] 89) = w1) ∧ Hid (w1.heap[w.heap.size]? = some (.cells #[v0, v1, v2, v3] 89 (0, 0))) ∧ Below w.heap.size w w1 := ⟨_, Lib.hid rfl, Lib.hid (heap_alloc_new _ _), (Below.refl _ _).alloc (Nat.le_refl _) _⟩
  have HR1 : Hid (w1.rowIs g 82 16 (fun j => .int .u8 ((f j).toNat : Int))) := Lib.hid (World.rowIs.of_block hR.out (B1.block g hgs))
  have BG : Kp g w w1 := Kp.of_below B1 hgs
  have hgq : g < w.heap.size := hgs
  go_enter Try.func59, Try.ntmps59
  go_wp2_with fail
  rw [HW1.out]
  clear HW1 hR B1
  have hz1 : w.heap.size < w1.heap.size := blk_ltM hb1.out
  generalize hqe : w.heap.size = q at *
  have HQS := Lib.hid hqe
  clear hqe
  have HMQ : Hid (∀ w' : World, w'.heap[q]? = some (.cells #[v0, v1, v2, v3] 89 (0, 0)) → w'.rangeAt q 0 [v0, v1, v2, v3]) := Lib.hid (fun w' h => World.rangeAt_of_block h 0 4)
  go_loopw [6] (fun x wi => ∃ c : Nat, x = .int .i64 (c : Int) ∧ c ≤ 4 ∧ Hid (wi.rowIs g 82 16 (fun j => .int .u8 ((mxF a f c j).toNat : Int))) ∧ Hid (wi.heap[q]? = some (.cells #[v0, v1, v2, v3] 89 (0, 0))) ∧ Hid (Kp g w wi)) (fun x _ => 4 - (intOf x).toNat)
  case atStart => exact ⟨0, rfl, by omega, Lib.hid (World.rowIs.congr HR1.out fun j hj => by unfold mxF; rw [if_neg (show ¬ j < 4 * 0 by omega)]), hb1, Lib.hid BG⟩
  clear HR1 hb1 BG
  case round =>
    obtain ⟨c, rfl, hc, HR, HQ, HB⟩ := hrel
    by_cases hlc : c < 4
    · as_aux_lemma =>
      have hci : (c : Int) < 4 := by omega
      have y1 : IntKind.i64.wrap (4 * (c : Int)) = 4 * c := IntWalk.i64_in _ (by omega)
      have y2 : IntKind.i64.wrap (4 * (c : Int) + 4) = 4 * c + 4 := IntWalk.i64_in _ (by omega)
      have y3 : (4 * (c : Int)).toNat = 4 * c := by omega
      have y4 : (4 * (c : Int) + 4).toNat = 4 * c + 4 := by omega
      have y5 : (0 : Int) ≤ 4 * (c : Int) := by omega
      have y6 : 4 * (c : Int) + 4 ≤ 16 := by omega
      have y7 : 4 * (c : Int) ≤ 4 * (c : Int) + 4 := by omega
      have y8 : 4 * (c : Int) ≤ 16 := by omega
      have y9 : 4 * c + 4 - 4 * c = 4 := by omega
      have y10 : ¬ 16 = 4 * c := by omega
      have hat := array_atE g (4 * c) (16 - 4 * c)
      obtain ⟨x, hx⟩ : ∃ x : Nat → Nat, Hid ((fun i => (f (4 * c + i)).toNat) = x) := ⟨_, Lib.hid rfl⟩
      have hx5 : ∀ i, x i < 256 := fun i => by rw [← hx.out]; exact (f (4 * c + i)).toNat_lt
      have CO := Lib.hid (fun w => HCO.out x hx5 w)
      obtain ⟨b0, hb0⟩ : ∃ v, Hid (Value.int .u8 (x 0 : Int) = v) := ⟨_, Lib.hid rfl⟩
      obtain ⟨b1, hb1⟩ : ∃ v, Hid (Value.int .u8 (x 1 : Int) = v) := ⟨_, Lib.hid rfl⟩
      obtain ⟨b2, hb2⟩ : ∃ v, Hid (Value.int .u8 (x 2 : Int) = v) := ⟨_, Lib.hid rfl⟩
      obtain ⟨b3, hb3⟩ : ∃ v, Hid (Value.int .u8 (x 3 : Int) = v) := ⟨_, Lib.hid rfl⟩
      obtain ⟨d0, hd0⟩ : ∃ v, Hid (Value.int .u8 (colT a x 16 0 : Int) = v) := ⟨_, Lib.hid rfl⟩
      obtain ⟨d1, hd1⟩ : ∃ v, Hid (Value.int .u8 (colT a x 16 1 : Int) = v) := ⟨_, Lib.hid rfl⟩
      obtain ⟨d2, hd2⟩ : ∃ v, Hid (Value.int .u8 (colT a x 16 2 : Int) = v) := ⟨_, Lib.hid rfl⟩
      obtain ⟨d3, hd3⟩ : ∃ v, Hid (Value.int .u8 (colT a x 16 3 : Int) = v) := ⟨_, Lib.hid rfl⟩
      rw [hb0.out, hb1.out, hb2.out, hb3.out, hd0.out, hd1.out, hd2.out, hd3.out] at CO
      have HD1 : Hid (#[d0, d1, d2, d3].all (·.oneCell') = true) := Lib.hid (by
        rw [← hd0.out, ← hd1.out, ← hd2.out, ← hd3.out, ← Array.all_toList]
        rfl)
      have HDV : Hid (∀ j, j < 16 → j / 4 = c → [d0, d1, d2, d3][j % 4]? = some (.int .u8 ((mxB a f j).toNat : Int))) := Lib.hid (fun j hj hjc => by
        rw [HBN.out, hjc, hx.out, ← hd0.out, ← hd1.out, ← hd2.out, ← hd3.out]
        rcases (show j % 4 = 0 ∨ j % 4 = 1 ∨ j % 4 = 2 ∨ j % 4 = 3 by omega) with e | e | e | e <;> rw [e] <;> rfl)
      have HMR : Hid (∀ w' : World, w'.rowIs g 82 16 (fun j => .int .u8 ((mxF a f c j).toNat : Int)) → w'.rangeAt g (4 * c) [b0, b1, b2, b3]) := Lib.hid (fun w' h j v hv => by
        have hj : j < 4 := by
          have := (List.getElem?_eq_some_iff.1 hv).1
          simpa using this
        rw [World.rowIs.cell h (i := 4 * c + j) (by omega)]
        unfold mxF
        rw [if_neg (show ¬ 4 * c + j < 4 * c by omega), ← hv, ← hb0.out, ← hb1.out, ← hb2.out, ← hb3.out, ← hx.out]
        rcases (show j = 0 ∨ j = 1 ∨ j = 2 ∨ j = 3 by omega) with rfl | rfl | rfl | rfl <;> rfl)
      clear hb0 hb1 hb2 hb3 hd0 hd1 hd2 hd3 hx hx5
      go_upto_region 4 with fail
      go_cut [5] from 9 to 20 (fun s5 wx => ∃ z, s5 = .pointer (some ⟨z, 0, none⟩) ∧ Hid (g < z) ∧ Hid (wx.heap[z]? = some (.cells #[d0, d1, d2, d3] 89 (0, 0))) ∧ Hid (wx.rowIs g 82 16 (fun j => .int .u8 ((mxF a f c j).toNat : Int))) ∧ Hid (wx.heap[q]? = some (.cells #[v0, v1, v2, v3] 89 (0, 0))) ∧ Hid (Kp g w wx))
      case first =>
        have HR : Hid (wr.drew.rowIs g 82 16 (fun j => .int .u8 ((mxF a f c j).toNat : Int))) := Lib.hid HR.out
        have HQ : Hid (wr.drew.heap[q]? = some (.cells #[v0, v1, v2, v3] 89 (0, 0))) := Lib.hid HQ.out
        have HB : Hid (Kp g w wr.drew) := Lib.hid HB.out.drew
        have HG0 := Lib.hid (World.rowIs.lt HR.out)
        refine wp_region_noPanic ?_
        refine wp_region_held_drew (S := (fun w' => w'.rangeAt q 0 [v0, v1, v2, v3] ∧ w'.rangeAt g (4 * c) [b0, b1, b2, b3])) (by kernel_rfl) ?_ (fun hHeld => ?_)
        · (try dsimp only); exact ⟨HMQ.out _ HQ.out, HMR.out _ HR.out⟩
        generalize World.drew wr = wd at *
        refine wpAnyH_take (i := 0) (oi := { dst := some 9, op := Go.Op.load 89 (Go.Operand.tmp 3), type := 89, pos := "aes.go:117", after := #[], guard := none }) rfl (by kernel_rfl) (by kernel_rfl) (by kernel_rfl) (fun _ _ _ h => h) (yieldsIf_load_mid (by rfl) _ _ rfl q 0 rfl [v0, v1, v2, v3] _ (fun _ h => h.1) Try.underlying89 rfl (by kernel_rfl)) (by assumption) ?_
        try simp only [Act.put, List.setIfInBounds_toArray, List.set_cons_zero, List.set_cons_succ]
        refine wpAnyH_take (i := 1) (oi := { dst := some 10, op := Go.Op.move (Go.Operand.tmp 0), type := 86, pos := "aes.go:117", after := #[], guard := none }) (v := ?_) rfl (by kernel_rfl) (by kernel_rfl) (by kernel_rfl) (fun _ _ _ h => h) (Or.inl ⟨by rfl, ?_⟩) (by assumption) ?_
        rotate_left
        · (intro w hSw; (try dsimp only at hSw); go_simp; (try (with_reducible rfl)); done)
        try simp only [Act.put, List.setIfInBounds_toArray, List.set_cons_zero, List.set_cons_succ]
        refine wpAnyH_take (i := 2) (oi := { dst := some 11, op := Go.Op.nilCheck (Go.Operand.tmp 10), type := 86, pos := "aes.go:117", after := #[{ on := 1, ground := Go.Ground.data }], guard := none }) (v := ?_) rfl (by kernel_rfl) (by kernel_rfl) (by kernel_rfl) (fun _ _ _ h => h) (Or.inl ⟨by rfl, ?_⟩) (by assumption) ?_
        rotate_left
        · (intro w hSw; (try dsimp only at hSw); go_simp; (try (with_reducible rfl)); done)
        try simp only [Act.put, List.setIfInBounds_toArray, List.set_cons_zero, List.set_cons_succ]
        refine wpAnyH_take (i := 3) (oi := { dst := some 12, op := Go.Op.move (Go.Operand.tmp 4), type := 3, pos := "aes.go:117", after := #[], guard := none }) (v := ?_) rfl (by kernel_rfl) (by kernel_rfl) (by kernel_rfl) (fun _ _ _ h => h) (Or.inl ⟨by rfl, ?_⟩) (by assumption) ?_
        rotate_left
        · (intro w hSw; (try dsimp only at hSw); go_simp; (try (with_reducible rfl)); done)
        try simp only [Act.put, List.setIfInBounds_toArray, List.set_cons_zero, List.set_cons_succ]
        refine wpAnyH_take (i := 4) (oi := { dst := some 13, op := Go.Op.binOp Go.BinOp.mul 3 (Go.Operand.const (Go.Value.int Go.IntKind.i64 4)) (Go.Operand.tmp 12) 3, type := 3, pos := "aes.go:117", after := #[{ on := 3, ground := Go.Ground.data }], guard := none }) (v := ?_) rfl (by kernel_rfl) (by kernel_rfl) (by kernel_rfl) (fun _ _ _ h => h) (Or.inl ⟨by rfl, ?_⟩) (by assumption) ?_
        rotate_left
        · (intro w hSw; (try dsimp only at hSw); go_simp; (try (with_reducible rfl)); done)
        try simp only [Act.put, List.setIfInBounds_toArray, List.set_cons_zero, List.set_cons_succ]
        refine wpAnyH_take (i := 5) (oi := { dst := some 14, op := Go.Op.move (Go.Operand.tmp 4), type := 3, pos := "aes.go:117", after := #[], guard := none }) (v := ?_) rfl (by kernel_rfl) (by kernel_rfl) (by kernel_rfl) (fun _ _ _ h => h) (Or.inl ⟨by rfl, ?_⟩) (by assumption) ?_
        rotate_left
        · (intro w hSw; (try dsimp only at hSw); go_simp; (try (with_reducible rfl)); done)
        try simp only [Act.put, List.setIfInBounds_toArray, List.set_cons_zero, List.set_cons_succ]
        refine wpAnyH_take (i := 6) (oi := { dst := some 15, op := Go.Op.binOp Go.BinOp.mul 3 (Go.Operand.const (Go.Value.int Go.IntKind.i64 4)) (Go.Operand.tmp 14) 3, type := 3, pos := "aes.go:117", after := #[{ on := 5, ground := Go.Ground.data }], guard := none }) (v := ?_) rfl (by kernel_rfl) (by kernel_rfl) (by kernel_rfl) (fun _ _ _ h => h) (Or.inl ⟨by rfl, ?_⟩) (by assumption) ?_
        rotate_left
        · (intro w hSw; (try dsimp only at hSw); go_simp; (try (with_reducible rfl)); done)
        try simp only [Act.put, List.setIfInBounds_toArray, List.set_cons_zero, List.set_cons_succ]
        refine wpAnyH_take (i := 7) (oi := { dst := some 16, op := Go.Op.binOp Go.BinOp.add 3 (Go.Operand.tmp 15) (Go.Operand.const (Go.Value.int Go.IntKind.i64 4)) 3, type := 3, pos := "aes.go:117", after := #[{ on := 6, ground := Go.Ground.data }], guard := none }) (v := ?_) rfl (by kernel_rfl) (by kernel_rfl) (by kernel_rfl) (fun _ _ _ h => h) (Or.inl ⟨by rfl, ?_⟩) (by assumption) ?_
        rotate_left
        · (intro w hSw; (try dsimp only at hSw); go_simp; (try (with_reducible rfl)); done)
        try simp only [Act.put, List.setIfInBounds_toArray, List.set_cons_zero, List.set_cons_succ]
        refine wpAnyH_take (i := 8) (oi := { dst := some 17, op := Go.Op.slice 82 (Go.Operand.tmp 11) (some (Go.Operand.tmp 13)) (some (Go.Operand.tmp 16)) none, type := 104, pos := "aes.go:117", after := #[{ on := 2, ground := Go.Ground.data }, { on := 4, ground := Go.Ground.data }, { on := 7, ground := Go.Ground.data }], guard := none }) (v := ?_) rfl (by kernel_rfl) (by kernel_rfl) (by kernel_rfl) (fun _ _ _ h => h) (Or.inl ⟨by rfl, ?_⟩) (by assumption) ?_
        rotate_left
        · (intro w hSw; (try dsimp only at hSw); go_simp; (try (with_reducible rfl)); done)
        try simp only [Act.put, List.setIfInBounds_toArray, List.set_cons_zero, List.set_cons_succ]
        refine wpAnyH_take (i := 9) (oi := { dst := some 18, op := Go.Op.sliceToArrayPointer 89 (Go.Operand.tmp 17), type := 0, pos := "aes.go:117", after := #[{ on := 8, ground := Go.Ground.data }], guard := none }) (v := ?_) rfl (by kernel_rfl) (by kernel_rfl) (by kernel_rfl) (fun _ _ _ h => h) (Or.inl ⟨by rfl, ?_⟩) (by assumption) ?_
        rotate_left
        · (intro w hSw; (try dsimp only at hSw); go_simp; (try (with_reducible rfl)); done)
        try simp only [Act.put, List.setIfInBounds_toArray, List.set_cons_zero, List.set_cons_succ]
        refine wpAnyH_take (i := 10) (oi := { dst := some 19, op := Go.Op.load 89 (Go.Operand.tmp 18), type := 89, pos := "aes.go:117", after := #[{ on := 9, ground := Go.Ground.data }], guard := none }) rfl (by kernel_rfl) (by kernel_rfl) (by kernel_rfl) (fun _ _ _ h => h) (yieldsIf_load_mid (by rfl) _ _ rfl g (4 * c) rfl [b0, b1, b2, b3] _ (fun _ h => h.2) Try.underlying89 rfl (by kernel_rfl)) (by assumption) ?_
        try simp only [Act.put, List.setIfInBounds_toArray, List.set_cons_zero, List.set_cons_succ]
        refine wpAnyH_ready (rs := [11, 12]) (by kernel_rfl) (by simp) ?_
        refine AllReadyH.cons (o := { dst := some 20, op := Go.Op.call { callee := Go.Callee.value (Go.Operand.func 78), args := #[Go.Operand.tmp 9, Go.Operand.tmp 19], argTypes := #[89, 89] }, type := 89, pos := "aes.go:117", after := #[{ on := 0, ground := Go.Ground.data }, { on := 10, ground := Go.Ground.data }], guard := none }) rfl (fun K hK => ?_) (AllReadyH.cons (o := { dst := some 5, op := Go.Op.alloc 89, type := 0, pos := "aes.go:117", after := #[], guard := none }) rfl (fun K hK => ?_) AllReadyH.nil)
        ·
          (go_simp; go_at_call 78; refine (CO.out _).mono ?_; rintro e w' ⟨rfl, hb⟩; have HB := Lib.hid (HB.out.trans (Kp.of_below hb HG0.out)); have HR := Lib.hid (World.rowIs.of_block HR.out (hb.block g HG0.out)); have HQ := Lib.hid (blk_belowM hb HQ.out); (try have HZ := Lib.hid (blk_belowM hb HZ.out)); have HG0 := Lib.hid (World.rowIs.lt HR.out); clear hb)
          try go_wp2_with fail
          refine hK.out _ _ ?_ (fun hHeld => ?_)
          · (try dsimp only); exact ⟨HMQ.out _ HQ.out, HMR.out _ HR.out⟩
          clear hK K
          try simp only [Act.put, List.setIfInBounds_toArray, List.set_cons_zero, List.set_cons_succ]
          refine wpAnyH_ready (rs := [12]) (by kernel_rfl) (by simp) ?_
          refine AllReadyH.cons (o := { dst := some 5, op := Go.Op.alloc 89, type := 0, pos := "aes.go:117", after := #[], guard := none }) rfl (fun K hK => ?_) AllReadyH.nil
          go_simp
          refine alloc_stepM hK ⟨HMQ.out _ (blk_belowM ((Below.refl _ _).alloc (Nat.le_refl _) _) HQ.out), HMR.out _ (World.rowIs.of_block HR.out (((Below.refl _ _).alloc (Nat.le_refl _) _).block g HG0.out))⟩ (fun W' hW' hz hHeld => ?_); have hbz := below_of_allocM hW'; have HZQ := Lib.hid (blk_ltM HQ.out); have HZG := HG0; have HB := Lib.hid (HB.out.trans (Kp.of_below hbz HG0.out)); have HR := Lib.hid (World.rowIs.of_block HR.out (hbz.block g HG0.out)); have HQ := Lib.hid (blk_belowM hbz HQ.out); have HG0 := Lib.hid (World.rowIs.lt HR.out); have HZ := Lib.hid hz; clear hz hW' hbz
          clear hK K
          try simp only [Act.put, List.setIfInBounds_toArray, List.set_cons_zero, List.set_cons_succ]
          refine wpAnyH_ready (rs := [13]) (by kernel_rfl) (by simp) ?_
          refine AllReadyH.cons (o := { dst := none, op := Go.Op.store 89 (Go.Operand.tmp 5) (Go.Operand.tmp 20), type := 0, pos := "aes.go:117", after := #[{ on := 12, ground := Go.Ground.data }, { on := 11, ground := Go.Ground.data }, { on := 11, ground := Go.Ground.chain }, { on := 0, ground := Go.Ground.phase }, { on := 1, ground := Go.Ground.phase }, { on := 2, ground := Go.Ground.phase }, { on := 3, ground := Go.Ground.phase }, { on := 4, ground := Go.Ground.phase }, { on := 5, ground := Go.Ground.phase }, { on := 6, ground := Go.Ground.phase }, { on := 7, ground := Go.Ground.phase }, { on := 8, ground := Go.Ground.phase }, { on := 9, ground := Go.Ground.phase }, { on := 10, ground := Go.Ground.phase }, { on := 11, ground := Go.Ground.phase }, { on := 12, ground := Go.Ground.phase }], guard := none }) rfl (fun K hK => ?_) AllReadyH.nil
          (rw [if_pos (by rfl)]; refine wp_store_row _ _ _ rfl _ #[d0, d1, d2, d3] rfl rfl 89 _ HZ.out (by kernel_rfl) (by rfl) HD1.out ?_)
          refine any_stepM hK ⟨HMQ.out _ ((setRow_other _ _ _ _ (Nat.ne_of_lt HZQ.out)).trans HQ.out), HMR.out _ (World.rowIs.of_block HR.out (setRow_other _ _ _ _ (Nat.ne_of_lt HZG.out)))⟩ (fun W' hW' hHeld => ?_); have HB := Lib.hid (hW'.out ▸ HB.out.setRow (Or.inr ⟨Nat.le_of_lt HZG.out, HQS.out ▸ Nat.le_of_lt HZQ.out⟩) #[d0, d1, d2, d3]); have HR := Lib.hid (hW'.out ▸ (World.rowIs.of_block HR.out (setRow_other _ _ _ #[d0, d1, d2, d3] (Nat.ne_of_lt HZG.out)))); have HQ := Lib.hid (hW'.out ▸ (setRow_other _ _ _ #[d0, d1, d2, d3] (Nat.ne_of_lt HZQ.out)).trans HQ.out); have HZ := Lib.hid (hW'.out ▸ setRow_heap _ _ _ #[d0, d1, d2, d3] 89 (0, 0) HZ.out); clear hW'
          clear hK K
          try simp only [Act.put, List.setIfInBounds_toArray, List.set_cons_zero, List.set_cons_succ]
          refine wpAnyH_done (by kernel_rfl) ?_ _
          refine NoPanic.normal ?_
          go_wp2_with fail
          go_meet
          exact ⟨_, rfl, HZG, HZ, HR, HQ, HB⟩
        ·
          go_simp
          refine alloc_stepM hK ⟨HMQ.out _ (blk_belowM ((Below.refl _ _).alloc (Nat.le_refl _) _) HQ.out), HMR.out _ (World.rowIs.of_block HR.out (((Below.refl _ _).alloc (Nat.le_refl _) _).block g HG0.out))⟩ (fun W' hW' hz hHeld => ?_); have hbz := below_of_allocM hW'; have HZQ := Lib.hid (blk_ltM HQ.out); have HZG := HG0; have HB := Lib.hid (HB.out.trans (Kp.of_below hbz HG0.out)); have HR := Lib.hid (World.rowIs.of_block HR.out (hbz.block g HG0.out)); have HQ := Lib.hid (blk_belowM hbz HQ.out); have HG0 := Lib.hid (World.rowIs.lt HR.out); have HZ := Lib.hid hz; clear hz hW' hbz
          clear hK K
          try simp only [Act.put, List.setIfInBounds_toArray, List.set_cons_zero, List.set_cons_succ]
          refine wpAnyH_ready (rs := [11]) (by kernel_rfl) (by simp) ?_
          refine AllReadyH.cons (o := { dst := some 20, op := Go.Op.call { callee := Go.Callee.value (Go.Operand.func 78), args := #[Go.Operand.tmp 9, Go.Operand.tmp 19], argTypes := #[89, 89] }, type := 89, pos := "aes.go:117", after := #[{ on := 0, ground := Go.Ground.data }, { on := 10, ground := Go.Ground.data }], guard := none }) rfl (fun K hK => ?_) AllReadyH.nil
          (go_simp; go_at_call 78; refine (CO.out _).mono ?_; rintro e w' ⟨rfl, hb⟩; have HB := Lib.hid (HB.out.trans (Kp.of_below hb HG0.out)); have HR := Lib.hid (World.rowIs.of_block HR.out (hb.block g HG0.out)); have HQ := Lib.hid (blk_belowM hb HQ.out); (try have HZ := Lib.hid (blk_belowM hb HZ.out)); have HG0 := Lib.hid (World.rowIs.lt HR.out); clear hb)
          try go_wp2_with fail
          refine hK.out _ _ ?_ (fun hHeld => ?_)
          · (try dsimp only); exact ⟨HMQ.out _ HQ.out, HMR.out _ HR.out⟩
          clear hK K
          try simp only [Act.put, List.setIfInBounds_toArray, List.set_cons_zero, List.set_cons_succ]
          refine wpAnyH_ready (rs := [13]) (by kernel_rfl) (by simp) ?_
          refine AllReadyH.cons (o := { dst := none, op := Go.Op.store 89 (Go.Operand.tmp 5) (Go.Operand.tmp 20), type := 0, pos := "aes.go:117", after := #[{ on := 12, ground := Go.Ground.data }, { on := 11, ground := Go.Ground.data }, { on := 11, ground := Go.Ground.chain }, { on := 0, ground := Go.Ground.phase }, { on := 1, ground := Go.Ground.phase }, { on := 2, ground := Go.Ground.phase }, { on := 3, ground := Go.Ground.phase }, { on := 4, ground := Go.Ground.phase }, { on := 5, ground := Go.Ground.phase }, { on := 6, ground := Go.Ground.phase }, { on := 7, ground := Go.Ground.phase }, { on := 8, ground := Go.Ground.phase }, { on := 9, ground := Go.Ground.phase }, { on := 10, ground := Go.Ground.phase }, { on := 11, ground := Go.Ground.phase }, { on := 12, ground := Go.Ground.phase }], guard := none }) rfl (fun K hK => ?_) AllReadyH.nil
          (rw [if_pos (by rfl)]; refine wp_store_row _ _ _ rfl _ #[d0, d1, d2, d3] rfl rfl 89 _ HZ.out (by kernel_rfl) (by rfl) HD1.out ?_)
          refine any_stepM hK ⟨HMQ.out _ ((setRow_other _ _ _ _ (Nat.ne_of_lt HZQ.out)).trans HQ.out), HMR.out _ (World.rowIs.of_block HR.out (setRow_other _ _ _ _ (Nat.ne_of_lt HZG.out)))⟩ (fun W' hW' hHeld => ?_); have HB := Lib.hid (hW'.out ▸ HB.out.setRow (Or.inr ⟨Nat.le_of_lt HZG.out, HQS.out ▸ Nat.le_of_lt HZQ.out⟩) #[d0, d1, d2, d3]); have HR := Lib.hid (hW'.out ▸ (World.rowIs.of_block HR.out (setRow_other _ _ _ #[d0, d1, d2, d3] (Nat.ne_of_lt HZG.out)))); have HQ := Lib.hid (hW'.out ▸ (setRow_other _ _ _ #[d0, d1, d2, d3] (Nat.ne_of_lt HZQ.out)).trans HQ.out); have HZ := Lib.hid (hW'.out ▸ setRow_heap _ _ _ #[d0, d1, d2, d3] 89 (0, 0) HZ.out); clear hW'
          clear hK K
          try simp only [Act.put, List.setIfInBounds_toArray, List.set_cons_zero, List.set_cons_succ]
          refine wpAnyH_done (by kernel_rfl) ?_ _
          refine NoPanic.normal ?_
          go_wp2_with fail
          go_meet
          exact ⟨_, rfl, HZG, HZ, HR, HQ, HB⟩
      case rest =>
        obtain ⟨z, rfl, HZG, HZ, HR, HQ, HB⟩ := hcut
        clear hat
        have HS16 : Hid (wc.heap[g]? = some (.cells (st16 (mxF a f c)).toList.toArray 82 (0, 0))) := Lib.hid (by rw [Array.toArray_toList]; exact st16_row HR.out)
        have HSR : Hid (∀ j v, [d0, d1, d2, d3][j]? = some v → wc.cell? (Addr.add ⟨z, 0, none⟩ j) = some v) := Lib.hid (fun j v hv => by
          have := World.rangeAt_of_block HZ.out 0 4 j v hv
          rw [← this]
          by_cases e : j = 0
          · subst e; rfl
          · simp [Addr.add, e])
        have HSL : Hid ((st16 (mxF a f c)).toList.length = 16) := Lib.hid (by rw [Array.length_toList, st16_size])
        have HHC : Hid (∀ v ∈ [d0, d1, d2, d3], v.oneCell' = true) := Lib.hid (fun v hv => by
          have := HD1.out
          rw [← Array.all_toList, List.all_eq_true] at this
          exact this v hv)
        have HMN : Hid ([d0, d1, d2, d3].length = Nat.min 4 (16 - 4 * c)) := Lib.hid ((Nat.min_eq_left (show 4 ≤ 16 - 4 * c by omega)).symm)
        have HZQ2 : Hid (q ≠ g) := Lib.hid (Nat.ne_of_gt hgq)
        go_upto_region 5 with fail
        refine wp_region_lin (S := (fun _ => True)) [(0, true), (1, true), (2, true), (3, true), (4, true), (5, true), (6, false)] (by kernel_rfl) (by kernel_rfl) rfl (by kernel_rfl) ?_ (fun hHeld => ?_)
        · (try dsimp only); try exact trivial
        (refine wpL_calm (o := { dst := some 21, op := Go.Op.move (Go.Operand.tmp 0), type := 86, pos := "aes.go:118", after := #[], guard := none }) (v := ?_) rfl (Or.inl ⟨by rfl, ?_⟩) ?_; rotate_left; (focus (intro w hSw; (try dsimp only at hSw); go_simp; (try (with_reducible rfl)); done)); try simp only [Act.put, List.setIfInBounds_toArray, List.set_cons_zero, List.set_cons_succ])
        (refine wpL_calm (o := { dst := some 22, op := Go.Op.nilCheck (Go.Operand.tmp 21), type := 86, pos := "aes.go:118", after := #[{ on := 0, ground := Go.Ground.data }], guard := none }) (v := ?_) rfl (Or.inl ⟨by rfl, ?_⟩) ?_; rotate_left; (focus (intro w hSw; (try dsimp only at hSw); go_simp; (try (with_reducible rfl)); done)); try simp only [Act.put, List.setIfInBounds_toArray, List.set_cons_zero, List.set_cons_succ])
        (refine wpL_calm (o := { dst := some 23, op := Go.Op.move (Go.Operand.tmp 4), type := 3, pos := "aes.go:118", after := #[], guard := none }) (v := ?_) rfl (Or.inl ⟨by rfl, ?_⟩) ?_; rotate_left; (focus (intro w hSw; (try dsimp only at hSw); go_simp; (try (with_reducible rfl)); done)); try simp only [Act.put, List.setIfInBounds_toArray, List.set_cons_zero, List.set_cons_succ])
        (refine wpL_calm (o := { dst := some 24, op := Go.Op.binOp Go.BinOp.mul 3 (Go.Operand.const (Go.Value.int Go.IntKind.i64 4)) (Go.Operand.tmp 23) 3, type := 3, pos := "aes.go:118", after := #[{ on := 2, ground := Go.Ground.data }], guard := none }) (v := ?_) rfl (Or.inl ⟨by rfl, ?_⟩) ?_; rotate_left; (focus (intro w hSw; (try dsimp only at hSw); go_simp; (try (with_reducible rfl)); done)); try simp only [Act.put, List.setIfInBounds_toArray, List.set_cons_zero, List.set_cons_succ])
        (refine wpL_calm (o := { dst := some 25, op := Go.Op.slice 82 (Go.Operand.tmp 22) (some (Go.Operand.tmp 24)) none none, type := 104, pos := "aes.go:118", after := #[{ on := 1, ground := Go.Ground.data }, { on := 3, ground := Go.Ground.data }], guard := none }) (v := ?_) rfl (Or.inl ⟨by rfl, ?_⟩) ?_; rotate_left; (focus (intro w hSw; (try dsimp only at hSw); go_simp; (try (with_reducible rfl)); done)); try simp only [Act.put, List.setIfInBounds_toArray, List.set_cons_zero, List.set_cons_succ])
        (refine wpL_calm (o := { dst := some 26, op := Go.Op.slice 89 (Go.Operand.tmp 5) none none none, type := 104, pos := "aes.go:118", after := #[], guard := none }) (v := ?_) rfl (Or.inl ⟨by rfl, ?_⟩) ?_; rotate_left; (focus (intro w hSw; (try dsimp only at hSw); go_simp; (try (with_reducible rfl)); done)); try simp only [Act.put, List.setIfInBounds_toArray, List.set_cons_zero, List.set_cons_succ])
        refine wpL_loud0 (o := { dst := some 27, op := Go.Op.call { callee := Go.Callee.builtin Go.Builtin.copy, args := #[Go.Operand.tmp 25, Go.Operand.tmp 26], argTypes := #[104, 104] }, type := 3, pos := "aes.go:118", after := #[{ on := 4, ground := Go.Ground.data }, { on := 5, ground := Go.Ground.data }], guard := none }) rfl (by kernel_rfl) (fun K hK => ?_)
        (refine step_copy_ownM rfl (.tmp 25) (.tmp 26) _ _ rfl 66 Try.underlying104 (by kernel_rfl) _ _ _ _ _ _ _ rfl rfl (st16 (mxF a f c)).toList 82 HS16.out [d0, d1, d2, d3] ?_ HSR.out (by rw [HSL.out]; simp; omega) HHC.out ?_; exact HMN.out; intro w9 HW9; have HB := Lib.hid (HW9.out ▸ HB.out.drew.setRow (Or.inl rfl) _); have HR9 : Hid (w9.heap[g]? = some (.cells (splice (st16 (mxF a f c)).toList (4 * c) [d0, d1, d2, d3]).toArray 82 (0, 0))) := Lib.hid (by rw [HW9.out]; exact setRow_heap wc.drew _ _ _ 82 (0, 0) HS16.out); have HQ : Hid (w9.heap[q]? = some (.cells #[v0, v1, v2, v3] 89 (0, 0))) := Lib.hid (by rw [HW9.out]; exact (setRow_other wc.drew _ _ _ HZQ2.out).trans HQ.out); clear HW9 HSR HS16 HSL)
        try go_wp2_with fail
        refine hK.out _ _ ?_
        clear hK K
        try simp only [Act.put, List.setIfInBounds_toArray, List.set_cons_zero, List.set_cons_succ]
        refine wpL_nil ?_
        refine NoPanic.normal ?_
        go_wp2_with fail
        go_roundw
        case rel => exact ⟨c + 1, by go_num, by omega, Lib.hid (splice4 (mxF a f c) (mxF a f (c + 1)) c hlc d0 d1 d2 d3 (fun j hj hjc => by rw [HDV.out j hj hjc]; unfold mxF; rw [if_pos (show j < 4 * (c + 1) by omega)]) (fun j hj hjc => by
          unfold mxF
          by_cases h : j < 4 * c
          · rw [if_pos h, if_pos (show j < 4 * (c + 1) by omega)]
          · rw [if_neg h, if_neg (show ¬ j < 4 * (c + 1) by omega)]) _ g _ HR9.out), HQ, HB⟩
        case measure => simp [intOf]; omega
    · as_aux_lemma =>
      obtain rfl : c = 4 := by omega
      rw [show ((4 : Nat) : Int) = 4 from rfl]
      go_wp2_with fail
      go_end0
      exact ⟨rfl, World.rowIs.congr HR.out fun j hj => by unfold mxF; rw [if_pos (show j < 4 * 4 by omega)], HB.out⟩
end Go.Proofs.Ytbbanhjcchnhpaa
