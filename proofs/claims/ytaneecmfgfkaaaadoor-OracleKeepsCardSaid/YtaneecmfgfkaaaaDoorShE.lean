/- Contracts (cellaret): what sha.worker makes works on a block. -/
import Derived.Test.YtaneecmfgfkaaaaDoorShD
import Derived.Laws.CopyOwn
import Derived.Laws.Tables
namespace Go.Proofs.YtaneecmfgfkaaaaDoor
open Go.RowKit Go.Deep
set_option linter.unusedVariables false
set_option linter.unusedSimpArgs false
theorem vL_len (v : V8) : (vL v).length = 8 := rfl
/-- What the row of eight words behind a copy holds, cell by cell. -/
structure Was (w : World) (g : Nat) (v : V8) : Prop where
  c0 : w.cell? ⟨g, 0, none⟩ = some (.int .u32 (v.a.toNat : Int))
  c1 : w.cell? ⟨g, 1, none⟩ = some (.int .u32 (v.b.toNat : Int))
  c2 : w.cell? ⟨g, 2, none⟩ = some (.int .u32 (v.c.toNat : Int))
  c3 : w.cell? ⟨g, 3, none⟩ = some (.int .u32 (v.d.toNat : Int))
  c4 : w.cell? ⟨g, 4, none⟩ = some (.int .u32 (v.e.toNat : Int))
  c5 : w.cell? ⟨g, 5, none⟩ = some (.int .u32 (v.f.toNat : Int))
  c6 : w.cell? ⟨g, 6, none⟩ = some (.int .u32 (v.g.toNat : Int))
  c7 : w.cell? ⟨g, 7, none⟩ = some (.int .u32 (v.h.toNat : Int))
theorem was_of {w : World} {g : Nat} {v : V8} (h : w.heap[g]? = some (.cells (vL v).toArray 73 (0, 0))) : Was w g v := by
  constructor <;> exact cell_of_row w g _ _ _ _ h
/-- A copy of eight words in a block of its own. -/
theorem stored_w8 (w : World) (v : V8) : ∃ w3, Hid ((w.alloc (.cells #[.int .u32 0, .int .u32 0, .int .u32 0, .int .u32 0, .int .u32 0, .int .u32 0, .int .u32 0, .int .u32 0] 73)).setRow w.heap.size (vL v).toArray = w3) ∧ Was w3 w.heap.size v ∧ Below w.heap.size w w3 ∧ w.heap.size < w3.heap.size :=
  ⟨_, Lib.hid rfl, was_of (setRow_heap _ _ _ (vL v).toArray 73 (0, 0) (heap_alloc_new _ _)), below_setRow ((Below.refl _ _).alloc (Nat.le_refl _) _) (Nat.le_refl _) _, by simp [World.setRow]⟩
theorem row_below {w w' : World} {g n : Nat} {t : TypeId} {f : Nat → Value} (h : w.rowIs g t n f) (hb : Below w.heap.size w w') (hg : g < w.heap.size) : w'.rowIs g t n f := by
  obtain ⟨c, h1, h2⟩ := h
  exact ⟨c, (hb.block g hg).trans h1, h2⟩
theorem there_below {w w' : World} {g o n : Nat} (h : w.there g o n) (hb : Below w.heap.size w w') (hg : g < w.heap.size) : w'.there g o n := fun j hj => by
  have h1 := h j hj
  rw [hb.cell (p := ⟨g, o + j, none⟩) hg, hb.frozen (p := ⟨g, o + j, none⟩) hg]
  exact h1
/-- What stays while a block is worked on. -/
structure KW (l : List UInt8) (v : V8) (gh oh gw gx gs : Nat) (w w' : World) : Prop where
  row : w'.rowIs gw 106 64 (fun j => wv (wd l j))
  was : Was w' gs v
  thr : w'.there gh oh 8
  x : w'.cell? ⟨gx, 0, none⟩ = some (.pointer (some ⟨gh, oh, none⟩))
  but : But2 w w' gh gw
  same : w'.heap[gh]? = w.heap[gh]?
theorem Was.drew {w : World} {g : Nat} {v : V8} (h : Was w g v) : Was w.drew g v := ⟨h.c0, h.c1, h.c2, h.c3, h.c4, h.c5, h.c6, h.c7⟩
theorem KW.drew {l : List UInt8} {v : V8} {gh oh gw gx gs : Nat} {w w' : World} (h : KW l v gh oh gw gx gs w w') : KW l v gh oh gw gx gs w w'.drew := ⟨h.row, h.was.drew, h.thr, h.x, h.but.drew, h.same⟩
theorem turn2 (x : UInt32) (w : World) : Calls Tryd.prog 59 #[.int .u32 (x.toNat : Int), .int .i64 2] w fun e w' => e = .returned (.int .u32 ((rr x 2).toNat : Int)) ∧ w = w' := turn_any x 2 w (by unfold Tn; omega)
theorem turn6 (x : UInt32) (w : World) : Calls Tryd.prog 59 #[.int .u32 (x.toNat : Int), .int .i64 6] w fun e w' => e = .returned (.int .u32 ((rr x 6).toNat : Int)) ∧ w = w' := turn_any x 6 w (by unfold Tn; omega)
theorem turn11 (x : UInt32) (w : World) : Calls Tryd.prog 59 #[.int .u32 (x.toNat : Int), .int .i64 11] w fun e w' => e = .returned (.int .u32 ((rr x 11).toNat : Int)) ∧ w = w' := turn_any x 11 w (by unfold Tn; omega)
theorem turn13 (x : UInt32) (w : World) : Calls Tryd.prog 59 #[.int .u32 (x.toNat : Int), .int .i64 13] w fun e w' => e = .returned (.int .u32 ((rr x 13).toNat : Int)) ∧ w = w' := turn_any x 13 w (by unfold Tn; omega)
theorem turn22 (x : UInt32) (w : World) : Calls Tryd.prog 59 #[.int .u32 (x.toNat : Int), .int .i64 22] w fun e w' => e = .returned (.int .u32 ((rr x 22).toNat : Int)) ∧ w = w' := turn_any x 22 w (by unfold Tn; omega)
theorem turn25 (x : UInt32) (w : World) : Calls Tryd.prog 59 #[.int .u32 (x.toNat : Int), .int .i64 25] w fun e w' => e = .returned (.int .u32 ((rr x 25).toNat : Int)) ∧ w = w' := turn_any x 25 w (by unfold Tn; omega)
theorem w_not (e : UInt32) : bits BinOp.xor IntKind.u32 IntKind.u32.max (e.toNat : Int) = ((~~~e).toNat : Int) := by
  rw [show (IntKind.u32.max : Int) = (((4294967295 : UInt32).toNat : Nat) : Int) from rfl, w_xor]
  have : (4294967295 : UInt32) ^^^ e = ~~~e := by
    rw [← UInt32.toBitVec_inj, UInt32.toBitVec_xor, UInt32.toBitVec_not]
    exact BitVec.allOnes_xor
  rw [this]
theorem fin_cells (v : V8) (l : List UInt8) (a b c d e f g h : UInt32) (hr : rounds (wl l 64) v 64 = ⟨a, b, c, d, e, f, g, h⟩) : [Value.int IntKind.u32 (((v.a.toNat : Int) + (a.toNat : Int)) % 4294967296), Value.int IntKind.u32 (((v.b.toNat : Int) + (b.toNat : Int)) % 4294967296), Value.int IntKind.u32 (((v.c.toNat : Int) + (c.toNat : Int)) % 4294967296), Value.int IntKind.u32 (((v.d.toNat : Int) + (d.toNat : Int)) % 4294967296), Value.int IntKind.u32 (((v.e.toNat : Int) + (e.toNat : Int)) % 4294967296), Value.int IntKind.u32 (((v.f.toNat : Int) + (f.toNat : Int)) % 4294967296), Value.int IntKind.u32 (((v.g.toNat : Int) + (g.toNat : Int)) % 4294967296), Value.int IntKind.u32 (((v.h.toNat : Int) + (h.toNat : Int)) % 4294967296)] = vL (blk v l) := by
  rw [w_add, w_add, w_add, w_add, w_add, w_add, w_add, w_add]
  unfold blk
  rw [hr]
  rfl
theorem setCells_block (a : Nat) : ∀ (cs : List Value) (o : Nat) (w : World) (k : Nat), k ≠ a → (w.setCells a o cs).heap[k]? = w.heap[k]?
  | [], _, _, _, _ => rfl
  | v :: r, o, w, k, h => (setCells_block a r (o + 1) _ k h).trans (Below.heap_setCell w _ v k h)
theorem setCells_size (a : Nat) : ∀ (cs : List Value) (o : Nat) (w : World), (w.setCells a o cs).heap.size = w.heap.size
  | [], _, _ => rfl
  | v :: r, o, w => (setCells_size a r (o + 1) _).trans (by simp [World.setCell])
theorem t2_walk (T a b c : UInt32) : ((T.toNat : Int) + (bits BinOp.xor IntKind.u32 (bits BinOp.xor IntKind.u32 ((rr a 2).toNat : Int) ((rr a 13).toNat : Int)) ((rr a 22).toNat : Int) + bits BinOp.xor IntKind.u32 (bits BinOp.xor IntKind.u32 (bits BinOp.and IntKind.u32 (a.toNat : Int) (b.toNat : Int)) (bits BinOp.and IntKind.u32 (a.toNat : Int) (c.toNat : Int))) (bits BinOp.and IntKind.u32 (b.toNat : Int) (c.toNat : Int))) % 4294967296) % 4294967296 = ((T + (bs0 a + mjw a b c)).toNat : Int) := by
  rw [w_xor, w_xor, w_and, w_and, w_and, w_xor, w_xor, w_add, w_add]
  rfl
theorem int_u32 {a b : Int} (h : a = b) : Value.int .u32 a = Value.int .u32 b := by rw [h]
theorem t1_walk (e f g h kk wk : UInt32) : IntKind.u32.wrap (IntKind.u32.wrap (IntKind.u32.wrap (IntKind.u32.wrap ((h.toNat : Int) + bits BinOp.xor IntKind.u32 (bits BinOp.xor IntKind.u32 ((rr e 6).toNat : Int) ((rr e 11).toNat : Int)) ((rr e 25).toNat : Int)) + bits BinOp.xor IntKind.u32 (bits BinOp.and IntKind.u32 (e.toNat : Int) (f.toNat : Int)) (bits BinOp.and IntKind.u32 (bits BinOp.xor IntKind.u32 IntKind.u32.max (e.toNat : Int)) (g.toNat : Int))) + (kk.toNat : Int)) + (wk.toNat : Int)) = ((h + bs1 e + chw e f g + kk + wk).toNat : Int) := by
  rw [w_not, w_xor, w_xor, w_and, w_and, w_xor, w_wadd, w_wadd, w_wadd, w_wadd]
  rfl
theorem rounds_zero (ws : List UInt32) (v : V8) : rounds ws v 0 = ⟨v.a, v.b, v.c, v.d, v.e, v.f, v.g, v.h⟩ := rfl
theorem rounds_succ (ws : List UInt32) (v : V8) (n : Nat) : rounds ws v (n + 1) = rnd (rounds ws v n) (kc n) (wAt ws n) := rfl
theorem wd_def (l : List UInt8) (k : Nat) : wAt (wl l 64) k = wd l k := rfl
attribute [local irreducible] kc wl rounds wd klist rr
set_option maxRecDepth 100000 in
set_option maxHeartbeats 2000000 in
theorem worker1_any (l : List UInt8) (hl : l.length = 64) (v : V8) (gh oh gw gx gb ob cap : Nat) (f : Nat → UInt32) (w : World) (hK : w.rangeAt 1 0 kL) (h1h : 1 ≠ gh) (h1w : 1 ≠ gw) (h1s : 1 < w.heap.size)
    (hx : w.cell? ⟨gx, 0, none⟩ = some (.pointer (some ⟨gh, oh, none⟩))) (hxs : gx < w.heap.size) (hxh : gx ≠ gh) (hxw : gx ≠ gw) (hh : WordsAt w gh oh v) (hhw : gh ≠ gw)
    (hw : w.rowIs gw 106 64 (fun j => wv (f j))) (hb : w.rangeAt gb ob (bv l)) (hbs : gb < w.heap.size) (hbw : gb ≠ gw) :
    Calls Tryd.prog 57 #[.slice (some ⟨gb, ob, none⟩) 64 cap, .pointer (some ⟨gw, 0, none⟩), .pointer (some ⟨gx, 0, none⟩)] w fun e w' => e = .returned (.tuple #[]) ∧ WordsAt w' gh oh (blk v l) ∧ w'.rowIs gw 106 64 (fun j => wv (wd l j)) ∧ But2 w w' gh gw ∧ K8 w w' gh oh := by
  have HW := Lib.hid (widen_any l hl gw gb ob cap f w hw hb hbw hbs)
  have hz := zero_w8
  have hh0 := hh.lt
  clear hw hb hl
  go_enter Tryd.func57, Tryd.ntmps57
  go_wp2_with fail
  refine HW.out.mono ?_
  rintro e w1 ⟨rfl, hr1, hg1⟩
  have M1 : But2 w w1 gh gw := But2.ofGrown hg1
  have x1 : w1.cell? ⟨gx, 0, none⟩ = some (.pointer (some ⟨gh, oh, none⟩)) := M1.cell hx hxs hxh hxw
  have rh1 : w1.rangeAt gh oh (vL v) := fun j u hu => (World.cell?_of_block (a := ⟨gh, oh + j, none⟩) (hg1.block gh hh.lt (fun e => hhw (by cases e; rfl)))).trans (hh.r j u hu)
  have th1 : w1.there gh oh 8 := fun j hj => by
    have h := hh.t j hj
    have hblk := hg1.block gh hh.lt (fun e => hhw (by cases e; rfl))
    rw [World.cell?_of_block (a := ⟨gh, oh + j, none⟩) hblk, World.frozen?_of_block (a := ⟨gh, oh + j, none⟩) hblk]
    exact h
  have k1 : w1.rangeAt 1 0 kL := M1.range hK h1s h1h h1w
  have sm1 : w1.heap[gh]? = w.heap[gh]? := hg1.block gh hh.lt (fun e => hhw (by cases e; rfl))
  have hs1 := hg1.size
  clear HW hg1 hx hh hK
  obtain ⟨w2, HW2, HS2, b2, hs2⟩ := stored_w8 w1 v
  go_upto_region 2 with (first | (refine wpList_load_mid rfl 73 _ rfl gh oh rfl (vL v) _ rh1 Tryd.underlying73 rfl (by kernel_rfl) ?_) | (refine wpList_store_row rfl _ _ _ rfl w1.heap.size (vL v).toArray rfl rfl 73 _ (heap_alloc_new _ _) (by kernel_rfl) rfl (by simp [vL, Value.oneCell']) ?_))
  rw [HW2.out]
  clear HW2
  have hws : w1.heap.size ≤ w1.heap.size := Nat.le_refl _
  have hgw : gw < w1.heap.size := hr1.lt
  have hgh : gh < w1.heap.size := by have := hh0; omega
  have K2 : KW l v gh oh gw gx w1.heap.size w w2 := ⟨row_below hr1 b2 hgw, HS2, there_below th1 b2 hgh, (b2.cell (p := ⟨gx, 0, none⟩) (by show gx < _; omega)).trans x1, M1.trans (But2.ofBelow b2), (b2.block gh hgh).trans sm1⟩
  have k2 : w2.rangeAt 1 0 kL := fun j u hu => (b2.cell (p := ⟨1, 0 + j, none⟩) (by show 1 < _; omega)).trans (k1 j u hu)
  clear hr1 M1 x1 rh1 th1 k1 b2 HS2 sm1
  generalize w1.heap.size = gs at *
  obtain ⟨c0, c1, c2, c3, c4, c5, c6, c7⟩ := K2.was
  have HK2 := Lib.hid K2
  clear K2
  refine wp_region_lin (S := (fun w' => w'.cell? ⟨gs, 0, none⟩ = some (.int .u32 (v.a.toNat : Int)) ∧ w'.cell? ⟨gs, 1, none⟩ = some (.int .u32 (v.b.toNat : Int)) ∧ w'.cell? ⟨gs, 2, none⟩ = some (.int .u32 (v.c.toNat : Int)) ∧ w'.cell? ⟨gs, 3, none⟩ = some (.int .u32 (v.d.toNat : Int)) ∧ w'.cell? ⟨gs, 4, none⟩ = some (.int .u32 (v.e.toNat : Int)) ∧ w'.cell? ⟨gs, 5, none⟩ = some (.int .u32 (v.f.toNat : Int)) ∧ w'.cell? ⟨gs, 6, none⟩ = some (.int .u32 (v.g.toNat : Int)) ∧ w'.cell? ⟨gs, 7, none⟩ = some (.int .u32 (v.h.toNat : Int)))) [(0, true), (1, true), (2, true), (3, true), (4, true), (5, true), (6, true), (7, true), (8, true), (9, true), (10, true), (11, true), (12, true), (13, true), (14, true), (15, true), (16, true), (17, true), (18, true), (19, true), (20, true), (21, true), (22, true), (23, true)] (by kernel_rfl) (by kernel_rfl) rfl (by kernel_rfl) ?_ (fun hHeld => ?_)
  · (try dsimp only); exact ⟨c0, c1, c2, c3, c4, c5, c6, c7⟩
  (refine wpL_calm (o := { dst := some 22, op := Go.Op.indexAddr 73 (Go.Operand.tmp 4) (Go.Operand.const (Go.Value.int Go.IntKind.i64 0)), type := 0, pos := "sha.go:55", after := #[], guard := none }) (v := ?_) rfl (Or.inl ⟨by rfl, ?_⟩) ?_; rotate_left; (focus (intro w hSw; (try dsimp only at hSw); go_simp; (try (with_reducible rfl)); done)); try simp only [Act.put, List.setIfInBounds_toArray, List.set_cons_zero, List.set_cons_succ])
  (refine wpL_calm (o := { dst := some 23, op := Go.Op.load 72 (Go.Operand.tmp 22), type := 72, pos := "sha.go:55", after := #[{ on := 0, ground := Go.Ground.data }], guard := none }) (v := ?_) rfl (Or.inl ⟨by rfl, ?_⟩) ?_; rotate_left; (focus (intro w hSw; (try dsimp only at hSw); go_simp; (try (with_reducible rfl)); done)); try simp only [Act.put, List.setIfInBounds_toArray, List.set_cons_zero, List.set_cons_succ])
  (refine wpL_calm (o := { dst := some 24, op := Go.Op.indexAddr 73 (Go.Operand.tmp 4) (Go.Operand.const (Go.Value.int Go.IntKind.i64 1)), type := 0, pos := "sha.go:55", after := #[{ on := 16, ground := Go.Ground.gcOnly Go.Departure.lateStores }], guard := none }) (v := ?_) rfl (Or.inl ⟨by rfl, ?_⟩) ?_; rotate_left; (focus (intro w hSw; (try dsimp only at hSw); go_simp; (try (with_reducible rfl)); done)); try simp only [Act.put, List.setIfInBounds_toArray, List.set_cons_zero, List.set_cons_succ])
  (refine wpL_calm (o := { dst := some 25, op := Go.Op.load 72 (Go.Operand.tmp 24), type := 72, pos := "sha.go:55", after := #[{ on := 2, ground := Go.Ground.data }, { on := 16, ground := Go.Ground.gcOnly Go.Departure.lateStores }], guard := none }) (v := ?_) rfl (Or.inl ⟨by rfl, ?_⟩) ?_; rotate_left; (focus (intro w hSw; (try dsimp only at hSw); go_simp; (try (with_reducible rfl)); done)); try simp only [Act.put, List.setIfInBounds_toArray, List.set_cons_zero, List.set_cons_succ])
  (refine wpL_calm (o := { dst := some 26, op := Go.Op.indexAddr 73 (Go.Operand.tmp 4) (Go.Operand.const (Go.Value.int Go.IntKind.i64 2)), type := 0, pos := "sha.go:55", after := #[{ on := 17, ground := Go.Ground.gcOnly Go.Departure.lateStores }], guard := none }) (v := ?_) rfl (Or.inl ⟨by rfl, ?_⟩) ?_; rotate_left; (focus (intro w hSw; (try dsimp only at hSw); go_simp; (try (with_reducible rfl)); done)); try simp only [Act.put, List.setIfInBounds_toArray, List.set_cons_zero, List.set_cons_succ])
  (refine wpL_calm (o := { dst := some 27, op := Go.Op.load 72 (Go.Operand.tmp 26), type := 72, pos := "sha.go:55", after := #[{ on := 4, ground := Go.Ground.data }, { on := 17, ground := Go.Ground.gcOnly Go.Departure.lateStores }], guard := none }) (v := ?_) rfl (Or.inl ⟨by rfl, ?_⟩) ?_; rotate_left; (focus (intro w hSw; (try dsimp only at hSw); go_simp; (try (with_reducible rfl)); done)); try simp only [Act.put, List.setIfInBounds_toArray, List.set_cons_zero, List.set_cons_succ])
  (refine wpL_calm (o := { dst := some 28, op := Go.Op.indexAddr 73 (Go.Operand.tmp 4) (Go.Operand.const (Go.Value.int Go.IntKind.i64 3)), type := 0, pos := "sha.go:55", after := #[{ on := 18, ground := Go.Ground.gcOnly Go.Departure.lateStores }], guard := none }) (v := ?_) rfl (Or.inl ⟨by rfl, ?_⟩) ?_; rotate_left; (focus (intro w hSw; (try dsimp only at hSw); go_simp; (try (with_reducible rfl)); done)); try simp only [Act.put, List.setIfInBounds_toArray, List.set_cons_zero, List.set_cons_succ])
  (refine wpL_calm (o := { dst := some 29, op := Go.Op.load 72 (Go.Operand.tmp 28), type := 72, pos := "sha.go:55", after := #[{ on := 6, ground := Go.Ground.data }, { on := 18, ground := Go.Ground.gcOnly Go.Departure.lateStores }], guard := none }) (v := ?_) rfl (Or.inl ⟨by rfl, ?_⟩) ?_; rotate_left; (focus (intro w hSw; (try dsimp only at hSw); go_simp; (try (with_reducible rfl)); done)); try simp only [Act.put, List.setIfInBounds_toArray, List.set_cons_zero, List.set_cons_succ])
  (refine wpL_calm (o := { dst := some 30, op := Go.Op.indexAddr 73 (Go.Operand.tmp 4) (Go.Operand.const (Go.Value.int Go.IntKind.i64 4)), type := 0, pos := "sha.go:55", after := #[{ on := 19, ground := Go.Ground.gcOnly Go.Departure.lateStores }], guard := none }) (v := ?_) rfl (Or.inl ⟨by rfl, ?_⟩) ?_; rotate_left; (focus (intro w hSw; (try dsimp only at hSw); go_simp; (try (with_reducible rfl)); done)); try simp only [Act.put, List.setIfInBounds_toArray, List.set_cons_zero, List.set_cons_succ])
  (refine wpL_calm (o := { dst := some 31, op := Go.Op.load 72 (Go.Operand.tmp 30), type := 72, pos := "sha.go:55", after := #[{ on := 8, ground := Go.Ground.data }, { on := 19, ground := Go.Ground.gcOnly Go.Departure.lateStores }], guard := none }) (v := ?_) rfl (Or.inl ⟨by rfl, ?_⟩) ?_; rotate_left; (focus (intro w hSw; (try dsimp only at hSw); go_simp; (try (with_reducible rfl)); done)); try simp only [Act.put, List.setIfInBounds_toArray, List.set_cons_zero, List.set_cons_succ])
  (refine wpL_calm (o := { dst := some 32, op := Go.Op.indexAddr 73 (Go.Operand.tmp 4) (Go.Operand.const (Go.Value.int Go.IntKind.i64 5)), type := 0, pos := "sha.go:55", after := #[{ on := 20, ground := Go.Ground.gcOnly Go.Departure.lateStores }], guard := none }) (v := ?_) rfl (Or.inl ⟨by rfl, ?_⟩) ?_; rotate_left; (focus (intro w hSw; (try dsimp only at hSw); go_simp; (try (with_reducible rfl)); done)); try simp only [Act.put, List.setIfInBounds_toArray, List.set_cons_zero, List.set_cons_succ])
  (refine wpL_calm (o := { dst := some 33, op := Go.Op.load 72 (Go.Operand.tmp 32), type := 72, pos := "sha.go:55", after := #[{ on := 10, ground := Go.Ground.data }, { on := 20, ground := Go.Ground.gcOnly Go.Departure.lateStores }], guard := none }) (v := ?_) rfl (Or.inl ⟨by rfl, ?_⟩) ?_; rotate_left; (focus (intro w hSw; (try dsimp only at hSw); go_simp; (try (with_reducible rfl)); done)); try simp only [Act.put, List.setIfInBounds_toArray, List.set_cons_zero, List.set_cons_succ])
  (refine wpL_calm (o := { dst := some 34, op := Go.Op.indexAddr 73 (Go.Operand.tmp 4) (Go.Operand.const (Go.Value.int Go.IntKind.i64 6)), type := 0, pos := "sha.go:55", after := #[{ on := 21, ground := Go.Ground.gcOnly Go.Departure.lateStores }], guard := none }) (v := ?_) rfl (Or.inl ⟨by rfl, ?_⟩) ?_; rotate_left; (focus (intro w hSw; (try dsimp only at hSw); go_simp; (try (with_reducible rfl)); done)); try simp only [Act.put, List.setIfInBounds_toArray, List.set_cons_zero, List.set_cons_succ])
  (refine wpL_calm (o := { dst := some 35, op := Go.Op.load 72 (Go.Operand.tmp 34), type := 72, pos := "sha.go:55", after := #[{ on := 12, ground := Go.Ground.data }, { on := 21, ground := Go.Ground.gcOnly Go.Departure.lateStores }], guard := none }) (v := ?_) rfl (Or.inl ⟨by rfl, ?_⟩) ?_; rotate_left; (focus (intro w hSw; (try dsimp only at hSw); go_simp; (try (with_reducible rfl)); done)); try simp only [Act.put, List.setIfInBounds_toArray, List.set_cons_zero, List.set_cons_succ])
  (refine wpL_calm (o := { dst := some 36, op := Go.Op.indexAddr 73 (Go.Operand.tmp 4) (Go.Operand.const (Go.Value.int Go.IntKind.i64 7)), type := 0, pos := "sha.go:55", after := #[{ on := 22, ground := Go.Ground.gcOnly Go.Departure.lateStores }], guard := none }) (v := ?_) rfl (Or.inl ⟨by rfl, ?_⟩) ?_; rotate_left; (focus (intro w hSw; (try dsimp only at hSw); go_simp; (try (with_reducible rfl)); done)); try simp only [Act.put, List.setIfInBounds_toArray, List.set_cons_zero, List.set_cons_succ])
  (refine wpL_calm (o := { dst := some 37, op := Go.Op.load 72 (Go.Operand.tmp 36), type := 72, pos := "sha.go:55", after := #[{ on := 14, ground := Go.Ground.data }, { on := 22, ground := Go.Ground.gcOnly Go.Departure.lateStores }], guard := none }) (v := ?_) rfl (Or.inl ⟨by rfl, ?_⟩) ?_; rotate_left; (focus (intro w hSw; (try dsimp only at hSw); go_simp; (try (with_reducible rfl)); done)); try simp only [Act.put, List.setIfInBounds_toArray, List.set_cons_zero, List.set_cons_succ])
  (refine wpL_calm (o := { dst := some 5, op := Go.Op.assign (Go.Operand.tmp 23), type := 72, pos := "sha.go:55", after := #[{ on := 1, ground := Go.Ground.data }, { on := 0, ground := Go.Ground.phase }, { on := 1, ground := Go.Ground.phase }, { on := 2, ground := Go.Ground.textOnly Go.Departure.lateStores }, { on := 3, ground := Go.Ground.textOnly Go.Departure.lateStores }, { on := 4, ground := Go.Ground.textOnly Go.Departure.lateStores }, { on := 5, ground := Go.Ground.textOnly Go.Departure.lateStores }, { on := 6, ground := Go.Ground.textOnly Go.Departure.lateStores }, { on := 7, ground := Go.Ground.textOnly Go.Departure.lateStores }, { on := 8, ground := Go.Ground.textOnly Go.Departure.lateStores }, { on := 9, ground := Go.Ground.textOnly Go.Departure.lateStores }, { on := 10, ground := Go.Ground.textOnly Go.Departure.lateStores }, { on := 11, ground := Go.Ground.textOnly Go.Departure.lateStores }, { on := 12, ground := Go.Ground.textOnly Go.Departure.lateStores }, { on := 13, ground := Go.Ground.textOnly Go.Departure.lateStores }, { on := 14, ground := Go.Ground.textOnly Go.Departure.lateStores }, { on := 15, ground := Go.Ground.textOnly Go.Departure.lateStores }], guard := none }) (v := ?_) rfl (Or.inl ⟨by rfl, ?_⟩) ?_; rotate_left; (focus (intro w hSw; (try dsimp only at hSw); go_simp; (try (with_reducible rfl)); done)); try simp only [Act.put, List.setIfInBounds_toArray, List.set_cons_zero, List.set_cons_succ])
  (refine wpL_calm (o := { dst := some 6, op := Go.Op.assign (Go.Operand.tmp 25), type := 72, pos := "sha.go:55", after := #[{ on := 3, ground := Go.Ground.data }, { on := 16, ground := Go.Ground.chain }, { on := 0, ground := Go.Ground.phase }, { on := 1, ground := Go.Ground.phase }, { on := 2, ground := Go.Ground.phase }, { on := 3, ground := Go.Ground.phase }, { on := 4, ground := Go.Ground.textOnly Go.Departure.lateStores }, { on := 5, ground := Go.Ground.textOnly Go.Departure.lateStores }, { on := 6, ground := Go.Ground.textOnly Go.Departure.lateStores }, { on := 7, ground := Go.Ground.textOnly Go.Departure.lateStores }, { on := 8, ground := Go.Ground.textOnly Go.Departure.lateStores }, { on := 9, ground := Go.Ground.textOnly Go.Departure.lateStores }, { on := 10, ground := Go.Ground.textOnly Go.Departure.lateStores }, { on := 11, ground := Go.Ground.textOnly Go.Departure.lateStores }, { on := 12, ground := Go.Ground.textOnly Go.Departure.lateStores }, { on := 13, ground := Go.Ground.textOnly Go.Departure.lateStores }, { on := 14, ground := Go.Ground.textOnly Go.Departure.lateStores }, { on := 15, ground := Go.Ground.textOnly Go.Departure.lateStores }, { on := 16, ground := Go.Ground.phase }], guard := none }) (v := ?_) rfl (Or.inl ⟨by rfl, ?_⟩) ?_; rotate_left; (focus (intro w hSw; (try dsimp only at hSw); go_simp; (try (with_reducible rfl)); done)); try simp only [Act.put, List.setIfInBounds_toArray, List.set_cons_zero, List.set_cons_succ])
  (refine wpL_calm (o := { dst := some 7, op := Go.Op.assign (Go.Operand.tmp 27), type := 72, pos := "sha.go:55", after := #[{ on := 5, ground := Go.Ground.data }, { on := 17, ground := Go.Ground.chain }, { on := 0, ground := Go.Ground.phase }, { on := 1, ground := Go.Ground.phase }, { on := 2, ground := Go.Ground.phase }, { on := 3, ground := Go.Ground.phase }, { on := 4, ground := Go.Ground.phase }, { on := 5, ground := Go.Ground.phase }, { on := 6, ground := Go.Ground.textOnly Go.Departure.lateStores }, { on := 7, ground := Go.Ground.textOnly Go.Departure.lateStores }, { on := 8, ground := Go.Ground.textOnly Go.Departure.lateStores }, { on := 9, ground := Go.Ground.textOnly Go.Departure.lateStores }, { on := 10, ground := Go.Ground.textOnly Go.Departure.lateStores }, { on := 11, ground := Go.Ground.textOnly Go.Departure.lateStores }, { on := 12, ground := Go.Ground.textOnly Go.Departure.lateStores }, { on := 13, ground := Go.Ground.textOnly Go.Departure.lateStores }, { on := 14, ground := Go.Ground.textOnly Go.Departure.lateStores }, { on := 15, ground := Go.Ground.textOnly Go.Departure.lateStores }, { on := 16, ground := Go.Ground.phase }, { on := 17, ground := Go.Ground.phase }], guard := none }) (v := ?_) rfl (Or.inl ⟨by rfl, ?_⟩) ?_; rotate_left; (focus (intro w hSw; (try dsimp only at hSw); go_simp; (try (with_reducible rfl)); done)); try simp only [Act.put, List.setIfInBounds_toArray, List.set_cons_zero, List.set_cons_succ])
  (refine wpL_calm (o := { dst := some 8, op := Go.Op.assign (Go.Operand.tmp 29), type := 72, pos := "sha.go:55", after := #[{ on := 7, ground := Go.Ground.data }, { on := 18, ground := Go.Ground.chain }, { on := 0, ground := Go.Ground.phase }, { on := 1, ground := Go.Ground.phase }, { on := 2, ground := Go.Ground.phase }, { on := 3, ground := Go.Ground.phase }, { on := 4, ground := Go.Ground.phase }, { on := 5, ground := Go.Ground.phase }, { on := 6, ground := Go.Ground.phase }, { on := 7, ground := Go.Ground.phase }, { on := 8, ground := Go.Ground.textOnly Go.Departure.lateStores }, { on := 9, ground := Go.Ground.textOnly Go.Departure.lateStores }, { on := 10, ground := Go.Ground.textOnly Go.Departure.lateStores }, { on := 11, ground := Go.Ground.textOnly Go.Departure.lateStores }, { on := 12, ground := Go.Ground.textOnly Go.Departure.lateStores }, { on := 13, ground := Go.Ground.textOnly Go.Departure.lateStores }, { on := 14, ground := Go.Ground.textOnly Go.Departure.lateStores }, { on := 15, ground := Go.Ground.textOnly Go.Departure.lateStores }, { on := 16, ground := Go.Ground.phase }, { on := 17, ground := Go.Ground.phase }, { on := 18, ground := Go.Ground.phase }], guard := none }) (v := ?_) rfl (Or.inl ⟨by rfl, ?_⟩) ?_; rotate_left; (focus (intro w hSw; (try dsimp only at hSw); go_simp; (try (with_reducible rfl)); done)); try simp only [Act.put, List.setIfInBounds_toArray, List.set_cons_zero, List.set_cons_succ])
  (refine wpL_calm (o := { dst := some 9, op := Go.Op.assign (Go.Operand.tmp 31), type := 72, pos := "sha.go:55", after := #[{ on := 9, ground := Go.Ground.data }, { on := 19, ground := Go.Ground.chain }, { on := 0, ground := Go.Ground.phase }, { on := 1, ground := Go.Ground.phase }, { on := 2, ground := Go.Ground.phase }, { on := 3, ground := Go.Ground.phase }, { on := 4, ground := Go.Ground.phase }, { on := 5, ground := Go.Ground.phase }, { on := 6, ground := Go.Ground.phase }, { on := 7, ground := Go.Ground.phase }, { on := 8, ground := Go.Ground.phase }, { on := 9, ground := Go.Ground.phase }, { on := 10, ground := Go.Ground.textOnly Go.Departure.lateStores }, { on := 11, ground := Go.Ground.textOnly Go.Departure.lateStores }, { on := 12, ground := Go.Ground.textOnly Go.Departure.lateStores }, { on := 13, ground := Go.Ground.textOnly Go.Departure.lateStores }, { on := 14, ground := Go.Ground.textOnly Go.Departure.lateStores }, { on := 15, ground := Go.Ground.textOnly Go.Departure.lateStores }, { on := 16, ground := Go.Ground.phase }, { on := 17, ground := Go.Ground.phase }, { on := 18, ground := Go.Ground.phase }, { on := 19, ground := Go.Ground.phase }], guard := none }) (v := ?_) rfl (Or.inl ⟨by rfl, ?_⟩) ?_; rotate_left; (focus (intro w hSw; (try dsimp only at hSw); go_simp; (try (with_reducible rfl)); done)); try simp only [Act.put, List.setIfInBounds_toArray, List.set_cons_zero, List.set_cons_succ])
  (refine wpL_calm (o := { dst := some 10, op := Go.Op.assign (Go.Operand.tmp 33), type := 72, pos := "sha.go:55", after := #[{ on := 11, ground := Go.Ground.data }, { on := 20, ground := Go.Ground.chain }, { on := 0, ground := Go.Ground.phase }, { on := 1, ground := Go.Ground.phase }, { on := 2, ground := Go.Ground.phase }, { on := 3, ground := Go.Ground.phase }, { on := 4, ground := Go.Ground.phase }, { on := 5, ground := Go.Ground.phase }, { on := 6, ground := Go.Ground.phase }, { on := 7, ground := Go.Ground.phase }, { on := 8, ground := Go.Ground.phase }, { on := 9, ground := Go.Ground.phase }, { on := 10, ground := Go.Ground.phase }, { on := 11, ground := Go.Ground.phase }, { on := 12, ground := Go.Ground.textOnly Go.Departure.lateStores }, { on := 13, ground := Go.Ground.textOnly Go.Departure.lateStores }, { on := 14, ground := Go.Ground.textOnly Go.Departure.lateStores }, { on := 15, ground := Go.Ground.textOnly Go.Departure.lateStores }, { on := 16, ground := Go.Ground.phase }, { on := 17, ground := Go.Ground.phase }, { on := 18, ground := Go.Ground.phase }, { on := 19, ground := Go.Ground.phase }, { on := 20, ground := Go.Ground.phase }], guard := none }) (v := ?_) rfl (Or.inl ⟨by rfl, ?_⟩) ?_; rotate_left; (focus (intro w hSw; (try dsimp only at hSw); go_simp; (try (with_reducible rfl)); done)); try simp only [Act.put, List.setIfInBounds_toArray, List.set_cons_zero, List.set_cons_succ])
  (refine wpL_calm (o := { dst := some 11, op := Go.Op.assign (Go.Operand.tmp 35), type := 72, pos := "sha.go:55", after := #[{ on := 13, ground := Go.Ground.data }, { on := 21, ground := Go.Ground.chain }, { on := 0, ground := Go.Ground.phase }, { on := 1, ground := Go.Ground.phase }, { on := 2, ground := Go.Ground.phase }, { on := 3, ground := Go.Ground.phase }, { on := 4, ground := Go.Ground.phase }, { on := 5, ground := Go.Ground.phase }, { on := 6, ground := Go.Ground.phase }, { on := 7, ground := Go.Ground.phase }, { on := 8, ground := Go.Ground.phase }, { on := 9, ground := Go.Ground.phase }, { on := 10, ground := Go.Ground.phase }, { on := 11, ground := Go.Ground.phase }, { on := 12, ground := Go.Ground.phase }, { on := 13, ground := Go.Ground.phase }, { on := 14, ground := Go.Ground.textOnly Go.Departure.lateStores }, { on := 15, ground := Go.Ground.textOnly Go.Departure.lateStores }, { on := 16, ground := Go.Ground.phase }, { on := 17, ground := Go.Ground.phase }, { on := 18, ground := Go.Ground.phase }, { on := 19, ground := Go.Ground.phase }, { on := 20, ground := Go.Ground.phase }, { on := 21, ground := Go.Ground.phase }], guard := none }) (v := ?_) rfl (Or.inl ⟨by rfl, ?_⟩) ?_; rotate_left; (focus (intro w hSw; (try dsimp only at hSw); go_simp; (try (with_reducible rfl)); done)); try simp only [Act.put, List.setIfInBounds_toArray, List.set_cons_zero, List.set_cons_succ])
  (refine wpL_calm (o := { dst := some 12, op := Go.Op.assign (Go.Operand.tmp 37), type := 72, pos := "sha.go:55", after := #[{ on := 15, ground := Go.Ground.data }, { on := 22, ground := Go.Ground.chain }, { on := 0, ground := Go.Ground.phase }, { on := 1, ground := Go.Ground.phase }, { on := 2, ground := Go.Ground.phase }, { on := 3, ground := Go.Ground.phase }, { on := 4, ground := Go.Ground.phase }, { on := 5, ground := Go.Ground.phase }, { on := 6, ground := Go.Ground.phase }, { on := 7, ground := Go.Ground.phase }, { on := 8, ground := Go.Ground.phase }, { on := 9, ground := Go.Ground.phase }, { on := 10, ground := Go.Ground.phase }, { on := 11, ground := Go.Ground.phase }, { on := 12, ground := Go.Ground.phase }, { on := 13, ground := Go.Ground.phase }, { on := 14, ground := Go.Ground.phase }, { on := 15, ground := Go.Ground.phase }, { on := 16, ground := Go.Ground.phase }, { on := 17, ground := Go.Ground.phase }, { on := 18, ground := Go.Ground.phase }, { on := 19, ground := Go.Ground.phase }, { on := 20, ground := Go.Ground.phase }, { on := 21, ground := Go.Ground.phase }, { on := 22, ground := Go.Ground.phase }], guard := none }) (v := ?_) rfl (Or.inl ⟨by rfl, ?_⟩) ?_; rotate_left; (focus (intro w hSw; (try dsimp only at hSw); go_simp; (try (with_reducible rfl)); done)); try simp only [Act.put, List.setIfInBounds_toArray, List.set_cons_zero, List.set_cons_succ])
  refine wpL_nil ?_
  refine NoPanic.normal ?_
  have K3 := HK2.out.drew
  have k3 : w2.drew.rangeAt 1 0 kL := k2
  clear c0 c1 c2 c3 c4 c5 c6 c7 HK2 k2 hHeld hz
  generalize World.drew w2 = w3 at K3 k3 ⊢
  have HIK := Lib.hid index_k
  have HK3 := Lib.hid K3
  clear K3
  generalize hKA : kL.toArray = KA at HIK
  have HKA := Lib.hid hKA
  clear hKA
  go_wp2_with ((refine wpList_load_mid rfl 106 _ rfl 1 0 rfl kL _ k3 Tryd.underlying106 rfl (by kernel_rfl) ?_); rw [HKA.out])
  clear k3
  go_loopw [5, 6, 7, 8, 9, 10, 11, 12, 39] (fun s5 s6 s7 s8 s9 s10 s11 s12 x wi => ∃ (k : Nat) (a b c d e f g h : UInt32), x = .int .i64 k ∧ k ≤ 64 ∧ Hid (rounds (wl l 64) v k = ⟨a, b, c, d, e, f, g, h⟩) ∧ s5 = .int .u32 (a.toNat : Int) ∧ s6 = .int .u32 (b.toNat : Int) ∧ s7 = .int .u32 (c.toNat : Int) ∧ s8 = .int .u32 (d.toNat : Int) ∧ s9 = .int .u32 (e.toNat : Int) ∧ s10 = .int .u32 (f.toNat : Int) ∧ s11 = .int .u32 (g.toNat : Int) ∧ s12 = .int .u32 (h.toNat : Int) ∧ Hid (KW l v gh oh gw gx gs w wi)) (fun _ _ _ _ _ _ _ _ x _ => 64 - (intOf x).toNat)
  case atStart => exact ⟨0, v.a, v.b, v.c, v.d, v.e, v.f, v.g, v.h, rfl, by omega, Lib.hid (rounds_zero _ _), rfl, rfl, rfl, rfl, rfl, rfl, rfl, rfl, HK3⟩
  clear HK3
  case round =>
    obtain ⟨k, a, b, c, d, e, f, g, u8, rfl, hk, HR, rfl, rfl, rfl, rfl, rfl, rfl, rfl, rfl, HK⟩ := hrel
    by_cases hlt : k < 64
    · have hli : (k : Int) < 64 := by omega
      have ix := HIK.out k hlt
      have cw := HK.out.row.cell (i := k) hlt
      have HW := Lib.hid (wd_def l k)
      generalize hwk : wd l k = wk at cw HW
      have cw' : wr.cell? ⟨gw, k, none⟩ = some (.int .u32 (wk.toNat : Int)) := cw
      clear cw hwk
      generalize hkk : kc k = kk at ix
      have HKK := Lib.hid hkk
      clear hkk
      go_wp2_with fail
      refine wp_region_lin (S := (fun w' => w'.cell? ⟨gw, k, none⟩ = some (.int .u32 (wk.toNat : Int)))) [(0, true), (1, true), (3, true), (6, true), (10, true), (11, true), (12, true), (13, true), (14, true), (15, true), (16, true), (17, true), (19, true), (21, true), (22, true), (23, true), (2, false), (4, false), (5, true), (7, false), (8, true), (9, true), (18, true), (20, true), (24, true), (25, true)] (by kernel_rfl) (by kernel_rfl) rfl (by kernel_rfl) ?_ (fun hHeld => ?_)
      · (try dsimp only); exact cw'
      (refine wpL_calm (o := { dst := some 43, op := Go.Op.move (Go.Operand.tmp 12), type := 72, pos := "sha.go:57", after := #[], guard := none }) (v := ?_) rfl (Or.inl ⟨by rfl, ?_⟩) ?_; rotate_left; (focus (intro w hSw; (try dsimp only at hSw); go_simp; (try (with_reducible rfl)); done)); try simp only [Act.put, List.setIfInBounds_toArray, List.set_cons_zero, List.set_cons_succ])
      (refine wpL_calm (o := { dst := some 44, op := Go.Op.move (Go.Operand.tmp 9), type := 72, pos := "sha.go:57", after := #[], guard := none }) (v := ?_) rfl (Or.inl ⟨by rfl, ?_⟩) ?_; rotate_left; (focus (intro w hSw; (try dsimp only at hSw); go_simp; (try (with_reducible rfl)); done)); try simp only [Act.put, List.setIfInBounds_toArray, List.set_cons_zero, List.set_cons_succ])
      (refine wpL_calm (o := { dst := some 46, op := Go.Op.move (Go.Operand.tmp 9), type := 72, pos := "sha.go:57", after := #[], guard := none }) (v := ?_) rfl (Or.inl ⟨by rfl, ?_⟩) ?_; rotate_left; (focus (intro w hSw; (try dsimp only at hSw); go_simp; (try (with_reducible rfl)); done)); try simp only [Act.put, List.setIfInBounds_toArray, List.set_cons_zero, List.set_cons_succ])
      (refine wpL_calm (o := { dst := some 49, op := Go.Op.move (Go.Operand.tmp 9), type := 72, pos := "sha.go:57", after := #[], guard := none }) (v := ?_) rfl (Or.inl ⟨by rfl, ?_⟩) ?_; rotate_left; (focus (intro w hSw; (try dsimp only at hSw); go_simp; (try (with_reducible rfl)); done)); try simp only [Act.put, List.setIfInBounds_toArray, List.set_cons_zero, List.set_cons_succ])
      (refine wpL_calm (o := { dst := some 53, op := Go.Op.move (Go.Operand.tmp 9), type := 72, pos := "sha.go:57", after := #[], guard := none }) (v := ?_) rfl (Or.inl ⟨by rfl, ?_⟩) ?_; rotate_left; (focus (intro w hSw; (try dsimp only at hSw); go_simp; (try (with_reducible rfl)); done)); try simp only [Act.put, List.setIfInBounds_toArray, List.set_cons_zero, List.set_cons_succ])
      (refine wpL_calm (o := { dst := some 54, op := Go.Op.move (Go.Operand.tmp 10), type := 72, pos := "sha.go:57", after := #[], guard := none }) (v := ?_) rfl (Or.inl ⟨by rfl, ?_⟩) ?_; rotate_left; (focus (intro w hSw; (try dsimp only at hSw); go_simp; (try (with_reducible rfl)); done)); try simp only [Act.put, List.setIfInBounds_toArray, List.set_cons_zero, List.set_cons_succ])
      (refine wpL_calm (o := { dst := some 55, op := Go.Op.binOp Go.BinOp.and 72 (Go.Operand.tmp 53) (Go.Operand.tmp 54) 72, type := 72, pos := "sha.go:57", after := #[{ on := 10, ground := Go.Ground.data }, { on := 11, ground := Go.Ground.data }], guard := none }) (v := ?_) rfl (Or.inl ⟨by rfl, ?_⟩) ?_; rotate_left; (focus (intro w hSw; (try dsimp only at hSw); go_simp; (try (with_reducible rfl)); done)); try simp only [Act.put, List.setIfInBounds_toArray, List.set_cons_zero, List.set_cons_succ])
      (refine wpL_calm (o := { dst := some 56, op := Go.Op.move (Go.Operand.tmp 9), type := 72, pos := "sha.go:57", after := #[], guard := none }) (v := ?_) rfl (Or.inl ⟨by rfl, ?_⟩) ?_; rotate_left; (focus (intro w hSw; (try dsimp only at hSw); go_simp; (try (with_reducible rfl)); done)); try simp only [Act.put, List.setIfInBounds_toArray, List.set_cons_zero, List.set_cons_succ])
      (refine wpL_calm (o := { dst := some 57, op := Go.Op.unOp Go.UnOp.xor 72 (Go.Operand.tmp 56), type := 72, pos := "sha.go:57", after := #[{ on := 13, ground := Go.Ground.data }], guard := none }) (v := ?_) rfl (Or.inl ⟨by rfl, ?_⟩) ?_; rotate_left; (focus (intro w hSw; (try dsimp only at hSw); go_simp; (try (with_reducible rfl)); done)); try simp only [Act.put, List.setIfInBounds_toArray, List.set_cons_zero, List.set_cons_succ])
      (refine wpL_calm (o := { dst := some 58, op := Go.Op.move (Go.Operand.tmp 11), type := 72, pos := "sha.go:57", after := #[], guard := none }) (v := ?_) rfl (Or.inl ⟨by rfl, ?_⟩) ?_; rotate_left; (focus (intro w hSw; (try dsimp only at hSw); go_simp; (try (with_reducible rfl)); done)); try simp only [Act.put, List.setIfInBounds_toArray, List.set_cons_zero, List.set_cons_succ])
      (refine wpL_calm (o := { dst := some 59, op := Go.Op.binOp Go.BinOp.and 72 (Go.Operand.tmp 57) (Go.Operand.tmp 58) 72, type := 72, pos := "sha.go:57", after := #[{ on := 14, ground := Go.Ground.data }, { on := 15, ground := Go.Ground.data }], guard := none }) (v := ?_) rfl (Or.inl ⟨by rfl, ?_⟩) ?_; rotate_left; (focus (intro w hSw; (try dsimp only at hSw); go_simp; (try (with_reducible rfl)); done)); try simp only [Act.put, List.setIfInBounds_toArray, List.set_cons_zero, List.set_cons_succ])
      (refine wpL_calm (o := { dst := some 60, op := Go.Op.binOp Go.BinOp.xor 72 (Go.Operand.tmp 55) (Go.Operand.tmp 59) 72, type := 72, pos := "sha.go:57", after := #[{ on := 12, ground := Go.Ground.data }, { on := 16, ground := Go.Ground.data }], guard := none }) (v := ?_) rfl (Or.inl ⟨by rfl, ?_⟩) ?_; rotate_left; (focus (intro w hSw; (try dsimp only at hSw); go_simp; (try (with_reducible rfl)); done)); try simp only [Act.put, List.setIfInBounds_toArray, List.set_cons_zero, List.set_cons_succ])
      (refine wpL_calm (o := { dst := some 62, op := Go.Op.move (Go.Operand.tmp 14), type := 72, pos := "sha.go:57", after := #[], guard := none }) (v := ?_) rfl (Or.inl ⟨by rfl, ?_⟩) ?_; rotate_left; (focus (intro w hSw; (try dsimp only at hSw); go_simp; (try (with_reducible rfl)); done)); try simp only [Act.put, List.setIfInBounds_toArray, List.set_cons_zero, List.set_cons_succ])
      (refine wpL_calm (o := { dst := some 64, op := Go.Op.move (Go.Operand.tmp 13), type := 3, pos := "sha.go:57", after := #[], guard := none }) (v := ?_) rfl (Or.inl ⟨by rfl, ?_⟩) ?_; rotate_left; (focus (intro w hSw; (try dsimp only at hSw); go_simp; (try (with_reducible rfl)); done)); try simp only [Act.put, List.setIfInBounds_toArray, List.set_cons_zero, List.set_cons_succ])
      (refine wpL_calm (o := { dst := some 65, op := Go.Op.indexAddr 106 (Go.Operand.tmp 1) (Go.Operand.tmp 64), type := 0, pos := "sha.go:57", after := #[{ on := 21, ground := Go.Ground.data }], guard := none }) (v := ?_) rfl (Or.inl ⟨by rfl, ?_⟩) ?_; rotate_left; (focus (intro w hSw; (try dsimp only at hSw); go_simp; (try (with_reducible rfl)); done)); try simp only [Act.put, List.setIfInBounds_toArray, List.set_cons_zero, List.set_cons_succ])
      (refine wpL_calm (o := { dst := some 66, op := Go.Op.load 72 (Go.Operand.tmp 65), type := 72, pos := "sha.go:57", after := #[{ on := 22, ground := Go.Ground.data }], guard := none }) (v := ?_) rfl (Or.inl ⟨by rfl, ?_⟩) ?_; rotate_left; (focus (intro w hSw; (try dsimp only at hSw); go_simp; (try (with_reducible rfl)); done)); try simp only [Act.put, List.setIfInBounds_toArray, List.set_cons_zero, List.set_cons_succ])
      refine wpL_loud1 (o := { dst := some 45, op := Go.Op.call { callee := Go.Callee.value (Go.Operand.func 59), args := #[Go.Operand.tmp 44, Go.Operand.const (Go.Value.int Go.IntKind.i64 6)], argTypes := #[72, 3] }, type := 72, pos := "sha.go:57", after := #[{ on := 1, ground := Go.Ground.data }], guard := none }) rfl (fun K hK => ?_)
      (go_simp; go_at_call 59; refine (turn6 e _).mono ?_; rintro e w' ⟨rfl, rfl⟩)
      try go_wp2_with fail
      refine hK.out _ _ ?_ (fun hHeld => ?_)
      · (try dsimp only); exact hHeld
      clear hK K
      try simp only [Act.put, List.setIfInBounds_toArray, List.set_cons_zero, List.set_cons_succ]
      refine wpL_loud1 (o := { dst := some 47, op := Go.Op.call { callee := Go.Callee.value (Go.Operand.func 59), args := #[Go.Operand.tmp 46, Go.Operand.const (Go.Value.int Go.IntKind.i64 11)], argTypes := #[72, 3] }, type := 72, pos := "sha.go:57", after := #[{ on := 3, ground := Go.Ground.data }, { on := 2, ground := Go.Ground.chain }], guard := none }) rfl (fun K hK => ?_)
      (go_simp; go_at_call 59; refine (turn11 e _).mono ?_; rintro e w' ⟨rfl, rfl⟩)
      try go_wp2_with fail
      refine hK.out _ _ ?_ (fun hHeld => ?_)
      · (try dsimp only); exact hHeld
      clear hK K
      try simp only [Act.put, List.setIfInBounds_toArray, List.set_cons_zero, List.set_cons_succ]
      (refine wpL_calm (o := { dst := some 48, op := Go.Op.binOp Go.BinOp.xor 72 (Go.Operand.tmp 45) (Go.Operand.tmp 47) 72, type := 72, pos := "sha.go:57", after := #[{ on := 2, ground := Go.Ground.data }, { on := 4, ground := Go.Ground.data }], guard := none }) (v := ?_) rfl (Or.inl ⟨by rfl, ?_⟩) ?_; rotate_left; (focus (intro w hSw; (try dsimp only at hSw); go_simp; (try (with_reducible rfl)); done)); try simp only [Act.put, List.setIfInBounds_toArray, List.set_cons_zero, List.set_cons_succ])
      refine wpL_loud1 (o := { dst := some 50, op := Go.Op.call { callee := Go.Callee.value (Go.Operand.func 59), args := #[Go.Operand.tmp 49, Go.Operand.const (Go.Value.int Go.IntKind.i64 25)], argTypes := #[72, 3] }, type := 72, pos := "sha.go:57", after := #[{ on := 6, ground := Go.Ground.data }, { on := 4, ground := Go.Ground.chain }], guard := none }) rfl (fun K hK => ?_)
      (go_simp; go_at_call 59; refine (turn25 e _).mono ?_; rintro e w' ⟨rfl, rfl⟩)
      try go_wp2_with fail
      refine hK.out _ _ ?_ (fun hHeld => ?_)
      · (try dsimp only); exact hHeld
      clear hK K
      try simp only [Act.put, List.setIfInBounds_toArray, List.set_cons_zero, List.set_cons_succ]
      (refine wpL_calm (o := { dst := some 51, op := Go.Op.binOp Go.BinOp.xor 72 (Go.Operand.tmp 48) (Go.Operand.tmp 50) 72, type := 72, pos := "sha.go:57", after := #[{ on := 5, ground := Go.Ground.data }, { on := 7, ground := Go.Ground.data }], guard := none }) (v := ?_) rfl (Or.inl ⟨by rfl, ?_⟩) ?_; rotate_left; (focus (intro w hSw; (try dsimp only at hSw); go_simp; (try (with_reducible rfl)); done)); try simp only [Act.put, List.setIfInBounds_toArray, List.set_cons_zero, List.set_cons_succ])
      (refine wpL_calm (o := { dst := some 52, op := Go.Op.binOp Go.BinOp.add 72 (Go.Operand.tmp 43) (Go.Operand.tmp 51) 72, type := 72, pos := "sha.go:57", after := #[{ on := 0, ground := Go.Ground.data }, { on := 8, ground := Go.Ground.data }], guard := none }) (v := ?_) rfl (Or.inl ⟨by rfl, ?_⟩) ?_; rotate_left; (focus (intro w hSw; (try dsimp only at hSw); go_simp; (try (with_reducible rfl)); done)); try simp only [Act.put, List.setIfInBounds_toArray, List.set_cons_zero, List.set_cons_succ])
      (refine wpL_calm (o := { dst := some 61, op := Go.Op.binOp Go.BinOp.add 72 (Go.Operand.tmp 52) (Go.Operand.tmp 60) 72, type := 72, pos := "sha.go:57", after := #[{ on := 9, ground := Go.Ground.data }, { on := 17, ground := Go.Ground.data }], guard := none }) (v := ?_) rfl (Or.inl ⟨by rfl, ?_⟩) ?_; rotate_left; (focus (intro w hSw; (try dsimp only at hSw); go_simp; (try (with_reducible rfl)); done)); try simp only [Act.put, List.setIfInBounds_toArray, List.set_cons_zero, List.set_cons_succ])
      (refine wpL_calm (o := { dst := some 63, op := Go.Op.binOp Go.BinOp.add 72 (Go.Operand.tmp 61) (Go.Operand.tmp 62) 72, type := 72, pos := "sha.go:57", after := #[{ on := 18, ground := Go.Ground.data }, { on := 19, ground := Go.Ground.data }], guard := none }) (v := ?_) rfl (Or.inl ⟨by rfl, ?_⟩) ?_; rotate_left; (focus (intro w hSw; (try dsimp only at hSw); go_simp; (try (with_reducible rfl)); done)); try simp only [Act.put, List.setIfInBounds_toArray, List.set_cons_zero, List.set_cons_succ])
      (refine wpL_calm (o := { dst := some 67, op := Go.Op.binOp Go.BinOp.add 72 (Go.Operand.tmp 63) (Go.Operand.tmp 66) 72, type := 72, pos := "sha.go:57", after := #[{ on := 20, ground := Go.Ground.data }, { on := 23, ground := Go.Ground.data }], guard := none }) (v := ?_) rfl (Or.inl ⟨by rfl, ?_⟩) ?_; rotate_left; (focus (intro w hSw; (try dsimp only at hSw); go_simp; (try (with_reducible rfl)); done)); try simp only [Act.put, List.setIfInBounds_toArray, List.set_cons_zero, List.set_cons_succ])
      (refine wpL_calm (o := { dst := some 15, op := Go.Op.assign (Go.Operand.tmp 67), type := 72, pos := "sha.go:57", after := #[{ on := 24, ground := Go.Ground.data }, { on := 7, ground := Go.Ground.chain }, { on := 0, ground := Go.Ground.phase }, { on := 1, ground := Go.Ground.phase }, { on := 2, ground := Go.Ground.phase }, { on := 3, ground := Go.Ground.phase }, { on := 4, ground := Go.Ground.phase }, { on := 5, ground := Go.Ground.phase }, { on := 6, ground := Go.Ground.phase }, { on := 7, ground := Go.Ground.phase }, { on := 8, ground := Go.Ground.phase }, { on := 9, ground := Go.Ground.phase }, { on := 10, ground := Go.Ground.phase }, { on := 11, ground := Go.Ground.phase }, { on := 12, ground := Go.Ground.phase }, { on := 13, ground := Go.Ground.phase }, { on := 14, ground := Go.Ground.phase }, { on := 15, ground := Go.Ground.phase }, { on := 16, ground := Go.Ground.phase }, { on := 17, ground := Go.Ground.phase }, { on := 18, ground := Go.Ground.phase }, { on := 19, ground := Go.Ground.phase }, { on := 20, ground := Go.Ground.phase }, { on := 21, ground := Go.Ground.phase }, { on := 22, ground := Go.Ground.phase }, { on := 23, ground := Go.Ground.phase }, { on := 24, ground := Go.Ground.phase }], guard := none }) (v := ?_) rfl (Or.inl ⟨by rfl, ?_⟩) ?_; rotate_left; (focus (intro w hSw; (try dsimp only at hSw); go_simp; (try (with_reducible rfl)); done)); try simp only [Act.put, List.setIfInBounds_toArray, List.set_cons_zero, List.set_cons_succ])
      refine wpL_nil ?_
      refine NoPanic.normal ?_
      obtain ⟨T, hT⟩ : ∃ T, u8 + bs1 e + chw e f g + kk + wk = T := ⟨_, rfl⟩
      have HT := Lib.hid hT
      clear hT
      rw [t1_walk, HT.out]
      clear hHeld cw' ix
      go_wp2_with fail
      refine (turn2 a _).mono ?_
      rintro e1 w' ⟨rfl, rfl⟩
      go_wp2_with fail
      refine (turn13 a _).mono ?_
      rintro e1 w' ⟨rfl, rfl⟩
      go_wp2_with fail
      refine (turn22 a _).mono ?_
      rintro e1 w' ⟨rfl, rfl⟩
      go_wp2_with fail
      go_roundw
      case rel => exact ⟨k + 1, T + (bs0 a + mjw a b c), a, b, c, d + T, e, f, g, by go_num, by omega, Lib.hid (by rw [rounds_succ, HR.out, HW.out, HKK.out, ← HT.out]; rfl), int_u32 (t2_walk T a b c), rfl, rfl, rfl, int_u32 (w_add d T), rfl, rfl, rfl, Lib.hid HK.out.drew⟩
      case measure => simp [intOf]; omega
    · obtain rfl : k = 64 := by omega
      have KK := HK.out
      obtain ⟨c0, c1, c2, c3, c4, c5, c6, c7⟩ := KK.was
      have hx := KK.x
      have ht := KK.thr
      have HKK := Lib.hid KK
      clear KK HK HIK HKA
      go_wp2_with (refine wpList_store_mid rfl 73 _ _ rfl gh oh _ rfl rfl ht (by kernel_rfl) (by simp [Value.oneCell']) ?_)
      rw [fin_cells v l a b c d e f g u8 HR.out]
      go_end0
      refine ⟨rfl, ⟨World.rangeAt_setCells_same _ gh oh _ ht, World.there_setCells ht gh oh _, ?_⟩, ?_, But2.setCells _ oh _ HKK.out.but, (K8.ofSame HKK.out.same).trans (K8.set _ rfl)⟩
      · rw [setCells_size]; have := HKK.out.but.size; omega
      · obtain ⟨cs, q1, q2⟩ := HKK.out.row
        exact ⟨cs, (setCells_block gh _ oh _ gw (Ne.symm hhw)).trans q1, q2⟩
end Go.Proofs.YtaneecmfgfkaaaaDoor
