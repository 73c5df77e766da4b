/- Contracts (cellaret): sha.widen. -/
import Derived.Test.YtbbanhjcchnhpaaShB
import Derived.Test.YtbbanhjcchnhpaaLin
import Derived.Deep.MidRow
import Derived.Deep.OwnRows
import Derived.Below
import Derived.IntWalk
import Derived.OwnWalk
import Derived.Deep.QuietTactic
import Derived.BigQuiet
namespace Go.Proofs.Ytbbanhjcchnhpaa
open Go.RowKit Go.Deep
set_option linter.unusedVariables false
set_option linter.unusedSimpArgs false
@[reducible] def wv (x : UInt32) : Value := .int .u32 (x.toNat : Int)
def bv (l : List UInt8) : List Value := l.map fun b => .int .u8 (b.toNat : Int)
theorem bv_at {w : World} {g o : Nat} {l : List UInt8} (h : w.rangeAt g o (bv l)) (i : Nat) (hi : i < l.length) : w.cell? ⟨g, o + i, none⟩ = some (.int .u8 ((bAt l i).toNat : Int)) := by
  refine h i _ ?_
  unfold bv bAt
  rw [List.getElem?_map, List.getElem?_eq_getElem hi]
  rfl
theorem b_wrap (b : UInt8) : IntKind.u32.wrap (b.toNat : Int) = ((UInt32.ofNat b.toNat).toNat : Int) := by
  have := b.toNat_lt
  rw [IntKind.wrap_u32', UInt32.toNat_ofNat']
  omega
theorem be4_eq (a b c d : UInt8) : ((UInt32.ofNat a.toNat <<< UInt32.ofNat 24 ||| UInt32.ofNat b.toNat <<< UInt32.ofNat 16) ||| UInt32.ofNat c.toNat <<< UInt32.ofNat 8) ||| UInt32.ofNat d.toNat = be4 a b c d := by
  have h1 := a.toNat_lt
  have h2 := b.toNat_lt
  have h3 := c.toNat_lt
  have h4 := d.toNat_lt
  rw [← UInt32.toNat_inj]
  unfold be4
  simp only [UInt32.toNat_or, UInt32.toNat_shiftLeft, UInt32.toNat_ofNat']
  rw [show (24 % 2 ^ 32 % 32) = 24 from rfl, show (16 % 2 ^ 32 % 32) = 16 from rfl, show (8 % 2 ^ 32 % 32) = 8 from rfl]
  rw [Nat.mod_eq_of_lt (show a.toNat < 2 ^ 32 by omega), Nat.mod_eq_of_lt (show b.toNat < 2 ^ 32 by omega), Nat.mod_eq_of_lt (show c.toNat < 2 ^ 32 by omega), Nat.mod_eq_of_lt (show d.toNat < 2 ^ 32 by omega)]
  rw [Nat.shiftLeft_eq, Nat.shiftLeft_eq, Nat.shiftLeft_eq]
  rw [Nat.mod_eq_of_lt (show a.toNat * 2 ^ 24 < 2 ^ 32 by omega), Nat.mod_eq_of_lt (show b.toNat * 2 ^ 16 < 2 ^ 32 by omega), Nat.mod_eq_of_lt (show c.toNat * 2 ^ 8 < 2 ^ 32 by omega)]
  have e3 : c.toNat * 2 ^ 8 ||| d.toNat = c.toNat * 2 ^ 8 + d.toNat := by rw [Nat.mul_comm, ← Nat.two_pow_add_eq_or_of_lt (by omega)]
  have e2 : b.toNat * 2 ^ 16 ||| (c.toNat * 2 ^ 8 + d.toNat) = b.toNat * 2 ^ 16 + (c.toNat * 2 ^ 8 + d.toNat) := by rw [Nat.mul_comm b.toNat, ← Nat.two_pow_add_eq_or_of_lt (by omega)]
  have e1 : a.toNat * 2 ^ 24 ||| (b.toNat * 2 ^ 16 + (c.toNat * 2 ^ 8 + d.toNat)) = a.toNat * 2 ^ 24 + (b.toNat * 2 ^ 16 + (c.toNat * 2 ^ 8 + d.toNat)) := by rw [Nat.mul_comm a.toNat, ← Nat.two_pow_add_eq_or_of_lt (by omega)]
  rw [Nat.or_assoc, Nat.or_assoc, e3, e2, e1]
  omega
theorem row_upd {w : World} {g : Nat} {t : TypeId} {n : Nat} {f f' : Nat → UInt32} (h : w.rowIs g t n (fun j => wv (f j))) (k : Nat) (x : UInt32) (hx : ∀ j, j < n → f' j = if j = k then x else f j) : (w.setCell ⟨g, k, none⟩ (.int .u32 (x.toNat : Int))).rowIs g t n (fun j => wv (f' j)) := by
  refine (h.set k _).congr fun j hj => ?_
  rw [hx j hj]
  by_cases e : j = k
  · rw [if_pos e, if_pos e]
  · rw [if_neg e, if_neg e]
def mx1 (l : List UInt8) (f : Nat → UInt32) (k j : Nat) : UInt32 := if j < k then wd l j else f j
theorem row_old {w : World} {g : Nat} {t : TypeId} {l : List UInt8} {f : Nat → UInt32} {k : Nat} (h : w.rowIs g t 64 (fun j => wv (mx1 l f k j))) (i : Nat) (hi : i < k) (h64 : i < 64) : w.cell? ⟨g, i, none⟩ = some (wv (wd l i)) := by
  have := h.cell (i := i) h64
  rw [this]
  unfold mx1
  rw [if_pos hi]
theorem mx1_low (l : List UInt8) (f : Nat → UInt32) (k : Nat) (hk : k < 16) : ∀ j, j < 64 → mx1 l f (k + 1) j = if j = k then be4 (bAt l (4 * k)) (bAt l (4 * k + 1)) (bAt l (4 * k + 2)) (bAt l (4 * k + 3)) else mx1 l f k j := by
  intro j hj
  unfold mx1
  by_cases e : j = k
  · subst e; rw [if_pos (by omega), if_pos rfl, wd_low l j hk]
  · rw [if_neg e]
    by_cases h : j < k
    · rw [if_pos h, if_pos (by omega)]
    · rw [if_neg h, if_neg (by omega)]
theorem mx1_high (l : List UInt8) (f : Nat → UInt32) (k : Nat) (hk : 16 ≤ k) (hk2 : k < 64) : ∀ j, j < 64 → mx1 l f (k + 1) j = if j = k then sg1 (wd l (k - 2)) + wd l (k - 7) + sg0 (wd l (k - 15)) + wd l (k - 16) else mx1 l f k j := by
  intro j hj
  unfold mx1
  by_cases e : j = k
  · subst e; rw [if_pos (by omega), if_pos rfl, wd_high l j hk2 hk]
  · rw [if_neg e]
    by_cases h : j < k
    · rw [if_pos h, if_pos (by omega)]
    · rw [if_neg h, if_neg (by omega)]
theorem be4_walk (a b c d : UInt8) : bits BinOp.or IntKind.u32 (bits BinOp.or IntKind.u32 (bits BinOp.or IntKind.u32 (IntKind.u32.wrap (IntKind.u32.wrap (a.toNat : Int) * 16777216)) (IntKind.u32.wrap (IntKind.u32.wrap (b.toNat : Int) * 65536))) (IntKind.u32.wrap (IntKind.u32.wrap (c.toNat : Int) * 256))) (IntKind.u32.wrap (d.toNat : Int)) = ((be4 a b c d).toNat : Int) := by
  rw [b_wrap, b_wrap, b_wrap, b_wrap, IntKind.wrap_u32', IntKind.wrap_u32', IntKind.wrap_u32']
  rw [show (16777216 : Int) = 2 ^ 24 from rfl, show (65536 : Int) = 2 ^ 16 from rfl, show (256 : Int) = 2 ^ 8 from rfl, w_shl _ 24 (by omega), w_shl _ 16 (by omega), w_shl _ 8 (by omega), w_or, w_or, w_or, be4_eq]
theorem s_walk (x2 x7 x15 x16 : UInt32) : IntKind.u32.wrap (IntKind.u32.wrap (IntKind.u32.wrap (bits BinOp.xor IntKind.u32 (bits BinOp.xor IntKind.u32 ((rr x2 17).toNat : Int) ((rr x2 19).toNat : Int)) ((x2.toNat : Int) / 1024) + (x7.toNat : Int)) + bits BinOp.xor IntKind.u32 (bits BinOp.xor IntKind.u32 ((rr x15 7).toNat : Int) ((rr x15 18).toNat : Int)) ((x15.toNat : Int) / 8)) + (x16.toNat : Int)) = ((sg1 x2 + x7 + sg0 x15 + x16).toNat : Int) := by
  rw [show (1024 : Int) = 2 ^ 10 from rfl, show (8 : Int) = 2 ^ 3 from rfl, w_div x2 10 (by omega), w_div x15 3 (by omega), w_xor, w_xor, w_xor, w_xor, w_wadd, w_wadd, w_wadd]
  rfl
theorem grown_set (w : World) (g k : Nat) (v : Value) : w.grownBy (w.setCell ⟨g, k, none⟩ v) (some g) :=
  ⟨rfl, rfl, rfl, by simp [World.setCell], fun i hi hne => Below.heap_setCell w _ v i (fun e => hne (by rw [e]))⟩
theorem grown_drew {w w' : World} {r : Option Nat} (h : w.grownBy w' r) : w.grownBy w'.drew r := ⟨h.os, h.tape, h.output, h.size, h.block⟩
end Go.Proofs.Ytbbanhjcchnhpaa
