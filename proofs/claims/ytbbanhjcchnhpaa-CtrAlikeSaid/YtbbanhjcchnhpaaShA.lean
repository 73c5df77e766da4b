/- SHA-256 on words and bytes, over any program; words' operations in the model's own spelling. -/
import Derived.Test.YtbbanhjcchnhpaaLibB
namespace Go.Proofs.Ytbbanhjcchnhpaa
open Go.RowKit Go.Deep
set_option linter.unusedVariables false
/-- A word turned towards its lowest bit. -/
def rr (x : UInt32) (n : Nat) : UInt32 := (x <<< UInt32.ofNat (32 - n)) ||| (x >>> UInt32.ofNat n)
def sg0 (x : UInt32) : UInt32 := (rr x 7 ^^^ rr x 18) ^^^ (x >>> 3)
def sg1 (x : UInt32) : UInt32 := (rr x 17 ^^^ rr x 19) ^^^ (x >>> 10)
def bs0 (x : UInt32) : UInt32 := (rr x 2 ^^^ rr x 13) ^^^ rr x 22
def bs1 (x : UInt32) : UInt32 := (rr x 6 ^^^ rr x 11) ^^^ rr x 25
def chw (e f g : UInt32) : UInt32 := (e &&& f) ^^^ (~~~e &&& g)
def mjw (a b c : UInt32) : UInt32 := ((a &&& b) ^^^ (a &&& c)) ^^^ (b &&& c)
def klist : List UInt32 := [1116352408, 1899447441, 3049323471, 3921009573, 961987163, 1508970993, 2453635748, 2870763221, 3624381080, 310598401, 607225278, 1426881987, 1925078388, 2162078206, 2614888103, 3248222580, 3835390401, 4022224774, 264347078, 604807628, 770255983, 1249150122, 1555081692, 1996064986, 2554220882, 2821834349, 2952996808, 3210313671, 3336571891, 3584528711, 113926993, 338241895, 666307205, 773529912, 1294757372, 1396182291, 1695183700, 1986661051, 2177026350, 2456956037, 2730485921, 2820302411, 3259730800, 3345764771, 3516065817, 3600352804, 4094571909, 275423344, 430227734, 506948616, 659060556, 883997877, 958139571, 1322822218, 1537002063, 1747873779, 1955562222, 2024104815, 2227730452, 2361852424, 2428436474, 2756734187, 3204031479, 3329325298]
def flist : List UInt32 := [1779033703, 3144134277, 1013904242, 2773480762, 1359893119, 2600822924, 528734635, 1541459225]
def kc (i : Nat) : UInt32 := klist.getD i 0
/-- A word of four bytes, the highest first. -/
def be4 (a b c d : UInt8) : UInt32 := UInt32.ofNat (a.toNat * 16777216 + b.toNat * 65536 + c.toNat * 256 + d.toNat)
def bAt (l : List UInt8) (i : Nat) : UInt8 := l[i]?.getD 0
def wAt (l : List UInt32) (i : Nat) : UInt32 := l[i]?.getD 0
/-- The first n words of a block's 64. -/
def wl (l : List UInt8) : Nat → List UInt32
  | 0 => []
  | n + 1 => (fun r => r ++ [if n < 16 then be4 (bAt l (4 * n)) (bAt l (4 * n + 1)) (bAt l (4 * n + 2)) (bAt l (4 * n + 3)) else sg1 (wAt r (n - 2)) + wAt r (n - 7) + sg0 (wAt r (n - 15)) + wAt r (n - 16)]) (wl l n)
theorem wl_length (l : List UInt8) (n : Nat) : (wl l n).length = n := by
  induction n with
  | zero => rfl
  | succ n ih => show (wl l n ++ [_]).length = _; simp [ih]
/-- Word i of a block. -/
def wd (l : List UInt8) (i : Nat) : UInt32 := wAt (wl l 64) i
theorem wl_succ (l : List UInt8) (n : Nat) : wl l (n + 1) = wl l n ++ [if n < 16 then be4 (bAt l (4 * n)) (bAt l (4 * n + 1)) (bAt l (4 * n + 2)) (bAt l (4 * n + 3)) else sg1 (wAt (wl l n) (n - 2)) + wAt (wl l n) (n - 7) + sg0 (wAt (wl l n) (n - 15)) + wAt (wl l n) (n - 16)] := rfl
theorem wl_mono (l : List UInt8) (i n m : Nat) (h : i < n) (hm : n ≤ m) : wAt (wl l m) i = wAt (wl l n) i := by
  induction m with
  | zero => omega
  | succ m ih =>
    by_cases e : n = m + 1
    · rw [e]
    · rw [← ih (by omega), wl_succ]
      unfold wAt
      rw [List.getElem?_append_left (by rw [wl_length]; omega)]
theorem wd_at (l : List UInt8) (i n : Nat) (h : i < n) (hn : n ≤ 64) : wAt (wl l n) i = wd l i := (wl_mono l i n 64 h hn).symm
theorem wAt_last (r : List UInt32) (x : UInt32) (n : Nat) (h : r.length = n) : wAt (r ++ [x]) n = x := by
  unfold wAt
  rw [List.getElem?_append_right (by omega), h]
  simp
theorem wd_new (l : List UInt8) (n : Nat) (hn : n < 64) : wd l n = if n < 16 then be4 (bAt l (4 * n)) (bAt l (4 * n + 1)) (bAt l (4 * n + 2)) (bAt l (4 * n + 3)) else sg1 (wd l (n - 2)) + wd l (n - 7) + sg0 (wd l (n - 15)) + wd l (n - 16) := by
  rw [← wd_at l n (n + 1) (by omega) (by omega), wl_succ, wAt_last _ _ n (wl_length l n)]
  by_cases h16 : n < 16
  · rw [if_pos h16, if_pos h16]
  · rw [if_neg h16, if_neg h16, wd_at l _ n (by omega) (by omega), wd_at l _ n (by omega) (by omega), wd_at l _ n (by omega) (by omega), wd_at l _ n (by omega) (by omega)]
theorem wd_low (l : List UInt8) (n : Nat) (hn : n < 16) : wd l n = be4 (bAt l (4 * n)) (bAt l (4 * n + 1)) (bAt l (4 * n + 2)) (bAt l (4 * n + 3)) := by rw [wd_new l n (by omega), if_pos hn]
theorem wd_high (l : List UInt8) (n : Nat) (hn : n < 64) (h : 16 ≤ n) : wd l n = sg1 (wd l (n - 2)) + wd l (n - 7) + sg0 (wd l (n - 15)) + wd l (n - 16) := by rw [wd_new l n hn, if_neg (by omega)]
/-- Eight words. -/
structure V8 where
  a : UInt32
  b : UInt32
  c : UInt32
  d : UInt32
  e : UInt32
  f : UInt32
  g : UInt32
  h : UInt32
def V8.at (v : V8) (i : Nat) : UInt32 := if i = 0 then v.a else if i = 1 then v.b else if i = 2 then v.c else if i = 3 then v.d else if i = 4 then v.e else if i = 5 then v.f else if i = 6 then v.g else v.h
def t1 (v : V8) (k w : UInt32) : UInt32 := v.h + bs1 v.e + chw v.e v.f v.g + k + w
def t2 (v : V8) : UInt32 := bs0 v.a + mjw v.a v.b v.c
def rnd (v : V8) (k w : UInt32) : V8 := ⟨t1 v k w + t2 v, v.a, v.b, v.c, v.d + t1 v k w, v.e, v.f, v.g⟩
def rounds (ws : List UInt32) (v : V8) : Nat → V8
  | 0 => v
  | n + 1 => rnd (rounds ws v n) (kc n) (wAt ws n)
def blk (v : V8) (l : List UInt8) : V8 := (fun r => ⟨v.a + r.a, v.b + r.b, v.c + r.c, v.d + r.d, v.e + r.e, v.f + r.f, v.g + r.g, v.h + r.h⟩) (rounds (wl l 64) v 64)
/-- What eight words become by the whole blocks of a text. -/
def work (v : V8) (l : List UInt8) : Nat → V8
  | 0 => v
  | n + 1 => work (blk v (l.take 64)) (l.drop 64) n
def v0 : V8 := ⟨1779033703, 3144134277, 1013904242, 2773480762, 1359893119, 2600822924, 528734635, 1541459225⟩
def nz (n : Nat) : Nat := (120 - (n + 1) % 64) % 64
def tailL (n : Nat) : List UInt8 := 128 :: (List.replicate (nz n) 0 ++ (List.range 8).map fun j => UInt8.ofNat (8 * n / 256 ^ (7 - j) % 256))
def padL (l : List UInt8) : List UInt8 := l ++ tailL l.length
def lay4 (x : UInt32) : List UInt8 := [UInt8.ofNat (x.toNat / 16777216), UInt8.ofNat (x.toNat / 65536 % 256), UInt8.ofNat (x.toNat / 256 % 256), UInt8.ofNat (x.toNat % 256)]
def layV (v : V8) : List UInt8 := lay4 v.a ++ lay4 v.b ++ lay4 v.c ++ lay4 v.d ++ lay4 v.e ++ lay4 v.f ++ lay4 v.g ++ lay4 v.h
/-- The sum of a text. -/
def sumV (l : List UInt8) : V8 := work v0 (padL l) ((padL l).length / 64)
def sumL (l : List UInt8) : List UInt8 := layV (sumV l)

/-! ### The operations -/
theorem w_lt (x : UInt32) : x.toNat < 4294967296 := x.toNat_lt
theorem w_xor (x y : UInt32) : bits BinOp.xor .u32 (x.toNat : Int) (y.toNat : Int) = ((x ^^^ y).toNat : Int) := by
  rw [u32_xor_nat _ _ x.toNat_lt y.toNat_lt, UInt32.toNat_xor]
theorem w_and (x y : UInt32) : bits BinOp.and .u32 (x.toNat : Int) (y.toNat : Int) = ((x &&& y).toNat : Int) := by
  rw [u32_and_nat _ _ x.toNat_lt y.toNat_lt, UInt32.toNat_and]
theorem w_or (x y : UInt32) : bits BinOp.or .u32 (x.toNat : Int) (y.toNat : Int) = ((x ||| y).toNat : Int) := by
  rw [u32_or_nat _ _ x.toNat_lt y.toNat_lt, UInt32.toNat_or]
theorem w_add (x y : UInt32) : ((x.toNat : Int) + (y.toNat : Int)) % 4294967296 = ((x + y).toNat : Int) := by
  rw [UInt32.toNat_add]; simp
theorem w_wadd (x y : UInt32) : IntKind.u32.wrap ((x.toNat : Int) + (y.toNat : Int)) = ((x + y).toNat : Int) := by
  rw [IntKind.wrap_u32', w_add]
theorem w_div (x : UInt32) (n : Nat) (h : n < 32) : (x.toNat : Int) / 2 ^ n = ((x >>> (UInt32.ofNat n)).toNat : Int) := by
  rw [UInt32.toNat_shiftRight, Nat.shiftRight_eq_div_pow]
  have : (UInt32.ofNat n).toNat % 32 = n := by rw [UInt32.toNat_ofNat']; omega
  rw [this]
  simp
theorem w_shl (x : UInt32) (n : Nat) (h : n < 32) : ((x.toNat : Int) * 2 ^ n) % 4294967296 = ((x <<< (UInt32.ofNat n)).toNat : Int) := by
  rw [UInt32.toNat_shiftLeft, Nat.shiftLeft_eq]
  have : (UInt32.ofNat n).toNat % 32 = n := by rw [UInt32.toNat_ofNat']; omega
  rw [this]
  simp
end Go.Proofs.Ytbbanhjcchnhpaa
