/- The reference's constants (layer 3), computed. -/
import Derived.Test.YtndhegdhkoileaaDoorShV
namespace Go.Proofs.YtndhegdhkoileaaDoor
open Go.RowKit Go.Deep
set_option linter.unusedVariables false
def bitN (k : Nat) : Nat := 34359738368 / 2 ^ k
def grdX (p : Nat) : Nat → Nat
  | 0 => 0
  | k + 1 => if belowB (grdX p k + bitN k) p then grdX p k + bitN k else grdX p k
def csV (p : Nat) : Nat := grdX p 36 % 4294967296
/-- The constants of the primes below p. -/
def csL (p : Nat) : List Nat := ((List.range p).filter primeB).map csV
theorem csv_g0 : [2, 3, 5, 7].map csV = [1116352408, 1899447441, 3049323471, 3921009573] := by decide +kernel
theorem csv_g1 : [11, 13, 17, 19].map csV = [961987163, 1508970993, 2453635748, 2870763221] := by decide +kernel
theorem csv_g2 : [23, 29, 31, 37].map csV = [3624381080, 310598401, 607225278, 1426881987] := by decide +kernel
theorem csv_g3 : [41, 43, 47, 53].map csV = [1925078388, 2162078206, 2614888103, 3248222580] := by decide +kernel
theorem csv_g4 : [59, 61, 67, 71].map csV = [3835390401, 4022224774, 264347078, 604807628] := by decide +kernel
theorem csv_g5 : [73, 79, 83, 89].map csV = [770255983, 1249150122, 1555081692, 1996064986] := by decide +kernel
theorem csv_g6 : [97, 101, 103, 107].map csV = [2554220882, 2821834349, 2952996808, 3210313671] := by decide +kernel
theorem csv_g7 : [109, 113, 127, 131].map csV = [3336571891, 3584528711, 113926993, 338241895] := by decide +kernel
theorem csv_g8 : [137, 139, 149, 151].map csV = [666307205, 773529912, 1294757372, 1396182291] := by decide +kernel
theorem csv_g9 : [157, 163, 167, 173].map csV = [1695183700, 1986661051, 2177026350, 2456956037] := by decide +kernel
theorem csv_g10 : [179, 181, 191, 193].map csV = [2730485921, 2820302411, 3259730800, 3345764771] := by decide +kernel
theorem csv_g11 : [197, 199, 211, 223].map csV = [3516065817, 3600352804, 4094571909, 275423344] := by decide +kernel
theorem csv_g12 : [227, 229, 233, 239].map csV = [430227734, 506948616, 659060556, 883997877] := by decide +kernel
theorem csv_g13 : [241, 251, 257, 263].map csV = [958139571, 1322822218, 1537002063, 1747873779] := by decide +kernel
theorem csv_g14 : [269, 271, 277, 281].map csV = [1955562222, 2024104815, 2227730452, 2361852424] := by decide +kernel
theorem csv_g15 : [283, 293, 307, 311].map csV = [2428436474, 2756734187, 3204031479, 3329325298] := by decide +kernel
theorem primes_312 : (List.range 312).filter primeB = [2, 3, 5, 7] ++ ([11, 13, 17, 19] ++ ([23, 29, 31, 37] ++ ([41, 43, 47, 53] ++ ([59, 61, 67, 71] ++ ([73, 79, 83, 89] ++ ([97, 101, 103, 107] ++ ([109, 113, 127, 131] ++ ([137, 139, 149, 151] ++ ([157, 163, 167, 173] ++ ([179, 181, 191, 193] ++ ([197, 199, 211, 223] ++ ([227, 229, 233, 239] ++ ([241, 251, 257, 263] ++ ([269, 271, 277, 281] ++ ([283, 293, 307, 311]))))))))))))))) := by decide +kernel
theorem csL_312 : csL 312 = klist.map (·.toNat) := by
  unfold csL
  rw [primes_312]
  simp only [List.map_append, csv_g0, csv_g1, csv_g2, csv_g3, csv_g4, csv_g5, csv_g6, csv_g7, csv_g8, csv_g9, csv_g10, csv_g11, csv_g12, csv_g13, csv_g14, csv_g15]
  rfl
def npr (p : Nat) : Nat := ((List.range p).filter primeB).length
theorem npr_311 : npr 311 = 63 := by decide +kernel
theorem npr_312 : npr 312 = 64 := by decide +kernel
theorem csL_len (p : Nat) : (csL p).length = npr p := by unfold csL npr; rw [List.length_map]
theorem npr_succ (p : Nat) : npr (p + 1) = npr p + (if primeB p then 1 else 0) := by
  unfold npr
  rw [List.range_succ, List.filter_append, List.length_append]
  by_cases h : primeB p = true
  · rw [if_pos h, List.filter_cons_of_pos h]; rfl
  · rw [if_neg h, List.filter_cons_of_neg h]; rfl
theorem csL_succ (p : Nat) : csL (p + 1) = csL p ++ (if primeB p then [csV p] else []) := by
  unfold csL
  rw [List.range_succ, List.filter_append, List.map_append]
  by_cases h : primeB p = true
  · rw [if_pos h, List.filter_cons_of_pos h]; rfl
  · rw [if_neg h, List.filter_cons_of_neg h]; rfl
theorem npr_mono : ∀ (d p : Nat), npr p ≤ npr (p + d)
  | 0, p => Nat.le_refl _
  | d + 1, p => by
    have := npr_mono d p
    rw [← Nat.add_assoc, npr_succ]
    omega
theorem npr_lt (p : Nat) (h : npr p < 64) : p ≤ 311 := by
  rcases Nat.lt_or_ge 311 p with h1 | h1
  · have := npr_mono (p - 312) 312
    rw [show 312 + (p - 312) = p from by omega, npr_312] at this
    omega
  · exact h1
theorem npr_ge (p : Nat) (h : 64 ≤ npr p) (hp : p ≤ 312) : p = 312 := by
  rcases Nat.lt_or_ge p 312 with h1 | h1
  · have := npr_mono (311 - p) p
    rw [show p + (311 - p) = 311 from by omega, npr_311] at this
    omega
  · omega
theorem bitN_succ (k : Nat) : bitN k / 2 = bitN (k + 1) := by
  unfold bitN
  rw [Nat.div_div_eq_div_mul, Nat.pow_succ]
theorem bitN_36 : bitN 36 = 0 := by decide
theorem bitN_pos (k : Nat) (h : k < 36) : 0 < bitN k := by
  unfold bitN
  have : 2 ^ k ≤ 2 ^ 35 := Nat.pow_le_pow_right (by omega) (by omega)
  exact Nat.div_pos (by omega) (Nat.pow_pos (by omega))
theorem grd_bound (p : Nat) : ∀ k, grdX p k + 2 * bitN k ≤ 68719476736
  | 0 => by show 0 + 2 * bitN 0 ≤ _; decide
  | k + 1 => by
    have ih := grd_bound p k
    have hb := bitN_succ k
    show (if belowB (grdX p k + bitN k) p then grdX p k + bitN k else grdX p k) + 2 * bitN (k + 1) ≤ _
    split <;> omega
theorem grd_succ (p k : Nat) : grdX p (k + 1) = if belowB (grdX p k + bitN k) p then grdX p k + bitN k else grdX p k := rfl
theorem csL_2 : csL 2 = [] := by decide +kernel
end Go.Proofs.YtndhegdhkoileaaDoor
