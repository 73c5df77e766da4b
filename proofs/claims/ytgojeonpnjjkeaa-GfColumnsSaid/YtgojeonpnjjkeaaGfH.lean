/- Contracts of package gf (cellaret): rows' products, columns' products. -/
import Derived.Test.YtgojeonpnjjkeaaGfG
namespace Go.Proofs.Ytgojeonpnjjkeaa
open Go.RowKit Go.Deep
set_option linter.unusedVariables false

/-- Where a row of elements lies. -/
def ElsAt (w : World) (ao : Option Addr) (len : Nat) (zs : List Nat) : Prop :=
  0 < len → ∃ b off, ao = some ⟨b, off, none⟩ ∧ b < w.heap.size ∧ ∀ i, i < len → w.cell? ⟨b, off + i, none⟩ = some (.int .u8 ((zs.getD i 0 : Nat) : Int))
theorem ElsAt.below {w w' : World} {ao : Option Addr} {len : Nat} {zs : List Nat} (h : ElsAt w ao len zs) (hb : Below w.heap.size w w') : ElsAt w' ao len zs := fun hp => by
  obtain ⟨b, off, h1, h2, h3⟩ := h hp
  exact ⟨b, off, h1, Nat.lt_of_lt_of_le h2 hb.size, fun i hi => (hb.cell (p := ⟨b, off + i, none⟩) h2).trans (h3 i hi)⟩
/-- The sum of so many products. -/
def rowF (zs ys : List Nat) : Nat → Nat
  | 0 => 0
  | i + 1 => rowF zs ys i ^^^ gmul (zs.getD i 0) (ys.getD i 0)
set_option maxRecDepth 100000 in
set_option maxHeartbeats 1000000 in
theorem row_raw (a b : Option Addr) (m n c d N : Nat) (zs ys : List Nat) (w : World) (ha : ElsAt w a m zs) (hb : ElsAt w b n ys) (hm : m ≤ maxLen) (hn : n ≤ maxLen) (hz : Hid (∀ i, i < m → zs.getD i 0 < 256)) (hy : Hid (∀ i, i < n → ys.getD i 0 < 256))
    (hN : (m ≤ n ∧ N = m) ∨ (n < m ∧ N = n)) (r : Nat) (hr : Hid (rowF zs ys N = r)) :
    Calls Try.prog 22 #[.slice a m c, .slice b n d] w fun e w' => e = .returned (.int .u8 r) ∧ Below w.heap.size w w' := by
  have HA := Lib.hid ha
  have HB := Lib.hid hb
  have hmm : m ≤ 9223372036854775807 := hm
  have hnn : n ≤ 9223372036854775807 := hn
  clear ha hb
  rcases hN with ⟨hmn, e⟩ | ⟨hmn, e⟩
  all_goals
    go_enter Try.func22, Try.ntmps22
    go_wp2
    go_loopw [5, 12] (fun x y wi => ∃ i s : Nat, x = .int .u8 s ∧ y = .int .i64 i ∧ i ≤ N ∧ s < 256 ∧ Hid (rowF zs ys i = s) ∧ ∃ q, wi = w.drewN q) (fun _ y _ => N - (intOf y).toNat)
    case atStart => exact ⟨0, 0, rfl, rfl, by omega, by omega, Lib.hid rfl, 0, rfl⟩
    case round =>
      obtain ⟨i, s, rfl, rfl, hi, hs, HS, q, rfl⟩ := hrel
      by_cases hlt : i < N
      · obtain ⟨b1, o1, rfl, _, h1⟩ := HA.out (by omega)
        obtain ⟨b2, o2, rfl, _, h2⟩ := HB.out (by omega)
        have c1 : (w.drewN q).cell? ⟨b1, o1 + i, none⟩ = _ := h1 i (by omega)
        have c2 : (w.drewN q).cell? ⟨b2, o2 + i, none⟩ = _ := h2 i (by omega)
        have hx := hz.out i (by omega)
        have hy' := hy.out i (by omega)
        have HN : Hid (rowF zs ys (i + 1) = s ^^^ gmul (zs.getD i 0) (ys.getD i 0)) := Lib.hid (by show rowF zs ys i ^^^ _ = _; rw [HS.out])
        clear h1 h2
        generalize zs.getD i 0 = x at c1 hx HN
        generalize ys.getD i 0 = y at c2 hy' HN
        have HM := Lib.hid (fun w => mul_any x y w hx hy')
        have hg := gmul_lt x y hx
        generalize gmul x y = g at HM hg HN
        have HX := Lib.hid (fun w => add_any s g w hs hg)
        have hsg := xor_lt s g hs hg
        generalize s ^^^ g = t at HX hsg HN
        have him : i < m := by omega
        have hin : i < n := by omega
        generalize hwq : w.drewN q = wq at c1 c2 ⊢
        have HW := Lib.hid hwq
        clear hwq
        go_wp2
        go_quiet ((first | (go_at_call 11; exact Calls.quiet_of_same ((HM.out _).mono fun _ _ ⟨a, b⟩ => ⟨a, b.symm⟩)) | (go_at_call 9; exact Calls.quiet_of_same ((HX.out _).mono fun _ _ ⟨a, b⟩ => ⟨a, b.symm⟩))))
        go_wp2
        go_roundw
        case rel => exact ⟨i + 1, t, rfl, by go_num, by omega, hsg, HN, _, by rw [← HW.out]; exact (World.drewN_drewN _ _ _)⟩
        case measure => simp [intOf]; omega
      · obtain rfl : i = N := by omega
        have e : s = r := by rw [← HS.out, hr.out]
        subst e
        have hbq : Below w.heap.size w (w.drewN q) := ⟨rfl, rfl, rfl, Nat.le_refl _, fun _ _ => rfl⟩
        go_wp2
        go_ret
        exact ⟨rfl, hbq⟩
end Go.Proofs.Ytgojeonpnjjkeaa
