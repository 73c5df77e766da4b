/- The laws of layer 1: what must come at any rate; BePuts. -/
import Derived.Test.YtkcokljkielagaaProg
import Derived.Test.YtkcokljkielagaaBeA
import Derived.Test.YtkcokljkielagaaBeB
import Derived.Test.YtkcokljkielagaaBeC
import Derived.Test.YtkcokljkielagaaRefA
import Derived.OpenShut
namespace Go.Proofs.Ytkcokljkielagaa
open Go.RowKit Go.Deep

theorem bcell {W w1 : World} (hb : Below W.heap.size W w1) : (∀ b o, b < W.heap.size → w1.cell? ⟨b, o, none⟩ = W.cell? ⟨b, o, none⟩) ∧ (∀ b o, b < W.heap.size → w1.frozen? ⟨b, o, none⟩ = W.frozen? ⟨b, o, none⟩) :=
  ⟨fun b o h => hb.cell (p := ⟨b, o, none⟩) h, fun b o h => hb.frozen (p := ⟨b, o, none⟩) h⟩

theorem below_trans {w w1 w2 : World} (h1 : Below w.heap.size w w1) (h2 : Below w1.heap.size w1 w2) : Below w.heap.size w w2 := h1.trans (h2.mono h1.size)

theorem put_258 (w : World) : Calls Try.prog 10 #[.int .i64 258, .int .i64 2] w fun e w' => e = .returned (.tuple #[.string ⟨#[1, 2]⟩, .int .i64 0]) ∧ Below w.heap.size w w' := by
  have e1 : putL 258 2 = [1, 2] := by decide
  have e2 : putE 258 2 = 0 := by decide
  have := put_any 258 2 w
  rw [e1, e2] at this
  exact this
theorem get_258 (w : World) : Calls Try.prog 12 #[.string ⟨#[1, 2]⟩] w fun e w' => e = .returned (.tuple #[.int .i64 258, .int .i64 0]) ∧ w = w' := by
  have e1 : getV [1, 2] = 258 := by decide
  have e2 : getE [1, 2] = 0 := by decide
  have := get_any ⟨#[1, 2]⟩ w
  rw [show (⟨#[1, 2]⟩ : ByteArray).data.toList = [1, 2] from rfl, e1, e2] at this
  exact this
theorem xor_ab (w : World) : Calls Try.prog 18 #[.string ⟨#[97, 98]⟩, .string ⟨#[32, 32]⟩] w fun e w' => e = .returned (.tuple #[.string ⟨#[65, 66]⟩, .int .i64 0]) ∧ Below w.heap.size w w' := by
  have e1 : xorL [97, 98] [32, 32] = [65, 66] := by decide
  have := xor_ok ⟨#[97, 98]⟩ ⟨#[32, 32]⟩ w (Lib.hid rfl) (by decide)
  rw [show (⟨#[97, 98]⟩ : ByteArray).data.toList = [97, 98] from rfl, show (⟨#[32, 32]⟩ : ByteArray).data.toList = [32, 32] from rfl, e1] at this
  exact this

set_option maxRecDepth 100000 in
set_option maxHeartbeats 400000 in
theorem awake01 (w : World) : Calls Try.prog 14 #[] w fun e w' => e = .returned (.bool true) ∧ Below w.heap.size w w' := by
  go_enter Try.func14, Try.ntmps14
  go_wp2_with fail
  refine (put_258 _).mono ?_
  rintro e w1 ⟨rfl, hb1⟩
  go_wp2_with fail
  refine (get_258 _).mono ?_
  rintro e w' ⟨rfl, rfl⟩
  go_wp2_with fail
  refine (xor_ab _).mono ?_
  rintro e w2 ⟨rfl, hb2⟩
  go_wp2_with fail
  refine (read_any _ _).mono ?_
  rintro e w' ⟨rfl, rfl⟩
  go_wp2_with fail
  refine (left_any ⟨#[97, 98, 99]⟩ 0 _ _ (by go_cell) (by go_cell) (by decide) (by decide) (by decide)).mono ?_
  rintro e w' ⟨rfl, rfl⟩
  go_wp2
  go_ret
  exact ⟨rfl, ((below_trans hb1 hb2).alloc (below_trans hb1 hb2).size _).drew⟩

set_option maxRecDepth 100000 in
set_option maxHeartbeats 400000 in
theorem bePuts_walk (n W : Int) (s : ByteArray) (w : World) (hn : (Lit.int .i64 n).wf = true) (_hW : (Lit.int .i64 W).wf = true) (_hs : s.size ≤ 140737488351232) :
    Calls Try.prog 3 #[.int .i64 n, .int .i64 W, .string s] w fun e w' => e = .returned (.bool true) ∧ Below w.heap.size w w' := by
  have hN := (bounds_i64 hn).2
  clear hn _hW
  go_enter Try.func3, Try.ntmps3
  go_wp2_with fail
  refine (put_any _ _ _).mono ?_
  rintro e w1 ⟨rfl, hb1⟩
  go_wp2_with fail
  refine (r01put_any _ _ _ hN).mono ?_
  rintro e w2 ⟨rfl, hb2⟩
  go_wp2_with fail
  refine (get_any _ _).mono ?_
  rintro e w' ⟨rfl, rfl⟩
  go_wp2_with fail
  refine (r01get_any _ _).mono ?_
  rintro e w' ⟨rfl, rfl⟩
  go_wp2_with fail
  refine (awake01 _).mono ?_
  rintro e w3 ⟨rfl, hb3⟩
  go_wp2
  go_ret
  exact ⟨rfl, below_trans (below_trans hb1 hb2) hb3⟩

end Go.Proofs.Ytkcokljkielagaa
