/- Contracts (cellaret): what sums blocks, for an oracle that may be nil; join. -/
import Derived.Test.YtaneecmfgfkaaaaDoorNoJ
import Derived.Test.YtaneecmfgfkaaaaDoorNoL
import Derived.Test.YtaneecmfgfkaaaaDoorOrY
import Derived.Test.YtaneecmfgfkaaaaDoorDgs
import Derived.Test.YtaneecmfgfkaaaaDoorLin
namespace Go.Proofs.YtaneecmfgfkaaaaDoor
open Go.RowKit Go.Deep Go.Maps
set_option linter.unusedVariables false
set_option linter.unusedSimpArgs false
theorem sumr_x (base : Nat) (o : Option Addr) (X : Option OrS) (s m : ByteArray) (p q : Nat) (w : World) (hG : Gl w) (hbf : 0 < base) (hbk : 1 < base) (hX : OrX base w o X) (hF : FewX X 1000000) (hs : s.size = 64) (hm : m.size ≤ 64)
    (c1 : w.cell? ⟨p, 0, none⟩ = some (.func (.func 13) #[.pointer o] #[])) (c2 : w.cell? ⟨q, 0, none⟩ = some (.string m)) :
    Calls Tryd.prog 53 #[.string s, .pointer (some ⟨p, 0, none⟩), .pointer (some ⟨q, 0, none⟩)] w fun e w' => ∃ X', e = .returned (.tuple #[.agg (digA (sumL (m ++ s).data.toList)), .int .i64 0]) ∧ OrX base w' o X' ∧ SumX X X' (m ++ s).data.toList ∧ Below base w w' ∧ KeptX w w' X X' := by
  match o, X, hX with
  | none, none, h =>
    refine (sumr_nil s m p q w hG hs hm c1 c2).mono ?_
    rintro e w' ⟨rfl, B⟩
    exact ⟨none, rfl, Nat.le_trans h B.size, ⟨fun _ => rfl, fun _ e => (by cases e)⟩, B.mono h, KeptX.below B⟩
  | some a, some S, h =>
    obtain ⟨ha, hP⟩ := h
    subst ha
    refine (sumr_or base S.g S.l S.tv S.sv S.b S.D s m p q w hG hbf hbk hP (hF S rfl) hs hm ⟨c1, c2⟩).mono ?_
    rintro e w' ⟨tv', sv', D', rfl, P, B, K⟩
    refine ⟨some ⟨S.g, orNext S.l (m ++ s).data.toList, tv', sv', S.b, D'⟩, rfl, ⟨rfl, P⟩, ⟨fun e => (by cases e), fun S2 e => (by cases e; exact ⟨_, rfl, rfl, rfl⟩)⟩, B, ⟨fun k o hk hf => ?_, fun k hk hf => ?_, ?_⟩⟩
    · obtain ⟨q1, q2, q3, q4⟩ := hf S rfl
      exact K.keep k o hk q1 q2 q3 q4
    · obtain ⟨q1, q2, q3, q4⟩ := hf S rfl
      intro S2 e
      cases e
      refine ⟨q1, q2, fun e => ?_, fun e => ?_⟩
      · rcases K.ht k e with h | h
        · exact q3 h
        · omega
      · rcases K.hs k e with h | h
        · exact q4 h
        · omega
    · exact B.size
def oneB : ByteArray := ⟨#[1]⟩
theorem oneB_nd (a b : List UInt8) : (oneB ++ sB (a ++ b)).data.toList = ndT a b := by
  have : oneB = sB [1] := rfl
  rw [this, sB_app, sB_list]
  rfl
theorem sB_ab (a b : List UInt8) : sB a ++ sB b = sB (a ++ b) := sB_app a b
attribute [local irreducible] digA sumL z32 sB
set_option maxRecDepth 100000 in
set_option maxHeartbeats 1000000 in
theorem join_any (a b : List UInt8) (ha : a.length = 32) (hb : b.length = 32) (w : World) : Calls Tryd.prog 41 #[.agg (digA a), .agg (digA b)] w fun e w' => e = .returned (.string (sB (a ++ b))) ∧ Below w.heap.size w w' := by
  have has : (sB a).size = 32 := by with_unfolding_all (rw [sB_size]; exact ha)
  have hbs : (sB b).size = 32 := by with_unfolding_all (rw [sB_size]; exact hb)
  have hadd : ∀ V : World, (Op.stringOp .add (sB a) (sB b)).run Tryd.prog V = .ok (.string (sB (a ++ b))) V := fun V => by rw [← sB_ab]; exact run_string_add_sum V _ _ (by rw [has, hbs]; omega)
  have a1 : (9223372036854775807 < (sB a).size + (sB b).size) = False := by rw [has, hbs]; simp
  obtain ⟨w2, HW2, h1, h2, B2⟩ : ∃ w2, Hid ((w.alloc (.cells (digA a) 34)).alloc (.cells (digA b) 34) = w2) ∧ w2.heap[w.heap.size]? = some (.cells (digA a) 34 (0, 0)) ∧ w2.heap[w.heap.size + 1]? = some (.cells (digA b) 34 (0, 0)) ∧ Below w.heap.size w w2 := by
    have h1 := heap_alloc_new w (.cells (digA a) 34)
    have b1 := (Below.refl w.heap.size w).alloc (Nat.le_refl _) (.cells (digA a) 34)
    generalize hw1 : w.alloc (.cells (digA a) 34) = w1 at *
    have s1 : w1.heap.size = w.heap.size + 1 := by rw [← hw1]; simp
    have b2 := (Below.refl w1.heap.size w1).alloc (Nat.le_refl _) (.cells (digA b) 34)
    have h2 := heap_alloc_new w1 (.cells (digA b) 34)
    exact ⟨_, Lib.hid rfl, (b2.block _ (by omega)).trans h1, by rw [← s1]; exact h2, b1.trans (b2.mono (by omega))⟩
  have HCA : Hid (∀ w3 : World, w3.heap[w.heap.size]? = some (.cells (digA a) 34 (0, 0)) → (convert 65 9 (.slice (some ⟨w.heap.size, 0, none⟩) 32 32)).run Tryd.prog w3 = .ok (.string (sB a)) w3) := Lib.hid (fun w3 h => by with_unfolding_all exact conv_dig h ha)
  have HCB : Hid (∀ w3 : World, w3.heap[w.heap.size + 1]? = some (.cells (digA b) 34 (0, 0)) → (convert 65 9 (.slice (some ⟨w.heap.size + 1, 0, none⟩) 32 32)).run Tryd.prog w3 = .ok (.string (sB b)) w3) := Lib.hid (fun w3 h => by with_unfolding_all exact conv_dig h hb)
  have hca := HCA.out _ h1
  have hcb := HCB.out _ h2
  generalize sB (a ++ b) = cB at *
  generalize sB a = aB at *
  generalize sB b = bB at *
  generalize digA a = DA at *
  generalize digA b = DB at *
  go_enter Tryd.func41, Tryd.ntmps41
  go_upto_region 1 with fail
  rw [HW2.out]
  clear HW2
  refine wp_region_lin (S := (fun w' => w'.heap[w.heap.size]? = some (.cells DA 34 (0, 0)) ∧ w'.heap[w.heap.size + 1]? = some (.cells DB 34 (0, 0)))) [(0, true), (1, true), (2, true), (3, true), (4, true), (5, true)] (by kernel_rfl) (by kernel_rfl) rfl (by kernel_rfl) ?_ (fun hHeld => ?_)
  · (try dsimp only); exact ⟨h1, h2⟩
  (refine wpL_calm (o := { dst := some 5, op := Go.Op.slice 34 (Go.Operand.tmp 2) none none none, type := 65, pos := "node.go:115", after := #[], guard := none }) (v := ?_) rfl (Or.inl ⟨by rfl, ?_⟩) ?_; rotate_left; (focus (intro w hSw; (try dsimp only at hSw); go_simp; (try (with_reducible rfl)); done)); try simp only [Act.put, List.setIfInBounds_toArray, List.set_cons_zero, List.set_cons_succ])
  refine wpL_calm (o := { dst := some 6, op := Go.Op.convert 65 9 (Go.Operand.tmp 5), type := 9, pos := "node.go:115", after := #[{ on := 0, ground := Go.Ground.data }], guard := none }) (v := .string aB) rfl (Or.inl ⟨by rfl, ?_⟩) ?_; (focus (intro w hSw; have hl := HCA.out _ hSw.1; go_simp))
  try simp only [Act.put, List.setIfInBounds_toArray, List.set_cons_zero, List.set_cons_succ]
  (refine wpL_calm (o := { dst := some 7, op := Go.Op.slice 34 (Go.Operand.tmp 3) none none none, type := 65, pos := "node.go:115", after := #[], guard := none }) (v := ?_) rfl (Or.inl ⟨by rfl, ?_⟩) ?_; rotate_left; (focus (intro w hSw; (try dsimp only at hSw); go_simp; (try (with_reducible rfl)); done)); try simp only [Act.put, List.setIfInBounds_toArray, List.set_cons_zero, List.set_cons_succ])
  refine wpL_calm (o := { dst := some 8, op := Go.Op.convert 65 9 (Go.Operand.tmp 7), type := 9, pos := "node.go:115", after := #[{ on := 2, ground := Go.Ground.data }], guard := none }) (v := .string bB) rfl (Or.inl ⟨by rfl, ?_⟩) ?_; (focus (intro w hSw; have hl := HCB.out _ hSw.2; go_simp))
  try simp only [Act.put, List.setIfInBounds_toArray, List.set_cons_zero, List.set_cons_succ]
  (refine wpL_calm (o := { dst := some 9, op := Go.Op.binOp Go.BinOp.add 9 (Go.Operand.tmp 6) (Go.Operand.tmp 8) 9, type := 9, pos := "node.go:115", after := #[{ on := 1, ground := Go.Ground.data }, { on := 3, ground := Go.Ground.data }], guard := none }) (v := ?_) rfl (Or.inl ⟨by rfl, ?_⟩) ?_; rotate_left; (focus (intro w hSw; (try dsimp only at hSw); go_simp; (try (with_reducible rfl)); done)); try simp only [Act.put, List.setIfInBounds_toArray, List.set_cons_zero, List.set_cons_succ])
  (refine wpL_calm (o := { dst := some 4, op := Go.Op.assign (Go.Operand.tmp 9), type := 9, pos := "node.go:115", after := #[{ on := 4, ground := Go.Ground.data }, { on := 0, ground := Go.Ground.phase }, { on := 1, ground := Go.Ground.phase }, { on := 2, ground := Go.Ground.phase }, { on := 3, ground := Go.Ground.phase }, { on := 4, ground := Go.Ground.phase }], guard := none }) (v := ?_) rfl (Or.inl ⟨by rfl, ?_⟩) ?_; rotate_left; (focus (intro w hSw; (try dsimp only at hSw); go_simp; (try (with_reducible rfl)); done)); try simp only [Act.put, List.setIfInBounds_toArray, List.set_cons_zero, List.set_cons_succ])
  refine wpL_nil ?_
  refine NoPanic.normal ?_
  go_wp2_with fail
  go_ret
  exact ⟨rfl, B2.drew⟩
end Go.Proofs.YtaneecmfgfkaaaaDoor
