/- Package view: Look. -/
import Derived.Test.YtapmnacggpcffaaVwC
namespace Go.Proofs.Ytapmnacggpcffaa
open Go.RowKit Go.Deep
set_option linter.unusedVariables false
set_option linter.unusedSimpArgs false
theorem info_seen : (Try.prog.info? 33).map (fun i => (i.zero, i.size, i.bytes)) = some (some (.agg #[.int .i64 0, .int .i64 0, .int .i64 0, .bool false]), 4, 32) := by kernel_rfl
theorem info_parts33 {t : TypeId} {z : Value} {s b : Nat} (h : (Try.prog.info? t).map (fun i => (i.zero, i.size, i.bytes)) = some (some z, s, b)) : ∃ i, Try.prog.info? t = some i ∧ i.zero = some z ∧ i.size = s ∧ i.bytes = b := by
  obtain ⟨i, hi, e⟩ := Option.map_eq_some_iff.1 h
  simp only [Prod.mk.injEq] at e
  exact ⟨i, hi, e.1, e.2.1, e.2.2⟩
theorem box_seen (w : World) (a b c : Int) (d : Bool) : ∀ q u, [Value.int .i64 a, .int .i64 b, .int .i64 c, .bool d][q]? = some u → (w.alloc (.cells #[.int .i64 a, .int .i64 b, .int .i64 c, .bool d] 33)).cell? ((⟨w.heap.size, 0, none⟩ : Addr).add q) = some u := by
  intro q u hq
  rw [Addr.add_lit, Nat.zero_add]
  rcases q with _ | _ | _ | _ | q <;> simp at hq <;> subst hq <;> exact World.cell?_alloc_at _ _ _ _ rfl
theorem onel_seen (a b c : Int) (d : Bool) : ∀ u ∈ [Value.int .i64 a, .int .i64 b, .int .i64 c, .bool d], u.oneCell' = true := by
  intro u hu
  simp at hu
  rcases hu with rfl | rfl | rfl | rfl <;> rfl
/-- The cells of what is seen of the first n blocks. -/
def seenC (s : ByteArray) (n : Nat) : List Value := (List.range n).flatMap fun i => (seenA s i).toList
theorem seenC_succ (s : ByteArray) (n : Nat) : seenC s (n + 1) = seenC s n ++ [.int .i64 (whatK n), .int .i64 (whatI n), .int .i64 (numV s n), .bool (zerV s n)] := by
  unfold seenC
  rw [List.range_succ, List.flatMap_append]
  simp [seenA]
theorem own_sl33 {w : World} {base n size : Nat} {e : TypeId} {v : Value} {xs : List Value} (h : w.ownsRow base e size v n xs) : ∃ a c, v = .slice a n c := by
  rcases h.2 with ⟨h, h0⟩ | ⟨g, cap, cur, h, _⟩
  · exact ⟨_, _, by rw [h, h0]⟩
  · exact ⟨_, _, h⟩
theorem own_base33 {w : World} {B C size n : Nat} {e : TypeId} {v : Value} {xs : List Value} (h : w.ownsRow B e size v n xs) (hc : C ≤ B) : w.ownsRow C e size v n xs := by
  refine ⟨h.1, ?_⟩
  rcases h.2 with h | ⟨g, cap, cur, rfl, q1, q2⟩
  · exact Or.inl h
  · exact Or.inr ⟨g, cap, cur, rfl, Nat.le_trans hc q1, q2⟩
theorem _root_.Go.World.ownsRow.kept_below {w w' : World} {B size n : Nat} {e : TypeId} {v : Value} {xs : List Value} (h : w.ownsRow B e size v n xs) (b : Below w.heap.size w w') : w'.ownsRow B e size v n xs := by
  refine ⟨h.1, ?_⟩
  rcases h.2 with h | ⟨g2, cap, cur, rfl, q1, q2, q3⟩
  · exact Or.inl h
  · exact Or.inr ⟨g2, cap, cur, rfl, q1, (b.block g2 (Array.getElem?_eq_some_iff.1 q2).1).trans q2, q3⟩
/-- What Look tells of an image. -/
def LookR (s : ByteArray) (w : World) (e : Ending) (w' : World) : Prop := ∃ a c, e = .returned (.tuple #[.slice a 288 c, .int .i64 0]) ∧ w'.ownsRow w.heap.size 33 4 (.slice a 288 c) 288 (seenC s 288) ∧ Below w.heap.size w w'
set_option maxRecDepth 100000 in
set_option maxHeartbeats 4000000 in
theorem look_no (s : ByteArray) (w : World) (hs : s.size ≠ 18432) : Calls Try.prog 7 #[.string s] w fun e w' => e = .returned (.tuple #[.slice none 0 0, .int .i64 6]) ∧ w = w' := by
  have CI := Lib.hid (isImage_any s w)
  rw [decide_eq_false hs] at CI
  go_enter Try.func7, Try.ntmps7
  go_wp2_with fail
  refine CI.out.mono ?_
  rintro e w' ⟨rfl, rfl⟩
  go_wp2_with fail
  go_ret2
  exact ⟨rfl, rfl⟩
set_option maxRecDepth 100000 in
set_option maxHeartbeats 4000000 in
theorem look1_enter (args : Array Value) (w : World) : (callFunc 21 args).run Try.prog w = .ok (.enter 21 args) w := by go_simp
set_option maxRecDepth 100000 in
set_option maxHeartbeats 8000000 in
theorem look_any (s : ByteArray) (w : World) (hs : s.size = 18432) : Calls Try.prog 7 #[.string s] w (LookR s w) := by
  obtain ⟨i1, hi1, hy0, hy1, hy2⟩ := info_parts33 info_seen
  have CI := Lib.hid (isImage_any s w)
  rw [decide_eq_true hs] at CI
  have CK := Lib.hid (looker_any s w)
  go_enter Try.func7, Try.ntmps7
  go_wp2_with fail
  refine CI.out.mono ?_
  rintro e w' ⟨rfl, rfl⟩
  go_wp2_with fail
  refine CK.out.mono ?_
  rintro e w1 ⟨b1, b2, rfl, hl, hb1⟩
  have HL1 := Lib.hid hl
  have HB1 := Lib.hid hb1
  have hs1 := hb1.size
  clear CI CK hl hb1
  go_wp2_with fail
  go_loopw [4, 12] (fun s4 s12 wi => ∃ i : Nat, s12 = .int .i64 (i : Int) ∧ i ≤ 288 ∧ (∃ a c, s4 = .slice a i c) ∧ Hid (wi.ownsRow w1.heap.size 33 4 s4 i (seenC s i)) ∧ Hid (Below w1.heap.size w1 wi)) (fun _ s12 _ => 288 - (intOf s12).toNat)
  case atStart => exact ⟨0, rfl, by omega, ⟨_, _, rfl⟩, Lib.hid (World.ownsRow_nil _ _ _ _), Lib.hid (Below.refl _ _)⟩
  case round =>
    obtain ⟨i, rfl, hi, ⟨a4, c4, rfl⟩, HO, HB⟩ := hrel
    by_cases hlt : i < 288
    · as_aux_lemma =>
      have hli : (i : Int) < 288 := by omega
      have CL := Lib.hid (look1_any s i w.heap.size b1 b2 wr hs hlt (HL1.out.below HB.out HL1.out.2.2.1 HL1.out.2.2.2.1))
      unfold seenA at CL
      have HSC := Lib.hid (seenC_succ s i)
      generalize whatK (i : Int) = K at *
      generalize whatI (i : Int) = I at *
      generalize numV s i = N at *
      generalize zerV s i = Z at *
      have heg := look1_enter
      have hbs := HB.out.size
      go_wp2_with fail
      refine CL.out.mono ?_
      rintro e w2 ⟨rfl, hb2⟩
      have HB2 := Lib.hid (HB.out.trans (hb2.mono hbs))
      have HO2 : Hid (w2.ownsRow w1.heap.size 33 4 (.slice a4 i c4) i (seenC s i)) := Lib.hid (HO.out.kept_below hb2)
      have hbs2 := HB2.out.size
      have o1 : i + 1 ≤ maxLen := by unfold maxLen; omega
      clear CL HB HO hb2
      go_wp2_with (at_builtin; refine wpList_append_own _ rfl _ _ 24 rfl w1.heap.size 33 i1 (.agg #[.int .i64 0, .int .i64 0, .int .i64 0, .bool false]) 4 32 Try.underlying24 hi1 hy0 hy1 hy2 rfl (by decide) _ i (seenC s i) rfl (HO2.out.alloc _) ⟨w2.heap.size, 0, none⟩ 1 1 [.int .i64 K, .int .i64 I, .int .i64 N, .bool Z] rfl rfl (box_seen w2 K I N Z) (onel_seen K I N Z) o1 (by omega) (by simp; omega) ?_)
      intro v' w3 hown hgr _
      have HB3 := Lib.hid ((HB2.out.alloc hbs2 _).grown hgr (by simp; omega) (fun j e => (HO2.out.lt j e).1))
      have HO3 : Hid (w3.ownsRow w1.heap.size 33 4 v' (i + 1) (seenC s (i + 1))) := Lib.hid (by rw [HSC.out]; exact hown)
      obtain ⟨a', c', rfl⟩ := own_sl33 HO3.out
      clear hown hgr HO2 HB2
      go_wp2_with fail
      go_roundw
      case rel => exact ⟨i + 1, by go_num, by omega, ⟨_, _, rfl⟩, HO3, HB3⟩
      case measure => simp [intOf]; omega
    · as_aux_lemma =>
      have hli : ¬ (i : Int) < 288 := by omega
      obtain rfl : i = 288 := by omega
      have HO9 : Hid (wr.ownsRow w.heap.size 33 4 (.slice a4 288 c4) 288 (seenC s 288)) := Lib.hid (own_base33 HO.out hs1)
      have HB9 := Lib.hid (HB1.out.trans (HB.out.mono hs1))
      clear HO HB HB1 HL1
      go_wp2_with fail
      go_ret2
      exact ⟨a4, c4, rfl, HO9.out, HB9.out⟩
end Go.Proofs.Ytapmnacggpcffaa
