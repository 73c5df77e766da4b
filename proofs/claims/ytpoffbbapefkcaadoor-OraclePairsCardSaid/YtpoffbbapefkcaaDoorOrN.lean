/- The law OraclePairs. -/
import Derived.Test.YtpoffbbapefkcaaDoorOrM
namespace Go.Proofs.YtpoffbbapefkcaaDoor
open Go.RowKit Go.Deep Go.Maps Go.ChangeShapes Go.WideShapes
set_option linter.unusedVariables false
set_option linter.unusedSimpArgs false
theorem TxtAt.take {w : World} {a : Option Addr} {L : List ByteArray} (h : TxtAt w a L) (n : Nat) : TxtAt w a (L.take n) := fun h0 => by
  have hl : (L.take n).length ≤ L.length := by rw [List.length_take]; omega
  obtain ⟨g, o, h1, h2, h3⟩ := h (by omega)
  exact ⟨g, o, h1, h2, fun i hi => by rw [h3 i (by omega), List.getElem_take]⟩
theorem digA_inj (x y : List UInt8) (hx : x.length = 32) (hy : y.length = 32) (e : digA x = digA y) : x = y := by
  unfold digA bv at e
  have e2 : x.map (fun b => Value.int .u8 (b.toNat : Int)) = y.map (fun b => Value.int .u8 (b.toNat : Int)) := by injection e
  apply List.ext_getElem (by omega)
  intro i h1 h2
  have := congrArg (fun l => l[i]?) e2
  simp only [List.getElem?_map, List.getElem?_eq_getElem h1, List.getElem?_eq_getElem h2, Option.map_some] at this
  have h3 : ((x[i].toNat : Nat) : Int) = ((y[i].toNat : Nat) : Int) := by injection (Option.some.inj this)
  exact UInt8.toNat_inj.1 (by omega)
attribute [local irreducible] pairF hitB digA htB
set_option maxRecDepth 100000 in
set_option maxHeartbeats 4000000 in
theorem pairs_tail (L : List ByteArray) (X : List (List UInt8)) (la da : Option Addr) (len lc dc : Nat) (w : World) (hT : TxtAt w la (L.take 60)) (hL : L.length = len) (hlen : len ≤ 9223372036854775807) (hX : DigAt w da X) (h32 : ∀ x ∈ X, x.length = 32) (hml : X.length ≤ 9223372036854775807) (hG : Gl w) (hc : len ≤ lc) :
    Calls Tryd.prog 4 #[.slice la len lc, .slice da X.length dc] w fun e w' => e = .returned (.bool true) ∧ Below w.heap.size w w' := by
  have hkx : ∀ x : List UInt8, ∃ l, x.length = 32 → keyOf Tryd.prog 34 (.agg (digA x)) = some l := fun x => by
    by_cases h : x.length = 32
    · obtain ⟨l, hl⟩ := key_dig x h
      exact ⟨l, fun _ => hl⟩
    · exact ⟨.bool true, fun h' => absurd h' h⟩
  obtain ⟨kD, hkD⟩ := Classical.axiomOfChoice hkx
  have hT60 : (L.take 60).length ≤ 1000000 := by rw [List.length_take]; omega
  have HPA := Lib.hid (fun lc => pair_any (L.take 60) X kD la da lc dc w hT hX h32 (fun x hx => hkD x (h32 x hx)) (fun x hx y hy e => digA_inj x y (h32 x hx) (h32 y hy) e) hT60 hml)
  have HRP := Lib.hid (fun lc w (h1 : TxtAt w la (L.take 60)) (h2 : DigAt w da X) => refPair_any (L.take 60) X la da lc dc w h1 h2 h32 hT60 hml)
  have hlt : (L.take 60).length = min 60 len := by rw [List.length_take, hL]
  have HT := Lib.hid hT
  have HX := Lib.hid hX
  rw [hlt] at HPA HRP
  clear hkx hkD hT hX h32 hlt hT60 hL
  generalize pairF (L.take 60) X (min (min 60 len) X.length) = r at *
  generalize X.length = m at *
  by_cases h60 : 60 < len
  · have h1 : (60 : Int) < (len : Int) := by omega
    rw [show min 60 len = 60 from by omega] at HPA HRP
    have hc60 : 60 ≤ lc := by omega
    go_enter Tryd.func4, Tryd.ntmps4
    go_wp2_with fail
    refine (HPA.out _).mono ?_
    rintro e w1 ⟨rfl, B1⟩
    have HR1 := Lib.hid (HRP.out lc w1 (HT.out.below B1) (HX.out.below B1))
    cases r with
    | none =>
      dsimp only [pairV] at HR1 ⊢
      go_wp2_with fail
      refine HR1.out.mono ?_
      rintro e w2 ⟨rfl, b2⟩
      have B2 := B1.trans (b2.mono B1.size)
      go_wp2_with fail
      refine (awake06 _ (hG.below B2)).mono ?_
      rintro e w3 ⟨rfl, b3⟩
      go_wp2_with fail
      go_ret
      exact ⟨rfl, B2.trans (b3.mono B2.size)⟩
    | some ik =>
      obtain ⟨i, k⟩ := ik
      dsimp only [pairV] at HR1 ⊢
      go_wp2_with fail
      refine HR1.out.mono ?_
      rintro e w2 ⟨rfl, b2⟩
      have B2 := B1.trans (b2.mono B1.size)
      go_wp2_with fail
      refine (awake06 _ (hG.below B2)).mono ?_
      rintro e w3 ⟨rfl, b3⟩
      go_wp2_with fail
      go_ret
      exact ⟨rfl, B2.trans (b3.mono B2.size)⟩
  · have h1 : ¬ (60 : Int) < (len : Int) := by omega
    rw [show min 60 len = len from by omega] at HPA HRP
    go_enter Tryd.func4, Tryd.ntmps4
    go_wp2_with fail
    refine (HPA.out _).mono ?_
    rintro e w1 ⟨rfl, B1⟩
    have HR1 := Lib.hid (HRP.out lc w1 (HT.out.below B1) (HX.out.below B1))
    cases r with
    | none =>
      dsimp only [pairV] at HR1 ⊢
      go_wp2_with fail
      refine HR1.out.mono ?_
      rintro e w2 ⟨rfl, b2⟩
      have B2 := B1.trans (b2.mono B1.size)
      go_wp2_with fail
      refine (awake06 _ (hG.below B2)).mono ?_
      rintro e w3 ⟨rfl, b3⟩
      go_wp2_with fail
      go_ret
      exact ⟨rfl, B2.trans (b3.mono B2.size)⟩
    | some ik =>
      obtain ⟨i, k⟩ := ik
      dsimp only [pairV] at HR1 ⊢
      go_wp2_with fail
      refine HR1.out.mono ?_
      rintro e w2 ⟨rfl, b2⟩
      have B2 := B1.trans (b2.mono B1.size)
      go_wp2_with fail
      refine (awake06 _ (hG.below B2)).mono ?_
      rintro e w3 ⟨rfl, b3⟩
      go_wp2_with fail
      go_ret
      exact ⟨rfl, B2.trans (b3.mono B2.size)⟩
section
variable {H : Type} {enc : TypeId × Value → H}
theorem slice_cap {t e : TypeId} {a : Option Addr} {len cap : Nat} {d : DataW H} {p : List MemPlace} {w : World} (ht : Tryd.prog.underlying t = some (.slice e)) (h : DataW.Trod enc Tryd.prog w 0 (fun _ => true) true t (.slice a len cap) d p) : len ≤ cap := by
  obtain ⟨fuel, hf⟩ := h
  rcases open_slice ht hf with ⟨hcs, _⟩ | ⟨a', len', cap', m, n, D, Pl, hcs, hb, hl, hm, hmm, hx, hi⟩
  · simp [Value.cells] at hcs
    obtain ⟨rfl, rfl, rfl⟩ := hcs
    omega
  · simp [Value.cells] at hcs
    obtain ⟨rfl, rfl, rfl⟩ := hcs
    omega
theorem oraclePairs_walk (v0 : Value) (d0 : DataW H) (p0 : List MemPlace) (v1 : Value) (d1 : DataW H) (p1 : List MemPlace) (w : World) (hok0 : ∃ a len cap, v0 = .slice a len cap) (h0 : DataW.Trod enc Tryd.prog w 0 (fun _ => true) true 25 v0 d0 p0) (hok1 : ∃ a len cap, v1 = .slice a len cap) (h1 : DataW.Trod enc Tryd.prog w 0 (fun _ => true) true 41 v1 d1 p1) (hG : Gl w) :
    Calls Tryd.prog 4 #[v0, v1] w fun e w' => e = .returned (.bool true) ∧ Below w.heap.size w w' := by
  obtain ⟨a, ln, cp, rfl⟩ := hok0
  have hcp := slice_cap Tryd.underlying25 h0
  obtain ⟨la, len, lc, hv, hm, hS⟩ := open_strs (P := Tryd.prog) Tryd.underlying25 Tryd.underlying9 (by kernel_rfl) ⟨_, _, _, rfl⟩ h0
  cases hv
  obtain ⟨da, m, dc, X, rfl, hm1, hXl, h32, hX⟩ := open_digs hok1 h1
  subst hXl
  obtain ⟨L, hL, hT⟩ := txt_of hS
  unfold maxLen at hm hm1
  exact pairs_tail L X _ _ _ _ _ w (hT.take 60) hL (by omega) hX h32 (by omega) hG hcp
end
end Go.Proofs.YtpoffbbapefkcaaDoor
