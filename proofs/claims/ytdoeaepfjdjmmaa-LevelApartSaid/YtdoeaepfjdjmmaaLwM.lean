/- Level: LevelApart's argument, opened. -/
import Derived.Test.YtdoeaepfjdjmmaaLwK
import Derived.OpenShut
import Derived.ChangeArms
import Derived.Test.YtdoeaepfjdjmmaaOpenR
namespace Go.Proofs.Ytdoeaepfjdjmmaa
open Go.ChangeShapes Go.WideShapes Go.Deep Go.RowKit
set_option linter.unusedVariables false
set_option linter.unusedSimpArgs false
theorem four_fields : ∃ f0 f1 f2 f3, Try.prog.underlying 47 = some (.struct #[f0, f1, f2, f3]) ∧ (f0.type = 5 ∧ f0.offset = 0) ∧ (f1.type = 22 ∧ f1.offset = 1) ∧ (f2.type = 22 ∧ f2.offset = 2) ∧ (f3.type = 35 ∧ f3.offset = 3) :=
  ⟨_, _, _, _, Try.underlying47, ⟨rfl, rfl⟩, ⟨rfl, rfl⟩, ⟨rfl, rfl⟩, ⟨rfl, rfl⟩⟩
theorem act_offs : ∃ f0 f1 f2, Try.prog.underlying 35 = some (.struct #[f0, f1, f2]) ∧ (f0.type = 3 ∧ f0.offset = 0) ∧ (f1.type = 3 ∧ f1.offset = 1) ∧ (f2.type = 3 ∧ f2.offset = 2) :=
  ⟨_, _, _, Try.underlying35, ⟨rfl, rfl⟩, ⟨rfl, rfl⟩, ⟨rfl, rfl⟩⟩
section
variable {H : Type} {enc : TypeId × Value → H} {w : World}
theorem acts_field {n : Nat} {v : Value} {y : DataW H × List MemPlace} (h : DataW.trod enc Try.prog w 0 (fun _ => true) true n 22 [v] = some y) : ∃ ao len cap, v = .slice ao len cap ∧ len ≤ maxLen ∧ ActRow w ao len := by
  have hs : ∃ a len cap, v = .slice a len cap := by
    rcases open_slice Try.underlying22 h with ⟨hcs, _⟩ | ⟨a, len, cap, m, n', D, Pl, hcs, _⟩
    · exact ⟨none, 0, 0, by simpa using hcs⟩
    · exact ⟨some a, len, cap, by simpa using hcs⟩
  refine open_acts24 (enc := enc) hs (d := y.1) (p := y.2) ?_
  obtain ⟨a, len, cap, rfl⟩ := hs
  exact ⟨n, h⟩
theorem open_four {r : Reach} {b0 : Nat} {v : Value} {d : DataW H} {p : List MemPlace} (hok : Value.okWide Try.prog w r b0 47 v) (h : DataW.Trod enc Try.prog w 0 (fun _ => true) true 47 v d p) :
    ∃ (z : Nat) (a1 : Option Addr) (l1 c1 : Nat) (a2 : Option Addr) (l2 c2 : Nat) (k i m : Int), z < 256 ∧ v = .agg #[.int .u8 (z : Int), .slice a1 l1 c1, .slice a2 l2 c2, .int .i64 k, .int .i64 i, .int .i64 m] ∧ l1 ≤ maxLen ∧ ActRow w a1 l1 ∧ l2 ≤ maxLen ∧ ActRow w a2 l2 := by
  obtain ⟨f0, f1, f2, f3, hs, ⟨t0, o0⟩, ⟨t1, o1⟩, ⟨t2, o2⟩, ⟨t3, o3⟩⟩ := four_fields
  obtain ⟨cs, rfl, hsz⟩ := okWide_struct hs hok
  obtain ⟨l⟩ := cs
  have hl : l.length = 6 := hsz.trans (by kernel_rfl)
  obtain ⟨fuel, hf⟩ := h
  obtain ⟨ys, n', hn', hy, hlen, hyl, hf'⟩ := DataW.trod_struct hs hf
  have e0 : (Value.agg ⟨l⟩).cells.toList = l := by simp [Value.cells]
  rw [e0] at hf'
  have hyl4 : ys.length = 4 := hyl
  obtain ⟨y0, g0⟩ : ∃ y, ys[0]? = some y := ⟨_, List.getElem?_eq_getElem (by omega)⟩
  obtain ⟨y1, g1⟩ : ∃ y, ys[1]? = some y := ⟨_, List.getElem?_eq_getElem (by omega)⟩
  obtain ⟨y2, g2⟩ : ∃ y, ys[2]? = some y := ⟨_, List.getElem?_eq_getElem (by omega)⟩
  obtain ⟨y3, g3⟩ : ∃ y, ys[3]? = some y := ⟨_, List.getElem?_eq_getElem (by omega)⟩
  have h0 := hf' 0 f0 rfl
  have h1 := hf' 1 f1 rfl
  have h2 := hf' 2 f2 rfl
  have h3 := hf' 3 f3 rfl
  rw [t0, o0, g0, show Try.prog.cellsOf 5 = 1 from by kernel_rfl, take_one _ _ (by omega)] at h0
  rw [t1, o1, g1, show Try.prog.cellsOf 22 = 1 from by kernel_rfl, take_one _ _ (by omega)] at h1
  rw [t2, o2, g2, show Try.prog.cellsOf 22 = 1 from by kernel_rfl, take_one _ _ (by omega)] at h2
  rw [t3, o3, g3, show Try.prog.cellsOf 35 = 3 from by kernel_rfl] at h3
  obtain ⟨z, hz, hzw⟩ := field_int Try.underlying5 h0
  obtain ⟨a1, l1, c1, hv1, hm1, hr1⟩ := acts_field h1
  obtain ⟨a2, l2, c2, hv2, hm2, hr2⟩ := acts_field h2
  obtain ⟨q0, q1, q2, hq, ⟨s0, p0⟩, ⟨s1, p1⟩, ⟨s2, p2⟩⟩ := act_offs
  obtain ⟨zs, n2, hn2, hy2, hlen2, hzl, hg'⟩ := DataW.trod_struct hq h3
  have hzl3 : zs.length = 3 := hzl
  obtain ⟨z0, i0⟩ : ∃ y, zs[0]? = some y := ⟨_, List.getElem?_eq_getElem (by omega)⟩
  obtain ⟨z1, i1⟩ : ∃ y, zs[1]? = some y := ⟨_, List.getElem?_eq_getElem (by omega)⟩
  obtain ⟨z2, i2⟩ : ∃ y, zs[2]? = some y := ⟨_, List.getElem?_eq_getElem (by omega)⟩
  have k0 := hg' 0 q0 rfl
  have k1 := hg' 1 q1 rfl
  have k2 := hg' 2 q2 rfl
  have hl3 : ((l.drop 3).take 3).length = 3 := by rw [List.length_take, List.length_drop]; omega
  rw [s0, p0, i0, show Try.prog.cellsOf 3 = 1 from by kernel_rfl, take_one _ _ (by omega)] at k0
  rw [s1, p1, i1, show Try.prog.cellsOf 3 = 1 from by kernel_rfl, take_one _ _ (by omega)] at k1
  rw [s2, p2, i2, show Try.prog.cellsOf 3 = 1 from by kernel_rfl, take_one _ _ (by omega)] at k2
  obtain ⟨k, hk, _⟩ := field_int Try.underlying3 k0
  obtain ⟨i, hi, _⟩ := field_int Try.underlying3 k1
  obtain ⟨m, hm, _⟩ := field_int Try.underlying3 k2
  have hb := u8_in hzw
  rcases l with _ | ⟨b0, _ | ⟨b1, _ | ⟨b2, _ | ⟨b3, _ | ⟨b4, _ | ⟨b5, _ | ⟨b6, l⟩⟩⟩⟩⟩⟩⟩ <;> first | (exfalso; simp at hl; done) | skip
  · simp only [List.getElem_cons_zero, List.getElem_cons_succ, List.drop_succ_cons, List.drop_zero, List.take_succ_cons, List.take_zero] at hz hv1 hv2 hk hi hm
    subst hz hv1 hv2 hk hi hm
    refine ⟨z.toNat, a1, l1, c1, a2, l2, c2, k, i, m, by omega, ?_, hm1, hr1, hm2, hr2⟩
    rw [Int.toNat_of_nonneg hb.1]
  all_goals (exfalso; simp at hl; omega)
end
end Go.Proofs.Ytdoeaepfjdjmmaa
