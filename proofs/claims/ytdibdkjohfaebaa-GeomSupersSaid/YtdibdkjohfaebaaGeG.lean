/- The law GeomSupers (cellaret): plain facts on a first block's bytes; both readings at once. -/
import Derived.Test.YtdibdkjohfaebaaGeF
namespace Go.Proofs.Ytdibdkjohfaebaa
open Go.RowKit Go.Deep
set_option linter.unusedVariables false

/-- A first block's bytes, as a list. -/
def supL (B S M : Int) (c : List UInt8) : List UInt8 := clrt ++ putL B 2 ++ putL S 2 ++ putL M 8 ++ List.replicate 16 0 ++ c
theorem ba_list (c : ByteArray) : c = ⟨c.data.toList.toArray⟩ := by cases c; simp
theorem supL_rsuper (B S M : Int) (c : ByteArray) : ((⟨#[99, 108, 114, 116]⟩ : ByteArray) ++ ⟨(putL B 2).toArray⟩ ++ ⟨(putL S 2).toArray⟩ ++ ⟨(putL M 8).toArray⟩ ++ ⟨(List.replicate 16 (0 : UInt8)).toArray⟩ ++ c) = ⟨(supL B S M c.data.toList).toArray⟩ := by
  have e : (⟨#[99, 108, 114, 116]⟩ : ByteArray) = ⟨clrt.toArray⟩ := rfl
  conv => lhs; rw [ba_list c]
  rw [e, bytes_add, bytes_add, bytes_add, bytes_add, bytes_add]
  rfl
theorem geom_puts {B S M : Int} (h : GeomOk B S M) : putE B 2 = 0 ∧ putE S 2 = 0 ∧ putE M 8 = 0 := by
  obtain ⟨g1, g2, g3, g4, g5, g6, g7⟩ := h
  exact ⟨put2 (by omega) (by omega), put2 (by omega) (by omega), put8 (by omega)⟩
theorem supL_super {B S M : Int} (c : ByteArray) (h : GeomOk B S M) : superL B S M c = ⟨(supL B S M c.data.toList).toArray⟩ := by
  obtain ⟨p1, p2, p3⟩ := geom_puts h
  have hr : rowL 2 [B, S] = putL B 2 ++ putL S 2 := by
    have he : rowE 2 [B, S] = 0 := rowE_ok 2 [B, S] (fun i hi => by
      have : i = 0 ∨ i = 1 := by simp at hi; omega
      rcases this with rfl | rfl
      · exact p1
      · exact p2)
    unfold rowL
    rw [if_pos he]
    simp [rowB]
  have e : (⟨#[99, 108, 114, 116]⟩ : ByteArray) = ⟨clrt.toArray⟩ := rfl
  have e2 : (⟨#[0, 0, 0, 0, 0, 0, 0, 0, 0, 0, 0, 0, 0, 0, 0, 0]⟩ : ByteArray) = ⟨(List.replicate 16 (0 : UInt8)).toArray⟩ := rfl
  unfold superL
  conv => lhs; rw [ba_list c]
  rw [hr, e, e2, bytes_add, bytes_add, bytes_add, bytes_add]
  unfold supL
  simp only [List.append_assoc]
theorem putL_two {n : Int} (h : putE n 2 = 0) : putL n 2 = beL n 2 := putL_ok (W := 2) h
theorem putL_eight {n : Int} (h : putE n 8 = 0) : putL n 8 = beL n 8 := putL_ok (W := 8) h
theorem sup_fields {B S M : Int} (c : ByteArray) (h : GeomOk B S M) (hc : c.size = 32) :
    Fields ⟨(supL B S M c.data.toList).toArray⟩ ⟨clrt.toArray⟩ ⟨(List.replicate 16 (0 : UInt8)).toArray⟩ c B S M 0 := by
  obtain ⟨p1, p2, p3⟩ := geom_puts h
  obtain ⟨g1, g2, g3, g4, g5, g6, g7⟩ := h
  have l1 : (putL B 2).length = 2 := by rw [putL_two p1]; exact beL_length _ _
  have l2 : (putL S 2).length = 2 := by rw [putL_two p2]; exact beL_length _ _
  have l3 : (putL M 8).length = 8 := by rw [putL_eight p3]; exact beL_length _ _
  have l4 : c.data.toList.length = 32 := by rw [← Lib.size_eq]; exact hc
  have vB := get_beL (n := B) (W := 2) (by omega) (by omega) (by omega) p1
  have vS := get_beL (n := S) (W := 2) (by omega) (by omega) (by omega) p2
  have vM := get_beL (n := M) (W := 8) (by omega) (by omega) (by omega) p3
  rw [← putL_two p1] at vB
  rw [← putL_two p2] at vS
  rw [← putL_eight p3] at vM
  have ext : ∀ (l : List UInt8) (a b : Nat), ((⟨l.toArray⟩ : ByteArray).extract a b).data.toList = (l.drop a).take (b - a) := fun l a b => by rw [Lib.extract_data]
  have ext' : ∀ (l : List UInt8) (a b : Nat), (⟨l.toArray⟩ : ByteArray).extract a b = ⟨((l.drop a).take (b - a)).toArray⟩ := fun l a b => by
    conv => lhs; rw [ba_list ((⟨l.toArray⟩ : ByteArray).extract a b)]
    rw [ext]
  unfold supL
  generalize putL B 2 = P at *
  generalize putL S 2 = Q at *
  generalize putL M 8 = R at *
  generalize hcl : c.data.toList = C at *
  match P, l1 with
  | [x0, x1], _ =>
  match Q, l2 with
  | [y0, y1], _ =>
  match R, l3 with
  | [z0, z1, z2, z3, z4, z5, z6, z7], _ =>
  refine ⟨?_, ?_, ?_, ?_, ?_, ?_, ?_, ?_⟩
  · rw [Lib.size_eq]
    simp [clrt, l4]
  · rw [ext']; rfl
  · rw [ext']; rfl
  · rw [ext']
    have : (List.drop 32 (clrt ++ [x0, x1] ++ [y0, y1] ++ [z0, z1, z2, z3, z4, z5, z6, z7] ++ List.replicate 16 0 ++ C)) = C := rfl
    rw [this, List.take_of_length_le (by omega), ← hcl]
  · rw [ext]; exact vB.2
  · rw [ext]; exact vS.2
  · rw [ext]; exact vM.2
  · rw [ext]; exact vM.1
/-- What a text is as a first block: both readings. -/
structure Rds (s : ByteArray) (x0 x1 x2 : Int) (c : ByteArray) (b : Bool) : Prop where
  prog : ∀ w, Calls Try.prog 8 #[.string s] w fun e w' => e = .returned (.tuple #[.agg #[.int .i64 x0, .int .i64 x1, .int .i64 x2], .string c, .int .i64 (if b then 0 else 6)]) ∧ Below w.heap.size w w'
  ref : ∀ w, Calls Try.prog 9 #[.string s] w fun e w' => e = .returned (.tuple #[.agg #[.int .i64 x0, .int .i64 x1, .int .i64 x2], .string c, .bool b]) ∧ Below w.heap.size w w'
theorem rds_any (s : ByteArray) (hm : s.size ≤ 140737488351232) : ∃ x0 x1 x2 c b, Rds s x0 x1 x2 c b := by
  by_cases h64 : s.size = 64
  · have F : Fields s (s.extract 0 4) (s.extract 16 32) (s.extract 32 64) (getV (s.extract 4 6).data.toList) (getV (s.extract 6 8).data.toList) (getV (s.extract 8 16).data.toList) (getE (s.extract 8 16).data.toList) := ⟨h64, rfl, rfl, rfl, rfl, rfl, rfl, rfl⟩
    generalize s.extract 0 4 = hd at F
    generalize s.extract 16 32 = tz at F
    generalize s.extract 32 64 = tc at F
    generalize getV (s.extract 4 6).data.toList = B at F
    generalize getV (s.extract 6 8).data.toList = S at F
    generalize getV (s.extract 8 16).data.toList = M at F
    generalize getE (s.extract 8 16).data.toList = E at F
    obtain ⟨c1, h1⟩ : ∃ c1, (hd.toList == [99, 108, 114, 116]) = c1 := ⟨_, rfl⟩
    obtain ⟨c2, h2⟩ : ∃ c2, (tz.toList == [0, 0, 0, 0, 0, 0, 0, 0, 0, 0, 0, 0, 0, 0, 0, 0]) = c2 := ⟨_, rfl⟩
    by_cases hok : c1 = true ∧ c2 = true ∧ E = 0 ∧ GeomOk B S M
    · obtain ⟨k1, k2, k3, k4⟩ := hok
      subst k3
      exact ⟨B, S, M, tc, true, fun w => (read_E0 s hd tz tc B S M w F c1 c2 h1 h2).1 ⟨k1, k2, k4⟩, fun w => (r09read_64 s hd tz tc B S M 0 w F c1 c2 h1 h2).1 ⟨k1, k2, rfl, k4⟩⟩
    · refine ⟨0, 0, 0, ⟨#[]⟩, false, fun w => ?_, fun w => (r09read_64 s hd tz tc B S M E w F c1 c2 h1 h2).2 hok⟩
      by_cases hE : E = 0
      · subst hE
        exact (read_E0 s hd tz tc B S M w F c1 c2 h1 h2).2 (fun ⟨a, b, c⟩ => hok ⟨a, b, rfl, c⟩)
      · exact read_noE s hd tz tc B S M E w F hE
  · exact ⟨0, 0, 0, ⟨#[]⟩, false, fun w => read_short s w h64 hm, fun w => r09read_short s w h64 hm⟩
theorem rds_sup {B S M : Int} (c : ByteArray) (h : GeomOk B S M) (hc : c.size = 32) (w : World) :
    Calls Try.prog 8 #[.string ⟨(supL B S M c.data.toList).toArray⟩] w fun e w' => e = .returned (.tuple #[.agg #[.int .i64 B, .int .i64 S, .int .i64 M], .string c, .int .i64 0]) ∧ Below w.heap.size w w' :=
  (read_E0 _ _ _ _ B S M w (sup_fields c h hc) true true (by decide +kernel) (by decide +kernel)).1 ⟨rfl, rfl, h⟩
end Go.Proofs.Ytdibdkjohfaebaa
