/- Plain lemmas: a register's bytes, read again. -/
import Derived.Test.YtghnhflomeifmaaReG
import Derived.Test.YtghnhflomeifmaaReF
namespace Go.Proofs.Ytghnhflomeifmaa
open Go.RowKit Go.Deep
set_option linter.unusedVariables false
set_option linter.unusedSimpArgs false
theorem beL_snoc (n : Int) (W : Nat) : beL n (W + 1) = beL (n / 256) W ++ [byteU n 0] := by
  unfold beL
  rw [List.range_succ, List.map_append]
  congr 1
  · apply List.map_congr_left
    intro j hj
    simp at hj
    rw [show W + 1 - 1 - j = (W - 1 - j) + 1 from by omega]
    unfold byteU
    rw [← div_step, Int.ediv_ediv_of_nonneg (Int.pow_nonneg (by omega)), Int.mul_comm, ← Int.ediv_ediv_of_nonneg (by omega)]
  · simp
theorem beL_beV : ∀ (n : Nat) (l : List UInt8), l.length = n → beL (beV l) n = l
  | 0, l, h => by rw [List.length_eq_zero_iff.1 h]; rfl
  | n + 1, l, h => by
    have hne : l ≠ [] := by intro e; rw [e] at h; simp at h
    obtain ⟨r, b, rfl⟩ : ∃ r b, l = r ++ [b] := ⟨l.dropLast, l.getLast hne, (List.dropLast_concat_getLast hne).symm⟩
    have hr : r.length = n := by simpa using h
    have hb := b.toNat_lt
    rw [beL_snoc, beV_snoc, show (beV r * 256 + (b.toNat : Int)) / 256 = beV r from by omega, beL_beV n r hr]
    congr 2
    rw [← UInt8.toNat_inj]
    have := byteU_val (beV r * 256 + (b.toNat : Int)) 0
    simp at this
    omega
theorem putL_in (n : Int) (W : Nat) (h1 : 1 ≤ W) (h8 : W ≤ 8) (h0 : 0 ≤ n) (hn : n < 2 ^ (8 * W)) : putL n W = beL n W := by
  have := (put_of_ok (n := n) (W := W) ⟨by omega, by omega⟩ (by
    rintro (h | ⟨_, h⟩)
    · omega
    · exact h (by rw [Int.toNat_natCast]; exact Int.ediv_eq_zero_of_lt h0 hn))).2
  rw [Int.toNat_natCast] at this
  exact this
def ocl (R : Rg) : List UInt8 := (restI R).map fun n => byteU n 0
def lyl (R : Rg) : List UInt8 := digL R.d0 ++ (digL R.d1 ++ (beL R.ep 4 ++ (beL R.iv 8 ++ (ocl R ++ List.replicate 12 0))))
theorem ocl_len (R : Rg) : (ocl R).length = 8 := by simp [ocl, restI]
theorem lyl_len (R : Rg) : (lyl R).length = 96 := by simp [lyl, digL_len, beL_length, ocl_len]
theorem lay_eq (R : Rg) (h : Rt R) : layS R = ⟨(lyl R).toArray⟩ := by
  have ke := h.1 0 (by omega)
  have ki := h.1 1 (by omega)
  simp [okF, fld, mst] at ke ki
  have e1 := putL_in R.ep 4 (by omega) (by omega) (by omega) (by simp; omega)
  have e2 := putL_in R.iv 8 (by omega) (by omega) (by omega) (by simp; omega)
  obtain ⟨r1, r2⟩ := rowL1 _ (restI_bd R h)
  have e3 : rowL 1 (restI R) = ocl R := by unfold rowL; rw [if_pos r1, r2]; rfl
  unfold layS s0 s1 zz12
  rw [show putL R.ep 4 = beL R.ep 4 from e1, show putL R.iv 8 = beL R.iv 8 from e2, e3]
  simp only [bytes_add, List.append_assoc]
  rfl
theorem mid_take (l a b c : List UInt8) (k n : Nat) (h : l = a ++ (b ++ c)) (ha : a.length = k) (hb : b.length = n) : (l.drop k).take n = b := by
  subst h ha hb; simp
theorem ext_list (s : ByteArray) (k n : Nat) : (s.extract k (k + n)).data.toList = (s.data.toList.drop k).take n := by simp [ByteArray.data_extract]
theorem num_list (s : ByteArray) (k n : Nat) : num s k n = getV ((s.data.toList.drop k).take n) := by unfold num; rw [ext_list]
theorem getV_one (b : UInt8) : getV [b] = (b.toNat : Int) := by simp [getV, getE, beV]
theorem num_one (s : ByteArray) (k : Nat) (h : k < s.size) : num s k 1 = ((by_ s k).toNat : Int) := by
  have h' : k < s.data.toList.length := by rw [← Lib.size_eq]; exact h
  rw [num_list]
  have : (s.data.toList.drop k).take 1 = [by_ s k] := by
    unfold by_
    rw [List.getElem?_eq_getElem h', List.drop_eq_getElem_cons h']
    rfl
  rw [this, getV_one]
theorem by_mid (s : ByteArray) (a b c : List UInt8) (k j : Nat) (h : s.data.toList = a ++ (b ++ c)) (ha : a.length = k) (hj : j < b.length) : by_ s (k + j) = b[j] := by
  unfold by_
  rw [h, List.getElem?_append_right (by omega), List.getElem?_append_left (by omega), List.getElem?_eq_getElem (by omega)]
  simp [ha]
/-- Two registers of the same fields. -/
structure Alk (A B : Rg) : Prop where
  d0 : ∀ j, j < 32 → A.d0 j = B.d0 j
  d1 : ∀ j, j < 32 → A.d1 j = B.d1 j
  ep : A.ep = B.ep
  iv : A.iv = B.iv
  a0 : A.a0 = B.a0
  a1 : A.a1 = B.a1
  u0 : A.u0 = B.u0
  u1 : A.u1 = B.u1
  di : A.di = B.di
  mo : A.mo = B.mo
  at_ : A.at_ = B.at_
theorem digL_congr {f g : Nat → UInt8} (h : ∀ j, j < 32 → f j = g j) : digL f = digL g := by
  unfold digL
  exact List.map_congr_left fun j hj => h j (by simpa using hj)
theorem Alk.symm {A B : Rg} (h : Alk A B) : Alk B A := ⟨fun j hj => (h.d0 j hj).symm, fun j hj => (h.d1 j hj).symm, h.ep.symm, h.iv.symm, h.a0.symm, h.a1.symm, h.u0.symm, h.u1.symm, h.di.symm, h.mo.symm, h.at_.symm⟩
theorem Alk.lay {A B : Rg} (h : Alk A B) : layS A = layS B := by
  unfold layS s0 s1 restI attI
  rw [digL_congr h.d0, digL_congr h.d1, h.ep, h.iv, h.a0, h.a1, h.u0, h.u1, h.di, h.mo, h.at_]
theorem Alk.rt {A B : Rg} (h : Alk A B) (hA : Rt A) : Rt B := by
  have hz : z1 A = z1 B := by unfold z1; rw [digL_congr h.d1]
  have hn : nf A = nf B := by unfold nf; rw [h.di, h.a1, h.u1, hz]
  refine ⟨fun i hi => ?_, ?_, ?_⟩
  · have := hA.1 i hi
    unfold okF fld at this ⊢
    rwa [h.ep, h.iv, h.a0, h.a1, h.u0, h.u1, h.di, h.mo] at this
  · rw [← h.at_, ← hn]; exact hA.2.1
  · rw [← h.mo, ← h.di]; exact hA.2.2
theorem Alk.cells {A B : Rg} (h : Alk A B) : rcells A = rcells B := by
  unfold rcells
  congr 1
  apply List.map_congr_left
  intro j hj
  unfold rcell
  by_cases q0 : j < 32
  · simp only [if_pos q0]; rw [h.d0 j q0]
  · by_cases q1 : j < 64
    · simp only [if_neg q0, if_pos q1]; rw [h.d1 (j - 32) (by omega)]
    · simp only [if_neg q0, if_neg q1]
      rw [h.ep, h.iv, h.a0, h.a1, h.u0, h.u1, h.di, h.mo, h.at_]
section
variable {s : ByteArray} {R : Rg}
theorem back_g0 (hl : s.data.toList = lyl R) (j : Nat) (hj : j < 32) : by_ s j = R.d0 j := by
  have := by_mid s [] (digL R.d0) (digL R.d1 ++ (beL R.ep 4 ++ (beL R.iv 8 ++ (ocl R ++ List.replicate 12 0)))) 0 j (by rw [hl]; rfl) rfl (by rw [digL_len]; exact hj)
  rw [Nat.zero_add] at this
  rw [this]; simp [digL]
theorem back_g1 (hl : s.data.toList = lyl R) (j : Nat) (hj : j < 32) : by_ s (32 + j) = R.d1 j := by
  have := by_mid s (digL R.d0) (digL R.d1) (beL R.ep 4 ++ (beL R.iv 8 ++ (ocl R ++ List.replicate 12 0))) 32 j (by rw [hl]; rfl) (digL_len _) (by rw [digL_len]; exact hj)
  rw [this]; simp [digL]
theorem back_g2 (hl : s.data.toList = lyl R) : (s.data.toList.drop 64).take 4 = beL R.ep 4 :=
  mid_take _ (digL R.d0 ++ digL R.d1) _ (beL R.iv 8 ++ (ocl R ++ List.replicate 12 0)) 64 4 (by rw [hl]; simp [lyl]) (by simp [digL_len]) (beL_length _ _)
theorem back_g3 (hl : s.data.toList = lyl R) : (s.data.toList.drop 68).take 8 = beL R.iv 8 :=
  mid_take _ (digL R.d0 ++ digL R.d1 ++ beL R.ep 4) _ (ocl R ++ List.replicate 12 0) 68 8 (by rw [hl]; simp [lyl]) (by simp [digL_len, beL_length]) (beL_length _ _)
theorem restI_len (R : Rg) : (restI R).length = 8 := by simp [restI]
theorem back_g4 (hl : s.data.toList = lyl R) (hb : ∀ n ∈ restI R, 0 ≤ n ∧ n ≤ 255) (j : Nat) (hj : j < 8) : ((by_ s (76 + j)).toNat : Int) = (restI R)[j]'(by rw [restI_len]; exact hj) := by
  rw [by_mid s (digL R.d0 ++ digL R.d1 ++ beL R.ep 4 ++ beL R.iv 8) (ocl R) (List.replicate 12 0) 76 j (by rw [hl]; simp [lyl]) (by simp [digL_len, beL_length]) (by rw [ocl_len]; exact hj)]
  simp only [ocl, List.getElem_map]
  have := hb ((restI R)[j]'(by rw [restI_len]; exact hj)) (List.getElem_mem _)
  exact u8_of _ this.1 this.2
theorem iv_getE (n : Int) (h0 : 0 ≤ n) (h1 : n ≤ 1099511627776) : getE (beL n 8) = 0 := by
  unfold getE
  rw [beL_length, if_neg (by omega), if_neg (by omega), if_neg]
  rintro ⟨_, h1⟩
  rw [beL_succ] at h1
  have h2 := byteU_val n 7
  rw [Int.ediv_eq_zero_of_lt (by omega) (by simp; omega)] at h2
  have h3 : (byteU n 7).toNat = 0 := by omega
  have h4 : ((byteU n 7 :: beL n 7)[0]?.getD 0) = byteU n 7 := rfl
  rw [h4, h3] at h1
  omega
theorem back_pos (hl : s.data.toList = lyl R) (ge : getE (beL R.iv 8) = 0) : pos s = 76 := by
  unfold pos
  rw [show (76 : Nat) = 68 + 8 from rfl, ext_list, back_g3 hl, if_pos ge]
theorem back_ep (hl : s.data.toList = lyl R) (h0 : 0 ≤ R.ep) (h1 : R.ep ≤ 4294967295) : num s 64 4 = R.ep := by
  rw [num_list, back_g2 hl]
  unfold getV
  have : getE (beL R.ep 4) = 0 := by unfold getE; rw [beL_length]; simp
  rw [if_pos this, beV_beL]
  exact Int.emod_eq_of_lt (by omega) (by simp; omega)
theorem back_iv (hl : s.data.toList = lyl R) (h0 : 0 ≤ R.iv) (h1 : R.iv ≤ 1099511627776) : num s 68 8 = R.iv := by
  rw [num_list, back_g3 hl]
  unfold getV
  rw [if_pos (iv_getE _ h0 h1), beV_beL]
  exact Int.emod_eq_of_lt (by omega) (by simp; omega)
theorem back_n1 (hl : s.data.toList = lyl R) (hb : ∀ n ∈ restI R, 0 ≤ n ∧ n ≤ 255) (j : Nat) (hj : j < 8) : num s (76 + j) 1 = (restI R)[j]'(by rw [restI_len]; exact hj) := by
  have hz : s.size = 96 := by rw [Lib.size_eq, hl, lyl_len]
  rw [num_one s _ (by omega), back_g4 hl hb j hj]
theorem att_one (R : Rg) : (attI R == 1) = R.at_ := by unfold attI; cases R.at_ <;> rfl
attribute [local irreducible] num by_ pos beL
theorem back_mk (s : ByteArray) (R : Rg) (p : Nat) (hp : pos s = p) (d0 : ∀ j, j < 32 → by_ s j = R.d0 j) (d1 : ∀ j, j < 32 → by_ s (32 + j) = R.d1 j) (ep : num s 64 4 = R.ep) (iv : num s 68 8 = R.iv)
    (a0 : num s p 1 = R.a0) (u0 : num s (p + 1) 1 = R.u0) (a1 : num s (p + 2) 1 = R.a1) (u1 : num s (p + 3) 1 = R.u1) (di : num s (p + 4) 1 = R.di) (mo : num s (p + 5) 1 = R.mo) (at_ : (num s (p + 6) 1 == 1) = R.at_) : Alk (RD s) R := by
  subst hp
  exact ⟨d0, d1, ep, iv, a0, a1, u0, u1, di, mo, at_⟩
theorem back_alk0 (hl : s.data.toList = lyl R) (ke : 0 ≤ R.ep ∧ R.ep ≤ 4294967295) (ki : 0 ≤ R.iv ∧ R.iv ≤ 1099511627776) (hb : ∀ n ∈ restI R, 0 ≤ n ∧ n ≤ 255) : Alk (RD s) R := by
  have n1 := back_n1 hl hb
  have e6 := n1 6 (by omega)
  have e7 : (num s (76 + 6) 1 == 1) = R.at_ := by rw [e6]; exact att_one R
  exact back_mk s R 76 (back_pos hl (iv_getE _ ki.1 ki.2)) (back_g0 hl) (back_g1 hl) (back_ep hl ke.1 ke.2) (back_iv hl ki.1 ki.2) (n1 0 (by omega)) (n1 1 (by omega)) (n1 2 (by omega)) (n1 3 (by omega)) (n1 4 (by omega)) (n1 5 (by omega)) e7
/-- What is read of what was laid is what was laid. -/
theorem back_alk (R : Rg) (h : Rt R) : Alk (RD (layS R)) R := by
  have ke := h.1 0 (by omega)
  have ki := h.1 1 (by omega)
  simp [okF, fld, mst] at ke ki
  rw [lay_eq R h]
  exact back_alk0 rfl ke ki (restI_bd R h)
end
theorem lay_size (R : Rg) (h : Rt R) : (layS R).size = 96 := by rw [lay_eq R h, bytes_size, lyl_len]
theorem lay_mark (R : Rg) (h : Rt R) : by_ (layS R) 83 = 103 := by
  rw [lay_eq R h]
  have := by_mid ⟨(lyl R).toArray⟩ (digL R.d0 ++ digL R.d1 ++ beL R.ep 4 ++ beL R.iv 8) (ocl R) (List.replicate 12 0) 76 7 (by simp [lyl]) (by simp [digL_len, beL_length]) (by rw [ocl_len]; omega)
  rw [show (76 + 7 : Nat) = 83 from rfl] at this
  rw [this]
  simp only [ocl, restI, List.getElem_map]
  rfl
theorem lay_back (R : Rg) (h : Rt R) : Rt (RD (layS R)) ∧ layS (RD (layS R)) = layS R ∧ rcells (RD (layS R)) = rcells R :=
  ⟨(back_alk R h).symm.rt h, (back_alk R h).lay, (back_alk R h).cells⟩
end Go.Proofs.Ytghnhflomeifmaa
