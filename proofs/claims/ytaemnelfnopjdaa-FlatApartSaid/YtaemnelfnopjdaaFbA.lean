/- FlatOne, plainly. -/
import Derived.Test.YtaemnelfnopjdaaFaZ
import Derived.Test.YtaemnelfnopjdaaFaJ
namespace Go.Proofs.Ytaemnelfnopjdaa
open Go.RowKit Go.Deep Go.Maps
set_option linter.unusedVariables false
set_option linter.unusedSimpArgs false
/-- One chain, and the text of its last state. -/
structure R1 (K : Nat) (M : Fl) (f : List Nat) (now : List UInt8) : Prop where
  ok : FlOk M
  n : M.n = K
  F : M.F = [f]
  now : now = stx M (foldC M.C f)
theorem R1.mem {K : Nat} {M : Fl} {f : List Nat} {now : List UInt8} (h : R1 K M f now) : f ∈ M.F := by rw [h.F]; simp
theorem R1.len {K : Nat} {M : Fl} {f : List Nat} {now : List UInt8} (h : R1 K M f now) : now.length = 48 * K := by
  rw [h.now]
  unfold stx
  rw [tx_len h.ok.t48 (valid_take (foldC_valid h.ok h.mem) _), List.length_take, foldC_64 h.ok h.mem, h.n]
  have := h.ok.n64
  rw [h.n] at this
  omega
theorem R1.start {K : Nat} (h1 : 1 ≤ K) (h2 : K ≤ 64) : R1 K (newM K) zst (List.replicate (48 * K) 0) :=
  ⟨newM_ok h1 h2, rfl, rfl, by
    show _ = tx [z48] (zst.take K)
    unfold zst
    rw [List.take_replicate, Nat.min_eq_left (by omega)]
    have : ∀ k, List.replicate (48 * k) (0 : UInt8) = tx [z48] (List.replicate k 0) := fun k => by
      induction k with
      | zero => rfl
      | succ k ih =>
        rw [List.replicate_succ, show 48 * (k + 1) = 48 + 48 * k by omega, ← List.replicate_append_replicate, ih]
        rfl
    exact this K⟩
theorem tx_zeros {M : Fl} (h : FlOk M) (k : Nat) : tx M.T (List.replicate k 0) = List.replicate (48 * k) 0 := by
  have hz := h.tz
  cases hq : M.T with
  | nil => rw [hq] at hz; cases hz
  | cons x r =>
    rw [hq] at hz
    have hx : x = z48 := by simpa using hz
    subst hx
    induction k with
    | zero => rfl
    | succ k ih =>
      rw [List.replicate_succ, show 48 * (k + 1) = 48 + 48 * k by omega, ← List.replicate_append_replicate, ← ih]
      rfl
theorem R1.wr {K : Nat} {M : Fl} {f : List Nat} {now : List UInt8} (h : R1 K M f now) {a k : Nat} {l : List UInt8} (hl : l.length = 48 * k) (hk : 1 ≤ k) (hak : a + k ≤ K) : R1 K (wrM M a l k) f (now.take (48 * a) ++ (l ++ now.drop (48 * a + 48 * k))) := by
  obtain ⟨w, ht⟩ := wr_all h.ok.nd h.ok.t48 hl
  obtain ⟨X, hX⟩ := w.ext
  have hbl : (wrL M.T (pcs l k)).2.length = k := by rw [w.len, pcs_len]
  refine ⟨wrM_ok h.ok hl hk (by rw [h.n]; exact hak), h.n, h.F, ?_⟩
  have hv := foldC_valid h.ok h.mem
  have h64 := foldC_64 h.ok h.mem
  have hn64 := h.ok.n64
  show _ = tx (wrL M.T (pcs l k)).1 ((foldC (M.C ++ [(a, (wrL M.T (pcs l k)).2)]) f).take M.n)
  rw [foldC_app, tx_spl w.a48 (by rw [hX]; exact valid_ext hv) w.val (by rw [hbl, h.n]; exact hak) (by rw [h64]; exact hn64), ht, hbl]
  have e : tx (wrL M.T (pcs l k)).1 ((foldC M.C f).take M.n) = now := by
    rw [hX, tx_ext (valid_take hv _), h.now]; rfl
  rw [e]
theorem R1.disc {K : Nat} {M : Fl} {f : List Nat} {now : List UInt8} (h : R1 K M f now) {a k : Nat} (hk : 1 ≤ k) (hak : a + k ≤ K) : R1 K { M with C := M.C ++ [(a, List.replicate k 0)] } f (now.take (48 * a) ++ (List.replicate (48 * k) 0 ++ now.drop (48 * a + 48 * k))) := by
  have hok := disc_ok h.ok (a := a) hk (by rw [h.n]; exact hak)
  refine ⟨hok, h.n, h.F, ?_⟩
  have hv := foldC_valid h.ok h.mem
  have h64 := foldC_64 h.ok h.mem
  have hn64 := h.ok.n64
  have hz : valid M.T (List.replicate k 0) := fun x hx => hok.ce (a, List.replicate k 0) (by simp) x hx
  show _ = tx M.T ((foldC (M.C ++ [(a, List.replicate k 0)]) f).take M.n)
  rw [foldC_app, tx_spl h.ok.t48 hv hz (by rw [List.length_replicate, h.n]; exact hak) (by rw [h64]; exact hn64), tx_zeros h.ok, List.length_replicate]
  have e : tx M.T ((foldC M.C f).take M.n) = now := by rw [h.now]; rfl
  rw [e]
theorem R1.saw {K : Nat} {M : Fl} {f : List Nat} {now : List UInt8} (h : R1 K M f now) (a : Int) (s : ByteArray) : R1 K (sawM M a s) f now := by
  have hok := sawM_ok h.ok a s
  unfold sawM at hok ⊢
  by_cases hb : sawB M a s = true
  · rw [if_pos hb] at hok ⊢
    refine ⟨hok, h.n, ?_, h.now⟩
    have hne := hok.ne
    show sawL M a.toNat _ = [f]
    have hne : sawL M a.toNat (numL M.T (pcs s.data.toList (wholeN s.size))) ≠ [] := hne
    unfold sawL at hne ⊢
    rw [h.F] at hne ⊢
    by_cases hl : likeB (foldC M.C f) a.toNat (numL M.T (pcs s.data.toList (wholeN s.size))) = true
    · simp [hl]
    · simp [hl] at hne
  · rw [if_neg hb]; exact h
theorem R1.safe {K : Nat} {M : Fl} {f : List Nat} {now : List UInt8} (h : R1 K M f now) : R1 K { M with F := M.F.map (foldC M.C), C := [] } (foldC M.C f) now :=
  ⟨safe_ok h.ok, h.n, by show M.F.map _ = _; rw [h.F]; rfl, h.now⟩
theorem R1.read {K : Nat} {M : Fl} {f : List Nat} {now : List UInt8} (h : R1 K M f now) : readR M 0 (K : Int) = .tuple #[.string ⟨now.toArray⟩, .int .i64 0] := by
  have hn1 := h.ok.n1
  have hn64 := h.ok.n64
  rw [h.n] at hn1 hn64
  have hr : refF M.n 0 (K : Int) = 0 := by
    unfold refF
    rw [h.n, if_neg (by omega), if_neg (by omega)]
  have hb : readBl M 0 K = (foldC M.C f).take K := by unfold readBl; rw [h.F]; rfl
  have hlen : ((foldC M.C f).take K).length = K := by rw [List.length_take, foldC_64 h.ok h.mem]; omega
  have hok : readOk M 0 K = true := by
    unfold readOk
    rw [h.F, hb]
    simp only [List.all_cons, List.all_nil, Bool.and_true]
    unfold likeB
    rw [List.drop_zero, hlen, beq_iff_eq]
  have ht : readT M 0 K = now := by
    unfold readT
    rw [hb, h.now, ← h.n]; rfl
  unfold readR
  rw [hr, if_neg (by simp), show ((0 : Int)).toNat = 0 from rfl, show ((K : Int)).toNat = K by omega, hok, if_pos rfl, ht]
theorem wrM_len (M : Fl) (a : Nat) (l : List UInt8) (k : Nat) : (wrM M a l k).T.length ≤ M.T.length + k ∧ (wrM M a l k).C.length = M.C.length + 1 := by
  refine ⟨(wrL_len M.T l k).2, ?_⟩
  show (M.C ++ [_]).length = _
  rw [List.length_append]; rfl
theorem sawM_len (M : Fl) (a : Int) (s : ByteArray) : (sawM M a s).T = M.T ∧ (sawM M a s).C = M.C := by
  unfold sawM
  split <;> exact ⟨rfl, rfl⟩
end Go.Proofs.Ytaemnelfnopjdaa
