/- Package dev (cellaret): Crash of any loss. -/
import Derived.Test.YtjmginkkjkbpoaaRiB
namespace Go.Proofs.Ytjmginkkjkbpoaa
open Go.RowKit Go.Deep
set_option linter.unusedVariables false
set_option linter.unusedSimpArgs false
/-- What a loss keeps does not lie at that block. -/
def LsOff (L : LsV) (r : Nat) : Prop := ∀ kb ko, L.ao = some ⟨kb, ko, none⟩ → L.kl ≠ 0 → kb ≠ r
theorem LsAt.kp {w w' : World} {L : LsV} {r : Nat} (h : LsAt w L) (hL : LsOff L r) (k : Kp r w w') : LsAt w' L := by
  rcases h with h | ⟨kb, ko, h1, h2, h3, h4⟩
  · exact Or.inl h
  · by_cases h0 : L.kl = 0
    · exact Or.inl h0
    · exact Or.inr ⟨kb, ko, h1, Nat.lt_of_lt_of_le h2 k.below.size, h3, fun j hj => k.cell (hL kb ko h1 h0) (h4 j hj)⟩
theorem LsAt.bel {w w' : World} {L : LsV} (h : LsAt w L) (hb : Below w.heap.size w w') : LsAt w' L :=
  h.below (B := w.heap.size) (fun kb ko he h0 => by
    rcases h with h | ⟨kb', ko', h1, h2, _⟩
    · exact absurd h h0
    · rw [h1] at he; injection he with he; injection he with e1; subst e1; exact h2) hb
set_option maxRecDepth 100000 in
set_option maxHeartbeats 2000000 in
theorem crash1_gen (g rb n i x : Nat) (bs : Nat → Bk) (L : LsV) (w : World) (hD : DvAt w g rb n bs) (hi : i < n) (hn : n ≤ 512) (hL : LsAt w L) (hs1 : (bs i).now.size = 64) (hs2 : (bs i).safe.size = 64) (hx : w.heap[x]? = some (.cells L.cells 32 (0, 0))) : Calls Try.prog 61 #[.int .i64 (i : Int), .pointer (some ⟨rb, i * 3, none⟩), .pointer (some ⟨x, 0, none⟩)] w fun e w' => e = .returned (.tuple #[]) ∧ DvAt w' g rb n (upB bs i ⟨lfT L i (bs i), lfT L i (bs i), false⟩) ∧ Kp rb w w' := by
  have CL := Lib.hid (left_any g rb n i bs L w hD hi hn hL hs1 hs2)
  have CS := Lib.hid (fun w hD => settle_any g rb n i bs (lfT L i (bs i)) w hD hi)
  have x0 := cell_of_row _ _ 0 _ _ _ hx
  have x1 := cell_of_row _ _ 1 _ _ _ hx
  have x2 := cell_of_row _ _ 2 _ _ _ hx
  have hlt := World.rowIs.lt hD.row
  have HD := Lib.hid hD
  clear hD hx hL hs1 hs2
  generalize lfT L i (bs i) = s at *
  unfold LsV.cells at x0 x1 x2 CL
  go_enter Try.func61, Try.ntmps61
  go_wp2_with fail
  refine (CL.out).mono ?_
  rintro e w1 ⟨rfl, b1⟩
  have HD1 := Lib.hid (HD.out.below b1)
  have HK1 := Lib.hid (Kp.of_below b1 hlt)
  clear b1 HD CL
  go_wp2_with fail
  refine (CS.out _ HD1.out).mono ?_
  rintro e w2 ⟨rfl, d2, k2⟩
  have HD2 := Lib.hid d2
  have HK2 := Lib.hid (HK1.out.trans k2)
  clear d2 k2 HK1 HD1
  go_wp2_with fail
  go_end0
  exact ⟨rfl, HD2.out, HK2.out⟩
/-- All texts of the first n blocks are of 64 bytes. -/
def TxB (n : Nat) (bs : Nat → Bk) : Prop := ∀ i, i < n → (bs i).now.size = 64 ∧ (bs i).safe.size = 64
set_option maxRecDepth 100000 in
set_option maxHeartbeats 2000000 in
theorem crash_any (g rb n : Nat) (bs : Nat → Bk) (L : LsV) (w : World) (hD : DvAt w g rb n bs) (hn : n ≤ 512) (hT : TxB n bs) (hL : LsAt w L) (hO : LsOff L rb) : Calls Try.prog 41 #[.pointer (some ⟨g, 0, none⟩), .agg L.cells] w fun e w' => e = .returned (.int .i64 0) ∧ DvAt w' g rb n (stB bs (fun i => lfT L i (bs i)) n) ∧ Kp rb w w' := by
  have hrl := World.rowIs.lt hD.row
  obtain ⟨w0, HW0, HX0, B0⟩ : ∃ w0, Hid (w.alloc (.cells L.cells 32) = w0) ∧ Hid (w0.heap[w.heap.size]? = some (.cells L.cells 32 (0, 0))) ∧ Hid (Below w.heap.size w w0) := ⟨_, Lib.hid rfl, Lib.hid (heap_alloc_new _ _), Lib.hid ((Below.refl _ _).alloc (Nat.le_refl _) _)⟩
  have HD0 := Lib.hid (hD.below B0.out)
  have HL0 := Lib.hid (hL.bel B0.out)
  have HK0 := Lib.hid (Kp.of_below B0.out hrl)
  have hxr : w.heap.size ≠ rb := Nat.ne_of_gt hrl
  have hrl0 := World.rowIs.lt HD0.out.row
  have hlx0 : w.heap.size < w0.heap.size := (Array.getElem?_eq_some_iff.1 HX0.out).1
  have HT := Lib.hid hT
  clear hD B0 hL hT
  unfold LsV.cells
  unfold LsV.cells at HW0
  go_enter Try.func41, Try.ntmps41
  go_upto_region 1 with fail
  rw [HW0.out]
  clear HW0
  generalize hx : w.heap.size = x at *
  clear hx
  go_wp2_with fail
  refine (walker_any g _).mono ?_
  rintro e w1 ⟨rfl, hp, b1⟩
  have HD1 : Hid (DvAt w1 g rb n (stB bs (fun i => lfT L i (bs i)) 0)) := Lib.hid (by rw [stB_zero]; exact HD0.out.below b1)
  have HP1 := Lib.hid hp
  have HX1 := Lib.hid ((b1.block x hlx0).trans HX0.out)
  have HL1 := Lib.hid (HL0.out.bel b1)
  have HK1 := Lib.hid (HK0.out.trans (Kp.of_below b1 hrl0))
  have hpr : w0.heap.size ≠ rb := Nat.ne_of_gt hrl0
  clear hp b1 HD0 HK0 HX0 HL0
  generalize w0.heap.size = p at *
  have CW := Lib.hid (walk1 g rb n p 61 (.pointer (some ⟨x, 0, none⟩)) (fun k => stB bs (fun i => lfT L i (bs i)) k) (fun _ w' => Kp rb w w' ∧ w'.heap[x]? = some (.cells L.cells 32 (0, 0)) ∧ LsAt w' L) w1 hn HD1 HP1 (Lib.hid ⟨HK1.out, HX1.out, HL1.out⟩) crash1_enter
    (Lib.hid (fun i hi hw w' hD' hp' hJ' => by
      have hw' : (bs i).wr = true := by rw [stB_at] at hw; exact hw
      have hs := HT.out i hi
      rw [← stB_at bs (fun i => lfT L i (bs i)) i] at hs
      exact (crash1_gen g rb n i x _ L w' hD' hi hn hJ'.2.2 hs.1 hs.2 hJ'.2.1).mono (fun e w'' h => ⟨h.1, by
        rw [stB_step bs _ i hw']
        have := h.2.1
        rw [stB_at] at this
        exact this, h.2.2.cell hpr hp', hJ'.1.trans h.2.2, h.2.2.row hxr hJ'.2.1, hJ'.2.2.kp hO h.2.2⟩)))
    (Lib.hid (fun i hi hw => ⟨stB_skip bs _ i (by rw [stB_at] at hw; exact hw), fun w' h => h⟩)))
  go_wp2_with fail
  refine (CW.out).mono ?_
  rintro e w2 ⟨rfl, d2, k2, -⟩
  have HD2 := Lib.hid d2
  have HK2 := Lib.hid k2
  clear d2 k2 CW
  go_wp2_with fail
  go_ret
  exact ⟨rfl, HD2.out, HK2.out⟩
theorem TxB.put {n : Nat} {bs : Nat → Bk} (h : TxB n bs) (i : Nat) (b : Bk) (h1 : b.now.size = 64) (h2 : b.safe.size = 64) : TxB n (upB bs i b) := fun k hk => by
  unfold upB
  split
  · exact ⟨h1, h2⟩
  · exact h k hk
theorem TxB.st {n : Nat} {bs : Nat → Bk} (h : TxB n bs) (t : Nat → ByteArray) (m : Nat) (ht : ∀ i, i < n → (t i).size = 64) : TxB n (stB bs t m) := fun k hk => by
  unfold stB
  split
  · exact ⟨ht k hk, ht k hk⟩
  · exact h k hk
theorem TxB.tmp {n : Nat} {bs : Nat → Bk} (h : TxB n bs) (i : Int) (s : ByteArray) : TxB n (tmpB n bs i s) := by
  unfold tmpB
  split
  · rename_i h0
    have hs : s.size = 64 := by
      unfold txE at h0
      split at h0
      · cases h0
      · split at h0
        · assumption
        · cases h0
    exact h.put _ _ hs hs
  · exact h
theorem TxB.wrt {n : Nat} {bs : Nat → Bk} (h : TxB n bs) (i : Int) (s : ByteArray) : TxB n (wrtB n bs i s) := by
  unfold wrtB
  split
  · rename_i h0
    have hs : s.size = 64 ∧ i.toNat < n := by
      unfold txE at h0
      split at h0
      · cases h0
      · split at h0
        · rename_i h1 h2; exact ⟨h2, by omega⟩
        · cases h0
    exact h.put _ _ hs.1 (h _ hs.2).2
  · exact h
theorem TxB.crash {n : Nat} {bs : Nat → Bk} (h : TxB n bs) (L : LsV) (m : Nat) : TxB n (stB bs (fun i => lfT L i (bs i)) m) :=
  h.st _ _ (fun i hi => lfT_size L i _ (h i hi).1 (h i hi).2)
theorem TxB.flush {n : Nat} {bs : Nat → Bk} (h : TxB n bs) (m : Nat) : TxB n (stB bs (fun i => (bs i).now) m) :=
  h.st _ _ (fun i hi => (h i hi).1)
theorem TxB.of (s : ByteArray) (n : Nat) (hs : s.size = 64 * n) : TxB n (ofB s n) := fun i hi => by
  unfold ofB
  rw [if_pos hi]
  have : (s.extract (i * 64) ((i + 1) * 64)).size = 64 := by rw [ByteArray.size_extract]; omega
  exact ⟨this, this⟩
end Go.Proofs.Ytjmginkkjkbpoaa
