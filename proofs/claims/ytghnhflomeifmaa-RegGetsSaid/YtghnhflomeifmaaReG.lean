/- Contracts (cellaret): reg.read, its parts. -/
import Derived.Test.YtghnhflomeifmaaReE
import Derived.Test.YtghnhflomeifmaaCpy
import Derived.Laws.CopyRow
namespace Go.Proofs.Ytghnhflomeifmaa
open Go.RowKit Go.Deep
set_option linter.unusedVariables false
set_option linter.unusedSimpArgs false
def by_ (s : ByteArray) (j : Nat) : UInt8 := s.data.toList[j]?.getD 0
def num (s : ByteArray) (j n : Nat) : Int := getV (s.extract j (j + n)).data.toList
def R0 : Rg := ⟨fun _ => 0, fun _ => 0, 0, 0, 0, 0, 0, 0, 0, 0, false⟩
def zlit : Array Value := #[.int .u8 0, .int .u8 0, .int .u8 0, .int .u8 0, .int .u8 0, .int .u8 0, .int .u8 0, .int .u8 0, .int .u8 0, .int .u8 0, .int .u8 0, .int .u8 0, .int .u8 0, .int .u8 0, .int .u8 0, .int .u8 0, .int .u8 0, .int .u8 0, .int .u8 0, .int .u8 0, .int .u8 0, .int .u8 0, .int .u8 0, .int .u8 0, .int .u8 0, .int .u8 0, .int .u8 0, .int .u8 0, .int .u8 0, .int .u8 0, .int .u8 0, .int .u8 0, .int .u8 0, .int .u8 0, .int .u8 0, .int .u8 0, .int .u8 0, .int .u8 0, .int .u8 0, .int .u8 0, .int .u8 0, .int .u8 0, .int .u8 0, .int .u8 0, .int .u8 0, .int .u8 0, .int .u8 0, .int .u8 0, .int .u8 0, .int .u8 0, .int .u8 0, .int .u8 0, .int .u8 0, .int .u8 0, .int .u8 0, .int .u8 0, .int .u8 0, .int .u8 0, .int .u8 0, .int .u8 0, .int .u8 0, .int .u8 0, .int .u8 0, .int .u8 0, .int .i64 0, .int .i64 0, .int .i64 0, .int .i64 0, .int .i64 0, .int .i64 0, .int .i64 0, .int .i64 0, .bool false]
theorem zlit_eq : zlit = rcells R0 := by kernel_rfl
theorem box_zero (w : World) : ∃ w0, Hid (w.alloc (.cells #[.int .u8 0, .int .u8 0, .int .u8 0, .int .u8 0, .int .u8 0, .int .u8 0, .int .u8 0, .int .u8 0, .int .u8 0, .int .u8 0, .int .u8 0, .int .u8 0, .int .u8 0, .int .u8 0, .int .u8 0, .int .u8 0, .int .u8 0, .int .u8 0, .int .u8 0, .int .u8 0, .int .u8 0, .int .u8 0, .int .u8 0, .int .u8 0, .int .u8 0, .int .u8 0, .int .u8 0, .int .u8 0, .int .u8 0, .int .u8 0, .int .u8 0, .int .u8 0, .int .u8 0, .int .u8 0, .int .u8 0, .int .u8 0, .int .u8 0, .int .u8 0, .int .u8 0, .int .u8 0, .int .u8 0, .int .u8 0, .int .u8 0, .int .u8 0, .int .u8 0, .int .u8 0, .int .u8 0, .int .u8 0, .int .u8 0, .int .u8 0, .int .u8 0, .int .u8 0, .int .u8 0, .int .u8 0, .int .u8 0, .int .u8 0, .int .u8 0, .int .u8 0, .int .u8 0, .int .u8 0, .int .u8 0, .int .u8 0, .int .u8 0, .int .u8 0, .int .i64 0, .int .i64 0, .int .i64 0, .int .i64 0, .int .i64 0, .int .i64 0, .int .i64 0, .int .i64 0, .bool false] 27) = w0) ∧ RegAt w0 w.heap.size R0 ∧ Below w.heap.size w w0 :=
  ⟨_, Lib.hid rfl, (heap_alloc_new _ _).trans (by rw [← zlit_eq]; rfl), (Below.refl _ _).alloc (Nat.le_refl _) _⟩
theorem rcells_ext (R' : Rg) (cs : Array Value) (hs : cs.size = 73) (h : ∀ j, j < 73 → cs[j]? = some (rcell R' j)) : cs = rcells R' := by
  apply Array.ext_getElem?
  intro j
  by_cases hj : j < 73
  · rw [h j hj]; simp [rcells, hj]
  · rw [Array.getElem?_eq_none (by omega), Array.getElem?_eq_none (by rw [rcells_size]; omega)]
theorem RegAt.upd {w : World} {g : Nat} {R : Rg} (h : RegAt w g R) (k : Nat) (R' : Rg) (v : Value) (he : ∀ j, j < 73 → rcell R' j = if j = k then v else rcell R j) : RegAt (w.setCell ⟨g, k, none⟩ v) g R' := by
  have h2 := heap_setCell_same w g k _ _ v h
  unfold RegAt
  rw [h2, rcells_ext R' ((rcells R).setIfInBounds k v) (by simp [rcells_size]) (fun j hj => ?_)]
  rw [he j hj, Array.getElem?_setIfInBounds]
  by_cases hk : k = j
  · rw [if_pos hk, if_pos hk.symm, if_pos (by rw [rcells_size]; omega)]
  · rw [if_neg hk, if_neg (fun e => hk e.symm)]; simp [rcells, hj]
theorem reg_copied (R R' : Rg) (off : Nat) (s : ByteArray) (hs : off + s.size ≤ 73) (he : ∀ j, j < 73 → rcell R' j = if off ≤ j ∧ j < off + s.size then .int .u8 ((s.data.toList[j - off]?.getD 0).toNat : Int) else rcell R j) :
    ((rcells R).toList.take off ++ byteCells s ++ (rcells R).toList.drop (off + s.size)).toArray = rcells R' := by
  have hl : (rcells R).toList.length = 73 := by rw [Array.length_toList, rcells_size]
  have hlen : (byteCells s).length = s.size := byteCells_length s
  have hg : ∀ j, j < 73 → (rcells R).toList[j]? = some (rcell R j) := fun j hj => by simp [rcells, hj]
  refine rcells_ext R' _ (by rw [List.size_toArray, List.length_append, List.length_append, List.length_take, List.length_drop, hl, hlen]; omega) (fun j hj => ?_)
  rw [he j hj, List.getElem?_toArray]
  by_cases h1 : j < off
  · rw [if_neg (by omega), List.append_assoc, List.getElem?_append_left (by rw [List.length_take, hl]; omega), List.getElem?_take, if_pos h1, hg j hj]
  · by_cases h2 : j < off + s.size
    · rw [if_pos ⟨by omega, h2⟩, List.append_assoc, List.getElem?_append_right (by rw [List.length_take, hl]; omega), List.length_take, hl, Nat.min_eq_left (by omega), List.getElem?_append_left (by omega)]
      unfold byteCells
      have h3 : j - off < s.data.toList.length := by rw [← Lib.size_eq]; omega
      rw [List.getElem?_map, List.getElem?_eq_getElem h3]
      rfl
    · rw [if_neg (by omega), List.getElem?_append_right (by rw [List.length_append, List.length_take, hl, hlen]; omega), List.length_append, List.length_take, hl, hlen, Nat.min_eq_left (by omega), List.getElem?_drop, show off + s.size + (j - (off + s.size)) = j from by omega, hg j hj]
theorem wpList_copy_mid {P : Program} {w : World} {ops : Array Oper} {rest : List Oper} {o : Oper} {a : Act} {Q : Exit → Act → World → Prop} (hgd : o.guard = none) (d x : Operand) (dT sT : TypeId)
    (ho : o.op = .call { callee := .builtin .copy, args := #[d, x], argTypes := #[dT, sT] }) (elem t : TypeId) (hu : P.underlying dT = some (.slice elem)) (hsz : (P.info? elem).map (·.size) = some 1)
    (g off dLen dCap : Nat) (cur : Array Value) (s : ByteArray) (hd : a.eval d = .slice (some ⟨g, off, none⟩) dLen dCap) (hx : a.eval x = .string s) (hg : w.heap[g]? = some (.cells cur t (0, 0))) (hn : s.size ≤ dLen) (hfit : off + s.size ≤ cur.size)
    (new : Array Value) (he : (cur.toList.take off ++ byteCells s ++ cur.toList.drop (off + s.size)).toArray = new) (h : ∀ w', w'.heap[g]? = some (.cells new t (0, 0)) → w.grownBy w' (some g) → wpList P ops Q rest (a.put o.dst (goInt s.size)) w') : wpList P ops Q (o :: rest) a w := by
  subst he
  have h1 : ∀ v ∈ byteCells s, v.oneCell' = true := fun u hu => by
    obtain ⟨_, _, rfl⟩ := List.mem_map.1 hu
    rfl
  have hst := run_storeCells_at P g off t (byteCells s) 0 cur w hg (by rw [byteCells_length]; omega) h1
  have hfc := firstCells_string (P := P) s w
  rw [byteCells_length] at hst
  simp only [Nat.add_zero] at hst
  have hmin : Nat.min s.size dLen = s.size := Nat.min_eq_left hn
  have hrun : (Builtin.copy_ #[dT, sT] o.type #[.slice (some ⟨g, off, none⟩) dLen dCap, .string s]).run P w = .ok (goInt s.size) (w.setRow g (cur.toList.take off ++ byteCells s ++ cur.toList.drop (off + s.size)).toArray) := by
    cases hq : P.info? elem with
    | none => simp [hq] at hsz
    | some i =>
      have hi : i.size = 1 := by simpa [hq] using hsz
      simp only [List.append_assoc] at hst
      simp [Builtin.copy_, run_underlying hu, Builtin.lenOf, sizeOf, typeInfo, hq, hi, hmin, hfc, hst]
  refine wpList_plain hgd fun K hK => ?_
  unfold Oper.wp
  simp only [execOp, ho, resolve, invoke, builtin, Sem.run_bind, Sem.run_pure, Result.andThen_ok, List.map_toArray, List.map_cons, List.map_nil, hd, hx, hrun]
  exact hK _ _ (h _ (setRow_heap w g cur _ t _ hg) ⟨rfl, rfl, rfl, by simp [World.setRow], fun k _ hk => setRow_other w g k _ (fun e => hk (by rw [e]))⟩)
theorem numk (n k : Nat) (b : Nat) (w : World) (s : ByteArray) (h : Rd w b s k) (h96 : s.size = 96) (h1 : 1 ≤ n) (h8 : n ≤ 8) (hk : k + n ≤ 96) :
    Calls Try.prog 24 #[.pointer (some ⟨b, 0, none⟩), .int .i64 (n : Int)] w fun e w' => e = .returned (.tuple #[.int .i64 (num s k n), .int .i64 (getE (s.extract k (k + n)).data.toList)]) ∧ Rd w' b s (numAt k n (getE (s.extract k (k + n)).data.toList)) ∧ w.grownBy w' (some b) := by
  have := num_ok (n : Int) b w s k h (by omega) (by omega) (by omega) (by omega)
  rw [Int.toNat_natCast, show ((k : Int) + (n : Int)).toNat = k + n from by omega] at this
  exact this
theorem ext_len (s : ByteArray) (k n : Nat) (h : k + n ≤ s.size) : (s.extract k (k + n)).data.toList.length = n := by
  rw [← Lib.size_eq, ByteArray.size_extract]; omega
theorem getE_few (s : ByteArray) (k n : Nat) (h : k + n ≤ s.size) (h1 : 1 ≤ n) (h8 : n < 8) : getE (s.extract k (k + n)).data.toList = 0 := by
  have hl := ext_len s k n h
  unfold getE
  rw [if_neg (by omega), if_neg (by omega), if_neg (by omega)]
theorem num1 (k b : Nat) (w : World) (s : ByteArray) (h : Rd w b s k) (h96 : s.size = 96) (hk : k < 96) :
    Calls Try.prog 24 #[.pointer (some ⟨b, 0, none⟩), .int .i64 1] w fun e w' => e = .returned (.tuple #[.int .i64 (num s k 1), .int .i64 0]) ∧ Rd w' b s ((k + 1 : Nat) : Int) ∧ w.grownBy w' (some b) := by
  have := numk 1 k b w s h h96 (by omega) (by omega) (by omega)
  rw [getE_few s k 1 (by omega) (by omega) (by omega), numAt_ok] at this
  exact this
theorem num4 (b : Nat) (w : World) (s : ByteArray) (h : Rd w b s 64) (h96 : s.size = 96) :
    Calls Try.prog 24 #[.pointer (some ⟨b, 0, none⟩), .int .i64 4] w fun e w' => e = .returned (.tuple #[.int .i64 (num s 64 4), .int .i64 0]) ∧ Rd w' b s 68 ∧ w.grownBy w' (some b) := by
  have := numk 4 64 b w s h h96 (by omega) (by omega) (by omega)
  rw [getE_few s 64 4 (by omega) (by omega) (by omega), numAt_ok] at this
  exact this
def pos (s : ByteArray) : Nat := if getE (s.extract 68 76).data.toList = 0 then 76 else 68
theorem num8 (b : Nat) (w : World) (s : ByteArray) (h : Rd w b s 68) (h96 : s.size = 96) :
    Calls Try.prog 24 #[.pointer (some ⟨b, 0, none⟩), .int .i64 8] w fun e w' => e = .returned (.tuple #[.int .i64 (num s 68 8), .int .i64 (getE (s.extract 68 76).data.toList)]) ∧ Rd w' b s (pos s : Nat) ∧ w.grownBy w' (some b) := by
  have := numk 8 68 b w s h h96 (by omega) (by omega) (by omega)
  have e : numAt (68 : Nat) (8 : Nat) (getE (s.extract 68 (68 + 8)).data.toList) = ((pos s : Nat) : Int) := by
    unfold numAt pos
    rw [show 68 + 8 = 76 from rfl]
    split <;> rfl
  rw [e] at this
  exact this
def RA (s : ByteArray) (i : Nat) : Rg := ⟨fun j => if 0 < i then by_ s j else 0, fun j => if 1 < i then by_ s (32 + j) else 0, 0, 0, 0, 0, 0, 0, 0, 0, false⟩
def RB (s : ByteArray) (p i : Nat) : Rg := ⟨fun j => by_ s j, fun j => by_ s (32 + j), num s 64 4, num s 68 8, if 0 < i then num s p 1 else 0, if 1 < i then num s (p + 2) 1 else 0, if 0 < i then num s (p + 1) 1 else 0, if 1 < i then num s (p + 3) 1 else 0, 0, 0, false⟩
/-- What read reads. -/
def RD (s : ByteArray) : Rg := ⟨fun j => by_ s j, fun j => by_ s (32 + j), num s 64 4, num s 68 8, num s (pos s) 1, num s (pos s + 2) 1, num s (pos s + 1) 1, num s (pos s + 3) 1, num s (pos s + 4) 1, num s (pos s + 5) 1, num s (pos s + 6) 1 == 1⟩
theorem by_ext (s : ByteArray) (o n j : Nat) (h : o + n ≤ s.size) (hj : j < n) : (s.extract o (o + n)).data.toList[j]?.getD 0 = by_ s (o + j) := by
  unfold by_
  have : (s.extract o (o + n)).data.toList = (s.data.toList.drop o).take n := by simp [ByteArray.data_extract]
  rw [this, List.getElem?_take, if_pos hj, List.getElem?_drop]
theorem RA_step0 (s : ByteArray) (h : s.size = 96) : ((rcells (RA s 0)).toList.take 0 ++ byteCells (s.extract 0 32) ++ (rcells (RA s 0)).toList.drop (0 + (s.extract 0 32).size)).toArray = rcells (RA s 1) := by
  have hz : (s.extract 0 32).size = 32 := by rw [ByteArray.size_extract]; omega
  refine reg_copied _ _ 0 _ (by omega) (fun j hj => ?_)
  rw [hz]
  by_cases h1 : j < 32
  · rw [if_pos ⟨by omega, by omega⟩, Nat.sub_zero, by_ext s 0 32 j (by omega) h1, Nat.zero_add]
    simp [rcell, RA, h1]
  · rw [if_neg (by omega)]
    simp only [rcell, if_neg h1]
    rfl
theorem RA_step1 (s : ByteArray) (h : s.size = 96) : ((rcells (RA s 1)).toList.take 32 ++ byteCells (s.extract 32 64) ++ (rcells (RA s 1)).toList.drop (32 + (s.extract 32 64).size)).toArray = rcells (RA s 2) := by
  have hz : (s.extract 32 64).size = 32 := by rw [ByteArray.size_extract]; omega
  refine reg_copied _ _ 32 _ (by omega) (fun j hj => ?_)
  rw [hz]
  by_cases h1 : j < 32
  · rw [if_neg (by omega)]
    simp [rcell, RA, h1]
  · by_cases h2 : j < 64
    · rw [if_pos ⟨by omega, by omega⟩, by_ext s 32 32 (j - 32) (by omega) (by omega)]
      simp [rcell, RA, h1, h2]
    · rw [if_neg (by omega)]
      simp only [rcell, if_neg h1, if_neg h2]
      rfl
end Go.Proofs.Ytghnhflomeifmaa
