/- 'copy(b, s)': a string's bytes into a row that the call itself made. -/
import Derived.Test.YthhgodfgigcacaaApp
import Derived.Test.YthhgodfgigcacaaLib
import Derived.Laws.CopyOwn
import Derived.Lib.Strings
namespace Go.Proofs.Ythhgodfgigcacaa
open Go.RowKit Go.Deep
section
variable {P : Program} (w : World)
theorem run_copy_str (dT sT ty elem t : TypeId) (g dLen dCap : Nat) (cur : Array Value) (s : ByteArray) (hu : P.underlying dT = some (.slice elem)) (hs : (P.info? elem).map (·.size) = some 1)
    (hg : w.heap[g]? = some (.cells cur t (0, 0))) (hn : s.size ≤ dLen) (hfit : s.size ≤ cur.size) :
    (Builtin.copy_ #[dT, sT] ty #[.slice (some ⟨g, 0, none⟩) dLen dCap, .string s]).run P w = .ok (goInt s.size) (w.setRow g (byteCells s ++ cur.toList.drop s.size).toArray) := by
  have h1 : ∀ v ∈ byteCells s, v.oneCell' = true := fun u hu => by
    obtain ⟨_, _, rfl⟩ := List.mem_map.1 hu
    rfl
  have hst := run_storeCells_at P g 0 t (byteCells s) 0 cur w hg (by rw [byteCells_length]; omega) h1
  have hfc := firstCells_string (P := P) s w
  rw [byteCells_length] at hst
  simp only [Nat.zero_add, List.take_zero, List.nil_append] at hst
  have hmin : Nat.min s.size dLen = s.size := Nat.min_eq_left hn
  cases hq : P.info? elem with
  | none => simp [hq] at hs
  | some i =>
    have hi : i.size = 1 := by simpa [hq] using hs
    simp [Builtin.copy_, run_underlying hu, Builtin.lenOf, sizeOf, typeInfo, hq, hi, hmin, hfc, hst]

theorem wpList_copy_str {ops : Array Oper} {rest : List Oper} {o : Oper} {a : Act} {Q : Exit → Act → World → Prop} (hgd : o.guard = none) (d x : Operand) (dT sT : TypeId)
    (ho : o.op = .call { callee := .builtin .copy, args := #[d, x], argTypes := #[dT, sT] }) (elem t : TypeId) (hu : P.underlying dT = some (.slice elem)) (hsz : (P.info? elem).map (·.size) = some 1)
    (g dLen dCap n : Nat) (s : ByteArray) (f : Nat → Value) (hd : a.eval d = .slice (some ⟨g, 0, none⟩) dLen dCap) (hx : a.eval x = .string s) (hr : w.rowIs g t n f) (hn : s.size ≤ dLen) (hfit : s.size ≤ n)
    (h : ∀ w', w'.rowIs g t n (fun j => if j < s.size then .int .u8 ((s.data.toList[j]?.getD 0).toNat : Int) else f j) → w.grownBy w' (some g) → wpList P ops Q rest (a.put o.dst (goInt s.size)) w') : wpList P ops Q (o :: rest) a w := by
  obtain ⟨cur, hg, hc, hf⟩ := hr
  refine wpList_plain hgd fun K hK => ?_
  have hrun := run_copy_str (P := P) w dT sT o.type elem t g dLen dCap cur s hu hsz hg hn (by omega)
  unfold Oper.wp
  simp only [execOp, ho, resolve, invoke, builtin, Sem.run_bind, Sem.run_pure, Result.andThen_ok, List.map_toArray, List.map_cons, List.map_nil, hd, hx, hrun]
  refine hK _ _ (h _ ⟨_, setRow_heap w g cur _ t _ hg, ?_, ?_⟩ ⟨rfl, rfl, rfl, by simp [World.setRow], fun k _ hk => setRow_other w g k _ (fun e => hk (by rw [e]))⟩)
  · rw [List.size_toArray, List.length_append, List.length_drop, byteCells_length, Array.length_toList]; omega
  · intro i hi
    have hlen : (byteCells s).length = s.size := byteCells_length s
    rw [List.getElem?_toArray]
    show _ = some (if i < s.size then .int .u8 ((s.data.toList[i]?.getD 0).toNat : Int) else f i)
    by_cases hlt : i < s.size
    · rw [if_pos hlt, List.getElem?_append_left (by omega)]
      unfold byteCells
      have h2 : i < s.data.toList.length := by rw [← Lib.size_eq]; exact hlt
      rw [List.getElem?_map, List.getElem?_eq_getElem h2]
      rfl
    · rw [if_neg hlt, List.getElem?_append_right (by omega), hlen, List.getElem?_drop, show s.size + (i - s.size) = i from by omega]
      have := hf i hi
      simpa using this
end
end Go.Proofs.Ythhgodfgigcacaa
