/- Halves of a block; a digest as a text (layers 14, 17). -/
import Derived.Test.YtaneecmfgfkaaaaDoorSpZ
namespace Go.Proofs.YtaneecmfgfkaaaaDoor
open Go.RowKit Go.Deep
set_option linter.unusedVariables false
set_option linter.unusedSimpArgs false
/-- Bytes as a text. -/
def sB (d : List UInt8) : ByteArray := ⟨d.toArray⟩
theorem sB_size (d : List UInt8) : (sB d).size = d.length := bytes_size d
theorem sB_list (d : List UInt8) : (sB d).data.toList = d := by simp [sB]
theorem sB_app (a b : List UInt8) : sB a ++ sB b = sB (a ++ b) := bytes_add a b
theorem sB_of (s : ByteArray) : s = sB s.data.toList := by unfold sB; exact (Lib.mk_data s).symm
theorem digA_size (d : List UInt8) : (digA d).size = d.length := by unfold digA bv; simp
theorem digA_one (d : List UInt8) : (digA d).all (·.oneCell') = true := by
  unfold digA bv
  simp only [List.all_toArray, List.all_eq_true, List.mem_map]
  rintro u ⟨i, _, rfl⟩
  rfl
theorem conv_dig {w : World} {g : Nat} {d : List UInt8} {T : TypeId} {cap : Nat} (h : w.heap[g]? = some (.cells (digA d) T (0, 0))) (hd : d.length = 32) : (convert 65 9 (.slice (some ⟨g, 0, none⟩) 32 cap)).run Tryd.prog w = .ok (.string (sB d)) w := by
  have := run_convert_bytes_back (P := Tryd.prog) w 65 9 5 ⟨g, 0, none⟩ cap d Tryd.underlying65 Tryd.underlying5 Tryd.underlying9 (fun j hj => by
    rw [Addr.add_mid, Nat.zero_add, cell_of_row w g j _ _ _ h]
    unfold digA bv
    rw [List.getElem?_toArray, List.getElem?_map, List.getElem?_eq_getElem hj]
    rfl)
  rw [hd] at this
  exact this
/-- A block's two halves. -/
structure Halves (s p q : ByteArray) : Prop where
  hs : s.size = 64
  hp : p.size = 32
  hq : q.size = 32
  e0 : s.extract 0 32 = p
  e1 : s.extract 32 64 = q
  z0 : s.extract 0 0 = ⟨#[]⟩
  z1 : s.extract 64 64 = ⟨#[]⟩
theorem ext_ba (s : ByteArray) (a b : Nat) : s.extract a b = sB ((s.data.toList.drop a).take (b - a)) := by
  rw [sB_of (s.extract a b), Lib.extract_data]
theorem halves (s : ByteArray) (h : s.size = 64) : Halves s (sB (s.data.toList.take 32)) (sB (s.data.toList.drop 32)) := by
  have hl : s.data.toList.length = 64 := by rw [← Lib.size_eq]; exact h
  refine ⟨h, by rw [sB_size]; simp [hl], by rw [sB_size]; simp [hl], ?_, ?_, ?_, ?_⟩
  · rw [ext_ba]; simp
  · rw [ext_ba, List.take_of_length_le (by simp [hl])]
  · rw [ext_ba]; simp [sB]
  · rw [ext_ba]; simp [sB]
theorem halves_app (a b : List UInt8) (ha : a.length = 32) (hb : b.length = 32) : Halves (sB (a ++ b)) (sB a) (sB b) := by
  have h := halves (sB (a ++ b)) (by rw [sB_size]; simp [ha, hb])
  rw [sB_list, List.take_left' ha, List.drop_left' ha] at h
  exact h
theorem at_dig (w : World) (a : Addr) (c : Nat) : (Instr.arrayAt 34 (.slice (some a) 32 c)).run Tryd.prog w = .ok (.pointer (some a)) w := by
  simp [Instr.arrayAt, run_underlying Tryd.underlying34]

theorem results_ct {P : Program} {fn : Func} {p u : Tmp} {ty : TypeId} (h : fn.results = #[.cell p ty, .tmp u]) (tmps : Array Value) (w : World) (g : Nat) (t : TypeId) (cs : Array Value) (fr : Nat × Nat) (d : TypeDesc)
    (hp : tmps.getD p undef = .pointer (some ⟨g, 0, none⟩)) (hg : w.heap[g]? = some (.cells cs t fr))
    (hu : P.underlying ty = some d) (hd : (match d with | .struct _ | .array _ _ => true | _ => false) = true) (hi : (P.info? ty).map (·.size) = some cs.size) :
    (results fn tmps).run P w = .ok (.tuple #[.agg cs, tmps.getD u undef]) w := by
  have hp' : tmps[p]?.getD undef = .pointer (some ⟨g, 0, none⟩) := by simpa using hp
  rw [results_cell_tmp h]
  simp [hp', asAddr, run_loadVar_row w g t ty cs fr d hg hu hd hi, Result.andThen]
theorem build_z32 : ∀ w, (Instr.build 34 #[]).run Tryd.prog w = .ok (.agg z32) w := fun w => by kernel_rfl
end Go.Proofs.YtaneecmfgfkaaaaDoor
