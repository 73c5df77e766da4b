/- The law OracleKeeps (made by genok.py). -/
import Derived.Test.YtaneecmfgfkaaaaDoorOkE
namespace Go.Proofs.YtaneecmfgfkaaaaDoor
open Go.RowKit Go.Deep Go.Maps Go.ChangeShapes Go.WideShapes
set_option linter.unusedVariables false
set_option linter.unusedSimpArgs false
theorem wpList_load_arr_gK {P : Program} {ops : Array Oper} {rest : List Oper} {o : Oper} {a : Act} {w : World} {Q : Exit → Act → World → Prop} (hw : Region.wanted o (yielded ops a.tmps) = true) (ty : TypeId) (x : Operand) (ho : o.op = .load ty x)
    (g : Nat) (hx : a.eval x = .pointer (some ⟨g, 0, none⟩)) (t : TypeId) (cs : Array Value) (fr : Nat × Nat) (d : TypeDesc) (hg : w.heap[g]? = some (.cells cs t fr))
    (hu : P.underlying ty = some d) (hd : (match d with | .struct _ | .array _ _ => true | _ => false) = true) (hi : (P.info? ty).map (·.size) = some cs.size)
    (h : wpList P ops Q rest (a.put o.dst (.agg cs)) w) : wpList P ops Q (o :: rest) a w := by
  unfold wpList
  rw [if_pos hw]
  exact .inl (wp_load_row ty x ho g hx t cs fr d hg hu hd hi h)
def LoadedK (P : Program) (ty : TypeId) (w : World) (g : Nat) (cs : Array Value) : Prop := ∃ t fr n e, w.heap[g]? = some (.cells cs t fr) ∧ P.underlying ty = some (.array n e) ∧ (P.info? ty).map (·.size) = some cs.size
theorem wpList_load_arr_iK {P : Program} {ops : Array Oper} {rest : List Oper} {o : Oper} {a : Act} {w : World} {Q : Exit → Act → World → Prop} {g : Nat} {cs : Array Value} (ty : TypeId) (x : Operand) (ho : o.op = .load ty x)
    (h2 : Region.wanted o (yielded ops a.tmps) = true ∧ a.eval x = .pointer (some ⟨g, 0, none⟩)) (hL : LoadedK P ty w g cs)
    (h : wpList P ops Q rest (a.put o.dst (.agg cs)) w) : wpList P ops Q (o :: rest) a w := by
  obtain ⟨t, fr, n, e, hg, hu, hi⟩ := hL
  exact wpList_load_arr_gK h2.1 ty x ho g h2.2 t cs fr (.array n e) hg hu rfl hi h
theorem loadedK_z {w : World} {g : Nat} (h : w.heap[g]? = some (.cells z32 34 (0, 0))) : LoadedK Tryd.prog 34 w g z32 := ⟨_, _, _, _, h, Tryd.underlying34, by kernel_rfl⟩
theorem zeroAct : ∀ w, (zeroValue 27).run Tryd.prog w = .ok (.agg #[.string ⟨#[]⟩, .bool false]) w := fun w => by kernel_rfl
theorem stored_act (w : World) (s : ByteArray) (b : Bool) : ∃ w3, Hid (w.alloc (.cells #[.string s, .bool b] 27) = w3) ∧ (w3.cell? ⟨w.heap.size, 0, none⟩ = some (.string s) ∧ w3.cell? ⟨w.heap.size, 1, none⟩ = some (.bool b)) ∧ Below w.heap.size w w3 ∧ w3.heap.size = w.heap.size + 1 := by
  have h := heap_alloc_new w (.cells #[.string s, .bool b] 27)
  exact ⟨_, Lib.hid rfl, ⟨cell_of_row _ _ 0 _ _ _ h, cell_of_row _ _ 1 _ _ _ h⟩, (Below.refl _ _).alloc (Nat.le_refl _) _, by simp⟩
structure KpI (base : Nat) (w : World) (og : Addr) (i : Nat) (v : Value) (wi : World) (Xi : Option OrS) (m : List ByteArray) : Prop where
  hx : OrX base wi (some og) Xi
  so : ∃ S, Xi = some S ∧ S.l = m.map (·.data.toList)
  ow : wi.ownsRow base 9 1 v m.length (m.map Value.string)
  fv : FreeV Xi v
  bel : Below base w wi
  ml : m.length ≤ i
  sz : ∀ s ∈ m, s.size ≤ 300
section
variable {base : Nat} {w wi w' : World} {og : Addr} {i : Nat} {v : Value} {Xi X' : Option OrS} {m : List ByteArray}
theorem KpI.below (h : KpI base w og i v wi Xi m) (hb : Below wi.heap.size wi w') : KpI base w og i v w' Xi m :=
  ⟨h.hx.below hb, h.so, own_below' h.ow hb, h.fv, h.bel.trans (hb.mono h.hx.base), h.ml, h.sz⟩
theorem KpI.up (h : KpI base w og i v wi Xi m) : KpI base w og (i + 1) v wi Xi m := ⟨h.hx, h.so, h.ow, h.fv, h.bel, Nat.le_succ_of_le h.ml, h.sz⟩
theorem KpI.orp (h : KpI base w og i v wi Xi m) : ∃ S, Xi = some S ∧ og = ⟨S.g, 0, none⟩ ∧ S.l = m.map (·.data.toList) ∧ OrP base wi S.g S.l S.tv S.sv S.b S.D := by
  obtain ⟨S, e, hl⟩ := h.so
  obtain ⟨S', e', ea, hP⟩ := OrX.is_some h.hx
  rw [e] at e'
  cases e'
  exact ⟨S, e, ea, hl, hP⟩
end
/-- A forgotten text, the oracle as a whole. -/
theorem forget_x (base : Nat) (a : Addr) (S : OrS) (l1 l2 : List (List UInt8)) (s : ByteArray) (w : World) (hX : OrX base w (some a) (some S)) (hl : S.l = l1 ++ s.data.toList :: l2) (hs1 : s.data.toList ∉ l1) (hs : s.size ≤ maxLen) (hn : S.l.length ≤ 1000000) (hsz : ∀ x ∈ l2, x.length ≤ maxLen) :
    Calls Tryd.prog 11 #[.pointer (some a), .string s] w fun e w' => ∃ X', e = .returned (.int .i64 0) ∧ OrX base w' (some a) X' ∧ (∃ S', X' = some S' ∧ S'.l = l1 ++ l2) ∧ Below base w w' ∧ KeptX w w' (some S) X' := by
  obtain ⟨ha, hP⟩ := hX
  subst ha
  rw [hl] at hP hn
  refine (orForget_yes base S.g l1 l2 s S.tv S.sv S.b S.D w hP hs1 hs hn hsz).mono ?_
  rintro e w' ⟨tv', sv', D', rfl, P, B, K⟩
  refine ⟨some ⟨S.g, l1 ++ l2, tv', sv', S.b, D'⟩, rfl, ⟨rfl, P⟩, ⟨_, rfl, rfl⟩, B, ⟨fun k o hk hf => ?_, fun k hk hf => ?_, B.size⟩⟩
  · obtain ⟨q1, q2, q3, q4⟩ := hf S rfl
    exact K.keep k o hk q1 q2 q3 q4
  · obtain ⟨q1, q2, q3, q4⟩ := hf S rfl
    intro S2 e
    cases e
    refine ⟨q1, q2, fun e => ?_, fun e => ?_⟩
    · rcases K.ht _ e with h | h
      · exact q3 h
      · omega
    · rcases K.hs _ e with h | h
      · exact q4 h
      · omega
theorem data_inj (s t : ByteArray) (h : s.data.toList = t.data.toList) : s = t := by
  cases s; cases t
  simp only [ByteArray.mk.injEq]
  exact Array.toList_inj.1 h
theorem mem_data (m : List ByteArray) (s : ByteArray) : s.data.toList ∈ m.map (·.data.toList) ↔ s ∈ m := by
  rw [List.mem_map]
  exact ⟨fun ⟨x, hx, e⟩ => by rw [← data_inj x s e]; exact hx, fun h => ⟨s, h, rfl⟩⟩
theorem dropM_split (m1 m2 : List ByteArray) (s : ByteArray) (h1 : s ∉ m1) (h2 : s ∉ m2) : dropM (m1 ++ s :: m2) s (m1 ++ s :: m2).length = m1 ++ m2 := by
  have e : ∀ (m : List ByteArray), s ∉ m → m.filter (fun x => !(x.toList == s.toList)) = m := fun m hm => List.filter_eq_self.2 fun x hx => by rw [ba_list_ne x s (fun e => hm (by rw [← e]; exact hx))]; rfl
  unfold dropM
  rw [List.take_length, List.filter_append, List.filter_cons_of_neg (by simp), e m1 h1, e m2 h2]
theorem keep_next (m : List ByteArray) (s : ByteArray) : (keepM m s).map (·.data.toList) = orNext (m.map (·.data.toList)) s.data.toList := by
  unfold keepM orNext
  by_cases h : s ∈ m
  · rw [if_pos ((isIn_iff m s).2 h), if_pos ((mem_data m s).2 h)]
  · rw [if_neg (fun e => h ((isIn_iff m s).1 e)), if_neg (fun e => h ((mem_data m s).1 e)), List.map_append]
    rfl
/-- Behind the reference's Keep and Sum. -/
theorem KpI.keep {base : Nat} {w wi w1 w2 : World} {og : Addr} {i : Nat} {a a' : Option Addr} {c c' : Nat} {Xi X' : Option OrS} {m : List ByteArray} {s : ByteArray} (h : KpI base w og i (.slice a m.length c) wi Xi m) (hs : s.size ≤ 300)
    (hO : w1.ownsRow base 9 1 (.slice a' (keepM m s).length c') (keepM m s).length ((keepM m s).map Value.string)) (hb : Below wi.heap.size wi w1) (hv : ∀ k, (Value.slice a' (keepM m s).length c').ownBlock = some k → (Value.slice a m.length c).ownBlock = some k ∨ wi.heap.size ≤ k)
    (hX : OrX base w2 (some og) X') (hS : SumX Xi X' s.data.toList) (hB : Below base w1 w2) (hK : KeptX w1 w2 Xi X') : KpI base w og (i + 1) (.slice a' (keepM m s).length c') w2 X' (keepM m s) := by
  have f1 : FreeV Xi (.slice a' (keepM m s).length c') := freeV_app h.hx h.fv hv
  obtain ⟨S, e, hl⟩ := h.so
  obtain ⟨S', e', _, hl'⟩ := hS.2 S e
  refine ⟨hX, ⟨S', e', by rw [hl', hl, keep_next]⟩, own_kept hO hK f1, freeV_kept hO hK f1, (h.bel.trans (hb.mono h.hx.base)).trans hB, ?_, ?_⟩
  · unfold keepM
    split
    · exact Nat.le_succ_of_le h.ml
    · rw [List.length_append]; have := h.ml; simp; omega
  · intro x hx
    unfold keepM at hx
    split at hx
    · exact h.sz x hx
    · rcases List.mem_append.1 hx with q | q
      · exact h.sz x q
      · rw [List.mem_singleton.1 q]; exact hs
/-- Behind the reference's Forget and the oracle's. -/
theorem KpI.drop {base : Nat} {w wi w1 w2 : World} {og : Addr} {i : Nat} {v : Value} {a' : Option Addr} {c' : Nat} {Xi X' : Option OrS} {m m' : List ByteArray} (h : KpI base w og i v wi Xi m) (hsub : ∀ x ∈ m', x ∈ m) (hlen : m'.length ≤ m.length)
    (hO : w1.ownsRow base 9 1 (.slice a' m'.length c') m'.length (m'.map Value.string)) (hb : Below wi.heap.size wi w1) (hv : ∀ k, (Value.slice a' m'.length c').ownBlock = some k → wi.heap.size ≤ k)
    (hX : OrX base w2 (some og) X') (hS : ∃ S', X' = some S' ∧ S'.l = m'.map (·.data.toList)) (hB : Below base w1 w2) (hK : KeptX w1 w2 Xi X') : KpI base w og (i + 1) (.slice a' m'.length c') w2 X' m' := by
  have f1 : FreeV Xi (.slice a' m'.length c') := fun k e => h.hx.free k (hv k e)
  exact ⟨hX, hS, own_kept hO hK f1, freeV_kept hO hK f1, (h.bel.trans (hb.mono h.hx.base)).trans hB, Nat.le_trans hlen (Nat.le_succ_of_le h.ml), fun x hx => h.sz x (hsub x hx)⟩
attribute [local irreducible] digA sumL z32 bv keepM dropM isIn
set_option maxRecDepth 100000 in
set_option maxHeartbeats 16000000 in
theorem oracleKeeps_body (A : List (ByteArray × Bool)) (la : Option Addr) (n c : Nat) (w : World) (hG : Gl w) (hn : A.length = n) (hnm : n ≤ 9223372036854775807) (hT : ActAt w la A) :
    Calls Tryd.prog 3 #[.slice la n c] w fun e w' => e = .returned (.bool true) ∧ Below w.heap.size w w' := by
  have hgf := hG.sf
  have hgk := hG.sk
  have hz := zero_dig
  have hzA := zeroAct
  have hbz := build_z32
  have HN := Lib.hid hn
  have HT := Lib.hid hT
  have HSU : Hid (∀ s : ByteArray, s.size ≤ 300 → ∀ wc, Gl wc → Calls Tryd.prog 14 #[.string s] wc fun e w' => e = .returned (.agg (digA (sumL s.data.toList))) ∧ Below wc.heap.size wc w') := Lib.hid (fun s hs wc hg => sum_any s wc (by omega) hg)
  have HSZ : Hid (∀ s : List UInt8, (digA (sumL s)).size = 32) := Lib.hid (fun s => by with_unfolding_all exact (dig_ok' s).1)
  have HON : Hid (∀ s : List UInt8, (digA (sumL s)).all (·.oneCell') = true) := Lib.hid (fun s => by with_unfolding_all exact (dig_ok' s).2)
  have HNQ : Hid (∀ s : List UInt8, ∀ w, (binOp .neq 34 (.agg (digA (sumL s))) (.agg (digA (sumL s)))).run Tryd.prog w = .ok (.bool false) w) := Lib.hid (fun s w => neq_sameK (sumL s) (by with_unfolding_all exact sumL_len _) w)
  clear hn hT
  go_enter Tryd.func3, Tryd.ntmps3
  go_wp2_with fail
  refine (new_x w.heap.size w (Nat.le_refl _)).mono ?_
  rintro e w1 ⟨rfl, hX1, B1⟩
  obtain ⟨X0, eX0, HI0⟩ : ∃ X0, (some ⟨w.heap.size + 1, [], .slice none 0 0, .slice none 0 0, w.heap.size, .map []⟩ : Option OrS) = X0 ∧ Hid (KpI w.heap.size w ⟨w.heap.size + 1, 0, none⟩ 0 (.slice none 0 0) w1 X0 []) := ⟨_, rfl, Lib.hid ⟨hX1, ⟨_, rfl, rfl⟩, World.ownsRow_nil _ _ _ _, FreeV.nil _, B1, Nat.le_refl _, fun s hs => by cases hs⟩⟩
  clear hX1 B1 eX0
  generalize (⟨w.heap.size + 1, 0, none⟩ : Addr) = og at *
  go_wp2_with fail
  go_loopw [5, 4] (fun x v wi => ∃ (i : Nat) (Xi : Option OrS) (m : List ByteArray), x = .int .i64 (i : Int) ∧ i ≤ 40 ∧ i ≤ n ∧ Hid (KpI w.heap.size w og i v wi Xi m)) (fun x _ _ => 40 - (intOf x).toNat)
  case atStart => exact ⟨0, X0, [], rfl, by omega, by omega, HI0⟩
  clear HI0
  case round =>
    obtain ⟨i, Xi, m, rfl, h40, hin, HI⟩ := hrel
    obtain ⟨a0, c0, rfl, hc1, hc2⟩ := own_sl HI.out.ow
    by_cases hlt : i < n
    · have hli : (i : Int) < (n : Int) := by omega
      by_cases hl4 : i < 40
      · as_aux_lemma =>
        have hl40 : (i : Int) < 40 := by omega
        have hiA : i < A.length := by rw [HN.out]; exact hlt
        obtain ⟨ga, oa, rfl, hga, hta⟩ := HT.out (by omega)
        obtain ⟨hr0, hsm⟩ := hta i hiA
        have hr : wr.rangeAt ga (oa + i * 2) [.string (A[i]).1, .bool (A[i]).2] := fun j u hu => (HI.out.bel.cell (p := ⟨ga, oa + i * 2 + j, none⟩) hga).trans (hr0 j u hu)
        clear hta hr0
        obtain ⟨s, hse⟩ : ∃ s, (A[i]).1 = s := ⟨_, rfl⟩
        obtain ⟨gone, hge⟩ : ∃ b, (A[i]).2 = b := ⟨_, rfl⟩
        rw [hse, hge] at hr
        rw [hse] at hsm
        clear hse hge
        obtain ⟨w2, HW2, ⟨hc0, hc1'⟩, b2, hs2⟩ := stored_act wr s gone
        have HI2 := Lib.hid (HI.out.below b2)
        have hml := HI.out.ml
        have HX6 : FreeX Xi wr.heap.size := HI.out.hx.free _ (Nat.le_refl _)
        clear HI
        go_upto_region 7 with (first | (refine wpList_load_mid rfl 27 _ rfl ga (oa + i * 2) rfl [.string s, .bool gone] _ hr Tryd.underlying27 rfl (by kernel_rfl) ?_) | (refine wpList_store_row rfl _ _ _ rfl wr.heap.size #[.string s, .bool gone] rfl rfl 27 _ (heap_alloc_new _ _) (by kernel_rfl) rfl rfl ?_))
        rw [HW2.out]
        have hfq6 : FreeX Xi wr.heap.size := HX6
        clear HW2 hr b2 HX6
        generalize wr.heap.size = q6 at *
        by_cases hs3 : s.size ≤ 300
        · have hs30 : ¬ (300 : Int) < (s.size : Int) := by omega
          go_upto_if 33 with fail
          go_cut [4, 7, 8, 123] from 28 (fun s4 s7 s8 sz wx => ∃ (a' : Option Addr) (c' : Nat) (m' : List ByteArray) (X' : Option OrS), s4 = .slice a' m'.length c' ∧ sz = undef ∧ Hid (KpI w.heap.size w og (i + 1) (.slice a' m'.length c') wx X' m'))
          case first =>
            obtain ⟨S, eS, ea, hl, hP⟩ := HI2.out.orp
            cases gone with
            | true =>
              as_aux_lemma =>
              have HRF := Lib.hid (refForget_any w.heap.size m a0 m.length c0 s w2 HI2.out.bel.size HI2.out.ow rfl (by omega))
              cases hin2 : isIn m s m.length with
              | true =>
                rw [hin2] at HRF
                have hmem := (isIn_iff m s).1 hin2
                obtain ⟨m1, m2, em, hm1⟩ := split_mem hmem
                have hnd := hP.nd
                rw [hl, em, List.map_append, List.map_cons] at hnd
                have hm2 : s ∉ m2 := fun q => by
                  have := (List.nodup_cons.1 (List.nodup_append.1 hnd).2.1).1
                  exact this ((mem_data m2 s).2 q)
                have hdr : dropM m s m.length = m1 ++ m2 := by rw [em]; exact dropM_split m1 m2 s hm1 hm2
                rw [hdr] at HRF
                have HFG : Hid (∀ wc, Below w2.heap.size w2 wc → Calls Tryd.prog 11 #[.pointer (some og), .string s] wc fun e w' => ∃ X', e = .returned (.int .i64 0) ∧ OrX w.heap.size w' (some og) X' ∧ (∃ S', X' = some S' ∧ S'.l = (m1 ++ m2).map (·.data.toList)) ∧ Below w.heap.size wc w' ∧ KeptX wc w' Xi X') := Lib.hid (fun wc hb => by
                  have h2 := HI2.out.hx.below hb
                  rw [eS] at h2
                  have := forget_x w.heap.size og S (m1.map (·.data.toList)) (m2.map (·.data.toList)) s wc h2 (by rw [hl, em, List.map_append, List.map_cons]) (fun q => hm1 ((mem_data m1 s).1 q)) hsm (by rw [hl, List.length_map]; omega) (fun x hx => by
                    obtain ⟨y, hy, rfl⟩ := List.mem_map.1 hx
                    have := HI2.out.sz y (by rw [em]; simp [hy])
                    rw [show y.data.toList.length = y.size from rfl]
                    unfold maxLen; omega)
                  rw [← List.map_append, ← eS] at this
                  exact this)
                have HDR := Lib.hid (fun w1 w3 a' c' X' => @KpI.drop w.heap.size w w2 w1 w3 og i (.slice a0 m.length c0) a' c' Xi X' m (m1 ++ m2) HI2.out (fun x hx => by rw [em]; rcases List.mem_append.1 hx with q | q; exact List.mem_append_left _ q; exact List.mem_append_right _ (List.mem_cons_of_mem _ q)) (by rw [em, List.length_append, List.length_append, List.length_cons]; omega))
                have HBW : Hid (∀ wc, Below w2.heap.size w2 wc → wc.cell? ⟨q6, 0, none⟩ = some (.string s)) := Lib.hid (fun wc hb => (hb.cell (p := ⟨q6, 0, none⟩) (block_lt_of_cell hc0)).trans hc0)
                clear hdr hnd hm1 hm2 hmem hP hl ea eS hin2 HI2 em
                go_wp2_with fail
                refine HRF.out.mono ?_
                rintro e w3 ⟨a', c', rfl, O3, b3, hv3⟩
                have hc03 := HBW.out w3 b3
                have HF3 := Lib.hid (HFG.out w3 b3)
                have HD3 := Lib.hid (fun w4 X' => HDR.out w3 w4 a' c' X' O3 b3 hv3)
                clear O3 hv3 HFG HDR HBW HRF
                go_wp2_with fail
                refine HF3.out.mono ?_
                rintro e w4 ⟨X', rfl, q1, q2, q3, q4⟩
                have HK4 := Lib.hid (HD3.out w4 X' q1 q2 q3 q4)
                clear q1 q2 q3 q4 HD3 HF3 b3
                go_wp2_with fail
                go_meet
                exact ⟨a', c', m1 ++ m2, X', by rw [List.length_append], rfl, HK4⟩
              | false =>
                rw [hin2] at HRF
                have hnm2 : s ∉ m := fun q => by rw [(isIn_iff m s).2 q] at hin2; cases hin2
                have hdr : dropM m s m.length = m := by
                  have e : ∀ (m : List ByteArray), s ∉ m → m.filter (fun x => !(x.toList == s.toList)) = m := fun m hm => List.filter_eq_self.2 fun x hx => by rw [ba_list_ne x s (fun e => hm (by rw [← e]; exact hx))]; rfl
                  with_unfolding_all (unfold dropM)
                  rw [List.take_length]
                  exact e m hnm2
                rw [hdr] at HRF
                have HFG : Hid (∀ wc, Below w2.heap.size w2 wc → Calls Tryd.prog 11 #[.pointer (some og), .string s] wc fun e w' => e = .returned (.int .i64 7) ∧ wc = w') := Lib.hid (fun wc hb => by
                  rw [ea]
                  exact orForget_none w.heap.size S.g S.l s S.tv S.sv S.b S.D wc (hP.below hb) hsm (by rw [hl]; exact fun q => hnm2 ((mem_data m s).1 q)))
                have HDR := Lib.hid (fun w1 a' c' (hb1 : Below w2.heap.size w2 w1) h1 h3 => @KpI.drop w.heap.size w w2 w1 w1 og i (.slice a0 m.length c0) a' c' Xi Xi m m HI2.out (fun x hx => hx) (Nat.le_refl _) h1 hb1 h3 (HI2.out.hx.below hb1) ⟨S, eS, hl⟩ ((Below.refl w1.heap.size w1).mono (Nat.le_trans HI2.out.bel.size hb1.size)) (KeptX.refl _ _))
                have HBW : Hid (∀ wc, Below w2.heap.size w2 wc → wc.cell? ⟨q6, 0, none⟩ = some (.string s)) := Lib.hid (fun wc hb => (hb.cell (p := ⟨q6, 0, none⟩) (block_lt_of_cell hc0)).trans hc0)
                clear hdr hnm2 hP hl ea eS hin2 HI2
                go_wp2_with fail
                refine HRF.out.mono ?_
                rintro e w3 ⟨a', c', rfl, O3, b3, hv3⟩
                have hc03 := HBW.out w3 b3
                have HF3 := Lib.hid (HFG.out w3 b3)
                have HK4 := Lib.hid (HDR.out w3 a' c' b3 O3 hv3)
                clear O3 hv3 HFG HDR HBW HRF b3
                go_wp2_with fail
                refine HF3.out.mono ?_
                rintro e w' ⟨rfl, rfl⟩
                go_wp2_with fail
                go_meet
                exact ⟨a', c', m, Xi, rfl, rfl, HK4⟩
            | false =>
              as_aux_lemma =>
              have HRK := Lib.hid (refKeep_any w.heap.size m a0 m.length c0 s w2 HI2.out.bel.size HI2.out.ow rfl (by omega))
              have HSX : Hid (∀ wc, Below w2.heap.size w2 wc → Calls Tryd.prog 13 #[.pointer (some og), .string s] wc fun e w' => ∃ X', e = .returned (.agg (digA (sumL s.data.toList))) ∧ OrX w.heap.size w' (some og) X' ∧ SumX Xi X' s.data.toList ∧ Below w.heap.size wc w' ∧ KeptX wc w' Xi X') := Lib.hid (fun wc hb => sum_x w.heap.size (some og) Xi s wc (hG.below (HI2.out.bel.trans (hb.mono HI2.out.bel.size))) hgf hgk (HI2.out.hx.below hb) (fun S' e => by rw [eS] at e; cases e; rw [hl, List.length_map]; omega) (by omega))
              have HKP := Lib.hid (fun w1 w3 a' c' X' => @KpI.keep w.heap.size w w2 w1 w3 og i a0 a' c0 c' Xi X' m s HI2.out hs3)
              have HBW : Hid (∀ wc, Below w2.heap.size w2 wc → wc.cell? ⟨q6, 0, none⟩ = some (.string s)) := Lib.hid (fun wc hb => (hb.cell (p := ⟨q6, 0, none⟩) (block_lt_of_cell hc0)).trans hc0)
              have HFQ : FreeX Xi q6 := hfq6
              have HSS := Lib.hid (HSU.out s hs3)
              have hnq := HNQ.out s.data.toList
              have hbel := HI2.out.bel
              clear hP hl ea eS HI2 HSU HNQ HSZ HON
              generalize digA (sumL s.data.toList) = DS at *
              go_wp2_with fail
              refine HRK.out.mono ?_
              rintro e w3 ⟨a', c', rfl, O3, b3, hv3⟩
              have hc03 := HBW.out w3 b3
              have HS3 := Lib.hid (HSX.out w3.drew b3.drew)
              have HK3 := Lib.hid (fun w4 X' => HKP.out w3.drew w4 a' c' X' O3 b3.drew hv3)
              have B3 := hbel.trans (b3.mono hbel.size)
              clear O3 hv3 HSX HKP HBW HRK b3
              go_upto_region 15 with fail
              refine wp_region_lin (S := (fun w' => w'.cell? ⟨q6, 0, none⟩ = some (.string s))) [(0, true), (1, true), (2, true), (4, true), (5, true), (3, false), (6, false), (7, true)] (by kernel_rfl) (by kernel_rfl) rfl (by kernel_rfl) ?_ (fun hHeld => ?_)
              · (try dsimp only); exact hc03
              (refine wpL_calm (o := { dst := some 62, op := Go.Op.move (Go.Operand.tmp 3), type := 23, pos := "law.go:46", after := #[], guard := none }) (v := ?_) rfl (Or.inl ⟨by rfl, ?_⟩) ?_; rotate_left; (focus (intro w hSw; (try dsimp only at hSw); go_simp; (try (with_reducible rfl)); done)); try simp only [Act.put, List.setIfInBounds_toArray, List.set_cons_zero, List.set_cons_succ])
              (refine wpL_calm (o := { dst := some 63, op := Go.Op.fieldAddr 27 (Go.Operand.tmp 6) 0, type := 0, pos := "law.go:46", after := #[], guard := none }) (v := ?_) rfl (Or.inl ⟨by rfl, ?_⟩) ?_; rotate_left; (focus (intro w hSw; (try dsimp only at hSw); go_simp; (try (with_reducible rfl)); done)); try simp only [Act.put, List.setIfInBounds_toArray, List.set_cons_zero, List.set_cons_succ])
              (refine wpL_calm (o := { dst := some 64, op := Go.Op.load 9 (Go.Operand.tmp 63), type := 9, pos := "law.go:46", after := #[{ on := 1, ground := Go.Ground.data }], guard := none }) (v := ?_) rfl (Or.inl ⟨by rfl, ?_⟩) ?_; rotate_left; (focus (intro w hSw; (try dsimp only at hSw); go_simp; (try (with_reducible rfl)); done)); try simp only [Act.put, List.setIfInBounds_toArray, List.set_cons_zero, List.set_cons_succ])
              (refine wpL_calm (o := { dst := some 66, op := Go.Op.fieldAddr 27 (Go.Operand.tmp 6) 0, type := 0, pos := "law.go:46", after := #[], guard := none }) (v := ?_) rfl (Or.inl ⟨by rfl, ?_⟩) ?_; rotate_left; (focus (intro w hSw; (try dsimp only at hSw); go_simp; (try (with_reducible rfl)); done)); try simp only [Act.put, List.setIfInBounds_toArray, List.set_cons_zero, List.set_cons_succ])
              (refine wpL_calm (o := { dst := some 67, op := Go.Op.load 9 (Go.Operand.tmp 66), type := 9, pos := "law.go:46", after := #[{ on := 4, ground := Go.Ground.data }], guard := none }) (v := ?_) rfl (Or.inl ⟨by rfl, ?_⟩) ?_; rotate_left; (focus (intro w hSw; (try dsimp only at hSw); go_simp; (try (with_reducible rfl)); done)); try simp only [Act.put, List.setIfInBounds_toArray, List.set_cons_zero, List.set_cons_succ])
              refine wpL_loud1 (o := { dst := some 65, op := Go.Op.call { callee := Go.Callee.value (Go.Operand.func 13), args := #[Go.Operand.tmp 62, Go.Operand.tmp 64], argTypes := #[23, 9] }, type := 34, pos := "law.go:46", after := #[{ on := 0, ground := Go.Ground.data }, { on := 2, ground := Go.Ground.data }], guard := none }) rfl (fun K hK => ?_)
              (go_simp; go_at_call 13; refine HS3.out.mono ?_; rintro e w4 ⟨X', rfl, q1, q2, q3, q4⟩; have hc04 := q4.cell (p := ⟨q6, 0, none⟩) (show w3.drew.cell? ⟨q6, 0, none⟩ = _ from hc03) HFQ; have HK4 := Lib.hid (HK3.out w4 X' q1 q2 q3 q4); have B4 := B3.drew.trans q3; clear q1 q2 q3 q4)
              try go_wp2_with fail
              refine hK.out _ _ ?_ (fun hHeld => ?_)
              · (try dsimp only); exact hc04
              clear hK K
              try simp only [Act.put, List.setIfInBounds_toArray, List.set_cons_zero, List.set_cons_succ]
              refine wpL_loud1 (o := { dst := some 68, op := Go.Op.call { callee := Go.Callee.value (Go.Operand.func 14), args := #[Go.Operand.tmp 67], argTypes := #[9] }, type := 34, pos := "law.go:46", after := #[{ on := 5, ground := Go.Ground.data }, { on := 3, ground := Go.Ground.chain }], guard := none }) rfl (fun K hK => ?_)
              (go_simp; go_at_call 14; refine (HSS.out w4 (hG.below B4)).mono ?_; rintro e w5 ⟨rfl, b5⟩)
              try go_wp2_with fail
              refine hK.out _ _ ?_ (fun hHeld => ?_)
              · (try dsimp only); exact (b5.cell (p := ⟨q6, 0, none⟩) (block_lt_of_cell hc04)).trans hc04
              clear hK K
              try simp only [Act.put, List.setIfInBounds_toArray, List.set_cons_zero, List.set_cons_succ]
              refine wpL_calm (o := { dst := some 69, op := Go.Op.binOp Go.BinOp.neq 34 (Go.Operand.tmp 65) (Go.Operand.tmp 68) 34, type := 4, pos := "law.go:46", after := #[{ on := 3, ground := Go.Ground.data }, { on := 6, ground := Go.Ground.data }], guard := none }) (v := .bool false) rfl (Or.inl ⟨by rfl, fun w _ => neq_run_opK (vx := DS) (vy := DS) _ _ _ rfl rfl rfl hnq w⟩) ?_
              try simp only [Act.put, List.setIfInBounds_toArray, List.set_cons_zero, List.set_cons_succ]
              refine wpL_nil ?_
              refine NoPanic.normal ?_
              go_wp2_with fail
              go_meet
              exact ⟨a', c', keepM m s, X', rfl, rfl, Lib.hid (HK4.out.below b5)⟩
          case rest =>
            obtain ⟨a1, c1, m', X1, rfl, rfl, HK⟩ := hcut
            clear HI2 hc0 hc1' hc1 hc2
            obtain ⟨S, eS, ea, hl, hP⟩ := HK.out.orp
            have hml' := HK.out.ml
            have HSM := Lib.hid HK.out.sz
            have BWC := HK.out.bel
            obtain ⟨N, HNN⟩ : ∃ N, Hid (m'.length = N) := ⟨_, Lib.hid rfl⟩
            have hlN : S.l.length = N := by rw [hl, List.length_map, HNN.out]
            rw [HNN.out] at hml'
            have HOW := Lib.hid HK.out.ow
            have HLN : Hid (∀ wz, Below wc.heap.size wc wz → Calls Tryd.prog 15 #[.pointer (some og)] wz fun e w' => e = .returned (.int .i64 (N : Int)) ∧ wz = w') := Lib.hid (fun wz hb => by rw [ea, ← hlN]; exact orLen_any _ _ _ _ _ _ _ wz (hP.below hb))
            have HNG : Hid (∀ z : Int, z < 0 → ∀ wz, Below wc.heap.size wc wz → Calls Tryd.prog 16 #[.pointer (some og), .int .i64 z] wz fun e w' => e = .returned (.tuple #[.string ⟨#[]⟩, .agg z32, .int .i64 3]) ∧ Below wz.heap.size wz w') := Lib.hid (fun z hz0 wz hb => by rw [ea]; exact orInput_neg _ _ _ _ _ _ _ z hz0 wz (hP.below hb))
            have HBG : Hid (∀ wz, Below wc.heap.size wc wz → Calls Tryd.prog 16 #[.pointer (some og), .int .i64 (N : Int)] wz fun e w' => e = .returned (.tuple #[.string ⟨#[]⟩, .agg z32, .int .i64 3]) ∧ Below wz.heap.size wz w') := Lib.hid (fun wz hb => by rw [ea]; exact orInput_big _ _ _ _ _ _ _ (N : Int) (by rw [hlN]; exact Int.le_refl _) wz (hP.below hb))
            have HOK : Hid (∀ k (hk : k < m'.length) wz, Below wc.heap.size wc wz → Calls Tryd.prog 16 #[.pointer (some og), .int .i64 (k : Int)] wz fun e w' => e = .returned (.tuple #[.string m'[k], .agg (digA (sumL (m'[k]).data.toList)), .int .i64 0]) ∧ Below wz.heap.size wz w') := Lib.hid (fun k hk wz hb => by
              have hkl : k < S.l.length := by rw [hl, List.length_map]; exact hk
              have := orInput_any w.heap.size S.g S.l S.tv S.sv S.b S.D k hkl (by omega) wz (hP.below hb)
              have e1 : S.l[k] = (m'[k]).data.toList := by simp only [hl, List.getElem_map]
              rw [← ea, e1, show (⟨((m'[k]).data.toList).toArray⟩ : ByteArray) = m'[k] from Lib.mk_data _] at this
              exact this)
            clear hP hl ea eS hlN
            simp only [HNN.out]
            rw [HNN.out] at HOW
            go_wp2_with fail
            refine (HLN.out wc (Below.refl _ _)).mono ?_
            rintro e w' ⟨rfl, rfl⟩
            clear HLN
            go_wp2_with fail
            go_loopw [9] (fun x wz => ∃ (j : Nat) (z : Int), x = .int .i64 z ∧ z = (j : Int) - 1 ∧ j ≤ N + 2 ∧ Hid (Below wc.heap.size wc wz)) (fun x _ => N + 2 - (intOf x + 1).toNat)
            case atStart => exact ⟨0, -1, rfl, by omega, by omega, Lib.hid (Below.refl _ _)⟩
            case round =>
              obtain ⟨j, z, rfl, hzj, hj, HB⟩ := hrel
              have BI := BWC.trans (HB.out.mono BWC.size)
              have hzw : IntKind.i64.wrap (z + 1) = z + 1 := by rw [IntKind.wrap_i64]; omega
              have HZJ := Lib.hid hzj
              clear hzj
              by_cases hj1 : j ≤ N + 1
              · have hzN : z ≤ (N : Int) := by have := HZJ.out; omega
                by_cases hz0 : z < 0
                · as_aux_lemma =>
                  have HIN := Lib.hid (HNG.out z hz0 wr HB.out)
                  clear HOK HNG HBG HSU HNQ HSZ HON HOW
                  have zz := z32_size
                  go_wp2_with fail
                  refine HIN.out.mono ?_
                  rintro e w5 ⟨rfl, b5⟩
                  have B5 := BI.trans (b5.mono BI.size)
                  have HB5 := Lib.hid (HB.out.trans (b5.mono HB.out.size))
                  clear b5 HIN HB BI
                  obtain ⟨w6, HW6, hd6, b6⟩ := stored_dg w5 z32
                  go_upto_region 23 with (refine wpList_store_row rfl _ _ _ rfl w5.heap.size z32 rfl rfl 34 _ (heap_alloc_new _ _) (by rw [zz]; kernel_rfl) rfl (by with_unfolding_all exact z32_one) ?_)
                  rw [HW6.out]
                  clear HW6
                  have HB6 := Lib.hid (HB5.out.trans (b6.mono HB5.out.size))
                  have l6 := loadedK_z hd6
                  have hnz := neq_z32K
                  clear b6 B5 HB5 hd6
                  generalize w5.heap.size = q11 at *
                  go_wp2_with (first | ((with_reducible refine wpList_load_arr_iK (g := q11) (cs := z32) 34 _ rfl ?_ ?_ ?_); exact ⟨rfl, rfl⟩; assumption) | ((with_reducible refine wpList_neq_gK (vx := z32) (vy := z32) (b := false) _ _ _ rfl ?_ hnz ?_); exact ⟨rfl, rfl, rfl⟩))
                  go_roundw
                  case rel => exact ⟨j + 1, z + 1, by first | rfl | go_num, by have := HZJ.out; omega, by omega, HB6⟩
                  case measure => have := HZJ.out; simp [intOf]; omega
                · by_cases hzE : z = (N : Int)
                  · as_aux_lemma =>
                    subst hzE
                    have HIN := Lib.hid (HBG.out wr HB.out)
                    clear HOK HNG HBG HSU HNQ HSZ HON HOW
                    have zz := z32_size
                    go_wp2_with fail
                    refine HIN.out.mono ?_
                    rintro e w5 ⟨rfl, b5⟩
                    have B5 := BI.trans (b5.mono BI.size)
                    have HB5 := Lib.hid (HB.out.trans (b5.mono HB.out.size))
                    clear b5 HIN HB BI
                    obtain ⟨w6, HW6, hd6, b6⟩ := stored_dg w5 z32
                    go_upto_region 23 with (refine wpList_store_row rfl _ _ _ rfl w5.heap.size z32 rfl rfl 34 _ (heap_alloc_new _ _) (by rw [zz]; kernel_rfl) rfl (by with_unfolding_all exact z32_one) ?_)
                    rw [HW6.out]
                    clear HW6
                    have HB6 := Lib.hid (HB5.out.trans (b6.mono HB5.out.size))
                    have l6 := loadedK_z hd6
                    have hnz := neq_z32K
                    clear b6 B5 HB5 hd6
                    generalize w5.heap.size = q11 at *
                    go_wp2_with (first | ((with_reducible refine wpList_load_arr_iK (g := q11) (cs := z32) 34 _ rfl ?_ ?_ ?_); exact ⟨rfl, rfl⟩; assumption) | ((with_reducible refine wpList_neq_gK (vx := z32) (vy := z32) (b := false) _ _ _ rfl ?_ hnz ?_); exact ⟨rfl, rfl, rfl⟩))
                    go_roundw
                    case rel => exact ⟨j + 1, (N : Int) + 1, by first | rfl | go_num, by have := HZJ.out; omega, by omega, HB6⟩
                    case measure => have := HZJ.out; simp [intOf]; omega
                  · as_aux_lemma =>
                    obtain ⟨k, rfl⟩ : ∃ k : Nat, z = (k : Int) := ⟨z.toNat, by omega⟩
                    have hkN : k < N := by omega
                    have hkm : k < m'.length := by rw [HNN.out]; exact hkN
                    have hkN2 : (k : Int) < (N : Int) := by omega
                    have hze : ((k : Int) == (N : Int)) = false := by rw [beq_eq_false_iff_ne]; exact hzE
                    obtain ⟨gm, rfl, hgm, hcm⟩ := own_cell HOW.out k hkm
                    have HIN := Lib.hid (HOK.out k hkm wr HB.out)
                    have HSS := Lib.hid (HSU.out m'[k] (HSM.out _ (List.getElem_mem hkm)))
                    have hnq := HNQ.out (m'[k]).data.toList
                    have zk := HSZ.out (m'[k]).data.toList
                    have ok := HON.out (m'[k]).data.toList
                    have hcr := (HB.out.cell (p := ⟨gm, k, none⟩) hgm).trans hcm
                    have HBV : Hid ((digA (sumL (m'[k]).data.toList)).toList.toArray = digA (sumL (m'[k]).data.toList)) := Lib.hid (by simp)
                    have HVL : Hid ((digA (sumL (m'[k]).data.toList)).toList.length = 32) := Lib.hid (by rw [Array.length_toList, zk])
                    have hgw := Nat.lt_of_lt_of_le hgm HB.out.size
                    clear hcm HOK HNG HBG HSU HNQ HSZ HON HOW
                    generalize digA (sumL (m'[k]).data.toList) = DK at *
                    generalize (m'[k]'hkm) = t at *
                    go_wp2_with fail
                    refine HIN.out.mono ?_
                    rintro e w5 ⟨rfl, b5⟩
                    have hc5 := (b5.cell (p := ⟨gm, k, none⟩) hgw).trans hcr
                    have B5 := BI.trans (b5.mono BI.size)
                    have HB5 := Lib.hid (HB.out.trans (b5.mono HB.out.size))
                    clear b5 hcr HIN HB BI
                    obtain ⟨w6, HW6, hd6, b6⟩ := stored_dg w5 DK
                    go_upto_region 23 with (refine wpList_store_row rfl _ _ _ rfl w5.heap.size DK rfl rfl 34 _ (heap_alloc_new _ _) (by rw [zk]; kernel_rfl) (by rw [zk, z32_size]) ok ?_)
                    rw [HW6.out]
                    clear HW6
                    have hc6 := (b6.cell (p := ⟨gm, k, none⟩) (block_lt_of_cell hc5)).trans hc5
                    have B6 := B5.trans (b6.mono B5.size)
                    have HB6 := Lib.hid (HB5.out.trans (b6.mono HB5.out.size))
                    clear b6 hc5 B5 HB5
                    generalize w5.heap.size = q11 at *
                    go_upto_region 26 with fail
                    refine wp_region_lin (S := (fun w' => w'.cell? ⟨gm, k, none⟩ = some (.string t) ∧ w'.heap[q11]? = some (.cells DK 34 (0, 0)))) [(0, true), (1, true), (2, true), (3, true), (4, true), (5, true), (6, true), (7, true), (8, true), (9, false), (10, true), (11, true), (12, true), (13, true), (14, true), (15, true)] (by kernel_rfl) (by kernel_rfl) rfl (by kernel_rfl) ?_ (fun hHeld => ?_)
                    · (try dsimp only); exact ⟨hc6, hd6⟩
                    (refine wpL_calm (o := { dst := some 107, op := Go.Op.move (Go.Operand.tmp 10), type := 9, pos := "law.go:59", after := #[], guard := none }) (v := ?_) rfl (Or.inl ⟨by rfl, ?_⟩) ?_; rotate_left; (focus (intro w hSw; (try dsimp only at hSw); go_simp; (try (with_reducible rfl)); done)); try simp only [Act.put, List.setIfInBounds_toArray, List.set_cons_zero, List.set_cons_succ])
                    (refine wpL_calm (o := { dst := some 108, op := Go.Op.move (Go.Operand.tmp 4), type := 25, pos := "law.go:59", after := #[], guard := none }) (v := ?_) rfl (Or.inl ⟨by rfl, ?_⟩) ?_; rotate_left; (focus (intro w hSw; (try dsimp only at hSw); go_simp; (try (with_reducible rfl)); done)); try simp only [Act.put, List.setIfInBounds_toArray, List.set_cons_zero, List.set_cons_succ])
                    (refine wpL_calm (o := { dst := some 109, op := Go.Op.move (Go.Operand.tmp 9), type := 3, pos := "law.go:59", after := #[], guard := none }) (v := ?_) rfl (Or.inl ⟨by rfl, ?_⟩) ?_; rotate_left; (focus (intro w hSw; (try dsimp only at hSw); go_simp; (try (with_reducible rfl)); done)); try simp only [Act.put, List.setIfInBounds_toArray, List.set_cons_zero, List.set_cons_succ])
                    (refine wpL_calm (o := { dst := some 110, op := Go.Op.indexAddr 25 (Go.Operand.tmp 108) (Go.Operand.tmp 109), type := 0, pos := "law.go:59", after := #[{ on := 1, ground := Go.Ground.data }, { on := 2, ground := Go.Ground.data }], guard := none }) (v := ?_) rfl (Or.inl ⟨by rfl, ?_⟩) ?_; rotate_left; (focus (intro w hSw; (try dsimp only at hSw); go_simp; (try (with_reducible rfl)); done)); try simp only [Act.put, List.setIfInBounds_toArray, List.set_cons_zero, List.set_cons_succ])
                    (refine wpL_calm (o := { dst := some 111, op := Go.Op.load 9 (Go.Operand.tmp 110), type := 9, pos := "law.go:59", after := #[{ on := 3, ground := Go.Ground.data }], guard := none }) (v := ?_) rfl (Or.inl ⟨by rfl, ?_⟩) ?_; rotate_left; (focus (intro w hSw; (try dsimp only at hSw); go_simp; (try (with_reducible rfl)); done)); try simp only [Act.put, List.setIfInBounds_toArray, List.set_cons_zero, List.set_cons_succ])
                    (refine wpL_calm (o := { dst := some 112, op := Go.Op.binOp Go.BinOp.neq 9 (Go.Operand.tmp 107) (Go.Operand.tmp 111) 9, type := 4, pos := "law.go:59", after := #[{ on := 0, ground := Go.Ground.data }, { on := 4, ground := Go.Ground.data }], guard := none }) (v := ?_) rfl (Or.inl ⟨by rfl, ?_⟩) ?_; rotate_left; (focus (intro w hSw; (try dsimp only at hSw); go_simp; (try (with_reducible rfl)); done)); try simp only [Act.put, List.setIfInBounds_toArray, List.set_cons_zero, List.set_cons_succ])
                    (refine wpL_calm (o := { dst := some 113, op := Go.Op.move (Go.Operand.tmp 112), type := 4, pos := "law.go:59", after := #[{ on := 5, ground := Go.Ground.data }], guard := none }) (v := ?_) rfl (Or.inl ⟨by rfl, ?_⟩) ?_; rotate_left; (focus (intro w hSw; (try dsimp only at hSw); go_simp; (try (with_reducible rfl)); done)); try simp only [Act.put, List.setIfInBounds_toArray, List.set_cons_zero, List.set_cons_succ])
                    refine wpL_calm (o := { dst := some 114, op := Go.Op.load 34 (Go.Operand.tmp 11), type := 34, pos := "law.go:59", after := #[{ on := 6, ground := Go.Ground.guard }], guard := some (6, false) }) rfl (yieldsIf_load_mid (by rfl) _ _ rfl q11 0 rfl DK.toList _ (fun _ h => range_dg h.2 (show DK.toList.toArray = DK by simp)) Tryd.underlying34 rfl (by rw [HVL.out]; kernel_rfl)) ?_; rw [show DK.toList.toArray = DK by simp]
                    try simp only [Act.put, List.setIfInBounds_toArray, List.set_cons_zero, List.set_cons_succ]
                    first | (refine wpL_calm (o := { dst := some 115, op := Go.Op.move (Go.Operand.tmp 10), type := 9, pos := "law.go:59", after := #[{ on := 6, ground := Go.Ground.guard }], guard := some (6, false) }) (v := ?_) rfl (Or.inl ⟨by rfl, ?_⟩) ?_; rotate_left; (focus (intro w hSw; (try dsimp only at hSw); go_simp; (try (with_reducible rfl)); done)); try simp only [Act.put, List.setIfInBounds_toArray, List.set_cons_zero, List.set_cons_succ]) | (refine wpL_calm (o := { dst := some 115, op := Go.Op.move (Go.Operand.tmp 10), type := 9, pos := "law.go:59", after := #[{ on := 6, ground := Go.Ground.guard }], guard := some (6, false) }) (v := undef) rfl (Or.inr ⟨by rfl, rfl⟩) ?_; try simp only [Act.put, List.setIfInBounds_toArray, List.set_cons_zero, List.set_cons_succ])
                    refine wpL_loud1 (o := { dst := some 116, op := Go.Op.call { callee := Go.Callee.value (Go.Operand.func 14), args := #[Go.Operand.tmp 115], argTypes := #[9] }, type := 34, pos := "law.go:59", after := #[{ on := 8, ground := Go.Ground.data }, { on := 6, ground := Go.Ground.chain }, { on := 6, ground := Go.Ground.guard }], guard := some (6, false) }) rfl (fun K hK => ?_)
                    (go_simp; go_at_call 14; refine (HSS.out _ (hG.below B6.drew)).mono ?_; rintro e w7 ⟨rfl, b7⟩)
                    try go_wp2_with fail
                    refine hK.out _ _ ?_ (fun hHeld => ?_)
                    · (try dsimp only); exact ⟨(b7.cell (p := ⟨gm, k, none⟩) (block_lt_of_cell (w := w6.drew) hc6)).trans hc6, (b7.block q11 (Array.getElem?_eq_some_iff.1 (show w6.drew.heap[q11]? = _ from hd6)).1).trans hd6⟩
                    clear hK K
                    try simp only [Act.put, List.setIfInBounds_toArray, List.set_cons_zero, List.set_cons_succ]
                    refine wpL_calm (o := { dst := some 117, op := Go.Op.binOp Go.BinOp.neq 34 (Go.Operand.tmp 114) (Go.Operand.tmp 116) 34, type := 4, pos := "law.go:59", after := #[{ on := 7, ground := Go.Ground.data }, { on := 9, ground := Go.Ground.data }, { on := 6, ground := Go.Ground.guard }], guard := some (6, false) }) (v := .bool false) rfl (Or.inl ⟨by rfl, fun w _ => neq_run_opK (vx := DK) (vy := DK) _ _ _ rfl rfl rfl hnq w⟩) ?_
                    try simp only [Act.put, List.setIfInBounds_toArray, List.set_cons_zero, List.set_cons_succ]
                    (refine wpL_calm (o := { dst := some 118, op := Go.Op.pick (Go.Operand.tmp 113) (Go.Operand.const (Go.Value.bool true)) (Go.Operand.tmp 117), type := 4, pos := "law.go:59", after := #[{ on := 6, ground := Go.Ground.data }, { on := 10, ground := Go.Ground.data }], guard := none }) (v := ?_) rfl (Or.inl ⟨by rfl, ?_⟩) ?_; rotate_left; (focus (intro w hSw; (try dsimp only at hSw); go_simp; (try (with_reducible rfl)); done)); try simp only [Act.put, List.setIfInBounds_toArray, List.set_cons_zero, List.set_cons_succ])
                    (refine wpL_calm (o := { dst := some 119, op := Go.Op.move (Go.Operand.tmp 118), type := 4, pos := "law.go:59", after := #[{ on := 11, ground := Go.Ground.data }, { on := 9, ground := Go.Ground.chain }], guard := none }) (v := ?_) rfl (Or.inl ⟨by rfl, ?_⟩) ?_; rotate_left; (focus (intro w hSw; (try dsimp only at hSw); go_simp; (try (with_reducible rfl)); done)); try simp only [Act.put, List.setIfInBounds_toArray, List.set_cons_zero, List.set_cons_succ])
                    first | (refine wpL_calm (o := { dst := some 120, op := Go.Op.move (Go.Operand.tmp 12), type := 30, pos := "law.go:59", after := #[{ on := 12, ground := Go.Ground.guard }], guard := some (12, false) }) (v := ?_) rfl (Or.inl ⟨by rfl, ?_⟩) ?_; rotate_left; (focus (intro w hSw; (try dsimp only at hSw); go_simp; (try (with_reducible rfl)); done)); try simp only [Act.put, List.setIfInBounds_toArray, List.set_cons_zero, List.set_cons_succ]) | (refine wpL_calm (o := { dst := some 120, op := Go.Op.move (Go.Operand.tmp 12), type := 30, pos := "law.go:59", after := #[{ on := 12, ground := Go.Ground.guard }], guard := some (12, false) }) (v := undef) rfl (Or.inr ⟨by rfl, rfl⟩) ?_; try simp only [Act.put, List.setIfInBounds_toArray, List.set_cons_zero, List.set_cons_succ])
                    first | (refine wpL_calm (o := { dst := some 121, op := Go.Op.binOp Go.BinOp.neq 30 (Go.Operand.tmp 120) (Go.Operand.const (Go.Value.int Go.IntKind.i64 0)) 30, type := 4, pos := "law.go:59", after := #[{ on := 13, ground := Go.Ground.data }, { on := 12, ground := Go.Ground.guard }], guard := some (12, false) }) (v := ?_) rfl (Or.inl ⟨by rfl, ?_⟩) ?_; rotate_left; (focus (intro w hSw; (try dsimp only at hSw); go_simp; (try (with_reducible rfl)); done)); try simp only [Act.put, List.setIfInBounds_toArray, List.set_cons_zero, List.set_cons_succ]) | (refine wpL_calm (o := { dst := some 121, op := Go.Op.binOp Go.BinOp.neq 30 (Go.Operand.tmp 120) (Go.Operand.const (Go.Value.int Go.IntKind.i64 0)) 30, type := 4, pos := "law.go:59", after := #[{ on := 13, ground := Go.Ground.data }, { on := 12, ground := Go.Ground.guard }], guard := some (12, false) }) (v := undef) rfl (Or.inr ⟨by rfl, rfl⟩) ?_; try simp only [Act.put, List.setIfInBounds_toArray, List.set_cons_zero, List.set_cons_succ])
                    (refine wpL_calm (o := { dst := some 122, op := Go.Op.pick (Go.Operand.tmp 119) (Go.Operand.const (Go.Value.bool true)) (Go.Operand.tmp 121), type := 4, pos := "law.go:59", after := #[{ on := 12, ground := Go.Ground.data }, { on := 14, ground := Go.Ground.data }], guard := none }) (v := ?_) rfl (Or.inl ⟨by rfl, ?_⟩) ?_; rotate_left; (focus (intro w hSw; (try dsimp only at hSw); go_simp; (try (with_reducible rfl)); done)); try simp only [Act.put, List.setIfInBounds_toArray, List.set_cons_zero, List.set_cons_succ])
                    refine wpL_nil ?_
                    refine NoPanic.normal ?_
                    have HB7 : Hid (Below wc.heap.size wc w7) := Lib.hid (HB6.out.drew.trans (b7.mono HB6.out.size))
                    go_wp2_with fail
                    go_roundw
                    case rel => exact ⟨j + 1, (k : Int) + 1, by first | rfl | go_num, by have := HZJ.out; omega, by omega, HB7⟩
                    case measure => have := HZJ.out; simp [intOf]; omega
              · as_aux_lemma =>
                have hzN : ¬ z ≤ (N : Int) := by have := HZJ.out; omega
                have HKE := Lib.hid (HK.out.below HB.out)
                go_wp2_with fail
                go_roundw
                case rel => exact ⟨i + 1, X1, m', by go_num, by omega, by omega, by rw [← HNN.out]; exact HKE⟩
                case measure => simp [intOf]; omega
        · as_aux_lemma =>
          have hs30 : (300 : Int) < (s.size : Int) := by omega
          go_wp2_with fail
          go_roundw
          case rel => exact ⟨i + 1, Xi, m, by go_num, by omega, by omega, Lib.hid HI2.out.up⟩
          case measure => simp [intOf]; omega
      · as_aux_lemma =>
        obtain rfl : i = 40 := by omega
        rw [show ((40 : Nat) : Int) = 40 from rfl]
        have BW := HI.out.bel
        go_wp2_with fail
        refine (awake06 _ (hG.below BW)).mono ?_
        rintro e w9 ⟨rfl, b9⟩
        go_wp2_with fail
        go_ret
        exact ⟨rfl, BW.trans (b9.mono BW.size)⟩
    · as_aux_lemma =>
      have hli : ¬ (i : Int) < (n : Int) := by omega
      have BW := HI.out.bel
      go_wp2_with fail
      refine (awake06 _ (hG.below BW)).mono ?_
      rintro e w9 ⟨rfl, b9⟩
      go_wp2_with fail
      go_ret
      exact ⟨rfl, BW.trans (b9.mono BW.size)⟩
section
variable {H : Type} {enc : TypeId × Value → H}
set_option maxRecDepth 100000 in
theorem oracleKeeps_walk (v0 : Value) (d0 : DataW H) (p0 : List MemPlace) (w : World) (hok0 : ∃ a len cap, v0 = .slice a len cap) (h0 : DataW.Trod enc Tryd.prog w 0 (fun _ => true) true 22 v0 d0 p0) (hG : Gl w) :
    Calls Tryd.prog 3 #[v0] w fun e w' => e = .returned (.bool true) ∧ Below w.heap.size w w' := by
  obtain ⟨la, n, c, A, rfl, hm, hA, hT⟩ := open_acts hok0 h0
  unfold maxLen at hm
  exact oracleKeeps_body A la n c w hG hA (by omega) hT
end
end Go.Proofs.YtaneecmfgfkaaaaDoor
