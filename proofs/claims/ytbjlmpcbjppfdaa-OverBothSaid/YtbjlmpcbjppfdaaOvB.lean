/- Package over: Get, Drop, Len, Clear; the nil sheet. -/
import Derived.Test.YtbjlmpcbjppfdaaOvA
namespace Go.Proofs.Ytbjlmpcbjppfdaa
open Go.RowKit Go.Deep
set_option linter.unusedVariables false
set_option linter.unusedSimpArgs false
def noB : ByteArray := ⟨#[]⟩
def gotV (L : List Pu) (a : Int) : Value := match findL L a with | some p => .tuple #[.string p.2, .bool true] | none => .tuple #[.string ⟨#[]⟩, .bool false]
theorem zero_put : ∀ w, (zeroValue 29).run Try.prog w = .ok (.agg #[.int .i64 0, .string ⟨#[]⟩]) w := fun w => by kernel_rfl
theorem map_has2 (L : List Pu) (a : Int) : Maps.has (mapD L) (keyL a) = (findL L a).isSome := by rw [map_has, any_find]
section
variable {w w' : World} {B p b : Nat} {L : List Pu}
set_option maxRecDepth 100000 in
set_option maxHeartbeats 4000000 in
theorem oget_any (a : Int) (q : ShAt w B p b L) (ha : InI a) : Calls Try.prog 18 #[.pointer (some ⟨p, 0, none⟩), .int .i64 a] w fun e w' => e = .returned (gotV L a) ∧ Below w.heap.size w w' := by
  have c0 := q.c0
  have HM := Lib.hid q.map
  have HK := Lib.hid (key_of ha)
  have HZ := Lib.hid zero_put
  have hz := zero_put
  have HH := Lib.hid (map_has2 L a)
  have HA := Lib.hid (map_at L a (encS (0, ⟨#[]⟩)))
  unfold gotV
  clear q ha
  cases hf : findL L a with
  | none =>
    have HH2 : Hid (Maps.has (mapD L) (keyL a) = false) := Lib.hid (by rw [HH.out, hf]; rfl)
    have HA2 : Hid ((mapD L).atKey (keyL a) (encS (0, ⟨#[]⟩)) = encS (0, ⟨#[]⟩)) := Lib.hid (by rw [HA.out, hf])
    clear HH HA hf
    go_enter Try.func18, Try.ntmps18
    go_wp2_with (at_lookup; refine wpList_lookup_own_ok _ rfl _ _ 45 rfl 3 29 intK Try.underlying45 putR (HZ.out _) (encS (0, ⟨#[]⟩)) [] rfl b L.length (mapD L) rfl HM.out _ (keyL a) rfl HK.out ?_; intro v ps hv; rw [HA2.out] at hv; obtain ⟨x, rfl, hx⟩ := putR_inv hv; injection hx with hx _; obtain rfl := encS_inj hx; rw [HH2.out]; unfold putV; clear hv hx)
    go_ret2
    exact ⟨rfl, (Below.refl _ _).alloc (Nat.le_refl _) _⟩
  | some x =>
    have HH2 : Hid (Maps.has (mapD L) (keyL a) = true) := Lib.hid (by rw [HH.out, hf]; rfl)
    have HA2 : Hid ((mapD L).atKey (keyL a) (encS (0, ⟨#[]⟩)) = encS x) := Lib.hid (by rw [HA.out, hf])
    clear HH HA hf
    obtain ⟨x1, x2⟩ := x
    go_enter Try.func18, Try.ntmps18
    go_wp2_with (at_lookup; refine wpList_lookup_own_ok _ rfl _ _ 45 rfl 3 29 intK Try.underlying45 putR (HZ.out _) (encS (0, ⟨#[]⟩)) [] rfl b L.length (mapD L) rfl HM.out _ (keyL a) rfl HK.out ?_; intro v ps hv; rw [HA2.out] at hv; obtain ⟨x, rfl, hx⟩ := putR_inv hv; injection hx with hx _; obtain rfl := encS_inj hx; rw [HH2.out]; unfold putV; clear hv hx)
    go_ret2
    exact ⟨rfl, (Below.refl _ _).alloc (Nat.le_refl _) _⟩
set_option maxRecDepth 100000 in
theorem oget_nil (a : Int) (w : World) : Calls Try.prog 18 #[.pointer none, .int .i64 a] w fun e w' => e = .returned (.tuple #[.string ⟨#[]⟩, .bool false]) ∧ w = w' := by
  go_enter Try.func18, Try.ntmps18
  go_wp2_with fail
  go_ret2
  exact ⟨rfl, rfl⟩
set_option maxRecDepth 100000 in
theorem oset_nil (a : Int) (s : ByteArray) (w : World) : Calls Try.prog 14 #[.pointer none, .int .i64 a, .string s] w fun e w' => e = .returned (.bool false) ∧ w = w' := by
  go_enter Try.func14, Try.ntmps14
  go_wp2_with fail
  go_ret
  exact ⟨rfl, rfl⟩
set_option maxRecDepth 100000 in
set_option maxHeartbeats 4000000 in
theorem odrop_any (a : Int) (q : ShAt w B p b L) (ha : InI a) : Calls Try.prog 19 #[.pointer (some ⟨p, 0, none⟩), .int .i64 a] w fun e w' => e = .returned (.bool (findL L a).isSome) ∧ ShAt w' B p b (if (findL L a).isSome = true then delL L a else L) ∧ Kq B [p, b] w w' := by
  have CG := Lib.hid (oget_any a q ha)
  have HQ := Lib.hid q
  have HK := Lib.hid (key_of ha)
  have HD := Lib.hid (map_del L a)
  have HBw := Lib.hid q.bw
  clear q ha
  unfold gotV at CG
  cases hf : findL L a with
  | none =>
    rw [hf] at CG
    clear hf
    go_enter Try.func19, Try.ntmps19
    go_wp2_with fail
    refine CG.out.mono ?_
    rintro e w1 ⟨rfl, b1⟩
    have HQ1 := Lib.hid (HQ.out.below b1)
    have HK1 := Lib.hid (Kq.of_below (L := [p, b]) b1 HBw.out)
    clear b1 CG
    go_wp2_with fail
    go_ret
    exact ⟨rfl, HQ1.out, HK1.out⟩
  | some x =>
    rw [hf] at CG
    clear hf
    go_enter Try.func19, Try.ntmps19
    go_wp2_with fail
    refine CG.out.mono ?_
    rintro e w1 ⟨rfl, b1⟩
    have HQ1 := Lib.hid (HQ.out.below b1)
    have HK1 := Lib.hid (Kq.of_below (L := [p, b]) b1 HBw.out)
    have c0 := HQ1.out.c0
    have HM := Lib.hid HQ1.out.map
    clear b1 CG
    go_wp2_with (at_delete; refine wpList_delete_own _ rfl _ _ 45 3 rfl 29 intK Try.underlying45 putR b L.length (mapD L) rfl HM.out _ (keyL a) rfl HK.out ?_; intro w2 hown hturn)
    have HO := Lib.hid hown
    have HT := Lib.hid hturn.grown
    clear hown hturn HM
    go_wp2_with fail
    go_ret
    have hm := MpAt.of (L := delL L a) (by rw [← HD.out]; exact HO.out)
    have kq := Kq.of_grown (A := B) HT.out HQ1.out.bw HQ1.out.bb
    refine ⟨rfl, ?_, HK1.out.trans (kq.wide (by simp))⟩
    exact { row := World.rowIs.of_block HQ1.out.row (kq.other p HQ1.out.lt (by simpa using HQ1.out.ne)), map := hm, bp := HQ1.out.bp, bb := HQ1.out.bb, ne := HQ1.out.ne, srt := srt_del HQ1.out.srt a, wf := wf_del HQ1.out.wf a }
set_option maxRecDepth 100000 in
theorem odrop_nil (a : Int) (w : World) : Calls Try.prog 19 #[.pointer none, .int .i64 a] w fun e w' => e = .returned (.bool false) ∧ w = w' := by
  go_enter Try.func19, Try.ntmps19
  go_wp2_with fail
  refine (oget_nil a w).mono ?_
  rintro e w1 ⟨rfl, rfl⟩
  go_wp2_with fail
  go_ret
  exact ⟨rfl, rfl⟩
set_option maxRecDepth 100000 in
set_option maxHeartbeats 2000000 in
theorem olen_any (q : ShAt w B p b L) : Calls Try.prog 11 #[.pointer (some ⟨p, 0, none⟩)] w fun e w' => e = .returned (.int .i64 (L.length : Int)) ∧ w = w' := by
  have c0 := q.c0
  have HM := Lib.hid q.map
  have HS := Lib.hid (map_size L)
  clear q
  go_enter Try.func11, Try.ntmps11
  go_wp2_with (at_len; refine wpList_len_own _ rfl _ 45 rfl 3 29 Try.underlying45 putR b L.length (mapD L) rfl HM.out ?_; rw [HS.out])
  go_ret
  exact ⟨rfl, rfl⟩
set_option maxRecDepth 100000 in
theorem olen_nil (w : World) : Calls Try.prog 11 #[.pointer none] w fun e w' => e = .returned (.int .i64 0) ∧ w = w' := by
  go_enter Try.func11, Try.ntmps11
  go_wp2_with fail
  go_ret
  exact ⟨rfl, rfl⟩
set_option maxRecDepth 100000 in
theorem oclear_nil (w : World) : Calls Try.prog 17 #[.pointer none] w fun e w' => e = .returned (.tuple #[]) ∧ w = w' := by
  go_enter Try.func17, Try.ntmps17
  go_wp2_with fail
  go_end0
  exact ⟨rfl, rfl⟩
set_option maxRecDepth 100000 in
set_option maxHeartbeats 2000000 in
theorem oclear_any (q : ShAt w B p b L) : Calls Try.prog 17 #[.pointer (some ⟨p, 0, none⟩)] w fun e w' => ∃ b', w.heap.size ≤ b' ∧ e = .returned (.tuple #[]) ∧ ShAt w' B p b' [] ∧ Kq B [p, b] w w' := by
  have hmm := @run_makeMap Try.prog
  have h1 := World.ownsMap_made (H := Unit) w Try.prog 3 putR
  have B1 : Below w.heap.size w (w.alloc (.map #[] 0)) := (Below.refl _ _).alloc (Nat.le_refl _) _
  have q1 := q.below B1
  have c0 := q1.c0
  have f0 := q1.free 0
  have HS : Hid (ShAt ((w.alloc (.map #[] 0)).setCell ⟨p, 0, none⟩ (.map (some w.heap.size))) B p w.heap.size []) := Lib.hid
    { row := (World.rowIs.set q1.row 0 (.map (some w.heap.size))).congr (fun j hj => by
        obtain rfl : j = 0 := by omega
        rfl)
      map := (MpAt.of h1).block (Below.heap_setCell _ ⟨p, 0, none⟩ _ _ (by have := q.lt; show w.heap.size ≠ p; omega))
      bp := q.bp
      bb := q.bw
      ne := Nat.ne_of_lt q.lt
      srt := List.Pairwise.nil
      wf := fun _ h => absurd h (by simp) }
  have HK : Hid (Kq B [p, b] w ((w.alloc (.map #[] 0)).setCell ⟨p, 0, none⟩ (.map (some w.heap.size)))) := Lib.hid ((Kq.of_below B1 q.bw).setCell 0 _ q.bp (by simp))
  clear h1 B1 q q1
  go_enter Try.func17, Try.ntmps17
  go_wp2_with fail
  go_end0
  exact ⟨w.heap.size, Nat.le_refl _, rfl, HS.out, HK.out⟩
end
end Go.Proofs.Ytbjlmpcbjppfdaa
