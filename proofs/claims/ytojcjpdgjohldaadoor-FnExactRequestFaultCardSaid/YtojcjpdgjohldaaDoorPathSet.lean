/-
  pathBytes: the word bytes and ten marks; isPath.
-/
import Derived.Test.YtojcjpdgjohldaaDoorReqHost
import Derived.Laws.Tables
import Derived.Laws.CopyOwn
import Derived.Lib.OthersKept
namespace Go.Proofs.YtojcjpdgjohldaaDoor
open Go.ChangeShapes Go.WideShapes Go.ChangeAt Go.RowKit
def marksS : ByteArray := ⟨#[47, 63, 61, 38, 58, 64, 44, 59, 40, 41]⟩
def marksN : List Nat := [47, 63, 61, 38, 58, 64, 44, 59, 40, 41]
def markAt (pos : Nat) : Nat := marksN.getD pos 0
theorem markAt_eq (pos : Nat) (h : pos < marksS.size) : (marksS[pos]'h).toNat = markAt pos := by
  have : pos < 10 := h
  match pos, this with
  | 0, _ | 1, _ | 2, _ | 3, _ | 4, _ | 5, _ | 6, _ | 7, _ | 8, _ | 9, _ => rfl
theorem markAt_lt (pos : Nat) : markAt pos < 128 := by
  by_cases h : pos < 10
  · match pos, h with
    | 0, _ | 1, _ | 2, _ | 3, _ | 4, _ | 5, _ | 6, _ | 7, _ | 8, _ | 9, _ => decide
  · unfold markAt
    rw [List.getD_eq_getElem?_getD, List.getElem?_eq_none (by simp [marksN]; omega)]
    decide
def pathAt (pos i : Nat) : Bool := (marksN.take pos).contains i || wordI (i : Int)
theorem pathAt_zero (i : Nat) : pathAt 0 i = wordI (i : Int) := rfl
theorem pathAt_end (i : Nat) : pathAt 10 i = pathI (i : Int) := rfl
theorem take_marks (pos i : Nat) (h : pos < 10) : (marksN.take (pos + 1)).contains i = ((marksN.take pos).contains i || i == markAt pos) := by
  have e : marksN.take (pos + 1) = marksN.take pos ++ [markAt pos] := by
    match pos, h with
    | 0, _ | 1, _ | 2, _ | 3, _ | 4, _ | 5, _ | 6, _ | 7, _ | 8, _ | 9, _ => rfl
  rw [e, Bool.eq_iff_iff]
  simp
theorem pathAt_same (pos : Nat) (h : pos < 10) : pathAt (pos + 1) (markAt pos) = true := by
  rw [pathAt, take_marks pos _ h]; simp
theorem pathAt_other (pos i : Nat) (h : pos < 10) (hi : i ≠ markAt pos) : pathAt (pos + 1) i = pathAt pos i := by
  rw [pathAt, take_marks pos _ h, beq_eq_false_iff_ne.2 hi, Bool.or_false]; rfl
structure PathW (w : World) (pos : Nat) (wr : World) : Prop where
  it : wr.heap[w.heap.size + 2]? = some (.stringIter marksS pos)
  b0 : wr.heap[w.heap.size]? = some (.cells Tryd.zeroCells82 82 (0, 0))
  b1 : ∃ cs, wr.heap[w.heap.size + 1]? = some (.cells cs 82 (0, 0)) ∧ cs.size = 128 ∧ ∀ i : Nat, i < 128 → cs[i]? = some (.bool (pathAt pos i))
  le : pos ≤ 10
  bel : Below w.heap.size w wr
theorem PathW.cell {w wr : World} {pos : Nat} (h : PathW w pos wr) (i : Nat) (hi : i < 128) : wr.cell? ⟨w.heap.size + 1, i, none⟩ = some (.bool (pathAt pos i)) ∧ wr.frozen? ⟨w.heap.size + 1, i, none⟩ = false := by
  obtain ⟨cs, h1, h2, h3⟩ := h.b1
  exact ⟨by simp [World.cell?, h1, h3 i hi], by simp [World.frozen?, h1]⟩
theorem PathW.next {w wr : World} {pos : Nat} (h : PathW w pos wr) (hp : pos < 10) : PathW w (pos + 1) ((wr.iterAt (w.heap.size + 2) marksS (pos + 1)).setCell ⟨w.heap.size + 1, markAt pos, none⟩ (.bool true)) := by
  obtain ⟨cs, h1, h2, h3⟩ := h.b1
  have o : ∀ k, k ≠ w.heap.size + 2 → (wr.iterAt (w.heap.size + 2) marksS (pos + 1)).heap[k]? = wr.heap[k]? := fun k hk => Lib.iterAt_other _ _ _ _ _ hk
  have h1' : (wr.iterAt (w.heap.size + 2) marksS (pos + 1)).heap[w.heap.size + 1]? = some (.cells cs 82 (0, 0)) := by rw [o _ (by omega)]; exact h1
  refine ⟨?_, ?_, ⟨_, heap_setCell_same _ _ _ _ _ _ h1', by simpa using h2, fun i hi => ?_⟩, by omega, ?_⟩
  · rw [heap_setCell_other _ _ _ _ (by simp)]; exact Lib.iterAt_heap _ _ _ _ _ h.it
  · rw [heap_setCell_other _ _ _ _ (by simp), o _ (by omega)]; exact h.b0
  · by_cases e : i = markAt pos
    · subst e
      rw [Array.getElem?_setIfInBounds_self_of_lt (by omega), pathAt_same pos hp]
    · rw [Array.getElem?_setIfInBounds_ne (by omega), h3 i hi, pathAt_other pos i hp e]
  · refine Below.setCell ?_ (by simp) _
    exact ⟨h.bel.os, h.bel.tape, h.bel.output, by simpa [World.iterAt] using h.bel.size, fun k hk => by rw [o k (by omega)]; exact h.bel.block k hk⟩
theorem zeroSet_size : (Tryd.zeroCells82).size = 128 := by kernel_rfl
theorem all_bools {cs : Array Value} {f : Nat → Bool} (hsz : cs.size = 128) (h : ∀ i : Nat, i < 128 → cs[i]? = some (.bool (f i))) : cs.all (·.oneCell') = true := by
  rw [Array.all_eq_true]
  intro i hi
  have e := h i (by omega)
  rw [Array.getElem?_eq_getElem hi] at e
  rw [Option.some.inj e]; rfl
theorem path_start {w : World} {cs : Array Value} (hsz : cs.size = 128) (hcs : ∀ i : Nat, i < 128 → cs[i]? = some (.bool (wordI (i : Int)))) :
    PathW w 0 ((((w.alloc (.cells Tryd.zeroCells82 82)).alloc (.cells Tryd.zeroCells82 82)).setRow (w.heap.size + 1) cs).iter marksS 0) := by
  have hz : ((w.alloc (.cells Tryd.zeroCells82 82)).alloc (.cells Tryd.zeroCells82 82)).heap.size = w.heap.size + 2 := by simp
  have h1 : ((w.alloc (.cells Tryd.zeroCells82 82)).alloc (.cells Tryd.zeroCells82 82)).heap[w.heap.size + 1]? = some (.cells Tryd.zeroCells82 82 (0, 0)) := by
    show ((w.heap.push _).push _)[w.heap.size + 1]? = _
    rw [Array.getElem?_push, if_pos (by simp)]
  have h0 : ((w.alloc (.cells Tryd.zeroCells82 82)).alloc (.cells Tryd.zeroCells82 82)).heap[w.heap.size]? = some (.cells Tryd.zeroCells82 82 (0, 0)) := by
    show ((w.heap.push _).push _)[w.heap.size]? = _
    rw [Array.getElem?_push, if_neg (by simp), Array.getElem?_push, if_pos rfl]
  have hold : ∀ k, k < w.heap.size → ((w.alloc (.cells Tryd.zeroCells82 82)).alloc (.cells Tryd.zeroCells82 82)).heap[k]? = w.heap[k]? := fun k hk => by
    rw [Below.heap_alloc _ _ _ (by simp; omega), Below.heap_alloc _ _ _ hk]
  have hb : Below w.heap.size w ((w.alloc (.cells Tryd.zeroCells82 82)).alloc (.cells Tryd.zeroCells82 82)) := ((Below.refl _ _).alloc (Nat.le_refl _) _).alloc (by simp) _
  generalize ((w.alloc (.cells Tryd.zeroCells82 82)).alloc (.cells Tryd.zeroCells82 82)) = W at *
  have hs : (W.setRow (w.heap.size + 1) cs).heap.size = w.heap.size + 2 := by rw [size_setRow]; exact hz
  refine ⟨?_, ?_, ⟨cs, ?_, hsz, fun i hi => by rw [hcs i hi, pathAt_zero]⟩, by omega, ?_⟩
  · rw [← hs]; exact World.iter_heap _ _ _
  · show ((W.setRow (w.heap.size + 1) cs).alloc _).heap[w.heap.size]? = _
    rw [Below.heap_alloc _ _ _ (by omega), setRow_other _ _ _ _ (by omega)]; exact h0
  · show ((W.setRow (w.heap.size + 1) cs).alloc _).heap[w.heap.size + 1]? = _
    rw [Below.heap_alloc _ _ _ (by omega)]; exact setRow_heap _ _ _ _ _ _ h1
  · exact (below_setRow hb (by omega) cs).alloc (by omega) _
set_option maxHeartbeats 4000000 in
set_option maxRecDepth 100000 in
theorem pathBytes_any (w : World) (hset : SetIs w) :
    Calls Tryd.prog 53 #[] w fun e w' => (∃ cs, e = .returned (.agg cs) ∧ ∀ i : Nat, i < 128 → cs[i]? = some (.bool (pathI (i : Int)))) ∧ Below w.heap.size w w' := by
  obtain ⟨cs, tt, fr, hg, hsz, hcs⟩ := hset
  have HI : Hid ((Tryd.prog.info? 82).map (·.size) = some cs.size) := by
    show _ = _
    rw [infoSet, hsz]
  have HA : Hid (cs.all (·.oneCell') = true) := all_bools hsz hcs
  have HZ : Hid ((Tryd.zeroCells82).size = cs.size) := by show _ = _; rw [zeroSet_size, hsz]
  have HP : Hid (PathW w 0 _) := path_start hsz hcs
  have HG : Hid ((w.alloc (.cells Tryd.zeroCells82 82)).heap[4]? = some (.cells cs tt fr)) := by
    show _ = _
    rw [Below.heap_alloc _ _ _ (Array.getElem?_eq_some_iff.1 hg).1]; exact hg
  have HG1 : Hid (((w.alloc (.cells Tryd.zeroCells82 82)).alloc (.cells Tryd.zeroCells82 82)).heap[w.heap.size + 1]? = some (.cells Tryd.zeroCells82 82 (0, 0))) := by
    show ((w.heap.push _).push _)[w.heap.size + 1]? = _
    rw [Array.getElem?_push, if_pos (by simp)]
  clear hg hsz hcs
  go_enter Tryd.func53, Tryd.ntmps53
  go_wp2_with (first
    | refine wpList_load_row rfl 82 (.global 4) rfl 4 rfl tt cs fr _ HG.out Tryd.underlying82 rfl HI.out ?_
    | refine wpList_store_row rfl 82 (.tmp 1) (.tmp 4) rfl (w.heap.size + 1) cs (by rfl) (by rfl) 82 _ HG1.out HI.out HZ.out HA.out ?_)
  clear HG HG1 HI HA HZ
  go_loopw [3] (fun _ wr => ∃ pos, PathW w pos wr) (fun _ wr => 10 - wr.iterPos (w.heap.size + 2))
  case atStart => exact ⟨0, HP.out⟩
  case round =>
    clear HP
    obtain ⟨pos, hP⟩ := hrel
    have HP : Hid (PathW w pos wr) := hP
    by_cases hlt : pos < 10
    · have hp' : pos < marksS.size := hlt
      have hnx : ∀ ty, (Instr.next (.pointer (some ⟨w.heap.size + 1 + 1, 0, none⟩)) true ty).run Tryd.prog wr = .ok (.tuple #[.bool true, .int .i64 pos, .int .i32 (markAt pos : Int)]) (wr.iterAt (w.heap.size + 2) marksS (pos + 1)) := fun ty => by
        have := Lib.run_next_ascii_at (P := Tryd.prog) wr (w.heap.size + 2) marksS pos ty hP.it hp' (by rw [markAt_eq pos hp']; exact markAt_lt pos)
        rw [markAt_eq pos hp'] at this
        exact this
      have HN : Hid (PathW w (pos + 1) ((wr.iterAt (w.heap.size + 2) marksS (pos + 1)).setCell ⟨w.heap.size + 1, markAt pos, none⟩ (.bool true))) := hP.next hlt
      have hc : (wr.iterAt (w.heap.size + 2) marksS (pos + 1)).cell? ⟨w.heap.size + 1, markAt pos, none⟩ = some (.bool (pathAt pos (markAt pos))) := by
        rw [← (hP.cell (markAt pos) (markAt_lt pos)).1]
        simp only [World.cell?]
        rw [Lib.iterAt_other _ _ _ _ _ (by omega)]
      have hf : (wr.iterAt (w.heap.size + 2) marksS (pos + 1)).frozen? ⟨w.heap.size + 1, markAt pos, none⟩ = false := by
        rw [← (hP.cell (markAt pos) (markAt_lt pos)).2]
        simp only [World.frozen?]
        rw [Lib.iterAt_other _ _ _ _ _ (by omega)]
      have hm := markAt_lt pos
      have HQ : Hid (wr.iterPos (w.heap.size + 2) = pos) := by
        show _ = _
        unfold World.iterPos
        rw [hP.it]
      have HQ2 : Hid (((wr.iterAt (w.heap.size + 2) marksS (pos + 1)).setCell ⟨w.heap.size + 1, markAt pos, none⟩ (.bool true)).iterPos (w.heap.size + 2) = pos + 1) := by
        show _ = _
        unfold World.iterPos
        rw [HN.out.it]
      clear hP hp'
      generalize wr.iterAt (w.heap.size + 2) marksS (pos + 1) = W2 at *
      generalize markAt pos = c at *
      generalize pathAt pos c = bb at *
      go_wp2_with fail
      go_roundw
      case rel => exact ⟨pos + 1, HN.out⟩
      case measure => rw [HQ.out, HQ2.out]; omega
    · have hnx : ∀ ty, (Instr.next (.pointer (some ⟨w.heap.size + 1 + 1, 0, none⟩)) true ty).run Tryd.prog wr = .ok (.tuple #[.bool false]) wr := fun ty => Lib.run_next_end_at (P := Tryd.prog) wr (w.heap.size + 2) marksS pos ty hP.it (fun h => hlt h)
      have e10 : pos = 10 := by have := hP.le; omega
      subst e10
      obtain ⟨cs', h1, h2, h3⟩ := hP.b1
      have HI : Hid ((Tryd.prog.info? 82).map (·.size) = some cs'.size) := by
        show _ = _
        rw [infoSet, h2]
      have HA : Hid (cs'.all (·.oneCell') = true) := all_bools h2 h3
      have HZ : Hid ((Tryd.zeroCells82).size = cs'.size) := by show _ = _; rw [zeroSet_size, h2]
      have H1 : Hid (wr.heap[w.heap.size + 1]? = some (.cells cs' 82 (0, 0))) := h1
      have H0 : Hid (wr.heap[w.heap.size]? = some (.cells Tryd.zeroCells82 82 (0, 0))) := hP.b0
      have H3 : Hid (∀ i : Nat, i < 128 → cs'[i]? = some (.bool (pathI (i : Int)))) := fun i hi => by rw [h3 i hi, pathAt_end]
      have HB : Hid (Below w.heap.size w (wr.setRow w.heap.size cs')) := below_setRow hP.bel (Nat.le_refl _) cs'
      clear h1 h2 h3 hP HP
      go_wp2_with (first
        | refine wpList_load_row rfl 82 (.tmp 1) rfl (w.heap.size + 1) (by rfl) 82 cs' (0, 0) _ H1.out Tryd.underlying82 rfl HI.out ?_
        | refine wpList_store_row rfl 82 (.tmp 0) (.tmp 11) rfl w.heap.size cs' (by rfl) (by rfl) 82 _ H0.out HI.out HZ.out HA.out ?_)
      exact bodyPost_ret (v := .agg cs') (results_cell_row Tryd.results53 _ _ w.heap.size 82 cs' (0, 0) _ (by rfl) (setRow_heap _ _ _ _ _ _ H0.out) Tryd.underlying82 rfl HI.out) rfl ⟨⟨cs', rfl, H3.out⟩, HB.out⟩
set_option maxHeartbeats 2000000 in
theorem isPath_any (s : ByteArray) (w : World) (hset : SetIs w) (hs : s.size ≤ 1048576) :
    Calls Tryd.prog 38 #[.string s] w fun e w' => e = .returned (.bool (pathS s)) ∧ Below w.heap.size w w' := by
  have CP := Any.strings_HasPrefix Tryd.lays99 s ⟨#[47]⟩ w
  have e : Lib.hasPrefix s.data.toList [47] = decide (s.data.toList.head? = some 47) := by
    unfold Lib.hasPrefix
    cases s.data.toList with
    | nil => rfl
    | cons x l =>
      rw [Bool.eq_iff_iff]
      simp [List.isPrefixOf]
      exact ⟨fun h => h.symm, fun h => h.symm⟩
  have CP1 : Calls Tryd.prog 51 #[.string s, .string ⟨#[47]⟩] w fun e w' => e = .returned (.bool (decide (s.data.toList.head? = some 47))) ∧ w' = w := by rw [← e]; exact CP
  clear CP e
  by_cases c1 : s.data.toList.head? = some 47
  · rw [decide_eq_true c1] at CP1
    by_cases c2 : 100 < s.size
    · have HE : Hid (pathS s = false) := pathS_long s c2
      have g : decide ((s.size : Int) ≤ 100) = false := by simp; omega
      clear c1 hset
      go_enter Tryd.func38, Tryd.ntmps38
      go_wp2_with (go_at_call 51; refine CP1.mono ?_; rintro e w' ⟨rfl, rfl⟩)
      go_ret
      exact ⟨ret_bool HE.out.symm, Below.refl _ _⟩
    · have HE : Hid (pathS s = allP pathI s.data.toList) := pathS_mid s c1 (by omega)
      have g : decide ((s.size : Int) ≤ 100) = true := by simp; omega
      have C1 := pathBytes_any w hset
      have C2 : Hid (∀ (W : World) cs, (∀ i : Nat, i < 128 → cs[i]? = some (.bool (pathI (i : Int)))) → Calls Tryd.prog 52 #[.string s, .agg cs] W fun e w' => e = .returned (.bool (allP pathI s.data.toList)) ∧ Below W.heap.size W w') := fun W cs h => hasOnly_gen pathI pathI_big s cs W (by omega) h
      clear c1 hset c2
      go_enter Tryd.func38, Tryd.ntmps38
      go_wp2_with (go_at_call 51; refine CP1.mono ?_; rintro e w' ⟨rfl, hw⟩; obtain rfl := hw.symm)
      refine C1.mono ?_
      rintro e w1 ⟨⟨cs, rfl, hcs⟩, hb1⟩
      have C3 := C2.out w1 cs hcs
      have HB : Hid (Below w.heap.size w w1) := hb1
      clear C1 C2 hcs hb1
      go_wp2_with fail
      refine C3.mono ?_
      rintro e w2 ⟨rfl, hb2⟩
      have HB2 : Hid (Below w.heap.size w w2) := HB.out.trans (hb2.mono HB.out.size)
      clear hb2 HB C3
      go_wp2_with fail
      go_ret
      exact ⟨ret_bool HE.out.symm, HB2.out⟩
  · rw [decide_eq_false c1] at CP1
    have HE : Hid (pathS s = false) := pathS_first s c1
    clear c1 hset
    go_enter Tryd.func38, Tryd.ntmps38
    go_wp2_with (go_at_call 51; refine CP1.mono ?_; rintro e w' ⟨rfl, rfl⟩)
    go_ret
    exact ⟨ret_bool HE.out.symm, Below.refl _ _⟩
end Go.Proofs.YtojcjpdgjohldaaDoor
