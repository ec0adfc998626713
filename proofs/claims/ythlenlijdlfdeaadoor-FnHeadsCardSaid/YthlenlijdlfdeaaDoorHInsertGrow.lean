/-
  slices.Insert of one head line into lines that have no room.
-/
import Derived.Test.YthlenlijdlfdeaaDoorHInsertFns
namespace Go.Proofs.YthlenlijdlfdeaaDoor
open Go.ChangeShapes Go.WideShapes Go.ChangeAt Go.RowKit Go.Sort
theorem newRow_at (w : World) (R : Array Value) (t : TypeId) : (w.drew.alloc (.cells R t)).heap[w.heap.size]? = some (.cells R t (0, 0)) := (MapKept.heap_alloc w.drew _).1
theorem newRow_old (w : World) (R : Array Value) (t : TypeId) (k : Nat) (h : k < w.heap.size) : (w.drew.alloc (.cells R t)).heap[k]? = w.heap[k]? := Below.heap_alloc w.drew _ k h
set_option maxRecDepth 100000 in
set_option maxHeartbeats 8000000 in
theorem insert_grow (w : World) (base g c i : Nat) (cur : Array Value) (l : List Hdr) (hn hv : ByteArray) (vb : Nat) (vt : TypeId)
    (hg : w.heap[g]? = some (.cells cur 56 (0, 0))) (hbase : base ≤ w.heap.size) (hx : cur.toList.take (l.length * 2) = hdrsW l) (hl : l.length ≤ 1000) (hi : i < l.length) (hnc : l.length ≤ c) (hroom : c < l.length + 1)
    (hvb : w.heap[vb]? = some (.cells #[.string hn, .string hv] vt (0, 0))) :
    Calls Tryd.prog 44 #[.slice (some ⟨g, 0, none⟩) l.length c, .int .i64 (i : Int), .slice (some ⟨vb, 0, none⟩) 1 1] w fun e w' => KeptRes base (l.take i ++ [⟨hn, hv⟩] ++ l.drop i) e w' ∧ Below base w w' := by
  obtain ⟨i0, hi0, hz0, hzs, hzb⟩ := info_parts infoHeader
  have hgw : g < w.heap.size := (Array.getElem?_eq_some_iff.1 hg).1
  have hvw : vb < w.heap.size := (Array.getElem?_eq_some_iff.1 hvb).1
  have hAl : (hdrsW (l.take i)).length = i * 2 := by rw [hdrsW_len, List.length_take]; omega
  have hBl : (hdrsW (l.drop i)).length = (l.length - i) * 2 := by rw [hdrsW_len, List.length_drop]
  have hcur : cur.toList = hdrsW (l.take i) ++ hdrsW (l.drop i) ++ cur.toList.drop (l.length * 2) := by
    have e : hdrsW (l.take i) ++ hdrsW (l.drop i) = hdrsW l := by rw [← hdrsW_app, List.take_append_drop]
    rw [e, ← hx, List.take_append_drop]
  have hend := fun (W : World) (g' c' : Nat) (R : Array Value) (T : List Value) => @ownH_row W base g' c' R T l i hn hv (by omega)
  have h1B := hdrsW_one (l.drop i)
  generalize hdrsW (l.take i) = A at *
  generalize hdrsW (l.drop i) = B at *
  generalize cur.toList.drop (l.length * 2) = T at *
  have hcell : ∀ j v, (A ++ B)[j]? = some v → w.cell? ⟨g, j, none⟩ = some v := fun j v hj => by
    simp only [World.cell?, hg]
    rw [← Array.getElem?_toList, hcur, List.getElem?_append_left (List.getElem?_eq_some_iff.1 hj).1]
    exact hj
  have hold : (Builtin.firstCells i0.size i (.slice (some ⟨g, 0, none⟩) i c)).run Tryd.prog w.drew = .ok A.toArray w.drew := by
    rw [hzs]
    exact run_firstCells_some w.drew 2 i ⟨g, 0, none⟩ i c A (by rw [hAl]) (fun j v hj => by
      rw [Addr.add_lit, Nat.zero_add]
      exact hcell j v (by rw [List.getElem?_append_left (List.getElem?_eq_some_iff.1 hj).1]; exact hj))
  obtain ⟨G, hG⟩ : ∃ G, G = grownCap w (l.length + 1) c 56 := ⟨_, rfl⟩
  obtain ⟨ROW, hROW⟩ : ∃ ROW : Array Value, ROW = A.toArray ++ Builtin.zeroCells (Value.agg #[.string ⟨#[]⟩, .string ⟨#[]⟩]).cells (l.length + 1 - i) ++ Builtin.zeroCells (Value.agg #[.string ⟨#[]⟩, .string ⟨#[]⟩]).cells (G - (l.length + 1)) := ⟨_, rfl⟩
  have hrz : ∀ ty, (Builtin.append_ #[24, 3] ty #[.slice (some ⟨g, 0, none⟩) i c, .int .i64 ((l.length : Int) + 1 - (i : Int))]).run Tryd.prog w = .ok (.slice (some ⟨w.heap.size, 0, none⟩) (l.length + 1) G) (w.drew.alloc (.cells ROW 56)) := fun ty => by
    have hik : i + (l.length + 1 - i) = l.length + 1 := by omega
    have hkk : (l.length : Int) + 1 - (i : Int) = ((l.length + 1 - i : Nat) : Int) := by omega
    have h := Lib.run_append_grow_zeros w 24 3 ty 56 i0 _ .i64 .i64 Tryd.underlying24 Tryd.underlying3 hi0 hz0 (some ⟨g, 0, none⟩) i c A hold (l.length + 1 - i) (by omega) (by omega) (by omega) (by omega) (by rw [hzb]; omega) (by rw [hzb, hik]; exact growslice_fits hroom (by omega))
    rw [hik] at h
    rw [hkk, hROW, hG]
    exact h
  have hGn : l.length + 1 ≤ G := by rw [hG]; exact grownCap_ge w _ _ _
  have hGm : G ≤ maxLen := by rw [hG]; exact grownCap_le_maxLen w _ _ _ (by unfold maxLen; omega)
  have hzl : ∀ k, (Builtin.zeroCells (Value.agg #[.string ⟨#[]⟩, .string ⟨#[]⟩]).cells k).toList.length = k * 2 := fun k => by
    rw [Array.length_toList, size_zeroCells]; rfl
  have hRL : ROW.toList = A ++ (Builtin.zeroCells (Value.agg #[.string ⟨#[]⟩, .string ⟨#[]⟩]).cells (l.length + 1 - i)).toList ++ (Builtin.zeroCells (Value.agg #[.string ⟨#[]⟩, .string ⟨#[]⟩]).cells (G - (l.length + 1))).toList := by
    rw [hROW]; simp
  have hz1 := hzl (l.length + 1 - i)
  have hz2 := hzl (G - (l.length + 1))
  generalize (Builtin.zeroCells (Value.agg #[.string ⟨#[]⟩, .string ⟨#[]⟩]).cells (l.length + 1 - i)).toList = Z at *
  generalize (Builtin.zeroCells (Value.agg #[.string ⟨#[]⟩, .string ⟨#[]⟩]).cells (G - (l.length + 1))).toList = T2 at *
  have hRs : ROW.size = G * 2 := by
    rw [← Array.length_toList, hRL]
    simp only [List.length_append, hAl, hz1, hz2]
    omega
  obtain ⟨R1, hR1⟩ : ∃ R1 : List Value, R1 = ROW.toList.take (i * 2) ++ [.string hn, .string hv] ++ ROW.toList.drop (i * 2 + 2) := ⟨_, rfl⟩
  obtain ⟨R2, hR2⟩ : ∃ R2 : List Value, R2 = R1.take (i * 2 + 2) ++ B ++ R1.drop (i * 2 + 2 + B.length) := ⟨_, rfl⟩
  have hR2e : R2 = A ++ [.string hn, .string hv] ++ B ++ T2 := by
    rw [hR2, hR1, hRL]
    exact rows_grow A B Z T2 _ _ (i * 2) hAl (by omega)
  have hR1l : R1.length = G * 2 := by
    rw [hR1]
    simp only [List.length_append, List.length_take, List.length_drop, List.length_cons, List.length_nil, Array.length_toList, hRs]
    omega
  have hR2l : R2.length = G * 2 := by
    rw [hR2e]
    simp only [List.length_append, List.length_cons, List.length_nil, hAl, hBl, hz2]
    omega
  have hc1 : ∀ ty dc, (Builtin.copy_ #[24, 24] ty #[.slice (some ⟨w.heap.size, i * 2, none⟩) (l.length + 1 - i) dc, .slice (some ⟨vb, 0, none⟩) 1 1]).run Tryd.prog (w.drew.alloc (.cells ROW 56)) = .ok (goInt 1) ((w.drew.alloc (.cells ROW 56)).setRow w.heap.size R1.toArray) := fun ty dc => by
    have hvW : (w.drew.alloc (.cells ROW 56)).heap[vb]? = some (.cells #[.string hn, .string hv] vt (0, 0)) := by rw [newRow_old w _ _ vb hvw]; exact hvb
    have := run_copy_row2 (w.drew.alloc (.cells ROW 56)) ty w.heap.size (i * 2) (l.length + 1 - i) dc ⟨vb, 0, none⟩ 1 1 1 ROW 56 [.string hn, .string hv] (newRow_at w ROW _) (by simp only [Nat.min_def]; split <;> omega) rfl
      (fun j v hj => by
        rw [Addr.add_lit]
        simp only [World.cell?, hvW]
        match j, hj with
        | 0, hj => simpa using hj
        | 1, hj => simpa using hj) (by rw [hRs]; simp; omega) (by intro v hv; simp at hv; rcases hv with rfl | rfl <;> rfl)
    rw [this, hR1]
    simp
  obtain ⟨W1, hW1⟩ : ∃ W1, W1 = (w.drew.alloc (.cells ROW 56)).setRow w.heap.size R1.toArray := ⟨_, rfl⟩
  have hW1N : W1.heap[w.heap.size]? = some (.cells R1.toArray 56 (0, 0)) := by rw [hW1]; exact setRow_heap _ _ ROW _ 56 (0, 0) (newRow_at w ROW _)
  have hW1g : W1.heap[g]? = w.heap[g]? := by rw [hW1, setRow_other _ _ g _ (by omega), newRow_old w _ _ g hgw]
  have hW1b : Below w.heap.size w W1 := by
    rw [hW1]
    have h1 : Below w.heap.size w (w.drew.alloc (.cells ROW 56)) := ((Below.refl _ _).drew).alloc (Nat.le_refl _) _
    exact h1.trans (below_setRow _ _ (Nat.le_refl _) h1.size)
  rw [← hW1] at hc1
  have HC2 : Hid (∀ ty dc sc, (Builtin.copy_ #[24, 24] ty #[.slice (some ⟨w.heap.size, (i + 1) * 2, none⟩) (l.length - i) dc, .slice (some ⟨g, i * 2, none⟩) (l.length - i) sc]).run Tryd.prog W1.drew = .ok (goInt ((l.length - i : Nat) : Int)) (W1.drew.setRow w.heap.size R2.toArray)) := fun ty dc sc => by
    have := run_copy_row2 W1.drew ty w.heap.size ((i + 1) * 2) (l.length - i) dc ⟨g, i * 2, none⟩ (l.length - i) sc (l.length - i) R1.toArray 56 B hW1N (by simp only [Nat.min_def]; split <;> omega) hBl
      (fun j v hj => by
        rw [Addr.add_lit]
        have e : W1.drew.cell? ⟨g, i * 2 + j, none⟩ = w.cell? ⟨g, i * 2 + j, none⟩ := World.cell?_of_block hW1g
        rw [e]
        refine hcell _ v ?_
        rw [List.getElem?_append_right (by omega), hAl, show i * 2 + j - i * 2 = j from by omega]
        exact hj) (by simp only [List.size_toArray, hBl, hR1l]; omega) h1B
    rw [this, hR2, show (i + 1) * 2 = i * 2 + 2 from by omega]
  have HEND : Hid (KeptRes base (l.take i ++ [⟨hn, hv⟩] ++ l.drop i) (.returned (.slice (some ⟨w.heap.size, 0, none⟩) (l.length + 1) G)) (W1.drew.setRow w.heap.size R2.toArray)) :=
    KeptRes.mk rfl (hend _ w.heap.size G R2.toArray T2 (setRow_heap _ _ R1.toArray _ 56 (0, 0) hW1N) hbase hGn hGm (by simpa using hR2l) (by simpa using hR2e))
  have HBEL : Hid (Below base w (W1.drew.setRow w.heap.size R2.toArray)) := (hW1b.drew.trans (below_setRow _ _ (Nat.le_refl _) hW1b.drew.size)).mono hbase
  unfold maxLen at hGm
  have HW1 : Hid (W1 = (w.drew.alloc (.cells ROW 56)).setRow w.heap.size R1.toArray) := hW1
  clear hR1 hR2 hR2e hcur hend h1B hBl hAl hR1l hR2l hx hg hvb hcell hold hROW hG hzl hRL hz1 hz2 hRs hW1 hW1N hW1g hW1b
  generalize hn' : l.length = n at *
  have g1 : ¬ ((i : Int) = (n : Int)) := by omega
  have g2 : (c : Int) < (n : Int) + 1 := by omega
  have g3 : (0 : Int) ≤ (i : Int) + 1 := by omega
  have g4 : (i : Int) ≤ (n : Int) := by omega
  have g5 : (n : Int) ≤ c := by omega
  have g6 : (i : Int) + 1 ≤ (n : Int) + 1 := by omega
  have g7 : (i : Int) ≤ (n : Int) + 1 := by omega
  have g8 : ¬ (G = i + 1) := by omega
  have g9 : ¬ (G = i) := by omega
  have g10 : ¬ (c = i) := by omega
  have g11 : (i : Int) ≤ (c : Int) := by omega
  have hw1 : IntKind.i64.wrap ((i : Int) + 1) = (i : Int) + 1 := by rw [IntKind.wrap_i64]; omega
  have htn : ((i : Int) + 1).toNat = i + 1 := by omega
  have hc1b : ∀ ty dc, (Builtin.copy_ #[24, 24] ty #[.slice (some ⟨w.heap.size, i * 2, none⟩) (n + 1 - i) dc, .slice (some ⟨vb, 0, none⟩) 1 1]).run Tryd.prog (w.alloc (.cells ROW 56)).drew = .ok (goInt 1) W1 := fun ty dc => hc1 ty dc
  go_enter Tryd.func44, Tryd.ntmps44
  go_wp2_with (at_builtin; refine Lib.wpList_append_run _ rfl (.tmp 34) (.tmp 39) _ _ rfl _ _ rfl rfl _ _ (hrz _) ?_)
  refine wp_region_still_tail 8 hdr_mixed (by kernel_rfl) ?_
  simp only [List.take_succ_cons, List.take_zero, List.drop_succ_cons, List.drop_zero]
  repeat still_step
  refine wpStill_nil ?_
  show wpList _ _ _ _ _ _
  refine wpList_copy_runH _ rfl (.tmp 50) (.tmp 53) 24 24 rfl (.slice (some ⟨w.heap.size, (i + 1) * 2, none⟩) (n - i) (G - (i + 1))) (.slice (some ⟨g, i * 2, none⟩) (n - i) (c - i)) (by simp [Act.eval]) (by simp [Act.eval]) (HC2.out _ _ _) ?_
  go_wp2_with fail
  go_ret
  exact ⟨HEND.out, HBEL.out⟩
end Go.Proofs.YthlenlijdlfdeaaDoor
