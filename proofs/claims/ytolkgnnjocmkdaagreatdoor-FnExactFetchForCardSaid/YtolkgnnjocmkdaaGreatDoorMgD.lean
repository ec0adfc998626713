/-
  Texts of one claim, one behind the other.
-/
import Derived.LaidEql
import Derived.Laws.CopyOwn
import Derived.Laws.RangeAny
import Derived.Laws.Tables
import Derived.Lib.OthersKept
import Derived.MakeChecks
import Derived.RowKitTokens
import Derived.Shelf.Strings.Prefix
import Derived.StillTail
import Derived.Stop.Asserts
import Derived.Stop.LaidErr
import Derived.Test.YtolkgnnjocmkdaaGreatDoorRows
import Derived.Test.YtolkgnnjocmkdaaGreatDoorMgC
/-
  slices.Insert of one head line into lines that have no room.
-/
namespace Go.Proofs.YtolkgnnjocmkdaaGreatDoor
open Go.ChangeShapes Go.WideShapes Go.ChangeAt Go.RowKit Go.Sort
theorem newRow_at (w : World) (R : Array Value) (t : TypeId) : (w.drew.alloc (.cells R t)).heap[w.heap.size]? = some (.cells R t (0, 0)) := (MapKept.heap_alloc w.drew _).1
theorem newRow_old (w : World) (R : Array Value) (t : TypeId) (k : Nat) (h : k < w.heap.size) : (w.drew.alloc (.cells R t)).heap[k]? = w.heap[k]? := Below.heap_alloc w.drew _ k h
set_option maxRecDepth 100000 in
set_option maxHeartbeats 8000000 in
theorem insert_grow (w : World) (base g c i : Nat) (cur : Array Value) (l : List Hdr) (hn hv : ByteArray) (vb : Nat) (vt : TypeId)
    (hg : w.heap[g]? = some (.cells cur 110 (0, 0))) (hbase : base ≤ w.heap.size) (hx : cur.toList.take (l.length * 2) = hdrsW l) (hl : l.length ≤ 1000) (hi : i < l.length) (hnc : l.length ≤ c) (hroom : c < l.length + 1)
    (hvb : w.heap[vb]? = some (.cells #[.string hn, .string hv] vt (0, 0))) :
    Calls Tryz.prog 208 #[.slice (some ⟨g, 0, none⟩) l.length c, .int .i64 (i : Int), .slice (some ⟨vb, 0, none⟩) 1 1] w fun e w' => KeptRes base (l.take i ++ [⟨hn, hv⟩] ++ l.drop i) e w' ∧ Below base w w' := by
  obtain ⟨i0, hi0, hz0, hzs, hzb⟩ := info_parts infoHeader
  have hgw : g < w.heap.size := (Array.getElem?_eq_some_iff.1 hg).1
  have hvw : vb < w.heap.size := (Array.getElem?_eq_some_iff.1 hvb).1
  have hAl : (hdrsW (l.take i)).length = i * 2 := by rw [hdrsW_len, List.length_take]; omega
  have hBl : (hdrsW (l.drop i)).length = (l.length - i) * 2 := by rw [hdrsW_len, List.length_drop]
  have hcur : cur.toList = hdrsW (l.take i) ++ hdrsW (l.drop i) ++ cur.toList.drop (l.length * 2) := by
    have e : hdrsW (l.take i) ++ hdrsW (l.drop i) = hdrsW l := by rw [← hdrsW_app, List.take_append_drop]
    rw [e, ← hx, List.take_append_drop]
  have hend := fun (W : World) (g' c' : Nat) (R : Array Value) (T : List Value) => @ownH_row W base g' c' R T l i hn hv (by omega)
  have h1B := hdrsW_one (l.drop i)
  generalize hdrsW (l.take i) = A at *
  generalize hdrsW (l.drop i) = B at *
  generalize cur.toList.drop (l.length * 2) = T at *
  have hcell : ∀ j v, (A ++ B)[j]? = some v → w.cell? ⟨g, j, none⟩ = some v := fun j v hj => by
    simp only [World.cell?, hg]
    rw [← Array.getElem?_toList, hcur, List.getElem?_append_left (List.getElem?_eq_some_iff.1 hj).1]
    exact hj
  have hold : (Builtin.firstCells i0.size i (.slice (some ⟨g, 0, none⟩) i c)).run Tryz.prog w.drew = .ok A.toArray w.drew := by
    rw [hzs]
    exact run_firstCells_some w.drew 2 i ⟨g, 0, none⟩ i c A (by rw [hAl]) (fun j v hj => by
      rw [Addr.add_lit, Nat.zero_add]
      exact hcell j v (by rw [List.getElem?_append_left (List.getElem?_eq_some_iff.1 hj).1]; exact hj))
  obtain ⟨G, hG⟩ : ∃ G, G = grownCap w (l.length + 1) c 110 := ⟨_, rfl⟩
  obtain ⟨ROW, hROW⟩ : ∃ ROW : Array Value, ROW = A.toArray ++ Builtin.zeroCells (Value.agg #[.string ⟨#[]⟩, .string ⟨#[]⟩]).cells (l.length + 1 - i) ++ Builtin.zeroCells (Value.agg #[.string ⟨#[]⟩, .string ⟨#[]⟩]).cells (G - (l.length + 1)) := ⟨_, rfl⟩
  have hrz : ∀ ty, (Builtin.append_ #[33, 3] ty #[.slice (some ⟨g, 0, none⟩) i c, .int .i64 ((l.length : Int) + 1 - (i : Int))]).run Tryz.prog w = .ok (.slice (some ⟨w.heap.size, 0, none⟩) (l.length + 1) G) (w.drew.alloc (.cells ROW 110)) := fun ty => by
    have hik : i + (l.length + 1 - i) = l.length + 1 := by omega
    have hkk : (l.length : Int) + 1 - (i : Int) = ((l.length + 1 - i : Nat) : Int) := by omega
    have h := Lib.run_append_grow_zeros w 33 3 ty 110 i0 _ .i64 .i64 Tryz.underlying33 Tryz.underlying3 hi0 hz0 (some ⟨g, 0, none⟩) i c A hold (l.length + 1 - i) (by omega) (by omega) (by omega) (by omega) (by rw [hzb]; omega) (by rw [hzb, hik]; exact growslice_fits hroom (by omega))
    rw [hik] at h
    rw [hkk, hROW, hG]
    exact h
  have hGn : l.length + 1 ≤ G := by rw [hG]; exact grownCap_ge w _ _ _
  have hGm : G ≤ maxLen := by rw [hG]; exact grownCap_le_maxLen w _ _ _ (by unfold maxLen; omega)
  have hzl : ∀ k, (Builtin.zeroCells (Value.agg #[.string ⟨#[]⟩, .string ⟨#[]⟩]).cells k).toList.length = k * 2 := fun k => by
    rw [Array.length_toList, size_zeroCells]; rfl
  have hRL : ROW.toList = A ++ (Builtin.zeroCells (Value.agg #[.string ⟨#[]⟩, .string ⟨#[]⟩]).cells (l.length + 1 - i)).toList ++ (Builtin.zeroCells (Value.agg #[.string ⟨#[]⟩, .string ⟨#[]⟩]).cells (G - (l.length + 1))).toList := by
    rw [hROW]; simp
  have hz1 := hzl (l.length + 1 - i)
  have hz2 := hzl (G - (l.length + 1))
  generalize (Builtin.zeroCells (Value.agg #[.string ⟨#[]⟩, .string ⟨#[]⟩]).cells (l.length + 1 - i)).toList = Z at *
  generalize (Builtin.zeroCells (Value.agg #[.string ⟨#[]⟩, .string ⟨#[]⟩]).cells (G - (l.length + 1))).toList = T2 at *
  have hRs : ROW.size = G * 2 := by
    rw [← Array.length_toList, hRL]
    simp only [List.length_append, hAl, hz1, hz2]
    omega
  obtain ⟨R1, hR1⟩ : ∃ R1 : List Value, R1 = ROW.toList.take (i * 2) ++ [.string hn, .string hv] ++ ROW.toList.drop (i * 2 + 2) := ⟨_, rfl⟩
  obtain ⟨R2, hR2⟩ : ∃ R2 : List Value, R2 = R1.take (i * 2 + 2) ++ B ++ R1.drop (i * 2 + 2 + B.length) := ⟨_, rfl⟩
  have hR2e : R2 = A ++ [.string hn, .string hv] ++ B ++ T2 := by
    rw [hR2, hR1, hRL]
    exact rows_grow A B Z T2 _ _ (i * 2) hAl (by omega)
  have hR1l : R1.length = G * 2 := by
    rw [hR1]
    simp only [List.length_append, List.length_take, List.length_drop, List.length_cons, List.length_nil, Array.length_toList, hRs]
    omega
  have hR2l : R2.length = G * 2 := by
    rw [hR2e]
    simp only [List.length_append, List.length_cons, List.length_nil, hAl, hBl, hz2]
    omega
  have hc1 : ∀ ty dc, (Builtin.copy_ #[33, 33] ty #[.slice (some ⟨w.heap.size, i * 2, none⟩) (l.length + 1 - i) dc, .slice (some ⟨vb, 0, none⟩) 1 1]).run Tryz.prog (w.drew.alloc (.cells ROW 110)) = .ok (goInt 1) ((w.drew.alloc (.cells ROW 110)).setRow w.heap.size R1.toArray) := fun ty dc => by
    have hvW : (w.drew.alloc (.cells ROW 110)).heap[vb]? = some (.cells #[.string hn, .string hv] vt (0, 0)) := by rw [newRow_old w _ _ vb hvw]; exact hvb
    have := run_copy_row2 (w.drew.alloc (.cells ROW 110)) ty w.heap.size (i * 2) (l.length + 1 - i) dc ⟨vb, 0, none⟩ 1 1 1 ROW 110 [.string hn, .string hv] (newRow_at w ROW _) (by simp only [Nat.min_def]; split <;> omega) rfl
      (fun j v hj => by
        rw [Addr.add_lit]
        simp only [World.cell?, hvW]
        match j, hj with
        | 0, hj => simpa using hj
        | 1, hj => simpa using hj) (by rw [hRs]; simp; omega) (by intro v hv; simp at hv; rcases hv with rfl | rfl <;> rfl)
    rw [this, hR1]
    simp
  obtain ⟨W1, hW1⟩ : ∃ W1, W1 = (w.drew.alloc (.cells ROW 110)).setRow w.heap.size R1.toArray := ⟨_, rfl⟩
  have hW1N : W1.heap[w.heap.size]? = some (.cells R1.toArray 110 (0, 0)) := by rw [hW1]; exact setRow_heap _ _ ROW _ 110 (0, 0) (newRow_at w ROW _)
  have hW1g : W1.heap[g]? = w.heap[g]? := by rw [hW1, setRow_other _ _ g _ (by omega), newRow_old w _ _ g hgw]
  have hW1b : Below w.heap.size w W1 := by
    rw [hW1]
    have h1 : Below w.heap.size w (w.drew.alloc (.cells ROW 110)) := ((Below.refl _ _).drew).alloc (Nat.le_refl _) _
    exact h1.trans (below_setRow _ _ (Nat.le_refl _) h1.size)
  rw [← hW1] at hc1
  have HC2 : Hid (∀ ty dc sc, (Builtin.copy_ #[33, 33] ty #[.slice (some ⟨w.heap.size, (i + 1) * 2, none⟩) (l.length - i) dc, .slice (some ⟨g, i * 2, none⟩) (l.length - i) sc]).run Tryz.prog W1.drew = .ok (goInt ((l.length - i : Nat) : Int)) (W1.drew.setRow w.heap.size R2.toArray)) := fun ty dc sc => by
    have := run_copy_row2 W1.drew ty w.heap.size ((i + 1) * 2) (l.length - i) dc ⟨g, i * 2, none⟩ (l.length - i) sc (l.length - i) R1.toArray 110 B hW1N (by simp only [Nat.min_def]; split <;> omega) hBl
      (fun j v hj => by
        rw [Addr.add_lit]
        have e : W1.drew.cell? ⟨g, i * 2 + j, none⟩ = w.cell? ⟨g, i * 2 + j, none⟩ := World.cell?_of_block hW1g
        rw [e]
        refine hcell _ v ?_
        rw [List.getElem?_append_right (by omega), hAl, show i * 2 + j - i * 2 = j from by omega]
        exact hj) (by simp only [List.size_toArray, hBl, hR1l]; omega) h1B
    rw [this, hR2, show (i + 1) * 2 = i * 2 + 2 from by omega]
  have HEND : Hid (KeptRes base (l.take i ++ [⟨hn, hv⟩] ++ l.drop i) (.returned (.slice (some ⟨w.heap.size, 0, none⟩) (l.length + 1) G)) (W1.drew.setRow w.heap.size R2.toArray)) :=
    KeptRes.mk rfl (hend _ w.heap.size G R2.toArray T2 (setRow_heap _ _ R1.toArray _ 110 (0, 0) hW1N) hbase hGn hGm (by simpa using hR2l) (by simpa using hR2e))
  have HBEL : Hid (Below base w (W1.drew.setRow w.heap.size R2.toArray)) := (hW1b.drew.trans (below_setRow _ _ (Nat.le_refl _) hW1b.drew.size)).mono hbase
  unfold maxLen at hGm
  have HW1 : Hid (W1 = (w.drew.alloc (.cells ROW 110)).setRow w.heap.size R1.toArray) := hW1
  clear hR1 hR2 hR2e hcur hend h1B hBl hAl hR1l hR2l hx hg hvb hcell hold hROW hG hzl hRL hz1 hz2 hRs hW1 hW1N hW1g hW1b
  generalize hn' : l.length = n at *
  have g1 : ¬ ((i : Int) = (n : Int)) := by omega
  have g2 : (c : Int) < (n : Int) + 1 := by omega
  have g3 : (0 : Int) ≤ (i : Int) + 1 := by omega
  have g4 : (i : Int) ≤ (n : Int) := by omega
  have g5 : (n : Int) ≤ c := by omega
  have g6 : (i : Int) + 1 ≤ (n : Int) + 1 := by omega
  have g7 : (i : Int) ≤ (n : Int) + 1 := by omega
  have g8 : ¬ (G = i + 1) := by omega
  have g9 : ¬ (G = i) := by omega
  have g10 : ¬ (c = i) := by omega
  have g11 : (i : Int) ≤ (c : Int) := by omega
  have hw1 : IntKind.i64.wrap ((i : Int) + 1) = (i : Int) + 1 := by rw [IntKind.wrap_i64]; omega
  have htn : ((i : Int) + 1).toNat = i + 1 := by omega
  have hc1b : ∀ ty dc, (Builtin.copy_ #[33, 33] ty #[.slice (some ⟨w.heap.size, i * 2, none⟩) (n + 1 - i) dc, .slice (some ⟨vb, 0, none⟩) 1 1]).run Tryz.prog (w.alloc (.cells ROW 110)).drew = .ok (goInt 1) W1 := fun ty dc => hc1 ty dc
  go_enter Tryz.func208, Tryz.ntmps208
  go_wp2_with (at_builtin; refine Lib.wpList_append_run _ rfl (.tmp 34) (.tmp 39) _ _ rfl _ _ rfl rfl _ _ (hrz _) ?_)
  refine wp_region_still_tail 8 hdr_mixed (by kernel_rfl) ?_
  simp only [List.take_succ_cons, List.take_zero, List.drop_succ_cons, List.drop_zero]
  repeat still_step
  refine wpStill_nil ?_
  show wpList _ _ _ _ _ _
  refine wpList_copy_runH _ rfl (.tmp 50) (.tmp 53) 33 33 rfl (.slice (some ⟨w.heap.size, (i + 1) * 2, none⟩) (n - i) (G - (i + 1))) (.slice (some ⟨g, i * 2, none⟩) (n - i) (c - i)) (by simp [Act.eval]) (by simp [Act.eval]) (HC2.out _ _ _) ?_
  go_wp2_with fail
  go_ret
  exact ⟨HEND.out, HBEL.out⟩
end Go.Proofs.YtolkgnnjocmkdaaGreatDoor
/-
  What the model's SetHeader answers; slices.Insert, whole.
-/
namespace Go.Proofs.YtolkgnnjocmkdaaGreatDoor
open Go.ChangeShapes Go.WideShapes Go.ChangeAt Go.RowKit Go.Sort
theorem insert_any (w : World) (base : Nat) (a : Option Addr) (c : Nat) (l : List Hdr) (i : Nat) (hn hv : ByteArray) (vb : Nat) (vt : TypeId) (hown : OwnH w base (.slice a l.length c) l) (hbase : base ≤ w.heap.size) (hl : l.length ≤ 1000) (hi : i ≤ l.length)
    (hvb : w.heap[vb]? = some (.cells #[.string hn, .string hv] vt (0, 0))) (hne : ∀ g, (Value.slice a l.length c).ownBlock = some g → vb ≠ g) :
    Calls Tryz.prog 208 #[.slice a l.length c, .int .i64 (i : Int), .slice (some ⟨vb, 0, none⟩) 1 1] w fun e w' => KeptRes base (l.take i ++ [⟨hn, hv⟩] ++ l.drop i) e w' ∧ Below base w w' := by
  by_cases he : i = l.length
  · subst he
    rw [List.take_length, List.drop_length, List.append_nil]
    exact insert_end w base a c l hn hv vb hown hbase hl (by simp [World.cell?, hvb]) (by simp [World.cell?, hvb])
  · obtain ⟨_, h1 | ⟨g, c', cur, e, hbg, hh, hnc, hcm, hcs, hx⟩⟩ := hown
    · have := h1.2; omega
    · obtain ⟨rfl, _, rfl⟩ := Value.slice.inj e
      by_cases hroom : l.length + 1 ≤ c
      · exact insert_shift w base g c i cur l hn hv vb vt hh hbg hbase hcm hcs hx hl (by omega) hroom (hne g rfl) hvb
      · exact insert_grow w base g c i cur l hn hv vb vt hh hbase hx hl (by omega) hnc (by omega) hvb
theorem setGo_other {h r : Hdr} {bd : Bool} {l : List Hdr} (he : ¬ lowS r.name = lowS h.name) : setGo h bd (r :: l) = r :: setGo h bd l := by rw [setGo, if_neg he]
theorem setGo_put {h r : Hdr} {l : List Hdr} (he : lowS r.name = lowS h.name) : setGo h false (r :: l) = h :: setGo h true l := by rw [setGo, if_pos he]; rfl
theorem setGo_skip {h r : Hdr} {l : List Hdr} (he : lowS r.name = lowS h.name) : setGo h true (r :: l) = setGo h true l := by rw [setGo, if_pos he]; rfl
theorem setGo_end (h : Hdr) : setGo h true [] = [] ∧ setGo h false [] = [h] := ⟨rfl, rfl⟩
theorem box_room {w w1 : World} {n v : ByteArray} {t : TypeId} (hb : Below (w.heap.size + 1) (w.alloc (.cells #[.string n, .string v] t)) w1) :
    w1.cell? ⟨w.heap.size, 0, none⟩ = some (.string n) ∧ w1.cell? ⟨w.heap.size, 1, none⟩ = some (.string v) := by
  exact ⟨by rw [hb.cell (p := ⟨w.heap.size, 0, none⟩) (Nat.lt_succ_self _)]; simp, by rw [hb.cell (p := ⟨w.heap.size, 1, none⟩) (Nat.lt_succ_self _)]; simp⟩
set_option maxRecDepth 100000 in
set_option maxHeartbeats 8000000 in
theorem l4Set_any (w : World) (a : Option Addr) (cap : Nat) (l : List Hdr) (h : Hdr) (h20 : l.length ≤ 1000) (hz : ∀ (i : Nat) r, l[i]? = some r → r.name.size ≤ 64) (hnm : h.name.size ≤ 64) (hi : HdsIn w a l) :
    Calls Tryz.prog 145 #[.slice a l.length cap, .agg #[.string h.name, .string h.value]] w fun e w' => KeptRes w.heap.size (setGo h false l) e w' ∧ Below w.heap.size w w' := by
  have HI : Hid (HdsIn w a l) := hi
  have HZ : Hid (∀ (i : Nat) r, l[i]? = some r → r.name.size ≤ 64) := hz
  clear hi hz
  generalize hn : l.length = n at *
  have HN : Hid (l.length = n) := hn
  clear hn
  obtain ⟨hnb, hvb⟩ := h
  simp only at hnm ⊢
  go_enter Tryz.func145, Tryz.ntmps145
  go_wp2_with fail
  go_loopw [5, 6, 7] (fun v f i wr => ∃ (k : Nat) (bd : Bool) (M : List Hdr), k ≤ n ∧ M.length ≤ k ∧ i = .int .i64 k ∧ f = .bool bd ∧ OwnH wr (w.heap.size + 1) v M ∧ setGo ⟨hnb, hvb⟩ false l = M ++ setGo ⟨hnb, hvb⟩ bd (l.drop k) ∧ Below (w.heap.size + 1) (w.alloc (.cells #[.string hnb, .string hvb] 110)) wr) (fun _ _ i _ => n - (intOf i).toNat)
  case atStart => exact ⟨0, false, [], Nat.zero_le _, Nat.le_refl _, rfl, rfl, by
    have := OwnH.made0 (w.alloc (.cells #[.string hnb, .string hvb] 110)) (w.heap.size + 1) (by simp)
    simpa using this, rfl, (Below.refl _ _).alloc (by simp) _⟩
  case round =>
    obtain ⟨k, bd, M, hk, hM, rfl, rfl, ho, hs, hb⟩ := hrel
    have HO : Hid (OwnH wr (w.heap.size + 1) u5 M) := ho
    have HSG : Hid (setGo ⟨hnb, hvb⟩ false l = M ++ setGo ⟨hnb, hvb⟩ bd (l.drop k)) := hs
    have hzw : w.heap.size + 1 ≤ wr.heap.size := by have := hb.size; rwa [World.size_alloc] at this
    have HB : Hid (Below (w.heap.size + 1) (w.alloc (.cells #[.string hnb, .string hvb] 110)) wr) := hb
    have hwr : Below w.heap.size w wr := ((Below.refl _ _).alloc (Nat.le_refl _) _).trans (hb.mono (Nat.le_succ _))
    obtain ⟨b0, b1⟩ := box_room hb
    clear ho hs hb
    by_cases hlt : k < n
    · obtain ⟨r, hr⟩ : ∃ r, l[k]? = some r := ⟨l[k]'(by have := HN.out; omega), List.getElem?_eq_getElem _⟩
      obtain ⟨b, off, rfl, hat⟩ := HI.out.ok hr
      obtain ⟨p1, p3⟩ := (hat.keep hwr) k r hr
      have z1 := HZ.out k r hr
      have HD : Hid (l.drop k = r :: l.drop (k + 1)) := drop_hdr l k r hr
      have gk : (k : Int) < n := by omega
      have g0 : (0 : Int) ≤ k := by omega
      clear hr hat HI HZ hwr
      obtain ⟨rn, rv⟩ := r
      simp only at p1 p3 z1
      have SA := fun w => l4Alike_any rn hnb w (by omega) (by omega)
      have x1 := cell_regrown p1
      have y0 := cell_regrown b0
      by_cases he : lowS rn = lowS hnb
      · have HSA : Hid (∀ w, Calls Tryz.prog 174 #[.string rn, .string hnb] w fun e w' => e = .returned (.bool true) ∧ Below w.heap.size w w') := by
          rw [show decide (lowS rn = lowS hnb) = true from by simpa using he] at SA
          exact SA
        have cSA : ∀ d os, Calls Tryz.prog 174 #[.string rn, .string hnb] (grow (redrawn wr d) os) fun e w'' => e = .returned (.bool true) ∧ ∃ p : Regrown, w'' = grow (redrawn wr p.d) p.os := fun d os => Calls.regrown_of (HSA.out _)
        cases bd
        · have HX : Hid (setGo ⟨hnb, hvb⟩ false l = (M ++ [⟨hnb, hvb⟩]) ++ setGo ⟨hnb, hvb⟩ true (l.drop (k + 1))) := by
            show _ = _
            rw [HSG.out, HD.out, setGo_put he]
            simp
          clear SA HSG HD he
          go_wp2_with fail
          refine wp_region_quiet_below (by kernel_rfl) (by kernel_rfl) ?_
          repeat (go_big_quiet_step ((go_at_call 174; exact cSA _ _)))
          refine wpQuiet_nil ?_
          intro w2 hw2
          have hb2 : Below wr.heap.size wr w2 := by
            obtain ⟨⟨d, os⟩, rfl⟩ := hw2
            exact below_regrown wr d os
          have b0 := hkeep hb2 b0
          have b1 := hkeep hb2 b1
          have HO2 : Hid (OwnH w2 (w.heap.size + 1) u5 M) := HO.out.below hb2
          have HB2 : Hid (Below (w.heap.size + 1) (w.alloc (.cells #[.string hnb, .string hvb] 110)) w2) := HB.out.trans (hb2.mono hzw)
          have hz2 : w.heap.size + 1 ≤ w2.heap.size := Nat.le_trans hzw hb2.size
          clear hw2 hb2 cSA HSA x1 y0 p1 p3 HO HB
          go_wp2_with (at_builtin; refine wpList_append_hdr _ rfl (.tmp 33) (.tmp 35) rfl (w.heap.size + 1) _ M hnb hvb rfl rfl HO2.out (by omega) hz2 ?_; intro v4 w4 HO4 hb4 hz4 hk4)
          go_roundw
          case rel => exact ⟨k + 1, true, M ++ [⟨hnb, hvb⟩], by omega, by simp; omega, by go_num, rfl, HO4, HX.out, HB2.out.trans hb4⟩
          case measure => simp [intOf]; omega
        · have HX : Hid (setGo ⟨hnb, hvb⟩ false l = M ++ setGo ⟨hnb, hvb⟩ true (l.drop (k + 1))) := by
            show _ = _
            rw [HSG.out, HD.out, setGo_skip he]
          clear SA HSG HD he
          go_wp2_with fail
          refine wp_region_quiet_below (by kernel_rfl) (by kernel_rfl) ?_
          repeat (go_big_quiet_step ((go_at_call 174; exact cSA _ _)))
          refine wpQuiet_nil ?_
          intro w2 hw2
          have hb2 : Below wr.heap.size wr w2 := by
            obtain ⟨⟨d, os⟩, rfl⟩ := hw2
            exact below_regrown wr d os
          have HO2 : Hid (OwnH w2 (w.heap.size + 1) u5 M) := HO.out.below hb2
          have HB2 : Hid (Below (w.heap.size + 1) (w.alloc (.cells #[.string hnb, .string hvb] 110)) w2) := HB.out.trans (hb2.mono hzw)
          clear hw2 hb2 cSA HSA x1 y0 p1 p3 HO HB b0 b1
          go_wp2_with fail
          go_roundw
          case rel => exact ⟨k + 1, true, M, by omega, by omega, by go_num, rfl, HO2.out, HX.out, HB2.out⟩
          case measure => simp [intOf]; omega
      · have HSA : Hid (∀ w, Calls Tryz.prog 174 #[.string rn, .string hnb] w fun e w' => e = .returned (.bool false) ∧ Below w.heap.size w w') := by
          rw [show decide (lowS rn = lowS hnb) = false from by simpa using he] at SA
          exact SA
        have cSA : ∀ d os, Calls Tryz.prog 174 #[.string rn, .string hnb] (grow (redrawn wr d) os) fun e w'' => e = .returned (.bool false) ∧ ∃ p : Regrown, w'' = grow (redrawn wr p.d) p.os := fun d os => Calls.regrown_of (HSA.out _)
        have HX : Hid (setGo ⟨hnb, hvb⟩ false l = (M ++ [⟨rn, rv⟩]) ++ setGo ⟨hnb, hvb⟩ bd (l.drop (k + 1))) := by
          show _ = _
          rw [HSG.out, HD.out, setGo_other he]
          simp
        clear SA HSG HD he
        go_wp2_with fail
        refine wp_region_quiet_below (by kernel_rfl) (by kernel_rfl) ?_
        repeat (go_big_quiet_step ((go_at_call 174; exact cSA _ _)))
        refine wpQuiet_nil ?_
        intro w2 hw2
        have hb2 : Below wr.heap.size wr w2 := by
          obtain ⟨⟨d, os⟩, rfl⟩ := hw2
          exact below_regrown wr d os
        have p1 := hkeep hb2 p1
        have p3 := hkeep hb2 p3
        have HO2 : Hid (OwnH w2 (w.heap.size + 1) u5 M) := HO.out.below hb2
        have HB2 : Hid (Below (w.heap.size + 1) (w.alloc (.cells #[.string hnb, .string hvb] 110)) w2) := HB.out.trans (hb2.mono hzw)
        have hz2 : w.heap.size + 1 ≤ w2.heap.size := Nat.le_trans hzw hb2.size
        clear hw2 hb2 cSA HSA x1 y0 HO HB b0 b1
        go_wp2_with (at_builtin; refine wpList_append_hdr _ rfl (.tmp 24) (.tmp 29) rfl (w.heap.size + 1) _ M rn rv rfl rfl HO2.out (by omega) hz2 ?_; intro v4 w4 HO4 hb4 hz4 hk4)
        go_roundw
        case rel => exact ⟨k + 1, bd, M ++ [⟨rn, rv⟩], by omega, by simp; omega, by go_num, rfl, HO4, HX.out, HB2.out.trans hb4⟩
        case measure => simp [intOf]; omega
    · have HX : Hid (setGo ⟨hnb, hvb⟩ false l = M ++ setGo ⟨hnb, hvb⟩ bd []) := by
        show _ = _
        rw [HSG.out, List.drop_of_length_le (by have := HN.out; omega)]
      clear HSG
      cases bd
      · have HY : Hid (setGo ⟨hnb, hvb⟩ false l = M ++ [⟨hnb, hvb⟩]) := by show _ = _; rw [HX.out, (setGo_end _).2]
        clear HX
        go_wp2_with (at_builtin; refine wpList_append_hdr _ rfl (.tmp 39) (.tmp 41) rfl (w.heap.size + 1) _ M hnb hvb rfl rfl HO.out (by omega) hzw ?_; intro v4 w4 HO4 hb4 hz4 hk4)
        go_ret
        exact ⟨KeptRes.mk HY.out (HO4.lower (Nat.le_succ _)), ((Below.refl _ _).alloc (Nat.le_refl _) _).trans ((HB.out.trans hb4).mono (Nat.le_succ _))⟩
      · have HY : Hid (setGo ⟨hnb, hvb⟩ false l = M) := by show _ = _; rw [HX.out, (setGo_end _).1, List.append_nil]
        clear HX
        go_wp2_with fail
        go_ret
        exact ⟨KeptRes.mk HY.out (HO.out.lower (Nat.le_succ _)), ((Below.refl _ _).alloc (Nat.le_refl _) _).trans (HB.out.mono (Nat.le_succ _))⟩
end Go.Proofs.YtolkgnnjocmkdaaGreatDoor
/-
  What SetHeader and its model answer.
-/
namespace Go.Proofs.YtolkgnnjocmkdaaGreatDoor
open Go.ChangeShapes Go.WideShapes Go.ChangeAt Go.RowKit Go.Sort
theorem wpAny_seq2 {P : Program} {md : Region.Mode} {ops : Array Oper} {Q : Exit → Act → World → Prop} {k : Nat} {o1 o2 : Oper} {listed : Array Bool} {a : Act} {w : World} (h1 : ops[k]? = some o1) (h2 : ops[k + 1]? = some o2) (h4 : ops.size = k + 2)
    (hB : Region.seqB md ops 2 k listed = true) (h : wpList P ops Q [o1, o2] a w) : wpAny P md ops Q 2 listed a w :=
  wpAny_of_seq [o1, o2] k listed a w (fun j => by
    match j with
    | 0 => simpa using h1.symm
    | 1 => simpa using h2.symm
    | j + 2 => rw [Array.getElem?_eq_none (by omega)]; simp) hB h
theorem set_ask {l : List Hdr} {h : Hdr} (h0 : askC l h.name ≠ 0) : setC l h = askC l h.name ∧ setL l h = [] := by
  have e : setC l h = askC l h.name := by unfold setC; rw [if_neg h0]
  exact ⟨e, by unfold setL; rw [if_neg (by rw [e]; exact h0)]⟩
theorem set_line {l : List Hdr} {h : Hdr} (h0 : askC l h.name = 0) (h1 : faultH h ≠ 0) : setC l h = faultH h ∧ setL l h = [] := by
  have e : setC l h = faultH h := by unfold setC; rw [if_pos h0, if_neg h1]
  exact ⟨e, by unfold setL; rw [if_neg (by rw [e]; exact h1)]⟩
theorem set_many {l : List Hdr} {h : Hdr} (h0 : askC l h.name = 0) (h1 : faultH h = 0) (h2 : 20 < (setGo h false l).length) : setC l h = 2 ∧ setL l h = [] := by
  have e : setC l h = 2 := by unfold setC; rw [if_pos h0, if_pos h1, if_pos h2]
  exact ⟨e, by unfold setL; rw [if_neg (by rw [e]; decide)]⟩
theorem set_ok {l : List Hdr} {h : Hdr} (h0 : askC l h.name = 0) (h1 : faultH h = 0) (h2 : ¬ 20 < (setGo h false l).length) : setC l h = 0 ∧ setL l h = setGo h false l := by
  have e : setC l h = 0 := by unfold setC; rw [if_pos h0, if_pos h1, if_neg h2]
  exact ⟨e, by unfold setL; rw [if_pos e]⟩
theorem setL_len (l : List Hdr) (h : Hdr) : (setL l h).length ≤ 20 := by
  by_cases h0 : askC l h.name = 0
  · by_cases h1 : faultH h = 0
    · by_cases h2 : 20 < (setGo h false l).length
      · rw [(set_many h0 h1 h2).2]; exact Nat.zero_le _
      · rw [(set_ok h0 h1 h2).2]; omega
    · rw [(set_line h0 h1).2]; exact Nat.zero_le _
  · rw [(set_ask h0).2]; exact Nat.zero_le _
theorem first_le {x : ByteArray} : ∀ {l : List Hdr} {i : Nat}, firstAt x l = some i → i ≤ (dropH x l).length
  | [], i, h => by simp [firstAt] at h
  | r :: l, i, h => by
    by_cases c : lowS r.name = x
    · rw [firstAt, if_pos c] at h; obtain rfl := Option.some.inj h; exact Nat.zero_le _
    · rw [firstAt, if_neg c] at h
      obtain ⟨j, hj, rfl⟩ := Option.map_eq_some_iff.1 h
      have := first_le hj
      simp only [dropH] at this
      simp only [dropH, List.filter_cons, c, not_false_eq_true, decide_true, if_true, List.length_cons]
      omega
theorem ownH_lt {w : World} {base : Nat} {v : Value} {l : List Hdr} (h : OwnH w base v l) : ∀ g, v.ownBlock = some g → g < w.heap.size := fun g hg => (World.ownsRow.lt h g hg).2
end Go.Proofs.YtolkgnnjocmkdaaGreatDoor
/-
  A line set among any number of lines.
-/
namespace Go.Proofs.YtolkgnnjocmkdaaGreatDoor
open Go.ChangeShapes Go.WideShapes Go.ChangeAt Go.RowKit Go.Sort
theorem with_low {w w1 : World} {n v : ByteArray} {t : TypeId} (hb : Below (w.heap.size + 1) (w.alloc (.cells #[.string n, .string v] t)) w1) : Below w.heap.size w w1 :=
  ((Below.refl _ _).alloc (Nat.le_refl _) _).trans (hb.mono (Nat.le_succ _))
set_option maxRecDepth 100000 in
set_option maxHeartbeats 16000000 in
theorem with_found {m : Nat} (w : World) (a : Option Addr) (cap : Nat) (l : List Hdr) (name value : ByteArray) (at' : Nat) (hf : firstAt (lowS name) l = some at') (h20 : l.length ≤ m) (hm : m ≤ 900) (hz : ∀ (i : Nat) r, l[i]? = some r → r.name.size ≤ 64 ∧ r.value.size ≤ 200) (hnm : name.size ≤ 64) (hi : HdsIn w a l) :
    Calls Tryz.prog 157 #[.slice a l.length cap, .agg #[.string name, .string value]] w fun e w' => KeptRes w.heap.size (setGo ⟨name, value⟩ false l) e w' ∧ Below w.heap.size w w' := by
  have HP : Hid (∀ W, Below w.heap.size w W → Calls Tryz.prog 103 #[.slice a l.length cap] W fun e w' => e = .returned (.map (some W.heap.size)) ∧ NamesMap w' W.heap.size m (fun x => firstAt x l) ∧ Below W.heap.size W w') := fun W hb => firstPlaces_any W a cap l h20 (fun i r hr => (hz i r hr).1) (hi.keep hb) (by omega)
  have HS : Hid (∀ W, Calls Tryz.prog 102 #[.string name] W fun e w' => e = .returned (.string (lowS name)) ∧ Below W.heap.size W w') := fun W => smallName_any name W (by omega)
  have HLN : Hid (∀ W BM, Below (w.heap.size + 1) (w.alloc (.cells #[.string name, .string value] 110)) W → NamesMap W BM m (fun y => if y = lowS name then none else firstAt y l) → Calls Tryz.prog 177 #[.slice a l.length cap, .map (some BM)] W fun e w' => KeptRes W.heap.size (dropH (lowS name) l) e w' ∧ Below W.heap.size W w') := fun W BM hb hm' => by
    rw [← keptH_drop]
    exact linesNamed_any W a cap l BM _ h20 hz (hi.keep (with_low hb)) hm' (by omega)
  have hDl : (dropH (lowS name) l).length ≤ m := Nat.le_trans (dropH_len _ _) h20
  have HINS : Hid (∀ W la lc vb, OwnH W (w.heap.size + 1) (.slice la (dropH (lowS name) l).length lc) (dropH (lowS name) l) → w.heap.size + 1 ≤ W.heap.size → W.heap[vb]? = some (.cells #[.string name, .string value] 110 (0, 0)) → (∀ g, (Value.slice la (dropH (lowS name) l).length lc).ownBlock = some g → vb ≠ g) →
      Calls Tryz.prog 208 #[.slice la (dropH (lowS name) l).length lc, .int .i64 (at' : Int), .slice (some ⟨vb, 0, none⟩) 1 1] W fun e w' => KeptRes (w.heap.size + 1) ((dropH (lowS name) l).take at' ++ [⟨name, value⟩] ++ (dropH (lowS name) l).drop at') e w' ∧ Below (w.heap.size + 1) W w') := fun W la lc vb ho hbs hvb hne => insert_any W (w.heap.size + 1) la lc (dropH (lowS name) l) at' name value vb _ ho hbs (by omega) (first_le hf) hvb hne
  have HY : Hid (setGo ⟨name, value⟩ false l = (dropH (lowS name) l).take at' ++ [⟨name, value⟩] ++ (dropH (lowS name) l).drop at') := by
    show _ = _
    rw [setGo_first]
    simp only [hf]
  have HFA : Hid (firstAt (lowS name) l = some at') := hf
  have sz := lowS_size name
  clear hi hz hf hDl
  generalize setGo ⟨name, value⟩ false l = RES0 at *
  generalize (dropH (lowS name) l).take at' ++ [⟨name, value⟩] ++ (dropH (lowS name) l).drop at' = RES at *
  generalize dropH (lowS name) l = L at *
  generalize hLn : L.length = ln at *
  have HLn : Hid (L.length = ln) := hLn
  generalize hVn : RES.length = vn at *
  have HVn : Hid (RES.length = vn) := hVn
  clear hLn hVn
  generalize lowS name = q at *
  generalize l.length = n at *
  go_enter Tryz.func157, Tryz.ntmps157
  go_wp2_with fail
  refine (HS.out _).mono ?_
  rintro e w1 ⟨rfl, hb1⟩
  rw [World.size_alloc] at hb1
  have HB1 : Hid (Below (w.heap.size + 1) (w.alloc (.cells #[.string name, .string value] 110)) w1) := hb1
  have hz1 : w.heap.size + 1 ≤ w1.heap.size := by have := hb1.size; rwa [World.size_alloc] at this
  clear hb1 HS
  go_wp2_with fail
  refine (HP.out _ (with_low HB1.out)).mono ?_
  rintro e w4 ⟨rfl, hm4, hb4⟩
  have HB4 : Hid (Below (w.heap.size + 1) (w.alloc (.cells #[.string name, .string value] 110)) w4) := HB1.out.trans (hb4.mono hz1)
  have hz4 : w.heap.size + 1 ≤ w4.heap.size := Nat.le_trans hz1 hb4.size
  have HM4 : Hid (NamesMap w4 w1.heap.size m (fun x => firstAt x l)) := hm4
  clear hb4 HB1 hm4 HP
  generalize w1.heap.size = BM at *
  try clear w1
  go_wp2_with (first | (at_lookup; refine wpList_look_some _ rfl _ _ rfl BM m _ rfl HM4.out q rfl (by omega) at' HFA.out ?_) | (at_delete; refine wpList_del _ rfl _ _ rfl BM m _ rfl HM4.out q rfl (by omega) BM (Nat.le_refl _) ?_; intro w7 HM7 hb7))
  have HB7 : Below (w.heap.size + 1) (w.alloc (.cells #[.string name, .string value] 110)) w7 := HB4.out.trans (hb7.mono hz1)
  have hz7 : w.heap.size + 1 ≤ w7.heap.size := by have := HB7.size; rwa [World.size_alloc] at this
  clear HB4 HM4 hz4
  refine wp_region_any (by kernel_rfl) ?_
  change wpAny _ _ _ _ _ _ _ (World.drew _)
  obtain ⟨Z, hZ⟩ : ∃ X, X = w7.drew := ⟨_, rfl⟩
  rw [← hZ]
  have KZ : Below w7.heap.size w7 Z := by
    rw [hZ]
    exact (Below.refl _ _).drew
  have HMZ : Hid (NamesMap Z BM m (fun y => if y = q then none else firstAt y l)) := HM7.below KZ
  have HBZ : Hid (Below (w.heap.size + 1) (w.alloc (.cells #[.string name, .string value] 110)) Z) := HB7.trans (KZ.mono hz7)
  have hzZ : w.heap.size + 1 ≤ Z.heap.size := Nat.le_trans hz7 KZ.size
  obtain ⟨l0, l1⟩ := box_room HBZ.out
  clear hZ KZ HM7 HB7 hb7
  refine wpAny_take (i := 0) (v := .slice a n cap) rfl (by kernel_rfl) (by kernel_rfl) (by kernel_rfl) (fun _ _ _ h => h) (Or.inl ⟨by kernel_rfl, ?_⟩) ?_
  · intro w; go_simp
  refine wpAny_take (i := 1) (v := .map (some BM)) rfl (by kernel_rfl) (by kernel_rfl) (by kernel_rfl) (fun _ _ _ h => h) (Or.inl ⟨by kernel_rfl, ?_⟩) ?_
  · intro w; go_simp
  refine wpAny_take (i := 3) (v := .int .i64 (at' : Int)) rfl (by kernel_rfl) (by kernel_rfl) (by kernel_rfl) (fun _ _ _ h => h) (Or.inl ⟨by kernel_rfl, ?_⟩) ?_
  · intro w; go_simp
  refine wpAny_ready (rs := [2, 4]) (by kernel_rfl) (by simp) ?_
  refine AllReady.cons rfl (fun K hK => ?_) (AllReady.cons rfl (fun K hK => ?_) AllReady.nil)
  · go_simp
    go_wp2_with fail
    refine (HLN.out _ _ HBZ.out HMZ.out).mono ?_
    rintro e wl ⟨⟨vl, rfl, hol⟩, hbl⟩
    obtain ⟨la, lc, hvl, _⟩ := hol.at
    rw [HLn.out] at hvl
    subst hvl
    refine hK _ _ ?_
    clear hK K
    have l0 := hkeep hbl l0
    have l1 := hkeep hbl l1
    refine wpAny_ready (rs := [4]) (by kernel_rfl) (by simp) ?_
    refine AllReady.cons rfl (fun K hK => ?_) AllReady.nil
    go_simp
    refine hK _ _ ?_
    clear hK K
    refine wpAny_ready (rs := [5]) (by kernel_rfl) (by simp) ?_
    refine AllReady.cons rfl (fun K hK => ?_) AllReady.nil
    go_simp
    refine hK _ _ ?_
    clear hK K
    have HBI : Below (w.heap.size + 1) (w.alloc (.cells #[.string name, .string value] 110)) (wl.alloc (.cells #[.string name, .string value] 110)) := (HBZ.out.trans (hbl.mono hzZ)).alloc (Nat.le_trans hzZ hbl.size) _
    have HX := HINS.out (wl.alloc (.cells #[.string name, .string value] 110)) la lc wl.heap.size ((hol.lower hzZ).below ((Below.refl _ _).alloc (Nat.le_refl _) _)) (by have := hbl.size; simp; omega) (MapKept.heap_alloc wl _).1 (fun g hg => by have := ownH_lt hol g hg; omega)
    refine wpAny_ready (rs := [6]) (by kernel_rfl) (by simp) ?_
    refine AllReady.cons rfl (fun K hK => ?_) AllReady.nil
    go_simp
    go_wp2_with fail
    refine (HX).mono ?_
    rintro e wi ⟨⟨vi, rfl, hoi⟩, hbi⟩
    refine hK _ _ ?_
    clear hK K
    obtain ⟨ia, ic, hvi, _⟩ := hoi.at
    rw [HVn.out] at hvi
    subst hvi
    have KB := with_low (HBI.trans hbi)
    refine wpAny_ready (rs := [7]) (by kernel_rfl) (by simp) ?_
    refine AllReady.cons rfl (fun K hK => ?_) AllReady.nil
    go_simp
    refine hK _ _ ?_
    clear hK K
    refine wpAny_done (by kernel_rfl) ?_ _
    go_wp2_with fail
    go_ret
    exact ⟨KeptRes.mk HY.out (hoi.lower (Nat.le_succ _)), KB⟩
  · go_simp
    refine hK _ _ ?_
    clear hK K
    refine wpAny_ready (rs := [2, 5]) (by kernel_rfl) (by simp) ?_
    refine AllReady.cons rfl (fun K hK => ?_) (AllReady.cons rfl (fun K hK => ?_) AllReady.nil)
    · go_simp
      go_wp2_with fail
      refine (HLN.out _ _ HBZ.out HMZ.out).mono ?_
      rintro e wl ⟨⟨vl, rfl, hol⟩, hbl⟩
      obtain ⟨la, lc, hvl, _⟩ := hol.at
      rw [HLn.out] at hvl
      subst hvl
      refine hK _ _ ?_
      clear hK K
      refine wpAny_ready (rs := [5]) (by kernel_rfl) (by simp) ?_
      refine AllReady.cons rfl (fun K hK => ?_) AllReady.nil
      go_simp
      refine hK _ _ ?_
      clear hK K
      have HBI : Below (w.heap.size + 1) (w.alloc (.cells #[.string name, .string value] 110)) (wl.alloc (.cells #[.string name, .string value] 110)) := (HBZ.out.trans (hbl.mono hzZ)).alloc (Nat.le_trans hzZ hbl.size) _
      have HX := HINS.out (wl.alloc (.cells #[.string name, .string value] 110)) la lc wl.heap.size ((hol.lower hzZ).below ((Below.refl _ _).alloc (Nat.le_refl _) _)) (by have := hbl.size; simp; omega) (MapKept.heap_alloc wl _).1 (fun g hg => by have := ownH_lt hol g hg; omega)
      refine wpAny_ready (rs := [6]) (by kernel_rfl) (by simp) ?_
      refine AllReady.cons rfl (fun K hK => ?_) AllReady.nil
      go_simp
      go_wp2_with fail
      refine (HX).mono ?_
      rintro e wi ⟨⟨vi, rfl, hoi⟩, hbi⟩
      refine hK _ _ ?_
      clear hK K
      obtain ⟨ia, ic, hvi, _⟩ := hoi.at
      rw [HVn.out] at hvi
      subst hvi
      have KB := with_low (HBI.trans hbi)
      refine wpAny_ready (rs := [7]) (by kernel_rfl) (by simp) ?_
      refine AllReady.cons rfl (fun K hK => ?_) AllReady.nil
      go_simp
      refine hK _ _ ?_
      clear hK K
      refine wpAny_done (by kernel_rfl) ?_ _
      go_wp2_with fail
      go_ret
      exact ⟨KeptRes.mk HY.out (hoi.lower (Nat.le_succ _)), KB⟩
    · go_simp
      refine hK _ _ ?_
      clear hK K
      have alZ : Below Z.heap.size Z (Z.alloc (.cells #[.string name, .string value] 110)) := (Below.refl _ _).alloc (Nat.le_refl _) _
      refine wpAny_ready (rs := [2]) (by kernel_rfl) (by simp) ?_
      refine AllReady.cons rfl (fun K hK => ?_) AllReady.nil
      go_simp
      go_wp2_with fail
      refine (HLN.out _ _ (HBZ.out.trans (alZ.mono hzZ)) (HMZ.out.below alZ)).mono ?_
      rintro e wl ⟨⟨vl, rfl, hol⟩, hbl⟩
      obtain ⟨la, lc, hvl, _⟩ := hol.at
      rw [HLn.out] at hvl
      subst hvl
      refine hK _ _ ?_
      clear hK K
      have HBI : Below (w.heap.size + 1) (w.alloc (.cells #[.string name, .string value] 110)) wl := HBZ.out.trans ((alZ.mono hzZ).trans (hbl.mono (by simp; omega)))
      have HX := HINS.out wl la lc Z.heap.size (hol.lower (by simp; omega)) (by have := hbl.size; simp at this; omega) (by rw [hbl.block Z.heap.size (by simp)]; exact (MapKept.heap_alloc Z _).1) (fun g hg => by have := own_geH hol g hg; simp at this; omega)
      refine wpAny_ready (rs := [6]) (by kernel_rfl) (by simp) ?_
      refine AllReady.cons rfl (fun K hK => ?_) AllReady.nil
      go_simp
      go_wp2_with fail
      refine (HX).mono ?_
      rintro e wi ⟨⟨vi, rfl, hoi⟩, hbi⟩
      refine hK _ _ ?_
      clear hK K
      obtain ⟨ia, ic, hvi, _⟩ := hoi.at
      rw [HVn.out] at hvi
      subst hvi
      have KB := with_low (HBI.trans hbi)
      refine wpAny_ready (rs := [7]) (by kernel_rfl) (by simp) ?_
      refine AllReady.cons rfl (fun K hK => ?_) AllReady.nil
      go_simp
      refine hK _ _ ?_
      clear hK K
      refine wpAny_done (by kernel_rfl) ?_ _
      go_wp2_with fail
      go_ret
      exact ⟨KeptRes.mk HY.out (hoi.lower (Nat.le_succ _)), KB⟩
set_option maxRecDepth 100000 in
set_option maxHeartbeats 16000000 in
theorem with_new {m : Nat} (w : World) (a : Option Addr) (cap : Nat) (l : List Hdr) (name value : ByteArray) (hf : firstAt (lowS name) l = none) (h20 : l.length ≤ m) (hm : m ≤ 900) (hz : ∀ (i : Nat) r, l[i]? = some r → r.name.size ≤ 64 ∧ r.value.size ≤ 200) (hnm : name.size ≤ 64) (hi : HdsIn w a l) :
    Calls Tryz.prog 157 #[.slice a l.length cap, .agg #[.string name, .string value]] w fun e w' => KeptRes w.heap.size (setGo ⟨name, value⟩ false l) e w' ∧ Below w.heap.size w w' := by
  have HP : Hid (∀ W, Below w.heap.size w W → Calls Tryz.prog 103 #[.slice a l.length cap] W fun e w' => e = .returned (.map (some W.heap.size)) ∧ NamesMap w' W.heap.size m (fun x => firstAt x l) ∧ Below W.heap.size W w') := fun W hb => firstPlaces_any W a cap l h20 (fun i r hr => (hz i r hr).1) (hi.keep hb) (by omega)
  have HS : Hid (∀ W, Calls Tryz.prog 102 #[.string name] W fun e w' => e = .returned (.string (lowS name)) ∧ Below W.heap.size W w') := fun W => smallName_any name W (by omega)
  have HLN : Hid (∀ W BM, Below (w.heap.size + 1) (w.alloc (.cells #[.string name, .string value] 110)) W → NamesMap W BM m (fun y => if y = lowS name then none else firstAt y l) → Calls Tryz.prog 177 #[.slice a l.length cap, .map (some BM)] W fun e w' => KeptRes W.heap.size (dropH (lowS name) l) e w' ∧ Below W.heap.size W w') := fun W BM hb hm' => by
    rw [← keptH_drop]
    exact linesNamed_any W a cap l BM _ h20 hz (hi.keep (with_low hb)) hm' (by omega)
  have hDl : (dropH (lowS name) l).length ≤ m := Nat.le_trans (dropH_len _ _) h20
  have HINS : Hid (∀ W la lc vb, OwnH W (w.heap.size + 1) (.slice la (dropH (lowS name) l).length lc) (dropH (lowS name) l) → w.heap.size + 1 ≤ W.heap.size → W.heap[vb]? = some (.cells #[.string name, .string value] 110 (0, 0)) → (∀ g, (Value.slice la (dropH (lowS name) l).length lc).ownBlock = some g → vb ≠ g) →
      Calls Tryz.prog 208 #[.slice la (dropH (lowS name) l).length lc, .int .i64 (l.length : Int), .slice (some ⟨vb, 0, none⟩) 1 1] W fun e w' => KeptRes (w.heap.size + 1) ((dropH (lowS name) l).take l.length ++ [⟨name, value⟩] ++ (dropH (lowS name) l).drop l.length) e w' ∧ Below (w.heap.size + 1) W w') := fun W la lc vb ho hbs hvb hne => insert_any W (w.heap.size + 1) la lc (dropH (lowS name) l) l.length name value vb _ ho hbs (by omega) (by rw [dropH_all hf]; exact Nat.le_refl _) hvb hne
  have HY : Hid (setGo ⟨name, value⟩ false l = (dropH (lowS name) l).take l.length ++ [⟨name, value⟩] ++ (dropH (lowS name) l).drop l.length) := by
    show _ = _
    rw [setGo_first]
    simp only [hf]
    rw [dropH_all hf]
    simp
  have HFA : Hid (firstAt (lowS name) l = none) := hf
  have sz := lowS_size name
  clear hi hz hf hDl
  generalize setGo ⟨name, value⟩ false l = RES0 at *
  generalize (dropH (lowS name) l).take l.length ++ [⟨name, value⟩] ++ (dropH (lowS name) l).drop l.length = RES at *
  generalize dropH (lowS name) l = L at *
  generalize hLn : L.length = ln at *
  have HLn : Hid (L.length = ln) := hLn
  generalize hVn : RES.length = vn at *
  have HVn : Hid (RES.length = vn) := hVn
  clear hLn hVn
  generalize lowS name = q at *
  generalize l.length = n at *
  go_enter Tryz.func157, Tryz.ntmps157
  go_wp2_with fail
  refine (HS.out _).mono ?_
  rintro e w1 ⟨rfl, hb1⟩
  rw [World.size_alloc] at hb1
  have HB1 : Hid (Below (w.heap.size + 1) (w.alloc (.cells #[.string name, .string value] 110)) w1) := hb1
  have hz1 : w.heap.size + 1 ≤ w1.heap.size := by have := hb1.size; rwa [World.size_alloc] at this
  clear hb1 HS
  go_wp2_with fail
  refine (HP.out _ (with_low HB1.out)).mono ?_
  rintro e w4 ⟨rfl, hm4, hb4⟩
  have HB4 : Hid (Below (w.heap.size + 1) (w.alloc (.cells #[.string name, .string value] 110)) w4) := HB1.out.trans (hb4.mono hz1)
  have hz4 : w.heap.size + 1 ≤ w4.heap.size := Nat.le_trans hz1 hb4.size
  have HM4 : Hid (NamesMap w4 w1.heap.size m (fun x => firstAt x l)) := hm4
  clear hb4 HB1 hm4 HP
  generalize w1.heap.size = BM at *
  try clear w1
  go_wp2_with (first | (at_lookup; refine wpList_look_none _ rfl _ _ rfl BM m _ rfl HM4.out q rfl (by omega) HFA.out ?_) | (at_delete; refine wpList_del _ rfl _ _ rfl BM m _ rfl HM4.out q rfl (by omega) BM (Nat.le_refl _) ?_; intro w7 HM7 hb7))
  have HB7 : Below (w.heap.size + 1) (w.alloc (.cells #[.string name, .string value] 110)) w7 := HB4.out.trans (hb7.mono hz1)
  have hz7 : w.heap.size + 1 ≤ w7.heap.size := by have := HB7.size; rwa [World.size_alloc] at this
  clear HB4 HM4 hz4
  refine wp_region_any (by kernel_rfl) ?_
  change wpAny _ _ _ _ _ _ _ (World.drew _)
  obtain ⟨Z, hZ⟩ : ∃ X, X = w7.drew := ⟨_, rfl⟩
  rw [← hZ]
  have KZ : Below w7.heap.size w7 Z := by
    rw [hZ]
    exact (Below.refl _ _).drew
  have HMZ : Hid (NamesMap Z BM m (fun y => if y = q then none else firstAt y l)) := HM7.below KZ
  have HBZ : Hid (Below (w.heap.size + 1) (w.alloc (.cells #[.string name, .string value] 110)) Z) := HB7.trans (KZ.mono hz7)
  have hzZ : w.heap.size + 1 ≤ Z.heap.size := Nat.le_trans hz7 KZ.size
  obtain ⟨l0, l1⟩ := box_room HBZ.out
  clear hZ KZ HM7 HB7 hb7
  refine wpAny_take (i := 0) (v := .slice a n cap) rfl (by kernel_rfl) (by kernel_rfl) (by kernel_rfl) (fun _ _ _ h => h) (Or.inl ⟨by kernel_rfl, ?_⟩) ?_
  · intro w; go_simp
  refine wpAny_take (i := 1) (v := .map (some BM)) rfl (by kernel_rfl) (by kernel_rfl) (by kernel_rfl) (fun _ _ _ h => h) (Or.inl ⟨by kernel_rfl, ?_⟩) ?_
  · intro w; go_simp
  refine wpAny_take (i := 3) (v := .int .i64 (n : Int)) rfl (by kernel_rfl) (by kernel_rfl) (by kernel_rfl) (fun _ _ _ h => h) (Or.inl ⟨by kernel_rfl, ?_⟩) ?_
  · intro w; go_simp
  refine wpAny_ready (rs := [2, 4]) (by kernel_rfl) (by simp) ?_
  refine AllReady.cons rfl (fun K hK => ?_) (AllReady.cons rfl (fun K hK => ?_) AllReady.nil)
  · go_simp
    go_wp2_with fail
    refine (HLN.out _ _ HBZ.out HMZ.out).mono ?_
    rintro e wl ⟨⟨vl, rfl, hol⟩, hbl⟩
    obtain ⟨la, lc, hvl, _⟩ := hol.at
    rw [HLn.out] at hvl
    subst hvl
    refine hK _ _ ?_
    clear hK K
    have l0 := hkeep hbl l0
    have l1 := hkeep hbl l1
    refine wpAny_ready (rs := [4]) (by kernel_rfl) (by simp) ?_
    refine AllReady.cons rfl (fun K hK => ?_) AllReady.nil
    go_simp
    refine hK _ _ ?_
    clear hK K
    refine wpAny_ready (rs := [5]) (by kernel_rfl) (by simp) ?_
    refine AllReady.cons rfl (fun K hK => ?_) AllReady.nil
    go_simp
    refine hK _ _ ?_
    clear hK K
    have HBI : Below (w.heap.size + 1) (w.alloc (.cells #[.string name, .string value] 110)) (wl.alloc (.cells #[.string name, .string value] 110)) := (HBZ.out.trans (hbl.mono hzZ)).alloc (Nat.le_trans hzZ hbl.size) _
    have HX := HINS.out (wl.alloc (.cells #[.string name, .string value] 110)) la lc wl.heap.size ((hol.lower hzZ).below ((Below.refl _ _).alloc (Nat.le_refl _) _)) (by have := hbl.size; simp; omega) (MapKept.heap_alloc wl _).1 (fun g hg => by have := ownH_lt hol g hg; omega)
    refine wpAny_ready (rs := [6]) (by kernel_rfl) (by simp) ?_
    refine AllReady.cons rfl (fun K hK => ?_) AllReady.nil
    go_simp
    go_wp2_with fail
    refine (HX).mono ?_
    rintro e wi ⟨⟨vi, rfl, hoi⟩, hbi⟩
    refine hK _ _ ?_
    clear hK K
    obtain ⟨ia, ic, hvi, _⟩ := hoi.at
    rw [HVn.out] at hvi
    subst hvi
    have KB := with_low (HBI.trans hbi)
    refine wpAny_ready (rs := [7]) (by kernel_rfl) (by simp) ?_
    refine AllReady.cons rfl (fun K hK => ?_) AllReady.nil
    go_simp
    refine hK _ _ ?_
    clear hK K
    refine wpAny_done (by kernel_rfl) ?_ _
    go_wp2_with fail
    go_ret
    exact ⟨KeptRes.mk HY.out (hoi.lower (Nat.le_succ _)), KB⟩
  · go_simp
    refine hK _ _ ?_
    clear hK K
    refine wpAny_ready (rs := [2, 5]) (by kernel_rfl) (by simp) ?_
    refine AllReady.cons rfl (fun K hK => ?_) (AllReady.cons rfl (fun K hK => ?_) AllReady.nil)
    · go_simp
      go_wp2_with fail
      refine (HLN.out _ _ HBZ.out HMZ.out).mono ?_
      rintro e wl ⟨⟨vl, rfl, hol⟩, hbl⟩
      obtain ⟨la, lc, hvl, _⟩ := hol.at
      rw [HLn.out] at hvl
      subst hvl
      refine hK _ _ ?_
      clear hK K
      refine wpAny_ready (rs := [5]) (by kernel_rfl) (by simp) ?_
      refine AllReady.cons rfl (fun K hK => ?_) AllReady.nil
      go_simp
      refine hK _ _ ?_
      clear hK K
      have HBI : Below (w.heap.size + 1) (w.alloc (.cells #[.string name, .string value] 110)) (wl.alloc (.cells #[.string name, .string value] 110)) := (HBZ.out.trans (hbl.mono hzZ)).alloc (Nat.le_trans hzZ hbl.size) _
      have HX := HINS.out (wl.alloc (.cells #[.string name, .string value] 110)) la lc wl.heap.size ((hol.lower hzZ).below ((Below.refl _ _).alloc (Nat.le_refl _) _)) (by have := hbl.size; simp; omega) (MapKept.heap_alloc wl _).1 (fun g hg => by have := ownH_lt hol g hg; omega)
      refine wpAny_ready (rs := [6]) (by kernel_rfl) (by simp) ?_
      refine AllReady.cons rfl (fun K hK => ?_) AllReady.nil
      go_simp
      go_wp2_with fail
      refine (HX).mono ?_
      rintro e wi ⟨⟨vi, rfl, hoi⟩, hbi⟩
      refine hK _ _ ?_
      clear hK K
      obtain ⟨ia, ic, hvi, _⟩ := hoi.at
      rw [HVn.out] at hvi
      subst hvi
      have KB := with_low (HBI.trans hbi)
      refine wpAny_ready (rs := [7]) (by kernel_rfl) (by simp) ?_
      refine AllReady.cons rfl (fun K hK => ?_) AllReady.nil
      go_simp
      refine hK _ _ ?_
      clear hK K
      refine wpAny_done (by kernel_rfl) ?_ _
      go_wp2_with fail
      go_ret
      exact ⟨KeptRes.mk HY.out (hoi.lower (Nat.le_succ _)), KB⟩
    · go_simp
      refine hK _ _ ?_
      clear hK K
      have alZ : Below Z.heap.size Z (Z.alloc (.cells #[.string name, .string value] 110)) := (Below.refl _ _).alloc (Nat.le_refl _) _
      refine wpAny_ready (rs := [2]) (by kernel_rfl) (by simp) ?_
      refine AllReady.cons rfl (fun K hK => ?_) AllReady.nil
      go_simp
      go_wp2_with fail
      refine (HLN.out _ _ (HBZ.out.trans (alZ.mono hzZ)) (HMZ.out.below alZ)).mono ?_
      rintro e wl ⟨⟨vl, rfl, hol⟩, hbl⟩
      obtain ⟨la, lc, hvl, _⟩ := hol.at
      rw [HLn.out] at hvl
      subst hvl
      refine hK _ _ ?_
      clear hK K
      have HBI : Below (w.heap.size + 1) (w.alloc (.cells #[.string name, .string value] 110)) wl := HBZ.out.trans ((alZ.mono hzZ).trans (hbl.mono (by simp; omega)))
      have HX := HINS.out wl la lc Z.heap.size (hol.lower (by simp; omega)) (by have := hbl.size; simp at this; omega) (by rw [hbl.block Z.heap.size (by simp)]; exact (MapKept.heap_alloc Z _).1) (fun g hg => by have := own_geH hol g hg; simp at this; omega)
      refine wpAny_ready (rs := [6]) (by kernel_rfl) (by simp) ?_
      refine AllReady.cons rfl (fun K hK => ?_) AllReady.nil
      go_simp
      go_wp2_with fail
      refine (HX).mono ?_
      rintro e wi ⟨⟨vi, rfl, hoi⟩, hbi⟩
      refine hK _ _ ?_
      clear hK K
      obtain ⟨ia, ic, hvi, _⟩ := hoi.at
      rw [HVn.out] at hvi
      subst hvi
      have KB := with_low (HBI.trans hbi)
      refine wpAny_ready (rs := [7]) (by kernel_rfl) (by simp) ?_
      refine AllReady.cons rfl (fun K hK => ?_) AllReady.nil
      go_simp
      refine hK _ _ ?_
      clear hK K
      refine wpAny_done (by kernel_rfl) ?_ _
      go_wp2_with fail
      go_ret
      exact ⟨KeptRes.mk HY.out (hoi.lower (Nat.le_succ _)), KB⟩
theorem withLine_any {m : Nat} (w : World) (a : Option Addr) (cap : Nat) (l : List Hdr) (h : Hdr) (h20 : l.length ≤ m) (hm : m ≤ 900) (hz : ∀ (i : Nat) r, l[i]? = some r → r.name.size ≤ 64 ∧ r.value.size ≤ 200) (hnm : h.name.size ≤ 64) (hi : HdsIn w a l) :
    Calls Tryz.prog 157 #[.slice a l.length cap, .agg #[.string h.name, .string h.value]] w fun e w' => KeptRes w.heap.size (setGo h false l) e w' ∧ Below w.heap.size w w' := by
  obtain ⟨name, value⟩ := h
  cases hf : firstAt (lowS name) l with
  | some i => exact with_found w a cap l name value i hf h20 hm hz hnm hi
  | none => exact with_new w a cap l name value hf h20 hm hz hnm hi
end Go.Proofs.YtolkgnnjocmkdaaGreatDoor
/-
  What SetHeader answers, at every argument.
-/
namespace Go.Proofs.YtolkgnnjocmkdaaGreatDoor
open Go.ChangeShapes Go.WideShapes Go.ChangeAt Go.RowKit Go.Sort
set_option maxRecDepth 100000 in
set_option maxHeartbeats 4000000 in
theorem implSet_any (w : World) (a : Option Addr) (cap : Nat) (l : List Hdr) (name value : ByteArray) (hl : l.length ≤ 1048576) (hnz : name.size ≤ 1048576) (hv : value.size ≤ 1048576) (hset : SetIs w) (hi : HdsIn w a l) :
    Calls Tryz.prog 109 #[.slice a l.length cap, .string name, .string value] w fun e w' => HRes (setC l ⟨name, value⟩) (setL l ⟨name, value⟩) w.heap.size e w' ∧ Below w.heap.size w w' := by
  have HA : Hid (∀ W, Below w.heap.size w W → Calls Tryz.prog 101 #[.slice a l.length cap, .string name] W fun e w' => e = .returned (.int .i64 (askC l name)) ∧ Below W.heap.size W w') := fun W hb => namedFault_any W a cap l name hl (hset.below hb) (hi.keep hb)
  have HLF : Hid (∀ W, Below w.heap.size w W → Calls Tryz.prog 153 #[.agg #[.string name, .string value]] W fun e w' => e = .returned (.int .i64 (faultH ⟨name, value⟩)) ∧ Below W.heap.size W w') := fun W hb => implLine_any ⟨name, value⟩ W (hset.below hb)
  have HLO : Hid (∀ W, Calls Tryz.prog 65 #[.string name, .string value] W fun e w' => e = .returned (.agg #[.string name, .string value]) ∧ Below W.heap.size W w') := fun W => lineOf_any name value W hnz hv
  by_cases h0 : askC l name = 0
  · by_cases h1 : faultH ⟨name, value⟩ = 0
    · obtain ⟨h20, hz, hnm⟩ := asked h0
      have HG : Hid (∀ W, Below w.heap.size w W → Calls Tryz.prog 157 #[.slice a l.length cap, .agg #[.string name, .string value]] W fun e w' => KeptRes W.heap.size (setGo ⟨name, value⟩ false l) e w' ∧ Below W.heap.size W w') := fun W hb => withLine_any W a cap l ⟨name, value⟩ h20 (by decide) hz hnm (hi.keep hb)
      have hsl : (setGo ⟨name, value⟩ false l).length ≤ 1000 := by
        rw [setGo_len]
        have := dropH_len (lowS name) l
        cases firstAt (lowS (Hdr.mk name value).name) l <;> simp only <;> omega
      have S2 := @set_many l ⟨name, value⟩ h0 h1
      have S3 := @set_ok l ⟨name, value⟩ h0 h1
      rw [h0] at HA
      rw [h1] at HLF
      clear hi hz h0 h1 hset hnm h20 hl
      generalize l.length = n at *
      by_cases h2 : 20 < (setGo ⟨name, value⟩ false l).length
      · have HY : Hid (setC l ⟨name, value⟩ = 2 ∧ setL l ⟨name, value⟩ = []) := S2 h2
        clear S2 S3
        generalize setGo ⟨name, value⟩ false l = M at *
        have gM : (20 : Int) < (M.length : Int) := by omega
        go_enter Tryz.func109, Tryz.ntmps109
        go_wp2_with fail
        refine (HA.out _ ((Below.refl _ _).alloc (Nat.le_refl _) _)).mono ?_
        rintro e w1 ⟨rfl, hb1⟩
        rw [World.size_alloc] at hb1
        have HB1 : Hid (Below (w.heap.size + 1) (w.alloc (.cells #[.int .i64 0, .slice none 0 0] 157)) w1) := hb1
        have hz1 : w.heap.size + 1 ≤ w1.heap.size := by have := hb1.size; rwa [World.size_alloc] at this
        clear hb1 HA
        go_wp2_with fail
        refine (HLO.out _).mono ?_
        rintro e w2 ⟨rfl, hb2⟩
        have HB2 : Hid (Below (w.heap.size + 1) (w.alloc (.cells #[.int .i64 0, .slice none 0 0] 157)) w2) := HB1.out.trans (hb2.mono hz1)
        have hz2 : w.heap.size + 1 ≤ w2.heap.size := Nat.le_trans hz1 hb2.size
        clear hb2 HB1 HLO hz1
        go_wp2_with fail
        refine (HLF.out _ ((heads_room HB2.out).2.2.2.2.2.alloc (by omega) _)).mono ?_
        rintro e w3 ⟨rfl, hb3⟩
        obtain ⟨hlt3, l0, l1, kb3⟩ := hdr_room hb3
        have HB3 : Hid (Below (w.heap.size + 1) (w.alloc (.cells #[.int .i64 0, .slice none 0 0] 157)) w3) := HB2.out.trans (kb3.mono hz2)
        have hz3 : w.heap.size + 1 ≤ w3.heap.size := Nat.le_trans hz2 kb3.size
        clear hb3 kb3 HB2 HLF hz2
        go_wp2_with fail
        refine (HG.out _ (heads_room HB3.out).2.2.2.2.2).mono ?_
        rintro e w4 ⟨⟨v, rfl, ho⟩, hb4⟩
        obtain ⟨va, vc, hv, _⟩ := ho.at
        subst hv
        obtain ⟨hz4, q0, q1, f0, f1, kb⟩ := heads_room (HB3.out.trans (hb4.mono hz3))
        obtain ⟨r0, r1⟩ := two_set (v0 := .int .i64 2) (v1 := .slice none 0 0) q0 q1
        clear ho hb4 HB3 HG
        generalize M.length = mn at *
        go_wp2_with fail
        exact bodyPost_ret (v := .agg #[.int .i64 2, .slice none 0 0]) (by simp [results, Tryz.results109, go_sem, r0, r1]) rfl ⟨HRes.mk HY.out (OwnH.nil _ _), (kb.setCell (Nat.le_refl _) _).setCell (Nat.le_refl _) _⟩
      · have HY : Hid (setC l ⟨name, value⟩ = 0 ∧ setL l ⟨name, value⟩ = setGo ⟨name, value⟩ false l) := S3 h2
        clear S2 S3
        generalize setGo ⟨name, value⟩ false l = M at *
        have gM : ¬ (20 : Int) < (M.length : Int) := by omega
        go_enter Tryz.func109, Tryz.ntmps109
        go_wp2_with fail
        refine (HA.out _ ((Below.refl _ _).alloc (Nat.le_refl _) _)).mono ?_
        rintro e w1 ⟨rfl, hb1⟩
        rw [World.size_alloc] at hb1
        have HB1 : Hid (Below (w.heap.size + 1) (w.alloc (.cells #[.int .i64 0, .slice none 0 0] 157)) w1) := hb1
        have hz1 : w.heap.size + 1 ≤ w1.heap.size := by have := hb1.size; rwa [World.size_alloc] at this
        clear hb1 HA
        go_wp2_with fail
        refine (HLO.out _).mono ?_
        rintro e w2 ⟨rfl, hb2⟩
        have HB2 : Hid (Below (w.heap.size + 1) (w.alloc (.cells #[.int .i64 0, .slice none 0 0] 157)) w2) := HB1.out.trans (hb2.mono hz1)
        have hz2 : w.heap.size + 1 ≤ w2.heap.size := Nat.le_trans hz1 hb2.size
        clear hb2 HB1 HLO hz1
        go_wp2_with fail
        refine (HLF.out _ ((heads_room HB2.out).2.2.2.2.2.alloc (by omega) _)).mono ?_
        rintro e w3 ⟨rfl, hb3⟩
        obtain ⟨hlt3, l0, l1, kb3⟩ := hdr_room hb3
        have HB3 : Hid (Below (w.heap.size + 1) (w.alloc (.cells #[.int .i64 0, .slice none 0 0] 157)) w3) := HB2.out.trans (kb3.mono hz2)
        have hz3 : w.heap.size + 1 ≤ w3.heap.size := Nat.le_trans hz2 kb3.size
        clear hb3 kb3 HB2 HLF hz2
        go_wp2_with fail
        refine (HG.out _ (heads_room HB3.out).2.2.2.2.2).mono ?_
        rintro e w4 ⟨⟨v, rfl, ho⟩, hb4⟩
        obtain ⟨va, vc, hv, _⟩ := ho.at
        subst hv
        obtain ⟨hz4, q0, q1, f0, f1, kb⟩ := heads_room (HB3.out.trans (hb4.mono hz3))
        have KO : Hid (OwnH w4 (w.heap.size + 1) (.slice va M.length vc) M) := ho.lower hz3
        clear ho hb4 HB3 HG
        generalize M.length = mn at *
        obtain ⟨r0, r1⟩ := two_set (v0 := .int .i64 0) (v1 := .slice va mn vc) q0 q1
        go_wp2_with fail
        exact bodyPost_ret (v := .agg #[.int .i64 0, .slice va mn vc]) (by simp [results, Tryz.results109, go_sem, r0, r1]) rfl ⟨HRes.mk HY.out ((ownH_set (ownH_set KO.out (Nat.lt_succ_self _)) (Nat.lt_succ_self _)).lower (Nat.le_succ _)), (kb.setCell (Nat.le_refl _) _).setCell (Nat.le_refl _) _⟩
    · have HY : Hid (setC l ⟨name, value⟩ = faultH ⟨name, value⟩ ∧ setL l ⟨name, value⟩ = []) := set_line (h := ⟨name, value⟩) h0 h1
      rw [h0] at HA
      clear hi hset h0
      generalize faultH ⟨name, value⟩ = ff at *
      generalize l.length = n at *
      go_enter Tryz.func109, Tryz.ntmps109
      go_wp2_with fail
      refine (HA.out _ ((Below.refl _ _).alloc (Nat.le_refl _) _)).mono ?_
      rintro e w1 ⟨rfl, hb1⟩
      rw [World.size_alloc] at hb1
      have HB1 : Hid (Below (w.heap.size + 1) (w.alloc (.cells #[.int .i64 0, .slice none 0 0] 157)) w1) := hb1
      have hz1 : w.heap.size + 1 ≤ w1.heap.size := by have := hb1.size; rwa [World.size_alloc] at this
      clear hb1 HA
      go_wp2_with fail
      refine (HLO.out _).mono ?_
      rintro e w2 ⟨rfl, hb2⟩
      have HB2 : Hid (Below (w.heap.size + 1) (w.alloc (.cells #[.int .i64 0, .slice none 0 0] 157)) w2) := HB1.out.trans (hb2.mono hz1)
      have hz2 : w.heap.size + 1 ≤ w2.heap.size := Nat.le_trans hz1 hb2.size
      clear hb2 HB1 HLO hz1
      go_wp2_with fail
      refine (HLF.out _ ((heads_room HB2.out).2.2.2.2.2.alloc (by omega) _)).mono ?_
      rintro e w3 ⟨rfl, hb3⟩
      obtain ⟨hlt3, l0, l1, kb3⟩ := hdr_room hb3
      obtain ⟨hz3, q0, q1, f0, f1, kb⟩ := heads_room (HB2.out.trans (kb3.mono hz2))
      obtain ⟨r0, r1⟩ := two_set (v0 := .int .i64 ff) (v1 := .slice none 0 0) q0 q1
      clear hb3 kb3 HB2 HLF hz2
      go_wp2_with fail
      exact bodyPost_ret (v := .agg #[.int .i64 ff, .slice none 0 0]) (by simp [results, Tryz.results109, go_sem, r0, r1]) rfl ⟨HRes.mk HY.out (OwnH.nil _ _), (kb.setCell (Nat.le_refl _) _).setCell (Nat.le_refl _) _⟩
  · have HY : Hid (setC l ⟨name, value⟩ = askC l name ∧ setL l ⟨name, value⟩ = []) := set_ask (h := ⟨name, value⟩) h0
    clear hi hset HLF HLO
    generalize askC l name = fc at *
    generalize l.length = n at *
    go_enter Tryz.func109, Tryz.ntmps109
    go_wp2_with fail
    refine (HA.out _ ((Below.refl _ _).alloc (Nat.le_refl _) _)).mono ?_
    rintro e w1 ⟨rfl, hb1⟩
    rw [World.size_alloc] at hb1
    obtain ⟨hz2, q0, q1, f0, f1, kb⟩ := heads_room hb1
    obtain ⟨r0, r1⟩ := two_set (v0 := .int .i64 fc) (v1 := .slice none 0 0) q0 q1
    clear hb1 HA
    go_wp2_with fail
    exact bodyPost_ret (v := .agg #[.int .i64 fc, .slice none 0 0]) (by simp [results, Tryz.results109, go_sem, r0, r1]) rfl ⟨HRes.mk HY.out (OwnH.nil _ _), (kb.setCell (Nat.le_refl _) _).setCell (Nat.le_refl _) _⟩
end Go.Proofs.YtolkgnnjocmkdaaGreatDoor
/-
  Requests and responses, plainly: their faults. No Go in sight.
-/
namespace Go.Proofs.YtolkgnnjocmkdaaGreatDoor
def allP (p : Int → Bool) (l : List UInt8) : Bool := l.all fun c => p (c.toNat : Int)
theorem allP_snoc (p : Int → Bool) (l : List UInt8) (c : UInt8) : allP p (l ++ [c]) = (allP p l && p (c.toNat : Int)) := by simp [allP]
theorem allP_of_take (p : Int → Bool) (l : List UInt8) (k : Nat) (h : allP p (l.take k) = false) : allP p l = false := by
  have e := List.take_append_drop k l
  rw [← e]
  simp only [allP] at h ⊢
  rw [List.all_append, h, Bool.false_and]
theorem allP_not (p : Int → Bool) (s : ByteArray) (k : Nat) (h : k < s.size) (hd : p (s[k].toNat : Int) = false) : allP p s.data.toList = false := by
  refine allP_of_take p _ (k + 1) ?_
  rw [take_snoc s k h, allP_snoc, hd, Bool.and_false]
theorem allP_mem {p : Int → Bool} {l : List UInt8} (h : allP p l = true) : ∀ c ∈ l, p (c.toNat : Int) = true := by
  simpa [allP] using h
theorem allP_of_mem {p : Int → Bool} {l : List UInt8} (h : ∀ c ∈ l, p (c.toNat : Int) = true) : allP p l = true := by
  simpa [allP] using h
def hostI (c : Int) : Bool := (decide (97 ≤ c) && decide (c ≤ 122)) || (decide (65 ≤ c) && decide (c ≤ 90)) || (decide (48 ≤ c) && decide (c ≤ 57)) || decide (c = 46) || decide (c = 45)
theorem hostI_big (c : Int) (h : 128 ≤ c) : hostI c = false := by
  simp [hostI]; omega
def markI (c : Nat) : Bool := [47, 63, 61, 38, 58, 64, 44, 59, 40, 41].contains c
def pathI (c : Int) : Bool := markI c.toNat || wordI c
theorem pathI_big (c : Int) (h : 128 ≤ c) : pathI c = false := by
  have e : markI c.toNat = false := by
    have : 128 ≤ c.toNat := by omega
    simp [markI]; omega
  rw [pathI, e, wordI_big c h]; rfl
def hostS (s : ByteArray) : Bool := decide (1 ≤ s.size) && decide (s.size ≤ 60) && allP hostI s.data.toList
theorem hostS_short (s : ByteArray) (h : s.size < 1) : hostS s = false := by simp [hostS]; omega
theorem hostS_long (s : ByteArray) (h : 60 < s.size) : hostS s = false := by simp [hostS]; omega
theorem hostS_mid (s : ByteArray) (h1 : 1 ≤ s.size) (h2 : s.size ≤ 60) : hostS s = allP hostI s.data.toList := by simp [hostS, h1, h2]
def pathS (s : ByteArray) : Bool := decide (s.data.toList.head? = some 47) && decide (s.size ≤ 100) && allP pathI s.data.toList
theorem pathS_first (s : ByteArray) (h : ¬ s.data.toList.head? = some 47) : pathS s = false := by simp [pathS, h]
theorem pathS_long (s : ByteArray) (h : 100 < s.size) : pathS s = false := by
  have : ¬ s.size ≤ 100 := by omega
  simp [pathS, this]
theorem pathS_mid (s : ByteArray) (h1 : s.data.toList.head? = some 47) (h2 : s.size ≤ 100) : pathS s = allP pathI s.data.toList := by simp [pathS, h1, h2]
theorem head_get (s : ByteArray) (h : 0 < s.size) : s.data.toList.head? = some s[0] := by
  rw [List.head?_eq_getElem?, List.getElem?_eq_getElem (by simpa using h)]; rfl
theorem head_none (s : ByteArray) (h : s.size < 1) : s.data.toList.head? = none := by
  have : s.data.toList = [] := List.eq_nil_of_length_eq_zero (by rw [Array.length_toList]; exact Nat.lt_one_iff.1 h)
  rw [this]; rfl
def getT : ByteArray := ⟨#[71, 69, 84]⟩
def headT : ByteArray := ⟨#[72, 69, 65, 68]⟩
def hostN : ByteArray := ⟨#[104, 111, 115, 116]⟩
def methS (m : ByteArray) : Bool := decide (m = getT) || decide (m = headT)
def lineS (m h p : ByteArray) : Bool := methS m && hostS h && pathS p
def restC (l : List Hdr) : Int := if headsC l = 0 then (if valsOf hostN l = [] then (if 20 ≤ l.length then 2 else 0) else 6) else headsC l
def reqC (m h p : ByteArray) (l : List Hdr) : Int := if lineS m h p = true then restC l else 5
theorem reqC_bad {m h p : ByteArray} {l : List Hdr} (c : lineS m h p = false) : reqC m h p l = 5 := by rw [reqC, if_neg (by rw [c]; decide)]
theorem reqC_ok {m h p : ByteArray} {l : List Hdr} (c : lineS m h p = true) : reqC m h p l = restC l := by rw [reqC, if_pos c]
theorem restC_heads {l : List Hdr} (h : headsC l ≠ 0) : restC l = headsC l := by rw [restC, if_neg h]
theorem restC_host {l : List Hdr} (h : headsC l = 0) (hv : valsOf hostN l ≠ []) : restC l = 6 := by rw [restC, if_pos h, if_neg hv]
theorem restC_many {l : List Hdr} (h : headsC l = 0) (hv : valsOf hostN l = []) (hn : 20 ≤ l.length) : restC l = 2 := by rw [restC, if_pos h, if_pos hv, if_pos hn]
theorem restC_ok {l : List Hdr} (h : headsC l = 0) (hv : valsOf hostN l = []) (hn : ¬ 20 ≤ l.length) : restC l = 0 := by rw [restC, if_pos h, if_pos hv, if_neg hn]
theorem headsC_codes (l : List Hdr) : headsC l = 0 ∨ headsC l = 2 ∨ headsC l = 5 := by
  have h1 : ∀ r, faultH r = 0 ∨ faultH r = 2 ∨ faultH r = 5 := fun r => by
    unfold faultH
    repeat' split
    all_goals simp
  have h2 : ∀ l, faultHL l = 0 ∨ faultHL l = 2 ∨ faultHL l = 5 := fun l => by
    induction l with
    | nil => exact .inl rfl
    | cons r l ih =>
      by_cases c : faultH r = 0
      · rw [faultHL_ok c]; exact ih
      · rw [faultHL_bad c]; exact h1 r
  by_cases c : 20 < l.length
  · rw [headsC_many c]; simp
  · rw [headsC_few c]; exact h2 l
theorem restC_codes (l : List Hdr) : restC l = 0 ∨ restC l = 2 ∨ restC l = 5 ∨ restC l = 6 := by
  have := headsC_codes l
  unfold restC
  repeat' split
  all_goals omega
theorem reqC_codes (m h p : ByteArray) (l : List Hdr) : reqC m h p l = 0 ∨ reqC m h p l = 2 ∨ reqC m h p l = 5 ∨ reqC m h p l = 6 := by
  have := restC_codes l
  unfold reqC
  split <;> omega
/-- A request that has no fault. -/
theorem reqC_zero {m h p : ByteArray} {l : List Hdr} (c : reqC m h p l = 0) : lineS m h p = true ∧ headsC l = 0 ∧ valsOf hostN l = [] ∧ l.length < 20 := by
  cases hl : lineS m h p
  · rw [reqC_bad hl] at c; omega
  rw [reqC_ok hl] at c
  by_cases c1 : headsC l = 0
  · by_cases c2 : valsOf hostN l = []
    · by_cases c3 : 20 ≤ l.length
      · rw [restC_many c1 c2 c3] at c; omega
      · exact ⟨rfl, c1, c2, by omega⟩
    · rw [restC_host c1 c2] at c; omega
  · rw [restC_heads c1] at c; exact absurd c c1
theorem lineS_true {m h p : ByteArray} (c : lineS m h p = true) : methS m = true ∧ hostS h = true ∧ pathS p = true := by
  simp only [lineS, Bool.and_eq_true] at c; exact ⟨c.1.1, c.1.2, c.2⟩
def respC (s : Int) (l : List Hdr) (n : Nat) : Int := if s < 200 ∨ 599 < s then 3 else if headsC l = 0 then (if 2000 < n then 2 else 0) else headsC l
theorem respC_range {s : Int} {l : List Hdr} {n : Nat} (h : s < 200 ∨ 599 < s) : respC s l n = 3 := by rw [respC, if_pos h]
theorem respC_heads {s : Int} {l : List Hdr} {n : Nat} (h : ¬ (s < 200 ∨ 599 < s)) (h1 : headsC l ≠ 0) : respC s l n = headsC l := by rw [respC, if_neg h, if_neg h1]
theorem respC_many {s : Int} {l : List Hdr} {n : Nat} (h : ¬ (s < 200 ∨ 599 < s)) (h1 : headsC l = 0) (h2 : 2000 < n) : respC s l n = 2 := by rw [respC, if_neg h, if_pos h1, if_pos h2]
theorem respC_ok {s : Int} {l : List Hdr} {n : Nat} (h : ¬ (s < 200 ∨ 599 < s)) (h1 : headsC l = 0) (h2 : ¬ 2000 < n) : respC s l n = 0 := by rw [respC, if_neg h, if_pos h1, if_neg h2]
theorem respC_codes (s : Int) (l : List Hdr) (n : Nat) : respC s l n = 0 ∨ respC s l n = 2 ∨ respC s l n = 3 ∨ respC s l n = 5 := by
  have := headsC_codes l
  unfold respC
  repeat' split
  all_goals omega
theorem respC_zero {s : Int} {l : List Hdr} {n : Nat} (c : respC s l n = 0) : 200 ≤ s ∧ s ≤ 599 ∧ headsC l = 0 ∧ n ≤ 2000 := by
  by_cases c1 : s < 200 ∨ 599 < s
  · rw [respC_range c1] at c; omega
  by_cases c2 : headsC l = 0
  · by_cases c3 : 2000 < n
    · rw [respC_many c1 c2 c3] at c; omega
    · exact ⟨by omega, by omega, c2, by omega⟩
  · rw [respC_heads c1 c2] at c; exact absurd c c2
end Go.Proofs.YtolkgnnjocmkdaaGreatDoor
/-
  What JoinHeader and its model answer.
-/
namespace Go.Proofs.YtolkgnnjocmkdaaGreatDoor
open Go.ChangeShapes Go.WideShapes Go.ChangeAt Go.RowKit Go.Sort
def anyV (vs : List ByteArray) : Bool := !vs.isEmpty
theorem anyV_snoc (vs : List ByteArray) (v : ByteArray) : anyV (vs ++ [v]) = true := by simp [anyV]
theorem hret_sb {a b : ByteArray} {c d : Bool} (h1 : a = b) (h2 : c = d) : Ending.returned (.tuple #[.string a, .bool c]) = .returned (.tuple #[.string b, .bool d]) := by rw [h1, h2]
set_option maxRecDepth 100000 in
set_option maxHeartbeats 8000000 in
theorem l4Join_any (w : World) (a : Option Addr) (cap : Nat) (l : List Hdr) (name : ByteArray) (h20 : l.length ≤ 20) (hz : ∀ (i : Nat) r, l[i]? = some r → r.name.size ≤ 64 ∧ r.value.size ≤ 200) (hnm : name.size ≤ 64) (hi : HdsIn w a l) :
    Calls Tryz.prog 120 #[.slice a l.length cap, .string name] w fun e w' => e = .returned (.tuple #[.string ⟨(hjoinL (valsOf (lowS name) l)).toArray⟩, .bool (anyV (valsOf (lowS name) l))]) ∧ Below w.heap.size w w' := by
  have HI : Hid (HdsIn w a l) := hi
  have HZ : Hid (∀ (i : Nat) r, l[i]? = some r → r.name.size ≤ 64 ∧ r.value.size ≤ 200) := hz
  clear hi hz
  generalize hn : l.length = n at *
  have HN : Hid (l.length = n) := hn
  clear hn
  go_enter Tryz.func120, Tryz.ntmps120
  go_wp2_with fail
  go_loopw [6, 7, 8] (fun v f i wr => ∃ (k : Nat) (o : ByteArray) (bf : Bool), k ≤ n ∧ i = .int .i64 k ∧ v = .string o ∧ f = .bool bf ∧ o.data.toList = hjoinL (valsOf (lowS name) (l.take k)) ∧ bf = anyV (valsOf (lowS name) (l.take k)) ∧ o.size ≤ k * 202 ∧ Below w.heap.size w wr) (fun _ _ i _ => n - (intOf i).toNat)
  case atStart => exact ⟨0, ⟨#[]⟩, false, Nat.zero_le _, rfl, rfl, rfl, rfl, rfl, Nat.zero_le _, Below.refl _ _⟩
  case round =>
    obtain ⟨k, o, bf, hk, rfl, rfl, rfl, ho, hbf, hos, hb⟩ := hrel
    have HO : Hid (o.data.toList = hjoinL (valsOf (lowS name) (l.take k))) := ho
    have HBF : Hid (bf = anyV (valsOf (lowS name) (l.take k))) := hbf
    clear ho hbf
    by_cases hlt : k < n
    · obtain ⟨r, hr⟩ : ∃ r, l[k]? = some r := ⟨l[k]'(by have := HN.out; omega), List.getElem?_eq_getElem _⟩
      obtain ⟨b, off, rfl, hat⟩ := HI.out.ok hr
      obtain ⟨p1, p3⟩ := (hat.keep hb) k r hr
      obtain ⟨z1, z2⟩ := HZ.out k r hr
      have HK : Hid (l.take (k + 1) = l.take k ++ [r]) := take_hdr hr
      have gk : (k : Int) < n := by omega
      clear hr hat HI HZ
      have KY := @valsOf_yes (lowS name) r (l.take k)
      have KN := @valsOf_no (lowS name) r (l.take k)
      obtain ⟨rn, rv⟩ := r
      simp only at p1 p3 z1 z2 KY KN
      have SA := fun w => l4Alike_any rn name w (by omega) (by omega)
      by_cases he : lowS rn = lowS name
      · have HX : Hid (valsOf (lowS name) (l.take (k + 1)) = valsOf (lowS name) (l.take k) ++ [rv]) := by show _ = _; rw [HK.out]; exact KY he
        have HSA : Hid (∀ w, Calls Tryz.prog 174 #[.string rn, .string name] w fun e w' => e = .returned (.bool true) ∧ Below w.heap.size w w') := by
          rw [show decide (lowS rn = lowS name) = true from by simpa using he] at SA
          exact SA
        have HY : Hid (anyV (valsOf (lowS name) (l.take (k + 1))) = true) := by show _ = _; rw [HX.out]; exact anyV_snoc _ _
        clear SA KY KN HK he
        cases bf
        · have HV : Hid (valsOf (lowS name) (l.take k) = []) := by
            show _ = _
            have := HBF.out
            simpa [anyV] using this.symm
          have HT : Hid ((o ++ rv : ByteArray).data.toList = hjoinL (valsOf (lowS name) (l.take (k + 1)))) := by
            show _ = _
            rw [HX.out, hjoinL_snoc, happ_list, HO.out, if_pos HV.out, List.append_nil]
          have HU : Hid ((o ++ rv : ByteArray).size ≤ (k + 1) * 202) := by
            show _ ≤ _
            rw [ByteArray.size_append]; omega
          have hoz : o.size ≤ 5000 := by omega
          clear HX HV HO HBF
          go_wp2_with fail
          refine (HSA.out _).mono ?_
          rintro e w2 ⟨rfl, hb2⟩
          have HB2 : Hid (Below w.heap.size w w2) := hb.trans (hb2.mono hb.size)
          have p1 := hkeep hb2 p1
          have p3 := hkeep hb2 p3
          clear hb2 hb
          go_wp2_with fail
          go_roundw
          case rel => exact ⟨k + 1, o ++ rv, true, by omega, by go_num, rfl, rfl, HT.out, HY.out.symm, HU.out, HB2.out⟩
          case measure => simp [intOf]; omega
        · have HV : Hid (¬ valsOf (lowS name) (l.take k) = []) := by
            have := HBF.out
            intro e
            rw [e] at this
            cases this
          have HT : Hid ((o ++ ⟨#[44, 32]⟩ ++ rv : ByteArray).data.toList = hjoinL (valsOf (lowS name) (l.take (k + 1)))) := by
            show _ = _
            rw [HX.out, hjoinL_snoc, happ_list, happ_list, HO.out, if_neg HV.out]
          have HU : Hid ((o ++ ⟨#[44, 32]⟩ ++ rv : ByteArray).size ≤ (k + 1) * 202) := by
            show _ ≤ _
            rw [ByteArray.size_append, ByteArray.size_append, show (⟨#[44, 32]⟩ : ByteArray).size = 2 from rfl]; omega
          have hoz : o.size ≤ 5000 := by omega
          clear HX HV HO HBF
          go_wp2_with fail
          refine (HSA.out _).mono ?_
          rintro e w2 ⟨rfl, hb2⟩
          have HB2 : Hid (Below w.heap.size w w2) := hb.trans (hb2.mono hb.size)
          have p1 := hkeep hb2 p1
          have p3 := hkeep hb2 p3
          clear hb2 hb
          go_wp2_with fail
          go_roundw
          case rel => exact ⟨k + 1, o ++ ⟨#[44, 32]⟩ ++ rv, true, by omega, by go_num, rfl, rfl, HT.out, HY.out.symm, HU.out, HB2.out⟩
          case measure => simp [intOf]; omega
      · have HX : Hid (valsOf (lowS name) (l.take (k + 1)) = valsOf (lowS name) (l.take k)) := by show _ = _; rw [HK.out]; exact KN he
        have HSA : Hid (∀ w, Calls Tryz.prog 174 #[.string rn, .string name] w fun e w' => e = .returned (.bool false) ∧ Below w.heap.size w w') := by
          rw [show decide (lowS rn = lowS name) = false from by simpa using he] at SA
          exact SA
        clear SA KY KN HK he
        go_wp2_with fail
        refine (HSA.out _).mono ?_
        rintro e w2 ⟨rfl, hb2⟩
        have HB2 : Hid (Below w.heap.size w w2) := hb.trans (hb2.mono hb.size)
        clear hb2 hb p1 p3
        go_wp2_with fail
        go_roundw
        case rel => exact ⟨k + 1, o, bf, by omega, by go_num, rfl, rfl, by rw [HX.out]; exact HO.out, by rw [HX.out]; exact HBF.out, by omega, HB2.out⟩
        case measure => simp [intOf]; omega
    · have ek : l.take k = l := List.take_of_length_le (by have := HN.out; omega)
      have HT : Hid ((⟨(hjoinL (valsOf (lowS name) l)).toArray⟩ : ByteArray) = o) := by
        show _ = _
        have := HO.out
        rw [ek] at this
        exact (hof_list this).symm
      have HF : Hid (anyV (valsOf (lowS name) l) = bf) := by
        have := HBF.out
        rw [ek] at this
        exact this.symm
      clear HO HBF ek
      go_wp2_with fail
      go_ret2
      exact ⟨hret_sb HT.out.symm HF.out.symm, hb⟩
end Go.Proofs.YtolkgnnjocmkdaaGreatDoor
/-
  What the model's RequestFault answers.
-/
namespace Go.Proofs.YtolkgnnjocmkdaaGreatDoor
open Go.ChangeShapes Go.WideShapes Go.ChangeAt Go.RowKit
def ltrI (c : Int) : Bool := (decide (97 ≤ c) && decide (c ≤ 122)) || (decide (65 ≤ c) && decide (c ≤ 90))
def digI (c : Int) : Bool := decide (48 ≤ c) && decide (c ≤ 57)
set_option maxHeartbeats 1000000 in
theorem l1Letter_any (c : Int) (w : World) :
    Calls Tryz.prog 171 #[.int .u8 c] w fun e w' => e = .returned (.bool (ltrI c)) ∧ w' = w := by
  have HE : Hid (ltrI c = ((decide (97 ≤ c) && decide (c ≤ 122)) || (decide (65 ≤ c) && decide (c ≤ 90)))) := rfl
  have KEY : Hid (∀ b : Bool, ltrI c = b → Ending.returned (.bool b) = .returned (.bool (ltrI c))) := fun b h => by rw [h]
  by_cases c3 : c < 65
  · have W : Hid (ltrI c = false) := by show _ = _; rw [HE.out]; simp; omega
    go_enter Tryz.func171, Tryz.ntmps171
    go_wp2
    go_ret
    exact ⟨KEY.out _ W.out, rfl⟩
  by_cases c4 : c ≤ 90
  · have W : Hid (ltrI c = true) := by show _ = _; rw [HE.out]; simp; omega
    have d1 : decide (c ≤ 90) = true := by simpa using c4
    go_enter Tryz.func171, Tryz.ntmps171
    go_wp2
    go_ret
    exact ⟨KEY.out _ W.out, rfl⟩
  have d4 : decide (c ≤ 90) = false := by simpa using c4
  by_cases c5 : c < 97
  · have W : Hid (ltrI c = false) := by show _ = _; rw [HE.out]; simp; omega
    go_enter Tryz.func171, Tryz.ntmps171
    go_wp2
    go_ret
    exact ⟨KEY.out _ W.out, rfl⟩
  by_cases c6 : c ≤ 122
  · have W : Hid (ltrI c = true) := by show _ = _; rw [HE.out]; simp; omega
    have d1 : decide (c ≤ 122) = true := by simpa using c6
    go_enter Tryz.func171, Tryz.ntmps171
    go_wp2
    go_ret
    exact ⟨KEY.out _ W.out, rfl⟩
  have d6 : decide (c ≤ 122) = false := by simpa using c6
  have W : Hid (ltrI c = false) := by show _ = _; rw [HE.out]; simp; omega
  go_enter Tryz.func171, Tryz.ntmps171
  go_wp2
  go_ret
  exact ⟨KEY.out _ W.out, rfl⟩
set_option maxHeartbeats 1000000 in
theorem l1Digit_any (c : Int) (w : World) :
    Calls Tryz.prog 172 #[.int .u8 c] w fun e w' => e = .returned (.bool (digI c)) ∧ w' = w := by
  have HE : Hid (digI c = (decide (48 ≤ c) && decide (c ≤ 57))) := rfl
  have KEY : Hid (∀ b : Bool, digI c = b → Ending.returned (.bool b) = .returned (.bool (digI c))) := fun b h => by rw [h]
  by_cases c3 : c < 48
  · have W : Hid (digI c = false) := by show _ = _; rw [HE.out]; simp; omega
    go_enter Tryz.func172, Tryz.ntmps172
    go_wp2
    go_ret
    exact ⟨KEY.out _ W.out, rfl⟩
  by_cases c4 : c ≤ 57
  · have W : Hid (digI c = true) := by show _ = _; rw [HE.out]; simp; omega
    have d1 : decide (c ≤ 57) = true := by simpa using c4
    go_enter Tryz.func172, Tryz.ntmps172
    go_wp2
    go_ret
    exact ⟨KEY.out _ W.out, rfl⟩
  have d4 : decide (c ≤ 57) = false := by simpa using c4
  have W : Hid (digI c = false) := by show _ = _; rw [HE.out]; simp; omega
  go_enter Tryz.func172, Tryz.ntmps172
  go_wp2
  go_ret
  exact ⟨KEY.out _ W.out, rfl⟩
theorem hostI_split (c : Int) : hostI c = (ltrI c || digI c || decide (c = 46) || decide (c = 45)) := rfl
set_option maxHeartbeats 4000000 in
theorem l5Host_mid (s : ByteArray) (w : World) (h1 : 1 ≤ s.size) (h2 : s.size ≤ 60) :
    Calls Tryz.prog 118 #[.string s] w fun e w' => e = .returned (.bool (allP hostI s.data.toList)) ∧ w' = w := by
  have g1 : ¬ (s.size : Int) < 1 := by omega
  have g2 : ¬ (60 : Int) < s.size := by omega
  go_enter Tryz.func118, Tryz.ntmps118
  go_wp2
  go_loop [3] (fun i => ∃ k : Nat, k ≤ s.size ∧ i = .int .i64 k ∧ allP hostI (s.data.toList.take k) = true) (fun i => s.size - (intOf i).toNat)
  case atStart => exact ⟨0, Nat.zero_le _, rfl, rfl⟩
  case round =>
    obtain ⟨k, hk, rfl, hall⟩ := hrel
    by_cases hlt : k < s.size
    · have HY : Hid (hostI (s[k].toNat : Int) = true → allP hostI (s.data.toList.take (k + 1)) = true) := fun hw => by
        rw [take_snoc s k hlt, allP_snoc, hall, hw]; rfl
      have HN : Hid (hostI (s[k].toNat : Int) = false → allP hostI s.data.toList = false) := allP_not hostI s k hlt
      have HI := hostI_split (s[k].toNat : Int)
      have CL := l1Letter_any (s[k].toNat : Int) w
      have CD := l1Digit_any (s[k].toNat : Int) w
      clear hall
      cases hl : ltrI (s[k].toNat : Int)
      · rw [hl] at CL HI
        cases hd : digI (s[k].toNat : Int)
        · rw [hd] at CD HI
          by_cases e1 : (s[k].toNat : Int) = 46
          · have HA : Hid (allP hostI (s.data.toList.take (k + 1)) = true) := HY.out (by rw [HI]; simp [e1])
            have n1 : ((s[k].toNat : Int) != 46) = false := by rw [e1]; rfl
            clear HY HN HI hl hd e1
            go_wp2_with (first | (go_at_call 171; refine CL.mono ?_; rintro e w' ⟨rfl, rfl⟩) | (go_at_call 172; refine CD.mono ?_; rintro e w' ⟨rfl, rfl⟩))
            go_round
            case rel => exact ⟨k + 1, by omega, by go_num, HA.out⟩
            case measure => simp [intOf]; omega
          · by_cases e2 : (s[k].toNat : Int) = 45
            · have HA : Hid (allP hostI (s.data.toList.take (k + 1)) = true) := HY.out (by rw [HI]; simp [e2])
              have n1 : ((s[k].toNat : Int) != 46) = true := by simpa using e1
              have n2 : ((s[k].toNat : Int) != 45) = false := by rw [e2]; rfl
              clear HY HN HI hl hd e1 e2
              go_wp2_with (first | (go_at_call 171; refine CL.mono ?_; rintro e w' ⟨rfl, rfl⟩) | (go_at_call 172; refine CD.mono ?_; rintro e w' ⟨rfl, rfl⟩))
              go_round
              case rel => exact ⟨k + 1, by omega, by go_num, HA.out⟩
              case measure => simp [intOf]; omega
            · have HA : Hid (allP hostI s.data.toList = false) := HN.out (by rw [HI]; simp [e1, e2])
              have n1 : ((s[k].toNat : Int) != 46) = true := by simpa using e1
              have n2 : ((s[k].toNat : Int) != 45) = true := by simpa using e2
              clear HY HN HI hl hd e1 e2
              go_wp2_with (first | (go_at_call 171; refine CL.mono ?_; rintro e w' ⟨rfl, rfl⟩) | (go_at_call 172; refine CD.mono ?_; rintro e w' ⟨rfl, rfl⟩))
              go_ret
              exact ⟨ret_bool HA.out.symm, rfl⟩
        · rw [hd] at CD HI
          have HA : Hid (allP hostI (s.data.toList.take (k + 1)) = true) := HY.out (by rw [HI]; rfl)
          clear HY HN HI hl hd
          go_wp2_with (first | (go_at_call 171; refine CL.mono ?_; rintro e w' ⟨rfl, rfl⟩) | (go_at_call 172; refine CD.mono ?_; rintro e w' ⟨rfl, rfl⟩))
          go_round
          case rel => exact ⟨k + 1, by omega, by go_num, HA.out⟩
          case measure => simp [intOf]; omega
      · rw [hl] at CL HI
        have HA : Hid (allP hostI (s.data.toList.take (k + 1)) = true) := HY.out (by rw [HI]; rfl)
        clear HY HN HI hl
        go_wp2_with (first | (go_at_call 171; refine CL.mono ?_; rintro e w' ⟨rfl, rfl⟩) | (go_at_call 172; refine CD.mono ?_; rintro e w' ⟨rfl, rfl⟩))
        go_round
        case rel => exact ⟨k + 1, by omega, by go_num, HA.out⟩
        case measure => simp [intOf]; omega
    · have ek : s.data.toList.take k = s.data.toList := List.take_of_length_le (by simp; omega)
      rw [ek] at hall
      have HN : Hid (allP hostI s.data.toList = true) := hall
      clear ek hall
      go_wp2
      go_ret
      exact ⟨ret_bool HN.out.symm, rfl⟩
set_option maxHeartbeats 1000000 in
theorem l5Host_any (s : ByteArray) (w : World) :
    Calls Tryz.prog 118 #[.string s] w fun e w' => e = .returned (.bool (hostS s)) ∧ w' = w := by
  by_cases c1 : s.size < 1
  · rw [hostS_short s c1]
    have hh : (s.size : Int) < 1 := by omega
    go_enter Tryz.func118, Tryz.ntmps118
    go_wp2
    go_ret
    exact ⟨rfl, rfl⟩
  by_cases c2 : 60 < s.size
  · rw [hostS_long s c2]
    have hh : (60 : Int) < s.size := by omega
    have h1 : ¬ (s.size : Int) < 1 := by omega
    go_enter Tryz.func118, Tryz.ntmps118
    go_wp2
    go_ret
    exact ⟨rfl, rfl⟩
  rw [hostS_mid s (by omega) (by omega)]
  exact l5Host_mid s w (by omega) (by omega)
set_option maxHeartbeats 1000000 in
theorem l5PathByte_else (c : Int) (w : World) (h0 : 0 ≤ c) (h1 : c < 256) (hm : markI c.toNat = false) :
    Calls Tryz.prog 173 #[.int .u8 c] w fun e w' => e = .returned (.bool (pathI c)) ∧ w' = w := by
  have HP : pathI c = wordI c := by rw [pathI, hm]; rfl
  rw [HP]
  clear HP
  obtain ⟨n, rfl⟩ := Int.eq_ofNat_of_zero_le h0
  simp only [Int.toNat_natCast, markI, List.contains_eq_mem, List.mem_cons, List.not_mem_nil, or_false, decide_eq_false_iff_not, not_or] at hm
  obtain ⟨s0, s1, s2, s3, s4, s5, s6, s7, s8, s9⟩ := hm
  have t0 : ((n : Int) == 47) = false := by simp; omega
  have t1 : ((n : Int) == 63) = false := by simp; omega
  have t2 : ((n : Int) == 61) = false := by simp; omega
  have t3 : ((n : Int) == 38) = false := by simp; omega
  have t4 : ((n : Int) == 58) = false := by simp; omega
  have t5 : ((n : Int) == 64) = false := by simp; omega
  have t6 : ((n : Int) == 44) = false := by simp; omega
  have t7 : ((n : Int) == 59) = false := by simp; omega
  have t8 : ((n : Int) == 40) = false := by simp; omega
  have t9 : ((n : Int) == 41) = false := by simp; omega
  clear s0 s1 s2 s3 s4 s5 s6 s7 s8 s9
  generalize (n : Int) = c at *
  have C := wordByte_any c w h0 h1
  go_enter Tryz.func173, Tryz.ntmps173
  go_wp2_with fail
  refine C.mono ?_
  rintro e w' ⟨rfl, rfl⟩
  go_wp2_with fail
  go_ret
  exact ⟨rfl, rfl⟩
set_option maxHeartbeats 400000 in
theorem l5PathByte_47 (w : World) :
    Calls Tryz.prog 173 #[.int .u8 47] w fun e w' => e = .returned (.bool (pathI 47)) ∧ w' = w := by
  have W : pathI 47 = true := by decide +kernel
  rw [W]
  clear W
  go_enter Tryz.func173, Tryz.ntmps173
  go_wp2_with fail
  go_ret
  exact ⟨rfl, rfl⟩
set_option maxHeartbeats 400000 in
theorem l5PathByte_63 (w : World) :
    Calls Tryz.prog 173 #[.int .u8 63] w fun e w' => e = .returned (.bool (pathI 63)) ∧ w' = w := by
  have W : pathI 63 = true := by decide +kernel
  rw [W]
  clear W
  go_enter Tryz.func173, Tryz.ntmps173
  go_wp2_with fail
  go_ret
  exact ⟨rfl, rfl⟩
set_option maxHeartbeats 400000 in
theorem l5PathByte_61 (w : World) :
    Calls Tryz.prog 173 #[.int .u8 61] w fun e w' => e = .returned (.bool (pathI 61)) ∧ w' = w := by
  have W : pathI 61 = true := by decide +kernel
  rw [W]
  clear W
  go_enter Tryz.func173, Tryz.ntmps173
  go_wp2_with fail
  go_ret
  exact ⟨rfl, rfl⟩
set_option maxHeartbeats 400000 in
theorem l5PathByte_38 (w : World) :
    Calls Tryz.prog 173 #[.int .u8 38] w fun e w' => e = .returned (.bool (pathI 38)) ∧ w' = w := by
  have W : pathI 38 = true := by decide +kernel
  rw [W]
  clear W
  go_enter Tryz.func173, Tryz.ntmps173
  go_wp2_with fail
  go_ret
  exact ⟨rfl, rfl⟩
set_option maxHeartbeats 400000 in
theorem l5PathByte_58 (w : World) :
    Calls Tryz.prog 173 #[.int .u8 58] w fun e w' => e = .returned (.bool (pathI 58)) ∧ w' = w := by
  have W : pathI 58 = true := by decide +kernel
  rw [W]
  clear W
  go_enter Tryz.func173, Tryz.ntmps173
  go_wp2_with fail
  go_ret
  exact ⟨rfl, rfl⟩
set_option maxHeartbeats 400000 in
theorem l5PathByte_64 (w : World) :
    Calls Tryz.prog 173 #[.int .u8 64] w fun e w' => e = .returned (.bool (pathI 64)) ∧ w' = w := by
  have W : pathI 64 = true := by decide +kernel
  rw [W]
  clear W
  go_enter Tryz.func173, Tryz.ntmps173
  go_wp2_with fail
  go_ret
  exact ⟨rfl, rfl⟩
set_option maxHeartbeats 400000 in
theorem l5PathByte_44 (w : World) :
    Calls Tryz.prog 173 #[.int .u8 44] w fun e w' => e = .returned (.bool (pathI 44)) ∧ w' = w := by
  have W : pathI 44 = true := by decide +kernel
  rw [W]
  clear W
  go_enter Tryz.func173, Tryz.ntmps173
  go_wp2_with fail
  go_ret
  exact ⟨rfl, rfl⟩
set_option maxHeartbeats 400000 in
theorem l5PathByte_59 (w : World) :
    Calls Tryz.prog 173 #[.int .u8 59] w fun e w' => e = .returned (.bool (pathI 59)) ∧ w' = w := by
  have W : pathI 59 = true := by decide +kernel
  rw [W]
  clear W
  go_enter Tryz.func173, Tryz.ntmps173
  go_wp2_with fail
  go_ret
  exact ⟨rfl, rfl⟩
set_option maxHeartbeats 400000 in
theorem l5PathByte_40 (w : World) :
    Calls Tryz.prog 173 #[.int .u8 40] w fun e w' => e = .returned (.bool (pathI 40)) ∧ w' = w := by
  have W : pathI 40 = true := by decide +kernel
  rw [W]
  clear W
  go_enter Tryz.func173, Tryz.ntmps173
  go_wp2_with fail
  go_ret
  exact ⟨rfl, rfl⟩
set_option maxHeartbeats 400000 in
theorem l5PathByte_41 (w : World) :
    Calls Tryz.prog 173 #[.int .u8 41] w fun e w' => e = .returned (.bool (pathI 41)) ∧ w' = w := by
  have W : pathI 41 = true := by decide +kernel
  rw [W]
  clear W
  go_enter Tryz.func173, Tryz.ntmps173
  go_wp2_with fail
  go_ret
  exact ⟨rfl, rfl⟩
theorem l5PathByte_any (c : Int) (w : World) (h0 : 0 ≤ c) (h1 : c < 256) :
    Calls Tryz.prog 173 #[.int .u8 c] w fun e w' => e = .returned (.bool (pathI c)) ∧ w' = w := by
  cases h : markI c.toNat
  · exact l5PathByte_else c w h0 h1 h
  · obtain ⟨n, rfl⟩ := Int.eq_ofNat_of_zero_le h0
    simp only [Int.toNat_natCast, markI, List.contains_eq_mem, List.mem_cons, List.not_mem_nil, or_false, decide_eq_true_eq] at h
    rcases h with rfl | rfl | rfl | rfl | rfl | rfl | rfl | rfl | rfl | rfl
    · exact l5PathByte_47 w
    · exact l5PathByte_63 w
    · exact l5PathByte_61 w
    · exact l5PathByte_38 w
    · exact l5PathByte_58 w
    · exact l5PathByte_64 w
    · exact l5PathByte_44 w
    · exact l5PathByte_59 w
    · exact l5PathByte_40 w
    · exact l5PathByte_41 w
set_option maxHeartbeats 2000000 in
theorem l5Path_mid (s : ByteArray) (w : World) (h0 : 0 < s.size) (hf : (s[0].toNat : Int) = 47) (h2 : s.size ≤ 100) :
    Calls Tryz.prog 119 #[.string s] w fun e w' => e = .returned (.bool (allP pathI s.data.toList)) ∧ w' = w := by
  have g1 : ¬ (s.size : Int) < 1 := by omega
  have g2 : ¬ (100 : Int) < s.size := by omega
  go_enter Tryz.func119, Tryz.ntmps119
  go_wp2
  clear hf
  go_loop [3] (fun i => ∃ k : Nat, k ≤ s.size ∧ i = .int .i64 k ∧ allP pathI (s.data.toList.take k) = true) (fun i => s.size - (intOf i).toNat)
  case atStart => exact ⟨0, Nat.zero_le _, rfl, rfl⟩
  case round =>
    obtain ⟨k, hk, rfl, hall⟩ := hrel
    by_cases hlt : k < s.size
    · have hb : ((s[k].toNat : Nat) : Int) < 256 := by have := s[k].toNat_lt; omega
      have C := l5PathByte_any (s[k].toNat : Int) w (by omega) hb
      cases hw : pathI (s[k].toNat : Int)
      · have HN : Hid (allP pathI s.data.toList = false) := allP_not pathI s k hlt hw
        rw [hw] at C
        clear hall hw
        go_wp2_with fail
        refine C.mono ?_
        rintro e w' ⟨rfl, rfl⟩
        go_wp2_with fail
        go_ret
        exact ⟨ret_bool HN.out.symm, rfl⟩
      · have HA : Hid (allP pathI (s.data.toList.take (k + 1)) = true) := by
          show _ = _
          rw [take_snoc s k hlt, allP_snoc, hall, hw]; rfl
        rw [hw] at C
        clear hall hw
        go_wp2_with fail
        refine C.mono ?_
        rintro e w' ⟨rfl, rfl⟩
        go_wp2_with fail
        go_round
        case rel => exact ⟨k + 1, by omega, by go_num, HA.out⟩
        case measure => simp [intOf]; omega
    · have ek : s.data.toList.take k = s.data.toList := List.take_of_length_le (by simp; omega)
      rw [ek] at hall
      have HN : Hid (allP pathI s.data.toList = true) := hall
      clear ek hall
      go_wp2
      go_ret
      exact ⟨ret_bool HN.out.symm, rfl⟩
set_option maxHeartbeats 1000000 in
theorem l5Path_any (s : ByteArray) (w : World) :
    Calls Tryz.prog 119 #[.string s] w fun e w' => e = .returned (.bool (pathS s)) ∧ w' = w := by
  by_cases c1 : s.size < 1
  · rw [pathS_first s (by rw [head_none s c1]; simp)]
    have hh : (s.size : Int) < 1 := by omega
    go_enter Tryz.func119, Tryz.ntmps119
    go_wp2
    go_ret
    exact ⟨rfl, rfl⟩
  have h1 : ¬ (s.size : Int) < 1 := by omega
  by_cases c2 : 100 < s.size
  · rw [pathS_long s c2]
    have hh : (100 : Int) < s.size := by omega
    go_enter Tryz.func119, Tryz.ntmps119
    go_wp2
    go_ret
    exact ⟨rfl, rfl⟩
  have g2 : ¬ (100 : Int) < s.size := by omega
  have hd := head_get s (by omega)
  have g0 : 0 < s.size := by omega
  by_cases c3 : (s[0].toNat : Int) = 47
  · have e3 : s[0] = 47 := UInt8.toNat_inj.1 (by simpa using (by omega : s[0].toNat = 47))
    rw [pathS_mid s (by rw [hd, e3]) (by omega)]
    exact l5Path_mid s w (by omega) c3 (by omega)
  · rw [pathS_first s (by rw [hd]; intro e; exact c3 (by rw [Option.some.inj e]; rfl))]
    have c3' : ((s[0].toNat : Int) == 47) = false := by simpa using c3
    clear hd
    go_enter Tryz.func119, Tryz.ntmps119
    go_wp2
    go_ret
    exact ⟨rfl, rfl⟩
end Go.Proofs.YtolkgnnjocmkdaaGreatDoor
/-
  isHost and isPath: what they answer.
-/
namespace Go.Proofs.YtolkgnnjocmkdaaGreatDoor
open Go.ChangeShapes Go.WideShapes Go.ChangeAt Go.RowKit
set_option maxHeartbeats 2000000 in
theorem isHostLetter_any (c : Int) (w : World) :
    Calls Tryz.prog 216 #[.int .i32 c] w fun e w' => e = .returned (.bool (hostI c)) ∧ w' = w := by
  have HE : Hid (hostI c = ((decide (97 ≤ c) && decide (c ≤ 122)) || (decide (65 ≤ c) && decide (c ≤ 90)) || (decide (48 ≤ c) && decide (c ≤ 57)) || decide (c = 46) || decide (c = 45))) := rfl
  have KEY : Hid (∀ b : Bool, hostI c = b → Ending.returned (.bool b) = .returned (.bool (hostI c))) := fun b h => by rw [h]
  by_cases e1 : c = 45
  · subst e1
    have W : Hid (hostI 45 = true) := by show _ = _; decide
    go_enter Tryz.func216, Tryz.ntmps216
    go_wp2
    go_ret
    exact ⟨KEY.out _ W.out, rfl⟩
  by_cases e2 : c = 46
  · subst e2
    have W : Hid (hostI 46 = true) := by show _ = _; decide
    go_enter Tryz.func216, Tryz.ntmps216
    go_wp2
    go_ret
    exact ⟨KEY.out _ W.out, rfl⟩
  have f1 : (c == 45) = false := by simpa using e1
  have f2 : (c == 46) = false := by simpa using e2
  by_cases c1 : c < 48
  · have W : Hid (hostI c = false) := by show _ = _; rw [HE.out]; simp; omega
    go_enter Tryz.func216, Tryz.ntmps216
    go_wp2
    go_ret
    exact ⟨KEY.out _ W.out, rfl⟩
  by_cases c2 : c ≤ 57
  · have W : Hid (hostI c = true) := by show _ = _; rw [HE.out]; simp; omega
    have d1 : decide (c ≤ 57) = true := by simpa using c2
    go_enter Tryz.func216, Tryz.ntmps216
    go_wp2
    go_ret
    exact ⟨KEY.out _ W.out, rfl⟩
  have d2 : decide (c ≤ 57) = false := by simpa using c2
  by_cases c3 : c < 65
  · have W : Hid (hostI c = false) := by show _ = _; rw [HE.out]; simp; omega
    go_enter Tryz.func216, Tryz.ntmps216
    go_wp2
    go_ret
    exact ⟨KEY.out _ W.out, rfl⟩
  by_cases c4 : c ≤ 90
  · have W : Hid (hostI c = true) := by show _ = _; rw [HE.out]; simp; omega
    have d1 : decide (c ≤ 90) = true := by simpa using c4
    go_enter Tryz.func216, Tryz.ntmps216
    go_wp2
    go_ret
    exact ⟨KEY.out _ W.out, rfl⟩
  have d4 : decide (c ≤ 90) = false := by simpa using c4
  by_cases c5 : c < 97
  · have W : Hid (hostI c = false) := by show _ = _; rw [HE.out]; simp; omega
    go_enter Tryz.func216, Tryz.ntmps216
    go_wp2
    go_ret
    exact ⟨KEY.out _ W.out, rfl⟩
  by_cases c6 : c ≤ 122
  · have W : Hid (hostI c = true) := by show _ = _; rw [HE.out]; simp; omega
    have d1 : decide (c ≤ 122) = true := by simpa using c6
    go_enter Tryz.func216, Tryz.ntmps216
    go_wp2
    go_ret
    exact ⟨KEY.out _ W.out, rfl⟩
  have d6 : decide (c ≤ 122) = false := by simpa using c6
  have W : Hid (hostI c = false) := by show _ = _; rw [HE.out]; simp; omega
  go_enter Tryz.func216, Tryz.ntmps216
  go_wp2
  go_ret
  exact ⟨KEY.out _ W.out, rfl⟩
theorem below_iter (w : World) (s : ByteArray) (pos : Nat) : Below w.heap.size w (w.iter s pos) := (Below.refl _ _).alloc (Nat.le_refl _) _
theorem rune_host (s : ByteArray) (pos : Nat) (h : pos < s.size) : hostI ((Utf8.decode s pos).1 : Int) = hostI (s[pos].toNat : Int) := by
  by_cases ha : (s[pos]'h).toNat < 128
  · rw [decode_ascii s pos h ha]
  · have := (decode_high s pos h (by omega)).1
    rw [hostI_big _ (by omega), hostI_big _ (by omega)]
theorem host_ascii {c : Nat} (h : hostI (c : Int) = true) : c < 128 := by
  by_cases k : c < 128
  · exact k
  · rw [hostI_big _ (by omega)] at h; cases h
set_option maxHeartbeats 4000000 in
set_option maxRecDepth 100000 in
theorem isHost_mid (s : ByteArray) (w : World) (h1 : 1 ≤ s.size) (h2 : s.size ≤ 60) :
    Calls Tryz.prog 169 #[.string s] w fun e w' => e = .returned (.bool (allP hostI s.data.toList)) ∧ Below w.heap.size w w' := by
  have g1 : ¬ (s.size : Int) < 1 := by omega
  have g2 : ¬ (60 : Int) < s.size := by omega
  go_enter Tryz.func169, Tryz.ntmps169
  go_wp2
  go_loopw [2] (fun b w' => ∃ pos : Nat, b = .bool false ∧ w' = w.iter s pos ∧ pos ≤ s.size ∧ allP hostI (s.data.toList.take pos) = true) (fun _ w' => s.size - w'.iterPos w.heap.size)
  case atStart => exact ⟨0, rfl, rfl, Nat.zero_le _, rfl⟩
  case round =>
    obtain ⟨pos, rfl, rfl, hp, hall⟩ := hrel
    by_cases hlt : pos < s.size
    · have hnx : ∀ ty, (Instr.next (.pointer (some ⟨w.heap.size, 0, none⟩)) true ty).run Tryz.prog (w.iter s pos) = _ := fun ty => run_next_any w s pos ty hlt
      have HR := rune_host s pos hlt
      have CL := fun W => isHostLetter_any ((Utf8.decode s pos).1 : Int) W
      cases hw : hostI (s[pos].toNat : Int)
      · have HN : Hid (allP hostI s.data.toList = false) := allP_not hostI s pos hlt hw
        rw [hw] at HR
        simp only [HR] at CL
        clear hall hw HR
        generalize Utf8.decode s pos = D at *
        go_wp2_with fail
        refine (CL _).mono ?_
        rintro e w' ⟨rfl, rfl⟩
        go_wp2_with fail
        go_ret
        exact ⟨ret_bool HN.out.symm, below_iter _ _ _⟩
      · have HA : Hid (allP hostI (s.data.toList.take (pos + 1)) = true) := by
          show _ = _
          rw [take_snoc s pos hlt, allP_snoc, hall, hw]; rfl
        have hd := decode_ascii s pos hlt (host_ascii hw)
        rw [hw] at HR
        simp only [HR] at CL
        rw [hd] at hnx CL
        clear hall hw HR hd
        simp only at hnx CL
        go_wp2_with fail
        refine (CL _).mono ?_
        rintro e w' ⟨rfl, rfl⟩
        go_wp2_with fail
        go_roundw
        case rel => exact ⟨pos + 1, rfl, rfl, by omega, HA.out⟩
        case measure => simp; omega
    · have hnx : ∀ ty, (Instr.next (.pointer (some ⟨w.heap.size, 0, none⟩)) true ty).run Tryz.prog (w.iter s pos) = _ := fun ty => run_next_end w s pos ty hlt
      have ek : s.data.toList.take pos = s.data.toList := List.take_of_length_le (by simp; omega)
      rw [ek] at hall
      have HN : Hid (allP hostI s.data.toList = true) := hall
      clear ek hall
      go_wp2
      go_ret
      exact ⟨ret_bool HN.out.symm, below_iter _ _ _⟩
set_option maxHeartbeats 1000000 in
theorem isHost_any (s : ByteArray) (w : World) :
    Calls Tryz.prog 169 #[.string s] w fun e w' => e = .returned (.bool (hostS s)) ∧ Below w.heap.size w w' := by
  by_cases c1 : s.size < 1
  · rw [hostS_short s c1]
    have hh : (s.size : Int) < 1 := by omega
    go_enter Tryz.func169, Tryz.ntmps169
    go_wp2
    go_ret
    exact ⟨rfl, Below.refl _ _⟩
  by_cases c2 : 60 < s.size
  · rw [hostS_long s c2]
    have hh : (60 : Int) < s.size := by omega
    have h1 : ¬ (s.size : Int) < 1 := by omega
    go_enter Tryz.func169, Tryz.ntmps169
    go_wp2
    go_ret
    exact ⟨rfl, Below.refl _ _⟩
  rw [hostS_mid s (by omega) (by omega)]
  exact isHost_mid s w (by omega) (by omega)
/-! ### the bytes of a path -/
set_option maxHeartbeats 1000000 in
theorem hasOnly_gen (p : Int → Bool) (hp : ∀ c, 128 ≤ c → p c = false) (s : ByteArray) (cs : Array Value) (w : World) (hs : s.size ≤ 1000) (hcs : ∀ i : Nat, i < 128 → cs[i]? = some (.bool (p (i : Int)))) :
    Calls Tryz.prog 156 #[.string s, .agg cs] w fun e w' => e = .returned (.bool (allP p s.data.toList)) ∧ Below w.heap.size w w' := by
  have hcell : ∀ i : Nat, i < 128 → (w.alloc (.cells cs 210)).cell? ⟨w.heap.size, i, none⟩ = some (.bool (p (i : Int))) := fun i hi => by
    rw [World.cell?_alloc_mark]; exact hcs i hi
  have HC : Hid (∀ i : Nat, i < 128 → (w.alloc (.cells cs 210)).cell? ⟨w.heap.size, i, none⟩ = some (.bool (p (i : Int)))) := hcell
  have HP : Hid (∀ c, 128 ≤ c → p c = false) := hp
  clear hcell hcs hp
  go_enter Tryz.func156, Tryz.ntmps156
  go_wp2
  go_loop [9] (fun i => ∃ k : Nat, k ≤ s.size ∧ i = .int .i64 k ∧ allP p (s.data.toList.take k) = true) (fun i => s.size - (intOf i).toNat)
  case atStart => exact ⟨0, Nat.zero_le _, rfl, rfl⟩
  case round =>
    obtain ⟨k, hk, rfl, hall⟩ := hrel
    by_cases hlt : k < s.size
    · have hb : ((s[k].toNat : Nat) : Int) < 256 := by have := s[k].toNat_lt; omega
      by_cases hbig : 128 ≤ (s[k].toNat : Int)
      · have HN : Hid (allP p s.data.toList = false) := allP_not p s k hlt (HP.out _ hbig)
        clear hall
        go_wp2
        go_ret
        exact ⟨ret_bool HN.out.symm, (Below.refl _ _).alloc (Nat.le_refl _) _⟩
      · have hc := HC.out s[k].toNat (by omega)
        cases hw : p (s[k].toNat : Int)
        · have HN : Hid (allP p s.data.toList = false) := allP_not p s k hlt hw
          rw [hw] at hc
          clear hall hw
          go_wp2
          go_ret
          exact ⟨ret_bool HN.out.symm, (Below.refl _ _).alloc (Nat.le_refl _) _⟩
        · have HA : Hid (allP p (s.data.toList.take (k + 1)) = true) := by
            show _ = _
            rw [take_snoc s k hlt, allP_snoc, hall, hw]; rfl
          rw [hw] at hc
          clear hall hw
          go_wp2
          go_round
          case rel => exact ⟨k + 1, by omega, by go_num, HA.out⟩
          case measure => simp [intOf]; omega
    · have ek : s.data.toList.take k = s.data.toList := List.take_of_length_le (by simp; omega)
      rw [ek] at hall
      have HN : Hid (allP p s.data.toList = true) := hall
      clear ek hall
      go_wp2
      go_ret
      exact ⟨ret_bool HN.out.symm, (Below.refl _ _).alloc (Nat.le_refl _) _⟩
end Go.Proofs.YtolkgnnjocmkdaaGreatDoor
/-
  pathBytes: the word bytes and ten marks; isPath.
-/
namespace Go.Proofs.YtolkgnnjocmkdaaGreatDoor
open Go.ChangeShapes Go.WideShapes Go.ChangeAt Go.RowKit
def marksS : ByteArray := ⟨#[47, 63, 61, 38, 58, 64, 44, 59, 40, 41]⟩
def marksN : List Nat := [47, 63, 61, 38, 58, 64, 44, 59, 40, 41]
def markAt (pos : Nat) : Nat := marksN.getD pos 0
theorem markAt_eq (pos : Nat) (h : pos < marksS.size) : (marksS[pos]'h).toNat = markAt pos := by
  have : pos < 10 := h
  match pos, this with
  | 0, _ | 1, _ | 2, _ | 3, _ | 4, _ | 5, _ | 6, _ | 7, _ | 8, _ | 9, _ => rfl
theorem markAt_lt (pos : Nat) : markAt pos < 128 := by
  by_cases h : pos < 10
  · match pos, h with
    | 0, _ | 1, _ | 2, _ | 3, _ | 4, _ | 5, _ | 6, _ | 7, _ | 8, _ | 9, _ => decide
  · unfold markAt
    rw [List.getD_eq_getElem?_getD, List.getElem?_eq_none (by simp [marksN]; omega)]
    decide
def pathAt (pos i : Nat) : Bool := (marksN.take pos).contains i || wordI (i : Int)
theorem pathAt_zero (i : Nat) : pathAt 0 i = wordI (i : Int) := rfl
theorem pathAt_end (i : Nat) : pathAt 10 i = pathI (i : Int) := rfl
theorem take_marks (pos i : Nat) (h : pos < 10) : (marksN.take (pos + 1)).contains i = ((marksN.take pos).contains i || i == markAt pos) := by
  have e : marksN.take (pos + 1) = marksN.take pos ++ [markAt pos] := by
    match pos, h with
    | 0, _ | 1, _ | 2, _ | 3, _ | 4, _ | 5, _ | 6, _ | 7, _ | 8, _ | 9, _ => rfl
  rw [e, Bool.eq_iff_iff]
  simp
theorem pathAt_same (pos : Nat) (h : pos < 10) : pathAt (pos + 1) (markAt pos) = true := by
  rw [pathAt, take_marks pos _ h]; simp
theorem pathAt_other (pos i : Nat) (h : pos < 10) (hi : i ≠ markAt pos) : pathAt (pos + 1) i = pathAt pos i := by
  rw [pathAt, take_marks pos _ h, beq_eq_false_iff_ne.2 hi, Bool.or_false]; rfl
structure PathW (w : World) (pos : Nat) (wr : World) : Prop where
  it : wr.heap[w.heap.size + 2]? = some (.stringIter marksS pos)
  b0 : wr.heap[w.heap.size]? = some (.cells Tryz.zeroCells210 210 (0, 0))
  b1 : ∃ cs, wr.heap[w.heap.size + 1]? = some (.cells cs 210 (0, 0)) ∧ cs.size = 128 ∧ ∀ i : Nat, i < 128 → cs[i]? = some (.bool (pathAt pos i))
  le : pos ≤ 10
  bel : Below w.heap.size w wr
theorem PathW.cell {w wr : World} {pos : Nat} (h : PathW w pos wr) (i : Nat) (hi : i < 128) : wr.cell? ⟨w.heap.size + 1, i, none⟩ = some (.bool (pathAt pos i)) ∧ wr.frozen? ⟨w.heap.size + 1, i, none⟩ = false := by
  obtain ⟨cs, h1, h2, h3⟩ := h.b1
  exact ⟨by simp [World.cell?, h1, h3 i hi], by simp [World.frozen?, h1]⟩
theorem PathW.next {w wr : World} {pos : Nat} (h : PathW w pos wr) (hp : pos < 10) : PathW w (pos + 1) ((wr.iterAt (w.heap.size + 2) marksS (pos + 1)).setCell ⟨w.heap.size + 1, markAt pos, none⟩ (.bool true)) := by
  obtain ⟨cs, h1, h2, h3⟩ := h.b1
  have o : ∀ k, k ≠ w.heap.size + 2 → (wr.iterAt (w.heap.size + 2) marksS (pos + 1)).heap[k]? = wr.heap[k]? := fun k hk => Lib.iterAt_other _ _ _ _ _ hk
  have h1' : (wr.iterAt (w.heap.size + 2) marksS (pos + 1)).heap[w.heap.size + 1]? = some (.cells cs 210 (0, 0)) := by rw [o _ (by omega)]; exact h1
  refine ⟨?_, ?_, ⟨_, heap_setCell_same _ _ _ _ _ _ h1', by simpa using h2, fun i hi => ?_⟩, by omega, ?_⟩
  · rw [heap_setCell_other _ _ _ _ (by simp)]; exact Lib.iterAt_heap _ _ _ _ _ h.it
  · rw [heap_setCell_other _ _ _ _ (by simp), o _ (by omega)]; exact h.b0
  · by_cases e : i = markAt pos
    · subst e
      rw [Array.getElem?_setIfInBounds_self_of_lt (by omega), pathAt_same pos hp]
    · rw [Array.getElem?_setIfInBounds_ne (by omega), h3 i hi, pathAt_other pos i hp e]
  · refine Below.setCell ?_ (by simp) _
    exact ⟨h.bel.os, h.bel.tape, h.bel.output, by simpa [World.iterAt] using h.bel.size, fun k hk => by rw [o k (by omega)]; exact h.bel.block k hk⟩
theorem zeroSet_size : (Tryz.zeroCells210).size = 128 := by kernel_rfl
theorem all_bools {cs : Array Value} {f : Nat → Bool} (hsz : cs.size = 128) (h : ∀ i : Nat, i < 128 → cs[i]? = some (.bool (f i))) : cs.all (·.oneCell') = true := by
  rw [Array.all_eq_true]
  intro i hi
  have e := h i (by omega)
  rw [Array.getElem?_eq_getElem hi] at e
  rw [Option.some.inj e]; rfl
theorem path_start {w : World} {cs : Array Value} (hsz : cs.size = 128) (hcs : ∀ i : Nat, i < 128 → cs[i]? = some (.bool (wordI (i : Int)))) :
    PathW w 0 ((((w.alloc (.cells Tryz.zeroCells210 210)).alloc (.cells Tryz.zeroCells210 210)).setRow (w.heap.size + 1) cs).iter marksS 0) := by
  have hz : ((w.alloc (.cells Tryz.zeroCells210 210)).alloc (.cells Tryz.zeroCells210 210)).heap.size = w.heap.size + 2 := by simp
  have h1 : ((w.alloc (.cells Tryz.zeroCells210 210)).alloc (.cells Tryz.zeroCells210 210)).heap[w.heap.size + 1]? = some (.cells Tryz.zeroCells210 210 (0, 0)) := by
    show ((w.heap.push _).push _)[w.heap.size + 1]? = _
    rw [Array.getElem?_push, if_pos (by simp)]
  have h0 : ((w.alloc (.cells Tryz.zeroCells210 210)).alloc (.cells Tryz.zeroCells210 210)).heap[w.heap.size]? = some (.cells Tryz.zeroCells210 210 (0, 0)) := by
    show ((w.heap.push _).push _)[w.heap.size]? = _
    rw [Array.getElem?_push, if_neg (by simp), Array.getElem?_push, if_pos rfl]
  have hold : ∀ k, k < w.heap.size → ((w.alloc (.cells Tryz.zeroCells210 210)).alloc (.cells Tryz.zeroCells210 210)).heap[k]? = w.heap[k]? := fun k hk => by
    rw [Below.heap_alloc _ _ _ (by simp; omega), Below.heap_alloc _ _ _ hk]
  have hb : Below w.heap.size w ((w.alloc (.cells Tryz.zeroCells210 210)).alloc (.cells Tryz.zeroCells210 210)) := ((Below.refl _ _).alloc (Nat.le_refl _) _).alloc (by simp) _
  generalize ((w.alloc (.cells Tryz.zeroCells210 210)).alloc (.cells Tryz.zeroCells210 210)) = W at *
  have hs : (W.setRow (w.heap.size + 1) cs).heap.size = w.heap.size + 2 := by rw [size_setRow]; exact hz
  refine ⟨?_, ?_, ⟨cs, ?_, hsz, fun i hi => by rw [hcs i hi, pathAt_zero]⟩, by omega, ?_⟩
  · rw [← hs]; exact World.iter_heap _ _ _
  · show ((W.setRow (w.heap.size + 1) cs).alloc _).heap[w.heap.size]? = _
    rw [Below.heap_alloc _ _ _ (by omega), setRow_other _ _ _ _ (by omega)]; exact h0
  · show ((W.setRow (w.heap.size + 1) cs).alloc _).heap[w.heap.size + 1]? = _
    rw [Below.heap_alloc _ _ _ (by omega)]; exact setRow_heap _ _ _ _ _ _ h1
  · exact (Go.below_setRow hb (by omega) cs).alloc (by omega) _
set_option maxHeartbeats 4000000 in
set_option maxRecDepth 100000 in
theorem pathBytes_any (w : World) (hset : SetIs w) :
    Calls Tryz.prog 218 #[] w fun e w' => (∃ cs, e = .returned (.agg cs) ∧ ∀ i : Nat, i < 128 → cs[i]? = some (.bool (pathI (i : Int)))) ∧ Below w.heap.size w w' := by
  obtain ⟨cs, tt, fr, hg, hsz, hcs⟩ := hset
  have HI : Hid ((Tryz.prog.info? 210).map (·.size) = some cs.size) := by
    show _ = _
    rw [infoSet, hsz]
  have HA : Hid (cs.all (·.oneCell') = true) := all_bools hsz hcs
  have HZ : Hid ((Tryz.zeroCells210).size = cs.size) := by show _ = _; rw [zeroSet_size, hsz]
  have HP : Hid (PathW w 0 _) := path_start hsz hcs
  have HG : Hid ((w.alloc (.cells Tryz.zeroCells210 210)).heap[0]? = some (.cells cs tt fr)) := by
    show _ = _
    rw [Below.heap_alloc _ _ _ (Array.getElem?_eq_some_iff.1 hg).1]; exact hg
  have HG1 : Hid (((w.alloc (.cells Tryz.zeroCells210 210)).alloc (.cells Tryz.zeroCells210 210)).heap[w.heap.size + 1]? = some (.cells Tryz.zeroCells210 210 (0, 0))) := by
    show ((w.heap.push _).push _)[w.heap.size + 1]? = _
    rw [Array.getElem?_push, if_pos (by simp)]
  clear hg hsz hcs
  go_enter Tryz.func218, Tryz.ntmps218
  go_wp2_with (first
    | refine wpList_load_row rfl 210 (.global 0) rfl 0 rfl tt cs fr _ HG.out Tryz.underlying210 rfl HI.out ?_
    | refine wpList_store_row rfl 210 (.tmp 1) (.tmp 4) rfl (w.heap.size + 1) cs (by rfl) (by rfl) 210 _ HG1.out HI.out HZ.out HA.out ?_)
  clear HG HG1 HI HA HZ
  go_loopw [3] (fun _ wr => ∃ pos, PathW w pos wr) (fun _ wr => 10 - wr.iterPos (w.heap.size + 2))
  case atStart => exact ⟨0, HP.out⟩
  case round =>
    clear HP
    obtain ⟨pos, hP⟩ := hrel
    have HP : Hid (PathW w pos wr) := hP
    by_cases hlt : pos < 10
    · have hp' : pos < marksS.size := hlt
      have hnx : ∀ ty, (Instr.next (.pointer (some ⟨w.heap.size + 1 + 1, 0, none⟩)) true ty).run Tryz.prog wr = .ok (.tuple #[.bool true, .int .i64 pos, .int .i32 (markAt pos : Int)]) (wr.iterAt (w.heap.size + 2) marksS (pos + 1)) := fun ty => by
        have := Lib.run_next_ascii_at (P := Tryz.prog) wr (w.heap.size + 2) marksS pos ty hP.it hp' (by rw [markAt_eq pos hp']; exact markAt_lt pos)
        rw [markAt_eq pos hp'] at this
        exact this
      have HN : Hid (PathW w (pos + 1) ((wr.iterAt (w.heap.size + 2) marksS (pos + 1)).setCell ⟨w.heap.size + 1, markAt pos, none⟩ (.bool true))) := hP.next hlt
      have hc : (wr.iterAt (w.heap.size + 2) marksS (pos + 1)).cell? ⟨w.heap.size + 1, markAt pos, none⟩ = some (.bool (pathAt pos (markAt pos))) := by
        rw [← (hP.cell (markAt pos) (markAt_lt pos)).1]
        simp only [World.cell?]
        rw [Lib.iterAt_other _ _ _ _ _ (by omega)]
      have hf : (wr.iterAt (w.heap.size + 2) marksS (pos + 1)).frozen? ⟨w.heap.size + 1, markAt pos, none⟩ = false := by
        rw [← (hP.cell (markAt pos) (markAt_lt pos)).2]
        simp only [World.frozen?]
        rw [Lib.iterAt_other _ _ _ _ _ (by omega)]
      have hm := markAt_lt pos
      have HQ : Hid (wr.iterPos (w.heap.size + 2) = pos) := by
        show _ = _
        unfold World.iterPos
        rw [hP.it]
      have HQ2 : Hid (((wr.iterAt (w.heap.size + 2) marksS (pos + 1)).setCell ⟨w.heap.size + 1, markAt pos, none⟩ (.bool true)).iterPos (w.heap.size + 2) = pos + 1) := by
        show _ = _
        unfold World.iterPos
        rw [HN.out.it]
      clear hP hp'
      generalize wr.iterAt (w.heap.size + 2) marksS (pos + 1) = W2 at *
      generalize markAt pos = c at *
      generalize pathAt pos c = bb at *
      go_wp2_with fail
      go_roundw
      case rel => exact ⟨pos + 1, HN.out⟩
      case measure => rw [HQ.out, HQ2.out]; omega
    · have hnx : ∀ ty, (Instr.next (.pointer (some ⟨w.heap.size + 1 + 1, 0, none⟩)) true ty).run Tryz.prog wr = .ok (.tuple #[.bool false]) wr := fun ty => Lib.run_next_end_at (P := Tryz.prog) wr (w.heap.size + 2) marksS pos ty hP.it (fun h => hlt h)
      have e10 : pos = 10 := by have := hP.le; omega
      subst e10
      obtain ⟨cs', h1, h2, h3⟩ := hP.b1
      have HI : Hid ((Tryz.prog.info? 210).map (·.size) = some cs'.size) := by
        show _ = _
        rw [infoSet, h2]
      have HA : Hid (cs'.all (·.oneCell') = true) := all_bools h2 h3
      have HZ : Hid ((Tryz.zeroCells210).size = cs'.size) := by show _ = _; rw [zeroSet_size, h2]
      have H1 : Hid (wr.heap[w.heap.size + 1]? = some (.cells cs' 210 (0, 0))) := h1
      have H0 : Hid (wr.heap[w.heap.size]? = some (.cells Tryz.zeroCells210 210 (0, 0))) := hP.b0
      have H3 : Hid (∀ i : Nat, i < 128 → cs'[i]? = some (.bool (pathI (i : Int)))) := fun i hi => by rw [h3 i hi, pathAt_end]
      have HB : Hid (Below w.heap.size w (wr.setRow w.heap.size cs')) := Go.below_setRow hP.bel (Nat.le_refl _) cs'
      clear h1 h2 h3 hP HP
      go_wp2_with (first
        | refine wpList_load_row rfl 210 (.tmp 1) rfl (w.heap.size + 1) (by rfl) 210 cs' (0, 0) _ H1.out Tryz.underlying210 rfl HI.out ?_
        | refine wpList_store_row rfl 210 (.tmp 0) (.tmp 11) rfl w.heap.size cs' (by rfl) (by rfl) 210 _ H0.out HI.out HZ.out HA.out ?_)
      exact bodyPost_ret (v := .agg cs') (results_cell_row Tryz.results218 _ _ w.heap.size 210 cs' (0, 0) _ (by rfl) (setRow_heap _ _ _ _ _ _ H0.out) Tryz.underlying210 rfl HI.out) rfl ⟨⟨cs', rfl, H3.out⟩, HB.out⟩
set_option maxHeartbeats 2000000 in
theorem isPath_any (s : ByteArray) (w : World) (hset : SetIs w) (hs : s.size ≤ 1048576) :
    Calls Tryz.prog 170 #[.string s] w fun e w' => e = .returned (.bool (pathS s)) ∧ Below w.heap.size w w' := by
  have CP := Any.strings_HasPrefix Tryz.lays99 s ⟨#[47]⟩ w
  have e : Lib.hasPrefix s.data.toList [47] = decide (s.data.toList.head? = some 47) := by
    unfold Lib.hasPrefix
    cases s.data.toList with
    | nil => rfl
    | cons x l =>
      rw [Bool.eq_iff_iff]
      simp [List.isPrefixOf]
      exact ⟨fun h => h.symm, fun h => h.symm⟩
  have CP1 : Calls Tryz.prog 217 #[.string s, .string ⟨#[47]⟩] w fun e w' => e = .returned (.bool (decide (s.data.toList.head? = some 47))) ∧ w' = w := by rw [← e]; exact CP
  clear CP e
  by_cases c1 : s.data.toList.head? = some 47
  · rw [decide_eq_true c1] at CP1
    by_cases c2 : 100 < s.size
    · have HE : Hid (pathS s = false) := pathS_long s c2
      have g : decide ((s.size : Int) ≤ 100) = false := by simp; omega
      clear c1 hset
      go_enter Tryz.func170, Tryz.ntmps170
      go_wp2_with (go_at_call 217; refine CP1.mono ?_; rintro e w' ⟨rfl, rfl⟩)
      go_ret
      exact ⟨ret_bool HE.out.symm, Below.refl _ _⟩
    · have HE : Hid (pathS s = allP pathI s.data.toList) := pathS_mid s c1 (by omega)
      have g : decide ((s.size : Int) ≤ 100) = true := by simp; omega
      have C1 := pathBytes_any w hset
      have C2 : Hid (∀ (W : World) cs, (∀ i : Nat, i < 128 → cs[i]? = some (.bool (pathI (i : Int)))) → Calls Tryz.prog 156 #[.string s, .agg cs] W fun e w' => e = .returned (.bool (allP pathI s.data.toList)) ∧ Below W.heap.size W w') := fun W cs h => hasOnly_gen pathI pathI_big s cs W (by omega) h
      clear c1 hset c2
      go_enter Tryz.func170, Tryz.ntmps170
      go_wp2_with (go_at_call 217; refine CP1.mono ?_; rintro e w' ⟨rfl, hw⟩; obtain rfl := hw.symm)
      refine C1.mono ?_
      rintro e w1 ⟨⟨cs, rfl, hcs⟩, hb1⟩
      have C3 := C2.out w1 cs hcs
      have HB : Hid (Below w.heap.size w w1) := hb1
      clear C1 C2 hcs hb1
      go_wp2_with fail
      refine C3.mono ?_
      rintro e w2 ⟨rfl, hb2⟩
      have HB2 : Hid (Below w.heap.size w w2) := HB.out.trans (hb2.mono HB.out.size)
      clear hb2 HB C3
      go_wp2_with fail
      go_ret
      exact ⟨ret_bool HE.out.symm, HB2.out⟩
  · rw [decide_eq_false c1] at CP1
    have HE : Hid (pathS s = false) := pathS_first s c1
    clear c1 hset
    go_enter Tryz.func170, Tryz.ntmps170
    go_wp2_with (go_at_call 217; refine CP1.mono ?_; rintro e w' ⟨rfl, rfl⟩)
    go_ret
    exact ⟨ret_bool HE.out.symm, Below.refl _ _⟩
end Go.Proofs.YtolkgnnjocmkdaaGreatDoor
/-
  errors.Is at a sentinel: the same one, none, another one.
-/
namespace Go.Proofs.YtolkgnnjocmkdaaGreatDoor
open Go.RowKit Go.Extern.Stop Go.Stop Go.Extern
theorem erTypeOf (v : Value) (w : World) : (Extern.ReflectliteType.typeOf #[.iface 369 v]).run Tryz.prog w = .ok (.iface 279 (.agg #[.pointer (some ⟨12, 369, none⟩)])) w := by kernel_rfl
noncomputable def erM (t : TypeId) : Sem Value := do Go.Extern.Rtype.noPackHeld "Comparable" t; pure (.bool (← typeInfo t).comparable)
theorem erComparable (w : World) : (Extern.ReflectliteType.method erM #[.agg #[.pointer (some ⟨12, 369, none⟩)]]).run Tryz.prog w = .ok (.bool true) w := by kernel_rfl
theorem erMethod (v : Value) (w : World) : (Go.method 500 279 v "Comparable").run Tryz.prog w = .ok (359, v) w := by kernel_rfl
theorem erComp : (Tryz.prog.info? 369).map (·.comparable) = some true := by kernel_rfl
theorem erSize : (Tryz.prog.info? 388).map (·.size) = some 1 := by kernel_rfl
theorem erNoIs (v : Value) (xT : TypeId) (w : World) : (Instr.typeAssert (.iface 369 v) xT 305 true).run Tryz.prog w = .ok (.tuple #[.nilIface, .bool false]) w := run_typeAssert_lacksB Tryz.underlying305 (by kernel_rfl) (by kernel_rfl) v xT w
theorem erNoUnwrap (v : Value) (xT : TypeId) (w : World) : (Instr.typeAssert (.iface 369 v) xT 286 true).run Tryz.prog w = .ok (.tuple #[.nilIface, .bool false]) w := run_typeAssert_lacksB Tryz.underlying286 (by kernel_rfl) (by kernel_rfl) v xT w
theorem erNoUnwraps (v : Value) (xT : TypeId) (w : World) : (Instr.typeAssert (.iface 369 v) xT 288 true).run Tryz.prog w = .ok (.tuple #[.nilIface, .bool false]) w := run_typeAssert_lacksB Tryz.underlying288 (by kernel_rfl) (by kernel_rfl) v xT w
set_option maxRecDepth 100000 in
theorem is_same (a : Addr) (w : World) :
    Calls Tryz.prog 167 #[.iface 369 (.pointer (some a)), .iface 369 (.pointer (some a))] w fun e w' => e = .returned (.bool true) ∧ w' = w := by
  obtain ⟨i, hi, hcmp⟩ := Option.map_eq_some_iff.1 erComp
  obtain ⟨j, hj, hjs⟩ := Option.map_eq_some_iff.1 erSize
  have h8 := @run_callFunc_extern Tryz.prog 214 _ Extern.ReflectliteType.typeOf Tryz.func214 (by kernel_rfl) (by kernel_rfl) (by kernel_rfl) (by kernel_rfl)
  have h32 := @run_callFunc_extern Tryz.prog 359 _ (Extern.ReflectliteType.method erM) Tryz.func359 (by kernel_rfl) (by kernel_rfl) (by kernel_rfl) (by kernel_rfl)
  have tT := erTypeOf
  have cT := erComparable
  have mR := erMethod
  have heq := run_eql_iface_ptr_same (P := Tryz.prog) w a Tryz.underlying124 Tryz.underlying369 hi hcmp hj
  go_enter Tryz.func167, Tryz.ntmps167
  go_wp2
  refine wp_loop_rounds 1 ?_
  rw [rounds_succ]
  go_wp2
  go_ret
  exact ⟨rfl, rfl⟩
set_option maxRecDepth 100000 in
theorem is_other (a b : Addr) (ca cb : Array Value) (ta tb : TypeId) (w : World) (hne : a ≠ b) (ha : w.heap[a.block]? = some (.cells ca ta (0, 0))) (hb : w.heap[b.block]? = some (.cells cb tb (0, 0))) :
    Calls Tryz.prog 167 #[.iface 369 (.pointer (some a)), .iface 369 (.pointer (some b))] w fun e w' => e = .returned (.bool false) ∧ w' = w := by
  obtain ⟨i, hi, hcmp⟩ := Option.map_eq_some_iff.1 erComp
  obtain ⟨j, hj, hjs⟩ := Option.map_eq_some_iff.1 erSize
  have h8 := @run_callFunc_extern Tryz.prog 214 _ Extern.ReflectliteType.typeOf Tryz.func214 (by kernel_rfl) (by kernel_rfl) (by kernel_rfl) (by kernel_rfl)
  have h32 := @run_callFunc_extern Tryz.prog 359 _ (Extern.ReflectliteType.method erM) Tryz.func359 (by kernel_rfl) (by kernel_rfl) (by kernel_rfl) (by kernel_rfl)
  have tT := erTypeOf
  have cT := erComparable
  have mR := erMethod
  have nE := erNoIs
  have uE := erNoUnwrap
  have vE := erNoUnwraps
  have heq := run_eql_iface_ptr_other (P := Tryz.prog) w Tryz.underlying124 Tryz.underlying369 hi hcmp hj (by rw [hjs]; decide) hne ha hb
  go_enter Tryz.func167, Tryz.ntmps167
  go_wp2
  refine wp_loop_rounds 1 ?_
  rw [rounds_succ]
  go_wp2
  go_ret
  exact ⟨rfl, rfl⟩
end Go.Proofs.YtolkgnnjocmkdaaGreatDoor
/-
  The four errors of chapter 5 in memory: what the row's list gives of them; codeOf.
-/
namespace Go.Proofs.YtolkgnnjocmkdaaGreatDoor
open Go.ChangeShapes Go.WideShapes Go.ChangeAt Go.RowKit
theorem laid_sentinels4 {P : Program} {n0 n1 n2 n3 nm : String} {x0 x1 x2 x3 : List UInt8} {r : List (String × DataW Unit)} {W : World} {g0 g1 g2 g3 : Nat} {ti tp te ts : TypeId} {ms : Array (String × TypeId)} {f : Field}
    (h : laidMet P ((n0, .iface nm (.ptr (.agg [.lit (.string x0)]))) :: (n1, .iface nm (.ptr (.agg [.lit (.string x1)]))) :: (n2, .iface nm (.ptr (.agg [.lit (.string x2)]))) :: (n3, .iface nm (.ptr (.agg [.lit (.string x3)]))) :: r) W)
    (hg0 : P.globalNamed n0 = some g0) (ht0 : (P.globals[g0]?).map (·.type) = some ti) (hg1 : P.globalNamed n1 = some g1) (ht1 : (P.globals[g1]?).map (·.type) = some ti) (hg2 : P.globalNamed n2 = some g2) (ht2 : (P.globals[g2]?).map (·.type) = some ti) (hg3 : P.globalNamed n3 = some g3) (ht3 : (P.globals[g3]?).map (·.type) = some ti)
    (hi : P.underlying ti = some (.interface ms)) (hrow : ∀ u, P.typeName? 3 u = some nm → u = tp) (hp : P.underlying tp = some (.pointer te)) (he : P.underlying te = some (.struct #[f])) (hft : f.type = ts) (hfo : f.offset = 0) (hs : P.underlying ts = some .string) (hc : P.cellsOf te = 1) (hcs : P.cellsOf ts = 1) :
    ∃ a0 a1 a2 a3 : Addr, (W.var? P n0 = some #[.iface tp (.pointer (some a0))] ∧ W.var? P n1 = some #[.iface tp (.pointer (some a1))] ∧ W.var? P n2 = some #[.iface tp (.pointer (some a2))] ∧ W.var? P n3 = some #[.iface tp (.pointer (some a3))]) ∧
      (a0 ≠ a1 ∧ a0 ≠ a2 ∧ a0 ≠ a3 ∧ a1 ≠ a2 ∧ a1 ≠ a3 ∧ a2 ≠ a3) ∧
      (∃ c t, W.heap[a0.block]? = some (.cells c t (0, 0))) ∧ (∃ c t, W.heap[a1.block]? = some (.cells c t (0, 0))) ∧ (∃ c t, W.heap[a2.block]? = some (.cells c t (0, 0))) ∧ (∃ c t, W.heap[a3.block]? = some (.cells c t (0, 0))) := by
  obtain ⟨ps, ⟨g0', t0', cs0, f0, p0, q0, hg0', ht0', hv0, hd0, ⟨g1', t1', cs1, f1, p1, q1, hg1', ht1', hv1, hd1, ⟨g2', t2', cs2, f2, p2, q2, hg2', ht2', hv2, hd2, ⟨g3', t3', cs3, f3, p3, q3, hg3', ht3', hv3, hd3, _, e3⟩, e2⟩, e1⟩, e0⟩, hnd, hrows⟩ := h
  obtain rfl := Option.some.inj (hg0.symm.trans hg0')
  obtain rfl := Option.some.inj (hg1.symm.trans hg1')
  obtain rfl := Option.some.inj (hg2.symm.trans hg2')
  obtain rfl := Option.some.inj (hg3.symm.trans hg3')
  obtain rfl := Option.some.inj (ht0.symm.trans ht0')
  obtain rfl := Option.some.inj (ht1.symm.trans ht1')
  obtain rfl := Option.some.inj (ht2.symm.trans ht2')
  obtain rfl := Option.some.inj (ht3.symm.trans ht3')
  subst e3
  subst e2
  subst e1
  subst e0
  obtain ⟨l0⟩ := cs0
  obtain ⟨l1⟩ := cs1
  obtain ⟨l2⟩ := cs2
  obtain ⟨l3⟩ := cs3
  have ok0 : ∀ u v, l0 = [.iface u v] → Value.okWide P W .any 0 u v := fun u v e => by
    subst e
    exact (hrows g0 0 (by simp [MemPlace.row])).2 u v (by simpa using World.var?_cell hg0' hv0 0)
  have ok1 : ∀ u v, l1 = [.iface u v] → Value.okWide P W .any 0 u v := fun u v e => by
    subst e
    exact (hrows g1 0 (by simp [MemPlace.row])).2 u v (by simpa using World.var?_cell hg1' hv1 0)
  have ok2 : ∀ u v, l2 = [.iface u v] → Value.okWide P W .any 0 u v := fun u v e => by
    subst e
    exact (hrows g2 0 (by simp [MemPlace.row])).2 u v (by simpa using World.var?_cell hg2' hv2 0)
  have ok3 : ∀ u v, l3 = [.iface u v] → Value.okWide P W .any 0 u v := fun u v e => by
    subst e
    exact (hrows g3 0 (by simp [MemPlace.row])).2 u v (by simpa using World.var?_cell hg3' hv3 0)
  obtain ⟨a0, s0, rfl, hc0, hs0, hz0, rfl⟩ := errorString_of_trod hi hrow hp he hft hfo hs hc hcs hd0 ok0
  obtain ⟨a1, s1, rfl, hc1, hs1, hz1, rfl⟩ := errorString_of_trod hi hrow hp he hft hfo hs hc hcs hd1 ok1
  obtain ⟨a2, s2, rfl, hc2, hs2, hz2, rfl⟩ := errorString_of_trod hi hrow hp he hft hfo hs hc hcs hd2 ok2
  obtain ⟨a3, s3, rfl, hc3, hs3, hz3, rfl⟩ := errorString_of_trod hi hrow hp he hft hfo hs hc hcs hd3 ok3
  have b0 := (hrows a0.block a0.off (by simp [MemPlace.row])).1
  have b1 := (hrows a1.block a1.off (by simp [MemPlace.row])).1
  have b2 := (hrows a2.block a2.off (by simp [MemPlace.row])).1
  have b3 := (hrows a3.block a3.off (by simp [MemPlace.row])).1
  refine ⟨a0, a1, a2, a3, ⟨hv0, hv1, hv2, hv3⟩, ⟨?_, ?_, ?_, ?_, ?_, ?_⟩, b0, b1, b2, b3⟩
  all_goals (rintro rfl; simp [MemPlace.row] at hnd)
structure Errs where
  u : Addr
  m : Addr
  b : Addr
  d : Addr
/-- The four variables hold pointers to four errors of errors.New's make. -/
structure ErrsIs (w : World) (E : Errs) : Prop where
  gU : w.cell? ⟨4, 0, none⟩ = some (.iface 369 (.pointer (some E.u)))
  gM : w.cell? ⟨1, 0, none⟩ = some (.iface 369 (.pointer (some E.m)))
  gB : w.cell? ⟨2, 0, none⟩ = some (.iface 369 (.pointer (some E.b)))
  gD : w.cell? ⟨3, 0, none⟩ = some (.iface 369 (.pointer (some E.d)))
  ne : E.u ≠ E.m ∧ E.u ≠ E.b ∧ E.u ≠ E.d ∧ E.m ≠ E.b ∧ E.m ≠ E.d ∧ E.b ≠ E.d
  hU : ∃ c t, w.heap[E.u.block]? = some (.cells c t (0, 0))
  hM : ∃ c t, w.heap[E.m.block]? = some (.cells c t (0, 0))
  hB : ∃ c t, w.heap[E.b.block]? = some (.cells c t (0, 0))
  hD : ∃ c t, w.heap[E.d.block]? = some (.cells c t (0, 0))
theorem ErrsIs.below {w w' : World} {E : Errs} (h : ErrsIs w E) (hb : Below w.heap.size w w') : ErrsIs w' E := by
  have hc : ∀ {g : Nat} {v : Value}, w.cell? ⟨g, 0, none⟩ = some v → w'.cell? ⟨g, 0, none⟩ = some v := fun {g v} e => by rw [hb.cell (block_lt_of_cell e)]; exact e
  have hh : ∀ {a : Addr}, (∃ c t, w.heap[a.block]? = some (.cells c t (0, 0))) → ∃ c t, w'.heap[a.block]? = some (.cells c t (0, 0)) := fun {a} ⟨c, t, e⟩ => ⟨c, t, by rw [hb.block a.block (Array.getElem?_eq_some_iff.1 e).1]; exact e⟩
  exact ⟨hc h.gU, hc h.gM, hc h.gB, hc h.gD, h.ne, hh h.hU, hh h.hM, hh h.hB, hh h.hD⟩
theorem erRow (u : TypeId) (h : Tryz.prog.typeName? 3 u = some "*errors.errorString") : u = 369 :=
  typeName_ptr_named (nm := "errors.errorString") (by rw [show "*" ++ "errors.errorString" = "*errors.errorString" from by decide]; kernel_rfl) (by kernel_rfl) (by decide) u (by rw [show "*" ++ "errors.errorString" = "*errors.errorString" from by decide]; exact h)
theorem erNamedU : Tryz.prog.globalNamed "loop.example/g00665/impl.errUnread" = some 4 := by kernel_rfl
theorem erTypeU : (Tryz.prog.globals[4]?).map (·.type) = some 124 := by kernel_rfl
theorem erNamedM : Tryz.prog.globalNamed "loop.example/g00665/impl.errTooMany" = some 1 := by kernel_rfl
theorem erTypeM : (Tryz.prog.globals[1]?).map (·.type) = some 124 := by kernel_rfl
theorem erNamedB : Tryz.prog.globalNamed "loop.example/g00665/impl.errBeyond" = some 2 := by kernel_rfl
theorem erTypeB : (Tryz.prog.globals[2]?).map (·.type) = some 124 := by kernel_rfl
theorem erNamedD : Tryz.prog.globalNamed "loop.example/g00665/impl.errDouble" = some 3 := by kernel_rfl
theorem erTypeD : (Tryz.prog.globals[3]?).map (·.type) = some 124 := by kernel_rfl
theorem errsIs_of {w : World} {rest : List (String × DataW Unit)} (h : laidMet Tryz.prog (("loop.example/g00665/impl.errUnread", Rows.laid_loop_example_g00665_impl_errUnread) :: ("loop.example/g00665/impl.errTooMany", Rows.laid_loop_example_g00665_impl_errTooMany) :: ("loop.example/g00665/impl.errBeyond", Rows.laid_loop_example_g00665_impl_errBeyond) :: ("loop.example/g00665/impl.errDouble", Rows.laid_loop_example_g00665_impl_errDouble) :: rest) w) : ∃ E, ErrsIs w E := by
  obtain ⟨a0, a1, a2, a3, ⟨v0, v1, v2, v3⟩, hne, h0, h1, h2, h3⟩ := laid_sentinels4 h erNamedU erTypeU erNamedM erTypeM erNamedB erTypeB erNamedD erTypeD Tryz.underlying124 erRow Tryz.underlying369 Tryz.underlying388 rfl rfl Tryz.underlying9 (by kernel_rfl) (by kernel_rfl)
  exact ⟨⟨a0, a1, a2, a3⟩, by simpa using World.var?_cell erNamedU v0 0, by simpa using World.var?_cell erNamedM v1 0, by simpa using World.var?_cell erNamedB v2 0, by simpa using World.var?_cell erNamedD v3 0, hne, h0, h1, h2, h3⟩
/-- The error of a code. -/
def errV (E : Errs) (c : Int) : Value := if c = 0 then .nilIface else if c = 2 then .iface 369 (.pointer (some E.m)) else if c = 3 then .iface 369 (.pointer (some E.b)) else if c = 6 then .iface 369 (.pointer (some E.d)) else .iface 369 (.pointer (some E.u))
theorem errV0 (E : Errs) : errV E 0 = .nilIface := rfl
theorem errV2 (E : Errs) : errV E 2 = .iface 369 (.pointer (some E.m)) := rfl
theorem errV3 (E : Errs) : errV E 3 = .iface 369 (.pointer (some E.b)) := rfl
theorem errV5 (E : Errs) : errV E 5 = .iface 369 (.pointer (some E.u)) := rfl
theorem errV6 (E : Errs) : errV E 6 = .iface 369 (.pointer (some E.d)) := rfl
end Go.Proofs.YtolkgnnjocmkdaaGreatDoor
/-
  codeOf and headError.
-/
namespace Go.Proofs.YtolkgnnjocmkdaaGreatDoor
open Go.ChangeShapes Go.WideShapes Go.ChangeAt Go.RowKit
set_option maxHeartbeats 1000000 in
theorem codeOf_any (E : Errs) (c : Int) (w : World) (hE : ErrsIs w E) (hc : c = 0 ∨ c = 2 ∨ c = 3 ∨ c = 5 ∨ c = 6) :
    Calls Tryz.prog 113 #[errV E c] w fun e w' => e = .returned (.int .i64 c) ∧ w' = w := by
  obtain ⟨gU, gM, gB, gD, ⟨n1, n2, n3, n4, n5, n6⟩, ⟨cu, tu, hU⟩, ⟨cm, tm, hM⟩, ⟨cb, tb, hB⟩, ⟨cd, td, hD⟩⟩ := hE
  rcases hc with rfl | rfl | rfl | rfl | rfl
  · rw [errV0]
    go_enter Tryz.func113, Tryz.ntmps113
    go_wp2_with fail
    go_ret
    exact ⟨rfl, rfl⟩
  · rw [errV2]
    have I1 := is_same E.m w
    go_enter Tryz.func113, Tryz.ntmps113
    go_wp2_with fail
    refine I1.mono ?_
    rintro e w' ⟨rfl, rfl⟩
    go_wp2_with fail
    go_ret
    exact ⟨rfl, rfl⟩
  · rw [errV3]
    have I1 := is_other E.b E.m cb cm tb tm w (Ne.symm n4) hB hM
    have I2 := is_same E.b w
    go_enter Tryz.func113, Tryz.ntmps113
    go_wp2_with fail
    refine I1.mono ?_
    rintro e w' ⟨rfl, rfl⟩
    go_wp2_with fail
    refine I2.mono ?_
    rintro e w' ⟨rfl, rfl⟩
    go_wp2_with fail
    go_ret
    exact ⟨rfl, rfl⟩
  · rw [errV5]
    have I1 := is_other E.u E.m cu cm tu tm w n1 hU hM
    have I2 := is_other E.u E.b cu cb tu tb w n2 hU hB
    have I3 := is_other E.u E.d cu cd tu td w n3 hU hD
    go_enter Tryz.func113, Tryz.ntmps113
    go_wp2_with fail
    refine I1.mono ?_
    rintro e w' ⟨rfl, rfl⟩
    go_wp2_with fail
    refine I2.mono ?_
    rintro e w' ⟨rfl, rfl⟩
    go_wp2_with fail
    refine I3.mono ?_
    rintro e w' ⟨rfl, rfl⟩
    go_wp2_with fail
    go_ret
    exact ⟨rfl, rfl⟩
  · rw [errV6]
    have I1 := is_other E.d E.m cd cm td tm w (Ne.symm n5) hD hM
    have I2 := is_other E.d E.b cd cb td tb w (Ne.symm n6) hD hB
    have I3 := is_same E.d w
    go_enter Tryz.func113, Tryz.ntmps113
    go_wp2_with fail
    refine I1.mono ?_
    rintro e w' ⟨rfl, rfl⟩
    go_wp2_with fail
    refine I2.mono ?_
    rintro e w' ⟨rfl, rfl⟩
    go_wp2_with fail
    refine I3.mono ?_
    rintro e w' ⟨rfl, rfl⟩
    go_wp2_with fail
    go_ret
    exact ⟨rfl, rfl⟩
set_option maxHeartbeats 1000000 in
theorem headError_any (E : Errs) (c : Int) (w : World) (hE : ErrsIs w E) (hc : c = 0 ∨ c = 2 ∨ c = 5) :
    Calls Tryz.prog 168 #[.int .i64 c] w fun e w' => e = .returned (errV E c) ∧ w' = w := by
  have gM := hE.gM
  have gU := hE.gU
  rcases hc with rfl | rfl | rfl
  · rw [errV0]
    go_enter Tryz.func168, Tryz.ntmps168
    go_wp2
    go_ret
    exact ⟨rfl, rfl⟩
  · rw [errV2]
    go_enter Tryz.func168, Tryz.ntmps168
    go_wp2
    go_ret
    exact ⟨rfl, rfl⟩
  · rw [errV5]
    go_enter Tryz.func168, Tryz.ntmps168
    go_wp2
    go_ret
    exact ⟨rfl, rfl⟩
end Go.Proofs.YtolkgnnjocmkdaaGreatDoor
/-
  What JoinHeader answers.
-/
namespace Go.Proofs.YtolkgnnjocmkdaaGreatDoor
open Go.ChangeShapes Go.WideShapes Go.ChangeAt Go.RowKit Go.Sort
theorem HeadsAt.drop {w : World} {b off : Nat} {l : List Hdr} (h : HeadsAt w b off l) (i : Nat) : HeadsAt w b (off + i * 2) (l.drop i) := by
  intro j r hr
  rw [List.getElem?_drop] at hr
  obtain ⟨a, c⟩ := h (i + j) r hr
  rw [show off + (i + j) * 2 = off + i * 2 + j * 2 from by omega] at a c
  exact ⟨a, c⟩
theorem hjoinL_len (vs : List ByteArray) (h : ∀ v ∈ vs, v.size ≤ 200) : (hjoinL vs).length ≤ vs.length * 202 := by
  unfold hjoinL
  cases vs with
  | nil => simp [Lib.join, List.intercalate]
  | cons x r =>
    rw [List.map_cons, Lib.join_length]
    have hl : ∀ (l : List ByteArray), (∀ v ∈ l, v.size ≤ 200) → Lib.lens (l.map (·.data.toList)) ≤ l.length * 200 := by
      intro l
      induction l with
      | nil => intro _; simp [Lib.lens]
      | cons y l ih =>
        intro hy
        have h1 := ih fun v hv => hy v (by simp [hv])
        have h2 := hy y (by simp)
        have h3 : y.data.toList.length = y.size := by simp
        simp only [List.map_cons, Lib.lens, List.length_cons, List.sum_cons] at h1 ⊢
        omega
    have := hl (x :: r) h
    rw [List.map_cons] at this
    simp only [List.length_cons, List.length_map, List.length_nil] at this ⊢
    omega
theorem valsOf_mem {x : ByteArray} {l : List Hdr} (hz : ∀ (i : Nat) r, l[i]? = some r → r.name.size ≤ 64 ∧ r.value.size ≤ 200) : ∀ v ∈ valsOf x l, v.size ≤ 200 := by
  intro v hv
  obtain ⟨r, hr, rfl⟩ := List.mem_map.1 hv
  obtain ⟨i, hi⟩ := List.getElem?_of_mem (List.mem_filter.1 hr).1
  exact (hz i r hi).2
theorem valsOf_len (x : ByteArray) (l : List Hdr) : (valsOf x l).length ≤ l.length := by
  unfold valsOf
  rw [List.length_map]
  exact List.length_filter_le _ _
set_option maxRecDepth 100000 in
set_option maxHeartbeats 8000000 in
theorem implJoin_found (w : World) (b off cap : Nat) (l : List Hdr) (name : ByteArray) (i : Nat) (h0 : askC l name = 0) (hf : firstAt (lowS name) l = some i) (hcap : l.length ≤ cap) (hset : SetIs w) (hat : HeadsAt w b off l) :
    Calls Tryz.prog 42 #[.slice (some ⟨b, off, none⟩) l.length cap, .string name] w fun e w' => e = .returned (.agg #[.int .i64 0, .string ⟨(hjoinL (valsOf (lowS name) l)).toArray⟩]) ∧ Below w.heap.size w w' := by
  obtain ⟨h20, hz, hnm⟩ := asked h0
  have hi : HdsIn w (some ⟨b, off, none⟩) l := .inr ⟨b, off, rfl, hat⟩
  have HA : Hid (∀ W, Below w.heap.size w W → Calls Tryz.prog 101 #[.slice (some ⟨b, off, none⟩) l.length cap, .string name] W fun e w' => e = .returned (.int .i64 0) ∧ Below W.heap.size W w') := fun W hb => by
    have := namedFault_any W (some ⟨b, off, none⟩) cap l name (by omega) (hset.below hb) (hi.keep hb)
    rw [h0] at this
    exact this
  have HP : Hid (∀ W, Below w.heap.size w W → Calls Tryz.prog 103 #[.slice (some ⟨b, off, none⟩) l.length cap] W fun e w' => e = .returned (.map (some W.heap.size)) ∧ NamesMap w' W.heap.size 20 (fun x => firstAt x l) ∧ Below W.heap.size W w') := fun W hb => firstPlaces_any W _ cap l h20 (fun i r hr => (hz i r hr).1) (hi.keep hb)
  have HS : Hid (∀ W, Calls Tryz.prog 102 #[.string name] W fun e w' => e = .returned (.string (lowS name)) ∧ Below W.heap.size W w') := fun W => smallName_any name W (by omega)
  have hil := firstAt_lt hf
  have HV : Hid (valsOf (lowS name) (l.drop i) = valsOf (lowS name) l) := (valsOf_drop hf).1
  have HD : Hid (HeadsAt w b (off + i * 2) (l.drop i)) := hat.drop i
  have HZ : Hid (∀ (j : Nat) r, (l.drop i)[j]? = some r → r.name.size ≤ 64 ∧ r.value.size ≤ 200) := fun j r hr => by
    rw [List.getElem?_drop] at hr
    exact hz _ r hr
  have HF : Hid (firstAt (lowS name) l = some i) := hf
  have sz := lowS_size name
  have hJL : (hjoinL (valsOf (lowS name) l)).length ≤ 4040 := by
    have h1 := hjoinL_len _ (valsOf_mem (x := lowS name) hz)
    have h2 := valsOf_len (lowS name) l
    have h3 : (valsOf (lowS name) l).length * 202 ≤ 20 * 202 := Nat.mul_le_mul_right _ (by omega)
    omega
  have hVL : (valsOf (lowS name) l).length ≤ 20 := Nat.le_trans (valsOf_len _ _) h20
  generalize hM : l.drop i = M at *
  have hMl : M.length = l.length - i := by rw [← hM, List.length_drop]
  clear hi hz h0 hset hat hf hM
  generalize lowS name = q at *
  have hni : i < l.length := hil
  generalize hn : l.length = n at *
  have HN : Hid (M.length = n - i) := hMl
  clear hMl hil hn
  go_enter Tryz.func42, Tryz.ntmps42
  go_wp2_with fail
  refine (HA.out _ ((Below.refl _ _).alloc (Nat.le_refl _) _)).mono ?_
  rintro e w1 ⟨rfl, hb1⟩
  rw [World.size_alloc] at hb1
  have HB1 : Hid (Below (w.heap.size + 1) (w.alloc (.cells #[.int .i64 0, .string ⟨#[]⟩] 85)) w1) := hb1
  have hz1 : w.heap.size + 1 ≤ w1.heap.size := by have := hb1.size; rwa [World.size_alloc] at this
  clear hb1 HA
  go_wp2_with fail
  refine (HS.out _).mono ?_
  rintro e w2 ⟨rfl, hb2⟩
  have HB2 : Hid (Below (w.heap.size + 1) (w.alloc (.cells #[.int .i64 0, .string ⟨#[]⟩] 85)) w2) := HB1.out.trans (hb2.mono hz1)
  have hz2 : w.heap.size + 1 ≤ w2.heap.size := Nat.le_trans hz1 hb2.size
  clear hb2 HB1 HS hz1
  go_wp2_with fail
  refine (HP.out _ (text_room HB2.out).2.2.2.2.2).mono ?_
  rintro e w3 ⟨rfl, hm3, hb3⟩
  have HB3 : Hid (Below (w.heap.size + 1) (w.alloc (.cells #[.int .i64 0, .string ⟨#[]⟩] 85)) w3) := HB2.out.trans (hb3.mono hz2)
  have hz3 : w.heap.size + 1 ≤ w3.heap.size := Nat.le_trans hz2 hb3.size
  have HM3 : Hid (NamesMap w3 w2.heap.size 20 (fun x => firstAt x l)) := hm3
  clear hb3 HB2 hm3 HP hz2
  generalize w2.heap.size = B at *
  try clear w2
  have gi0 : (0 : Int) ≤ (i : Int) := by omega
  have gi1 : (i : Int) ≤ (n : Int) := by omega
  have gi2 : (n : Int) ≤ (cap : Int) := by omega
  go_wp2_with (at_lookup; refine wpList_look_some _ rfl _ _ rfl B 20 _ rfl HM3.out q rfl (by omega) i HF.out ?_)
  clear HM3
  have hm20 : n - i ≤ 20 := by omega
  generalize n - i = m at *
  go_loopw [9, 35] (fun v j wr => ∃ (k : Nat), k ≤ m ∧ j = .int .i64 k ∧ OwnS wr (w.heap.size + 1) v (valsOf q (M.take k)) ∧ Below (w.heap.size + 1) (w.alloc (.cells #[.int .i64 0, .string ⟨#[]⟩] 85)) wr) (fun _ j _ => m - (intOf j).toNat)
  case atStart => exact ⟨0, Nat.zero_le _, rfl, OwnS.nil _ _, HB3.out⟩
  case round =>
    obtain ⟨k, hk, rfl, ho, hb⟩ := hrel
    have HO : Hid (OwnS wr (w.heap.size + 1) u9 (valsOf q (M.take k))) := ho
    have hz : w.heap.size + 1 ≤ wr.heap.size := by have := hb.size; rwa [World.size_alloc] at this
    have hwr : Below w.heap.size w wr := ((Below.refl _ _).alloc (Nat.le_refl _) _).trans (hb.mono (Nat.le_succ _))
    clear ho HB3
    by_cases hlt : k < m
    · obtain ⟨r, hr⟩ : ∃ r, M[k]? = some r := ⟨M[k]'(by have := HN.out; omega), List.getElem?_eq_getElem _⟩
      obtain ⟨p1, p3⟩ := (HD.out.keep hwr) k r hr
      obtain ⟨z1, z2⟩ := HZ.out k r hr
      have HK : Hid (M.take (k + 1) = M.take k ++ [r]) := take_hdr hr
      have hlk : (valsOf q (M.take k)).length ≤ 20 := Nat.le_trans (valsOf_len _ _) (by rw [List.length_take]; omega)
      have gk : (k : Int) < m := by omega
      clear hr HD HZ hwr
      have KY := @valsOf_yes q r (M.take k)
      have KN := @valsOf_no q r (M.take k)
      obtain ⟨rn, rv⟩ := r
      simp only at p1 p3 z1 z2 KY KN
      have SN := fun w => smallName_any rn w (by omega)
      have HSN : Hid (∀ w, Calls Tryz.prog 102 #[.string rn] w fun e w' => e = .returned (.string (lowS rn)) ∧ Below w.heap.size w w') := SN
      clear SN
      by_cases he : lowS rn = q
      · have HX : Hid (valsOf q (M.take (k + 1)) = valsOf q (M.take k) ++ [rv]) := by show _ = _; rw [HK.out]; exact KY he
        rw [he] at HSN
        clear KY KN HK he
        generalize valsOf q (M.take k) = L at *
        go_wp2_with fail
        refine (HSN.out _).mono ?_
        rintro e w4 ⟨rfl, hb4⟩
        obtain ⟨hz4, c0, c1, kb⟩ := hdr_room hb4
        have HO4 : Hid (OwnS w4 (w.heap.size + 1) u9 L) := HO.out.below kb
        have HB4 : Hid (Below (w.heap.size + 1) (w.alloc (.cells #[.int .i64 0, .string ⟨#[]⟩] 85)) w4) := hb.trans (kb.mono hz)
        have hz5 : w.heap.size + 1 ≤ w4.heap.size := Nat.le_trans hz kb.size
        clear hb4 kb hb HO p1 p3
        go_wp2_with (at_builtin; refine wpList_append_str _ rfl (.tmp 44) (.tmp 47) rfl (w.heap.size + 1) _ L rv rfl rfl HO4.out (by omega) hz5 ?_; intro v6 w6 HO6 hb6 hz6)
        go_roundw
        case rel => exact ⟨k + 1, by omega, by go_num, by rw [HX.out]; exact HO6, HB4.out.trans hb6⟩
        case measure => simp [intOf]; omega
      · have HX : Hid (valsOf q (M.take (k + 1)) = valsOf q (M.take k)) := by show _ = _; rw [HK.out]; exact KN he
        have hq := hstr_ne he
        clear KY KN HK he
        generalize lowS rn = q2 at *
        generalize valsOf q (M.take k) = L at *
        go_wp2_with fail
        refine (HSN.out _).mono ?_
        rintro e w4 ⟨rfl, hb4⟩
        obtain ⟨hz4, c0, c1, kb⟩ := hdr_room hb4
        have HO4 : Hid (OwnS w4 (w.heap.size + 1) u9 L) := HO.out.below kb
        have HB4 : Hid (Below (w.heap.size + 1) (w.alloc (.cells #[.int .i64 0, .string ⟨#[]⟩] 85)) w4) := hb.trans (kb.mono hz)
        clear hb4 kb hb HO p1 p3
        go_wp2_with fail
        go_roundw
        case rel => exact ⟨k + 1, by omega, by go_num, by rw [HX.out]; exact HO4.out, HB4.out⟩
        case measure => simp [intOf]; omega
    · have ek : M.take k = M := List.take_of_length_le (by have := HN.out; omega)
      have HO2 := HO.out
      rw [ek, HV.out] at HO2
      have HJ := join_own wr _ u9 _ HO2 (by omega) (by show (hjoinL (valsOf q l)).length ≤ _; omega)
      have HT : Hid ((⟨(hjoinL (valsOf q l)).toArray⟩ : ByteArray).size ≤ 4040) := by show _ ≤ _; simpa [ByteArray.size] using hJL
      have HJ2 : Hid (Calls Tryz.prog 105 #[u9, .string ⟨#[44, 32]⟩] wr fun e w' => e = .returned (.string ⟨(hjoinL (valsOf q l)).toArray⟩) ∧ Below wr.heap.size wr w') := HJ
      obtain ⟨jt, HJT⟩ : ∃ jt, Hid ((⟨(hjoinL (valsOf q l)).toArray⟩ : ByteArray) = jt) := ⟨_, rfl⟩
      rw [HJT.out] at HT HJ2
      have hjt := HT.out
      have HBr : Hid (Below (w.heap.size + 1) (w.alloc (.cells #[.int .i64 0, .string ⟨#[]⟩] 85)) wr) := hb
      clear HT HJ HO2 HO ek hwr hb HD HZ
      go_wp2_with fail
      refine HJ2.out.mono ?_
      rintro e w4 ⟨rfl, hb4⟩
      go_wp2_with fail
      refine (hclone_any jt _ (by omega)).mono ?_
      rintro e w5 ⟨rfl, hb5⟩
      obtain ⟨hz6, q0, q1, f0, f1, kb⟩ := text_room (HBr.out.trans ((hb4.trans (hb5.mono hb4.size)).mono hz))
      obtain ⟨r0, r1⟩ := two_set (v0 := .int .i64 0) (v1 := .string jt) q0 q1
      clear hb4 hb5 HJ2 HBr
      go_wp2_with fail
      exact bodyPost_ret (v := .agg #[.int .i64 0, .string jt]) (by simp [results, Tryz.results42, go_sem, r0, r1]) rfl ⟨by rw [HJT.out], (kb.setCell (Nat.le_refl _) _).setCell (Nat.le_refl _) _⟩
set_option maxRecDepth 100000 in
set_option maxHeartbeats 4000000 in
theorem implJoin_any (w : World) (a : Option Addr) (cap : Nat) (l : List Hdr) (name : ByteArray) (hl : l.length ≤ 1048576) (hcap : l.length ≤ cap) (hset : SetIs w) (hi : HdsIn w a l) :
    Calls Tryz.prog 42 #[.slice a l.length cap, .string name] w fun e w' => e = .returned (.agg #[.int .i64 (joinC l name), .string (joinT l name)]) ∧ Below w.heap.size w w' := by
  have HA : Hid (∀ W, Below w.heap.size w W → Calls Tryz.prog 101 #[.slice a l.length cap, .string name] W fun e w' => e = .returned (.int .i64 (askC l name)) ∧ Below W.heap.size W w') := fun W hb => namedFault_any W a cap l name hl (hset.below hb) (hi.keep hb)
  by_cases h0 : askC l name = 0
  · cases hf : firstAt (lowS name) l with
    | some i =>
      have hv : ¬ valsOf (lowS name) l = [] := fun e => by rw [valsOf_first.1 e] at hf; cases hf
      rw [(join_some h0 hv).1, (join_some h0 hv).2]
      have hil := firstAt_lt hf
      rcases hi with h | ⟨b, off, rfl, hat⟩
      · subst h; simp at hil
      · exact implJoin_found w b off cap l name i h0 hf hcap hset hat
    | none =>
      have hv : valsOf (lowS name) l = [] := valsOf_first.2 hf
      rw [(join_none h0 hv).1, (join_none h0 hv).2]
      obtain ⟨h20, hz, hnm⟩ := asked h0
      have HP : Hid (∀ W, Below w.heap.size w W → Calls Tryz.prog 103 #[.slice a l.length cap] W fun e w' => e = .returned (.map (some W.heap.size)) ∧ NamesMap w' W.heap.size 20 (fun x => firstAt x l) ∧ Below W.heap.size W w') := fun W hb => firstPlaces_any W a cap l h20 (fun i r hr => (hz i r hr).1) (hi.keep hb)
      have HS : Hid (∀ W, Calls Tryz.prog 102 #[.string name] W fun e w' => e = .returned (.string (lowS name)) ∧ Below W.heap.size W w') := fun W => smallName_any name W (by omega)
      have HF : Hid (firstAt (lowS name) l = none) := hf
      have sz := lowS_size name
      rw [h0] at HA
      clear hi hz h0 h20 hset hf hv
      generalize l.length = n at *
      generalize lowS name = q at *
      go_enter Tryz.func42, Tryz.ntmps42
      go_wp2_with fail
      refine (HA.out _ ((Below.refl _ _).alloc (Nat.le_refl _) _)).mono ?_
      rintro e w1 ⟨rfl, hb1⟩
      rw [World.size_alloc] at hb1
      have HB1 : Hid (Below (w.heap.size + 1) (w.alloc (.cells #[.int .i64 0, .string ⟨#[]⟩] 85)) w1) := hb1
      have hz1 : w.heap.size + 1 ≤ w1.heap.size := by have := hb1.size; rwa [World.size_alloc] at this
      clear hb1 HA
      go_wp2_with fail
      refine (HS.out _).mono ?_
      rintro e w2 ⟨rfl, hb2⟩
      have HB2 : Hid (Below (w.heap.size + 1) (w.alloc (.cells #[.int .i64 0, .string ⟨#[]⟩] 85)) w2) := HB1.out.trans (hb2.mono hz1)
      have hz2 : w.heap.size + 1 ≤ w2.heap.size := Nat.le_trans hz1 hb2.size
      clear hb2 HB1 HS hz1
      go_wp2_with fail
      refine (HP.out _ (text_room HB2.out).2.2.2.2.2).mono ?_
      rintro e w3 ⟨rfl, hm3, hb3⟩
      obtain ⟨hz3, q0, q1, f0, f1, kb⟩ := text_room (HB2.out.trans (hb3.mono hz2))
      obtain ⟨r0, r1⟩ := two_set (v0 := .int .i64 4) (v1 := .string ⟨#[]⟩) q0 q1
      have HM3 : Hid (NamesMap w3 w2.heap.size 20 (fun x => firstAt x l)) := hm3
      clear hb3 HB2 hm3 HP hz2
      generalize w2.heap.size = B at *
      try clear w2
      go_wp2_with (at_lookup; refine wpList_look_none _ rfl _ _ rfl B 20 _ rfl HM3.out q rfl (by omega) HF.out ?_)
      exact bodyPost_ret (v := .agg #[.int .i64 4, .string ⟨#[]⟩]) (by simp [results, Tryz.results42, go_sem, r0, r1]) rfl ⟨rfl, (kb.setCell (Nat.le_refl _) _).setCell (Nat.le_refl _) _⟩
  · rw [(join_bad h0).1, (join_bad h0).2]
    clear hi hset
    generalize askC l name = fc at *
    generalize l.length = n at *
    go_enter Tryz.func42, Tryz.ntmps42
    go_wp2_with fail
    refine (HA.out _ ((Below.refl _ _).alloc (Nat.le_refl _) _)).mono ?_
    rintro e w1 ⟨rfl, hb1⟩
    rw [World.size_alloc] at hb1
    obtain ⟨hz2, q0, q1, f0, f1, kb⟩ := text_room hb1
    obtain ⟨r0, r1⟩ := two_set (v0 := .int .i64 fc) (v1 := .string ⟨#[]⟩) q0 q1
    clear hb1 HA
    go_wp2_with fail
    exact bodyPost_ret (v := .agg #[.int .i64 fc, .string ⟨#[]⟩]) (by simp [results, Tryz.results42, go_sem, r0, r1]) rfl ⟨rfl, (kb.setCell (Nat.le_refl _) _).setCell (Nat.le_refl _) _⟩
end Go.Proofs.YtolkgnnjocmkdaaGreatDoor
/-
  Requests and responses as bytes, plainly. No Go in sight.
-/
namespace Go.Proofs.YtolkgnnjocmkdaaGreatDoor
def hostT : ByteArray := ⟨#[72, 111, 115, 116]⟩
theorem hostT_low : lowS hostT = hostN := by decide +kernel
theorem hostN_low : lowS hostN = hostN := by decide +kernel
theorem hostT_word : wordS hostT = true := by decide +kernel
theorem trim_plain (s : ByteArray) (h : ∀ c ∈ s.data.toList, blankI (c.toNat : Int) = false) : trimT s = s := by
  have e := trim_between s.data.toList 0 s.data.toList.length (Nat.zero_le _) (Nat.le_refl _) (fun j b hj _ => absurd hj (by omega)) (fun b _ hb => h b (List.mem_of_getElem? hb))
    (fun j b hj hb => absurd (List.getElem?_eq_some_iff.1 hb).1 (by omega)) (fun b _ hb => h b (List.mem_of_getElem? hb))
  unfold trimT
  rw [e, List.take_length, List.drop_zero]
theorem hostI_plain (c : Int) (h : hostI c = true) : blankI c = false ∧ plainI c = true := by
  simp only [hostI, Bool.or_eq_true, Bool.and_eq_true, decide_eq_true_eq] at h
  constructor
  · simp [blankI]; omega
  · simp [plainI]; omega
theorem hostS_true {h : ByteArray} (hs : hostS h = true) : 1 ≤ h.size ∧ h.size ≤ 60 ∧ ∀ c ∈ h.data.toList, hostI (c.toNat : Int) = true := by
  simp only [hostS, Bool.and_eq_true, decide_eq_true_eq] at hs
  exact ⟨hs.1.1, hs.1.2, allP_mem hs.2⟩
theorem host_line {h : ByteArray} (hs : hostS h = true) : faultH ⟨hostT, h⟩ = 0 := by
  obtain ⟨h1, h2, h3⟩ := hostS_true hs
  unfold faultH
  rw [if_neg (by rw [hostT_word]; decide), if_neg (by simp only; omega), if_neg ?_, if_pos ?_]
  · exact trim_plain h fun c hc => (hostI_plain _ (h3 c hc)).1
  · have : plainL h.data.toList = true := List.all_eq_true.2 fun c hc => (hostI_plain _ (h3 c hc)).2
    simp only [this]; decide
theorem host_heads {h : ByteArray} {l : List Hdr} (hs : hostS h = true) (h0 : headsC l = 0) (hl : l.length < 20) : headsC (⟨hostT, h⟩ :: l) = 0 := by
  rw [headsC_few (by simp only [List.length_cons]; omega), faultHL_ok (host_line hs)]
  rw [headsC_few (by omega)] at h0
  exact h0
def verL : List UInt8 := [72, 84, 84, 80, 47, 49, 46, 49]
def reqL (m h p : ByteArray) (l : List Hdr) : List UInt8 := m.data.toList ++ [32] ++ p.data.toList ++ [32] ++ verL ++ [13, 10] ++ packL (⟨hostT, h⟩ :: l) ++ [13, 10]
def reqB (m h p : ByteArray) (l : List Hdr) : List UInt8 := if reqC m h p l = 0 then reqL m h p l else []
theorem packL_len {l : List Hdr} (h : headsC l = 0) : (packL l).length ≤ 268 * l.length := by
  have h2 := (headsC_zero h).2
  have : ∀ l : List Hdr, (∀ r ∈ l, faultH r = 0) → (packL l).length ≤ 268 * l.length := fun l => by
    induction l with
    | nil => intro _; simp [packL]
    | cons r l ih =>
      intro hh
      have a := lineL_len (hh r (by simp))
      have b := ih fun x hx => hh x (by simp [hx])
      simp only [packL, List.flatMap_cons, List.length_append, List.length_cons] at b ⊢
      omega
  refine this l fun r hr => ?_
  obtain ⟨i, hi⟩ := List.getElem?_of_mem hr
  exact h2 i r hi
theorem packL_cons (r : Hdr) (l : List Hdr) : packL (r :: l) = lineL r ++ packL l := by simp [packL]
end Go.Proofs.YtolkgnnjocmkdaaGreatDoor
/-
  What RequestFault and its model answer.
-/
namespace Go.Proofs.YtolkgnnjocmkdaaGreatDoor
open Go.ChangeShapes Go.WideShapes Go.ChangeAt Go.RowKit
theorem heads_sizes {l : List Hdr} (h : headsC l = 0) : l.length ≤ 20 ∧ ∀ (i : Nat) r, l[i]? = some r → r.name.size ≤ 64 ∧ r.value.size ≤ 200 := by
  obtain ⟨h1, h2⟩ := headsC_zero h
  refine ⟨h1, fun i r hr => ?_⟩
  obtain ⟨a, b, _⟩ := faultH_zero (h2 i r hr)
  exact ⟨hword_max a, b⟩
theorem lit_ne {m : ByteArray} {l : List UInt8} (h : ¬ m = ⟨l.toArray⟩) : (m.toList == l) = false := by
  rw [beq_eq_false_iff_ne, ByteArray.toList_eq]
  intro e
  apply h
  rw [← e]
theorem anyV_nil {vs : List ByteArray} (h : vs = []) : anyV vs = false := by subst h; rfl
theorem anyV_some {vs : List ByteArray} (h : vs ≠ []) : anyV vs = true := by simpa [anyV] using h
/-- A request, boxed. -/
def rqV (m h p : ByteArray) (a : Option Addr) (n cap : Nat) : Value := .agg #[.string m, .string h, .string p, .slice a n cap]
theorem reqJoin {l : List Hdr} (h : headsC l = 0) : (valsOf hostN l ≠ [] → joinC l ⟨#[72, 111, 115, 116]⟩ = 0) ∧ (valsOf hostN l = [] → joinC l ⟨#[72, 111, 115, 116]⟩ = 4) := by
  have e0 : askC l hostT = 0 := askC_word h hostT_word
  refine ⟨fun hv => ?_, fun hv => ?_⟩
  · exact (join_some e0 (by rw [hostT_low]; exact hv)).1
  · exact (join_none e0 (by rw [hostT_low]; exact hv)).1
set_option maxHeartbeats 4000000 in
theorem specReq_get (w : World) (h p : ByteArray) (a : Option Addr) (cap : Nat) (l : List Hdr) (hl : l.length ≤ 1048576) (hi : HdsIn w a l) :
    Calls Tryz.prog 56 #[.agg #[.string ⟨#[71, 69, 84]⟩, .string h, .string p, .slice a l.length cap]] w fun e w' => e = .returned (.int .i64 (reqC ⟨#[71, 69, 84]⟩ h p l)) ∧ Below w.heap.size w w' := by
  have HM : methS ⟨#[71, 69, 84]⟩ = true := by decide +kernel
  have CH := fun W => l5Host_any h W
  have CP := fun W => l5Path_any p W
  have bW : Below w.heap.size w (w.alloc (.cells #[.string ⟨#[71, 69, 84]⟩, .string h, .string p, .slice a l.length cap] 35)) := (Below.refl _ _).alloc (Nat.le_refl _) _
  cases ch : hostS h
  · have HE : Hid (reqC ⟨#[71, 69, 84]⟩ h p l = 5) := reqC_bad (by simp [lineS, ch])
    simp only [ch] at CH
    have HB : Hid (Below w.heap.size w (w.alloc (.cells #[.string ⟨#[71, 69, 84]⟩, .string h, .string p, .slice a l.length cap] 35))) := bW
    clear bW HM hi ch CP
    go_enter Tryz.func56, Tryz.ntmps56
    go_wp2_with (go_at_call 118; refine (CH _).mono ?_; rintro e w' ⟨rfl, rfl⟩)
    go_ret
    exact ⟨ret_int HE.out.symm, HB.out⟩
  simp only [ch] at CH
  cases cp : pathS p
  · have HE : Hid (reqC ⟨#[71, 69, 84]⟩ h p l = 5) := reqC_bad (by simp [lineS, cp])
    simp only [cp] at CP
    have HB : Hid (Below w.heap.size w (w.alloc (.cells #[.string ⟨#[71, 69, 84]⟩, .string h, .string p, .slice a l.length cap] 35))) := bW
    clear bW HM hi ch cp
    go_enter Tryz.func56, Tryz.ntmps56
    go_wp2_with (first | (go_at_call 118; refine (CH _).mono ?_; rintro e w' ⟨rfl, rfl⟩) | (go_at_call 119; refine (CP _).mono ?_; rintro e w' ⟨rfl, rfl⟩))
    go_ret
    exact ⟨ret_int HE.out.symm, HB.out⟩
  simp only [cp] at CP
  have hls : lineS ⟨#[71, 69, 84]⟩ h p = true := by simp [lineS, HM, ch, cp]
  have HR : Hid (reqC ⟨#[71, 69, 84]⟩ h p l = restC l) := reqC_ok hls
  obtain ⟨W, hW⟩ : ∃ W, W = w.alloc (.cells #[.string ⟨#[71, 69, 84]⟩, .string h, .string p, .slice a l.length cap] 35) := ⟨_, rfl⟩
  have HW : Hid (W = w.alloc (.cells #[.string ⟨#[71, 69, 84]⟩, .string h, .string p, .slice a l.length cap] 35)) := hW
  have hc3 : W.cell? ⟨w.heap.size, 3, none⟩ = some (.slice a l.length cap) := by rw [hW, World.cell?_alloc_mark]; rfl
  rw [← hW] at bW
  have hlt : w.heap.size < W.heap.size := by rw [hW]; simp
  have CF := specHFault_any W a cap l hl (hi.keep bW)
  have HI : Hid (HdsIn w a l) := hi
  have HB : Hid (Below w.heap.size w W) := bW
  clear hi bW hW ch cp hls HM
  go_enter Tryz.func56, Tryz.ntmps56
  go_wp2_with (first | (go_at_call 118; refine (CH _).mono ?_; rintro e w' ⟨rfl, rfl⟩) | (go_at_call 119; refine (CP _).mono ?_; rintro e w' ⟨rfl, rfl⟩))
  rw [← HW.out]
  refine CF.mono ?_
  rintro e w1 ⟨rfl, hb1⟩
  clear CF CH CP HW
  have hc3' : w1.cell? ⟨w.heap.size, 3, none⟩ = some (.slice a l.length cap) := by rw [hb1.cell (p := ⟨w.heap.size, 3, none⟩) hlt]; exact hc3
  have HB1 : Hid (Below w.heap.size w w1) := HB.out.trans (hb1.mono HB.out.size)
  have hlt1 : w.heap.size < w1.heap.size := Nat.lt_of_lt_of_le hlt hb1.size
  clear hb1 hc3 hlt HB
  by_cases c0 : headsC l = 0
  · obtain ⟨s1, s2⟩ := heads_sizes c0
    have CJ := l4Join_any w1 a cap l hostN s1 s2 (by decide) (HI.out.keep HB1.out)
    rw [hostN_low] at CJ
    have HJ : Hid (Calls Tryz.prog 120 #[.slice a l.length cap, .string ⟨#[104, 111, 115, 116]⟩] w1 fun e w' => e = .returned (.tuple #[.string ⟨(hjoinL (valsOf hostN l)).toArray⟩, .bool (anyV (valsOf hostN l))]) ∧ Below w1.heap.size w1 w') := CJ
    have HE1 : Hid (valsOf hostN l ≠ [] → restC l = 6) := fun hv => restC_host c0 hv
    have HE2 : Hid (valsOf hostN l = [] → 20 ≤ l.length → restC l = 2) := fun hv hn => restC_many c0 hv hn
    have HE3 : Hid (valsOf hostN l = [] → ¬ 20 ≤ l.length → restC l = 0) := fun hv hn => restC_ok c0 hv hn
    rw [c0]
    clear c0 s2 CJ HI
    generalize (⟨(hjoinL (valsOf hostN l)).toArray⟩ : ByteArray) = t at *
    go_wp2_with fail
    refine HJ.out.mono ?_
    rintro e w2 ⟨rfl, hb2⟩
    have hc4 : w2.cell? ⟨w.heap.size, 3, none⟩ = some (.slice a l.length cap) := by rw [hb2.cell (p := ⟨w.heap.size, 3, none⟩) hlt1]; exact hc3'
    have HB2 : Hid (Below w.heap.size w w2) := HB1.out.trans (hb2.mono HB1.out.size)
    clear hb2 HJ hc3' hlt1
    by_cases cv : valsOf hostN l = []
    · rw [anyV_nil cv]
      by_cases cn : 20 ≤ l.length
      · have HE : Hid (reqC ⟨#[71, 69, 84]⟩ h p l = 2) := by show _ = _; rw [HR.out]; exact HE2.out cv cn
        have cn' : (20 : Int) ≤ l.length := by omega
        clear HE1 HE2 HE3 HR cv cn
        generalize l.length = n at *
        go_wp2_with fail
        go_ret
        exact ⟨ret_int HE.out.symm, HB2.out⟩
      · have HE : Hid (reqC ⟨#[71, 69, 84]⟩ h p l = 0) := by show _ = _; rw [HR.out]; exact HE3.out cv cn
        have cn' : ¬ (20 : Int) ≤ l.length := by omega
        clear HE1 HE2 HE3 HR cv cn
        generalize l.length = n at *
        go_wp2_with fail
        go_ret
        exact ⟨ret_int HE.out.symm, HB2.out⟩
    · rw [anyV_some cv]
      have HE : Hid (reqC ⟨#[71, 69, 84]⟩ h p l = 6) := by show _ = _; rw [HR.out]; exact HE1.out cv
      clear HE1 HE2 HE3 HR cv
      go_wp2_with fail
      go_ret
      exact ⟨ret_int HE.out.symm, HB2.out⟩
  · have HE : Hid (reqC ⟨#[71, 69, 84]⟩ h p l = headsC l) := by show _ = _; rw [HR.out]; exact restC_heads c0
    clear HR HI
    generalize headsC l = c at *
    go_wp2_with fail
    go_ret
    exact ⟨ret_int HE.out.symm, HB1.out⟩
set_option maxHeartbeats 4000000 in
theorem specReq_head (w : World) (h p : ByteArray) (a : Option Addr) (cap : Nat) (l : List Hdr) (hl : l.length ≤ 1048576) (hi : HdsIn w a l) :
    Calls Tryz.prog 56 #[.agg #[.string ⟨#[72, 69, 65, 68]⟩, .string h, .string p, .slice a l.length cap]] w fun e w' => e = .returned (.int .i64 (reqC ⟨#[72, 69, 65, 68]⟩ h p l)) ∧ Below w.heap.size w w' := by
  have HM : methS ⟨#[72, 69, 65, 68]⟩ = true := by decide +kernel
  have CH := fun W => l5Host_any h W
  have CP := fun W => l5Path_any p W
  have bW : Below w.heap.size w (w.alloc (.cells #[.string ⟨#[72, 69, 65, 68]⟩, .string h, .string p, .slice a l.length cap] 35)) := (Below.refl _ _).alloc (Nat.le_refl _) _
  cases ch : hostS h
  · have HE : Hid (reqC ⟨#[72, 69, 65, 68]⟩ h p l = 5) := reqC_bad (by simp [lineS, ch])
    simp only [ch] at CH
    have HB : Hid (Below w.heap.size w (w.alloc (.cells #[.string ⟨#[72, 69, 65, 68]⟩, .string h, .string p, .slice a l.length cap] 35))) := bW
    clear bW HM hi ch CP
    go_enter Tryz.func56, Tryz.ntmps56
    go_wp2_with (go_at_call 118; refine (CH _).mono ?_; rintro e w' ⟨rfl, rfl⟩)
    go_ret
    exact ⟨ret_int HE.out.symm, HB.out⟩
  simp only [ch] at CH
  cases cp : pathS p
  · have HE : Hid (reqC ⟨#[72, 69, 65, 68]⟩ h p l = 5) := reqC_bad (by simp [lineS, cp])
    simp only [cp] at CP
    have HB : Hid (Below w.heap.size w (w.alloc (.cells #[.string ⟨#[72, 69, 65, 68]⟩, .string h, .string p, .slice a l.length cap] 35))) := bW
    clear bW HM hi ch cp
    go_enter Tryz.func56, Tryz.ntmps56
    go_wp2_with (first | (go_at_call 118; refine (CH _).mono ?_; rintro e w' ⟨rfl, rfl⟩) | (go_at_call 119; refine (CP _).mono ?_; rintro e w' ⟨rfl, rfl⟩))
    go_ret
    exact ⟨ret_int HE.out.symm, HB.out⟩
  simp only [cp] at CP
  have hls : lineS ⟨#[72, 69, 65, 68]⟩ h p = true := by simp [lineS, HM, ch, cp]
  have HR : Hid (reqC ⟨#[72, 69, 65, 68]⟩ h p l = restC l) := reqC_ok hls
  obtain ⟨W, hW⟩ : ∃ W, W = w.alloc (.cells #[.string ⟨#[72, 69, 65, 68]⟩, .string h, .string p, .slice a l.length cap] 35) := ⟨_, rfl⟩
  have HW : Hid (W = w.alloc (.cells #[.string ⟨#[72, 69, 65, 68]⟩, .string h, .string p, .slice a l.length cap] 35)) := hW
  have hc3 : W.cell? ⟨w.heap.size, 3, none⟩ = some (.slice a l.length cap) := by rw [hW, World.cell?_alloc_mark]; rfl
  rw [← hW] at bW
  have hlt : w.heap.size < W.heap.size := by rw [hW]; simp
  have CF := specHFault_any W a cap l hl (hi.keep bW)
  have HI : Hid (HdsIn w a l) := hi
  have HB : Hid (Below w.heap.size w W) := bW
  clear hi bW hW ch cp hls HM
  go_enter Tryz.func56, Tryz.ntmps56
  go_wp2_with (first | (go_at_call 118; refine (CH _).mono ?_; rintro e w' ⟨rfl, rfl⟩) | (go_at_call 119; refine (CP _).mono ?_; rintro e w' ⟨rfl, rfl⟩))
  rw [← HW.out]
  refine CF.mono ?_
  rintro e w1 ⟨rfl, hb1⟩
  clear CF CH CP HW
  have hc3' : w1.cell? ⟨w.heap.size, 3, none⟩ = some (.slice a l.length cap) := by rw [hb1.cell (p := ⟨w.heap.size, 3, none⟩) hlt]; exact hc3
  have HB1 : Hid (Below w.heap.size w w1) := HB.out.trans (hb1.mono HB.out.size)
  have hlt1 : w.heap.size < w1.heap.size := Nat.lt_of_lt_of_le hlt hb1.size
  clear hb1 hc3 hlt HB
  by_cases c0 : headsC l = 0
  · obtain ⟨s1, s2⟩ := heads_sizes c0
    have CJ := l4Join_any w1 a cap l hostN s1 s2 (by decide) (HI.out.keep HB1.out)
    rw [hostN_low] at CJ
    have HJ : Hid (Calls Tryz.prog 120 #[.slice a l.length cap, .string ⟨#[104, 111, 115, 116]⟩] w1 fun e w' => e = .returned (.tuple #[.string ⟨(hjoinL (valsOf hostN l)).toArray⟩, .bool (anyV (valsOf hostN l))]) ∧ Below w1.heap.size w1 w') := CJ
    have HE1 : Hid (valsOf hostN l ≠ [] → restC l = 6) := fun hv => restC_host c0 hv
    have HE2 : Hid (valsOf hostN l = [] → 20 ≤ l.length → restC l = 2) := fun hv hn => restC_many c0 hv hn
    have HE3 : Hid (valsOf hostN l = [] → ¬ 20 ≤ l.length → restC l = 0) := fun hv hn => restC_ok c0 hv hn
    rw [c0]
    clear c0 s2 CJ HI
    generalize (⟨(hjoinL (valsOf hostN l)).toArray⟩ : ByteArray) = t at *
    go_wp2_with fail
    refine HJ.out.mono ?_
    rintro e w2 ⟨rfl, hb2⟩
    have hc4 : w2.cell? ⟨w.heap.size, 3, none⟩ = some (.slice a l.length cap) := by rw [hb2.cell (p := ⟨w.heap.size, 3, none⟩) hlt1]; exact hc3'
    have HB2 : Hid (Below w.heap.size w w2) := HB1.out.trans (hb2.mono HB1.out.size)
    clear hb2 HJ hc3' hlt1
    by_cases cv : valsOf hostN l = []
    · rw [anyV_nil cv]
      by_cases cn : 20 ≤ l.length
      · have HE : Hid (reqC ⟨#[72, 69, 65, 68]⟩ h p l = 2) := by show _ = _; rw [HR.out]; exact HE2.out cv cn
        have cn' : (20 : Int) ≤ l.length := by omega
        clear HE1 HE2 HE3 HR cv cn
        generalize l.length = n at *
        go_wp2_with fail
        go_ret
        exact ⟨ret_int HE.out.symm, HB2.out⟩
      · have HE : Hid (reqC ⟨#[72, 69, 65, 68]⟩ h p l = 0) := by show _ = _; rw [HR.out]; exact HE3.out cv cn
        have cn' : ¬ (20 : Int) ≤ l.length := by omega
        clear HE1 HE2 HE3 HR cv cn
        generalize l.length = n at *
        go_wp2_with fail
        go_ret
        exact ⟨ret_int HE.out.symm, HB2.out⟩
    · rw [anyV_some cv]
      have HE : Hid (reqC ⟨#[72, 69, 65, 68]⟩ h p l = 6) := by show _ = _; rw [HR.out]; exact HE1.out cv
      clear HE1 HE2 HE3 HR cv
      go_wp2_with fail
      go_ret
      exact ⟨ret_int HE.out.symm, HB2.out⟩
  · have HE : Hid (reqC ⟨#[72, 69, 65, 68]⟩ h p l = headsC l) := by show _ = _; rw [HR.out]; exact restC_heads c0
    clear HR HI
    generalize headsC l = c at *
    go_wp2_with fail
    go_ret
    exact ⟨ret_int HE.out.symm, HB1.out⟩
set_option maxHeartbeats 1000000 in
theorem specReq_any (w : World) (m h p : ByteArray) (a : Option Addr) (cap : Nat) (l : List Hdr) (hl : l.length ≤ 1048576) (hi : HdsIn w a l) :
    Calls Tryz.prog 56 #[.agg #[.string m, .string h, .string p, .slice a l.length cap]] w fun e w' => e = .returned (.int .i64 (reqC m h p l)) ∧ Below w.heap.size w w' := by
  by_cases c1 : m = ⟨#[71, 69, 84]⟩
  · subst c1; exact specReq_get w h p a cap l hl hi
  by_cases c2 : m = ⟨#[72, 69, 65, 68]⟩
  · subst c2; exact specReq_head w h p a cap l hl hi
  have HE : Hid (reqC m h p l = 5) := reqC_bad (by
    have : methS m = false := by simp only [methS, getT, headT, c1, c2, decide_false]; rfl
    simp [lineS, this])
  have d1 : (m.toList == [71, 69, 84]) = false := lit_ne c1
  have d2 : (m.toList == [72, 69, 65, 68]) = false := lit_ne c2
  clear c1 c2
  clear hi
  go_enter Tryz.func56, Tryz.ntmps56
  go_wp2_with fail
  go_ret
  exact ⟨ret_int HE.out.symm, (Below.refl _ _).alloc (Nat.le_refl _) _⟩
set_option maxHeartbeats 8000000 in
theorem implReq_get (E : Errs) (w : World) (h p : ByteArray) (a : Option Addr) (cap : Nat) (l : List Hdr) (hl : l.length ≤ 1048576) (hcap : l.length ≤ cap) (hps : p.size ≤ 1048576) (hset : SetIs w) (hE : ErrsIs w E) (hi : HdsIn w a l) :
    Calls Tryz.prog 116 #[.agg #[.string ⟨#[71, 69, 84]⟩, .string h, .string p, .slice a l.length cap]] w fun e w' => e = .returned (errV E (reqC ⟨#[71, 69, 84]⟩ h p l)) ∧ Below w.heap.size w w' := by
  have HM : methS ⟨#[71, 69, 84]⟩ = true := by decide +kernel
  obtain ⟨W, hW⟩ : ∃ W, W = w.alloc (.cells #[.string ⟨#[71, 69, 84]⟩, .string h, .string p, .slice a l.length cap] 35) := ⟨_, rfl⟩
  have bW : Below w.heap.size w W := by rw [hW]; exact (Below.refl _ _).alloc (Nat.le_refl _) _
  have HW : Hid (W = w.alloc (.cells #[.string ⟨#[71, 69, 84]⟩, .string h, .string p, .slice a l.length cap] 35)) := hW
  have hlt : w.heap.size < W.heap.size := by rw [hW]; simp
  have hc2 : W.cell? ⟨w.heap.size, 2, none⟩ = some (.string p) := by rw [hW, World.cell?_alloc_mark]; rfl
  have hc3 : W.cell? ⟨w.heap.size, 3, none⟩ = some (.slice a l.length cap) := by rw [hW, World.cell?_alloc_mark]; rfl
  clear hW
  have CH := isHost_any h W
  have HI : Hid (∀ X, Below w.heap.size w X → HdsIn X a l) := fun X hb => hi.keep hb
  have HS : Hid (∀ X, Below w.heap.size w X → SetIs X) := fun X hb => hset.below hb
  have HE0 : Hid (∀ X, Below w.heap.size w X → ErrsIs X E) := fun X hb => hE.below hb
  have HB : Hid (Below w.heap.size w W) := bW
  clear hi hset hE bW
  cases ch : hostS h
  · have HE : Hid (errV E (reqC ⟨#[71, 69, 84]⟩ h p l) = .iface 369 (.pointer (some E.u))) := by show _ = _; rw [reqC_bad (by simp [lineS, ch])]; rfl
    simp only [ch] at CH
    clear HM ch hc2 hc3 hlt
    go_enter Tryz.func116, Tryz.ntmps116
    go_wp2_with fail
    rw [← HW.out]
    refine CH.mono ?_
    rintro e w1 ⟨rfl, hb1⟩
    have HB1 : Hid (Below w.heap.size w w1) := HB.out.trans (hb1.mono HB.out.size)
    have gU := (HE0.out _ HB1.out).gU
    clear CH HW hb1 HB HE0
    go_wp2_with fail
    go_ret
    exact ⟨congrArg Ending.returned HE.out.symm, HB1.out⟩
  simp only [ch] at CH
  have CP : Hid (∀ X, Below w.heap.size w X → Calls Tryz.prog 170 #[.string p] X fun e w' => e = .returned (.bool (pathS p)) ∧ Below X.heap.size X w') := fun X hb => isPath_any p X (HS.out X hb) hps
  cases cp : pathS p
  · have HE : Hid (errV E (reqC ⟨#[71, 69, 84]⟩ h p l) = .iface 369 (.pointer (some E.u))) := by show _ = _; rw [reqC_bad (by simp [lineS, cp])]; rfl
    rw [cp] at CP
    clear HM ch cp hc3 hps
    go_enter Tryz.func116, Tryz.ntmps116
    go_wp2_with fail
    rw [← HW.out]
    refine CH.mono ?_
    rintro e w1 ⟨rfl, hb1⟩
    have HB1 : Hid (Below w.heap.size w w1) := HB.out.trans (hb1.mono HB.out.size)
    have hc2' : w1.cell? ⟨w.heap.size, 2, none⟩ = some (.string p) := by rw [hb1.cell (p := ⟨w.heap.size, 2, none⟩) hlt]; exact hc2
    clear CH HW hb1 HB hc2 hlt
    have C2 := CP.out w1 HB1.out
    go_wp2_with fail
    refine C2.mono ?_
    rintro e w2 ⟨rfl, hb2⟩
    have HB2 : Hid (Below w.heap.size w w2) := HB1.out.trans (hb2.mono HB1.out.size)
    have gU := (HE0.out _ HB2.out).gU
    clear C2 CP hb2 HB1 HE0 hc2'
    go_wp2_with fail
    go_ret
    exact ⟨congrArg Ending.returned HE.out.symm, HB2.out⟩
  rw [cp] at CP
  have hls : lineS ⟨#[71, 69, 84]⟩ h p = true := by simp [lineS, HM, ch, cp]
  have HR : Hid (reqC ⟨#[71, 69, 84]⟩ h p l = restC l) := reqC_ok hls
  have HK := headsC_codes l
  have CF : Hid (∀ X, Below w.heap.size w X → Calls Tryz.prog 95 #[.slice a l.length cap] X fun e w' => e = .returned (.int .i64 (headsC l)) ∧ Below X.heap.size X w') := fun X hb => implHFault_any X a cap l hl (HS.out X hb) (HI.out X hb)
  clear hls HM ch cp hps
  go_enter Tryz.func116, Tryz.ntmps116
  go_wp2_with fail
  rw [← HW.out]
  refine CH.mono ?_
  rintro e w1 ⟨rfl, hb1⟩
  have HB1 : Hid (Below w.heap.size w w1) := HB.out.trans (hb1.mono HB.out.size)
  have hc2' : w1.cell? ⟨w.heap.size, 2, none⟩ = some (.string p) := by rw [hb1.cell (p := ⟨w.heap.size, 2, none⟩) hlt]; exact hc2
  have hc3' : w1.cell? ⟨w.heap.size, 3, none⟩ = some (.slice a l.length cap) := by rw [hb1.cell (p := ⟨w.heap.size, 3, none⟩) hlt]; exact hc3
  have hlt1 : w.heap.size < w1.heap.size := Nat.lt_of_lt_of_le hlt hb1.size
  clear CH HW hb1 HB hc2 hc3 hlt
  have C2 := CP.out w1 HB1.out
  go_wp2_with fail
  refine C2.mono ?_
  rintro e w2 ⟨rfl, hb2⟩
  have HB2 : Hid (Below w.heap.size w w2) := HB1.out.trans (hb2.mono HB1.out.size)
  have hc3 : w2.cell? ⟨w.heap.size, 3, none⟩ = some (.slice a l.length cap) := by rw [hb2.cell (p := ⟨w.heap.size, 3, none⟩) hlt1]; exact hc3'
  have hlt2 : w.heap.size < w2.heap.size := Nat.lt_of_lt_of_le hlt1 hb2.size
  clear C2 CP hb2 HB1 hc2' hc3' hlt1
  have C3 := CF.out w2 HB2.out
  go_wp2_with fail
  refine C3.mono ?_
  rintro e w3 ⟨rfl, hb3⟩
  have HB3 : Hid (Below w.heap.size w w3) := HB2.out.trans (hb3.mono HB2.out.size)
  have hc3' : w3.cell? ⟨w.heap.size, 3, none⟩ = some (.slice a l.length cap) := by rw [hb3.cell (p := ⟨w.heap.size, 3, none⟩) hlt2]; exact hc3
  have hlt3 : w.heap.size < w3.heap.size := Nat.lt_of_lt_of_le hlt2 hb3.size
  clear C3 CF hb3 HB2 hc3 hlt2
  have C4 := headError_any E (headsC l) w3 (HE0.out _ HB3.out) HK
  by_cases c0 : headsC l = 0
  · rw [c0] at C4
    rw [errV0] at C4
    rw [c0]
    have CJ : Calls Tryz.prog 42 #[.slice a l.length cap, .string ⟨#[72, 111, 115, 116]⟩] w3 fun e w' => e = .returned (.agg #[.int .i64 (joinC l ⟨#[72, 111, 115, 116]⟩), .string (joinT l ⟨#[72, 111, 115, 116]⟩)]) ∧ Below w3.heap.size w3 w' := implJoin_any w3 a cap l ⟨#[72, 111, 115, 116]⟩ hl hcap (HS.out _ HB3.out) (HI.out _ HB3.out)
    obtain ⟨hj1, hj2⟩ := reqJoin c0
    have HJ : Hid (Calls Tryz.prog 42 #[.slice a l.length cap, .string ⟨#[72, 111, 115, 116]⟩] w3 fun e w' => e = .returned (.agg #[.int .i64 (joinC l ⟨#[72, 111, 115, 116]⟩), .string (joinT l ⟨#[72, 111, 115, 116]⟩)]) ∧ Below w3.heap.size w3 w') := CJ
    clear CJ
    generalize joinT l ⟨#[72, 111, 115, 116]⟩ = jt at *
    by_cases cv : valsOf hostN l = []
    · rw [hj2 cv] at HJ
      have HN := (headsC_zero c0).1
      clear hj1 hj2 HI HS HK
      by_cases cn : 20 ≤ l.length
      · have HE : Hid (errV E (reqC ⟨#[71, 69, 84]⟩ h p l) = .iface 369 (.pointer (some E.m))) := by show _ = _; rw [HR.out, restC_many c0 cv cn]; rfl
        have cn' : (l.length : Int) = 20 := by omega
        have cb : ((l.length : Int) == 20) = true := by rw [cn']; rfl
        clear HR cv cn cn' c0
        generalize l.length = n at *
        go_wp2_with fail
        refine C4.mono ?_
        rintro e w4 ⟨rfl, hw⟩
        obtain rfl := hw.symm
        clear C4 hw
        go_wp2_with fail
        refine HJ.out.mono ?_
        rintro e w5 ⟨rfl, hb5⟩
        have hc5 : w5.cell? ⟨w.heap.size, 3, none⟩ = some (.slice a n cap) := by rw [hb5.cell (p := ⟨w.heap.size, 3, none⟩) hlt3]; exact hc3'
        have HB5 : Hid (Below w.heap.size w w5) := HB3.out.trans (hb5.mono HB3.out.size)
        have gM := (HE0.out _ HB5.out).gM
        clear hb5 HJ hc3' hlt3 HB3 HE0
        have hfc := f_field_code
        go_wp2_with fail
        go_ret
        exact ⟨congrArg Ending.returned HE.out.symm, HB5.out⟩
      · have HE : Hid (errV E (reqC ⟨#[71, 69, 84]⟩ h p l) = .nilIface) := by show _ = _; rw [HR.out, restC_ok c0 cv cn]; rfl
        have cb : ((l.length : Int) == 20) = false := by rw [beq_eq_false_iff_ne]; omega
        clear HR cv cn c0 HE0
        generalize l.length = n at *
        go_wp2_with fail
        refine C4.mono ?_
        rintro e w4 ⟨rfl, hw⟩
        obtain rfl := hw.symm
        clear C4 hw
        go_wp2_with fail
        refine HJ.out.mono ?_
        rintro e w5 ⟨rfl, hb5⟩
        have hc5 : w5.cell? ⟨w.heap.size, 3, none⟩ = some (.slice a n cap) := by rw [hb5.cell (p := ⟨w.heap.size, 3, none⟩) hlt3]; exact hc3'
        have HB5 : Hid (Below w.heap.size w w5) := HB3.out.trans (hb5.mono HB3.out.size)
        clear hb5 HJ hc3' hlt3 HB3
        have hfc := f_field_code
        go_wp2_with fail
        go_ret
        exact ⟨congrArg Ending.returned HE.out.symm, HB5.out⟩
    · rw [hj1 cv] at HJ
      have HE : Hid (errV E (reqC ⟨#[71, 69, 84]⟩ h p l) = .iface 369 (.pointer (some E.d))) := by show _ = _; rw [HR.out, restC_host c0 cv]; rfl
      clear hj1 hj2 HI HS HK HR cv c0
      generalize l.length = n at *
      go_wp2_with fail
      refine C4.mono ?_
      rintro e w4 ⟨rfl, hw⟩
      obtain rfl := hw.symm
      clear C4 hw
      go_wp2_with fail
      refine HJ.out.mono ?_
      rintro e w5 ⟨rfl, hb5⟩
      have HB5 : Hid (Below w.heap.size w w5) := HB3.out.trans (hb5.mono HB3.out.size)
      have gD := (HE0.out _ HB5.out).gD
      clear hb5 HJ hc3' hlt3 HB3 HE0
      have hfc := f_field_code
      go_wp2_with fail
      go_ret
      exact ⟨congrArg Ending.returned HE.out.symm, HB5.out⟩
  · have HE : Hid (errV E (reqC ⟨#[71, 69, 84]⟩ h p l) = errV E (headsC l)) := by show _ = _; rw [HR.out, restC_heads c0]
    have hv : ∃ x, errV E (headsC l) = .iface 369 (.pointer (some x)) := by
      rcases HK with e | e | e
      · exact absurd e c0
      · rw [e]; exact ⟨_, rfl⟩
      · rw [e]; exact ⟨_, rfl⟩
    obtain ⟨x, hx⟩ := hv
    rw [hx] at C4 HE
    clear HR HI HS HK HE0 c0 hx
    generalize headsC l = c at *
    generalize l.length = n at *
    go_wp2_with fail
    refine C4.mono ?_
    rintro e w4 ⟨rfl, hw⟩
    obtain rfl := hw.symm
    clear C4 hw
    go_wp2_with fail
    go_ret
    exact ⟨congrArg Ending.returned HE.out.symm, HB3.out⟩
set_option maxHeartbeats 8000000 in
theorem implReq_head (E : Errs) (w : World) (h p : ByteArray) (a : Option Addr) (cap : Nat) (l : List Hdr) (hl : l.length ≤ 1048576) (hcap : l.length ≤ cap) (hps : p.size ≤ 1048576) (hset : SetIs w) (hE : ErrsIs w E) (hi : HdsIn w a l) :
    Calls Tryz.prog 116 #[.agg #[.string ⟨#[72, 69, 65, 68]⟩, .string h, .string p, .slice a l.length cap]] w fun e w' => e = .returned (errV E (reqC ⟨#[72, 69, 65, 68]⟩ h p l)) ∧ Below w.heap.size w w' := by
  have HM : methS ⟨#[72, 69, 65, 68]⟩ = true := by decide +kernel
  obtain ⟨W, hW⟩ : ∃ W, W = w.alloc (.cells #[.string ⟨#[72, 69, 65, 68]⟩, .string h, .string p, .slice a l.length cap] 35) := ⟨_, rfl⟩
  have bW : Below w.heap.size w W := by rw [hW]; exact (Below.refl _ _).alloc (Nat.le_refl _) _
  have HW : Hid (W = w.alloc (.cells #[.string ⟨#[72, 69, 65, 68]⟩, .string h, .string p, .slice a l.length cap] 35)) := hW
  have hlt : w.heap.size < W.heap.size := by rw [hW]; simp
  have hc2 : W.cell? ⟨w.heap.size, 2, none⟩ = some (.string p) := by rw [hW, World.cell?_alloc_mark]; rfl
  have hc3 : W.cell? ⟨w.heap.size, 3, none⟩ = some (.slice a l.length cap) := by rw [hW, World.cell?_alloc_mark]; rfl
  clear hW
  have CH := isHost_any h W
  have HI : Hid (∀ X, Below w.heap.size w X → HdsIn X a l) := fun X hb => hi.keep hb
  have HS : Hid (∀ X, Below w.heap.size w X → SetIs X) := fun X hb => hset.below hb
  have HE0 : Hid (∀ X, Below w.heap.size w X → ErrsIs X E) := fun X hb => hE.below hb
  have HB : Hid (Below w.heap.size w W) := bW
  clear hi hset hE bW
  cases ch : hostS h
  · have HE : Hid (errV E (reqC ⟨#[72, 69, 65, 68]⟩ h p l) = .iface 369 (.pointer (some E.u))) := by show _ = _; rw [reqC_bad (by simp [lineS, ch])]; rfl
    simp only [ch] at CH
    clear HM ch hc2 hc3 hlt
    go_enter Tryz.func116, Tryz.ntmps116
    go_wp2_with fail
    rw [← HW.out]
    refine CH.mono ?_
    rintro e w1 ⟨rfl, hb1⟩
    have HB1 : Hid (Below w.heap.size w w1) := HB.out.trans (hb1.mono HB.out.size)
    have gU := (HE0.out _ HB1.out).gU
    clear CH HW hb1 HB HE0
    go_wp2_with fail
    go_ret
    exact ⟨congrArg Ending.returned HE.out.symm, HB1.out⟩
  simp only [ch] at CH
  have CP : Hid (∀ X, Below w.heap.size w X → Calls Tryz.prog 170 #[.string p] X fun e w' => e = .returned (.bool (pathS p)) ∧ Below X.heap.size X w') := fun X hb => isPath_any p X (HS.out X hb) hps
  cases cp : pathS p
  · have HE : Hid (errV E (reqC ⟨#[72, 69, 65, 68]⟩ h p l) = .iface 369 (.pointer (some E.u))) := by show _ = _; rw [reqC_bad (by simp [lineS, cp])]; rfl
    rw [cp] at CP
    clear HM ch cp hc3 hps
    go_enter Tryz.func116, Tryz.ntmps116
    go_wp2_with fail
    rw [← HW.out]
    refine CH.mono ?_
    rintro e w1 ⟨rfl, hb1⟩
    have HB1 : Hid (Below w.heap.size w w1) := HB.out.trans (hb1.mono HB.out.size)
    have hc2' : w1.cell? ⟨w.heap.size, 2, none⟩ = some (.string p) := by rw [hb1.cell (p := ⟨w.heap.size, 2, none⟩) hlt]; exact hc2
    clear CH HW hb1 HB hc2 hlt
    have C2 := CP.out w1 HB1.out
    go_wp2_with fail
    refine C2.mono ?_
    rintro e w2 ⟨rfl, hb2⟩
    have HB2 : Hid (Below w.heap.size w w2) := HB1.out.trans (hb2.mono HB1.out.size)
    have gU := (HE0.out _ HB2.out).gU
    clear C2 CP hb2 HB1 HE0 hc2'
    go_wp2_with fail
    go_ret
    exact ⟨congrArg Ending.returned HE.out.symm, HB2.out⟩
  rw [cp] at CP
  have hls : lineS ⟨#[72, 69, 65, 68]⟩ h p = true := by simp [lineS, HM, ch, cp]
  have HR : Hid (reqC ⟨#[72, 69, 65, 68]⟩ h p l = restC l) := reqC_ok hls
  have HK := headsC_codes l
  have CF : Hid (∀ X, Below w.heap.size w X → Calls Tryz.prog 95 #[.slice a l.length cap] X fun e w' => e = .returned (.int .i64 (headsC l)) ∧ Below X.heap.size X w') := fun X hb => implHFault_any X a cap l hl (HS.out X hb) (HI.out X hb)
  clear hls HM ch cp hps
  go_enter Tryz.func116, Tryz.ntmps116
  go_wp2_with fail
  rw [← HW.out]
  refine CH.mono ?_
  rintro e w1 ⟨rfl, hb1⟩
  have HB1 : Hid (Below w.heap.size w w1) := HB.out.trans (hb1.mono HB.out.size)
  have hc2' : w1.cell? ⟨w.heap.size, 2, none⟩ = some (.string p) := by rw [hb1.cell (p := ⟨w.heap.size, 2, none⟩) hlt]; exact hc2
  have hc3' : w1.cell? ⟨w.heap.size, 3, none⟩ = some (.slice a l.length cap) := by rw [hb1.cell (p := ⟨w.heap.size, 3, none⟩) hlt]; exact hc3
  have hlt1 : w.heap.size < w1.heap.size := Nat.lt_of_lt_of_le hlt hb1.size
  clear CH HW hb1 HB hc2 hc3 hlt
  have C2 := CP.out w1 HB1.out
  go_wp2_with fail
  refine C2.mono ?_
  rintro e w2 ⟨rfl, hb2⟩
  have HB2 : Hid (Below w.heap.size w w2) := HB1.out.trans (hb2.mono HB1.out.size)
  have hc3 : w2.cell? ⟨w.heap.size, 3, none⟩ = some (.slice a l.length cap) := by rw [hb2.cell (p := ⟨w.heap.size, 3, none⟩) hlt1]; exact hc3'
  have hlt2 : w.heap.size < w2.heap.size := Nat.lt_of_lt_of_le hlt1 hb2.size
  clear C2 CP hb2 HB1 hc2' hc3' hlt1
  have C3 := CF.out w2 HB2.out
  go_wp2_with fail
  refine C3.mono ?_
  rintro e w3 ⟨rfl, hb3⟩
  have HB3 : Hid (Below w.heap.size w w3) := HB2.out.trans (hb3.mono HB2.out.size)
  have hc3' : w3.cell? ⟨w.heap.size, 3, none⟩ = some (.slice a l.length cap) := by rw [hb3.cell (p := ⟨w.heap.size, 3, none⟩) hlt2]; exact hc3
  have hlt3 : w.heap.size < w3.heap.size := Nat.lt_of_lt_of_le hlt2 hb3.size
  clear C3 CF hb3 HB2 hc3 hlt2
  have C4 := headError_any E (headsC l) w3 (HE0.out _ HB3.out) HK
  by_cases c0 : headsC l = 0
  · rw [c0] at C4
    rw [errV0] at C4
    rw [c0]
    have CJ : Calls Tryz.prog 42 #[.slice a l.length cap, .string ⟨#[72, 111, 115, 116]⟩] w3 fun e w' => e = .returned (.agg #[.int .i64 (joinC l ⟨#[72, 111, 115, 116]⟩), .string (joinT l ⟨#[72, 111, 115, 116]⟩)]) ∧ Below w3.heap.size w3 w' := implJoin_any w3 a cap l ⟨#[72, 111, 115, 116]⟩ hl hcap (HS.out _ HB3.out) (HI.out _ HB3.out)
    obtain ⟨hj1, hj2⟩ := reqJoin c0
    have HJ : Hid (Calls Tryz.prog 42 #[.slice a l.length cap, .string ⟨#[72, 111, 115, 116]⟩] w3 fun e w' => e = .returned (.agg #[.int .i64 (joinC l ⟨#[72, 111, 115, 116]⟩), .string (joinT l ⟨#[72, 111, 115, 116]⟩)]) ∧ Below w3.heap.size w3 w') := CJ
    clear CJ
    generalize joinT l ⟨#[72, 111, 115, 116]⟩ = jt at *
    by_cases cv : valsOf hostN l = []
    · rw [hj2 cv] at HJ
      have HN := (headsC_zero c0).1
      clear hj1 hj2 HI HS HK
      by_cases cn : 20 ≤ l.length
      · have HE : Hid (errV E (reqC ⟨#[72, 69, 65, 68]⟩ h p l) = .iface 369 (.pointer (some E.m))) := by show _ = _; rw [HR.out, restC_many c0 cv cn]; rfl
        have cn' : (l.length : Int) = 20 := by omega
        have cb : ((l.length : Int) == 20) = true := by rw [cn']; rfl
        clear HR cv cn cn' c0
        generalize l.length = n at *
        go_wp2_with fail
        refine C4.mono ?_
        rintro e w4 ⟨rfl, hw⟩
        obtain rfl := hw.symm
        clear C4 hw
        go_wp2_with fail
        refine HJ.out.mono ?_
        rintro e w5 ⟨rfl, hb5⟩
        have hc5 : w5.cell? ⟨w.heap.size, 3, none⟩ = some (.slice a n cap) := by rw [hb5.cell (p := ⟨w.heap.size, 3, none⟩) hlt3]; exact hc3'
        have HB5 : Hid (Below w.heap.size w w5) := HB3.out.trans (hb5.mono HB3.out.size)
        have gM := (HE0.out _ HB5.out).gM
        clear hb5 HJ hc3' hlt3 HB3 HE0
        have hfc := f_field_code
        go_wp2_with fail
        go_ret
        exact ⟨congrArg Ending.returned HE.out.symm, HB5.out⟩
      · have HE : Hid (errV E (reqC ⟨#[72, 69, 65, 68]⟩ h p l) = .nilIface) := by show _ = _; rw [HR.out, restC_ok c0 cv cn]; rfl
        have cb : ((l.length : Int) == 20) = false := by rw [beq_eq_false_iff_ne]; omega
        clear HR cv cn c0 HE0
        generalize l.length = n at *
        go_wp2_with fail
        refine C4.mono ?_
        rintro e w4 ⟨rfl, hw⟩
        obtain rfl := hw.symm
        clear C4 hw
        go_wp2_with fail
        refine HJ.out.mono ?_
        rintro e w5 ⟨rfl, hb5⟩
        have hc5 : w5.cell? ⟨w.heap.size, 3, none⟩ = some (.slice a n cap) := by rw [hb5.cell (p := ⟨w.heap.size, 3, none⟩) hlt3]; exact hc3'
        have HB5 : Hid (Below w.heap.size w w5) := HB3.out.trans (hb5.mono HB3.out.size)
        clear hb5 HJ hc3' hlt3 HB3
        have hfc := f_field_code
        go_wp2_with fail
        go_ret
        exact ⟨congrArg Ending.returned HE.out.symm, HB5.out⟩
    · rw [hj1 cv] at HJ
      have HE : Hid (errV E (reqC ⟨#[72, 69, 65, 68]⟩ h p l) = .iface 369 (.pointer (some E.d))) := by show _ = _; rw [HR.out, restC_host c0 cv]; rfl
      clear hj1 hj2 HI HS HK HR cv c0
      generalize l.length = n at *
      go_wp2_with fail
      refine C4.mono ?_
      rintro e w4 ⟨rfl, hw⟩
      obtain rfl := hw.symm
      clear C4 hw
      go_wp2_with fail
      refine HJ.out.mono ?_
      rintro e w5 ⟨rfl, hb5⟩
      have HB5 : Hid (Below w.heap.size w w5) := HB3.out.trans (hb5.mono HB3.out.size)
      have gD := (HE0.out _ HB5.out).gD
      clear hb5 HJ hc3' hlt3 HB3 HE0
      have hfc := f_field_code
      go_wp2_with fail
      go_ret
      exact ⟨congrArg Ending.returned HE.out.symm, HB5.out⟩
  · have HE : Hid (errV E (reqC ⟨#[72, 69, 65, 68]⟩ h p l) = errV E (headsC l)) := by show _ = _; rw [HR.out, restC_heads c0]
    have hv : ∃ x, errV E (headsC l) = .iface 369 (.pointer (some x)) := by
      rcases HK with e | e | e
      · exact absurd e c0
      · rw [e]; exact ⟨_, rfl⟩
      · rw [e]; exact ⟨_, rfl⟩
    obtain ⟨x, hx⟩ := hv
    rw [hx] at C4 HE
    clear HR HI HS HK HE0 c0 hx
    generalize headsC l = c at *
    generalize l.length = n at *
    go_wp2_with fail
    refine C4.mono ?_
    rintro e w4 ⟨rfl, hw⟩
    obtain rfl := hw.symm
    clear C4 hw
    go_wp2_with fail
    go_ret
    exact ⟨congrArg Ending.returned HE.out.symm, HB3.out⟩
set_option maxHeartbeats 1000000 in
theorem implReqE_any (E : Errs) (w : World) (m h p : ByteArray) (a : Option Addr) (cap : Nat) (l : List Hdr) (hl : l.length ≤ 1048576) (hcap : l.length ≤ cap) (hps : p.size ≤ 1048576) (hset : SetIs w) (hE : ErrsIs w E) (hi : HdsIn w a l) :
    Calls Tryz.prog 116 #[.agg #[.string m, .string h, .string p, .slice a l.length cap]] w fun e w' => e = .returned (errV E (reqC m h p l)) ∧ Below w.heap.size w w' := by
  by_cases c1 : m = ⟨#[71, 69, 84]⟩
  · subst c1; exact implReq_get E w h p a cap l hl hcap hps hset hE hi
  by_cases c2 : m = ⟨#[72, 69, 65, 68]⟩
  · subst c2; exact implReq_head E w h p a cap l hl hcap hps hset hE hi
  have HE : Hid (errV E (reqC m h p l) = .iface 369 (.pointer (some E.u))) := by
    show _ = _
    rw [reqC_bad (by
      have : methS m = false := by simp only [methS, getT, headT, c1, c2, decide_false]; rfl
      simp [lineS, this])]
    rfl
  have d1 : (m.toList == [71, 69, 84]) = false := lit_ne c1
  have d2 : (m.toList == [72, 69, 65, 68]) = false := lit_ne c2
  clear c1 c2
  have HB : Hid (Below w.heap.size w (w.alloc (.cells #[.string m, .string h, .string p, .slice a l.length cap] 35))) := (Below.refl _ _).alloc (Nat.le_refl _) _
  have gU := (hE.below HB.out).gU
  clear hi hset hE
  generalize l.length = n at *
  go_enter Tryz.func116, Tryz.ntmps116
  go_wp2_with fail
  go_ret
  exact ⟨congrArg Ending.returned HE.out.symm, HB.out⟩
set_option maxHeartbeats 1000000 in
theorem implReq_any (E : Errs) (w : World) (m h p : ByteArray) (a : Option Addr) (cap : Nat) (l : List Hdr) (hl : l.length ≤ 1048576) (hcap : l.length ≤ cap) (hps : p.size ≤ 1048576) (hset : SetIs w) (hE : ErrsIs w E) (hi : HdsIn w a l) :
    Calls Tryz.prog 52 #[.agg #[.string m, .string h, .string p, .slice a l.length cap]] w fun e w' => e = .returned (.int .i64 (reqC m h p l)) ∧ Below w.heap.size w w' := by
  have bW : Below w.heap.size w (w.alloc (.cells #[.string m, .string h, .string p, .slice a l.length cap] 35)) := (Below.refl _ _).alloc (Nat.le_refl _) _
  have C1 := implReqE_any E _ m h p a cap l hl hcap hps (hset.below bW) (hE.below bW) (hi.keep bW)
  have HK := reqC_codes m h p l
  have C2 : Hid (∀ X, ErrsIs X E → Calls Tryz.prog 113 #[errV E (reqC m h p l)] X fun e w' => e = .returned (.int .i64 (reqC m h p l)) ∧ w' = X) := fun X hX => codeOf_any E _ X hX (by omega)
  have HE0 : Hid (∀ X, Below w.heap.size w X → ErrsIs X E) := fun X hb => hE.below hb
  have HB : Hid (Below w.heap.size w (w.alloc (.cells #[.string m, .string h, .string p, .slice a l.length cap] 35))) := bW
  clear hi hset hE HK bW
  generalize reqC m h p l = c at *
  generalize l.length = n at *
  generalize errV E c = ev at *
  go_enter Tryz.func52, Tryz.ntmps52
  go_wp2_with fail
  refine C1.mono ?_
  rintro e w1 ⟨rfl, hb1⟩
  have HB1 : Hid (Below w.heap.size w w1) := HB.out.trans (hb1.mono HB.out.size)
  have C3 := C2.out w1 (HE0.out _ HB1.out)
  clear hb1 HB C1 C2 HE0
  go_wp2_with fail
  refine C3.mono ?_
  rintro e w2 ⟨rfl, hw⟩
  obtain rfl := hw.symm
  clear hw C3
  go_wp2_with fail
  go_ret
  exact ⟨rfl, HB1.out⟩
end Go.Proofs.YtolkgnnjocmkdaaGreatDoor
/-
  What ResponseFault and its model answer.
-/
namespace Go.Proofs.YtolkgnnjocmkdaaGreatDoor
open Go.ChangeShapes Go.WideShapes Go.ChangeAt Go.RowKit
set_option maxHeartbeats 400000 in
theorem rIn_any (s : Int) (w : World) (b : Bool) (hb : b = (decide (200 ≤ s) && decide (s ≤ 599))) :
    Calls Tryz.prog 110 #[.int .i64 s, .int .i64 200, .int .i64 599] w fun e w' => e = .returned (.bool b) ∧ w' = w := by
  have HE : Hid (b = (decide (200 ≤ s) && decide (s ≤ 599))) := hb
  clear hb
  by_cases c1 : (200 : Int) ≤ s
  · by_cases c2 : s ≤ 599
    · have HV : Hid (b = true) := by show _ = _; rw [HE.out]; simp [c1, c2]
      have d : decide (s ≤ 599) = true := by simpa using c2
      go_enter Tryz.func110, Tryz.ntmps110
      go_wp2
      go_ret
      exact ⟨ret_bool HV.out.symm, rfl⟩
    · have HV : Hid (b = false) := by show _ = _; rw [HE.out]; simp [c2]
      have d : decide (s ≤ 599) = false := by simpa using c2
      go_enter Tryz.func110, Tryz.ntmps110
      go_wp2
      go_ret
      exact ⟨ret_bool HV.out.symm, rfl⟩
  · have HV : Hid (b = false) := by show _ = _; rw [HE.out]; simp [c1]
    go_enter Tryz.func110, Tryz.ntmps110
    go_wp2
    go_ret
    exact ⟨ret_bool HV.out.symm, rfl⟩
set_option maxHeartbeats 4000000 in
theorem specResp_any (w : World) (s : Int) (a : Option Addr) (cap : Nat) (l : List Hdr) (bp : Option Addr) (bn bc : Nat) (hl : l.length ≤ 1048576) (hbn : bn ≤ 1048576) (hi : HdsIn w a l) :
    Calls Tryz.prog 47 #[.agg #[.int .i64 s, .slice a l.length cap, .slice bp bn bc]] w fun e w' => e = .returned (.int .i64 (respC s l bn)) ∧ Below w.heap.size w w' := by
  obtain ⟨W, hW⟩ : ∃ W, W = w.alloc (.cells #[.int .i64 s, .slice a l.length cap, .slice bp bn bc] 61) := ⟨_, rfl⟩
  have HW : Hid (W = w.alloc (.cells #[.int .i64 s, .slice a l.length cap, .slice bp bn bc] 61)) := hW
  have bW : Below w.heap.size w W := by rw [hW]; exact (Below.refl _ _).alloc (Nat.le_refl _) _
  have hlt : w.heap.size < W.heap.size := by rw [hW]; simp
  have hc1 : W.cell? ⟨w.heap.size, 1, none⟩ = some (.slice a l.length cap) := by rw [hW, World.cell?_alloc_mark]; rfl
  have hc2 : W.cell? ⟨w.heap.size, 2, none⟩ = some (.slice bp bn bc) := by rw [hW, World.cell?_alloc_mark]; rfl
  have HB : Hid (Below w.heap.size w W) := bW
  have CF := specHFault_any W a cap l hl (hi.keep bW)
  have CI := rIn_any s W _ rfl
  clear hW bW hi
  by_cases c0 : s < 200 ∨ 599 < s
  · have HE : Hid (respC s l bn = 3) := respC_range c0
    rw [show (decide (200 ≤ s) && decide (s ≤ 599)) = false from by simp; omega] at CI
    clear CF hc1 hc2 hlt c0
    generalize l.length = n at *
    go_enter Tryz.func47, Tryz.ntmps47
    go_wp2_with fail
    rw [← HW.out]
    refine CI.mono ?_
    rintro e w1 ⟨rfl, hw⟩
    obtain rfl := hw.symm
    clear CI HW hw
    go_wp2_with fail
    go_ret
    exact ⟨ret_int HE.out.symm, HB.out⟩
  rw [show (decide (200 ≤ s) && decide (s ≤ 599)) = true from by simp; omega] at CI
  have HE1 : Hid (headsC l ≠ 0 → respC s l bn = headsC l) := fun h => respC_heads c0 h
  have HE2 : Hid (headsC l = 0 → 2000 < bn → respC s l bn = 2) := fun h h2 => respC_many c0 h h2
  have HE3 : Hid (headsC l = 0 → ¬ 2000 < bn → respC s l bn = 0) := fun h h2 => respC_ok c0 h h2
  clear c0
  generalize respC s l bn = rc at *
  generalize headsC l = c at *
  generalize l.length = n at *
  go_enter Tryz.func47, Tryz.ntmps47
  go_wp2_with fail
  rw [← HW.out]
  refine CI.mono ?_
  rintro e w1 ⟨rfl, hw⟩
  obtain rfl := hw.symm
  clear CI HW hw
  go_wp2_with fail
  refine CF.mono ?_
  rintro e w2 ⟨rfl, hb2⟩
  have HB2 : Hid (Below w.heap.size w w2) := HB.out.trans (hb2.mono HB.out.size)
  have hc2' : w2.cell? ⟨w.heap.size, 2, none⟩ = some (.slice bp bn bc) := by rw [hb2.cell (p := ⟨w.heap.size, 2, none⟩) hlt]; exact hc2
  clear CF hb2 HB hc1 hc2 hlt
  by_cases c1 : c = 0
  · subst c1
    by_cases c2 : 2000 < bn
    · have HE : Hid (rc = 2) := HE2.out rfl c2
      have g : (2000 : Int) < bn := by omega
      clear HE1 HE2 HE3 c2
      go_wp2_with fail
      go_ret
      exact ⟨ret_int HE.out.symm, HB2.out⟩
    · have HE : Hid (rc = 0) := HE3.out rfl c2
      have g : ¬ (2000 : Int) < bn := by omega
      clear HE1 HE2 HE3 c2
      go_wp2_with fail
      go_ret
      exact ⟨ret_int HE.out.symm, HB2.out⟩
  · have HE : Hid (rc = c) := HE1.out c1
    clear HE1 HE2 HE3 hc2'
    go_wp2_with fail
    go_ret
    exact ⟨ret_int HE.out.symm, HB2.out⟩
set_option maxHeartbeats 4000000 in
theorem implRespE_any (E : Errs) (w : World) (s : Int) (a : Option Addr) (cap : Nat) (l : List Hdr) (bp : Option Addr) (bn bc : Nat) (hl : l.length ≤ 1048576) (hbn : bn ≤ 1048576) (hset : SetIs w) (hE : ErrsIs w E) (hi : HdsIn w a l) :
    Calls Tryz.prog 114 #[.agg #[.int .i64 s, .slice a l.length cap, .slice bp bn bc]] w fun e w' => e = .returned (errV E (respC s l bn)) ∧ Below w.heap.size w w' := by
  obtain ⟨W, hW⟩ : ∃ W, W = w.alloc (.cells #[.int .i64 s, .slice a l.length cap, .slice bp bn bc] 61) := ⟨_, rfl⟩
  have HW : Hid (W = w.alloc (.cells #[.int .i64 s, .slice a l.length cap, .slice bp bn bc] 61)) := hW
  have bW : Below w.heap.size w W := by rw [hW]; exact (Below.refl _ _).alloc (Nat.le_refl _) _
  have hlt : w.heap.size < W.heap.size := by rw [hW]; simp
  have hc2 : W.cell? ⟨w.heap.size, 2, none⟩ = some (.slice bp bn bc) := by rw [hW, World.cell?_alloc_mark]; rfl
  have HB : Hid (Below w.heap.size w W) := bW
  have CF := implHFault_any W a cap l hl (hset.below bW) (hi.keep bW)
  have HE0 : Hid (∀ X, Below w.heap.size w X → ErrsIs X E) := fun X hb => hE.below hb
  have HK := headsC_codes l
  have gB0 := (hE.below bW).gB
  rw [hW] at gB0
  clear hW bW hi hset hE
  by_cases c0 : s < 200 ∨ 599 < s
  · have HE : Hid (errV E (respC s l bn) = .iface 369 (.pointer (some E.b))) := by show _ = _; rw [respC_range c0]; rfl
    rw [HW.out] at HB
    clear CF hc2 hlt HE0 HK HW
    generalize l.length = n at *
    rcases c0 with c0 | c0
    · go_enter Tryz.func114, Tryz.ntmps114
      go_wp2_with fail
      go_ret
      exact ⟨congrArg Ending.returned HE.out.symm, HB.out⟩
    · have c1 : ¬ s < 200 := by omega
      go_enter Tryz.func114, Tryz.ntmps114
      go_wp2_with fail
      go_ret
      exact ⟨congrArg Ending.returned HE.out.symm, HB.out⟩
  have HE1 : Hid (headsC l ≠ 0 → respC s l bn = headsC l) := fun h => respC_heads c0 h
  have HE2 : Hid (headsC l = 0 → 2000 < bn → respC s l bn = 2) := fun h h2 => respC_many c0 h h2
  have HE3 : Hid (headsC l = 0 → ¬ 2000 < bn → respC s l bn = 0) := fun h h2 => respC_ok c0 h h2
  have g1 : ¬ s < 200 := by omega
  have g2 : ¬ 599 < s := by omega
  clear c0 gB0
  generalize respC s l bn = rc at *
  generalize headsC l = c at *
  generalize l.length = n at *
  go_enter Tryz.func114, Tryz.ntmps114
  go_wp2_with fail
  rw [← HW.out]
  refine CF.mono ?_
  rintro e w2 ⟨rfl, hb2⟩
  have HB2 : Hid (Below w.heap.size w w2) := HB.out.trans (hb2.mono HB.out.size)
  have hc2' : w2.cell? ⟨w.heap.size, 2, none⟩ = some (.slice bp bn bc) := by rw [hb2.cell (p := ⟨w.heap.size, 2, none⟩) hlt]; exact hc2
  clear CF hb2 HB hc2 hlt HW g1 g2
  have C4 := headError_any E c w2 (HE0.out _ HB2.out) HK
  by_cases c1 : c = 0
  · subst c1
    rw [errV0] at C4
    by_cases c2 : 2000 < bn
    · have HE : Hid (errV E rc = .iface 369 (.pointer (some E.m))) := by show _ = _; rw [HE2.out rfl c2]; rfl
      have g : (2000 : Int) < bn := by omega
      have gM := (HE0.out _ HB2.out).gM
      clear HE1 HE2 HE3 c2 HE0 HK
      go_wp2_with fail
      refine C4.mono ?_
      rintro e w4 ⟨rfl, hw⟩
      obtain rfl := hw.symm
      clear C4 hw
      go_wp2_with fail
      go_ret
      exact ⟨congrArg Ending.returned HE.out.symm, HB2.out⟩
    · have HE : Hid (errV E rc = .nilIface) := by show _ = _; rw [HE3.out rfl c2]; rfl
      have g : ¬ (2000 : Int) < bn := by omega
      clear HE1 HE2 HE3 c2 HE0 HK
      go_wp2_with fail
      refine C4.mono ?_
      rintro e w4 ⟨rfl, hw⟩
      obtain rfl := hw.symm
      clear C4 hw
      go_wp2_with fail
      go_ret
      exact ⟨congrArg Ending.returned HE.out.symm, HB2.out⟩
  · have HE : Hid (errV E rc = errV E c) := by show _ = _; rw [HE1.out c1]
    have hv : ∃ x, errV E c = .iface 369 (.pointer (some x)) := by
      rcases HK with e | e | e
      · exact absurd e c1
      · rw [e]; exact ⟨_, rfl⟩
      · rw [e]; exact ⟨_, rfl⟩
    obtain ⟨x, hx⟩ := hv
    rw [hx] at C4 HE
    clear HE1 HE2 HE3 HE0 HK hc2' hx c1
    go_wp2_with fail
    refine C4.mono ?_
    rintro e w4 ⟨rfl, hw⟩
    obtain rfl := hw.symm
    clear C4 hw
    go_wp2_with fail
    go_ret
    exact ⟨congrArg Ending.returned HE.out.symm, HB2.out⟩
set_option maxHeartbeats 1000000 in
theorem implResp_any (E : Errs) (w : World) (s : Int) (a : Option Addr) (cap : Nat) (l : List Hdr) (bp : Option Addr) (bn bc : Nat) (hl : l.length ≤ 1048576) (hbn : bn ≤ 1048576) (hset : SetIs w) (hE : ErrsIs w E) (hi : HdsIn w a l) :
    Calls Tryz.prog 50 #[.agg #[.int .i64 s, .slice a l.length cap, .slice bp bn bc]] w fun e w' => e = .returned (.int .i64 (respC s l bn)) ∧ Below w.heap.size w w' := by
  have bW : Below w.heap.size w (w.alloc (.cells #[.int .i64 s, .slice a l.length cap, .slice bp bn bc] 61)) := (Below.refl _ _).alloc (Nat.le_refl _) _
  have C1 := implRespE_any E _ s a cap l bp bn bc hl hbn (hset.below bW) (hE.below bW) (hi.keep bW)
  have HK := respC_codes s l bn
  have C2 : Hid (∀ X, ErrsIs X E → Calls Tryz.prog 113 #[errV E (respC s l bn)] X fun e w' => e = .returned (.int .i64 (respC s l bn)) ∧ w' = X) := fun X hX => codeOf_any E _ X hX (by omega)
  have HE0 : Hid (∀ X, Below w.heap.size w X → ErrsIs X E) := fun X hb => hE.below hb
  have HB : Hid (Below w.heap.size w (w.alloc (.cells #[.int .i64 s, .slice a l.length cap, .slice bp bn bc] 61))) := bW
  clear hi hset hE HK bW
  generalize respC s l bn = c at *
  generalize l.length = n at *
  generalize errV E c = ev at *
  go_enter Tryz.func50, Tryz.ntmps50
  go_wp2_with fail
  refine C1.mono ?_
  rintro e w1 ⟨rfl, hb1⟩
  have HB1 : Hid (Below w.heap.size w w1) := HB.out.trans (hb1.mono HB.out.size)
  have C3 := C2.out w1 (HE0.out _ HB1.out)
  clear hb1 HB C1 C2 HE0
  go_wp2_with fail
  refine C3.mono ?_
  rintro e w2 ⟨rfl, hw⟩
  obtain rfl := hw.symm
  clear hw C3
  go_wp2_with fail
  go_ret
  exact ⟨rfl, HB1.out⟩
end Go.Proofs.YtolkgnnjocmkdaaGreatDoor
/-
  Responses as answers: what they hold, bodies that may be left out.
-/
namespace Go.Proofs.YtolkgnnjocmkdaaGreatDoor
open Go.ChangeShapes Go.WideShapes Go.ChangeAt Go.RowKit Go.Sort
/-- A response's lists, in memory of its own. -/
def RR (L : List Hdr) (T : List UInt8) (ra : Option Addr) (rn rk : Nat) (rb : Option Addr) (rm rl : Nat) (lo hi : Nat) (X : World) : Prop :=
  rn = L.length ∧ rm = T.length ∧ HL (.slice ra rn rk) L lo hi X ∧ BL (.slice rb rm rl) T lo hi X ∧ Ap (.slice ra rn rk) (.slice rb rm rl)
theorem RR.dep (L : List Hdr) (T : List UInt8) (ra : Option Addr) (rn rk : Nat) (rb : Option Addr) (rm rl lo hi : Nat) : Dep lo hi (RR L T ra rn rk rb rm rl lo hi) := fun X X' h1 h2 hc k =>
  ⟨k.1, k.2.1, HL.dep _ _ _ _ X X' h1 h2 hc k.2.2.1, BL.dep _ _ _ _ X X' h1 h2 hc k.2.2.2.1, k.2.2.2.2⟩
theorem Ap.of {v u : Value} {l1 h1 l2 h2 : Nat} (a : ∀ b, v.ownBlock = some b → l1 ≤ b ∧ b < h1) (c : ∀ b, u.ownBlock = some b → l2 ≤ b ∧ b < h2) (h : h1 ≤ l2 ∨ h2 ≤ l1) : Ap v u := fun b e1 e2 => by
  have x := a b e1
  have y := c b e2
  omega
theorem RR.of {L : List Hdr} {T : List UInt8} {ra : Option Addr} {rk : Nat} {rb : Option Addr} {rl l1 h1 l2 h2 lo hi : Nat} {X : World} (a : At l1 h1 (HL (.slice ra L.length rk) L) X) (c : At l2 h2 (BL (.slice rb T.length rl) T) X) (h : h1 ≤ l2 ∨ h2 ≤ l1) (x1 : lo ≤ l1) (x2 : lo ≤ l2) (x3 : h1 ≤ hi) (x4 : h2 ≤ hi) (x5 : hi ≤ X.heap.size) :
    At lo hi (RR L T ra L.length rk rb T.length rl) X :=
  ⟨x5, RR.dep _ _ _ _ _ _ _ _ _ _, rfl, rfl, a.val.wide x1 x3, c.val.wide x2 x4, Ap.of a.val.2 c.val.2 h⟩
theorem RR.nil (lo : Nat) (X : World) : At lo X.heap.size (RR [] [] none 0 0 none 0 0) X :=
  ⟨Nat.le_refl _, RR.dep _ _ _ _ _ _ _ _ _ _, rfl, rfl, ⟨.inl ⟨rfl, rfl⟩, fun b hb => by cases hb⟩, ⟨.inl ⟨rfl, rfl⟩, fun b hb => by cases hb⟩, fun b hb => by cases hb⟩
def bodyL (hd : Bool) (bl : List UInt8) : List UInt8 := if hd then [] else bl
set_option maxHeartbeats 1000000 in
theorem bodyFor_any (w : World) (a : Option Addr) (cap : Nat) (bl : List UInt8) (hd : Bool) (hl : bl.length ≤ 1048576) (hi : BIn w a bl) :
    Calls Tryz.prog 100 #[.slice a bl.length cap, .bool hd] w fun e w' => (∃ b k, e = .returned (.slice b (bodyL hd bl).length k) ∧ At w.heap.size w'.heap.size (BL (.slice b (bodyL hd bl).length k) (bodyL hd bl)) w') ∧ Below w.heap.size w w' := by
  have C := bClone_any w a cap bl hl hi
  clear hi hl
  cases hd
  · show Calls _ _ _ _ fun e w' => (∃ b k, e = .returned (.slice b bl.length k) ∧ At w.heap.size w'.heap.size (BL (.slice b bl.length k) bl) w') ∧ Below w.heap.size w w'
    obtain ⟨Q, hQ⟩ : ∃ Q : World → Option Addr → Nat → Prop, Q = fun w' b k => At w.heap.size w'.heap.size (BL (.slice b bl.length k) bl) w' := ⟨_, rfl⟩
    have C2 : Hid (Calls Tryz.prog 159 #[.slice a bl.length cap] w fun e w' => (∃ b k, e = .returned (.slice b bl.length k) ∧ Q w' b k) ∧ Below w.heap.size w w') := C.mono fun e w' ⟨⟨v, h1, h2⟩, h3⟩ => by
      obtain ⟨va, vc, rfl, _⟩ := row_form h2
      exact ⟨⟨va, vc, h1, by rw [hQ]; exact RowB.at h2⟩, h3⟩
    have HQ : Hid (∀ w' b k, Q w' b k → At w.heap.size w'.heap.size (BL (.slice b bl.length k) bl) w') := fun w' b k h => by rw [hQ] at h; exact h
    clear C hQ
    go_enter Tryz.func100, Tryz.ntmps100
    go_wp2_with fail
    refine C2.out.mono ?_
    rintro e w1 ⟨⟨b, k, rfl, hq⟩, hb⟩
    go_wp2_with fail
    go_ret
    exact ⟨⟨b, k, rfl, HQ.out _ _ _ hq⟩, hb⟩
  · clear C
    go_enter Tryz.func100, Tryz.ntmps100
    go_wp2_with fail
    go_ret
    exact ⟨⟨none, 0, rfl, Nat.le_refl _, BL.dep _ _ _ _, .inl ⟨rfl, rfl⟩, fun b hb => by cases hb⟩, Below.refl _ _⟩
end Go.Proofs.YtolkgnnjocmkdaaGreatDoor
/-
  RelayOf, by the model.
-/
namespace Go.Proofs.YtolkgnnjocmkdaaGreatDoor
open Go.ChangeShapes Go.WideShapes Go.ChangeAt Go.RowKit Go.Sort
def cacheN : ByteArray := ⟨#[88, 45, 67, 97, 99, 104, 101]⟩
def missV : ByteArray := ⟨#[109, 105, 115, 115]⟩
/-- The lines of a response that goes through. -/
def relayL (l : List Hdr) : List Hdr := if 20 < (setGo ⟨cacheN, missV⟩ false l).length then l else setGo ⟨cacheN, missV⟩ false l
theorem relayL_len {l : List Hdr} (h : l.length ≤ 20) : (relayL l).length ≤ 20 := by
  unfold relayL
  split <;> omega
end Go.Proofs.YtolkgnnjocmkdaaGreatDoor
/-
  Head lines that are copied, by the program.
-/
namespace Go.Proofs.YtolkgnnjocmkdaaGreatDoor
open Go.ChangeShapes Go.WideShapes Go.ChangeAt Go.RowKit Go.Sort
set_option maxRecDepth 100000 in
set_option maxHeartbeats 4000000 in
theorem linesAnew_any (w : World) (a : Option Addr) (cap : Nat) (l : List Hdr) (hl : l.length ≤ 1048576) (hs : ∀ r ∈ l, r.name.size ≤ 1048576 ∧ r.value.size ≤ 1048576) (hi : HdsIn w a l) :
    Calls Tryz.prog 108 #[.slice a l.length cap] w fun e w' => (∃ v, e = .returned v ∧ RowH w' w.heap.size v l) ∧ Below w.heap.size w w' := by
  have HI : Hid (HdsIn w a l) := hi
  have HSM : Hid (∀ r ∈ l, r.name.size ≤ 1048576 ∧ r.value.size ≤ 1048576) := hs
  obtain ⟨i0, hi0, hz0, hz1, hz2⟩ := info_parts cHeadI
  clear hi hs
  generalize hn : l.length = n at *
  have HN : Hid (l.length = n) := hn
  clear hn
  go_enter Tryz.func108, Tryz.ntmps108
  go_wp2_with fail
  go_loopw [3, 8] (fun v i wr => ∃ k : Nat, k ≤ n ∧ i = .int .i64 k ∧ wr.ownsRow w.heap.size 110 2 v k (hdrsW (l.take k)) ∧ Below w.heap.size w wr) (fun _ i _ => n - (intOf i).toNat)
  case atStart => exact ⟨0, Nat.zero_le _, rfl, World.ownsRow_nil _ _ _ _, Below.refl _ _⟩
  case round =>
    obtain ⟨k, hk, rfl, hrow, hb⟩ := hrel
    obtain ⟨va, vc, rfl, _⟩ := row_form hrow
    by_cases hlt : k < n
    · obtain ⟨r, hr⟩ : ∃ r, l[k]? = some r := ⟨l[k]'(by have := HN.out; omega), List.getElem?_eq_getElem _⟩
      rcases HI.out with e | ⟨b', off', er, hat⟩
      · rw [e] at hr; simp at hr
      obtain ⟨p0, p1⟩ := (hat.keep hb) k r hr
      have sm := HSM.out r (List.mem_of_getElem? hr)
      rw [er]
      have g : (k : Int) < n := by omega
      have g0 : (0 : Int) ≤ k := by omega
      obtain ⟨W2, hW2⟩ : ∃ W2, W2 = wr.alloc (.cells #[.string r.name, .string r.value] 110) := ⟨_, rfl⟩
      have HW2 : Hid (W2 = wr.alloc (.cells #[.string r.name, .string r.value] 110)) := hW2
      have b2 : Below wr.heap.size wr W2 := by rw [hW2]; exact (Below.refl _ _).alloc (Nat.le_refl _) _
      have R2 : Hid (W2.ownsRow w.heap.size 110 2 (.slice va k vc) k (hdrsW (l.take k)) ∧ Below w.heap.size w W2) := ⟨row_below hrow b2, hb.trans (b2.mono hb.size)⟩
      have HT : Hid (hdrsW (l.take k) ++ [.string r.name, .string r.value] = hdrsW (l.take (k + 1))) := by
        show _ = _
        obtain ⟨hk2, rfl⟩ := List.getElem?_eq_some_iff.1 hr
        rw [List.take_succ_eq_append_getElem hk2]
        unfold hdrsW
        rw [List.flatMap_append, List.flatMap_cons, List.flatMap_nil, List.append_nil]
        rfl
      have CL : Hid (∀ X, Calls Tryz.prog 65 #[.string r.name, .string r.value] X fun e w' => e = .returned (.agg #[.string r.name, .string r.value]) ∧ Below X.heap.size X w') := fun X => lineOf_anew _ _ X sm.1 sm.2
      clear hrow hat hr sm hW2 b2 hb
      go_wp2_with fail
      rw [← HW2.out]
      clear HW2 p0 p1
      refine (CL.out _).mono ?_
      rintro e0 wa ⟨rfl, hba⟩
      have N3 : Hid (1 = 0 ∨ ∃ ad, some (⟨wa.heap.size, 0, none⟩ : Addr) = some ad ∧ ∀ j u, ([Value.string r.name, Value.string r.value])[j]? = some u → (wa.alloc (.cells #[.string r.name, .string r.value] 110)).cell? (ad.add j) = some u) := by
        refine .inr ⟨_, rfl, fun j u hj => ?_⟩
        rw [cadd]
        match j, hj with
        | 0, hj => simp at hj; subst hj; simp
        | 1, hj => simp at hj; subst hj; simp
      have b3 : Below W2.heap.size W2 (wa.alloc (.cells #[.string r.name, .string r.value] 110)) := hba.alloc hba.size _
      have RR3 : Hid ((wa.alloc (.cells #[.string r.name, .string r.value] 110)).ownsRow w.heap.size 110 2 (.slice va k vc) k (hdrsW (l.take k)) ∧ Below w.heap.size w (wa.alloc (.cells #[.string r.name, .string r.value] 110))) := ⟨row_below R2.out.1 b3, R2.out.2.trans (b3.mono R2.out.2.size)⟩
      clear b3 hba R2
      go_wp2_with (at_builtin; refine wpList_plain rfl fun _ hK => wp_append_in _ (.tmp 12) (.tmp 18) 33 110 rfl i0 _ 2 32 Tryz.underlying33 hi0 hz0 hz1 hz2 rfl (by omega) w.heap.size _ k (hdrsW (l.take k)) rfl RR3.out.1 (some ⟨wa.heap.size, 0, none⟩) 1 1 [.string r.name, .string r.value] rfl rfl N3.out (by simp [Value.oneCell']) (by unfold maxLen; omega) (by omega) RR3.out.2.size (fun v' w' h1 h2 _ => hK _ _ ?_))
      have HF : Hid (w'.ownsRow w.heap.size 110 2 v' (k + 1) (hdrsW (l.take (k + 1))) ∧ Below w.heap.size w w') := by
        rw [HT.out] at h1
        exact ⟨h1, RR3.out.2.trans h2⟩
      clear h1 h2 RR3 N3
      go_wp2_with fail
      go_roundw
      case rel => exact ⟨k + 1, by omega, by go_num, HF.out.1, HF.out.2⟩
      case measure => simp [intOf]; omega
    · have HF : Hid (RowH wr w.heap.size (.slice va k vc) l) := by
        have e : l.take k = l := List.take_of_length_le (by have := HN.out; omega)
        have := hrow
        rw [e] at this
        have hkn : k = l.length := by have := HN.out; omega
        subst hkn
        exact this
      clear hrow
      go_wp2_with fail
      go_ret
      exact ⟨⟨_, rfl, HF.out⟩, hb⟩
end Go.Proofs.YtolkgnnjocmkdaaGreatDoor
/-
  RelayOf: what it answers, by the model and by the program.
-/
namespace Go.Proofs.YtolkgnnjocmkdaaGreatDoor
open Go.ChangeShapes Go.WideShapes Go.ChangeAt Go.RowKit Go.Sort
/-- Rows with their lengths. -/
def HLn (a : Option Addr) (n c : Nat) (l : List Hdr) (lo hi : Nat) (X : World) : Prop := n = l.length ∧ HL (.slice a n c) l lo hi X
def BLn (a : Option Addr) (n c : Nat) (l : List UInt8) (lo hi : Nat) (X : World) : Prop := n = l.length ∧ BL (.slice a n c) l lo hi X
theorem HLn.of {a : Option Addr} {c : Nat} {l : List Hdr} {lo hi : Nat} {X : World} (h : At lo hi (HL (.slice a l.length c) l) X) : At lo hi (HLn a l.length c l) X :=
  ⟨h.le, fun X X' h1 h2 hc k => ⟨k.1, HL.dep _ _ _ _ X X' h1 h2 hc k.2⟩, rfl, h.val⟩
theorem BLn.of {a : Option Addr} {c : Nat} {l : List UInt8} {lo hi : Nat} {X : World} (h : At lo hi (BL (.slice a l.length c) l) X) : At lo hi (BLn a l.length c l) X :=
  ⟨h.le, fun X X' h1 h2 hc k => ⟨k.1, BL.dep _ _ _ _ X X' h1 h2 hc k.2⟩, rfl, h.val⟩
def relS (c s : Int) : Int := if c = 0 then s else 0
def relL (c : Int) (l : List Hdr) : List Hdr := if c = 0 then relayL l else []
def relB (c : Int) (hd : Bool) (bl : List UInt8) : List UInt8 := if c = 0 then bodyL hd bl else []
/-- What RelayOf answers. -/
def RelayRes (s : Int) (l : List Hdr) (hd : Bool) (bl : List UInt8) (w w' : World) (e : Ending) : Prop :=
  ∃ ra rn rk rb rm rl, e = .returned (.agg #[.int .i64 (respC s l bl.length), .int .i64 (relS (respC s l bl.length) s), .slice ra rn rk, .slice rb rm rl]) ∧ At w.heap.size w'.heap.size (RR (relL (respC s l bl.length) l) (relB (respC s l bl.length) hd bl) ra rn rk rb rm rl) w'
theorem RelayRes.bad {s : Int} {l : List Hdr} {hd : Bool} {bl : List UInt8} {w w' : World} {c : Int} (h : respC s l bl.length = c) (h0 : c ≠ 0) : RelayRes s l hd bl w w' (.returned (.agg #[.int .i64 c, .int .i64 0, .slice none 0 0, .slice none 0 0])) := by
  refine ⟨none, 0, 0, none, 0, 0, ?_, ?_⟩
  · rw [h]; unfold relS; rw [if_neg h0]
  · rw [h]; unfold relL relB; rw [if_neg h0, if_neg h0]; exact (RR.nil _ _)
theorem RelayRes.good {s : Int} {l : List Hdr} {hd : Bool} {bl : List UInt8} {w w' : World} {ra : Option Addr} {rn rk : Nat} {rb : Option Addr} {rm rl : Nat} (h : respC s l bl.length = 0) (k : At w.heap.size w'.heap.size (RR (relayL l) (bodyL hd bl) ra rn rk rb rm rl) w') : RelayRes s l hd bl w w' (.returned (.agg #[.int .i64 0, .int .i64 s, .slice ra rn rk, .slice rb rm rl])) := by
  refine ⟨ra, rn, rk, rb, rm, rl, ?_, ?_⟩
  · rw [h]; rfl
  · rw [h]; exact k
theorem resp_small {s : Int} {l : List Hdr} {bn : Nat} (h : respC s l bn = 0) : l.length ≤ 20 ∧ (∀ (i : Nat) r, l[i]? = some r → r.name.size ≤ 64 ∧ r.value.size ≤ 200) ∧ headsC l = 0 := by
  obtain ⟨_, _, y3, _⟩ := respC_zero h
  obtain ⟨h20, hf⟩ := headsC_zero y3
  exact ⟨h20, fun i r hr => by obtain ⟨x1, x2, _⟩ := faultH_zero (hf i r hr); exact ⟨hword_max x1, x2⟩, y3⟩
set_option maxRecDepth 100000 in
set_option maxHeartbeats 16000000 in
theorem implRelay_any (E : Errs) (w : World) (s : Int) (a : Option Addr) (cap : Nat) (l : List Hdr) (b : Option Addr) (bc : Nat) (bl : List UInt8) (hd : Bool) (hl : l.length ≤ 1048576) (hbl : bl.length ≤ 1048576) (hset : SetIs w) (hE : ErrsIs w E) (hi : HdsIn w a l) (hib : BIn w b bl) :
    Calls Tryz.prog 45 #[.agg #[.int .i64 s, .slice a l.length cap, .slice b bl.length bc], .bool hd] w fun e w' => RelayRes s l hd bl w w' e ∧ Below w.heap.size w w' := by
  have CF0 := implResp_any E
  obtain ⟨W, hW⟩ : ∃ W, W = ((w.alloc (.cells #[.int .i64 s, .slice a l.length cap, .slice b bl.length bc] 61)).alloc (.cells #[.int .i64 0, .int .i64 0, .slice none 0 0, .slice none 0 0] 82)) := ⟨_, rfl⟩
  have HW : Hid (W = ((w.alloc (.cells #[.int .i64 s, .slice a l.length cap, .slice b bl.length bc] 61)).alloc (.cells #[.int .i64 0, .int .i64 0, .slice none 0 0, .slice none 0 0] 82))) := hW
  have bW : Below w.heap.size w W := by rw [hW]; exact ((Below.refl _ _).alloc (Nat.le_refl _) _).alloc (by simp) _
  have KW : Hid (Below w.heap.size w W ∧ At w.heap.size (w.heap.size + 1) (Bx w.heap.size [.int .i64 s, .slice a l.length cap, .slice b bl.length bc]) W ∧ At (w.heap.size + 1) (w.heap.size + 1 + 1) (Bx (w.heap.size + 1) [.int .i64 0, .int .i64 0, .slice none 0 0, .slice none 0 0]) W) := ⟨bW, by rw [hW]; exact (Bx.new _ [.int .i64 s, .slice a l.length cap, .slice b bl.length bc] _).al _, by rw [hW]; exact Bx.newAt (by simp) [.int .i64 0, .int .i64 0, .slice none 0 0, .slice none 0 0] _⟩
  have HP : Hid (∀ X, Below w.heap.size w X → HdsIn X a l ∧ BIn X b bl) := fun X hX => ⟨hi.keep hX, hib.keep hX⟩
  have CF : Hid (∀ X, Below w.heap.size w X → Calls Tryz.prog 50 #[.agg #[.int .i64 s, .slice a l.length cap, .slice b bl.length bc]] X fun e w' => e = .returned (.int .i64 (respC s l bl.length)) ∧ Below X.heap.size X w') := fun X hX => CF0 X s a cap l b bl.length bc hl hbl (hset.below hX) (hE.below hX) (hi.keep hX)
  have CL : Hid (respC s l bl.length = 0 → ∀ X, Below w.heap.size w X → Calls Tryz.prog 108 #[.slice a l.length cap] X fun e w' => (∃ va vn vc, e = .returned (.slice va vn vc) ∧ At X.heap.size w'.heap.size (HLn va vn vc l) w') ∧ Below X.heap.size X w') := fun hc X hX => by
    obtain ⟨h20, hz, _⟩ := resp_small hc
    exact (linesAnew_any X a cap l hl (fun r hr => by obtain ⟨i, hi'⟩ := List.mem_iff_getElem?.1 hr; have := hz i r hi'; omega) (hi.keep hX)).mono fun e w' ⟨⟨v, h1, h2⟩, h3⟩ => by
      obtain ⟨va, vc, rfl, _⟩ := row_form h2
      exact ⟨⟨va, _, vc, h1, HLn.of (RowH.at h2)⟩, h3⟩
  have CB : Hid (∀ X, Below w.heap.size w X → Calls Tryz.prog 100 #[.slice b bl.length bc, .bool hd] X fun e w' => (∃ vb vm vd, e = .returned (.slice vb vm vd) ∧ At X.heap.size w'.heap.size (BLn vb vm vd (bodyL hd bl)) w') ∧ Below X.heap.size X w') := fun X hX => (bodyFor_any X b bc bl hd hbl (hib.keep hX)).mono fun e w' ⟨⟨x, k, h1, h2⟩, h3⟩ => ⟨⟨x, _, k, h1, BLn.of h2⟩, h3⟩
  have CS : Hid (respC s l bl.length = 0 → ∀ X, Below w.heap.size w X → Calls Tryz.prog 109 #[.slice a l.length cap, .string cacheN, .string missV] X fun e w' => (∃ sc sa sn sk, e = .returned (.agg #[.int .i64 sc, .slice sa sn sk]) ∧ (sc = 0 ∧ At X.heap.size w'.heap.size (HLn sa sn sk (relayL l)) w' ∨ sc = 2 ∧ relayL l = l)) ∧ Below X.heap.size X w') := fun hc X hX => by
    obtain ⟨h20, hz, h3⟩ := resp_small hc
    have a0 : askC l (Hdr.mk cacheN missV).name = 0 := askC_word h3 (by decide)
    have f0 : faultH ⟨cacheN, missV⟩ = 0 := by decide
    refine (implSet_any X a cap l cacheN missV hl (by decide) (by decide) (hset.below hX) (hi.keep hX)).mono ?_
    rintro e w' ⟨⟨v, h1, h2⟩, h3⟩
    by_cases hm : 20 < (setGo ⟨cacheN, missV⟩ false l).length
    · obtain ⟨g1, g2⟩ := set_many a0 f0 hm
      obtain ⟨va, vc, rfl, _⟩ := row_form h2
      rw [g1] at h1
      exact ⟨⟨2, va, _, vc, h1, .inr ⟨rfl, by unfold relayL; rw [if_pos hm]⟩⟩, h3⟩
    · obtain ⟨g1, g2⟩ := set_ok a0 f0 hm
      obtain ⟨va, vc, rfl, _⟩ := row_form h2
      have e2 : relayL l = setL l ⟨cacheN, missV⟩ := by rw [g2]; unfold relayL; rw [if_neg hm]
      rw [g1] at h1
      exact ⟨⟨0, va, _, vc, h1, .inl ⟨rfl, by rw [e2]; exact HLn.of (RowH.at h2)⟩⟩, h3⟩
  clear hW bW hi hib CF0 hset hE
  by_cases hc : respC s l bl.length = 0
  · have HC : Hid (respC s l bl.length = 0) := hc
    replace CL := hidL (CL.out hc)
    replace CS := hidL (CS.out hc)
    rw [hc] at CF
    clear hc HP hl hbl
    have HGOOD : Hid (∀ w' ra rn rk rb rm rl, At w.heap.size w'.heap.size (RR (relayL l) (bodyL hd bl) ra rn rk rb rm rl) w' → RelayRes s l hd bl w w' (.returned (.agg #[.int .i64 0, .int .i64 s, .slice ra rn rk, .slice rb rm rl]))) := fun w' ra rn rk rb rm rl k => RelayRes.good HC.out k
    generalize l.length = n at *
    generalize bl.length = bn at *
    go_enter Tryz.func45, Tryz.ntmps45
    go_wp2_with fail
    rw [← HW.out]
    refine (CF.out W KW.out.1).mono ?_
    rintro e w1 ⟨rfl, hb1⟩
    have K1 : Hid (Below w.heap.size w w1 ∧ At w.heap.size (w.heap.size + 1) (Bx w.heap.size [.int .i64 s, .slice a n cap, .slice b bn bc]) w1 ∧ At (w.heap.size + 1) (w.heap.size + 1 + 1) (Bx (w.heap.size + 1) [.int .i64 0, .int .i64 0, .slice none 0 0, .slice none 0 0]) w1) := ⟨KW.out.1.trans (hb1.mono KW.out.1.size), KW.out.2.1.keep hb1, KW.out.2.2.keep hb1⟩
    clear hb1 KW HW CF
    go_upto_region 4 with fail
    go_cut [6] from 14 to 23 (fun sx wx => ∃ (X0 : Nat) (l1 h1 : Nat) (l2 h2 : Nat) (va : Option Addr) (vn : Nat) (vc : Nat) (vb : Option Addr) (vm : Nat) (vd : Nat), sx = .pointer (some ⟨X0, 0, none⟩) ∧ Below w1.heap.size w1 wx ∧ At X0 (X0 + 1) (Bx X0 [.int .i64 s, .slice va vn vc, .slice vb vm vd]) wx ∧ w1.heap.size ≤ X0 ∧ At l1 h1 (HLn va vn vc l) wx ∧ (X0 < l1 ∨ h1 ≤ X0) ∧ w1.heap.size ≤ l1 ∧ l1 ≤ h1 ∧ At l2 h2 (BLn vb vm vd (bodyL hd bl)) wx ∧ (X0 < l2 ∨ h2 ≤ X0) ∧ w1.heap.size ≤ l2 ∧ l2 ≤ h2 ∧ h1 ≤ l2)
    case first =>
      have HKS : Hid (∀ X, Below w1.heap.size w1 X → X.cell? ⟨w.heap.size, 0, none⟩ = some (.int .i64 s) ∧ X.cell? ⟨w.heap.size, 1, none⟩ = some (.slice a n cap) ∧ X.cell? ⟨w.heap.size, 2, none⟩ = some (.slice b bn bc)) := fun X hX => ⟨(K1.out.2.1.keep hX).val.1 0 _ rfl, (K1.out.2.1.keep hX).val.1 1 _ rfl, (K1.out.2.1.keep hX).val.1 2 _ rfl⟩
      have B0 : Hid (Below w1.heap.size w1 w1.drew) := (Below.refl _ _).drew
      have B0A : Hid (Below w1.heap.size w1 (w1.alloc (.cells #[.int .i64 0, .slice none 0 0, .slice none 0 0] 61)).drew) := ((Below.refl _ _).alloc (Nat.le_refl _) _).drew
      have ZA0 : Hid (At w1.heap.size (w1.heap.size + 1) (Bx w1.heap.size [.int .i64 0, .slice none 0 0, .slice none 0 0]) (w1.alloc (.cells #[.int .i64 0, .slice none 0 0, .slice none 0 0] 61)).drew) := (Bx.newAt rfl [.int .i64 0, .slice none 0 0, .slice none 0 0] _).keep ((Below.refl _ _).drew)
      go_region_held3 (fun X => X.cell? ⟨w.heap.size, 0, none⟩ = some (.int .i64 s) ∧ X.cell? ⟨w.heap.size, 1, none⟩ = some (.slice a n cap) ∧ X.cell? ⟨w.heap.size, 2, none⟩ = some (.slice b bn bc))
        (first | ((with_reducible refine HKS.out _ ?_); (with_reducible exact BD.out)) | ((with_reducible refine HKS.out _ ?_); (with_reducible exact B2.out)) | ((with_reducible refine HKS.out _ ?_); (with_reducible exact B1.out)) | ((with_reducible refine HKS.out _ ?_); (with_reducible exact B0.out)) | ((with_reducible refine HKS.out _ ?_); (with_reducible exact B0A.out)) | ((with_reducible refine HKS.out _ ?_); (with_reducible exact B2.out.alloc B2.out.size _)) | ((with_reducible refine HKS.out _ ?_); (with_reducible exact B1.out.alloc B1.out.size _)) | ((with_reducible refine HKS.out _ ?_); (with_reducible exact (Below.refl _ _).alloc (Nat.le_refl _) _)))
        (first
          | (go_at_call 108; first
            | (have HBB : Hid (Below w1.heap.size w1 w1.drew) := B0.out; (with_reducible refine (CL.out w1.drew (K1.out.1.trans (HBB.out.mono K1.out.1.size))).mono ?_); rintro e0 ut1 ⟨⟨va, vn, vc, rfl, ca⟩, hb⟩; have B1 : Hid (Below w1.heap.size w1 ut1) := HBB.out.trans (hb.mono HBB.out.size); have C1 : Hid (At w1.drew.heap.size ut1.heap.size (HLn va vn vc l) ut1) := ca; clear ca; have M1 := hidL (show w1.heap.size ≤ w1.drew.heap.size ∧ w1.drew.heap.size ≤ ut1.heap.size from ⟨HBB.out.size, hb.size⟩); clear hb; clear HBB)
            | (have HBB : Hid (Below w1.heap.size w1 (w1.alloc (.cells #[.int .i64 0, .slice none 0 0, .slice none 0 0] 61)).drew) := B0A.out; (with_reducible refine (CL.out (w1.alloc (.cells #[.int .i64 0, .slice none 0 0, .slice none 0 0] 61)).drew (K1.out.1.trans (HBB.out.mono K1.out.1.size))).mono ?_); rintro e0 ut1 ⟨⟨va, vn, vc, rfl, ca⟩, hb⟩; have B1 : Hid (Below w1.heap.size w1 ut1) := HBB.out.trans (hb.mono HBB.out.size); have C1 : Hid (At (w1.alloc (.cells #[.int .i64 0, .slice none 0 0, .slice none 0 0] 61)).drew.heap.size ut1.heap.size (HLn va vn vc l) ut1) := ca; clear ca; have M1 := hidL (show w1.heap.size ≤ (w1.alloc (.cells #[.int .i64 0, .slice none 0 0, .slice none 0 0] 61)).drew.heap.size ∧ (w1.alloc (.cells #[.int .i64 0, .slice none 0 0, .slice none 0 0] 61)).drew.heap.size ≤ ut1.heap.size from ⟨HBB.out.size, hb.size⟩); have D1 := hidL (show w1.heap.size < (w1.alloc (.cells #[.int .i64 0, .slice none 0 0, .slice none 0 0] 61)).drew.heap.size ∨ ut1.heap.size ≤ w1.heap.size from .inl (by simp)); have Z1x1 := hidL (ZA0.out.keep hb); clear hb; clear HBB))
          | (go_at_call 100; first
            | (have hz := Z1x1.out; have HBB : Hid (Below w1.heap.size w1 ut1) := B1.out; (with_reducible refine (CB.out ut1 (K1.out.1.trans (HBB.out.mono K1.out.1.size))).mono ?_); rintro e0 ut2 ⟨⟨vb, vm, vd, rfl, ca⟩, hb⟩; have B2 : Hid (Below w1.heap.size w1 ut2) := HBB.out.trans (hb.mono HBB.out.size); have C2 : Hid (At ut1.heap.size ut2.heap.size (BLn vb vm vd (bodyL hd bl)) ut2) := ca; clear ca; have M2 := hidL (show w1.heap.size ≤ ut1.heap.size ∧ ut1.heap.size ≤ ut2.heap.size from ⟨HBB.out.size, hb.size⟩); have O2 := hidL (C1.out.le); have D2 := hidL (show w1.heap.size < ut1.heap.size ∨ ut2.heap.size ≤ w1.heap.size from .inl (Nat.lt_of_lt_of_le (Nat.lt_succ_self _) hz.le)); have C1x2 := hidL (C1.out.keep hb); have Z1x2 := hidL (hz.keep hb); have hXw : w1.heap.size ≤ w1.heap.size := Nat.le_refl _; have y0 : At w1.heap.size (w1.heap.size + 1) (Bx w1.heap.size [.int .i64 s, .slice none 0 0, .slice none 0 0]) _ := Bx.put Z1x2.out 0 (.int .i64 s) (by simp); have y1 : At w1.heap.size (w1.heap.size + 1) (Bx w1.heap.size [.int .i64 s, .slice va vn vc, .slice none 0 0]) _ := Bx.put y0 1 (.slice va vn vc) (by simp); have y2 : At w1.heap.size (w1.heap.size + 1) (Bx w1.heap.size [.int .i64 s, .slice va vn vc, .slice vb vm vd]) _ := Bx.put y1 2 (.slice vb vm vd) (by simp); have BD : Hid (Below w1.heap.size w1 (((ut2.setCell ⟨w1.heap.size, 0, none⟩ (.int .i64 s)).setCell ⟨w1.heap.size, 1, none⟩ (.slice va vn vc)).setCell ⟨w1.heap.size, 2, none⟩ (.slice vb vm vd))) := (((B2.out.setCell hXw _).setCell hXw _).setCell hXw _); have FIN := hidL (show Below w1.heap.size w1 (((ut2.setCell ⟨w1.heap.size, 0, none⟩ (.int .i64 s)).setCell ⟨w1.heap.size, 1, none⟩ (.slice va vn vc)).setCell ⟨w1.heap.size, 2, none⟩ (.slice vb vm vd)) ∧ At w1.heap.size (w1.heap.size + 1) (Bx w1.heap.size [.int .i64 s, .slice va vn vc, .slice vb vm vd]) (((ut2.setCell ⟨w1.heap.size, 0, none⟩ (.int .i64 s)).setCell ⟨w1.heap.size, 1, none⟩ (.slice va vn vc)).setCell ⟨w1.heap.size, 2, none⟩ (.slice vb vm vd)) ∧ w1.heap.size ≤ w1.heap.size ∧ At (w1.alloc (.cells #[.int .i64 0, .slice none 0 0, .slice none 0 0] 61)).drew.heap.size ut1.heap.size (HLn va vn vc l) (((ut2.setCell ⟨w1.heap.size, 0, none⟩ (.int .i64 s)).setCell ⟨w1.heap.size, 1, none⟩ (.slice va vn vc)).setCell ⟨w1.heap.size, 2, none⟩ (.slice vb vm vd)) ∧ (w1.heap.size < (w1.alloc (.cells #[.int .i64 0, .slice none 0 0, .slice none 0 0] 61)).drew.heap.size ∨ ut1.heap.size ≤ w1.heap.size) ∧ w1.heap.size ≤ (w1.alloc (.cells #[.int .i64 0, .slice none 0 0, .slice none 0 0] 61)).drew.heap.size ∧ (w1.alloc (.cells #[.int .i64 0, .slice none 0 0, .slice none 0 0] 61)).drew.heap.size ≤ ut1.heap.size ∧ At ut1.heap.size ut2.heap.size (BLn vb vm vd (bodyL hd bl)) (((ut2.setCell ⟨w1.heap.size, 0, none⟩ (.int .i64 s)).setCell ⟨w1.heap.size, 1, none⟩ (.slice va vn vc)).setCell ⟨w1.heap.size, 2, none⟩ (.slice vb vm vd)) ∧ (w1.heap.size < ut1.heap.size ∨ ut2.heap.size ≤ w1.heap.size) ∧ w1.heap.size ≤ ut1.heap.size ∧ ut1.heap.size ≤ ut2.heap.size ∧ ut1.heap.size ≤ ut1.heap.size from ⟨BD.out, y2, hXw, (((C1x2.out.set (.int .i64 s) D1.out).set (.slice va vn vc) D1.out).set (.slice vb vm vd) D1.out), D1.out, M1.out.1, M1.out.2, (((C2.out.set (.int .i64 s) D2.out).set (.slice va vn vc) D2.out).set (.slice vb vm vd) D2.out), D2.out, M2.out.1, M2.out.2, O2.out⟩); have z0 := Z1x2.out.val.1 0 _ rfl; have zf0 := Z1x2.out.val.2 0; have z1 := Z1x2.out.val.1 1 _ rfl; have zf1 := Z1x2.out.val.2 1; have z2 := Z1x2.out.val.1 2 _ rfl; have zf2 := Z1x2.out.val.2 2; clear hb hXw y0 y1 y2; clear HBB)
            | (have HBB : Hid (Below w1.heap.size w1 ut1) := B1.out; (with_reducible refine (CB.out ut1 (K1.out.1.trans (HBB.out.mono K1.out.1.size))).mono ?_); rintro e0 ut2 ⟨⟨vb, vm, vd, rfl, ca⟩, hb⟩; have B2 : Hid (Below w1.heap.size w1 ut2) := HBB.out.trans (hb.mono HBB.out.size); have C2 : Hid (At ut1.heap.size ut2.heap.size (BLn vb vm vd (bodyL hd bl)) ut2) := ca; clear ca; have M2 := hidL (show w1.heap.size ≤ ut1.heap.size ∧ ut1.heap.size ≤ ut2.heap.size from ⟨HBB.out.size, hb.size⟩); have O2 := hidL (C1.out.le); have C1x2 := hidL (C1.out.keep hb); have BD : Hid (Below w1.heap.size w1 (ut2.alloc (.cells #[.int .i64 s, .slice va vn vc, .slice vb vm vd] 61))) := B2.out.alloc B2.out.size _; have hXw : w1.heap.size ≤ ut2.heap.size := B2.out.size; have FIN := hidL (show Below w1.heap.size w1 (ut2.alloc (.cells #[.int .i64 s, .slice va vn vc, .slice vb vm vd] 61)) ∧ At ut2.heap.size (ut2.heap.size + 1) (Bx ut2.heap.size [.int .i64 s, .slice va vn vc, .slice vb vm vd]) (ut2.alloc (.cells #[.int .i64 s, .slice va vn vc, .slice vb vm vd] 61)) ∧ w1.heap.size ≤ ut2.heap.size ∧ At w1.drew.heap.size ut1.heap.size (HLn va vn vc l) (ut2.alloc (.cells #[.int .i64 s, .slice va vn vc, .slice vb vm vd] 61)) ∧ (ut2.heap.size < w1.drew.heap.size ∨ ut1.heap.size ≤ ut2.heap.size) ∧ w1.heap.size ≤ w1.drew.heap.size ∧ w1.drew.heap.size ≤ ut1.heap.size ∧ At ut1.heap.size ut2.heap.size (BLn vb vm vd (bodyL hd bl)) (ut2.alloc (.cells #[.int .i64 s, .slice va vn vc, .slice vb vm vd] 61)) ∧ (ut2.heap.size < ut1.heap.size ∨ ut2.heap.size ≤ ut2.heap.size) ∧ w1.heap.size ≤ ut1.heap.size ∧ ut1.heap.size ≤ ut2.heap.size ∧ ut1.heap.size ≤ ut1.heap.size from ⟨BD.out, (Bx.newAt rfl [.int .i64 s, .slice va vn vc, .slice vb vm vd] _), hXw, (C1x2.out.al _), (.inr C1x2.out.le), M1.out.1, M1.out.2, (C2.out.al _), (.inr C2.out.le), M2.out.1, M2.out.2, O2.out⟩); clear hb hXw; clear HBB)
            | (have HBB : Hid (Below w1.heap.size w1 (ut1.alloc (.cells #[.int .i64 0, .slice none 0 0, .slice none 0 0] 61))) := (B1.out.alloc B1.out.size _); (with_reducible refine (CB.out (ut1.alloc (.cells #[.int .i64 0, .slice none 0 0, .slice none 0 0] 61)) (K1.out.1.trans (HBB.out.mono K1.out.1.size))).mono ?_); rintro e0 ut2 ⟨⟨vb, vm, vd, rfl, ca⟩, hb⟩; have B2 : Hid (Below w1.heap.size w1 ut2) := HBB.out.trans (hb.mono HBB.out.size); have C2 : Hid (At (ut1.alloc (.cells #[.int .i64 0, .slice none 0 0, .slice none 0 0] 61)).heap.size ut2.heap.size (BLn vb vm vd (bodyL hd bl)) ut2) := ca; clear ca; have M2 := hidL (show w1.heap.size ≤ (ut1.alloc (.cells #[.int .i64 0, .slice none 0 0, .slice none 0 0] 61)).heap.size ∧ (ut1.alloc (.cells #[.int .i64 0, .slice none 0 0, .slice none 0 0] 61)).heap.size ≤ ut2.heap.size from ⟨HBB.out.size, hb.size⟩); have O2 := hidL ((C1.out.al (.cells #[.int .i64 0, .slice none 0 0, .slice none 0 0] 61)).le); have D2 := hidL (show ut1.heap.size < (ut1.alloc (.cells #[.int .i64 0, .slice none 0 0, .slice none 0 0] 61)).heap.size ∨ ut2.heap.size ≤ ut1.heap.size from .inl (by simp)); have C1x2 := hidL ((C1.out.al (.cells #[.int .i64 0, .slice none 0 0, .slice none 0 0] 61)).keep hb); have D1 := hidL (C1.out.le); have Z2x2 := hidL ((Bx.newAt (X := ut1) rfl [.int .i64 0, .slice none 0 0, .slice none 0 0] 61).keep hb); have hXw : w1.heap.size ≤ ut1.heap.size := B1.out.size; have y0 : At ut1.heap.size (ut1.heap.size + 1) (Bx ut1.heap.size [.int .i64 s, .slice none 0 0, .slice none 0 0]) _ := Bx.put Z2x2.out 0 (.int .i64 s) (by simp); have y1 : At ut1.heap.size (ut1.heap.size + 1) (Bx ut1.heap.size [.int .i64 s, .slice va vn vc, .slice none 0 0]) _ := Bx.put y0 1 (.slice va vn vc) (by simp); have y2 : At ut1.heap.size (ut1.heap.size + 1) (Bx ut1.heap.size [.int .i64 s, .slice va vn vc, .slice vb vm vd]) _ := Bx.put y1 2 (.slice vb vm vd) (by simp); have BD : Hid (Below w1.heap.size w1 (((ut2.setCell ⟨ut1.heap.size, 0, none⟩ (.int .i64 s)).setCell ⟨ut1.heap.size, 1, none⟩ (.slice va vn vc)).setCell ⟨ut1.heap.size, 2, none⟩ (.slice vb vm vd))) := (((B2.out.setCell hXw _).setCell hXw _).setCell hXw _); have FIN := hidL (show Below w1.heap.size w1 (((ut2.setCell ⟨ut1.heap.size, 0, none⟩ (.int .i64 s)).setCell ⟨ut1.heap.size, 1, none⟩ (.slice va vn vc)).setCell ⟨ut1.heap.size, 2, none⟩ (.slice vb vm vd)) ∧ At ut1.heap.size (ut1.heap.size + 1) (Bx ut1.heap.size [.int .i64 s, .slice va vn vc, .slice vb vm vd]) (((ut2.setCell ⟨ut1.heap.size, 0, none⟩ (.int .i64 s)).setCell ⟨ut1.heap.size, 1, none⟩ (.slice va vn vc)).setCell ⟨ut1.heap.size, 2, none⟩ (.slice vb vm vd)) ∧ w1.heap.size ≤ ut1.heap.size ∧ At w1.drew.heap.size ut1.heap.size (HLn va vn vc l) (((ut2.setCell ⟨ut1.heap.size, 0, none⟩ (.int .i64 s)).setCell ⟨ut1.heap.size, 1, none⟩ (.slice va vn vc)).setCell ⟨ut1.heap.size, 2, none⟩ (.slice vb vm vd)) ∧ (ut1.heap.size < w1.drew.heap.size ∨ ut1.heap.size ≤ ut1.heap.size) ∧ w1.heap.size ≤ w1.drew.heap.size ∧ w1.drew.heap.size ≤ ut1.heap.size ∧ At (ut1.alloc (.cells #[.int .i64 0, .slice none 0 0, .slice none 0 0] 61)).heap.size ut2.heap.size (BLn vb vm vd (bodyL hd bl)) (((ut2.setCell ⟨ut1.heap.size, 0, none⟩ (.int .i64 s)).setCell ⟨ut1.heap.size, 1, none⟩ (.slice va vn vc)).setCell ⟨ut1.heap.size, 2, none⟩ (.slice vb vm vd)) ∧ (ut1.heap.size < (ut1.alloc (.cells #[.int .i64 0, .slice none 0 0, .slice none 0 0] 61)).heap.size ∨ ut2.heap.size ≤ ut1.heap.size) ∧ w1.heap.size ≤ (ut1.alloc (.cells #[.int .i64 0, .slice none 0 0, .slice none 0 0] 61)).heap.size ∧ (ut1.alloc (.cells #[.int .i64 0, .slice none 0 0, .slice none 0 0] 61)).heap.size ≤ ut2.heap.size ∧ ut1.heap.size ≤ (ut1.alloc (.cells #[.int .i64 0, .slice none 0 0, .slice none 0 0] 61)).heap.size from ⟨BD.out, y2, hXw, (((C1x2.out.set (.int .i64 s) (.inr D1.out)).set (.slice va vn vc) (.inr D1.out)).set (.slice vb vm vd) (.inr D1.out)), (.inr D1.out), M1.out.1, M1.out.2, (((C2.out.set (.int .i64 s) D2.out).set (.slice va vn vc) D2.out).set (.slice vb vm vd) D2.out), D2.out, M2.out.1, M2.out.2, O2.out⟩); have z0 := Z2x2.out.val.1 0 _ rfl; have zf0 := Z2x2.out.val.2 0; have z1 := Z2x2.out.val.1 1 _ rfl; have zf1 := Z2x2.out.val.2 1; have z2 := Z2x2.out.val.1 2 _ rfl; have zf2 := Z2x2.out.val.2 2; clear hb hXw y0 y1 y2; clear HBB)))
      all_goals (go_wp2_with fail; go_meet; exact ⟨_, _, _, _, _, va, vn, vc, vb, vm, vd, rfl, FIN.out⟩)
    case rest =>
    obtain ⟨Xt, lt1, ht1, lt2, ht2, va, vn, vc, vb, vm, vd, rfl, r0, r1, r2, r3, r4, r5, r6, r7, r8, r9, r10, r11⟩ := hcut
    have K2 : Hid (Below w.heap.size w wc ∧ At w.heap.size (w.heap.size + 1) (Bx w.heap.size [.int .i64 s, .slice a n cap, .slice b bn bc]) wc ∧ At (w.heap.size + 1) (w.heap.size + 1 + 1) (Bx (w.heap.size + 1) [.int .i64 0, .int .i64 0, .slice none 0 0, .slice none 0 0]) wc ∧ At Xt (Xt + 1) (Bx Xt [.int .i64 s, .slice va vn vc, .slice vb vm vd]) wc ∧ At lt1 ht1 (HLn va vn vc l) wc ∧ At lt2 ht2 (BLn vb vm vd (bodyL hd bl)) wc) := ⟨K1.out.1.trans (r0.mono K1.out.1.size), K1.out.2.1.keep r0, K1.out.2.2.keep r0, r1, r3, r7⟩
    have O2 : Hid ((Xt < lt1 ∨ ht1 ≤ Xt) ∧ (Xt < lt2 ∨ ht2 ≤ Xt) ∧ ht1 ≤ lt2 ∧ lt1 ≤ ht1 ∧ lt2 ≤ ht2 ∧ w.heap.size + 1 + 1 ≤ lt1 ∧ w.heap.size + 1 + 1 ≤ Xt) := ⟨r4, r8, r11, r6, r10, Nat.le_trans K1.out.2.2.le r5, Nat.le_trans K1.out.2.2.le r2⟩
    clear r0 r1 r2 r3 r4 r5 r6 r7 r8 r9 r10 r11 K1 CL CB
    generalize wc = w2 at *
    have q1 := K2.out.2.1.val.1 1 _ rfl
    go_wp2_with fail
    refine (CS.out w2 K2.out.1).mono ?_
    rintro e w3 ⟨⟨sc, sa, sn, sk, rfl, hs⟩, hb3⟩
    clear q1
    obtain ⟨V, hV⟩ : ∃ V, V = w3.alloc (.cells #[.int .i64 sc, .slice sa sn sk] 157) := ⟨_, rfl⟩
    have HV : Hid (V = w3.alloc (.cells #[.int .i64 sc, .slice sa sn sk] 157)) := hV
    have aV : Below w3.heap.size w3 V := by rw [hV]; exact (Below.refl _ _).alloc (Nat.le_refl _) _
    have b23 := hb3.trans (aV.mono hb3.size)
    have K3 : Hid (Below w.heap.size w V ∧ At (w.heap.size + 1) (w.heap.size + 1 + 1) (Bx (w.heap.size + 1) [.int .i64 0, .int .i64 0, .slice none 0 0, .slice none 0 0]) V ∧ At Xt (Xt + 1) (Bx Xt [.int .i64 s, .slice va vn vc, .slice vb vm vd]) V ∧ At lt1 ht1 (HLn va vn vc l) V ∧ At lt2 ht2 (BLn vb vm vd (bodyL hd bl)) V ∧ At w3.heap.size (w3.heap.size + 1) (Bx w3.heap.size [.int .i64 sc, .slice sa sn sk]) V) := ⟨K2.out.1.trans (b23.mono K2.out.1.size), K2.out.2.2.1.keep b23, K2.out.2.2.2.1.keep b23, K2.out.2.2.2.2.1.keep b23, K2.out.2.2.2.2.2.keep b23, by rw [hV]; exact Bx.new _ _ _⟩
    have O3 : Hid (Xt + 1 ≤ w2.heap.size ∧ ht2 ≤ w2.heap.size ∧ w2.heap.size ≤ w3.heap.size) := ⟨K2.out.2.2.2.1.le, K2.out.2.2.2.2.2.le, hb3.size⟩
    have HS3 : Hid (sc = 0 ∧ At w2.heap.size w3.heap.size (HLn sa sn sk (relayL l)) V ∨ sc = 2 ∧ relayL l = l) := by
      rcases hs with ⟨e0, h⟩ | h
      · exact .inl ⟨e0, h.keep aV⟩
      · exact .inr h
    clear hs hb3 hV aV b23 K2 CS
    rcases HS3.out with ⟨rfl, hs⟩ | ⟨rfl, hr⟩
    · have HSL : Hid (At w2.heap.size w3.heap.size (HLn sa sn sk (relayL l)) V) := hs
      clear hs
      clear HS3
      have g0 : V.cell? ⟨w3.heap.size, 0, none⟩ = some (.int .i64 0) := K3.out.2.2.2.2.2.val.1 0 _ rfl
      have g1 : V.cell? ⟨w3.heap.size, 1, none⟩ = some (.slice sa sn sk) := K3.out.2.2.2.2.2.val.1 1 _ rfl
      have t0 := K3.out.2.2.1.val.1 0 _ rfl
      have t1 := K3.out.2.2.1.val.1 1 _ rfl
      have t2 := K3.out.2.2.1.val.1 2 _ rfl
      have tf := K3.out.2.2.1.val.2 1
      have z0 := K3.out.2.1.val.1 0 _ rfl
      have z1 := K3.out.2.1.val.1 1 _ rfl
      have z2 := K3.out.2.1.val.1 2 _ rfl
      have z3 := K3.out.2.1.val.1 3 _ rfl
      have zf0 := K3.out.2.1.val.2 0
      have zf1 := K3.out.2.1.val.2 1
      have zf2 := K3.out.2.1.val.2 2
      have zf3 := K3.out.2.1.val.2 3
      have HF : Hid (At w.heap.size (((((V.setCell ⟨Xt, 1, none⟩ (.slice sa sn sk)).setCell ⟨w.heap.size + 1, 0, none⟩ (.int .i64 0)).setCell ⟨w.heap.size + 1, 1, none⟩ (.int .i64 s)).setCell ⟨w.heap.size + 1, 2, none⟩ (.slice sa sn sk)).setCell ⟨w.heap.size + 1, 3, none⟩ (.slice vb vm vd)).heap.size (RR (relayL l) (bodyL hd bl) sa sn sk vb vm vd) (((((V.setCell ⟨Xt, 1, none⟩ (.slice sa sn sk)).setCell ⟨w.heap.size + 1, 0, none⟩ (.int .i64 0)).setCell ⟨w.heap.size + 1, 1, none⟩ (.int .i64 s)).setCell ⟨w.heap.size + 1, 2, none⟩ (.slice sa sn sk)).setCell ⟨w.heap.size + 1, 3, none⟩ (.slice vb vm vd)) ∧ Below w.heap.size w (((((V.setCell ⟨Xt, 1, none⟩ (.slice sa sn sk)).setCell ⟨w.heap.size + 1, 0, none⟩ (.int .i64 0)).setCell ⟨w.heap.size + 1, 1, none⟩ (.int .i64 s)).setCell ⟨w.heap.size + 1, 2, none⟩ (.slice sa sn sk)).setCell ⟨w.heap.size + 1, 3, none⟩ (.slice vb vm vd))) := by
        have o2 := O2.out
        have o3 := O3.out
        have bb := K3.out.1
        have c1 : At w2.heap.size w3.heap.size (HLn sa sn sk (relayL l)) (((((V.setCell ⟨Xt, 1, none⟩ (.slice sa sn sk)).setCell ⟨w.heap.size + 1, 0, none⟩ (.int .i64 0)).setCell ⟨w.heap.size + 1, 1, none⟩ (.int .i64 s)).setCell ⟨w.heap.size + 1, 2, none⟩ (.slice sa sn sk)).setCell ⟨w.heap.size + 1, 3, none⟩ (.slice vb vm vd)) := (((((HSL.out.set (.slice sa sn sk) (by have := O2.out; have := O3.out; omega)).set _ (.inl (by have := O2.out; have := O3.out; omega))).set _ (.inl (by have := O2.out; have := O3.out; omega))).set _ (.inl (by have := O2.out; have := O3.out; omega))).set _ (.inl (by have := O2.out; have := O3.out; omega)))
        have c2 : At lt2 ht2 (BLn vb vm vd (bodyL hd bl)) (((((V.setCell ⟨Xt, 1, none⟩ (.slice sa sn sk)).setCell ⟨w.heap.size + 1, 0, none⟩ (.int .i64 0)).setCell ⟨w.heap.size + 1, 1, none⟩ (.int .i64 s)).setCell ⟨w.heap.size + 1, 2, none⟩ (.slice sa sn sk)).setCell ⟨w.heap.size + 1, 3, none⟩ (.slice vb vm vd)) := (((((K3.out.2.2.2.2.1.set (.slice sa sn sk) (by have := O2.out; have := O3.out; omega)).set _ (.inl (by have := O2.out; have := O3.out; omega))).set _ (.inl (by have := O2.out; have := O3.out; omega))).set _ (.inl (by have := O2.out; have := O3.out; omega))).set _ (.inl (by have := O2.out; have := O3.out; omega)))
        have e1 := c1.le
        have e2 := c2.le
        have bb2 : Below w.heap.size w (((((V.setCell ⟨Xt, 1, none⟩ (.slice sa sn sk)).setCell ⟨w.heap.size + 1, 0, none⟩ (.int .i64 0)).setCell ⟨w.heap.size + 1, 1, none⟩ (.int .i64 s)).setCell ⟨w.heap.size + 1, 2, none⟩ (.slice sa sn sk)).setCell ⟨w.heap.size + 1, 3, none⟩ (.slice vb vm vd)) := ((((bb.setCell (by show _ ≤ Xt; omega) _).setCell (by simp) _).setCell (by simp) _).setCell (by simp) _).setCell (by simp) _
        exact ⟨⟨Nat.le_refl _, RR.dep _ _ _ _ _ _ _ _ _ _, c1.val.1, c2.val.1, c1.val.2.wide (by omega) e1, c2.val.2.wide (by omega) e2, Ap.of c1.val.2.2 c2.val.2.2 (.inr (by omega))⟩, bb2⟩
      have hne1 : (⟨Xt, 1, none⟩ : Addr) ≠ ⟨w.heap.size + 1, 0, none⟩ := fun q => (by have := congrArg Addr.block q; have := O2.out; simp only at *; omega)
      go_upto_region 7 with fail
      rw [← HV.out]
      clear HV
      obtain ⟨Y, hY⟩ : ∃ Y, Y = V.setCell ⟨Xt, 1, none⟩ (.slice sa sn sk) := ⟨_, rfl⟩
      have HY : Hid (Y = V.setCell ⟨Xt, 1, none⟩ (.slice sa sn sk)) := hY
      have kt : At Xt (Xt + 1) (Bx Xt [.int .i64 s, .slice sa sn sk, .slice vb vm vd]) Y := by rw [hY]; exact Bx.put K3.out.2.2.1 1 (.slice sa sn sk) (by simp)
      have kz : At (w.heap.size + 1) (w.heap.size + 1 + 1) (Bx (w.heap.size + 1) [.int .i64 0, .int .i64 0, .slice none 0 0, .slice none 0 0]) Y := by rw [hY]; exact K3.out.2.1.set _ (.inr (by have := O2.out; omega))
      rw [← HY.out] at HF
      clear z0 z1 z2 z3 zf0 zf1 zf2 zf3 hne1 t0 t2
      go_upto_region 8 with fail
      rw [← HY.out]
      clear t1 tf g0 g1 HY hY
      have z0 := kz.val.1 0 _ rfl
      have z1 := kz.val.1 1 _ rfl
      have z2 := kz.val.1 2 _ rfl
      have z3 := kz.val.1 3 _ rfl
      have zf0 := kz.val.2 0
      have zf1 := kz.val.2 1
      have zf2 := kz.val.2 2
      have zf3 := kz.val.2 3
      have t0 := kt.val.1 0 _ rfl
      have t1 := kt.val.1 1 _ rfl
      have t2 := kt.val.1 2 _ rfl
      clear kz kt
      clear K3 O2 O3
      go_wp2_with fail
      exact bodyPost_ret (v := .agg #[.int .i64 0, .int .i64 s, .slice sa sn sk, .slice vb vm vd]) (by simp [results, Tryz.results45, go_sem, z0, z1, z2, z3]) rfl ⟨HGOOD.out _ _ _ _ _ _ _ HF.out.1, HF.out.2⟩
    · have HRL : Hid (relayL l = l) := hr
      clear hr
      clear HS3
      have g0 : V.cell? ⟨w3.heap.size, 0, none⟩ = some (.int .i64 2) := K3.out.2.2.2.2.2.val.1 0 _ rfl
      have g1 : V.cell? ⟨w3.heap.size, 1, none⟩ = some (.slice sa sn sk) := K3.out.2.2.2.2.2.val.1 1 _ rfl
      have t0 := K3.out.2.2.1.val.1 0 _ rfl
      have t1 := K3.out.2.2.1.val.1 1 _ rfl
      have t2 := K3.out.2.2.1.val.1 2 _ rfl
      have tf := K3.out.2.2.1.val.2 1
      have z0 := K3.out.2.1.val.1 0 _ rfl
      have z1 := K3.out.2.1.val.1 1 _ rfl
      have z2 := K3.out.2.1.val.1 2 _ rfl
      have z3 := K3.out.2.1.val.1 3 _ rfl
      have zf0 := K3.out.2.1.val.2 0
      have zf1 := K3.out.2.1.val.2 1
      have zf2 := K3.out.2.1.val.2 2
      have zf3 := K3.out.2.1.val.2 3
      have HF : Hid (At w.heap.size ((((V.setCell ⟨w.heap.size + 1, 0, none⟩ (.int .i64 0)).setCell ⟨w.heap.size + 1, 1, none⟩ (.int .i64 s)).setCell ⟨w.heap.size + 1, 2, none⟩ (.slice va vn vc)).setCell ⟨w.heap.size + 1, 3, none⟩ (.slice vb vm vd)).heap.size (RR (relayL l) (bodyL hd bl) va vn vc vb vm vd) ((((V.setCell ⟨w.heap.size + 1, 0, none⟩ (.int .i64 0)).setCell ⟨w.heap.size + 1, 1, none⟩ (.int .i64 s)).setCell ⟨w.heap.size + 1, 2, none⟩ (.slice va vn vc)).setCell ⟨w.heap.size + 1, 3, none⟩ (.slice vb vm vd)) ∧ Below w.heap.size w ((((V.setCell ⟨w.heap.size + 1, 0, none⟩ (.int .i64 0)).setCell ⟨w.heap.size + 1, 1, none⟩ (.int .i64 s)).setCell ⟨w.heap.size + 1, 2, none⟩ (.slice va vn vc)).setCell ⟨w.heap.size + 1, 3, none⟩ (.slice vb vm vd))) := by
        have o2 := O2.out
        have o3 := O3.out
        have bb := K3.out.1
        have c1 : At lt1 ht1 (HLn va vn vc l) ((((V.setCell ⟨w.heap.size + 1, 0, none⟩ (.int .i64 0)).setCell ⟨w.heap.size + 1, 1, none⟩ (.int .i64 s)).setCell ⟨w.heap.size + 1, 2, none⟩ (.slice va vn vc)).setCell ⟨w.heap.size + 1, 3, none⟩ (.slice vb vm vd)) := ((((K3.out.2.2.2.1.set _ (.inl (by have := O2.out; have := O3.out; omega))).set _ (.inl (by have := O2.out; have := O3.out; omega))).set _ (.inl (by have := O2.out; have := O3.out; omega))).set _ (.inl (by have := O2.out; have := O3.out; omega)))
        have c2 : At lt2 ht2 (BLn vb vm vd (bodyL hd bl)) ((((V.setCell ⟨w.heap.size + 1, 0, none⟩ (.int .i64 0)).setCell ⟨w.heap.size + 1, 1, none⟩ (.int .i64 s)).setCell ⟨w.heap.size + 1, 2, none⟩ (.slice va vn vc)).setCell ⟨w.heap.size + 1, 3, none⟩ (.slice vb vm vd)) := ((((K3.out.2.2.2.2.1.set _ (.inl (by have := O2.out; have := O3.out; omega))).set _ (.inl (by have := O2.out; have := O3.out; omega))).set _ (.inl (by have := O2.out; have := O3.out; omega))).set _ (.inl (by have := O2.out; have := O3.out; omega)))
        have e1 := c1.le
        have e2 := c2.le
        have bb2 : Below w.heap.size w ((((V.setCell ⟨w.heap.size + 1, 0, none⟩ (.int .i64 0)).setCell ⟨w.heap.size + 1, 1, none⟩ (.int .i64 s)).setCell ⟨w.heap.size + 1, 2, none⟩ (.slice va vn vc)).setCell ⟨w.heap.size + 1, 3, none⟩ (.slice vb vm vd)) := (((bb.setCell (by simp) _).setCell (by simp) _).setCell (by simp) _).setCell (by simp) _
        exact ⟨⟨Nat.le_refl _, RR.dep _ _ _ _ _ _ _ _ _ _, by rw [HRL.out]; exact c1.val.1, c2.val.1, by rw [HRL.out]; exact c1.val.2.wide (by omega) e1, c2.val.2.wide (by omega) e2, Ap.of c1.val.2.2 c2.val.2.2 (.inl (by omega))⟩, bb2⟩
      go_upto_region 8 with fail
      rw [← HV.out]
      clear HV
      clear K3 O2 O3
      go_wp2_with fail
      exact bodyPost_ret (v := .agg #[.int .i64 0, .int .i64 s, .slice va vn vc, .slice vb vm vd]) (by simp [results, Tryz.results45, go_sem, z0, z1, z2, z3]) rfl ⟨HGOOD.out _ _ _ _ _ _ _ HF.out.1, HF.out.2⟩
  · have HB : Hid (∀ w', RelayRes s l hd bl w w' (.returned (.agg #[.int .i64 (respC s l bl.length), .int .i64 0, .slice none 0 0, .slice none 0 0]))) := fun w' => RelayRes.bad rfl hc
    clear HP hl hbl CL CB CS
    generalize respC s l bl.length = c at *
    generalize l.length = n at *
    generalize bl.length = bn at *
    go_enter Tryz.func45, Tryz.ntmps45
    go_wp2_with fail
    rw [← HW.out]
    refine (CF.out W KW.out.1).mono ?_
    rintro e w1 ⟨rfl, hb1⟩
    have K1 : Hid (Below w.heap.size w w1 ∧ At (w.heap.size + 1) (w.heap.size + 1 + 1) (Bx (w.heap.size + 1) [.int .i64 0, .int .i64 0, .slice none 0 0, .slice none 0 0]) w1) := ⟨KW.out.1.trans (hb1.mono KW.out.1.size), KW.out.2.2.keep hb1⟩
    clear hb1 KW HW CF
    have z0 := K1.out.2.val.1 0 _ rfl
    have z1 := K1.out.2.val.1 1 _ rfl
    have z2 := K1.out.2.val.1 2 _ rfl
    have z3 := K1.out.2.val.1 3 _ rfl
    have zf0 := K1.out.2.val.2 0
    have zf1 := K1.out.2.val.2 1
    have zf2 := K1.out.2.val.2 2
    have zf3 := K1.out.2.val.2 3
    go_wp2_with fail
    have bb := K1.out.1
    exact bodyPost_ret (v := .agg #[.int .i64 c, .int .i64 0, .slice none 0 0, .slice none 0 0]) (by simp [results, Tryz.results45, go_sem, z0, z1, z2, z3]) rfl ⟨HB.out _, (((bb.setCell (by simp) _).setCell (by simp) _).setCell (by simp) _).setCell (by simp) _⟩
end Go.Proofs.YtolkgnnjocmkdaaGreatDoor
