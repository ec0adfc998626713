/-
  slices.Insert of one head line: its roads.
-/
import Derived.Test.YthlenlijdlfdeaaDoorHInsert
namespace Go.Proofs.YthlenlijdlfdeaaDoor
open Go.ChangeShapes Go.WideShapes Go.ChangeAt Go.RowKit Go.Sort
theorem wpList_append_line {ops : Array Oper} {rest : List Oper} {o : Oper} {a : Act} {Q : Exit → Act → World → Prop} (w : World) (hgd : o.guard = none) (s x : Operand)
    (ho : o.op = .call { callee := .builtin .append, args := #[s, x], argTypes := #[24, 24] }) (base : Nat) (v : Value) (l : List Hdr) (n z : ByteArray) (vb : Nat)
    (hs : a.eval s = v) (hx : a.eval x = .slice (some ⟨vb, 0, none⟩) 1 1) (hown : OwnH w base v l) (c0 : w.cell? ⟨vb, 0, none⟩ = some (.string n)) (c1 : w.cell? ⟨vb, 1, none⟩ = some (.string z)) (hl : l.length ≤ 1000000) (hbase : base ≤ w.heap.size)
    (h : ∀ v' w', OwnH w' base v' (l ++ [⟨n, z⟩]) → Below base w w' → wpList Tryd.prog ops Q rest (a.put o.dst v') w') :
    wpList Tryd.prog ops Q (o :: rest) a w := by
  obtain ⟨i0, hi, hz0, hz1, hz2⟩ := info_parts infoHeader
  refine wpList_append_own _ hgd s x 24 ho base 56 i0 (.agg #[.string ⟨#[]⟩, .string ⟨#[]⟩]) 2 32 Tryd.underlying24 hi hz0 hz1 hz2 rfl (by decide) v l.length (hdrsW l) hs hown ⟨vb, 0, none⟩ 1 1 [.string n, .string z] hx rfl ?_ ?_ ?_ ?_ ?_ ?_
  · intro j u hj
    match j, hj with
    | 0, hj => simp at hj; subst hj; simpa [Addr.add] using c0
    | 1, hj => simp at hj; subst hj; simpa [Addr.add] using c1
  · intro u hu; simp at hu; rcases hu with rfl | rfl <;> rfl
  · unfold maxLen; omega
  · omega
  · exact hbase
  · intro v' w' h1 h2 h3
    have e : hdrsW (l ++ [⟨n, z⟩]) = hdrsW l ++ [.string n, .string z] := by simp [hdrsW, hdrW]
    exact h v' w' (by unfold OwnH; rw [e, List.length_append]; exact h1) ((Below.refl base w).grown h2 hbase (fun q hq => own_geH hown q hq))
set_option maxRecDepth 100000 in
set_option maxHeartbeats 4000000 in
theorem insert_end (w : World) (base : Nat) (a : Option Addr) (c : Nat) (l : List Hdr) (hn hv : ByteArray) (vb : Nat) (hown : OwnH w base (.slice a l.length c) l) (hbase : base ≤ w.heap.size) (hl : l.length ≤ 1000) (c0 : w.cell? ⟨vb, 0, none⟩ = some (.string hn)) (c1 : w.cell? ⟨vb, 1, none⟩ = some (.string hv)) :
    Calls Tryd.prog 44 #[.slice a l.length c, .int .i64 (l.length : Int), .slice (some ⟨vb, 0, none⟩) 1 1] w fun e w' => KeptRes base (l ++ [⟨hn, hv⟩]) e w' ∧ Below base w w' := by
  have HO : Hid (OwnH w base (.slice a l.length c) l) := hown
  have C0 : Hid (w.cell? ⟨vb, 0, none⟩ = some (.string hn)) := c0
  have C1 : Hid (w.cell? ⟨vb, 1, none⟩ = some (.string hv)) := c1
  have hshape : (a = none ∧ l.length = 0 ∧ c = 0) ∨ ∃ g, a = some ⟨g, 0, none⟩ ∧ l.length ≤ c := by
    obtain ⟨_, h1 | ⟨g, c', cur, e, _, _, hc, _⟩⟩ := hown
    · left
      obtain ⟨e1, e2⟩ := h1
      have := Value.slice.inj e1
      exact ⟨this.1, e2, this.2.2⟩
    · right
      have := Value.slice.inj e
      exact ⟨g, this.1, by omega⟩
  have hlen : Hid (l.length ≤ 1000000) := by show _ ≤ _; omega
  clear hown c0 c1
  rcases hshape with ⟨rfl, h0, rfl⟩ | ⟨g, rfl, hc⟩
  · rw [h0] at HO ⊢
    go_enter Tryd.func44, Tryd.ntmps44
    go_wp2_with (at_builtin; refine wpList_append_line _ rfl (.tmp 23) (.tmp 24) rfl base _ l hn hv vb rfl rfl HO.out C0.out C1.out hlen.out hbase ?_; intro v' w' ho' hb')
    go_ret
    exact ⟨KeptRes.mk rfl ho', hb'⟩
  · have HLN : Hid (OwnH w base (.slice (some ⟨g, 0, none⟩) l.length c) l) := HO.out
    clear HO
    generalize hn2 : l.length = n at *
    have HN : Hid (l.length ≤ 1000000) := by show _ ≤ _; omega
    clear hn2 hlen
    have g0 : (0 : Int) ≤ n := by omega
    have g1 : (n : Int) ≤ c := by omega
    go_enter Tryd.func44, Tryd.ntmps44
    go_wp2_with (at_builtin; refine wpList_append_line _ rfl (.tmp 23) (.tmp 24) rfl base _ l hn hv vb rfl rfl HLN.out C0.out C1.out HN.out hbase ?_; intro v' w' ho' hb')
    all_goals (go_ret; exact ⟨KeptRes.mk rfl ho', hb'⟩)
theorem hdr_mid (l : List Hdr) (i : Nat) (hn hv : ByteArray) : hdrsW (l.take i ++ [⟨hn, hv⟩] ++ l.drop i) = hdrsW (l.take i) ++ [.string hn, .string hv] ++ hdrsW (l.drop i) := by
  rw [hdrsW_app, hdrsW_app]; rfl
theorem ownH_row {w : World} {base g c : Nat} {R : Array Value} {T : List Value} {l : List Hdr} {i : Nat} {hn hv : ByteArray} (hi : i ≤ l.length) (hg : w.heap[g]? = some (.cells R 56 (0, 0))) (hbg : base ≤ g) (hc : l.length + 1 ≤ c) (hcm : c ≤ maxLen) (hs : R.size = c * 2)
    (hR : R.toList = hdrsW (l.take i) ++ [.string hn, .string hv] ++ hdrsW (l.drop i) ++ T) : OwnH w base (.slice (some ⟨g, 0, none⟩) (l.length + 1) c) (l.take i ++ [⟨hn, hv⟩] ++ l.drop i) := by
  have hl : (l.take i ++ [(⟨hn, hv⟩ : Hdr)] ++ l.drop i).length = l.length + 1 := by simp only [List.length_append, List.length_take, List.length_cons, List.length_nil, List.length_drop]; omega
  unfold OwnH
  rw [hl]
  refine ⟨by rw [hdrsW_len, hl], .inr ⟨g, c, R, rfl, hbg, hg, hc, hcm, hs, ?_⟩⟩
  rw [hR, ← hdr_mid, List.take_left' (by rw [hdrsW_len, hl])]
set_option maxRecDepth 100000 in
set_option maxHeartbeats 8000000 in
theorem insert_shift (w : World) (base g c i : Nat) (cur : Array Value) (l : List Hdr) (hn hv : ByteArray) (vb : Nat) (vt : TypeId)
    (hg : w.heap[g]? = some (.cells cur 56 (0, 0))) (hbg : base ≤ g) (hbase : base ≤ w.heap.size) (hcm : c ≤ maxLen) (hcs : cur.size = c * 2) (hx : cur.toList.take (l.length * 2) = hdrsW l) (hl : l.length ≤ 1000) (hi : i < l.length) (hroom : l.length + 1 ≤ c) (hvg : vb ≠ g)
    (hvb : w.heap[vb]? = some (.cells #[.string hn, .string hv] vt (0, 0))) :
    Calls Tryd.prog 44 #[.slice (some ⟨g, 0, none⟩) l.length c, .int .i64 (i : Int), .slice (some ⟨vb, 0, none⟩) 1 1] w fun e w' => KeptRes base (l.take i ++ [⟨hn, hv⟩] ++ l.drop i) e w' ∧ Below base w w' := by
  unfold maxLen at hcm
  have hov : ∀ lb cb, (callFunc 73 #[.slice (some ⟨vb, 0, none⟩) 1 1, .slice (some ⟨g, (i + 1) * 2, none⟩) lb cb]).run Tryd.prog w = .ok (.value (.bool false)) w := fun lb cb => by
    rw [run_callFunc_extern Tryd.func73 (by kernel_rfl) (by kernel_rfl) (by kernel_rfl) (e := Extern.SlicesOverlaps.overlaps #[24, 24] #[4]) (by kernel_rfl),
      Lib.run_overlaps_apart w 24 4 56 Tryd.underlying24 2 Tryd.sizeOf56 ⟨vb, 0, none⟩ ⟨g, (i + 1) * 2, none⟩ 1 1 lb cb hvg vt 56 2 (c * 2) (by simp [World.shape?, hvb]) (by simp [World.shape?, hg, hcs]) (by omega) (by simp [World.frozen?, hvb]) (by simp [World.frozen?, hvb])]
    rfl
  have hAl : (hdrsW (l.take i)).length = i * 2 := by rw [hdrsW_len, List.length_take]; omega
  have hBl : (hdrsW (l.drop i)).length = (l.length - i) * 2 := by rw [hdrsW_len, List.length_drop]
  have hcur : cur.toList = hdrsW (l.take i) ++ hdrsW (l.drop i) ++ cur.toList.drop (l.length * 2) := by
    have e : hdrsW (l.take i) ++ hdrsW (l.drop i) = hdrsW l := by rw [← hdrsW_app, List.take_append_drop]
    rw [e, ← hx, List.take_append_drop]
  have hTl : (cur.toList.drop (l.length * 2)).length = (c - l.length) * 2 := by rw [List.length_drop, Array.length_toList, hcs]; omega
  have hend := fun (W : World) (R : Array Value) (T : List Value) => @ownH_row W base g c R T l i hn hv (by omega)
  have h1B := hdrsW_one (l.drop i)
  generalize hdrsW (l.take i) = A at *
  generalize hdrsW (l.drop i) = B at *
  generalize cur.toList.drop (l.length * 2) = T at *
  obtain ⟨R1, hR1⟩ : ∃ R1 : List Value, R1 = cur.toList.take (i * 2 + 2) ++ B ++ cur.toList.drop (i * 2 + 2 + B.length) := ⟨_, rfl⟩
  obtain ⟨R2, hR2⟩ : ∃ R2 : List Value, R2 = R1.take (i * 2) ++ [.string hn, .string hv] ++ R1.drop (i * 2 + 2) := ⟨_, rfl⟩
  have hR2e : R2 = A ++ [.string hn, .string hv] ++ B ++ T.drop 2 := by
    rw [hR2, hR1, hcur]
    exact rows_shift A B T _ _ (i * 2) hAl (by omega)
  have hcl : cur.toList.length = c * 2 := by rw [Array.length_toList, hcs]
  have hR1l : R1.length = c * 2 := by
    rw [hR1]
    simp only [List.length_append, List.length_take, List.length_drop, hcl, hBl]
    omega
  have hR2l : R2.length = c * 2 := by
    rw [hR2e]
    simp only [List.length_append, List.length_drop, List.length_cons, List.length_nil, hAl, hBl, hTl]
    omega
  have HC1 : Hid (∀ W : World, W.heap = w.heap → ∀ ty dc sc, (Builtin.copy_ #[24, 24] ty #[.slice (some ⟨g, (i + 1) * 2, none⟩) (l.length - i) dc, .slice (some ⟨g, i * 2, none⟩) (l.length + 1 - i) sc]).run Tryd.prog W = .ok (goInt ((l.length - i : Nat) : Int)) (W.setRow g R1.toArray)) := fun W hW ty dc sc => by
    have := run_copy_row2 W ty g ((i + 1) * 2) (l.length - i) dc ⟨g, i * 2, none⟩ (l.length + 1 - i) sc (l.length - i) cur 56 B (by rw [hW]; exact hg) (by simp only [Nat.min_def]; split <;> omega) hBl
      (fun j v hj => by
        rw [Addr.add_lit]
        simp only [World.cell?, hW, hg]
        rw [← Array.getElem?_toList, hcur, List.append_assoc, List.getElem?_append_right (by omega), hAl, show i * 2 + j - i * 2 = j from by omega, List.getElem?_append_left (List.getElem?_eq_some_iff.1 hj).1]
        exact hj) (by rw [hBl, hcs]; omega) h1B
    rw [this, hR1, show (i + 1) * 2 = i * 2 + 2 from by omega]
  have HC2 : Hid (∀ W : World, W.heap = w.heap → ∀ ty dc, (Builtin.copy_ #[24, 24] ty #[.slice (some ⟨g, i * 2, none⟩) (l.length + 1 - i) dc, .slice (some ⟨vb, 0, none⟩) 1 1]).run Tryd.prog (W.setRow g R1.toArray) = .ok (goInt 1) ((W.setRow g R1.toArray).setRow g R2.toArray)) := fun W hW ty dc => by
    have hgW : (W.setRow g R1.toArray).heap[g]? = some (.cells R1.toArray 56 (0, 0)) := setRow_heap W g cur _ 56 (0, 0) (by rw [hW]; exact hg)
    have hvW : (W.setRow g R1.toArray).heap[vb]? = some (.cells #[.string hn, .string hv] vt (0, 0)) := by rw [setRow_other W g vb _ hvg, hW]; exact hvb
    have := run_copy_row2 (W.setRow g R1.toArray) ty g (i * 2) (l.length + 1 - i) dc ⟨vb, 0, none⟩ 1 1 1 R1.toArray 56 [.string hn, .string hv] hgW (by simp only [Nat.min_def]; split <;> omega) rfl
      (fun j v hj => by
        rw [Addr.add_lit]
        simp only [World.cell?, hvW]
        match j, hj with
        | 0, hj => simpa using hj
        | 1, hj => simpa using hj) (by simp [hR1l]; omega) (by intro v hv; simp at hv; rcases hv with rfl | rfl <;> rfl)
    rw [this, hR2]
    simp
  have HEND : Hid (∀ W : World, W.heap = w.heap → KeptRes base (l.take i ++ [⟨hn, hv⟩] ++ l.drop i) (.returned (.slice (some ⟨g, 0, none⟩) (l.length + 1) c)) ((W.setRow g R1.toArray).setRow g R2.toArray)) := fun W hW => by
    refine KeptRes.mk rfl (hend _ R2.toArray (T.drop 2) ?_ hbg hroom (by unfold maxLen; exact hcm) (by simpa using hR2l) (by simpa using hR2e))
    exact setRow_heap _ g R1.toArray _ 56 (0, 0) (setRow_heap W g cur _ 56 (0, 0) (by rw [hW]; exact hg))
  have HBEL : Hid (∀ W : World, W = w.drew → Below base w ((W.setRow g R1.toArray).setRow g R2.toArray)) := fun W hW => by
    subst hW
    have h1 : Below base w w.drew := (Below.refl base w).drew
    have h2 := below_setRow (base := base) (g := g) w.drew R1.toArray hbg (Nat.le_trans hbase h1.size)
    exact (h1.trans h2).trans (below_setRow _ R2.toArray hbg (by simpa using Nat.le_trans hbase h1.size))
  clear hR1 hR2 hR2e hcur hend h1B hTl hBl hAl hR1l hR2l hcl hx hcs hg hvb
  generalize hn' : l.length = n at *
  have g1 : ¬ ((i : Int) = (n : Int)) := by omega
  have g2 : ¬ ((c : Int) < (n : Int) + 1) := by omega
  have g3 : (0 : Int) ≤ (i : Int) + 1 := by omega
  have g4 : (i : Int) ≤ (n : Int) := by omega
  have g5 : (n : Int) + 1 ≤ c := by omega
  have g6 : (i : Int) + 1 ≤ (n : Int) + 1 := by omega
  have g7 : (i : Int) ≤ (n : Int) + 1 := by omega
  have g8 : ¬ (c = i + 1) := by omega
  have g9 : ¬ (c = i) := by omega
  have hw1 : IntKind.i64.wrap ((i : Int) + 1) = (i : Int) + 1 := by rw [IntKind.wrap_i64]; omega
  have htn : ((i : Int) + 1).toNat = i + 1 := by omega
  go_enter Tryd.func44, Tryd.ntmps44
  go_wp2_with (simp only [hov])
  refine wp_region_still_tail 8 hdr_mixed (by kernel_rfl) ?_
  simp only [List.take_succ_cons, List.take_zero, List.drop_succ_cons, List.drop_zero]
  repeat still_step
  refine wpStill_nil ?_
  show wpList _ _ _ _ _ _
  refine wpList_copy_runH _ rfl (.tmp 73) (.tmp 76) 24 24 rfl (.slice (some ⟨g, (i + 1) * 2, none⟩) (n - i) (c - (i + 1))) (.slice (some ⟨g, i * 2, none⟩) (n + 1 - i) (c - i)) (by simp [Act.eval]) (by simp [Act.eval]) (HC1.out w.drew rfl _ _ _) ?_
  have hcp2 := HC2.out w.drew rfl
  go_wp2_with fail
  go_ret
  exact ⟨HEND.out w.drew rfl, HBEL.out w.drew rfl⟩
end Go.Proofs.YthlenlijdlfdeaaDoor
