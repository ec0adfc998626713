/-
  What the model's SetHeader answers; slices.Insert, whole.
-/
import Derived.Test.YthlenlijdlfdeaaDoorHInsertGrow
namespace Go.Proofs.YthlenlijdlfdeaaDoor
open Go.ChangeShapes Go.WideShapes Go.ChangeAt Go.RowKit Go.Sort
theorem insert_any (w : World) (base : Nat) (a : Option Addr) (c : Nat) (l : List Hdr) (i : Nat) (hn hv : ByteArray) (vb : Nat) (vt : TypeId) (hown : OwnH w base (.slice a l.length c) l) (hbase : base ≤ w.heap.size) (hl : l.length ≤ 1000) (hi : i ≤ l.length)
    (hvb : w.heap[vb]? = some (.cells #[.string hn, .string hv] vt (0, 0))) (hne : ∀ g, (Value.slice a l.length c).ownBlock = some g → vb ≠ g) :
    Calls Tryd.prog 44 #[.slice a l.length c, .int .i64 (i : Int), .slice (some ⟨vb, 0, none⟩) 1 1] w fun e w' => KeptRes base (l.take i ++ [⟨hn, hv⟩] ++ l.drop i) e w' ∧ Below base w w' := by
  by_cases he : i = l.length
  · subst he
    rw [List.take_length, List.drop_length, List.append_nil]
    exact insert_end w base a c l hn hv vb hown hbase hl (by simp [World.cell?, hvb]) (by simp [World.cell?, hvb])
  · obtain ⟨_, h1 | ⟨g, c', cur, e, hbg, hh, hnc, hcm, hcs, hx⟩⟩ := hown
    · have := h1.2; omega
    · obtain ⟨rfl, _, rfl⟩ := Value.slice.inj e
      by_cases hroom : l.length + 1 ≤ c
      · exact insert_shift w base g c i cur l hn hv vb vt hh hbg hbase hcm hcs hx hl (by omega) hroom (hne g rfl) hvb
      · exact insert_grow w base g c i cur l hn hv vb vt hh hbase hx hl (by omega) hnc (by omega) hvb
theorem setGo_other {h r : Hdr} {bd : Bool} {l : List Hdr} (he : ¬ lowS r.name = lowS h.name) : setGo h bd (r :: l) = r :: setGo h bd l := by rw [setGo, if_neg he]
theorem setGo_put {h r : Hdr} {l : List Hdr} (he : lowS r.name = lowS h.name) : setGo h false (r :: l) = h :: setGo h true l := by rw [setGo, if_pos he]; rfl
theorem setGo_skip {h r : Hdr} {l : List Hdr} (he : lowS r.name = lowS h.name) : setGo h true (r :: l) = setGo h true l := by rw [setGo, if_pos he]; rfl
theorem setGo_end (h : Hdr) : setGo h true [] = [] ∧ setGo h false [] = [h] := ⟨rfl, rfl⟩
theorem box_room {w w1 : World} {n v : ByteArray} {t : TypeId} (hb : Below (w.heap.size + 1) (w.alloc (.cells #[.string n, .string v] t)) w1) :
    w1.cell? ⟨w.heap.size, 0, none⟩ = some (.string n) ∧ w1.cell? ⟨w.heap.size, 1, none⟩ = some (.string v) := by
  exact ⟨by rw [hb.cell (p := ⟨w.heap.size, 0, none⟩) (Nat.lt_succ_self _)]; simp, by rw [hb.cell (p := ⟨w.heap.size, 1, none⟩) (Nat.lt_succ_self _)]; simp⟩
set_option maxRecDepth 100000 in
set_option maxHeartbeats 8000000 in
theorem l4Set_any (w : World) (a : Option Addr) (cap : Nat) (l : List Hdr) (h : Hdr) (h20 : l.length ≤ 20) (hz : ∀ (i : Nat) r, l[i]? = some r → r.name.size ≤ 64) (hnm : h.name.size ≤ 64) (hi : HdsIn w a l) :
    Calls Tryd.prog 55 #[.slice a l.length cap, .agg #[.string h.name, .string h.value]] w fun e w' => KeptRes w.heap.size (setGo h false l) e w' ∧ Below w.heap.size w w' := by
  have HI : Hid (HdsIn w a l) := hi
  have HZ : Hid (∀ (i : Nat) r, l[i]? = some r → r.name.size ≤ 64) := hz
  clear hi hz
  generalize hn : l.length = n at *
  have HN : Hid (l.length = n) := hn
  clear hn
  obtain ⟨hnb, hvb⟩ := h
  simp only at hnm ⊢
  go_enter Tryd.func55, Tryd.ntmps55
  go_wp2_with fail
  go_loopw [5, 6, 7] (fun v f i wr => ∃ (k : Nat) (bd : Bool) (M : List Hdr), k ≤ n ∧ M.length ≤ k ∧ i = .int .i64 k ∧ f = .bool bd ∧ OwnH wr (w.heap.size + 1) v M ∧ setGo ⟨hnb, hvb⟩ false l = M ++ setGo ⟨hnb, hvb⟩ bd (l.drop k) ∧ Below (w.heap.size + 1) (w.alloc (.cells #[.string hnb, .string hvb] 56)) wr) (fun _ _ i _ => n - (intOf i).toNat)
  case atStart => exact ⟨0, false, [], Nat.zero_le _, Nat.le_refl _, rfl, rfl, by
    have := OwnH.made0 (w.alloc (.cells #[.string hnb, .string hvb] 56)) (w.heap.size + 1) (by simp)
    simpa using this, rfl, (Below.refl _ _).alloc (by simp) _⟩
  case round =>
    obtain ⟨k, bd, M, hk, hM, rfl, rfl, ho, hs, hb⟩ := hrel
    have HO : Hid (OwnH wr (w.heap.size + 1) u5 M) := ho
    have HSG : Hid (setGo ⟨hnb, hvb⟩ false l = M ++ setGo ⟨hnb, hvb⟩ bd (l.drop k)) := hs
    have hzw : w.heap.size + 1 ≤ wr.heap.size := by have := hb.size; rwa [World.size_alloc] at this
    have HB : Hid (Below (w.heap.size + 1) (w.alloc (.cells #[.string hnb, .string hvb] 56)) wr) := hb
    have hwr : Below w.heap.size w wr := ((Below.refl _ _).alloc (Nat.le_refl _) _).trans (hb.mono (Nat.le_succ _))
    obtain ⟨b0, b1⟩ := box_room hb
    clear ho hs hb
    by_cases hlt : k < n
    · obtain ⟨r, hr⟩ : ∃ r, l[k]? = some r := ⟨l[k]'(by have := HN.out; omega), List.getElem?_eq_getElem _⟩
      obtain ⟨b, off, rfl, hat⟩ := HI.out.ok hr
      obtain ⟨p1, p3⟩ := (hat.keep hwr) k r hr
      have z1 := HZ.out k r hr
      have HD : Hid (l.drop k = r :: l.drop (k + 1)) := drop_hdr l k r hr
      have gk : (k : Int) < n := by omega
      have g0 : (0 : Int) ≤ k := by omega
      clear hr hat HI HZ hwr
      obtain ⟨rn, rv⟩ := r
      simp only at p1 p3 z1
      have SA := fun w => l4Alike_any rn hnb w (by omega) (by omega)
      have x1 := cell_regrown p1
      have y0 := cell_regrown b0
      by_cases he : lowS rn = lowS hnb
      · have HSA : Hid (∀ w, Calls Tryd.prog 87 #[.string rn, .string hnb] w fun e w' => e = .returned (.bool true) ∧ Below w.heap.size w w') := by
          rw [show decide (lowS rn = lowS hnb) = true from by simpa using he] at SA
          exact SA
        have cSA : ∀ d os, Calls Tryd.prog 87 #[.string rn, .string hnb] (grow (redrawn wr d) os) fun e w'' => e = .returned (.bool true) ∧ ∃ p : Regrown, w'' = grow (redrawn wr p.d) p.os := fun d os => Calls.regrown_of (HSA.out _)
        cases bd
        · have HX : Hid (setGo ⟨hnb, hvb⟩ false l = (M ++ [⟨hnb, hvb⟩]) ++ setGo ⟨hnb, hvb⟩ true (l.drop (k + 1))) := by
            show _ = _
            rw [HSG.out, HD.out, setGo_put he]
            simp
          clear SA HSG HD he
          go_wp2_with fail
          refine wp_region_quiet_below (by kernel_rfl) (by kernel_rfl) ?_
          repeat (go_big_quiet_step ((go_at_call 87; exact cSA _ _)))
          refine wpQuiet_nil ?_
          intro w2 hw2
          have hb2 : Below wr.heap.size wr w2 := by
            obtain ⟨⟨d, os⟩, rfl⟩ := hw2
            exact below_regrown wr d os
          have b0 := hkeep hb2 b0
          have b1 := hkeep hb2 b1
          have HO2 : Hid (OwnH w2 (w.heap.size + 1) u5 M) := HO.out.below hb2
          have HB2 : Hid (Below (w.heap.size + 1) (w.alloc (.cells #[.string hnb, .string hvb] 56)) w2) := HB.out.trans (hb2.mono hzw)
          have hz2 : w.heap.size + 1 ≤ w2.heap.size := Nat.le_trans hzw hb2.size
          clear hw2 hb2 cSA HSA x1 y0 p1 p3 HO HB
          go_wp2_with (at_builtin; refine wpList_append_hdr _ rfl (.tmp 33) (.tmp 35) rfl (w.heap.size + 1) _ M hnb hvb rfl rfl HO2.out (by omega) hz2 ?_; intro v4 w4 HO4 hb4 hz4 hk4)
          go_roundw
          case rel => exact ⟨k + 1, true, M ++ [⟨hnb, hvb⟩], by omega, by simp; omega, by go_num, rfl, HO4, HX.out, HB2.out.trans hb4⟩
          case measure => simp [intOf]; omega
        · have HX : Hid (setGo ⟨hnb, hvb⟩ false l = M ++ setGo ⟨hnb, hvb⟩ true (l.drop (k + 1))) := by
            show _ = _
            rw [HSG.out, HD.out, setGo_skip he]
          clear SA HSG HD he
          go_wp2_with fail
          refine wp_region_quiet_below (by kernel_rfl) (by kernel_rfl) ?_
          repeat (go_big_quiet_step ((go_at_call 87; exact cSA _ _)))
          refine wpQuiet_nil ?_
          intro w2 hw2
          have hb2 : Below wr.heap.size wr w2 := by
            obtain ⟨⟨d, os⟩, rfl⟩ := hw2
            exact below_regrown wr d os
          have HO2 : Hid (OwnH w2 (w.heap.size + 1) u5 M) := HO.out.below hb2
          have HB2 : Hid (Below (w.heap.size + 1) (w.alloc (.cells #[.string hnb, .string hvb] 56)) w2) := HB.out.trans (hb2.mono hzw)
          clear hw2 hb2 cSA HSA x1 y0 p1 p3 HO HB b0 b1
          go_wp2_with fail
          go_roundw
          case rel => exact ⟨k + 1, true, M, by omega, by omega, by go_num, rfl, HO2.out, HX.out, HB2.out⟩
          case measure => simp [intOf]; omega
      · have HSA : Hid (∀ w, Calls Tryd.prog 87 #[.string rn, .string hnb] w fun e w' => e = .returned (.bool false) ∧ Below w.heap.size w w') := by
          rw [show decide (lowS rn = lowS hnb) = false from by simpa using he] at SA
          exact SA
        have cSA : ∀ d os, Calls Tryd.prog 87 #[.string rn, .string hnb] (grow (redrawn wr d) os) fun e w'' => e = .returned (.bool false) ∧ ∃ p : Regrown, w'' = grow (redrawn wr p.d) p.os := fun d os => Calls.regrown_of (HSA.out _)
        have HX : Hid (setGo ⟨hnb, hvb⟩ false l = (M ++ [⟨rn, rv⟩]) ++ setGo ⟨hnb, hvb⟩ bd (l.drop (k + 1))) := by
          show _ = _
          rw [HSG.out, HD.out, setGo_other he]
          simp
        clear SA HSG HD he
        go_wp2_with fail
        refine wp_region_quiet_below (by kernel_rfl) (by kernel_rfl) ?_
        repeat (go_big_quiet_step ((go_at_call 87; exact cSA _ _)))
        refine wpQuiet_nil ?_
        intro w2 hw2
        have hb2 : Below wr.heap.size wr w2 := by
          obtain ⟨⟨d, os⟩, rfl⟩ := hw2
          exact below_regrown wr d os
        have p1 := hkeep hb2 p1
        have p3 := hkeep hb2 p3
        have HO2 : Hid (OwnH w2 (w.heap.size + 1) u5 M) := HO.out.below hb2
        have HB2 : Hid (Below (w.heap.size + 1) (w.alloc (.cells #[.string hnb, .string hvb] 56)) w2) := HB.out.trans (hb2.mono hzw)
        have hz2 : w.heap.size + 1 ≤ w2.heap.size := Nat.le_trans hzw hb2.size
        clear hw2 hb2 cSA HSA x1 y0 HO HB b0 b1
        go_wp2_with (at_builtin; refine wpList_append_hdr _ rfl (.tmp 24) (.tmp 29) rfl (w.heap.size + 1) _ M rn rv rfl rfl HO2.out (by omega) hz2 ?_; intro v4 w4 HO4 hb4 hz4 hk4)
        go_roundw
        case rel => exact ⟨k + 1, bd, M ++ [⟨rn, rv⟩], by omega, by simp; omega, by go_num, rfl, HO4, HX.out, HB2.out.trans hb4⟩
        case measure => simp [intOf]; omega
    · have HX : Hid (setGo ⟨hnb, hvb⟩ false l = M ++ setGo ⟨hnb, hvb⟩ bd []) := by
        show _ = _
        rw [HSG.out, List.drop_of_length_le (by have := HN.out; omega)]
      clear HSG
      cases bd
      · have HY : Hid (setGo ⟨hnb, hvb⟩ false l = M ++ [⟨hnb, hvb⟩]) := by show _ = _; rw [HX.out, (setGo_end _).2]
        clear HX
        go_wp2_with (at_builtin; refine wpList_append_hdr _ rfl (.tmp 39) (.tmp 41) rfl (w.heap.size + 1) _ M hnb hvb rfl rfl HO.out (by omega) hzw ?_; intro v4 w4 HO4 hb4 hz4 hk4)
        go_ret
        exact ⟨KeptRes.mk HY.out (HO4.lower (Nat.le_succ _)), ((Below.refl _ _).alloc (Nat.le_refl _) _).trans ((HB.out.trans hb4).mono (Nat.le_succ _))⟩
      · have HY : Hid (setGo ⟨hnb, hvb⟩ false l = M) := by show _ = _; rw [HX.out, (setGo_end _).1, List.append_nil]
        clear HX
        go_wp2_with fail
        go_ret
        exact ⟨KeptRes.mk HY.out (HO.out.lower (Nat.le_succ _)), ((Below.refl _ _).alloc (Nat.le_refl _) _).trans (HB.out.mono (Nat.le_succ _))⟩
end Go.Proofs.YthlenlijdlfdeaaDoor
