/-
  LeaveBulk, by the model.
-/
import Derived.Test.YtdfikpadanmgmaaLeaveP
import Derived.Test.YtdfikpadanmgmaaBlkSpec
import Derived.Deep.CutRange
import Derived.Deep.CutBlock
namespace Go.Proofs.Ytdfikpadanmgmaa
open Go.ChangeShapes Go.WideShapes Go.ChangeAt Go.RowKit Go.Sort
def LeftB (w w' : World) (O bs : Nat) (y : Int) (l : List Wt) (e : Ending) : Prop := ∃ a2 c2, e = .returned (.int .i64 (nextW l)) ∧ D2 w' O (.int .i64 (busyW y l)) (.slice a2 l.tail.length c2) ∧ WtNew w' bs (.slice a2 l.tail.length c2) l.tail ∧ l.tail.length ≤ c2 ∧ w.grownBy w' (some O)
set_option maxRecDepth 100000 in
set_option maxHeartbeats 4000000 in
theorem specLeft_any (w : World) (O bs : Nat) (y : Int) (a : Option Addr) (cap : Nat) (l : List Wt) (hy : 1 ≤ y ∧ y ≤ 8) (hl : l.length ≤ 8) (hc : l.length ≤ cap) (hbs : bs ≤ w.heap.size) (hB : D2 w O (.int .i64 y) (.slice a l.length cap)) (hi : WtIn w a l) :
    Calls Try.prog 83 #[.pointer (some ⟨O, 0, none⟩)] w fun e w' => LeftB w w' O bs y l e := by
  have HB := hid11 hB
  obtain ⟨o0, o1, of, olt⟩ := hB
  have of0 := of 0
  have of1 := of 1
  cases l with
  | nil =>
    have wy : IntKind.i64.wrap (y - 1) = y - 1 := by rw [IntKind.wrap_i64]; omega
    have HF : Hid (D2 (w.setCell ⟨O, 0, none⟩ (.int .i64 (y - 1))) O (.int .i64 (y - 1)) (.slice a 0 cap)) := ⟨World.cell?_setCell_same _ _ _ o0, by rw [World.cell?_setCell_other _ _ _ _ (fun e => by have := congrArg Addr.off e; simp at this)]; exact o1, fun o => by rw [World.frozen?_setCell]; exact of o, by simpa using olt⟩
    simp only [List.length_nil] at *
    clear hi hc of
    go_enter Try.func83, Try.ntmps83
    go_wp2_with fail
    go_ret
    exact ⟨a, cap, rfl, HF.out, WtNew.nil _ _ _ _, by simp, gwSet _ _ _ _⟩
  | cons r k =>
    rcases hi with h | ⟨b, off, rfl, hat⟩
    · cases h
    obtain ⟨p0, p1⟩ := hat 0 r rfl
    simp only [Nat.zero_mul, Nat.add_zero] at p0 p1
    have HT := hid11 (WtIn.tail2 hat (by simpa using hc))
    obtain ⟨n, hn⟩ : ∃ n, k.length = n := ⟨_, rfl⟩
    simp only [List.length_cons, hn] at HB o1 hl hc
    have HN : Hid (k.length = n) := hn
    have g0 : ¬ ((n + 1 : Nat) : Int) = 0 := by omega
    have g1 : (((n + 1 : Nat) : Int) == 0) = false := by simp; omega
    have g2 : (0 : Int) < ((n + 1 : Nat) : Int) := by omega
    have g3 : (1 : Int) ≤ ((n + 1 : Nat) : Int) := by omega
    have g4 : ((n + 1 : Nat) : Int) ≤ cap := by omega
    have HO0 : Hid (OwnWt (w.alloc (.cells #[] 64)) w.heap.size (.slice (some ⟨w.heap.size, 0, none⟩) 0 0) []) := OwnWt.made0 w w.heap.size (Nat.le_refl _)
    have HB0 : Hid (Below w.heap.size w (w.alloc (.cells #[] 64))) := (Below.refl _ _).alloc (Nat.le_refl _) _
    have HIT := hid11 (HT.out.keep HB0.out)
    clear hat hn
    go_enter Try.func83, Try.ntmps83
    obtain ⟨pa, hpa⟩ : ∃ pa, (if cap = 1 then some (⟨b, off, none⟩ : Addr) else some ⟨b, off + 2, none⟩) = pa := ⟨_, rfl⟩
    rw [hpa] at HIT
    go_wp2_with (at_builtin; refine wpList_appendInWt _ rfl (.tmp 25) (.tmp 30) rfl w.heap.size _ [] k pa (cap - 1) rfl (by rw [HN.out]; first | rfl | (rw [← hpa]; rfl)) HO0.out HIT.out (by simp; have := HN.out; omega) (by simp) ?_; intro v1 w1 ho1 hb1; obtain ⟨va, vc, rfl, _, _⟩ := ho1.in; simp only [List.nil_append] at ho1 ⊢; rw [HN.out] at ho1 ⊢; have HX : Hid (OwnWt w1 w.heap.size (.slice va n vc) k ∧ Below w.heap.size w w1) := ⟨ho1, HB0.out.trans hb1⟩; clear ho1 hb1 o0 o1 of of0 of1 p0 p1; obtain ⟨q0, q1, qf, _⟩ := HB.out.keep HX.out.2; have qf1 := qf 1)
    go_ret
    have q := HB.out.keep HX.out.2
    have hlt := HB.out.lt
    refine ⟨va, vc, rfl, ⟨by rw [World.cell?_setCell_other _ _ _ _ (fun e => by have := congrArg Addr.off e; simp at this)]; exact q.c0, by rw [World.cell?_setCell_same _ _ _ q.c1]; simp only [List.tail_cons, HN.out], fun o => by rw [World.frozen?_setCell]; exact q.fr o, by simpa using q.lt⟩, ?_, ?_, gwTrans (gwBelow _ HX.out.2) (gwSet _ _ _ _)⟩
    · simp only [List.tail_cons, HN.out]
      exact (HX.out.1.new.gw2 (gwSet _ _ _ _) hlt).lower hbs
    · simp only [List.tail_cons, HN.out]
      exact HX.out.1.cap
set_option maxRecDepth 100000 in
set_option maxHeartbeats 16000000 in
theorem specLeave_any (w : World) (y : Int) (a : Option Addr) (cap : Nat) (l : List Wt) (s c t : Int) (hl : l.length ≤ 1048576) (hi : WtIn w a l) :
    Calls Try.prog 31 #[.agg #[.int .i64 y, .slice a l.length cap], .agg #[.int .i64 s, .int .i64 c, .int .i64 t]] w fun e w' => LeRes w' w.heap.size (leaveR y l s c t) e ∧ Below w.heap.size w w' := by
  obtain ⟨W, hW⟩ : ∃ W, W = ((w.alloc (.cells #[.int .i64 y, .slice a l.length cap] 35)).alloc (.cells #[.int .i64 s, .int .i64 c, .int .i64 t] 25)).alloc (.cells #[.int .i64 0, .int .i64 0, .slice none 0 0, .int .i64 0] 48) := ⟨_, rfl⟩
  have HW : Hid (W = ((w.alloc (.cells #[.int .i64 y, .slice a l.length cap] 35)).alloc (.cells #[.int .i64 s, .int .i64 c, .int .i64 t] 25)).alloc (.cells #[.int .i64 0, .int .i64 0, .slice none 0 0, .int .i64 0] 48)) := hW
  have K0 : Hid ((Below w.heap.size w W ∧ D2 W w.heap.size (.int .i64 y) (.slice a l.length cap) ∧ D3 W (w.heap.size + 1) (.int .i64 s) (.int .i64 c) (.int .i64 t) ∧ D4 W (w.heap.size + 2) (.int .i64 0) (.int .i64 0) (.slice none 0 0) (.int .i64 0)) ∧ W.heap.size = w.heap.size + 3) := by
    have h1 := D2.new w (.int .i64 y) (.slice a l.length cap) 35
    obtain ⟨W1, hW1⟩ : ∃ W1, W1 = w.alloc (.cells #[.int .i64 y, .slice a l.length cap] 35) := ⟨_, rfl⟩
    rw [← hW1] at h1 hW
    have e1 : W1.heap.size = w.heap.size + 1 := by rw [hW1]; simp
    have b1 : Below w.heap.size w W1 := by rw [hW1]; exact (Below.refl _ _).alloc (Nat.le_refl _) _
    have h2 := D3.new W1 (.int .i64 s) (.int .i64 c) (.int .i64 t) 25
    obtain ⟨W2, hW2⟩ : ∃ W2, W2 = W1.alloc (.cells #[.int .i64 s, .int .i64 c, .int .i64 t] 25) := ⟨_, rfl⟩
    rw [← hW2] at h2 hW
    have e2 : W2.heap.size = w.heap.size + 2 := by rw [hW2]; simp [e1]
    have b2 : Below W1.heap.size W1 W2 := by rw [hW2]; exact (Below.refl _ _).alloc (Nat.le_refl _) _
    have b3 : Below W2.heap.size W2 W := by rw [hW]; exact (Below.refl _ _).alloc (Nat.le_refl _) _
    have h3 := D4.new W2 (.int .i64 0) (.int .i64 0) (.slice none 0 0) (.int .i64 0) 48
    rw [← hW] at h3
    rw [e1] at h2
    rw [e2] at h3
    have b13 := b2.trans (b3.mono b2.size)
    exact ⟨⟨b1.trans (b13.mono b1.size), h1.keep b13, h2.keep b3, h3⟩, by rw [hW]; simp [e2]⟩
  have HA : Hid (Calls Try.prog 19 #[.agg #[.int .i64 y, .slice a l.length cap], .agg #[.int .i64 s, .int .i64 c, .int .i64 t]] W fun e w' => e = .returned (.int .i64 (blkC y l s c t)) ∧ Below W.heap.size W w') := specBlk_any y a cap l s c t W (hi.keep K0.out.1.1)
  have HC : Hid (∀ X, (Below w.heap.size w X ∧ D2 X w.heap.size (.int .i64 y) (.slice a l.length cap) ∧ D3 X (w.heap.size + 1) (.int .i64 s) (.int .i64 c) (.int .i64 t) ∧ D4 X (w.heap.size + 2) (.int .i64 0) (.int .i64 0) (.slice none 0 0) (.int .i64 0)) → Calls Try.prog 74 #[.pointer (some ⟨w.heap.size, 0, none⟩)] X fun e w' => CopyB w' X.heap.size y l e ∧ Below X.heap.size X w') := fun X hX => specCopyB_any X w.heap.size y a cap l hl hX.2.1 (hi.keep hX.1)
  have HLF : Hid (∀ X O bs va vc, 1 ≤ y ∧ y ≤ 8 → l.length ≤ 8 → l.length ≤ vc → bs ≤ X.heap.size → D2 X O (.int .i64 y) (.slice va l.length vc) → WtIn X va l → Calls Try.prog 83 #[.pointer (some ⟨O, 0, none⟩)] X fun e w' => LeftB X w' O bs y l e) := fun X O bs va vc h1 h2 h3 h4 h5 h6 => specLeft_any X O bs y va vc l h1 h2 h3 h4 h5 h6
  have HG : Hid (blkC y l s c t = 0 → GoodB y l s c t) := goodB_of
  have H1 : Hid (¬ blkC y l s c t = 0 → leaveR y l s c t = ⟨blkC y l s c t, 0, [], 0⟩) := leave_bad
  have H2 : Hid (blkC y l s c t = 0 → y = 0 → leaveR y l s c t = ⟨4, 0, [], 0⟩) := leave_none
  have H3 : Hid (blkC y l s c t = 0 → ¬ y = 0 → leaveR y l s c t = ⟨0, busyW y l, l.tail, nextW l⟩) := leave_ok
  clear hi hW
  generalize leaveR y l s c t = q at *
  generalize blkC y l s c t = qc at *
  generalize hn : l.length = n at *
  have HN : Hid (l.length = n) := hn
  clear hn
  go_enter Try.func31, Try.ntmps31
  go_wp2_with fail
  rw [← HW.out]
  refine HA.out.mono ?_
  rintro e w1 ⟨rfl, hb1⟩
  have K0' : Hid ((Below w.heap.size w W ∧ D2 W w.heap.size (.int .i64 y) (.slice a n cap) ∧ D3 W (w.heap.size + 1) (.int .i64 s) (.int .i64 c) (.int .i64 t) ∧ D4 W (w.heap.size + 2) (.int .i64 0) (.int .i64 0) (.slice none 0 0) (.int .i64 0)) ∧ w.heap.size + 3 ≤ W.heap.size) := ⟨K0.out.1, Nat.le_of_eq K0.out.2.symm⟩
  have K1 : Hid ((Below w.heap.size w w1 ∧ D2 w1 w.heap.size (.int .i64 y) (.slice a n cap) ∧ D3 w1 (w.heap.size + 1) (.int .i64 s) (.int .i64 c) (.int .i64 t) ∧ D4 w1 (w.heap.size + 2) (.int .i64 0) (.int .i64 0) (.slice none 0 0) (.int .i64 0)) ∧ w.heap.size + 3 ≤ w1.heap.size) := ⟨⟨K0'.out.1.1.trans (hb1.mono K0'.out.1.1.size), K0'.out.1.2.1.keep hb1, K0'.out.1.2.2.1.keep hb1, K0'.out.1.2.2.2.keep hb1⟩, Nat.le_trans K0'.out.2 hb1.size⟩
  clear hb1 K0 K0' HW HA
  by_cases hc : qc = 0
  rotate_left
  · have n0 : (qc != 0) = true := by simpa using hc
    have HE := hid11 (H1.out hc)
    clear H1 H2 H3 HG HC HLF
    obtain ⟨r0, r1, r2, r3, rf, _⟩ := K1.out.1.2.2.2
    go_wp2_with fail
    exact bodyPost_ret (v := .agg #[.int .i64 qc, .int .i64 0, .slice none 0 0, .int .i64 0]) (by simp [results, Try.results31, go_sem, r0, r1, r2, r3]) rfl ⟨LeRes.mk HE.out rfl (WtNew.nil _ _ _ _) (by simp), ((((K1.out.1.1.setCell (by simp <;> omega) _).setCell (by simp <;> omega) _).setCell (by simp <;> omega) _).setCell (by simp <;> omega) _)⟩
  subst hc
  have hg := HG.out (by trivial)
  obtain ⟨hs, hcc, ht, hy, hln, _, _⟩ := hg
  rw [HN.out] at hln
  have hn8 : n ≤ 8 := by omega
  clear HG H1
  obtain ⟨e0, e1, ef, _⟩ := K1.out.1.2.1
  by_cases hy0 : y = 0
  · have HE := hid11 (H2.out (by trivial) hy0)
    subst hy0
    clear H2 H3 HC HLF
    obtain ⟨r0, r1, r2, r3, rf, _⟩ := K1.out.1.2.2.2
    go_wp2_with fail
    exact bodyPost_ret (v := .agg #[.int .i64 4, .int .i64 0, .slice none 0 0, .int .i64 0]) (by simp [results, Try.results31, go_sem, r0, r1, r2, r3]) rfl ⟨LeRes.mk HE.out rfl (WtNew.nil _ _ _ _) (by simp), ((((K1.out.1.1.setCell (by simp <;> omega) _).setCell (by simp <;> omega) _).setCell (by simp <;> omega) _).setCell (by simp <;> omega) _)⟩
  have HE := hid11 (H3.out (by trivial) hy0)
  have hy1 : (y == 0) = false := by simpa using hy0
  clear H2 H3
  go_wp2_with fail
  refine (HC.out _ K1.out.1).mono ?_
  rintro e w4 ⟨⟨va, vc, rfl, ho⟩, hb4⟩
  rw [HN.out] at ho ⊢
  have K2 : Hid ((Below w.heap.size w w4 ∧ D2 w4 w.heap.size (.int .i64 y) (.slice a n cap) ∧ D3 w4 (w.heap.size + 1) (.int .i64 s) (.int .i64 c) (.int .i64 t) ∧ D4 w4 (w.heap.size + 2) (.int .i64 0) (.int .i64 0) (.slice none 0 0) (.int .i64 0)) ∧ w.heap.size + 3 ≤ w4.heap.size) := ⟨⟨K1.out.1.1.trans (hb4.mono K1.out.1.1.size), K1.out.1.2.1.keep hb4, K1.out.1.2.2.1.keep hb4, K1.out.1.2.2.2.keep hb4⟩, Nat.le_trans K1.out.2 hb4.size⟩
  obtain ⟨bs, hbs⟩ : ∃ b, w1.heap.size = b := ⟨_, rfl⟩
  rw [hbs] at ho
  have HB : Hid (w.heap.size + 3 ≤ bs ∧ bs ≤ w4.heap.size) := ⟨by rw [← hbs]; exact K1.out.2, by rw [← hbs]; exact hb4.size⟩
  have HO := hid11 ho
  clear ho hb4 hbs K1 HC e0 e1 ef
  obtain ⟨V, hV⟩ : ∃ V, V = w4.alloc (.cells #[.int .i64 y, .slice va n vc] 35) := ⟨_, rfl⟩
  have HV : Hid (V = w4.alloc (.cells #[.int .i64 y, .slice va n vc] 35)) := hV
  have bV : Below w4.heap.size w4 V := by rw [hV]; exact (Below.refl _ _).alloc (Nat.le_refl _) _
  have oV : D2 V w4.heap.size (.int .i64 y) (.slice va n vc) := by rw [hV]; exact D2.new w4 _ _ _
  have K3 : Hid ((Below w.heap.size w V ∧ D2 V w.heap.size (.int .i64 y) (.slice a n cap) ∧ D3 V (w.heap.size + 1) (.int .i64 s) (.int .i64 c) (.int .i64 t) ∧ D4 V (w.heap.size + 2) (.int .i64 0) (.int .i64 0) (.slice none 0 0) (.int .i64 0)) ∧ w.heap.size + 3 ≤ V.heap.size) := ⟨⟨K2.out.1.1.trans (bV.mono K2.out.1.1.size), K2.out.1.2.1.keep bV, K2.out.1.2.2.1.keep bV, K2.out.1.2.2.2.keep bV⟩, Nat.le_trans K2.out.2 bV.size⟩
  have HOV := hid11 (HO.out.below bV)
  obtain ⟨O, hO⟩ : ∃ b, w4.heap.size = b := ⟨_, rfl⟩
  have HSO : Hid (bs ≤ O ∧ O < V.heap.size) := ⟨by rw [← hO]; exact HB.out.2, oV.lt |> (by rw [← hO]; exact ·)⟩
  rw [hO] at oV
  have HOX := hid11 oV
  have hvin : WtIn V va l := by
    obtain ⟨a5, c5, e5, _, i5⟩ := HOV.out.in
    simp only [Value.slice.injEq] at e5
    rw [e5.1]; exact i5
  have CLF : Hid (Calls Try.prog 83 #[.pointer (some ⟨O, 0, none⟩)] V fun e w' => LeftB V w' O bs y l e) := HLF.out V O bs va vc (by omega) hn8 HOV.out.cap (Nat.le_trans HSO.out.1 (Nat.le_of_lt HSO.out.2)) oV hvin
  have hnO : ∀ b, b < w.heap.size + 3 → b ≠ O := fun b hb e => by have := HB.out; have := HSO.out; omega
  clear bV hV K2 HO oV HLF hvin
  go_wp2_with fail
  rw [← HV.out]
  refine CLF.out.mono ?_
  rintro e w5 ⟨a2, c2, rfl, d5, m5, mc5, g5⟩
  clear CLF HV hO
  have R5 := K3.out.1.2.2.2.gw g5 (hnO _ (by omega))
  have W5 : Below w.heap.size w w5 := K3.out.1.1.trans ⟨g5.os, g5.tape, g5.output, g5.size, fun k hk => g5.block k (Nat.lt_of_lt_of_le hk K3.out.1.1.size) (fun e => hnO k (by omega) (Option.some.inj e))⟩
  have HL5 : Hid (l.tail.length = l.tail.length) := rfl
  have HM := hid11 m5
  have HMC := hid11 mc5
  have HW5 := hid11 W5
  generalize hlt : l.tail = l2 at *
  generalize hl2 : l2.length = n2 at *
  have HN2 := hid11 hl2
  generalize nextW l = nx at *
  generalize busyW y l = by2 at *
  obtain ⟨o0, o1, of, _⟩ := d5
  obtain ⟨r0, r1, r2, r3, rf, _⟩ := R5
  have HNW : Hid (∀ y0 y1 y2 y3, WtNew ((((w5.setCell ⟨w.heap.size + 2, 0, none⟩ y0).setCell ⟨w.heap.size + 2, 1, none⟩ y1).setCell ⟨w.heap.size + 2, 2, none⟩ y2).setCell ⟨w.heap.size + 2, 3, none⟩ y3) w.heap.size (.slice a2 n2 c2) l2) := fun y0 y1 y2 y3 => by
    have hh := HB.out
    refine WtNew.lower ?_ (Nat.le_trans (Nat.le_add_right _ 3) hh.1)
    refine WtNew.gw2 (g := w.heap.size + 2) ?_ (gwSet _ _ _ _) (by omega)
    refine WtNew.gw2 (g := w.heap.size + 2) ?_ (gwSet _ _ _ _) (by omega)
    refine WtNew.gw2 (g := w.heap.size + 2) ?_ (gwSet _ _ _ _) (by omega)
    exact WtNew.gw2 (g := w.heap.size + 2) HM.out (gwSet _ _ _ _) (by omega)
  clear m5 mc5 g5 W5 K3 HOV HOX HM hnO hlt hl2 HL5
  go_wp2_with fail
  exact bodyPost_ret (v := .agg #[.int .i64 0, .int .i64 by2, .slice a2 n2 c2, .int .i64 nx]) (by simp [results, Try.results31, go_sem, r0, r1, r2, r3]) rfl ⟨LeRes.mk HE.out HN2.out (HNW.out _ _ _ _) HMC.out, ((((HW5.out.setCell (by simp <;> omega) _).setCell (by simp <;> omega) _).setCell (by simp <;> omega) _).setCell (by simp <;> omega) _)⟩
end Go.Proofs.Ytdfikpadanmgmaa
