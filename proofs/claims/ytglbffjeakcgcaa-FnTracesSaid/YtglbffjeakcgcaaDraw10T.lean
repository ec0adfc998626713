/-
  The draws of traces.
-/
import Derived.Test.YtglbffjeakcgcaaDrawHeapT
import Derived.Test.YtglbffjeakcgcaaDraw10R
namespace Go.Proofs.Ytglbffjeakcgcaa
open Go.ChangeShapes Go.WideShapes Go.ChangeAt Go.RowKit Go.Sort
/-- What is held while traces are drawn. -/
structure DT (w X : World) (L bs : Nat) (a0 a1 a2 a3 a4 : Int) (a : Option Addr) (len cap k : Nat) (v : Value) (l : List Tr) : Prop where
  sr : Src X (w.heap.size + 1) a len cap k
  r0 : C5 X w.heap.size (.int .i64 0) (.int .i64 0) (.int .i64 0) (.int .i64 0) (.int .i64 0)
  rl : C5 X L (.int .i64 a0) (.int .i64 a1) (.int .i64 a2) (.int .i64 a3) (.int .i64 a4)
  lo : Below w.heap.size w X
  ow : OwnTr X bs v l
  bb : w.heap.size + 2 ≤ L ∧ L < bs ∧ bs ≤ X.heap.size
theorem DT.step {w X Y : World} {L bs : Nat} {a0 a1 a2 a3 a4 : Int} {a : Option Addr} {len cap k k' : Nat} {v : Value} {l : List Tr} (h : DT w X L bs a0 a1 a2 a3 a4 a len cap k v l) (hs : Src Y (w.heap.size + 1) a len cap k') (hb : Below (w.heap.size + 1) X Y) (ha : ApartH (w.heap.size + 1) X Y) : DT w Y L bs a0 a1 a2 a3 a4 a len cap k' v l :=
  ⟨hs, h.r0.apart ha.cells (by omega), h.rl.apart ha.cells (by have := h.bb; omega), h.lo.trans (hb.mono (Nat.le_succ _)), h.ow.apart ha (by have := h.bb; omega), h.bb.1, h.bb.2.1, Nat.le_trans h.bb.2.2 ha.size⟩
theorem DT.tell {w X Y : World} {L bs : Nat} {a0 a1 a2 a3 a4 : Int} {a : Option Addr} {len cap k : Nat} {v v' : Value} {l l' : List Tr} (h : DT w X L bs a0 a1 a2 a3 a4 a len cap k v l) (ho : OwnTr Y bs v' l') (hb : Below bs X Y) : DT w Y L bs a0 a1 a2 a3 a4 a len cap k v' l' :=
  ⟨h.sr.below (hb.mono (by have := h.bb; omega)), h.r0.low hb (by have := h.bb; omega), h.rl.low hb h.bb.2.1, h.lo.trans (hb.mono (by have := h.bb; omega)), ho, h.bb.1, h.bb.2.1, Nat.le_trans h.bb.2.2 hb.size⟩
set_option maxRecDepth 100000 in
set_option maxHeartbeats 16000000 in
theorem drawTraces_any (w : World) (a : Option Addr) (len cap : Nat) (hc : CodeRow w w.heap.size a len) (hl2 : len ≤ 1048576) :
    Calls Try.prog 26 #[.slice a len cap] w fun e w' => (∃ (a0 a1 a2 a3 a4 : Int) (va : Option Addr) (vc : Nat) (l : List Tr), e = .returned (.tuple #[.agg #[.int .i64 a0, .int .i64 a1, .int .i64 a2, .int .i64 a3, .int .i64 a4], .slice va l.length vc]) ∧ l.length ≤ 101 ∧ TrIn w' va l) ∧ Below w.heap.size w w' := by
  obtain ⟨W, hW⟩ : ∃ W, W = w.alloc (.cells #[.int .i64 0, .int .i64 0, .int .i64 0, .int .i64 0, .int .i64 0] 50) := ⟨_, rfl⟩
  have HW := hid12 hW
  have bW : Below w.heap.size w W := by rw [hW]; exact (Below.refl _ _).alloc (Nat.le_refl _) _
  have hsz : W.heap.size = w.heap.size + 1 := by rw [hW]; simp
  have HM : Hid (C5 W w.heap.size (.int .i64 0) (.int .i64 0) (.int .i64 0) (.int .i64 0) (.int .i64 0)) := by show C5 _ _ _ _ _ _ _; rw [hW]; exact C5.new w _ _ _ _ _ _
  have HSR : Hid (Calls Try.prog 65 #[.slice a len cap] W fun e w' => e = .returned (.pointer (some ⟨w.heap.size + 1, 0, none⟩)) ∧ Src w' (w.heap.size + 1) a len cap 0 ∧ Below (w.heap.size + 1) W w') := by
    have := l1Source_any W a len cap ((hc.below bW).mono (by omega))
    rw [hsz] at this
    exact this
  have HBW := hid12 bW
  have HCR : Hid (∀ X, Below w.heap.size w X → CodeRow X X.heap.size a len) := fun X hX => (hc.below hX).mono hX.size
  clear hc hW bW hsz
  go_enter Try.func26, Try.ntmps26
  go_wp2_with fail
  rw [← HW.out]
  clear HW
  refine HSR.out.mono ?_
  rintro r w1 ⟨rfl, hs1, hb1⟩
  have HS1 := hid12 hs1
  have HB1 := hid12 (HBW.out.trans (hb1.mono (Nat.le_succ _)))
  have HR1 := hid12 (HM.out.low hb1 (by omega))
  clear hs1 hb1 HSR HM HBW
  go_wp2_with fail
  refine (drawRules_any _ a len cap (HCR.out _ HB1.out) hl2).mono ?_
  rintro r w2 ⟨⟨a0, a1, a2, a3, a4, rfl⟩, hb2⟩
  obtain ⟨V, hV⟩ : ∃ V, V = w2.alloc (.cells #[.int .i64 a0, .int .i64 a1, .int .i64 a2, .int .i64 a3, .int .i64 a4] 50) := ⟨_, rfl⟩
  have HV := hid12 hV
  have bV : Below w2.heap.size w2 V := by rw [hV]; exact (Below.refl _ _).alloc (Nat.le_refl _) _
  have b1V := hb2.trans (bV.mono hb2.size)
  have dV : C5 V w2.heap.size (.int .i64 a0) (.int .i64 a1) (.int .i64 a2) (.int .i64 a3) (.int .i64 a4) := by rw [hV]; exact C5.new w2 _ _ _ _ _ _
  have szV : V.heap.size = w2.heap.size + 1 := by rw [hV]; simp
  have w1B : w.heap.size + 2 ≤ w2.heap.size := Nat.le_trans HS1.out.lt hb2.size
  obtain ⟨L, hL⟩ : ∃ L, w2.heap.size = L := ⟨_, rfl⟩
  rw [hL] at dV szV w1B
  have HJ0 : Hid (DT w (V.alloc (.cells #[] 62)) L V.heap.size a0 a1 a2 a3 a4 a len cap 0 (.slice (some ⟨V.heap.size, 0, none⟩) 0 0) []) := by
    have bA : Below V.heap.size V (V.alloc (.cells #[] 62)) := (Below.refl _ _).alloc (Nat.le_refl _) _
    have b1A := b1V.trans (bA.mono b1V.size)
    exact ⟨HS1.out.below (b1A.mono HS1.out.lt), HR1.out.keep b1A, dV.keep bA, HB1.out.trans (b1A.mono HB1.out.size), OwnTr.made0 V V.heap.size (Nat.le_refl _), w1B, by omega, bA.size⟩
  obtain ⟨bs, hbs⟩ : ∃ b, V.heap.size = b := ⟨_, rfl⟩
  obtain ⟨V1, hV1⟩ : ∃ V1, V1 = V.alloc (.cells #[] 62) := ⟨_, rfl⟩
  have HV1 := hid12 hV1
  rw [hbs, ← hV1] at HJ0
  clear hb2 hV bV b1V dV szV w1B HS1 HB1 HR1 HCR hV1
  go_upto_region 3 with fail
  rw [← HV.out]
  clear HV hL
  go_upto_region 5 with fail
  rw [← HV1.out]
  clear HV1
  go_wp2_with fail
  clear hbs
  refine (l1Pick_h _ (w.heap.size + 1) a len cap 0 HJ0.out.sr [0, 3, 9, 20] 4 rfl (by omega) (by omega) (by omega) hl2).mono ?_
  rintro r w3 ⟨⟨n, nm, rfl⟩, hs1, hb1, ha1⟩
  have hn : 0 ≤ n ∧ n ≤ 101 := by simp only [List.mem_cons, List.not_mem_nil, or_false] at nm; omega
  have HJ1 := hid12 (HJ0.out.step hs1 hb1 ha1)
  clear hs1 hb1 ha1 nm HJ0
  go_wp2_with fail
  refine (l1Chance_h _ (w.heap.size + 1) a len cap 1 25 HJ1.out.sr (by omega) (by omega) (by omega) hl2).mono ?_
  rintro r w4 ⟨⟨c, rfl⟩, hs1, hb1, ha1⟩
  have HJ2 := hid12 (HJ1.out.step hs1 hb1 ha1)
  clear hs1 hb1 ha1 HJ1
  cases c
  · go_wp2_with fail
    go_loopw [6, 7, 8] (fun u v i X => ∃ (N : Nat) (now : Int) (l : List Tr) (k : Nat), i = .int .i64 (N : Int) ∧ v = .int .i64 now ∧ l.length + N ≤ 101 ∧ k ≤ 10 + 6 * l.length ∧ -1 ≤ now ∧ now ≤ 1000000000000000 + 2500 * (l.length : Int) ∧ DT w X L bs a0 a1 a2 a3 a4 a len cap k u l) (fun _ _ i _ => (intOf i).toNat)
    case atStart => exact ⟨n.toNat, 0, [], 2, by rw [Int.toNat_of_nonneg hn.1], rfl, by simp; omega, by simp, by omega, by simp, HJ2.out⟩
    case round =>
      obtain ⟨N, now, l, k, rfl, rfl, hlN, hk, hn0, hn1, hJ⟩ := hrel
      clear HJ2 hn
      have J0 := hid12 hJ
      clear hJ
      cases N with
      | zero =>
        obtain ⟨va, vc, rfl, _, hin⟩ := J0.out.ow.in
        obtain ⟨q0, q1, q2, q3, q4, qf, _⟩ := J0.out.rl
        obtain ⟨r0, r1, r2, r3, r4, rf, _⟩ := J0.out.r0
        have HLO := hid12 J0.out.lo
        have HIN : Hid (∀ y0 y1 y2 y3 y4, TrIn (((((wr.setCell ⟨w.heap.size, 0, none⟩ y0).setCell ⟨w.heap.size, 1, none⟩ y1).setCell ⟨w.heap.size, 2, none⟩ y2).setCell ⟨w.heap.size, 3, none⟩ y3).setCell ⟨w.heap.size, 4, none⟩ y4) va l) := fun y0 y1 y2 y3 y4 => by
          have ho := J0.out.ow
          have hb := J0.out.bb
          have kp : ∀ (X : World) (o : Nat) (y : Value), OwnTr X bs (.slice va l.length vc) l → OwnTr (X.setCell ⟨w.heap.size, o, none⟩ y) bs (.slice va l.length vc) l := fun X o y h => World.ownsRow.kept h (gbSet X w.heap.size o y) (by
            cases e : (Value.slice va l.length vc).ownBlock with
            | none => exact .inl rfl
            | some q => right; intro e2; have := row_ge h q e; have := Option.some.inj e2; omega)
          obtain ⟨x1, x2, e5, _, i5⟩ := (kp _ _ _ (kp _ _ _ (kp _ _ _ (kp _ _ _ (kp _ _ _ ho))))).in
          simp only [Value.slice.injEq] at e5
          rw [e5.1]; exact i5
        have hl101 : l.length ≤ 101 := by omega
        clear J0 hin
        go_wp2_with fail
        exact bodyPost_ret (v := .tuple #[.agg #[.int .i64 a0, .int .i64 a1, .int .i64 a2, .int .i64 a3, .int .i64 a4], .slice va l.length vc]) (by simp [results, Try.results26, go_sem, r0, r1, r2, r3, r4]) rfl ⟨⟨a0, a1, a2, a3, a4, va, vc, l, rfl, hl101, HIN.out _ _ _ _ _⟩, ((((HLO.out.setCell (Nat.le_refl _) _).setCell (Nat.le_refl _) _).setCell (Nat.le_refl _) _).setCell (Nat.le_refl _) _).setCell (Nat.le_refl _) _⟩
      | succ N =>
        have gN : (0 : Int) < ((N + 1 : Nat) : Int) := by omega
        go_wp2_with fail
        refine (l1Pick_h _ (w.heap.size + 1) a len cap k J0.out.sr [0, 10, 100, 600, 2500] 5 rfl (by omega) (by omega) (by omega) hl2).mono ?_
        rintro r x1 ⟨⟨d, dm, rfl⟩, hs1, hb1, ha1⟩
        have hd : 0 ≤ d ∧ d ≤ 2500 := by simp only [List.mem_cons, List.not_mem_nil, or_false] at dm; omega
        clear dm
        have J1 := hid12 (J0.out.step hs1 hb1 ha1)
        clear hs1 hb1 ha1 J0
        have wn : IntKind.i64.wrap (now + d) = now + d := by rw [IntKind.wrap_i64]; omega
        go_wp2_with fail
        refine (l1Chance_h _ (w.heap.size + 1) a len cap (k + 1) 60 J1.out.sr (by omega) (by omega) (by omega) hl2).mono ?_
        rintro r x2 ⟨⟨cc, rfl⟩, hs1, hb1, ha1⟩
        have J2 := hid12 (J1.out.step hs1 hb1 ha1)
        clear hs1 hb1 ha1 J1

        cases cc
        · skip
          go_wp2_with fail
          refine (l1Chance_h _ (w.heap.size + 1) a len cap (k + 2) 2 J2.out.sr (by omega) (by omega) (by omega) hl2).mono ?_
          rintro r x3 ⟨⟨b1, rfl⟩, hs1, hb1, ha1⟩
          have J3 := hid12 (J2.out.step hs1 hb1 ha1)
          clear hs1 hb1 ha1 J2
          go_wp2_with fail
          refine (l1Chance_h _ (w.heap.size + 1) a len cap (k + 2 + 1) 2 J3.out.sr (by omega) (by omega) (by omega) hl2).mono ?_
          rintro r x4 ⟨⟨b2, rfl⟩, hs1, hb1, ha1⟩
          have J4 := hid12 (J3.out.step hs1 hb1 ha1)
          clear hs1 hb1 ha1 J3
          have hbx : bs ≤ x4.heap.size := J4.out.bb.2.2
          go_wp2_with (at_builtin; refine wpList_append1Tr x4 rfl (.tmp 36) (.tmp 43) rfl bs u6 l ⟨(now + d), b1, b2⟩ rfl rfl J4.out.ow (by omega) hbx ?_; intro v2 x5 h1 h2 _; have J5 := hid12 (J4.out.tell h1 h2); clear h1 h2)
          go_roundw
          case rel => exact ⟨N, (now + d), l ++ [⟨(now + d), b1, b2⟩], k + 2 + 2, by go_num, rfl, by simp; omega, by simp; omega, by omega, by simp; omega, J5.out⟩
          case measure => simp [intOf]

        · skip
          go_wp2_with fail
          refine (l1Pick_h _ (w.heap.size + 1) a len cap (k + 2) J2.out.sr [-1, 0, 1000000000000000] 3 rfl (by omega) (by omega) (by omega) hl2).mono ?_
          rintro r x6 ⟨⟨now2, dm, rfl⟩, hs1, hb1, ha1⟩
          have hd2 : -1 ≤ now2 ∧ now2 ≤ 1000000000000000 := by simp only [List.mem_cons, List.not_mem_nil, or_false] at dm; omega
          clear dm
          have J6 := hid12 (J2.out.step hs1 hb1 ha1)
          clear hs1 hb1 ha1 J2
          go_wp2_with fail
          refine (l1Chance_h _ (w.heap.size + 1) a len cap (k + 3) 2 J6.out.sr (by omega) (by omega) (by omega) hl2).mono ?_
          rintro r x3 ⟨⟨b1, rfl⟩, hs1, hb1, ha1⟩
          have J3 := hid12 (J6.out.step hs1 hb1 ha1)
          clear hs1 hb1 ha1 J6
          go_wp2_with fail
          refine (l1Chance_h _ (w.heap.size + 1) a len cap (k + 3 + 1) 2 J3.out.sr (by omega) (by omega) (by omega) hl2).mono ?_
          rintro r x4 ⟨⟨b2, rfl⟩, hs1, hb1, ha1⟩
          have J4 := hid12 (J3.out.step hs1 hb1 ha1)
          clear hs1 hb1 ha1 J3
          have hbx : bs ≤ x4.heap.size := J4.out.bb.2.2
          go_wp2_with (at_builtin; refine wpList_append1Tr x4 rfl (.tmp 36) (.tmp 43) rfl bs u6 l ⟨now2, b1, b2⟩ rfl rfl J4.out.ow (by omega) hbx ?_; intro v2 x5 h1 h2 _; have J5 := hid12 (J4.out.tell h1 h2); clear h1 h2)
          go_roundw
          case rel => exact ⟨N, now2, l ++ [⟨now2, b1, b2⟩], k + 3 + 2, by go_num, rfl, by simp; omega, by simp; omega, by omega, by simp; omega, J5.out⟩
          case measure => simp [intOf]


  · clear hn
    go_wp2_with fail
    refine (l1Pick_h _ (w.heap.size + 1) a len cap 2 HJ2.out.sr [100, 101] 2 rfl (by omega) (by omega) (by omega) hl2).mono ?_
    rintro r w5 ⟨⟨n2, nm, rfl⟩, hs1, hb1, ha1⟩
    have hn : 0 ≤ n2 ∧ n2 ≤ 101 := by simp only [List.mem_cons, List.not_mem_nil, or_false] at nm; omega
    have HJ3 := hid12 (HJ2.out.step hs1 hb1 ha1)
    clear hs1 hb1 ha1 nm HJ2
    go_wp2_with fail
    go_loopw [6, 7, 8] (fun u v i X => ∃ (N : Nat) (now : Int) (l : List Tr) (k : Nat), i = .int .i64 (N : Int) ∧ v = .int .i64 now ∧ l.length + N ≤ 101 ∧ k ≤ 10 + 6 * l.length ∧ -1 ≤ now ∧ now ≤ 1000000000000000 + 2500 * (l.length : Int) ∧ DT w X L bs a0 a1 a2 a3 a4 a len cap k u l) (fun _ _ i _ => (intOf i).toNat)
    case atStart => exact ⟨n2.toNat, 0, [], 3, by rw [Int.toNat_of_nonneg hn.1], rfl, by simp; omega, by simp, by omega, by simp, HJ3.out⟩
    case round =>
      obtain ⟨N, now, l, k, rfl, rfl, hlN, hk, hn0, hn1, hJ⟩ := hrel
      clear HJ3 hn
      have J0 := hid12 hJ
      clear hJ
      cases N with
      | zero =>
        obtain ⟨va, vc, rfl, _, hin⟩ := J0.out.ow.in
        obtain ⟨q0, q1, q2, q3, q4, qf, _⟩ := J0.out.rl
        obtain ⟨r0, r1, r2, r3, r4, rf, _⟩ := J0.out.r0
        have HLO := hid12 J0.out.lo
        have HIN : Hid (∀ y0 y1 y2 y3 y4, TrIn (((((wr.setCell ⟨w.heap.size, 0, none⟩ y0).setCell ⟨w.heap.size, 1, none⟩ y1).setCell ⟨w.heap.size, 2, none⟩ y2).setCell ⟨w.heap.size, 3, none⟩ y3).setCell ⟨w.heap.size, 4, none⟩ y4) va l) := fun y0 y1 y2 y3 y4 => by
          have ho := J0.out.ow
          have hb := J0.out.bb
          have kp : ∀ (X : World) (o : Nat) (y : Value), OwnTr X bs (.slice va l.length vc) l → OwnTr (X.setCell ⟨w.heap.size, o, none⟩ y) bs (.slice va l.length vc) l := fun X o y h => World.ownsRow.kept h (gbSet X w.heap.size o y) (by
            cases e : (Value.slice va l.length vc).ownBlock with
            | none => exact .inl rfl
            | some q => right; intro e2; have := row_ge h q e; have := Option.some.inj e2; omega)
          obtain ⟨x1, x2, e5, _, i5⟩ := (kp _ _ _ (kp _ _ _ (kp _ _ _ (kp _ _ _ (kp _ _ _ ho))))).in
          simp only [Value.slice.injEq] at e5
          rw [e5.1]; exact i5
        have hl101 : l.length ≤ 101 := by omega
        clear J0 hin
        go_wp2_with fail
        exact bodyPost_ret (v := .tuple #[.agg #[.int .i64 a0, .int .i64 a1, .int .i64 a2, .int .i64 a3, .int .i64 a4], .slice va l.length vc]) (by simp [results, Try.results26, go_sem, r0, r1, r2, r3, r4]) rfl ⟨⟨a0, a1, a2, a3, a4, va, vc, l, rfl, hl101, HIN.out _ _ _ _ _⟩, ((((HLO.out.setCell (Nat.le_refl _) _).setCell (Nat.le_refl _) _).setCell (Nat.le_refl _) _).setCell (Nat.le_refl _) _).setCell (Nat.le_refl _) _⟩
      | succ N =>
        have gN : (0 : Int) < ((N + 1 : Nat) : Int) := by omega
        go_wp2_with fail
        refine (l1Pick_h _ (w.heap.size + 1) a len cap k J0.out.sr [0, 10, 100, 600, 2500] 5 rfl (by omega) (by omega) (by omega) hl2).mono ?_
        rintro r x1 ⟨⟨d, dm, rfl⟩, hs1, hb1, ha1⟩
        have hd : 0 ≤ d ∧ d ≤ 2500 := by simp only [List.mem_cons, List.not_mem_nil, or_false] at dm; omega
        clear dm
        have J1 := hid12 (J0.out.step hs1 hb1 ha1)
        clear hs1 hb1 ha1 J0
        have wn : IntKind.i64.wrap (now + d) = now + d := by rw [IntKind.wrap_i64]; omega
        go_wp2_with fail
        refine (l1Chance_h _ (w.heap.size + 1) a len cap (k + 1) 60 J1.out.sr (by omega) (by omega) (by omega) hl2).mono ?_
        rintro r x2 ⟨⟨cc, rfl⟩, hs1, hb1, ha1⟩
        have J2 := hid12 (J1.out.step hs1 hb1 ha1)
        clear hs1 hb1 ha1 J1

        cases cc
        · skip
          go_wp2_with fail
          refine (l1Chance_h _ (w.heap.size + 1) a len cap (k + 2) 2 J2.out.sr (by omega) (by omega) (by omega) hl2).mono ?_
          rintro r x3 ⟨⟨b1, rfl⟩, hs1, hb1, ha1⟩
          have J3 := hid12 (J2.out.step hs1 hb1 ha1)
          clear hs1 hb1 ha1 J2
          go_wp2_with fail
          refine (l1Chance_h _ (w.heap.size + 1) a len cap (k + 2 + 1) 2 J3.out.sr (by omega) (by omega) (by omega) hl2).mono ?_
          rintro r x4 ⟨⟨b2, rfl⟩, hs1, hb1, ha1⟩
          have J4 := hid12 (J3.out.step hs1 hb1 ha1)
          clear hs1 hb1 ha1 J3
          have hbx : bs ≤ x4.heap.size := J4.out.bb.2.2
          go_wp2_with (at_builtin; refine wpList_append1Tr x4 rfl (.tmp 36) (.tmp 43) rfl bs u6 l ⟨(now + d), b1, b2⟩ rfl rfl J4.out.ow (by omega) hbx ?_; intro v2 x5 h1 h2 _; have J5 := hid12 (J4.out.tell h1 h2); clear h1 h2)
          go_roundw
          case rel => exact ⟨N, (now + d), l ++ [⟨(now + d), b1, b2⟩], k + 2 + 2, by go_num, rfl, by simp; omega, by simp; omega, by omega, by simp; omega, J5.out⟩
          case measure => simp [intOf]

        · skip
          go_wp2_with fail
          refine (l1Pick_h _ (w.heap.size + 1) a len cap (k + 2) J2.out.sr [-1, 0, 1000000000000000] 3 rfl (by omega) (by omega) (by omega) hl2).mono ?_
          rintro r x6 ⟨⟨now2, dm, rfl⟩, hs1, hb1, ha1⟩
          have hd2 : -1 ≤ now2 ∧ now2 ≤ 1000000000000000 := by simp only [List.mem_cons, List.not_mem_nil, or_false] at dm; omega
          clear dm
          have J6 := hid12 (J2.out.step hs1 hb1 ha1)
          clear hs1 hb1 ha1 J2
          go_wp2_with fail
          refine (l1Chance_h _ (w.heap.size + 1) a len cap (k + 3) 2 J6.out.sr (by omega) (by omega) (by omega) hl2).mono ?_
          rintro r x3 ⟨⟨b1, rfl⟩, hs1, hb1, ha1⟩
          have J3 := hid12 (J6.out.step hs1 hb1 ha1)
          clear hs1 hb1 ha1 J6
          go_wp2_with fail
          refine (l1Chance_h _ (w.heap.size + 1) a len cap (k + 3 + 1) 2 J3.out.sr (by omega) (by omega) (by omega) hl2).mono ?_
          rintro r x4 ⟨⟨b2, rfl⟩, hs1, hb1, ha1⟩
          have J4 := hid12 (J3.out.step hs1 hb1 ha1)
          clear hs1 hb1 ha1 J3
          have hbx : bs ≤ x4.heap.size := J4.out.bb.2.2
          go_wp2_with (at_builtin; refine wpList_append1Tr x4 rfl (.tmp 36) (.tmp 43) rfl bs u6 l ⟨now2, b1, b2⟩ rfl rfl J4.out.ow (by omega) hbx ?_; intro v2 x5 h1 h2 _; have J5 := hid12 (J4.out.tell h1 h2); clear h1 h2)
          go_roundw
          case rel => exact ⟨N, now2, l ++ [⟨now2, b1, b2⟩], k + 3 + 2, by go_num, rfl, by simp; omega, by simp; omega, by omega, by simp; omega, J5.out⟩
          case measure => simp [intOf]


end Go.Proofs.Ytglbffjeakcgcaa
