/-
  RunTraces, by the model.
-/
import Derived.Test.YtglbffjeakcgcaaTrcR
import Derived.Test.YtglbffjeakcgcaaNoteS
import Derived.Deep.RegionHeld3
import Derived.Deep.CutRange
namespace Go.Proofs.Ytglbffjeakcgcaa
open Go.ChangeShapes Go.WideShapes Go.ChangeAt Go.RowKit Go.Sort
theorem TJ.turn2 {w wr w' : World} {R Z O B base : Nat} {a0 a1 a2 a3 a4 : Int} {b b' : Bk} {S : List Int} {A : List Bool} {sv av : Value} {ma xa : Option Addr} {mc xc : Nat} (h : TJ w R Z O B base a0 a1 a2 a3 a4 b S A sv av ma mc wr) (g : wr.grownBy w' (some B)) (h4 : S4 w' B (.int .i64 b'.s) (.int .i64 b'.t) (.int .i64 b'.o) (.slice xa b'.l.length xc)) (hm : MkNew w' base (.slice xa b'.l.length xc) b'.l)
    (hap : ∀ Q, (Value.slice xa b'.l.length xc).ownBlock = some Q → b'.l = [] ∨ (sv.ownBlock ≠ some Q ∧ av.ownBlock ≠ some Q)) : TJ w R Z O B base a0 a1 a2 a3 a4 b' S A sv av xa xc w' := by
  have lo := h.lo
  refine ⟨h.bl.trans (gbTo g h.lw.2.2.2 h.bl.size), h.r.gb g h.ne.2.2.1, h.z.gb g h.ne.2.2.2.2.1, h.o.gb g h.ne.2.2.2.2.2, h4, hm, h.s.kept g ?_, h.a.kept g ?_, hap, h.ap2, Nat.le_trans h.sz g.size, h.lw, h.lo, h.ne⟩
  · right; intro e; have := h.s.blk e; omega
  · right; intro e; have := h.a.blk e; omega
theorem TJ.asked {w wr w' : World} {R Z O B base : Nat} {a0 a1 a2 a3 a4 : Int} {b : Bk} {S : List Int} {A : List Bool} {sv av : Value} {ma : Option Addr} {mc : Nat} {s t o : Int} (h : TJ w R Z O B base a0 a1 a2 a3 a4 b S A sv av ma mc wr) (g : wr.grownBy w' (some B)) (h4 : S4 w' B (.int .i64 s) (.int .i64 t) (.int .i64 o) (.slice ma b.l.length mc)) : TJ w R Z O B base a0 a1 a2 a3 a4 ⟨s, t, o, b.l⟩ S A sv av ma mc w' :=
  h.turn2 (b' := ⟨s, t, o, b.l⟩) g h4 (h.m.gb2 g h.lo.2.2.2) h.ap1
theorem TJ.noted {w wr w' : World} {R Z O B base : Nat} {a0 a1 a2 a3 a4 : Int} {b b' : Bk} {S : List Int} {A : List Bool} {sv av : Value} {ma : Option Addr} {mc : Nat} (h : TJ w R Z O B base a0 a1 a2 a3 a4 b S A sv av ma mc wr) (g : wr.grownBy w' (some B)) (h4 : NoteT w' wr.heap.size B b') : ∃ xa xc, TJ w R Z O B base a0 a1 a2 a3 a4 b' S A sv av xa xc w' := by
  obtain ⟨xa, xc, h5, hm⟩ := h4
  refine ⟨xa, xc, h.turn2 g h5 (hm.lower h.sz) ?_⟩
  intro Q hQ
  rcases hm with ⟨e, _⟩ | ⟨G, off, cap, e, h1, h2, _⟩
  · exact .inl e
  · right
    rw [e] at hQ
    simp only [Value.ownBlock, Option.some.injEq] at hQ
    exact ⟨fun e2 => by have := h.s.blk e2; omega, fun e2 => by have := h.a.blk e2; omega⟩
set_option maxRecDepth 100000 in
set_option maxHeartbeats 16000000 in
theorem specTraces_any (w : World) (a0 a1 a2 a3 a4 : Int) (a : Option Addr) (cap : Nat) (l : List Tr) (hl : l.length ≤ 1048576) (hi : TrIn w a l) :
    Calls Try.prog 28 #[.agg #[.int .i64 a0, .int .i64 a1, .int .i64 a2, .int .i64 a3, .int .i64 a4], .slice a l.length cap] w fun e w' => TracesRes w' w.heap.size (tracesR a0 a1 a2 a3 a4 l) e ∧ Below w.heap.size w w' := by
  obtain ⟨W, hW⟩ : ∃ W, W = (w.alloc (.cells #[.int .i64 a0, .int .i64 a1, .int .i64 a2, .int .i64 a3, .int .i64 a4] 50)).alloc (.cells #[.int .i64 0, .slice none 0 0, .slice none 0 0] 56) := ⟨_, rfl⟩
  have HW : Hid (W = (w.alloc (.cells #[.int .i64 a0, .int .i64 a1, .int .i64 a2, .int .i64 a3, .int .i64 a4] 50)).alloc (.cells #[.int .i64 0, .slice none 0 0, .slice none 0 0] 56)) := hW
  have K0 : Hid (Below w.heap.size w W ∧ S5 W w.heap.size (.int .i64 a0) (.int .i64 a1) (.int .i64 a2) (.int .i64 a3) (.int .i64 a4) ∧ C3 W (w.heap.size + 1) (.int .i64 0) (.slice none 0 0) (.slice none 0 0) ∧ W.heap.size = w.heap.size + 2) := by
    have h2 := C3.new (w.alloc (.cells #[.int .i64 a0, .int .i64 a1, .int .i64 a2, .int .i64 a3, .int .i64 a4] 50)) (.int .i64 0) (.slice none 0 0) (.slice none 0 0) 56
    rw [show (w.alloc (.cells #[.int .i64 a0, .int .i64 a1, .int .i64 a2, .int .i64 a3, .int .i64 a4] 50)).heap.size = w.heap.size + 1 by simp] at h2
    rw [hW]
    exact ⟨((Below.refl _ _).alloc (Nat.le_refl _) _).alloc (by simp) _, (S5.new w _ _ _ _ _ _).keep ((Below.refl _ _).alloc (Nat.le_refl _) _), h2, by simp⟩
  have HR : Hid (∀ X, Calls Try.prog 36 #[.agg #[.int .i64 a0, .int .i64 a1, .int .i64 a2, .int .i64 a3, .int .i64 a4]] X fun r w' => r = .returned (.int .i64 (rulesC a0 a1 a2 a3 a4)) ∧ Below X.heap.size X w') := fun X => specRules_any a0 a1 a2 a3 a4 X
  have HI : Hid (TrIn w a l) := hi
  obtain ⟨q, hq⟩ : ∃ q, tracesR a0 a1 a2 a3 a4 l = q := ⟨_, rfl⟩
  have H1 : Hid (¬ rulesC a0 a1 a2 a3 a4 = 0 → q = (rulesC a0 a1 a2 a3 a4, [], [])) := fun h => by rw [← hq, tracesR, if_neg h]
  have H2 : Hid (rulesC a0 a1 a2 a3 a4 = 0 → 100 < l.length → q = (2, [], [])) := fun h h2 => by rw [← hq, tracesR, if_pos h, if_pos h2]
  have H3 : Hid (rulesC a0 a1 a2 a3 a4 = 0 → ¬ 100 < l.length → q = runT a0 a1 a2 a3 a4 ⟨0, 0, 0, []⟩ l [] []) := fun h h2 => by rw [← hq, tracesR, if_pos h, if_neg h2]
  rw [hq]
  clear hq hi hW
  generalize rulesC a0 a1 a2 a3 a4 = rc at *
  obtain ⟨n, hn⟩ : ∃ n, l.length = n := ⟨_, rfl⟩
  have HN : Hid (l.length = n) := hn
  rw [hn] at hl H2 H3 ⊢
  clear hn
  go_enter Try.func28, Try.ntmps28
  go_wp2_with fail
  rw [← HW.out]
  refine (HR.out _).mono ?_
  rintro e w1 ⟨rfl, hb1⟩
  have K1 : Hid (Below w.heap.size w w1 ∧ S5 w1 w.heap.size (.int .i64 a0) (.int .i64 a1) (.int .i64 a2) (.int .i64 a3) (.int .i64 a4) ∧ C3 w1 (w.heap.size + 1) (.int .i64 0) (.slice none 0 0) (.slice none 0 0) ∧ w.heap.size + 2 ≤ w1.heap.size) := ⟨K0.out.1.trans (hb1.mono K0.out.1.size), K0.out.2.1.keep hb1, K0.out.2.2.1.keep hb1, by have := hb1.size; rw [K0.out.2.2.2] at this; exact this⟩
  clear hb1 K0 HW HR
  obtain ⟨r0, r1, r2, rf, _⟩ := K1.out.2.2.1
  by_cases hc : rc = 0
  rotate_left
  · have HE : Hid (q = (rc, [], [])) := H1.out hc
    have n0 : (rc != 0) = true := by simpa using hc
    clear H1 H2 H3
    go_wp2_with fail
    exact bodyPost_ret (v := .agg #[.int .i64 rc, .slice none 0 0, .slice none 0 0]) (by simp [results, Try.results28, go_sem, r0, r1, r2]) rfl ⟨TracesRes.bad HE.out, ((K1.out.1.setCell (by simp <;> omega) _).setCell (by simp <;> omega) _).setCell (by simp <;> omega) _⟩
  subst hc
  have H22 : Hid (100 < n → q = (2, [], [])) := H2.out (by trivial)
  have H32 : Hid (¬ 100 < n → q = runT a0 a1 a2 a3 a4 ⟨0, 0, 0, []⟩ l [] []) := H3.out (by trivial)
  clear H1 H2 H3
  by_cases hbig : 100 < n
  · have HE : Hid (q = (2, [], [])) := H22.out hbig
    have hb' : (100 : Int) < (n : Int) := by omega
    clear H22 H32
    go_wp2_with fail
    exact bodyPost_ret (v := .agg #[.int .i64 2, .slice none 0 0, .slice none 0 0]) (by simp [results, Try.results28, go_sem, r0, r1, r2]) rfl ⟨TracesRes.bad HE.out, ((K1.out.1.setCell (by simp <;> omega) _).setCell (by simp <;> omega) _).setCell (by simp <;> omega) _⟩
  have HQ0 : Hid (q = runT a0 a1 a2 a3 a4 ⟨0, 0, 0, []⟩ l [] []) := H32.out hbig
  have hb' : ¬ (100 : Int) < (n : Int) := by omega
  clear H22 H32 r0 r1 r2 rf
  obtain ⟨O, hO⟩ : ∃ O, w1.heap.size = O := ⟨_, rfl⟩
  obtain ⟨V, hV⟩ : ∃ V, V = (w1.alloc (.cells #[.int .i64 0, .int .i64 0, .int .i64 0, .slice none 0 0] 60)).alloc (.cells #[.int .i64 0, .slice none 0 0, .slice none 0 0] 56) := ⟨_, rfl⟩
  have HV : Hid (V = (w1.alloc (.cells #[.int .i64 0, .int .i64 0, .int .i64 0, .slice none 0 0] 60)).alloc (.cells #[.int .i64 0, .slice none 0 0, .slice none 0 0] 56)) := hV
  have J0 : Hid (TJ w w.heap.size (w.heap.size + 1) (O + 1) O (O + 2) a0 a1 a2 a3 a4 ⟨0, 0, 0, []⟩ [] [] (.slice none 0 0) (.slice none 0 0) none 0 V) := by
    have k1 := K1.out
    have b1 : Below w1.heap.size w1 V := by rw [hV]; exact ((Below.refl _ _).alloc (Nat.le_refl _) _).alloc (by simp) _
    have h4 : S4 V O (.int .i64 0) (.int .i64 0) (.int .i64 0) (.slice none 0 0) := by rw [hV, ← hO]; exact (S4.new w1 _ _ _ _ _).keep ((Below.refl _ _).alloc (Nat.le_refl _) _)
    have h3 := C3.new (w1.alloc (.cells #[.int .i64 0, .int .i64 0, .int .i64 0, .slice none 0 0] 60)) (.int .i64 0) (.slice none 0 0) (.slice none 0 0) 56
    rw [show (w1.alloc (.cells #[.int .i64 0, .int .i64 0, .int .i64 0, .slice none 0 0] 60)).heap.size = O + 1 by rw [← hO]; simp, ← hV] at h3
    have sz : V.heap.size = O + 2 := by rw [hV, ← hO]; simp
    have l2 := k1.2.2.2
    exact ⟨k1.1.trans (b1.mono k1.1.size), k1.2.1.keep b1, k1.2.2.1.keep b1, h3, h4, MkNew.nil _ _ _ _, OwnNs.none0 _ _, OwnBs.none0 _ _, (fun Q hQ => by cases hQ), .inl rfl, by omega, ⟨by omega, by omega, by omega, by omega⟩, ⟨by omega, by omega, by omega, by omega⟩, ⟨by omega, by omega, by omega, by omega, by omega, by omega⟩⟩
  have hOw : w.heap.size + 2 ≤ O := by rw [← hO]; exact K1.out.2.2.2
  clear K1 hV
  go_wp2_with fail
  try rw [hO]
  rw [← HV.out]
  clear HV hO
  go_loopw [8] (fun i wr => ∃ (k : Nat) (b : Bk) (S : List Int) (A : List Bool) (sv av : Value) (ma : Option Addr) (mc : Nat), k ≤ n ∧ i = .int .i64 k ∧ S.length = k ∧ A.length = k ∧ b.l.length ≤ 60 ∧ q = runT a0 a1 a2 a3 a4 b (l.drop k) S A ∧ TJ w w.heap.size (w.heap.size + 1) (O + 1) O (O + 2) a0 a1 a2 a3 a4 b S A sv av ma mc wr) (fun i _ => n - (intOf i).toNat)
  case atStart => exact ⟨0, ⟨0, 0, 0, []⟩, [], [], _, _, none, 0, Nat.zero_le _, rfl, rfl, rfl, by simp, HQ0.out, J0.out⟩
  case round =>
    obtain ⟨k, b, S, A, sv, av, ma, mc, hk, rfl, hSk, hAk, hbl, hqk, J⟩ := hrel
    clear J0 HQ0
    have HQK : Hid (q = runT a0 a1 a2 a3 a4 b (l.drop k) S A) := hqk
    have HJ : Hid (TJ w w.heap.size (w.heap.size + 1) (O + 1) O (O + 2) a0 a1 a2 a3 a4 b S A sv av ma mc wr) := J
    have HSK : Hid (S.length = k ∧ A.length = k) := ⟨hSk, hAk⟩
    clear hqk J hSk hAk
    by_cases hlt : k < n
    · obtain ⟨x, hx⟩ : ∃ r, l[k]? = some r := ⟨l[k]'(by have := HN.out; omega), List.getElem?_eq_getElem _⟩
      have HX : Hid (l[k]? = some x) := hx
      rcases HI.out with h | ⟨bt, off, rfl, _⟩
      · subst h; simp at hx
      have HP : Hid (∀ X, Below w.heap.size w X → X.cell? ⟨bt, off + k * 3, none⟩ = some (.int .i64 x.tm) ∧ X.cell? ⟨bt, off + k * 3 + 1, none⟩ = some (.bool x.ak) ∧ X.cell? ⟨bt, off + k * 3 + 2, none⟩ = some (.bool x.gd)) := fun X hX => by
        rcases (HI.out.keep hX) with h | ⟨bt', off', e, hat⟩
        · rw [h] at hx; simp at hx
        simp only [Option.some.injEq, Addr.mk.injEq] at e
        obtain ⟨rfl, rfl, _⟩ := e
        exact hat k x hx
      have gk : (k : Int) < n := by omega
      have gk0 : (0 : Int) ≤ k := by omega
      clear hx
      obtain ⟨xt, xk, xg⟩ := x
      have HA1 : Hid (Calls Try.prog 68 #[.pointer (some ⟨O, 0, none⟩), .pointer (some ⟨w.heap.size, 0, none⟩), .int .i64 xt] wr fun e w' => e = .returned (.int .i64 (stepC b a0 a1 a2 a3 a4 ⟨xt, xk, xg⟩)) ∧ Below wr.heap.size wr w') := specAsk_any wr O w.heap.size b.s b.t b.o ma mc b.l a0 a1 a2 a3 a4 xt HJ.out.bb HJ.out.r (by obtain ⟨y, z, e, hin⟩ := HJ.out.m.in; simp only [Value.slice.injEq] at e; rw [e.1]; exact hin)
      obtain ⟨p0, p1, p2⟩ := HP.out wr HJ.out.bl
      try simp only at p0 p1 p2
      obtain ⟨tc, htc⟩ : ∃ tc, stepC b a0 a1 a2 a3 a4 ⟨xt, xk, xg⟩ = tc := ⟨_, rfl⟩
      have HTC : Hid (stepC b a0 a1 a2 a3 a4 ⟨xt, xk, xg⟩ = tc) := htc
      rw [htc] at HA1
      clear htc
      go_wp2_with fail
      refine HA1.out.mono ?_
      rintro e w2 ⟨rfl, hb2⟩
      have J2 : Hid (TJ w w.heap.size (w.heap.size + 1) (O + 1) O (O + 2) a0 a1 a2 a3 a4 b S A sv av ma mc w2) := HJ.out.keep hb2
      clear p0 p1 p2 HA1 HJ hb2
      by_cases hq0 : tc = 0
      rotate_left
      · have n0 : (tc != 0) = true := by simpa using hq0
        obtain ⟨r0, r1, r2, rf, _⟩ := J2.out.z
        have HE : Hid (q = (tc, [], [])) := by
          show _ = _
          rw [HQK.out, runT_stop HX.out (by rw [HTC.out]; exact hq0), HTC.out]
        have hbl2 : Hid (Below w.heap.size w w2) := J2.out.bl
        clear J2 HQK HTC HP
        go_wp2_with fail
        exact bodyPost_ret (v := .agg #[.int .i64 tc, .slice none 0 0, .slice none 0 0]) (by simp [results, Try.results28, go_sem, r0, r1, r2]) rfl ⟨TracesRes.bad HE.out, ((hbl2.out.setCell (by simp <;> omega) _).setCell (by simp <;> omega) _).setCell (by simp <;> omega) _⟩
      subst hq0
      have HG : Hid (Good b.s b.t b.o b.l a0 a1 a2 a3 a4 xt) := good_of HTC.out
      obtain ⟨p0, p1, p2⟩ := HP.out w2 J2.out.bl
      try simp only at p0 p1 p2
      obtain ⟨b', hb'2⟩ : ∃ b', stepB b a0 a1 a2 a3 a4 ⟨xt, xk, xg⟩ = b' := ⟨_, rfl⟩
      obtain ⟨g1, hg1⟩ : ∃ g1, stepA b a0 a1 a2 a3 a4 ⟨xt, xk, xg⟩ = g1 := ⟨_, rfl⟩
      have HST : Hid (q = runT a0 a1 a2 a3 a4 b' (l.drop (k + 1)) (S ++ [b'.s]) (A ++ [g1]) ∧ b'.l.length ≤ 60) := ⟨by rw [HQK.out, runT_step HX.out HTC.out, hb'2, hg1], by rw [← hb'2]; exact stepB_len HTC.out⟩
      have hS : S.length ≤ 2000000 := by have := HSK.out; omega
      have hA : A.length ≤ 2000000 := by have := HSK.out; omega
      clear HQK HTC HX
      cases xk
      · have hgf : g1 = false := by rw [← hg1]; rfl
        subst hgf
        have J2d : Hid (TJ w w.heap.size (w.heap.size + 1) (O + 1) O (O + 2) a0 a1 a2 a3 a4 b S A sv av ma mc w2.drew) := J2.out.keep (Below.refl _ _).drew
        have B0 : Hid (Below w.heap.size w w2.drew) := J2d.out.bl
        have HKS : Hid (∀ X, Below w.heap.size w X → X.cell? ⟨bt, off + k * 3, none⟩ = some (.int .i64 xt) ∧ X.cell? ⟨bt, off + k * 3 + 2, none⟩ = some (.bool xg)) := fun X hX => ⟨(HP.out X hX).1, (HP.out X hX).2.2⟩
        have HC1 : Hid (Calls Try.prog 70 #[.pointer (some ⟨O, 0, none⟩), .pointer (some ⟨w.heap.size, 0, none⟩), .int .i64 xt, .bool xg] w2.drew fun e w' => e = .returned (.tuple #[]) ∧ NoteT w' w2.drew.heap.size O b' ∧ w2.drew.grownBy w' (some O)) := by
          rw [← hb'2]
          exact specTurn_any w2.drew O w.heap.size (by omega) b.s b.t b.o ma mc b.l a0 a1 a2 a3 a4 xt xg HG.out J2d.out.bb J2d.out.r (by obtain ⟨y, z, e, hin⟩ := J2d.out.m.in; simp only [Value.slice.injEq] at e; rw [e.1]; exact hin)
        have HTN : Hid (∀ w3, NoteT w3 w2.drew.heap.size O b' → w2.drew.grownBy w3 (some O) → ∃ xa xc, TJ w w.heap.size (w.heap.size + 1) (O + 1) O (O + 2) a0 a1 a2 a3 a4 b' S A sv av xa xc w3) := fun w3 h1 h2 => J2d.out.noted h2 h1
        clear HG hb'2 hg1 J2 J2d HP
        go_wp2_with fail
        go_region_held3 (fun X => X.cell? ⟨bt, off + k * 3, none⟩ = some (.int .i64 xt) ∧ X.cell? ⟨bt, off + k * 3 + 2, none⟩ = some (.bool xg))
          (first | exact HKS.out _ BA.out | exact HKS.out _ B0.out)
          (first | (go_at_call 70; refine HC1.out.mono ?_; rintro e w3 ⟨rfl, hn3, hg3⟩; obtain ⟨xa, xc, j3⟩ := HTN.out w3 hn3 hg3; have J3 : Hid (TJ w w.heap.size (w.heap.size + 1) (O + 1) O (O + 2) a0 a1 a2 a3 a4 b' S A sv av xa xc w3) := j3; have BA : Hid (Below w.heap.size w w3) := j3.bl; clear hn3 hg3 j3))
        all_goals
         try clear HC1
         clear p0 p1 p2
         obtain ⟨f0, f1, f2, ff, _⟩ := J3.out.o
         have g0 := J3.out.bb.c0
         have hz3 := J3.out.sz
         go_upto_region 19 with (at_builtin; refine wpList_append1Ns w3 rfl (.tmp 62) (.tmp 65) rfl (O + 2) sv S b'.s rfl (by simp [go_sem]) J3.out.s hS hz3 ?_; intro gs cs w4 ho4 hg4 hw4; obtain ⟨y0, y1, y2, yf, _⟩ := J3.out.oc1 hg4; clear f0 f1 f2 ff g0)
         obtain ⟨X5, hX5⟩ : ∃ X5, X5 = w4.setCell ⟨O + 1, 1, none⟩ (.slice (some ⟨gs, 0, none⟩) (S.length + 1) cs) := ⟨_, rfl⟩
         rw [← hX5]
         have J5 : Hid (TJ w w.heap.size (w.heap.size + 1) (O + 1) O (O + 2) a0 a1 a2 a3 a4 b' (S ++ [b'.s]) A (.slice (some ⟨gs, 0, none⟩) (S.length + 1) cs) av xa xc X5) := by rw [hX5]; exact J3.out.tell1 ho4 hg4 hw4
         clear hX5 J3 y0 y1 y2 yf ho4 hg4 hw4 hz3
         obtain ⟨f0, f1, f2, ff, _⟩ := J5.out.o
         have hz5 := J5.out.sz
         go_wp2_with (at_builtin; refine wpList_append1Bs X5 rfl (.tmp 69) (.tmp 71) rfl (O + 2) av A false rfl (by simp [go_sem]) J5.out.a hA hz5 ?_; intro gs2 cs2 w6 ho6 hg6 hw6; obtain ⟨y0, y1, y2, yf, _⟩ := J5.out.oc2 hg6; clear f0 f1 f2 ff)
         go_roundw
         case rel => exact ⟨k + 1, b', S ++ [b'.s], A ++ [false], _, _, xa, xc, by omega, by go_num, by simp [HSK.out.1], by simp [HSK.out.2], HST.out.2, HST.out.1, J5.out.tell2 ho6 hg6 hw6⟩
         case measure => simp [intOf]; omega
      · have HC1 : Hid (Calls Try.prog 69 #[.pointer (some ⟨O, 0, none⟩), .pointer (some ⟨w.heap.size, 0, none⟩), .int .i64 xt] w2 fun e w' => e = .returned (.bool g1) ∧ S4 w' O (.int .i64 b'.s) (.int .i64 b'.t) (.int .i64 b'.o) (.slice ma b.l.length mc) ∧ b' = ⟨b'.s, b'.t, b'.o, b.l⟩ ∧ w2.grownBy w' (some O)) := by
          have h := specLetIn_any w2 O w.heap.size b.s b.t b.o (.slice ma b.l.length mc) a0 a1 a2 a3 a4 xt HG.out.hs ⟨HG.out.ht.1, HG.out.ht.2, HG.out.hnow⟩ HG.out.ho J2.out.bb J2.out.r
          have e1 : b' = ⟨alS b.s b.t b.o a3 a4 xt, b.t, alO b.s b.t b.o a3 a4 xt, b.l⟩ := by rw [← hb'2]; rfl
          have e2 : g1 = alB b.s b.t b.o a3 a4 xt := by rw [← hg1]; simp [stepA]
          rw [e1, e2]
          exact h.mono fun e w' ⟨h1, h2, h3⟩ => ⟨h1, h2, rfl, h3⟩
        clear HG hb'2 hg1
        go_wp2_with fail
        refine HC1.out.mono ?_
        rintro e w3 ⟨rfl, hn3, he3, hg3⟩
        have J3 : Hid (TJ w w.heap.size (w.heap.size + 1) (O + 1) O (O + 2) a0 a1 a2 a3 a4 b' S A sv av ma mc w3) := by
          show TJ _ _ _ _ _ _ _ _ _ _ _ _ _ _ _ _ _ _ _
          rw [he3]
          exact J2.out.asked hg3 hn3
        clear HC1 hn3 hg3 he3 J2 p0 p1 p2 HP
        obtain ⟨f0, f1, f2, ff, _⟩ := J3.out.o
        have g0 := J3.out.bb.c0
        have hz3 := J3.out.sz
        go_upto_region 19 with (at_builtin; refine wpList_append1Ns w3 rfl (.tmp 62) (.tmp 65) rfl (O + 2) sv S b'.s rfl (by simp [go_sem]) J3.out.s hS hz3 ?_; intro gs cs w4 ho4 hg4 hw4; obtain ⟨y0, y1, y2, yf, _⟩ := J3.out.oc1 hg4; clear f0 f1 f2 ff g0)
        obtain ⟨X5, hX5⟩ : ∃ X5, X5 = w4.setCell ⟨O + 1, 1, none⟩ (.slice (some ⟨gs, 0, none⟩) (S.length + 1) cs) := ⟨_, rfl⟩
        rw [← hX5]
        have J5 : Hid (TJ w w.heap.size (w.heap.size + 1) (O + 1) O (O + 2) a0 a1 a2 a3 a4 b' (S ++ [b'.s]) A (.slice (some ⟨gs, 0, none⟩) (S.length + 1) cs) av ma mc X5) := by rw [hX5]; exact J3.out.tell1 ho4 hg4 hw4
        clear hX5 J3 y0 y1 y2 yf ho4 hg4 hw4 hz3
        obtain ⟨f0, f1, f2, ff, _⟩ := J5.out.o
        have hz5 := J5.out.sz
        go_wp2_with (at_builtin; refine wpList_append1Bs X5 rfl (.tmp 69) (.tmp 71) rfl (O + 2) av A g1 rfl (by simp [go_sem]) J5.out.a hA hz5 ?_; intro gs2 cs2 w6 ho6 hg6 hw6; obtain ⟨y0, y1, y2, yf, _⟩ := J5.out.oc2 hg6; clear f0 f1 f2 ff)
        go_roundw
        case rel => exact ⟨k + 1, b', S ++ [b'.s], A ++ [g1], _, _, ma, mc, by omega, by go_num, by simp [HSK.out.1], by simp [HSK.out.2], HST.out.2, HST.out.1, J5.out.tell2 ho6 hg6 hw6⟩
        case measure => simp [intOf]; omega
    · obtain ⟨sa, sc, hsv, _, _⟩ := HJ.out.s.in
      obtain ⟨aa, ac, hav, _, _⟩ := HJ.out.a.in
      subst hsv
      subst hav
      obtain ⟨sn, hsn⟩ : ∃ sn, S.length = sn := ⟨_, rfl⟩
      obtain ⟨an, han⟩ : ∃ an, A.length = an := ⟨_, rfl⟩
      have HSN : Hid (S.length = sn ∧ A.length = an) := ⟨hsn, han⟩
      obtain ⟨r0, r1, r2, rf, _⟩ := HJ.out.z
      obtain ⟨f0, f1, f2, ff, _⟩ := HJ.out.o
      have HE : Hid (q = (0, S, A)) := by
        show _ = _
        rw [HQK.out, List.drop_of_length_le (by have := HN.out; omega), runT]
      have HZ : Hid (∀ x0 x1 x2, NsNew (((wr.setCell ⟨w.heap.size + 1, 0, none⟩ x0).setCell ⟨w.heap.size + 1, 1, none⟩ x1).setCell ⟨w.heap.size + 1, 2, none⟩ x2) w.heap.size (.slice sa sn sc) S ∧ BsNew (((wr.setCell ⟨w.heap.size + 1, 0, none⟩ x0).setCell ⟨w.heap.size + 1, 1, none⟩ x1).setCell ⟨w.heap.size + 1, 2, none⟩ x2) w.heap.size (.slice aa an ac) A) := fun x0 x1 x2 => by
        have hlo := HJ.out.lo.2.1
        have hs := HJ.out.s.new
        have ha := HJ.out.a.new
        rw [hsn] at hs
        rw [han] at ha
        exact ⟨(((hs.gb2 (gbSet _ _ _ _) hlo).gb2 (gbSet _ _ _ _) hlo).gb2 (gbSet _ _ _ _) hlo).lower (by omega), (((ha.gb2 (gbSet _ _ _ _) hlo).gb2 (gbSet _ _ _ _) hlo).gb2 (gbSet _ _ _ _) hlo).lower (by omega)⟩
      have HAP : Hid (∀ Q, (Value.slice sa sn sc).ownBlock = some Q → (Value.slice aa an ac).ownBlock = some Q → S = [] ∨ A = []) := fun Q h1 h2 => by
        have h := HJ.out.ap2
        rw [hsn, han] at h
        rcases h with h | h
        · rw [h] at h1; cases h1
        · exact absurd (h1.trans h2.symm) h
      have HBL : Hid (Below w.heap.size w wr) := HJ.out.bl
      rw [hsn] at f1
      rw [han] at f2
      clear hsn han HJ HQK
      go_wp2_with fail
      exact bodyPost_ret (v := .agg #[.int .i64 0, .slice sa sn sc, .slice aa an ac]) (by simp [results, Try.results28, go_sem, r0, r1, r2]) rfl ⟨TracesRes.ok HE.out HSN.out.1 HSN.out.2 (HZ.out _ _ _).1 (HZ.out _ _ _).2 HAP.out, ((HBL.out.setCell (by simp <;> omega) _).setCell (by simp <;> omega) _).setCell (by simp <;> omega) _⟩
end Go.Proofs.Ytglbffjeakcgcaa
