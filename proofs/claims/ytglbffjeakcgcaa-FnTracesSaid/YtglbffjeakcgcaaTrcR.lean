/-
  RunTraces, by the program.
-/
import Derived.Test.YtglbffjeakcgcaaTrcK
import Derived.Deep.CutRange
namespace Go.Proofs.Ytglbffjeakcgcaa
open Go.ChangeShapes Go.WideShapes Go.ChangeAt Go.RowKit Go.Sort
def TracesRes (w : World) (base : Nat) (q : Int × List Int × List Bool) (e : Ending) : Prop := ∃ sa sc aa ac, e = .returned (.agg #[.int .i64 q.1, .slice sa q.2.1.length sc, .slice aa q.2.2.length ac]) ∧ NsNew w base (.slice sa q.2.1.length sc) q.2.1 ∧ BsNew w base (.slice aa q.2.2.length ac) q.2.2 ∧ ∀ Q, (Value.slice sa q.2.1.length sc).ownBlock = some Q → (Value.slice aa q.2.2.length ac).ownBlock = some Q → q.2.1 = [] ∨ q.2.2 = []
theorem TracesRes.bad {w : World} {base : Nat} {q : Int × List Int × List Bool} {c : Int} (h : q = (c, [], [])) : TracesRes w base q (.returned (.agg #[.int .i64 c, .slice none 0 0, .slice none 0 0])) := by
  subst h
  exact ⟨none, 0, none, 0, rfl, NsNew.nil _ _ _ _, BsNew.nil _ _ _ _, fun Q hQ => by cases hQ⟩
theorem TracesRes.ok {w : World} {base : Nat} {q : Int × List Int × List Bool} {S : List Int} {A : List Bool} {sa aa : Option Addr} {sn sc an ac : Nat} (h : q = (0, S, A)) (hs : S.length = sn) (ha : A.length = an) (h1 : NsNew w base (.slice sa sn sc) S) (h2 : BsNew w base (.slice aa an ac) A) (h3 : ∀ Q, (Value.slice sa sn sc).ownBlock = some Q → (Value.slice aa an ac).ownBlock = some Q → S = [] ∨ A = []) : TracesRes w base q (.returned (.agg #[.int .i64 0, .slice sa sn sc, .slice aa an ac])) := by
  subst h
  subst hs
  subst ha
  exact ⟨sa, sc, aa, ac, rfl, h1, h2, h3⟩
theorem stepR_bad {b b' : Bk} {a0 a1 a2 a3 a4 : Int} {x : Tr} {c : Int} {g : Bool} (h : stepR b a0 a1 a2 a3 a4 x = (c, b', g)) (hc : ¬ c = 0) : ¬ stepC b a0 a1 a2 a3 a4 x = 0 ∧ stepC b a0 a1 a2 a3 a4 x = c := by
  unfold stepR at h
  split at h
  · exact absurd (congrArg Prod.fst h).symm hc
  · next h2 => exact ⟨h2, congrArg Prod.fst h⟩
theorem stepR_ok {b b' : Bk} {a0 a1 a2 a3 a4 : Int} {x : Tr} {g : Bool} (h : stepR b a0 a1 a2 a3 a4 x = (0, b', g)) : stepC b a0 a1 a2 a3 a4 x = 0 ∧ stepB b a0 a1 a2 a3 a4 x = b' ∧ stepA b a0 a1 a2 a3 a4 x = g := by
  unfold stepR at h
  split at h
  · next h2 => exact ⟨h2, congrArg (·.2.1) h, congrArg (·.2.2) h⟩
  · next h2 => exact absurd (congrArg Prod.fst h) h2
theorem TJ.oc1 {w wr w' : World} {R Z O B base : Nat} {a0 a1 a2 a3 a4 : Int} {b : Bk} {S : List Int} {A : List Bool} {sv av : Value} {ma : Option Addr} {mc : Nat} (h : TJ w R Z O B base a0 a1 a2 a3 a4 b S A sv av ma mc wr) (hg : wr.grownBy w' sv.ownBlock) : C3 w' O (.int .i64 0) sv av :=
  h.o.low (grRow hg (fun _ hq => (h.s.blk hq).1) h.sz) h.lo.2.2.1
theorem TJ.oc2 {w wr w' : World} {R Z O B base : Nat} {a0 a1 a2 a3 a4 : Int} {b : Bk} {S : List Int} {A : List Bool} {sv av : Value} {ma : Option Addr} {mc : Nat} (h : TJ w R Z O B base a0 a1 a2 a3 a4 b S A sv av ma mc wr) (hg : wr.grownBy w' av.ownBlock) : C3 w' O (.int .i64 0) sv av :=
  h.o.low (grRow hg (fun _ hq => (h.a.blk hq).1) h.sz) h.lo.2.2.1
set_option maxRecDepth 100000 in
set_option maxHeartbeats 16000000 in
theorem implTraces_any (w : World) (a0 a1 a2 a3 a4 : Int) (a : Option Addr) (cap : Nat) (l : List Tr) (hl : l.length ≤ 1048576) (hi : TrIn w a l) :
    Calls Try.prog 27 #[.agg #[.int .i64 a0, .int .i64 a1, .int .i64 a2, .int .i64 a3, .int .i64 a4], .slice a l.length cap] w fun e w' => TracesRes w' w.heap.size (tracesR a0 a1 a2 a3 a4 l) e ∧ Below w.heap.size w w' := by
  obtain ⟨W, hW⟩ : ∃ W, W = (w.alloc (.cells #[.int .i64 a0, .int .i64 a1, .int .i64 a2, .int .i64 a3, .int .i64 a4] 50)).alloc (.cells #[.int .i64 0, .slice none 0 0, .slice none 0 0] 56) := ⟨_, rfl⟩
  have HW : Hid (W = (w.alloc (.cells #[.int .i64 a0, .int .i64 a1, .int .i64 a2, .int .i64 a3, .int .i64 a4] 50)).alloc (.cells #[.int .i64 0, .slice none 0 0, .slice none 0 0] 56)) := hW
  have K0 : Hid (Below w.heap.size w W ∧ S5 W w.heap.size (.int .i64 a0) (.int .i64 a1) (.int .i64 a2) (.int .i64 a3) (.int .i64 a4) ∧ C3 W (w.heap.size + 1) (.int .i64 0) (.slice none 0 0) (.slice none 0 0) ∧ W.heap.size = w.heap.size + 2) := by
    have h2 := C3.new (w.alloc (.cells #[.int .i64 a0, .int .i64 a1, .int .i64 a2, .int .i64 a3, .int .i64 a4] 50)) (.int .i64 0) (.slice none 0 0) (.slice none 0 0) 56
    rw [show (w.alloc (.cells #[.int .i64 a0, .int .i64 a1, .int .i64 a2, .int .i64 a3, .int .i64 a4] 50)).heap.size = w.heap.size + 1 by simp] at h2
    rw [hW]
    exact ⟨((Below.refl _ _).alloc (Nat.le_refl _) _).alloc (by simp) _, (S5.new w _ _ _ _ _ _).keep ((Below.refl _ _).alloc (Nat.le_refl _) _), h2, by simp⟩
  have HR : Hid (∀ X, Calls Try.prog 35 #[.agg #[.int .i64 a0, .int .i64 a1, .int .i64 a2, .int .i64 a3, .int .i64 a4]] X fun r w' => r = .returned (.int .i64 (rulesC a0 a1 a2 a3 a4)) ∧ Below X.heap.size X w') := fun X => implRules_any a0 a1 a2 a3 a4 X
  have HI : Hid (TrIn w a l) := hi
  obtain ⟨q, hq⟩ : ∃ q, tracesR a0 a1 a2 a3 a4 l = q := ⟨_, rfl⟩
  have H1 : Hid (¬ rulesC a0 a1 a2 a3 a4 = 0 → q = (rulesC a0 a1 a2 a3 a4, [], [])) := fun h => by rw [← hq, tracesR, if_neg h]
  have H2 : Hid (rulesC a0 a1 a2 a3 a4 = 0 → 100 < l.length → q = (2, [], [])) := fun h h2 => by rw [← hq, tracesR, if_pos h, if_pos h2]
  have H3 : Hid (rulesC a0 a1 a2 a3 a4 = 0 → ¬ 100 < l.length → q = runT a0 a1 a2 a3 a4 ⟨0, 0, 0, []⟩ l [] []) := fun h h2 => by rw [← hq, tracesR, if_pos h, if_neg h2]
  rw [hq]
  clear hq hi hW
  generalize rulesC a0 a1 a2 a3 a4 = rc at *
  obtain ⟨n, hn⟩ : ∃ n, l.length = n := ⟨_, rfl⟩
  have HN : Hid (l.length = n) := hn
  rw [hn] at hl H2 H3 ⊢
  clear hn
  go_enter Try.func27, Try.ntmps27
  go_wp2_with fail
  rw [← HW.out]
  refine (HR.out _).mono ?_
  rintro e w1 ⟨rfl, hb1⟩
  have K1 : Hid (Below w.heap.size w w1 ∧ S5 w1 w.heap.size (.int .i64 a0) (.int .i64 a1) (.int .i64 a2) (.int .i64 a3) (.int .i64 a4) ∧ C3 w1 (w.heap.size + 1) (.int .i64 0) (.slice none 0 0) (.slice none 0 0) ∧ w.heap.size + 2 ≤ w1.heap.size) := ⟨K0.out.1.trans (hb1.mono K0.out.1.size), K0.out.2.1.keep hb1, K0.out.2.2.1.keep hb1, by have := hb1.size; rw [K0.out.2.2.2] at this; exact this⟩
  clear hb1 K0 HW HR
  obtain ⟨r0, r1, r2, rf, _⟩ := K1.out.2.2.1
  by_cases hc : rc = 0
  rotate_left
  · have HE : Hid (q = (rc, [], [])) := H1.out hc
    have n0 : (rc != 0) = true := by simpa using hc
    clear H1 H2 H3
    go_wp2_with fail
    exact bodyPost_ret (v := .agg #[.int .i64 rc, .slice none 0 0, .slice none 0 0]) (by simp [results, Try.results27, go_sem, r0, r1, r2]) rfl ⟨TracesRes.bad HE.out, ((K1.out.1.setCell (by simp <;> omega) _).setCell (by simp <;> omega) _).setCell (by simp <;> omega) _⟩
  subst hc
  have H22 : Hid (100 < n → q = (2, [], [])) := H2.out (by trivial)
  have H32 : Hid (¬ 100 < n → q = runT a0 a1 a2 a3 a4 ⟨0, 0, 0, []⟩ l [] []) := H3.out (by trivial)
  clear H1 H2 H3
  by_cases hbig : 100 < n
  · have HE : Hid (q = (2, [], [])) := H22.out hbig
    have hb' : (100 : Int) < (n : Int) := by omega
    clear H22 H32
    go_wp2_with fail
    exact bodyPost_ret (v := .agg #[.int .i64 2, .slice none 0 0, .slice none 0 0]) (by simp [results, Try.results27, go_sem, r0, r1, r2]) rfl ⟨TracesRes.bad HE.out, ((K1.out.1.setCell (by simp <;> omega) _).setCell (by simp <;> omega) _).setCell (by simp <;> omega) _⟩
  have HQ0 : Hid (q = runT a0 a1 a2 a3 a4 ⟨0, 0, 0, []⟩ l [] []) := H32.out hbig
  have hb' : ¬ (100 : Int) < (n : Int) := by omega
  clear H22 H32 r0 r1 r2 rf
  obtain ⟨O, hO⟩ : ∃ O, w1.heap.size = O := ⟨_, rfl⟩
  obtain ⟨V, hV⟩ : ∃ V, V = (w1.alloc (.cells #[.int .i64 0, .slice none 0 0, .slice none 0 0] 56)).alloc (.cells #[.int .i64 0, .int .i64 0, .int .i64 0, .slice none 0 0] 60) := ⟨_, rfl⟩
  have HV : Hid (V = (w1.alloc (.cells #[.int .i64 0, .slice none 0 0, .slice none 0 0] 56)).alloc (.cells #[.int .i64 0, .int .i64 0, .int .i64 0, .slice none 0 0] 60)) := hV
  have J0 : Hid (TJ w w.heap.size (w.heap.size + 1) O (O + 1) (O + 2) a0 a1 a2 a3 a4 ⟨0, 0, 0, []⟩ [] [] (.slice none 0 0) (.slice none 0 0) none 0 V) := by
    have k1 := K1.out
    have b1 : Below w1.heap.size w1 V := by rw [hV]; exact ((Below.refl _ _).alloc (Nat.le_refl _) _).alloc (by simp) _
    have h3 : C3 V O (.int .i64 0) (.slice none 0 0) (.slice none 0 0) := by rw [hV, ← hO]; exact (C3.new w1 _ _ _ _).keep ((Below.refl _ _).alloc (Nat.le_refl _) _)
    have h4 := S4.new (w1.alloc (.cells #[.int .i64 0, .slice none 0 0, .slice none 0 0] 56)) (.int .i64 0) (.int .i64 0) (.int .i64 0) (.slice none 0 0) 60
    rw [show (w1.alloc (.cells #[.int .i64 0, .slice none 0 0, .slice none 0 0] 56)).heap.size = O + 1 by rw [← hO]; simp, ← hV] at h4
    have sz : V.heap.size = O + 2 := by rw [hV, ← hO]; simp
    have l2 := k1.2.2.2
    exact ⟨k1.1.trans (b1.mono k1.1.size), k1.2.1.keep b1, k1.2.2.1.keep b1, h3, h4, MkNew.nil _ _ _ _, OwnNs.none0 _ _, OwnBs.none0 _ _, (fun Q hQ => by cases hQ), .inl rfl, by omega, ⟨by omega, by omega, by omega, by omega⟩, ⟨by omega, by omega, by omega, by omega⟩, ⟨by omega, by omega, by omega, by omega, by omega, by omega⟩⟩
  have hOw : w.heap.size + 2 ≤ O := by rw [← hO]; exact K1.out.2.2.2
  clear K1 hV
  go_wp2_with fail
  try rw [hO]
  rw [← HV.out]
  clear HV hO
  go_loopw [23] (fun i wr => ∃ (k : Nat) (b : Bk) (S : List Int) (A : List Bool) (sv av : Value) (ma : Option Addr) (mc : Nat), k ≤ n ∧ i = .int .i64 k ∧ S.length = k ∧ A.length = k ∧ b.l.length ≤ 60 ∧ q = runT a0 a1 a2 a3 a4 b (l.drop k) S A ∧ TJ w w.heap.size (w.heap.size + 1) O (O + 1) (O + 2) a0 a1 a2 a3 a4 b S A sv av ma mc wr) (fun i _ => n - (intOf i).toNat)
  case atStart => exact ⟨0, ⟨0, 0, 0, []⟩, [], [], _, _, none, 0, Nat.zero_le _, rfl, rfl, rfl, by simp, HQ0.out, J0.out⟩
  case round =>
    obtain ⟨k, b, S, A, sv, av, ma, mc, hk, rfl, hSk, hAk, hbl, hqk, J⟩ := hrel
    clear J0 HQ0
    have HQK : Hid (q = runT a0 a1 a2 a3 a4 b (l.drop k) S A) := hqk
    have HJ : Hid (TJ w w.heap.size (w.heap.size + 1) O (O + 1) (O + 2) a0 a1 a2 a3 a4 b S A sv av ma mc wr) := J
    have HSK : Hid (S.length = k ∧ A.length = k) := ⟨hSk, hAk⟩
    clear hqk J hSk hAk
    by_cases hlt : k < n
    · obtain ⟨x, hx⟩ : ∃ r, l[k]? = some r := ⟨l[k]'(by have := HN.out; omega), List.getElem?_eq_getElem _⟩
      rcases (HI.out.keep HJ.out.bl) with h | ⟨bt, off, rfl, hat⟩
      · subst h; simp at hx
      obtain ⟨p0, p1, p2⟩ := hat k x hx
      have HX : Hid (l[k]? = some x) := hx
      obtain ⟨X1, hX1⟩ : ∃ X1, X1 = wr.alloc (.cells #[.int .i64 x.tm, .bool x.ak, .bool x.gd] 62) := ⟨_, rfl⟩
      have HX1 : Hid (X1 = wr.alloc (.cells #[.int .i64 x.tm, .bool x.ak, .bool x.gd] 62)) := hX1
      have bX : Below wr.heap.size wr X1 := by rw [hX1]; exact (Below.refl _ _).alloc (Nat.le_refl _) _
      have J1 : Hid (TJ w w.heap.size (w.heap.size + 1) O (O + 1) (O + 2) a0 a1 a2 a3 a4 b S A sv av ma mc X1) := HJ.out.keep bX
      have CT : Hid (Calls Try.prog 67 #[.agg #[.int .i64 b.s, .int .i64 b.t, .int .i64 b.o, .slice ma b.l.length mc], .agg #[.int .i64 a0, .int .i64 a1, .int .i64 a2, .int .i64 a3, .int .i64 a4], .agg #[.int .i64 x.tm, .bool x.ak, .bool x.gd]] X1 fun e w' => AllowRes w' X1.heap.size (stepR b a0 a1 a2 a3 a4 x) e ∧ Below X1.heap.size X1 w') := traced_any X1 b ma mc a0 a1 a2 a3 a4 x (by omega) (by obtain ⟨y, z, e, hin⟩ := J1.out.m.in; simp only [Value.slice.injEq] at e; rw [e.1]; exact hin)
      obtain ⟨c0, c1, c2, c3, fr, _⟩ := J1.out.bb
      obtain ⟨d0, d1, d2, d3, d4, fd, _⟩ := J1.out.r
      rw [HX1.out] at c0 c1 c2 c3 fr d0 d1 d2 d3 d4 fd
      have gk : (k : Int) < n := by omega
      have gk0 : (0 : Int) ≤ k := by omega
      clear hat hx hX1 bX HI HJ
      obtain ⟨q2, hq2⟩ : ∃ q2, stepR b a0 a1 a2 a3 a4 x = q2 := ⟨_, rfl⟩
      rw [hq2] at CT
      obtain ⟨q0, ⟨s1, t1, o1, l1⟩, g1⟩ := q2
      have HQ2 : Hid (stepR b a0 a1 a2 a3 a4 x = (q0, ⟨s1, t1, o1, l1⟩, g1)) := hq2
      clear hq2
      obtain ⟨m, hm⟩ : ∃ m, l1.length = m := ⟨_, rfl⟩
      have HM : Hid (l1.length = m) := hm
      clear hm
      obtain ⟨bn, hn2⟩ : ∃ bn, b.l.length = bn := ⟨_, rfl⟩
      rw [hn2] at CT c3 hbl
      clear hn2
      go_wp2_with fail
      rw [← HX1.out]
      refine CT.out.mono ?_
      rintro e w2 ⟨⟨xa, xc, rfl, mv⟩, hb2⟩
      simp only at mv ⊢
      rw [HM.out] at mv ⊢
      obtain ⟨X2, hX2⟩ : ∃ X2, X2 = w2.alloc (.cells #[.int .i64 q0, .int .i64 s1, .int .i64 t1, .int .i64 o1, .slice xa m xc, .bool g1] 64) := ⟨_, rfl⟩
      have HX2 : Hid (X2 = w2.alloc (.cells #[.int .i64 q0, .int .i64 s1, .int .i64 t1, .int .i64 o1, .slice xa m xc, .bool g1] 64)) := hX2
      have a2' : Below w2.heap.size w2 X2 := by rw [hX2]; exact (Below.refl _ _).alloc (Nat.le_refl _) _
      have b2 : Below X1.heap.size X1 X2 := hb2.trans (a2'.mono hb2.size)
      have K2 : Hid (Below X1.heap.size X1 X2 ∧ MkNew X2 X1.heap.size (.slice xa m xc) l1 ∧ C6 X2 w2.heap.size (.int .i64 q0) (.int .i64 s1) (.int .i64 t1) (.int .i64 o1) (.slice xa m xc) (.bool g1) ∧ X1.heap.size ≤ w2.heap.size) := ⟨b2, mv.keep a2', by rw [hX2]; exact C6.new w2 _ _ _ _ _ _ _, hb2.size⟩
      have J2 : Hid (TJ w w.heap.size (w.heap.size + 1) O (O + 1) (O + 2) a0 a1 a2 a3 a4 b S A sv av ma mc X2) := J1.out.keep b2
      clear c0 c1 c2 c3 fr d0 d1 d2 d3 d4 fd p0 p1 p2 CT HX1 mv hb2 a2' b2 hX2
      obtain ⟨e0, e1, e2, e3, e4, e5, ef, _⟩ := K2.out.2.2.1
      by_cases hq0 : q0 = 0
      rotate_left
      · have n0 : (q0 != 0) = true := by simpa using hq0
        obtain ⟨r0, r1, r2, rf, _⟩ := J2.out.z
        rw [HX2.out] at r0 r1 r2 rf e0
        clear e1 e2 e3 e4 e5 ef
        have HE : Hid (q = (q0, [], [])) := by
          show _ = _
          obtain ⟨h1, h2⟩ := stepR_bad HQ2.out hq0
          rw [HQK.out, runT_stop HX.out h1, h2]
        have hbl2 : Hid (Below w.heap.size w X2) := J2.out.bl
        clear J1 J2 K2 HQK HQ2
        go_wp2_with fail
        rw [← HX2.out] at *
        exact bodyPost_ret (v := .agg #[.int .i64 q0, .slice none 0 0, .slice none 0 0]) (by simp [results, Try.results27, go_sem, r0, r1, r2]) rfl ⟨TracesRes.bad HE.out, ((hbl2.out.setCell (by simp <;> omega) _).setCell (by simp <;> omega) _).setCell (by simp <;> omega) _⟩
      subst hq0
      have hst := stepR_ok HQ2.out
      have HST : Hid (stepC b a0 a1 a2 a3 a4 x = 0 ∧ stepB b a0 a1 a2 a3 a4 x = ⟨s1, t1, o1, l1⟩ ∧ stepA b a0 a1 a2 a3 a4 x = g1) := hst
      have hm60 : m ≤ 60 := by have := stepB_len hst.1; rw [hst.2.1] at this; have h2 := HM.out; simp only at this; omega
      clear hst HQ2
      obtain ⟨c0, c1, c2, c3, fr, _⟩ := J2.out.bb
      obtain ⟨X3, hX3⟩ : ∃ X3, X3 = ((((X2.setCell ⟨O + 1, 0, none⟩ (.int .i64 s1)).setCell ⟨O + 1, 1, none⟩ (.int .i64 t1)).setCell ⟨O + 1, 2, none⟩ (.int .i64 o1)).setCell ⟨O + 1, 3, none⟩ (.slice xa m xc)) := ⟨_, rfl⟩
      have HX3 : Hid (X3 = ((((X2.setCell ⟨O + 1, 0, none⟩ (.int .i64 s1)).setCell ⟨O + 1, 1, none⟩ (.int .i64 t1)).setCell ⟨O + 1, 2, none⟩ (.int .i64 o1)).setCell ⟨O + 1, 3, none⟩ (.slice xa m xc))) := hX3
      have hOX : O + 1 < w2.heap.size := by have h1 := J1.out.sz; have h2 := K2.out.2.2.2; omega
      have K3 : Hid (C6 X3 w2.heap.size (.int .i64 0) (.int .i64 s1) (.int .i64 t1) (.int .i64 o1) (.slice xa m xc) (.bool g1) ∧ ∀ Q, sv.ownBlock = some Q → Q < w2.heap.size) := ⟨by
        rw [hX3]
        exact (((K2.out.2.2.1.gb (gbSet _ _ _ _) (by omega)).gb (gbSet _ _ _ _) (by omega)).gb (gbSet _ _ _ _) (by omega)).gb (gbSet _ _ _ _) (by omega), fun Q hQ => Nat.lt_of_lt_of_le (J1.out.s.blk hQ).2 K2.out.2.2.2⟩
      have J3 : Hid (TJ w w.heap.size (w.heap.size + 1) O (O + 1) (O + 2) a0 a1 a2 a3 a4 ⟨s1, t1, o1, l1⟩ S A sv av xa xc X3) := by
        have h := TJ.turn (b' := ⟨s1, t1, o1, l1⟩) J1.out K2.out.1 (by simp only; rw [HM.out]; exact K2.out.2.1)
        simp only at h
        rw [HM.out, ← hX3] at h
        exact h
      rw [HX2.out] at c0 c1 c2 c3 fr e0 e1 e2 e3 e4 e5 ef
      have HW2 : Hid (O + 1 < w2.heap.size) := hOX
      clear J1 J2 K2 hX3 hOX
      go_upto_region 15 with fail
      rw [← HX2.out, ← HX3.out]
      clear c0 c1 c2 c3 fr e0 e1 e2 e3 e4 e5 ef HX2 HX3
      obtain ⟨f0, f1, f2, ff, _⟩ := J3.out.o
      have g0 := J3.out.bb.c0
      simp only at g0
      have hS : S.length ≤ 2000000 := by have := HSK.out; omega
      have hA : A.length ≤ 2000000 := by have := HSK.out; omega
      have hz3 := J3.out.sz
      go_upto_region 16 with (at_builtin; refine wpList_append1Ns X3 rfl (.tmp 40) (.tmp 43) rfl (O + 2) sv S s1 rfl (by simp [go_sem]) J3.out.s hS hz3 ?_; intro gs cs w4 ho4 hg4 hw4; obtain ⟨y0, y1, y2, yf, _⟩ := J3.out.oc1 hg4; clear f0 f1 f2 ff g0)
      obtain ⟨X5, hX5⟩ : ∃ X5, X5 = w4.setCell ⟨O, 1, none⟩ (.slice (some ⟨gs, 0, none⟩) (S.length + 1) cs) := ⟨_, rfl⟩
      rw [← hX5]
      have J5 : Hid (TJ w w.heap.size (w.heap.size + 1) O (O + 1) (O + 2) a0 a1 a2 a3 a4 ⟨s1, t1, o1, l1⟩ (S ++ [s1]) A (.slice (some ⟨gs, 0, none⟩) (S.length + 1) cs) av xa xc X5) := by rw [hX5]; exact J3.out.tell1 ho4 hg4 hw4
      have K5 : C6 X5 w2.heap.size (.int .i64 0) (.int .i64 s1) (.int .i64 t1) (.int .i64 o1) (.slice xa m xc) (.bool g1) := by
        rw [hX5]
        exact (K3.out.1.gr hg4 (fun e => by have := K3.out.2 _ e; omega)).gb (gbSet _ _ _ _) (by have := J3.out.lo.2.2.1; have := J3.out.sz; have := HW2.out; omega)
      obtain ⟨e0, e1, e2, e3, e4, e5, ef, _⟩ := K5
      clear hX5 J3 K3 y0 y1 y2 yf ho4 hg4 hw4 hz3
      obtain ⟨f0, f1, f2, ff, _⟩ := J5.out.o
      have hz5 := J5.out.sz
      go_wp2_with (at_builtin; refine wpList_append1Bs X5 rfl (.tmp 47) (.tmp 50) rfl (O + 2) av A g1 rfl (by simp [go_sem]) J5.out.a hA hz5 ?_; intro gs2 cs2 w6 ho6 hg6 hw6; obtain ⟨y0, y1, y2, yf, _⟩ := J5.out.oc2 hg6; clear f0 f1 f2 ff e0 e1 e2 e3 e4 e5 ef)
      go_roundw
      case rel =>
        refine ⟨k + 1, ⟨s1, t1, o1, l1⟩, S ++ [s1], A ++ [g1], _, _, xa, xc, by omega, by go_num, by simp [HSK.out.1], by simp [HSK.out.2], by have := HM.out; simp only; omega, ?_, J5.out.tell2 ho6 hg6 hw6⟩
        rw [HQK.out, runT_step HX.out HST.out.1, HST.out.2.1, HST.out.2.2]
      case measure => simp [intOf]; omega
    · obtain ⟨sa, sc, hsv, _, _⟩ := HJ.out.s.in
      obtain ⟨aa, ac, hav, _, _⟩ := HJ.out.a.in
      subst hsv
      subst hav
      obtain ⟨sn, hsn⟩ : ∃ sn, S.length = sn := ⟨_, rfl⟩
      obtain ⟨an, han⟩ : ∃ an, A.length = an := ⟨_, rfl⟩
      have HSN : Hid (S.length = sn ∧ A.length = an) := ⟨hsn, han⟩
      obtain ⟨r0, r1, r2, rf, _⟩ := HJ.out.z
      obtain ⟨f0, f1, f2, ff, _⟩ := HJ.out.o
      have HE : Hid (q = (0, S, A)) := by
        show _ = _
        rw [HQK.out, List.drop_of_length_le (by have := HN.out; omega), runT]
      have HZ : Hid (∀ x0 x1 x2, NsNew (((wr.setCell ⟨w.heap.size + 1, 0, none⟩ x0).setCell ⟨w.heap.size + 1, 1, none⟩ x1).setCell ⟨w.heap.size + 1, 2, none⟩ x2) w.heap.size (.slice sa sn sc) S ∧ BsNew (((wr.setCell ⟨w.heap.size + 1, 0, none⟩ x0).setCell ⟨w.heap.size + 1, 1, none⟩ x1).setCell ⟨w.heap.size + 1, 2, none⟩ x2) w.heap.size (.slice aa an ac) A) := fun x0 x1 x2 => by
        have hlo := HJ.out.lo.2.1
        have hs := HJ.out.s.new
        have ha := HJ.out.a.new
        rw [hsn] at hs
        rw [han] at ha
        exact ⟨(((hs.gb2 (gbSet _ _ _ _) hlo).gb2 (gbSet _ _ _ _) hlo).gb2 (gbSet _ _ _ _) hlo).lower (by omega), (((ha.gb2 (gbSet _ _ _ _) hlo).gb2 (gbSet _ _ _ _) hlo).gb2 (gbSet _ _ _ _) hlo).lower (by omega)⟩
      have HAP : Hid (∀ Q, (Value.slice sa sn sc).ownBlock = some Q → (Value.slice aa an ac).ownBlock = some Q → S = [] ∨ A = []) := fun Q h1 h2 => by
        have h := HJ.out.ap2
        rw [hsn, han] at h
        rcases h with h | h
        · rw [h] at h1; cases h1
        · exact absurd (h1.trans h2.symm) h
      have HBL : Hid (Below w.heap.size w wr) := HJ.out.bl
      rw [hsn] at f1
      rw [han] at f2
      clear hsn han HJ HQK
      go_wp2_with fail
      exact bodyPost_ret (v := .agg #[.int .i64 0, .slice sa sn sc, .slice aa an ac]) (by simp [results, Try.results27, go_sem, r0, r1, r2]) rfl ⟨TracesRes.ok HE.out HSN.out.1 HSN.out.2 (HZ.out _ _ _).1 (HZ.out _ _ _).2 HAP.out, ((HBL.out.setCell (by simp <;> omega) _).setCell (by simp <;> omega) _).setCell (by simp <;> omega) _⟩
end Go.Proofs.Ytglbffjeakcgcaa
