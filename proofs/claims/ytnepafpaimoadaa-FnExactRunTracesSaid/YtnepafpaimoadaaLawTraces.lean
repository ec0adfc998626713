/-
  The law of RunTraces.
-/
import Derived.Test.YtnepafpaimoadaaTrcS
import Derived.Test.YtnepafpaimoadaaTrMk
import Derived.Test.YtnepafpaimoadaaLawSameBrk
import Derived.Deep.RegionHeld3
import Derived.Deep.CutRange
import Derived.Deep.CutBlock
namespace Go.Proofs.Ytnepafpaimoadaa
open Go.ChangeShapes Go.WideShapes Go.ChangeAt Go.RowKit Go.Sort
/-- Two lists of one's own, apart. -/
structure SRN (w : World) (base : Nat) (sa : Option Addr) (sn sc : Nat) (aa : Option Addr) (an ac : Nat) (S : List Int) (A : List Bool) : Prop where
  s : NsNew w base (.slice sa sn sc) S
  a : BsNew w base (.slice aa an ac) A
  ap : ∀ Q, (Value.slice sa sn sc).ownBlock = some Q → (Value.slice aa an ac).ownBlock = some Q → S = [] ∨ A = []
def SRO (sa : Option Addr) (sn sc : Nat) (aa : Option Addr) (an ac : Nat) (S : List Int) (A : List Bool) (X : Nat) : Prop := (∀ Q, (Value.slice sa sn sc).ownBlock = some Q → S = [] ∨ Q ≠ X) ∧ (∀ Q, (Value.slice aa an ac).ownBlock = some Q → A = [] ∨ Q ≠ X)
section
variable {w w' : World} {base : Nat} {sa : Option Addr} {sn sc : Nat} {aa : Option Addr} {an ac : Nat} {S : List Int} {A : List Bool}
theorem SRN.keep (h : SRN w base sa sn sc aa an ac S A) (hb : Below w.heap.size w w') : SRN w' base sa sn sc aa an ac S A := ⟨h.s.keep hb, h.a.keep hb, h.ap⟩
theorem SRN.lower {b0 : Nat} (h : SRN w base sa sn sc aa an ac S A) (hb : b0 ≤ base) : SRN w b0 sa sn sc aa an ac S A := ⟨h.s.lower hb, h.a.lower hb, h.ap⟩
theorem SRN.gb2 {g : Nat} (h : SRN w base sa sn sc aa an ac S A) (k : w.grownBy w' (some g)) (hne : g < base) : SRN w' base sa sn sc aa an ac S A := ⟨h.s.gb2 k hne, h.a.gb2 k hne, h.ap⟩
theorem SRN.apart (h : SRN w base sa sn sc aa an ac S A) {X : Nat} (hX : X < base ∨ w.heap.size ≤ X) : SRO sa sn sc aa an ac S A X := ⟨h.s.apart hX, h.a.apart hX⟩
theorem SRN.ins (h : SRN w base sa S.length sc aa A.length ac S A) : NsIn w sa S ∧ BsIn w aa A := by
  obtain ⟨x1, y1, e1, i1⟩ := h.s.in
  obtain ⟨x2, y2, e2, i2⟩ := h.a.in
  simp only [Value.slice.injEq, true_and] at e1 e2
  obtain ⟨rfl, rfl⟩ := e1
  obtain ⟨rfl, rfl⟩ := e2
  exact ⟨i1, i2⟩
/-- Two places for the marks: none is X, none the heap's size, none lies below the base. -/
theorem SRN.spots (h : SRN w base sa sn sc aa an ac S A) (hb : base ≤ w.heap.size) {X : Nat} (hX : X < w.heap.size) (ho : SRO sa sn sc aa an ac S A X) : ∃ g1 o1 g2 o2, SpotNs w sa g1 o1 S ∧ SpotBs w aa g2 o2 A ∧ g1 ≠ g2 ∧ g1 ≠ w.heap.size ∧ base ≤ g1 ∧ base ≤ g2 ∧ X ≠ g1 ∧ X ≠ g2 := by
  have h1 : ∃ g1 o1, SpotNs w sa g1 o1 S ∧ g1 ≠ w.heap.size ∧ base ≤ g1 ∧ X ≠ g1 ∧ (S = [] ∧ g1 = w.heap.size + 1 ∨ (Value.slice sa sn sc).ownBlock = some g1 ∧ g1 < w.heap.size ∧ S ≠ []) := by
    by_cases hS : S = []
    · exact ⟨w.heap.size + 1, 0, .inl hS, by omega, by omega, by omega, .inl ⟨hS, rfl⟩⟩
    rcases h.s with ⟨e, _⟩ | ⟨g, off, cap, e, p1, p2, p3, p4⟩
    · exact absurd e hS
    simp only [Value.slice.injEq] at e
    obtain ⟨rfl, rfl, rfl⟩ := e
    rcases ho.1 g rfl with e | hne
    · exact absurd e hS
    exact ⟨g, off, .inr ⟨rfl, p2, p3, fun o _ => p4 o⟩, by omega, p1, fun e => hne e.symm, .inr ⟨rfl, p2, hS⟩⟩
  have h2 : ∃ g2 o2, SpotBs w aa g2 o2 A ∧ base ≤ g2 ∧ X ≠ g2 ∧ (A = [] ∧ g2 = w.heap.size + 2 ∨ (Value.slice aa an ac).ownBlock = some g2 ∧ g2 < w.heap.size ∧ A ≠ []) := by
    by_cases hA : A = []
    · exact ⟨w.heap.size + 2, 0, .inl hA, by omega, by omega, .inl ⟨hA, rfl⟩⟩
    rcases h.a with ⟨e, _⟩ | ⟨g, off, cap, e, p1, p2, p3, p4⟩
    · exact absurd e hA
    simp only [Value.slice.injEq] at e
    obtain ⟨rfl, rfl, rfl⟩ := e
    rcases ho.2 g rfl with e | hne
    · exact absurd e hA
    exact ⟨g, off, .inr ⟨rfl, p2, p3, fun o _ => p4 o⟩, p1, fun e => hne e.symm, .inr ⟨rfl, p2, hA⟩⟩
  obtain ⟨g1, o1, s1, n1, b1, x1, c1⟩ := h1
  obtain ⟨g2, o2, s2, b2, x2, c2⟩ := h2
  refine ⟨g1, o1, g2, o2, s1, s2, ?_, n1, b1, b2, x1, x2⟩
  rcases c1 with ⟨_, e1⟩ | ⟨e1, l1, k1⟩
  · rcases c2 with ⟨_, e2⟩ | ⟨_, l2, _⟩ <;> omega
  · rcases c2 with ⟨_, e2⟩ | ⟨e2, l2, k2⟩
    · omega
    · intro e
      subst e
      rcases h.ap g1 e1 e2 with h | h
      · exact k1 h
      · exact k2 h
end
def SR3 (w : World) (base : Nat) (qc : Int) (sn an : Nat) (qS : List Int) (qA : List Bool) (e : Ending) : Prop := ∃ sa sc aa ac, e = .returned (.agg #[.int .i64 qc, .slice sa sn sc, .slice aa an ac]) ∧ SRN w base sa sn sc aa an ac qS qA
theorem tracesR_len {a0 a1 a2 a3 a4 : Int} {l : List Tr} (hl : l.length ≤ 1048576) : (tracesR a0 a1 a2 a3 a4 l).2.1.length ≤ 1048576 ∧ (tracesR a0 a1 a2 a3 a4 l).2.2.length ≤ 1048576 := by
  unfold tracesR
  split
  · split
    · simp
    · have := runT_len a0 a1 a2 a3 a4 l ⟨0, 0, 0, []⟩ [] []
      simp only [List.length_nil, Nat.zero_add] at this
      omega
  · simp
set_option maxRecDepth 100000 in
set_option maxHeartbeats 32000000 in
theorem lawRunTraces (w : World) (a0 a1 a2 a3 a4 : Int) (a : Option Addr) (cap : Nat) (l : List Tr) (hm : l.length ≤ maxLen) (hi : TrIn w a l) :
    Calls Try.prog 11 #[.agg #[.int .i64 a0, .int .i64 a1, .int .i64 a2, .int .i64 a3, .int .i64 a4], .slice a l.length cap] w fun r w' => r = .returned (.bool true) ∧ Below w.heap.size w w' := by
  obtain ⟨W, hW⟩ : ∃ W, W = w.alloc (.cells #[.int .i64 a0, .int .i64 a1, .int .i64 a2, .int .i64 a3, .int .i64 a4] 56) := ⟨_, rfl⟩
  have HW : Hid (W = w.alloc (.cells #[.int .i64 a0, .int .i64 a1, .int .i64 a2, .int .i64 a3, .int .i64 a4] 56)) := hW
  have K0 : Hid (Below w.heap.size w W ∧ S5 W w.heap.size (.int .i64 a0) (.int .i64 a1) (.int .i64 a2) (.int .i64 a3) (.int .i64 a4)) := by rw [hW]; exact ⟨(Below.refl _ _).alloc (Nat.le_refl _) _, S5.new w _ _ _ _ _ _⟩
  have HZ : Hid (∀ X, Calls Try.prog 43 #[.slice a l.length cap, .int .i64 1048576] X fun e w' => e = .returned (.int .i64 (szTr 1048576 l.length)) ∧ Below X.heap.size X w') := fun X => (szTr_any X a cap l.length hm 1048576 (by omega) (by omega)).mono fun _ _ ⟨h1, h2⟩ => ⟨h1, by first | exact h2 | (rw [h2]; exact Below.refl _ _)⟩
  have HRM : Hid (¬ szTr 1048576 l.length < 0 → l.length ≤ 1048576) := fun h => by have := (szTr_room (by omega) h).1; omega
  have HTR : Hid (∀ X, Calls Try.prog 31 #[.agg #[.int .i64 a0, .int .i64 a1, .int .i64 a2, .int .i64 a3, .int .i64 a4]] X fun r w' => r = .returned (.agg #[.int .i64 a0, .int .i64 a1, .int .i64 a2, .int .i64 a3, .int .i64 a4]) ∧ Below X.heap.size X w') := fun X => toRules_any a0 a1 a2 a3 a4 X
  have HT0 : Hid (l.length ≤ 1048576 → ∀ X, Below w.heap.size w X → Calls Try.prog 44 #[.slice a l.length cap] X fun e w' => (∃ G, e = .returned (.slice (some ⟨G, 0, none⟩) l.length l.length) ∧ TrsNew w' G l ∧ X.heap.size ≤ G) ∧ Below X.heap.size X w') := fun hl X hb => toTrs_new X a cap l hl (hi.keep hb)
  have HQ0 : Hid (l.length ≤ 1048576 → ∀ X G J, TrsNew X G l → TrsNew X J l → Calls Try.prog 46 #[.slice (some ⟨G, 0, none⟩) l.length l.length, .slice (some ⟨J, 0, none⟩) l.length l.length] X fun r w' => r = .returned (.bool true) ∧ Below X.heap.size X w') := fun hl X G J h k => eqTrS_same X _ _ _ _ l hl h.in k.in
  have HMX : Hid (l.length ≤ 1048576 → ∀ X G, TrsNew X G l → Calls Try.prog 47 #[.slice (some ⟨G, 0, none⟩) l.length l.length, .int .i64 ((1 : Nat) : Int)] X fun e w' => e = .returned (.int .i64 ((1 + l.length * 3 : Nat) : Int)) ∧ X.grownBy w' (some G)) := fun hl X G h => markTr_any X G l.length _ 1 (by omega) hl h.room
  obtain ⟨q, hq⟩ : ∃ q, tracesR a0 a1 a2 a3 a4 l = q := ⟨_, rfl⟩
  have HS0 : Hid (l.length ≤ 1048576 → ∀ X G, TrsNew X G l → Calls Try.prog 29 #[.agg #[.int .i64 a0, .int .i64 a1, .int .i64 a2, .int .i64 a3, .int .i64 a4], .slice (some ⟨G, 0, none⟩) l.length l.length] X fun e w' => TracesRes w' X.heap.size q e ∧ Below X.heap.size X w') := fun hl X G h => by rw [← hq]; exact specTraces_any X a0 a1 a2 a3 a4 _ _ l hl h.in
  have HG0 : Hid (l.length ≤ 1048576 → ∀ X G, TrsNew X G l → Calls Try.prog 28 #[.agg #[.int .i64 a0, .int .i64 a1, .int .i64 a2, .int .i64 a3, .int .i64 a4], .slice (some ⟨G, 0, none⟩) l.length l.length] X fun e w' => TracesRes w' X.heap.size q e ∧ Below X.heap.size X w') := fun hl X G h => by rw [← hq]; exact implTraces_any X a0 a1 a2 a3 a4 _ _ l hl h.in
  have HQL : Hid (l.length ≤ 1048576 → q.2.1.length ≤ 1048576 ∧ q.2.2.length ≤ 1048576) := fun hl => by rw [← hq]; exact tracesR_len hl
  clear hW hi hm hq
  obtain ⟨qc, qS, qA⟩ := q
  obtain ⟨sn, hsn⟩ : ∃ m, qS.length = m := ⟨_, rfl⟩
  obtain ⟨an, han⟩ : ∃ m, qA.length = m := ⟨_, rfl⟩
  have HS1 : Hid (l.length ≤ 1048576 → ∀ X G, TrsNew X G l → Calls Try.prog 29 #[.agg #[.int .i64 a0, .int .i64 a1, .int .i64 a2, .int .i64 a3, .int .i64 a4], .slice (some ⟨G, 0, none⟩) l.length l.length] X fun e w' => SR3 w' X.heap.size qc sn an qS qA e ∧ Below X.heap.size X w') := fun hl X G h => by subst hsn; subst han; exact (HS0.out hl X G h).mono fun _ _ ⟨⟨sa, sc, aa, ac, h1, h2, h3, h4⟩, h5⟩ => ⟨⟨sa, sc, aa, ac, h1, ⟨h2, h3, h4⟩⟩, h5⟩
  have HG1 : Hid (l.length ≤ 1048576 → ∀ X G, TrsNew X G l → Calls Try.prog 28 #[.agg #[.int .i64 a0, .int .i64 a1, .int .i64 a2, .int .i64 a3, .int .i64 a4], .slice (some ⟨G, 0, none⟩) l.length l.length] X fun e w' => SR3 w' X.heap.size qc sn an qS qA e ∧ Below X.heap.size X w') := fun hl X G h => by subst hsn; subst han; exact (HG0.out hl X G h).mono fun _ _ ⟨⟨sa, sc, aa, ac, h1, h2, h3, h4⟩, h5⟩ => ⟨⟨sa, sc, aa, ac, h1, ⟨h2, h3, h4⟩⟩, h5⟩
  have HEQ0 : Hid (l.length ≤ 1048576 → ∀ X b1 b2 v1 c1 v2 c2 v3 c3 v4 c4, SRN X b1 v1 sn c1 v2 an c2 qS qA → SRN X b2 v3 sn c3 v4 an c4 qS qA → Calls Try.prog 45 #[.agg #[.int .i64 qc, .slice v1 sn c1, .slice v2 an c2], .agg #[.int .i64 qc, .slice v3 sn c3, .slice v4 an c4]] X fun e w' => e = .returned (.bool true) ∧ Below X.heap.size X w') := fun hl X b1 b2 v1 c1 v2 c2 v3 c3 v4 c4 h1 h2 => by
    subst hsn
    subst han
    exact eqSR_same X qc _ _ _ _ _ _ _ _ qS qA (HQL.out hl).1 (HQL.out hl).2 h1.ins.1 h2.ins.1 h1.ins.2 h2.ins.2
  have HMK0 : Hid (l.length ≤ 1048576 → ∀ X v1 c1 v2 c2 g1 o1 g2 o2, SpotNs X v1 g1 o1 qS → SpotBs X v2 g2 o2 qA → g1 ≠ g2 → g1 ≠ X.heap.size → Calls Try.prog 48 #[.agg #[.int .i64 qc, .slice v1 sn c1, .slice v2 an c2], .int .i64 ((1 : Nat) : Int)] X fun e w' => e = .returned (.int .i64 ((1 + sn + an : Nat) : Int)) ∧ (NsIn w' v1 (mkdNs 1 qS) ∧ BsIn w' v2 (mkdBs (1 + sn) qA)) ∧ ∃ Y, X.grownBy Y (some g1) ∧ Y.grownBy w' (some g2)) := fun hl X v1 c1 v2 c2 g1 o1 g2 o2 h1 h2 h3 h4 => by
    subst hsn
    subst han
    exact (markSR_any X qc v1 v2 c1 c2 1 (by omega) qS qA (HQL.out hl).1 (HQL.out hl).2 g1 o1 g2 o2 h1 h2 h3 h4).mono fun _ _ ⟨x1, x2, x3, x4⟩ => ⟨x1, ⟨x2, x3⟩, x4⟩
  have HHD0 : Hid (l.length ≤ 1048576 → ∀ X v1 c1 v2 c2, NsIn X v1 (mkdNs 1 qS) ∧ BsIn X v2 (mkdBs (1 + sn) qA) → Calls Try.prog 49 #[.agg #[.int .i64 qc, .slice v1 sn c1, .slice v2 an c2], .int .i64 ((1 : Nat) : Int)] X fun e w' => e = .returned (.int .i64 ((1 + sn + an : Nat) : Int)) ∧ Below X.heap.size X w') := fun hl X v1 c1 v2 c2 h => by
    subst hsn
    subst han
    exact heldSR_any X qc v1 v2 c1 c2 1 (by omega) qS qA (HQL.out hl).1 (HQL.out hl).2 h.1 h.2
  clear HS0 HG0 HQL hsn han
  generalize szTr 1048576 l.length = z1 at *
  generalize l.length = n at *
  go_enter Try.func11, Try.ntmps11
  go_wp2_with fail
  rw [← HW.out]
  refine (HZ.out _).mono ?_
  rintro e0 w1 ⟨rfl, hb1⟩
  have HK : Hid (∀ X, Below w1.heap.size w1 X → Below w.heap.size w X ∧ S5 X w.heap.size (.int .i64 a0) (.int .i64 a1) (.int .i64 a2) (.int .i64 a3) (.int .i64 a4)) := fun X hX => by
    have b := hb1.trans (hX.mono hb1.size)
    exact ⟨K0.out.1.trans (b.mono K0.out.1.size), K0.out.2.keep b⟩
  clear K0 HW HZ hb1
  by_cases cz : z1 < 0
  · clear HRM HT0 HQ0 HS1 HG1 HTR HMX HEQ0 HMK0 HHD0
    go_wp2_with fail
    go_ret
    exact ⟨rfl, (HK.out _ (Below.refl _ _)).1⟩
  have HF : n ≤ 1048576 := HRM.out (by omega)
  have HT := hid12 (HT0.out HF)
  have HQ := hid12 (HQ0.out HF)
  have HS := hid12 (HS1.out HF)
  have HG := hid12 (HG1.out HF)
  have HM := hid12 (HMX.out HF)
  have HEQ := hid12 (HEQ0.out HF)
  have HMK := hid12 (HMK0.out HF)
  have HHD := hid12 (HHD0.out HF)
  clear HRM HT0 HQ0 HS1 HG1 HMX HEQ0 HMK0 HHD0
  obtain ⟨d0, d1, d2, d3, d4, df, _⟩ := (HK.out _ (Below.refl _ _)).2
  go_wp2_with fail
  refine (HTR.out _).mono ?_
  rintro r0 u1 ⟨rfl, hb1⟩
  have B1 : Hid (Below w1.heap.size w1 u1) := hb1
  clear d0 d1 d2 d3 d4 df hb1
  go_wp2_with fail
  refine (HT.out _ (HK.out _ B1.out).1).mono ?_
  rintro r0 u2 ⟨⟨I1, rfl, m1, _⟩, hb2⟩
  have B2 : Hid (Below w1.heap.size w1 u2 ∧ TrsNew u2 I1 l) := ⟨B1.out.trans (hb2.mono B1.out.size), m1⟩
  clear B1 hb2 m1
  go_wp2_with fail
  refine (HS.out _ _ B2.out.2).mono ?_
  rintro r0 u3 ⟨⟨va, vc, xa, xc, rfl, mv⟩, hb3⟩
  obtain ⟨V3, hV3⟩ : ∃ V, V = u3.alloc (.cells #[.int .i64 qc, .slice va sn vc, .slice xa an xc] 51) := ⟨_, rfl⟩
  have HV3 : Hid (V3 = u3.alloc (.cells #[.int .i64 qc, .slice va sn vc, .slice xa an xc] 51)) := hV3
  have a3' : Below u3.heap.size u3 V3 := by rw [hV3]; exact (Below.refl _ _).alloc (Nat.le_refl _) _
  have b13 : Below w1.heap.size w1 V3 := B2.out.1.trans ((hb3.trans (a3'.mono hb3.size)).mono B2.out.1.size)
  have c3 : C3 V3 u3.heap.size (.int .i64 qc) (.slice va sn vc) (.slice xa an xc) := by rw [hV3]; exact C3.new u3 _ _ _ _
  have m3 : SRN V3 w1.heap.size va sn vc xa an xc qS qA := (mv.lower B2.out.1.size).keep a3'
  obtain ⟨x0, hx0⟩ : ∃ x, u3.heap.size = x := ⟨_, rfl⟩
  rw [hx0] at c3
  have HK3 : Hid (∀ X, Below V3.heap.size V3 X → (Below w.heap.size w X ∧ S5 X w.heap.size (.int .i64 a0) (.int .i64 a1) (.int .i64 a2) (.int .i64 a3) (.int .i64 a4)) ∧ C3 X x0 (.int .i64 qc) (.slice va sn vc) (.slice xa an xc) ∧ SRN X w1.heap.size va sn vc xa an xc qS qA) := fun X hX => ⟨HK.out X (b13.trans (hX.mono b13.size)), c3.keep hX, m3.keep hX⟩
  clear mv hb3 hV3 a3' b13 c3 m3 B2 HK HS
  go_upto_region 6 with fail
  try rw [hx0]
  rw [← HV3.out]
  clear HV3 hx0
  go_wp2_with fail
  refine (HT.out _ (HK3.out _ (Below.refl _ _)).1.1).mono ?_
  rintro r0 w4 ⟨⟨G, rfl, m4, hG3⟩, hb4⟩
  have HK4 : Hid (∀ X, Below w4.heap.size w4 X → ((Below w.heap.size w X ∧ S5 X w.heap.size (.int .i64 a0) (.int .i64 a1) (.int .i64 a2) (.int .i64 a3) (.int .i64 a4)) ∧ C3 X x0 (.int .i64 qc) (.slice va sn vc) (.slice xa an xc) ∧ SRN X w1.heap.size va sn vc xa an xc qS qA) ∧ TrsNew X G l) := fun X hX => ⟨HK3.out X (hb4.trans (hX.mono hb4.size)), m4.keep hX⟩
  have HGB : Hid (V3.heap.size ≤ G ∧ G < w4.heap.size ∧ Below V3.heap.size V3 w4) := ⟨hG3, m4.lt, hb4⟩
  clear m4 hG3 hb4
  obtain ⟨d0, d1, d2, d3, d4, df, _⟩ := (HK4.out _ (Below.refl _ _)).1.1.2
  go_wp2_with fail
  refine (HTR.out _).mono ?_
  rintro r0 u5 ⟨rfl, hb5⟩
  have B5 : Hid (Below w4.heap.size w4 u5) := hb5
  clear d0 d1 d2 d3 d4 df hb5
  go_wp2_with fail
  refine (HG.out _ _ (HK4.out _ B5.out).2).mono ?_
  rintro r0 u6 ⟨⟨ga, gc, ba, bc, rfl, mv⟩, hb6⟩
  obtain ⟨V6, hV6⟩ : ∃ V, V = u6.alloc (.cells #[.int .i64 qc, .slice ga sn gc, .slice ba an bc] 51) := ⟨_, rfl⟩
  have HV6 : Hid (V6 = u6.alloc (.cells #[.int .i64 qc, .slice ga sn gc, .slice ba an bc] 51)) := hV6
  have a6' : Below u6.heap.size u6 V6 := by rw [hV6]; exact (Below.refl _ _).alloc (Nat.le_refl _) _
  have b46 : Below w4.heap.size w4 V6 := B5.out.trans ((hb6.trans (a6'.mono hb6.size)).mono B5.out.size)
  have c6 : C3 V6 u6.heap.size (.int .i64 qc) (.slice ga sn gc) (.slice ba an bc) := by rw [hV6]; exact C3.new u6 _ _ _ _
  have m6 : SRN V6 w4.heap.size ga sn gc ba an bc qS qA := (mv.lower B5.out.size).keep a6'
  have o6 : SRO ga sn gc ba an bc qS qA u6.heap.size := mv.apart (.inr (Nat.le_refl _))
  have s6 : w4.heap.size ≤ u6.heap.size := Nat.le_trans B5.out.size hb6.size
  obtain ⟨x2, hx2⟩ : ∃ x, u6.heap.size = x := ⟨_, rfl⟩
  rw [hx2] at c6 o6 s6
  have HK5 : Hid (∀ X, Below V6.heap.size V6 X → (((Below w.heap.size w X ∧ S5 X w.heap.size (.int .i64 a0) (.int .i64 a1) (.int .i64 a2) (.int .i64 a3) (.int .i64 a4)) ∧ C3 X x0 (.int .i64 qc) (.slice va sn vc) (.slice xa an xc) ∧ SRN X w1.heap.size va sn vc xa an xc qS qA) ∧ TrsNew X G l) ∧ C3 X x2 (.int .i64 qc) (.slice ga sn gc) (.slice ba an bc) ∧ SRN X w4.heap.size ga sn gc ba an bc qS qA) := fun X hX => ⟨HK4.out X (b46.trans (hX.mono b46.size)), c6.keep hX, m6.keep hX⟩
  have HX2 : Hid (w4.heap.size ≤ x2 ∧ SRO ga sn gc ba an bc qS qA x2 ∧ Below V3.heap.size V3 V6 ∧ w4.heap.size ≤ V6.heap.size) := ⟨s6, o6, HGB.out.2.2.trans (b46.mono HGB.out.2.2.size), b46.size⟩
  clear mv hb6 hV6 a6' b46 c6 m6 o6 s6 B5 HK4
  go_upto_region 8 with fail
  try rw [hx2]
  rw [← HV6.out]
  clear HV6 hx2
  obtain ⟨e0, e1, e2, ef, _⟩ := (HK5.out _ (Below.refl _ _)).2.1
  obtain ⟨f0, f1, f2, ff, _⟩ := (HK5.out _ (Below.refl _ _)).1.1.2.1
  go_wp2_with fail
  refine (HEQ.out _ _ _ _ _ _ _ _ _ _ _ (HK5.out _ (Below.refl _ _)).2.2 (HK5.out _ (Below.refl _ _)).1.1.2.2).mono ?_
  rintro r0 w6 ⟨rfl, hb6⟩
  clear e0 e1 e2 ef f0 f1 f2 ff
  have HK6 : Hid (∀ X, Below w6.heap.size w6 X → (((Below w.heap.size w X ∧ S5 X w.heap.size (.int .i64 a0) (.int .i64 a1) (.int .i64 a2) (.int .i64 a3) (.int .i64 a4)) ∧ C3 X x0 (.int .i64 qc) (.slice va sn vc) (.slice xa an xc) ∧ SRN X w1.heap.size va sn vc xa an xc qS qA) ∧ TrsNew X G l) ∧ C3 X x2 (.int .i64 qc) (.slice ga sn gc) (.slice ba an bc) ∧ SRN X w4.heap.size ga sn gc ba an bc qS qA) := fun X hX => HK5.out X (hb6.trans (hX.mono hb6.size))
  have HX6 : Hid (Below V3.heap.size V3 w6 ∧ w4.heap.size ≤ w6.heap.size) := ⟨HX2.out.2.2.1.trans (hb6.mono HX2.out.2.2.1.size), Nat.le_trans HX2.out.2.2.2 hb6.size⟩
  clear HK5 hb6
  go_wp2_with fail
  refine (HT.out _ (HK6.out _ (Below.refl _ _)).1.1.1.1).mono ?_
  rintro r0 wa ⟨⟨J1, rfl, ma, _⟩, hba⟩
  have BA : Hid (Below w6.heap.size w6 wa ∧ TrsNew wa J1 l) := ⟨hba, ma⟩
  clear hba ma
  go_wp2_with fail
  refine (HQ.out _ _ _ (HK6.out _ BA.out.1).1.2 BA.out.2).mono ?_
  rintro r0 w7 ⟨rfl, hbb⟩
  have BB : Below w6.heap.size w6 w7 := BA.out.1.trans (hbb.mono BA.out.1.size)
  have HK7 : Hid (∀ X, Below w7.heap.size w7 X → (((Below w.heap.size w X ∧ S5 X w.heap.size (.int .i64 a0) (.int .i64 a1) (.int .i64 a2) (.int .i64 a3) (.int .i64 a4)) ∧ C3 X x0 (.int .i64 qc) (.slice va sn vc) (.slice xa an xc) ∧ SRN X w1.heap.size va sn vc xa an xc qS qA) ∧ TrsNew X G l) ∧ C3 X x2 (.int .i64 qc) (.slice ga sn gc) (.slice ba an bc) ∧ SRN X w4.heap.size ga sn gc ba an bc qS qA) := fun X hX => HK6.out X (BB.trans (hX.mono BB.size))
  have HX7 : Hid (Below V3.heap.size V3 w7 ∧ w4.heap.size ≤ w7.heap.size) := ⟨HX6.out.1.trans (BB.mono HX6.out.1.size), Nat.le_trans HX6.out.2 BB.size⟩
  clear HK6 HX6 BA BB hbb HQ
  go_wp2_with fail
  refine (HM.out _ _ (HK7.out _ (Below.refl _ _)).1.2).mono ?_
  rintro r0 w8 ⟨rfl, hg8⟩
  clear HM
  have k7 := HK7.out _ (Below.refl _ _)
  have b38 : Below V3.heap.size V3 w8 := HX7.out.1.trans (gbTo hg8 HGB.out.1 HX7.out.1.size)
  have c8 := k7.2.1.gb hg8 (by have := HX2.out.1; have := HGB.out.2.1; omega)
  have n8 := k7.2.2.gb2 hg8 HGB.out.2.1
  have HK8 : Hid (∀ X, Below w8.heap.size w8 X → ((Below w.heap.size w X ∧ S5 X w.heap.size (.int .i64 a0) (.int .i64 a1) (.int .i64 a2) (.int .i64 a3) (.int .i64 a4)) ∧ C3 X x0 (.int .i64 qc) (.slice va sn vc) (.slice xa an xc) ∧ SRN X w1.heap.size va sn vc xa an xc qS qA) ∧ C3 X x2 (.int .i64 qc) (.slice ga sn gc) (.slice ba an bc) ∧ SRN X w4.heap.size ga sn gc ba an bc qS qA) := fun X hX => ⟨HK3.out X (b38.trans (hX.mono b38.size)), c8.keep hX, n8.keep hX⟩
  have HX8 : Hid (Below V3.heap.size V3 w8 ∧ w4.heap.size ≤ w8.heap.size) := ⟨b38, Nat.le_trans HX7.out.2 hg8.size⟩
  clear HK7 HX7 k7 b38 c8 n8 hg8
  have hk0 : decide (((1 + n * 3 : Nat) : Int) < 0) = false := decide_eq_false (by omega)
  have hk1 : ¬ ((1 + n * 3 : Nat) : Int) < 0 := by omega
  generalize ((1 + n * 3 : Nat) : Int) = kx at *
  obtain ⟨e0, e1, e2, ef, _⟩ := (HK8.out _ (Below.refl _ _)).2.1
  obtain ⟨f0, f1, f2, ff, _⟩ := (HK8.out _ (Below.refl _ _)).1.2.1
  go_wp2_with fail
  refine (HEQ.out _ _ _ _ _ _ _ _ _ _ _ (HK8.out _ (Below.refl _ _)).2.2 (HK8.out _ (Below.refl _ _)).1.2.2).mono ?_
  rintro r0 w9 ⟨rfl, hb9⟩
  clear e0 e1 e2 ef f0 f1 f2 ff hk0 hk1
  have HK9 : Hid (∀ X, Below w9.heap.size w9 X → ((Below w.heap.size w X ∧ S5 X w.heap.size (.int .i64 a0) (.int .i64 a1) (.int .i64 a2) (.int .i64 a3) (.int .i64 a4)) ∧ C3 X x0 (.int .i64 qc) (.slice va sn vc) (.slice xa an xc) ∧ SRN X w1.heap.size va sn vc xa an xc qS qA) ∧ C3 X x2 (.int .i64 qc) (.slice ga sn gc) (.slice ba an bc) ∧ SRN X w4.heap.size ga sn gc ba an bc qS qA) := fun X hX => HK8.out X (hb9.trans (hX.mono hb9.size))
  have HX9 : Hid (Below V3.heap.size V3 w9 ∧ w4.heap.size ≤ w9.heap.size) := ⟨HX8.out.1.trans (hb9.mono HX8.out.1.size), Nat.le_trans HX8.out.2 hb9.size⟩
  clear HK8 HX8 hb9
  obtain ⟨g1, o1, g2, o2, sp1, sp2, hne, hn1, hg1, hg2, hy1, hy2⟩ := (HK9.out _ (Below.refl _ _)).2.2.spots HX9.out.2 (HK9.out _ (Below.refl _ _)).2.1.lt HX2.out.2.1
  have HSP : Hid (SpotNs w9 ga g1 o1 qS ∧ SpotBs w9 ba g2 o2 qA ∧ g1 ≠ g2 ∧ g1 ≠ w9.heap.size ∧ w4.heap.size ≤ g1 ∧ w4.heap.size ≤ g2 ∧ x2 ≠ g1 ∧ x2 ≠ g2) := ⟨sp1, sp2, hne, hn1, hg1, hg2, hy1, hy2⟩
  clear sp1 sp2 hne hn1 hg1 hg2 hy1 hy2
  obtain ⟨e0, e1, e2, ef, _⟩ := (HK9.out _ (Below.refl _ _)).2.1
  go_wp2_with fail
  refine (HMK.out _ _ _ _ _ _ _ _ _ HSP.out.1 HSP.out.2.1 HSP.out.2.2.1 HSP.out.2.2.2.1).mono ?_
  rintro r0 w10 ⟨rfl, hI10, Y, hY1, hY2⟩
  clear e0 e1 e2 ef
  have bV : V3.heap.size ≤ w4.heap.size := HGB.out.2.2.size
  have b3Y : Below V3.heap.size V3 Y := HX9.out.1.trans (gbTo hY1 (Nat.le_trans bV HSP.out.2.2.2.2.1) HX9.out.1.size)
  have b310 : Below V3.heap.size V3 w10 := b3Y.trans (gbTo hY2 (Nat.le_trans bV HSP.out.2.2.2.2.2.1) b3Y.size)
  have c10 := ((HK9.out _ (Below.refl _ _)).2.1.gb hY1 HSP.out.2.2.2.2.2.2.1).gb hY2 HSP.out.2.2.2.2.2.2.2
  have HK10 : Hid (∀ X, Below w10.heap.size w10 X → ((Below w.heap.size w X ∧ S5 X w.heap.size (.int .i64 a0) (.int .i64 a1) (.int .i64 a2) (.int .i64 a3) (.int .i64 a4)) ∧ C3 X x0 (.int .i64 qc) (.slice va sn vc) (.slice xa an xc) ∧ SRN X w1.heap.size va sn vc xa an xc qS qA) ∧ C3 X x2 (.int .i64 qc) (.slice ga sn gc) (.slice ba an bc) ∧ NsIn X ga (mkdNs 1 qS) ∧ BsIn X ba (mkdBs (1 + sn) qA)) := fun X hX => ⟨HK3.out X (b310.trans (hX.mono b310.size)), c10.keep hX, hI10.1.keep hX, hI10.2.keep hX⟩
  clear HK9 HX9 HK3 HX2 HGB HSP hI10 hY1 hY2 b3Y b310 c10 HMK bV
  have hm1 : ¬ ((1 + sn + an : Nat) : Int) < 0 := by omega
  generalize ((1 + sn + an : Nat) : Int) = mx at *
  obtain ⟨e0, e1, e2, ef, _⟩ := (HK10.out _ (Below.refl _ _)).2.1
  go_wp2_with fail
  refine (HHD.out _ _ _ _ _ (HK10.out _ (Below.refl _ _)).2.2).mono ?_
  rintro r0 w11 ⟨rfl, hb11⟩
  clear e0 e1 e2 ef
  have HK11 : Hid (∀ X, Below w11.heap.size w11 X → ((Below w.heap.size w X ∧ S5 X w.heap.size (.int .i64 a0) (.int .i64 a1) (.int .i64 a2) (.int .i64 a3) (.int .i64 a4)) ∧ C3 X x0 (.int .i64 qc) (.slice va sn vc) (.slice xa an xc) ∧ SRN X w1.heap.size va sn vc xa an xc qS qA) ∧ C3 X x2 (.int .i64 qc) (.slice ga sn gc) (.slice ba an bc) ∧ NsIn X ga (mkdNs 1 qS) ∧ BsIn X ba (mkdBs (1 + sn) qA)) := fun X hX => HK10.out X (hb11.trans (hX.mono hb11.size))
  clear HK10 hb11
  obtain ⟨d0, d1, d2, d3, d4, df, _⟩ := (HK11.out _ (Below.refl _ _)).1.1.2
  go_wp2_with fail
  refine (HTR.out _).mono ?_
  rintro r0 u1' ⟨rfl, hb1⟩
  have B1 : Hid (Below w11.heap.size w11 u1') := hb1
  clear d0 d1 d2 d3 d4 df hb1
  go_wp2_with fail
  refine (HT.out _ (HK11.out _ B1.out).1.1.1).mono ?_
  rintro r0 u2' ⟨⟨I2, rfl, m1, _⟩, hb2⟩
  have B2 : Hid (Below w11.heap.size w11 u2' ∧ TrsNew u2' I2 l) := ⟨B1.out.trans (hb2.mono B1.out.size), m1⟩
  clear B1 hb2 m1
  go_wp2_with fail
  refine (HG.out _ _ B2.out.2).mono ?_
  rintro r0 u3' ⟨⟨ha, hc, ka, kc, rfl, mv⟩, hb3⟩
  obtain ⟨V12, hV12⟩ : ∃ V, V = u3'.alloc (.cells #[.int .i64 qc, .slice ha sn hc, .slice ka an kc] 51) := ⟨_, rfl⟩
  have HV12 : Hid (V12 = u3'.alloc (.cells #[.int .i64 qc, .slice ha sn hc, .slice ka an kc] 51)) := hV12
  have a12 : Below u3'.heap.size u3' V12 := by rw [hV12]; exact (Below.refl _ _).alloc (Nat.le_refl _) _
  have b12 : Below w11.heap.size w11 V12 := B2.out.1.trans ((hb3.trans (a12.mono hb3.size)).mono B2.out.1.size)
  have c12 : C3 V12 u3'.heap.size (.int .i64 qc) (.slice ha sn hc) (.slice ka an kc) := by rw [hV12]; exact C3.new u3' _ _ _ _
  have m12 : SRN V12 w11.heap.size ha sn hc ka an kc qS qA := (mv.lower B2.out.1.size).keep a12
  obtain ⟨x3, hx3⟩ : ∃ x, u3'.heap.size = x := ⟨_, rfl⟩
  rw [hx3] at c12
  have HK12 : Hid (∀ X, Below V12.heap.size V12 X → (((Below w.heap.size w X ∧ S5 X w.heap.size (.int .i64 a0) (.int .i64 a1) (.int .i64 a2) (.int .i64 a3) (.int .i64 a4)) ∧ C3 X x0 (.int .i64 qc) (.slice va sn vc) (.slice xa an xc) ∧ SRN X w1.heap.size va sn vc xa an xc qS qA) ∧ C3 X x2 (.int .i64 qc) (.slice ga sn gc) (.slice ba an bc) ∧ NsIn X ga (mkdNs 1 qS) ∧ BsIn X ba (mkdBs (1 + sn) qA)) ∧ C3 X x3 (.int .i64 qc) (.slice ha sn hc) (.slice ka an kc) ∧ SRN X w11.heap.size ha sn hc ka an kc qS qA) := fun X hX => ⟨HK11.out X (b12.trans (hX.mono b12.size)), c12.keep hX, m12.keep hX⟩
  clear mv hb3 hV12 a12 b12 c12 m12 B2 HK11 HT HTR HG
  go_upto_region 25 with fail
  try rw [hx3]
  rw [← HV12.out]
  clear HV12 hx3
  obtain ⟨e0, e1, e2, ef, _⟩ := (HK12.out _ (Below.refl _ _)).2.1
  obtain ⟨f0, f1, f2, ff, _⟩ := (HK12.out _ (Below.refl _ _)).1.1.2.1
  go_wp2_with fail
  refine (HEQ.out _ _ _ _ _ _ _ _ _ _ _ (HK12.out _ (Below.refl _ _)).2.2 (HK12.out _ (Below.refl _ _)).1.1.2.2).mono ?_
  rintro r0 w13 ⟨rfl, hb13⟩
  clear e0 e1 e2 ef f0 f1 f2 ff
  have HK13 := hid12 (HK12.out _ hb13).1
  clear HK12 hb13
  obtain ⟨e0, e1, e2, ef, _⟩ := HK13.out.2.1
  go_wp2_with fail
  refine (HHD.out _ _ _ _ _ HK13.out.2.2).mono ?_
  rintro r0 w14 ⟨rfl, hb14⟩
  clear e0 e1 e2 ef
  have KZ : Hid (Below w.heap.size w w14) := HK13.out.1.1.1.trans (hb14.mono HK13.out.1.1.1.size)
  clear HK13 hb14 HHD HEQ
  go_wp2_with fail
  go_ret
  exact ⟨rfl, KZ.out⟩
end Go.Proofs.Ytnepafpaimoadaa
