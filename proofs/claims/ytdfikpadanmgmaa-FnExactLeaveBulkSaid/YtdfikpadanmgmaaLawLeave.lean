/-
  The law of LeaveBulk.
-/
import Derived.Test.YtdfikpadanmgmaaLeRes11
import Derived.Test.YtdfikpadanmgmaaLeaveS
import Derived.Test.YtdfikpadanmgmaaLeaveI
import Derived.Deep.RegionHeld3
import Derived.Deep.CutRange
import Derived.Deep.CutBlock
namespace Go.Proofs.Ytdfikpadanmgmaa
open Go.ChangeShapes Go.WideShapes Go.ChangeAt Go.RowKit Go.Sort
def Leave6 (w : World) (base : Nat) (qc qy : Int) (m : Nat) (ql : List Wt) (qu : Int) (e : Ending) : Prop := ∃ a c, e = .returned (.agg #[.int .i64 qc, .int .i64 qy, .slice a m c, .int .i64 qu]) ∧ WtNew w base (.slice a m c) ql
theorem WtNew.apartLeave {w : World} {base : Nat} {v : Value} {l : List Wt} (h : WtNew w base v l) {X : Nat} (hX : X < base ∨ w.heap.size ≤ X) : ∀ Q, v.ownBlock = some Q → l = [] ∨ Q ≠ X := by
  intro Q hQ
  rcases h with ⟨e, _⟩ | ⟨g, off, cap, rfl, h1, h2, _⟩
  · exact .inl e
  · simp only [Value.ownBlock, Option.some.injEq] at hQ
    right; omega
theorem WtNew.atLeave {w : World} {base : Nat} {a : Option Addr} {n c : Nat} {l : List Wt} (h : WtNew w base (.slice a n c) l) (hb : base ≤ w.heap.size) {X : Nat} (hX : X < w.heap.size) (hap : ∀ Q, (Value.slice a n c).ownBlock = some Q → l = [] ∨ Q ≠ X) : ∃ g off, base ≤ g ∧ SpotWt w a g off l ∧ X ≠ g := by
  rcases h with ⟨e, _⟩ | ⟨g, off, cap, e, h1, h2, h3, h4⟩
  · exact ⟨w.heap.size, 0, hb, .inl e, by omega⟩
  · simp only [Value.slice.injEq] at e
    obtain ⟨rfl, rfl, rfl⟩ := e
    rcases hap g rfl with e | hne
    · exact ⟨w.heap.size, 0, hb, .inl e, by omega⟩
    · exact ⟨g, off, h1, .inr ⟨rfl, h2, h3, fun o _ => h4 o⟩, fun e => hne e.symm⟩
set_option maxRecDepth 100000 in
set_option maxHeartbeats 32000000 in
theorem lawLeaveBulk (w : World) (y : Int) (a : Option Addr) (cap : Nat) (l : List Wt) (s c t : Int) (hm : l.length ≤ maxLen) (hi : WtIn w a l) :
    Calls Try.prog 7 #[.agg #[.int .i64 y, .slice a l.length cap], .agg #[.int .i64 s, .int .i64 c, .int .i64 t]] w fun r w' => r = .returned (.bool true) ∧ Below w.heap.size w w' := by
  obtain ⟨W, hW⟩ : ∃ W, W = ((w.alloc (.cells #[.int .i64 y, .slice a l.length cap] 30)).alloc (.cells #[.int .i64 s, .int .i64 c, .int .i64 t] 23)) := ⟨_, rfl⟩
  have HW : Hid (W = ((w.alloc (.cells #[.int .i64 y, .slice a l.length cap] 30)).alloc (.cells #[.int .i64 s, .int .i64 c, .int .i64 t] 23))) := hW
  have K0 : Hid (Below w.heap.size w W ∧ D2 W w.heap.size (.int .i64 y) (.slice a l.length cap) ∧ D3 W (w.heap.size + 1) (.int .i64 s) (.int .i64 c) (.int .i64 t)) := by
    have h2 := D3.new (w.alloc (.cells #[.int .i64 y, .slice a l.length cap] 30)) (.int .i64 s) (.int .i64 c) (.int .i64 t) 23
    rw [show (w.alloc (.cells #[.int .i64 y, .slice a l.length cap] 30)).heap.size = w.heap.size + 1 by simp] at h2
    rw [hW]
    exact ⟨((Below.refl _ _).alloc (Nat.le_refl _) _).alloc (by simp) _, (D2.new w _ _ _).keep ((Below.refl _ _).alloc (Nat.le_refl _) _), h2⟩
  have HZ : Hid (∀ X, Calls Try.prog 18 #[.agg #[.int .i64 y, .slice a l.length cap], .int .i64 1048576] X fun e w' => e = .returned (.int .i64 (szWt 1048576 l.length)) ∧ Below X.heap.size X w') := fun X => szBulk_any X y a cap l hm 1048576 (by omega) (by omega)
  have HRM : Hid (¬ szWt 1048576 l.length < 0 → l.length ≤ 1048576) := fun h => by have := (szWt_room (by omega) h).1; omega
  have HT0 : Hid (l.length ≤ 1048576 → ∀ X, Below w.heap.size w X → Calls Try.prog 20 #[.agg #[.int .i64 y, .slice a l.length cap]] X fun e w' => (∃ G, e = .returned (.agg #[.int .i64 y, .slice (some ⟨G, 0, none⟩) l.length l.length]) ∧ BlkNew w' G l ∧ X.heap.size ≤ G) ∧ Below X.heap.size X w') := fun hl X hb => toBulk_any X y a cap l hl (hi.keep hb)
  have HQ0 : Hid (l.length ≤ 1048576 → ∀ X G J, BlkNew X G l → BlkNew X J l → Calls Try.prog 22 #[.agg #[.int .i64 y, .slice (some ⟨G, 0, none⟩) l.length l.length], .agg #[.int .i64 y, .slice (some ⟨J, 0, none⟩) l.length l.length]] X fun r w' => r = .returned (.bool true) ∧ Below X.heap.size X w') := fun hl X G J h k => eqBulk_same X y _ _ _ _ l hl h.in k.in
  have HTR : Hid (∀ X, Calls Try.prog 16 #[.agg #[.int .i64 s, .int .i64 c, .int .i64 t]] X fun r w' => r = .returned (.agg #[.int .i64 s, .int .i64 c, .int .i64 t]) ∧ Below X.heap.size X w') := toLanes_any s c t
  have HMX : Hid (l.length ≤ 1048576 → ∀ X G, BlkNew X G l → Calls Try.prog 28 #[.agg #[.int .i64 y, .slice (some ⟨G, 0, none⟩) l.length l.length], .int .i64 ((1 : Nat) : Int)] X fun e w' => e = .returned (.int .i64 ((1 + l.length * 2 : Nat) : Int)) ∧ X.grownBy w' (some G)) := fun hl X G h => (markBulk_any X y _ _ 1 (by omega) l hl G 0 h.spot).mono fun _ _ ⟨h1, _, h3⟩ => ⟨h1, h3⟩
  obtain ⟨q, hq⟩ : ∃ q, leaveR y l s c t = q := ⟨_, rfl⟩
  have HS0 : Hid (l.length ≤ 1048576 → ∀ X G, BlkNew X G l → Calls Try.prog 31 #[.agg #[.int .i64 y, .slice (some ⟨G, 0, none⟩) l.length l.length], .agg #[.int .i64 s, .int .i64 c, .int .i64 t]] X fun e w' => LeRes w' X.heap.size q e ∧ Below X.heap.size X w') := fun hl X G h => by rw [← hq]; exact specLeave_any X y _ _ l s c t hl h.in
  have HG0 : Hid (l.length ≤ 1048576 → ∀ X G, BlkNew X G l → Calls Try.prog 32 #[.agg #[.int .i64 y, .slice (some ⟨G, 0, none⟩) l.length l.length], .agg #[.int .i64 s, .int .i64 c, .int .i64 t]] X fun e w' => LeRes w' X.heap.size q e ∧ Below X.heap.size X w') := fun hl X G h => by rw [← hq]; exact implLeave_any X y _ _ l s c t hl (Nat.le_refl _) h.in
  have HQL : Hid (l.length ≤ 1048576 → q.l.length ≤ 1048576) := fun hl => by rw [← hq]; exact leaveR_len hl
  clear hW hi hm hq
  obtain ⟨qc, qy, ql, qu⟩ := q
  obtain ⟨m, hmq⟩ : ∃ m, ql.length = m := ⟨_, rfl⟩
  have HS1 : Hid (l.length ≤ 1048576 → ∀ X G, BlkNew X G l → Calls Try.prog 31 #[.agg #[.int .i64 y, .slice (some ⟨G, 0, none⟩) l.length l.length], .agg #[.int .i64 s, .int .i64 c, .int .i64 t]] X fun e w' => Leave6 w' X.heap.size qc qy m ql qu e ∧ Below X.heap.size X w') := fun hl X G h => by subst hmq; exact (HS0.out hl X G h).mono fun _ _ ⟨⟨a, cp, h1, h2, _⟩, h3⟩ => ⟨⟨a, cp, h1, h2⟩, h3⟩
  have HG1 : Hid (l.length ≤ 1048576 → ∀ X G, BlkNew X G l → Calls Try.prog 32 #[.agg #[.int .i64 y, .slice (some ⟨G, 0, none⟩) l.length l.length], .agg #[.int .i64 s, .int .i64 c, .int .i64 t]] X fun e w' => Leave6 w' X.heap.size qc qy m ql qu e ∧ Below X.heap.size X w') := fun hl X G h => by subst hmq; exact (HG0.out hl X G h).mono fun _ _ ⟨⟨a, cp, h1, h2, _⟩, h3⟩ => ⟨⟨a, cp, h1, h2⟩, h3⟩
  have HEQ0 : Hid (l.length ≤ 1048576 → ∀ X b1 b2 v1 c1 v2 c2, WtNew X b1 (.slice v1 m c1) ql → WtNew X b2 (.slice v2 m c2) ql → Calls Try.prog 33 #[.agg #[.int .i64 qc, .int .i64 qy, .slice v1 m c1, .int .i64 qu], .agg #[.int .i64 qc, .int .i64 qy, .slice v2 m c2, .int .i64 qu]] X fun e w' => e = .returned (.bool true) ∧ Below X.heap.size X w') := fun hl X b1 b2 v1 c1 v2 c2 h1 h2 => by
    subst hmq
    obtain ⟨x1, y1, e1, i1⟩ := h1.in
    obtain ⟨x2, y2, e2, i2⟩ := h2.in
    simp only [Value.slice.injEq, true_and] at e1 e2
    obtain ⟨rfl, rfl⟩ := e1
    obtain ⟨rfl, rfl⟩ := e2
    exact eqLeaveResult_same X qc qy qu _ _ _ _ ql (HQL.out hl) i1 i2
  have HMK0 : Hid (l.length ≤ 1048576 → ∀ X v1 c1 g off, SpotWt X v1 g off ql → Calls Try.prog 34 #[.agg #[.int .i64 qc, .int .i64 qy, .slice v1 m c1, .int .i64 qu], .int .i64 ((1 : Nat) : Int)] X fun e w' => e = .returned (.int .i64 ((1 + m * 2 : Nat) : Int)) ∧ WtIn w' v1 (mkdWt 1 ql) ∧ X.grownBy w' (some g)) := fun hl X v1 c1 g off h => by subst hmq; exact markLeaveResult_any X qc qy qu v1 c1 1 (by omega) ql (HQL.out hl) g off h
  have HHD0 : Hid (l.length ≤ 1048576 → ∀ X v1 c1, WtIn X v1 (mkdWt 1 ql) → Calls Try.prog 35 #[.agg #[.int .i64 qc, .int .i64 qy, .slice v1 m c1, .int .i64 qu], .int .i64 ((1 : Nat) : Int)] X fun e w' => e = .returned (.int .i64 ((1 + m * 2 : Nat) : Int)) ∧ Below X.heap.size X w') := fun hl X v1 c1 h => by subst hmq; exact heldLeaveResult_any X qc qy qu v1 c1 1 (by omega) ql (HQL.out hl) h
  clear HS0 HG0 HQL hmq
  generalize szWt 1048576 l.length = z1 at *
  generalize l.length = n at *
  go_enter Try.func7, Try.ntmps7
  go_wp2_with fail
  rw [← HW.out]
  refine (HZ.out _).mono ?_
  rintro e0 w1 ⟨rfl, hb1⟩
  have HK : Hid (∀ X, Below w1.heap.size w1 X → Below w.heap.size w X ∧ D2 X w.heap.size (.int .i64 y) (.slice a n cap) ∧ D3 X (w.heap.size + 1) (.int .i64 s) (.int .i64 c) (.int .i64 t)) := fun X hX => by
    have b := hb1.trans (hX.mono hb1.size)
    exact ⟨K0.out.1.trans (b.mono K0.out.1.size), K0.out.2.1.keep b, K0.out.2.2.keep b⟩
  clear K0 HW HZ hb1
  by_cases cz : z1 < 0
  · clear HRM HT0 HQ0 HS1 HG1 HTR HMX HEQ0 HMK0 HHD0
    go_wp2_with fail
    go_ret
    exact ⟨rfl, (HK.out _ (Below.refl _ _)).1⟩
  have HF : n ≤ 1048576 := HRM.out (by omega)
  have HT := hid11 (HT0.out HF)
  have HQ := hid11 (HQ0.out HF)
  have HS := hid11 (HS1.out HF)
  have HG := hid11 (HG1.out HF)
  have HM := hid11 (HMX.out HF)
  have HEQ := hid11 (HEQ0.out HF)
  have HMK := hid11 (HMK0.out HF)
  have HHD := hid11 (HHD0.out HF)
  clear HRM HT0 HQ0 HS1 HG1 HMX HEQ0 HMK0 HHD0
  go_upto_region 5 with fail
  go_cut [6] from 18 to 22 (fun sx wx => ∃ X0 va vc, sx = .pointer (some ⟨X0, 0, none⟩) ∧ Below w1.heap.size w1 wx ∧ D4 wx X0 (.int .i64 qc) (.int .i64 qy) (.slice va m vc) (.int .i64 qu) ∧ w1.heap.size ≤ X0 ∧ WtNew wx w1.heap.size (.slice va m vc) ql ∧ ∀ Q, (Value.slice va m vc).ownBlock = some Q → ql = [] ∨ Q ≠ X0)
  case first =>
    have HKS : Hid (∀ X, Below w1.heap.size w1 X → X.cell? ⟨w.heap.size, 0, none⟩ = some (.int .i64 y) ∧ X.cell? ⟨w.heap.size, 1, none⟩ = some (.slice a n cap) ∧ X.cell? ⟨w.heap.size + 1, 0, none⟩ = some (.int .i64 s) ∧ X.cell? ⟨w.heap.size + 1, 1, none⟩ = some (.int .i64 c) ∧ X.cell? ⟨w.heap.size + 1, 2, none⟩ = some (.int .i64 t)) := fun X hb => ⟨(HK.out X hb).2.1.c0, (HK.out X hb).2.1.c1, (HK.out X hb).2.2.c0, (HK.out X hb).2.2.c1, (HK.out X hb).2.2.c2⟩
    have B0 : Hid (Below w1.heap.size w1 w1.drew) := (Below.refl _ _).drew
    have B0A : Hid (Below w1.heap.size w1 (w1.alloc (.cells #[.int .i64 0, .int .i64 0, .slice none 0 0, .int .i64 0] 48)).drew) := ((Below.refl _ _).alloc (Nat.le_refl _) _).drew
    have ZA0 : Hid (D4 (w1.alloc (.cells #[.int .i64 0, .int .i64 0, .slice none 0 0, .int .i64 0] 48)).drew w1.heap.size (.int .i64 0) (.int .i64 0) (.slice none 0 0) (.int .i64 0)) := (D4.new w1 _ _ _ _ _).keep ((Below.refl _ _).drew)
    go_region_held3 (fun X => X.cell? ⟨w.heap.size, 0, none⟩ = some (.int .i64 y) ∧ X.cell? ⟨w.heap.size, 1, none⟩ = some (.slice a n cap) ∧ X.cell? ⟨w.heap.size + 1, 0, none⟩ = some (.int .i64 s) ∧ X.cell? ⟨w.heap.size + 1, 1, none⟩ = some (.int .i64 c) ∧ X.cell? ⟨w.heap.size + 1, 2, none⟩ = some (.int .i64 t))
      (first | ((with_reducible refine HKS.out _ ?_); (with_reducible exact BD.out)) | ((with_reducible refine HKS.out _ ?_); (with_reducible exact B3.out)) | ((with_reducible refine HKS.out _ ?_); (with_reducible exact B2.out)) | ((with_reducible refine HKS.out _ ?_); (with_reducible exact B1.out)) | ((with_reducible refine HKS.out _ ?_); (with_reducible exact B0.out)) | ((with_reducible refine HKS.out _ ?_); (with_reducible exact B0A.out)) | ((with_reducible refine HKS.out _ ?_); (with_reducible exact B3.out.alloc B3.out.size _)) | ((with_reducible refine HKS.out _ ?_); (with_reducible exact B2.out.alloc B2.out.size _)) | ((with_reducible refine HKS.out _ ?_); (with_reducible exact B1.out.alloc B1.out.size _)) | ((with_reducible refine HKS.out _ ?_); (with_reducible exact (Below.refl _ _).alloc (Nat.le_refl _) _)))
      (first
        | (go_at_call 20; first
          | (have HBB : Hid (Below w1.heap.size w1 w1.drew) := B0.out; (with_reducible refine (HT.out w1.drew (HK.out _ HBB.out).1).mono ?_); rintro r0 u1 ⟨⟨I1, rfl, ma, _⟩, hb⟩; have B1 : Hid (Below w1.heap.size w1 u1) := HBB.out.trans (hb.mono HBB.out.size); have MA : Hid (BlkNew u1 I1 l) := ma; clear ma; clear hb; clear HBB)
          | (have HBB : Hid (Below w1.heap.size w1 (w1.alloc (.cells #[.int .i64 0, .int .i64 0, .slice none 0 0, .int .i64 0] 48)).drew) := B0A.out; (with_reducible refine (HT.out (w1.alloc (.cells #[.int .i64 0, .int .i64 0, .slice none 0 0, .int .i64 0] 48)).drew (HK.out _ HBB.out).1).mono ?_); rintro r0 u1 ⟨⟨I1, rfl, ma, _⟩, hb⟩; have B1 : Hid (Below w1.heap.size w1 u1) := HBB.out.trans (hb.mono HBB.out.size); have MA : Hid (BlkNew u1 I1 l) := ma; clear ma; have Z1x1 : Hid (D4 u1 w1.heap.size (.int .i64 0) (.int .i64 0) (.slice none 0 0) (.int .i64 0)) := ZA0.out.keep hb; clear hb; clear HBB))
        | (go_at_call 16; first
          | (have hz := Z1x1.out; have HBB : Hid (Below w1.heap.size w1 u1) := B1.out; (with_reducible refine (HTR.out u1).mono ?_); rintro r0 u2 ⟨rfl, hb⟩; have B2 : Hid (Below w1.heap.size w1 u2) := HBB.out.trans (hb.mono HBB.out.size); have MB : Hid (BlkNew u2 I1 l) := MA.out.keep hb; have Z1x2 : Hid (D4 u2 w1.heap.size (.int .i64 0) (.int .i64 0) (.slice none 0 0) (.int .i64 0)) := hz.keep hb; clear hb; clear HBB)
          | (have HBB : Hid (Below w1.heap.size w1 u1) := B1.out; (with_reducible refine (HTR.out u1).mono ?_); rintro r0 u2 ⟨rfl, hb⟩; have B2 : Hid (Below w1.heap.size w1 u2) := HBB.out.trans (hb.mono HBB.out.size); have MB : Hid (BlkNew u2 I1 l) := MA.out.keep hb; clear hb; clear HBB)
          | (have HBB : Hid (Below w1.heap.size w1 (u1.alloc (.cells #[.int .i64 0, .int .i64 0, .slice none 0 0, .int .i64 0] 48))) := (B1.out.alloc B1.out.size _); (with_reducible refine (HTR.out (u1.alloc (.cells #[.int .i64 0, .int .i64 0, .slice none 0 0, .int .i64 0] 48))).mono ?_); rintro r0 u2 ⟨rfl, hb⟩; have B2 : Hid (Below w1.heap.size w1 u2) := HBB.out.trans (hb.mono HBB.out.size); have MB : Hid (BlkNew u2 I1 l) := (MA.out.keep ((Below.refl _ _).alloc (Nat.le_refl _) _)).keep hb; have Z2x2 : Hid (D4 u2 u1.heap.size (.int .i64 0) (.int .i64 0) (.slice none 0 0) (.int .i64 0)) := (D4.new u1 _ _ _ _ _).keep hb; clear hb; clear HBB))
        | (go_at_call 31; first
          | (have hz := Z1x2.out; have HBB : Hid (Below w1.heap.size w1 u2) := B2.out; (with_reducible refine (HS.out u2 I1 MB.out).mono ?_); rintro r0 u3 ⟨⟨va, vc, rfl, mv⟩, hb⟩; have B3 : Hid (Below w1.heap.size w1 u3) := HBB.out.trans (hb.mono HBB.out.size); have Z1x3 : Hid (D4 u3 w1.heap.size (.int .i64 0) (.int .i64 0) (.slice none 0 0) (.int .i64 0)) := hz.keep hb; have hXb : w1.heap.size < u2.heap.size := hz.lt; have hXw : w1.heap.size ≤ w1.heap.size := Nat.le_refl _; have BD : Hid (Below w1.heap.size w1 ((((u3.setCell ⟨w1.heap.size, 0, none⟩ (.int .i64 qc)).setCell ⟨w1.heap.size, 1, none⟩ (.int .i64 qy)).setCell ⟨w1.heap.size, 2, none⟩ (.slice va m vc)).setCell ⟨w1.heap.size, 3, none⟩ (.int .i64 qu))) := (((((B3.out).setCell hXw _).setCell hXw _).setCell hXw _).setCell hXw _); have FIN : Hid (Below w1.heap.size w1 ((((u3.setCell ⟨w1.heap.size, 0, none⟩ (.int .i64 qc)).setCell ⟨w1.heap.size, 1, none⟩ (.int .i64 qy)).setCell ⟨w1.heap.size, 2, none⟩ (.slice va m vc)).setCell ⟨w1.heap.size, 3, none⟩ (.int .i64 qu)) ∧ D4 ((((u3.setCell ⟨w1.heap.size, 0, none⟩ (.int .i64 qc)).setCell ⟨w1.heap.size, 1, none⟩ (.int .i64 qy)).setCell ⟨w1.heap.size, 2, none⟩ (.slice va m vc)).setCell ⟨w1.heap.size, 3, none⟩ (.int .i64 qu)) w1.heap.size (.int .i64 qc) (.int .i64 qy) (.slice va m vc) (.int .i64 qu) ∧ w1.heap.size ≤ w1.heap.size ∧ WtNew ((((u3.setCell ⟨w1.heap.size, 0, none⟩ (.int .i64 qc)).setCell ⟨w1.heap.size, 1, none⟩ (.int .i64 qy)).setCell ⟨w1.heap.size, 2, none⟩ (.slice va m vc)).setCell ⟨w1.heap.size, 3, none⟩ (.int .i64 qu)) w1.heap.size (.slice va m vc) ql ∧ ∀ Q, (Value.slice va m vc).ownBlock = some Q → ql = [] ∨ Q ≠ w1.heap.size) := ⟨BD.out, Z1x3.out.put _ _ _ _, hXw, ((((mv.gw2 (gwSet _ _ _ _) hXb).gw2 (gwSet _ _ _ _) hXb).gw2 (gwSet _ _ _ _) hXb).gw2 (gwSet _ _ _ _) hXb).lower HBB.out.size, mv.apartLeave (.inl hXb)⟩; obtain ⟨z0, z1, z2, z3, zf, _⟩ := Z1x3.out; clear hXb hXw mv hb; clear HBB)
          | (have hz := Z2x2.out; have HBB : Hid (Below w1.heap.size w1 u2) := B2.out; (with_reducible refine (HS.out u2 I1 MB.out).mono ?_); rintro r0 u3 ⟨⟨va, vc, rfl, mv⟩, hb⟩; have B3 : Hid (Below w1.heap.size w1 u3) := HBB.out.trans (hb.mono HBB.out.size); have Z2x3 : Hid (D4 u3 u1.heap.size (.int .i64 0) (.int .i64 0) (.slice none 0 0) (.int .i64 0)) := hz.keep hb; have hXb : u1.heap.size < u2.heap.size := hz.lt; have hXw : w1.heap.size ≤ u1.heap.size := B1.out.size; have BD : Hid (Below w1.heap.size w1 ((((u3.setCell ⟨u1.heap.size, 0, none⟩ (.int .i64 qc)).setCell ⟨u1.heap.size, 1, none⟩ (.int .i64 qy)).setCell ⟨u1.heap.size, 2, none⟩ (.slice va m vc)).setCell ⟨u1.heap.size, 3, none⟩ (.int .i64 qu))) := (((((B3.out).setCell hXw _).setCell hXw _).setCell hXw _).setCell hXw _); have FIN : Hid (Below w1.heap.size w1 ((((u3.setCell ⟨u1.heap.size, 0, none⟩ (.int .i64 qc)).setCell ⟨u1.heap.size, 1, none⟩ (.int .i64 qy)).setCell ⟨u1.heap.size, 2, none⟩ (.slice va m vc)).setCell ⟨u1.heap.size, 3, none⟩ (.int .i64 qu)) ∧ D4 ((((u3.setCell ⟨u1.heap.size, 0, none⟩ (.int .i64 qc)).setCell ⟨u1.heap.size, 1, none⟩ (.int .i64 qy)).setCell ⟨u1.heap.size, 2, none⟩ (.slice va m vc)).setCell ⟨u1.heap.size, 3, none⟩ (.int .i64 qu)) u1.heap.size (.int .i64 qc) (.int .i64 qy) (.slice va m vc) (.int .i64 qu) ∧ w1.heap.size ≤ u1.heap.size ∧ WtNew ((((u3.setCell ⟨u1.heap.size, 0, none⟩ (.int .i64 qc)).setCell ⟨u1.heap.size, 1, none⟩ (.int .i64 qy)).setCell ⟨u1.heap.size, 2, none⟩ (.slice va m vc)).setCell ⟨u1.heap.size, 3, none⟩ (.int .i64 qu)) w1.heap.size (.slice va m vc) ql ∧ ∀ Q, (Value.slice va m vc).ownBlock = some Q → ql = [] ∨ Q ≠ u1.heap.size) := ⟨BD.out, Z2x3.out.put _ _ _ _, hXw, ((((mv.gw2 (gwSet _ _ _ _) hXb).gw2 (gwSet _ _ _ _) hXb).gw2 (gwSet _ _ _ _) hXb).gw2 (gwSet _ _ _ _) hXb).lower HBB.out.size, mv.apartLeave (.inl hXb)⟩; obtain ⟨z0, z1, z2, z3, zf, _⟩ := Z2x3.out; clear hXb hXw mv hb; clear HBB)
          | (have HBB : Hid (Below w1.heap.size w1 u2) := B2.out; (with_reducible refine (HS.out u2 I1 MB.out).mono ?_); rintro r0 u3 ⟨⟨va, vc, rfl, mv⟩, hb⟩; have B3 : Hid (Below w1.heap.size w1 u3) := HBB.out.trans (hb.mono HBB.out.size); have BD : Hid (Below w1.heap.size w1 (u3.alloc (.cells #[.int .i64 qc, .int .i64 qy, .slice va m vc, .int .i64 qu] 48))) := B3.out.alloc B3.out.size _; have FIN : Hid (Below w1.heap.size w1 (u3.alloc (.cells #[.int .i64 qc, .int .i64 qy, .slice va m vc, .int .i64 qu] 48)) ∧ D4 (u3.alloc (.cells #[.int .i64 qc, .int .i64 qy, .slice va m vc, .int .i64 qu] 48)) u3.heap.size (.int .i64 qc) (.int .i64 qy) (.slice va m vc) (.int .i64 qu) ∧ w1.heap.size ≤ u3.heap.size ∧ WtNew (u3.alloc (.cells #[.int .i64 qc, .int .i64 qy, .slice va m vc, .int .i64 qu] 48)) w1.heap.size (.slice va m vc) ql ∧ ∀ Q, (Value.slice va m vc).ownBlock = some Q → ql = [] ∨ Q ≠ u3.heap.size) := ⟨BD.out, D4.new u3 _ _ _ _ _, B3.out.size, (mv.lower HBB.out.size).keep ((Below.refl _ _).alloc (Nat.le_refl _) _), mv.apartLeave (.inr (Nat.le_refl _))⟩; clear mv hb; clear HBB)
          | (have HBB : Hid (Below w1.heap.size w1 (u2.alloc (.cells #[.int .i64 0, .int .i64 0, .slice none 0 0, .int .i64 0] 48))) := (B2.out.alloc B2.out.size _); (with_reducible refine (HS.out (u2.alloc (.cells #[.int .i64 0, .int .i64 0, .slice none 0 0, .int .i64 0] 48)) I1 (MB.out.keep ((Below.refl _ _).alloc (Nat.le_refl _) _))).mono ?_); rintro r0 u3 ⟨⟨va, vc, rfl, mv⟩, hb⟩; have B3 : Hid (Below w1.heap.size w1 u3) := HBB.out.trans (hb.mono HBB.out.size); have Z3x3 : Hid (D4 u3 u2.heap.size (.int .i64 0) (.int .i64 0) (.slice none 0 0) (.int .i64 0)) := (D4.new u2 _ _ _ _ _).keep hb; have hXb : u2.heap.size < (u2.alloc (.cells #[.int .i64 0, .int .i64 0, .slice none 0 0, .int .i64 0] 48)).heap.size := (by simp); have hXw : w1.heap.size ≤ u2.heap.size := B2.out.size; have BD : Hid (Below w1.heap.size w1 ((((u3.setCell ⟨u2.heap.size, 0, none⟩ (.int .i64 qc)).setCell ⟨u2.heap.size, 1, none⟩ (.int .i64 qy)).setCell ⟨u2.heap.size, 2, none⟩ (.slice va m vc)).setCell ⟨u2.heap.size, 3, none⟩ (.int .i64 qu))) := (((((B3.out).setCell hXw _).setCell hXw _).setCell hXw _).setCell hXw _); have FIN : Hid (Below w1.heap.size w1 ((((u3.setCell ⟨u2.heap.size, 0, none⟩ (.int .i64 qc)).setCell ⟨u2.heap.size, 1, none⟩ (.int .i64 qy)).setCell ⟨u2.heap.size, 2, none⟩ (.slice va m vc)).setCell ⟨u2.heap.size, 3, none⟩ (.int .i64 qu)) ∧ D4 ((((u3.setCell ⟨u2.heap.size, 0, none⟩ (.int .i64 qc)).setCell ⟨u2.heap.size, 1, none⟩ (.int .i64 qy)).setCell ⟨u2.heap.size, 2, none⟩ (.slice va m vc)).setCell ⟨u2.heap.size, 3, none⟩ (.int .i64 qu)) u2.heap.size (.int .i64 qc) (.int .i64 qy) (.slice va m vc) (.int .i64 qu) ∧ w1.heap.size ≤ u2.heap.size ∧ WtNew ((((u3.setCell ⟨u2.heap.size, 0, none⟩ (.int .i64 qc)).setCell ⟨u2.heap.size, 1, none⟩ (.int .i64 qy)).setCell ⟨u2.heap.size, 2, none⟩ (.slice va m vc)).setCell ⟨u2.heap.size, 3, none⟩ (.int .i64 qu)) w1.heap.size (.slice va m vc) ql ∧ ∀ Q, (Value.slice va m vc).ownBlock = some Q → ql = [] ∨ Q ≠ u2.heap.size) := ⟨BD.out, Z3x3.out.put _ _ _ _, hXw, ((((mv.gw2 (gwSet _ _ _ _) hXb).gw2 (gwSet _ _ _ _) hXb).gw2 (gwSet _ _ _ _) hXb).gw2 (gwSet _ _ _ _) hXb).lower HBB.out.size, mv.apartLeave (.inl hXb)⟩; obtain ⟨z0, z1, z2, z3, zf, _⟩ := Z3x3.out; clear hXb hXw mv hb; clear HBB)))
    all_goals (go_wp2_with fail; go_meet; exact ⟨_, va, vc, rfl, FIN.out⟩)
  case rest =>
  obtain ⟨x0, va, vc, rfl, r1, r2, r3, r4, r5⟩ := hcut
  have HK3 : Hid (∀ X, Below wc.heap.size wc X → Below w.heap.size w X ∧ D2 X w.heap.size (.int .i64 y) (.slice a n cap) ∧ D3 X (w.heap.size + 1) (.int .i64 s) (.int .i64 c) (.int .i64 t) ∧ D4 X x0 (.int .i64 qc) (.int .i64 qy) (.slice va m vc) (.int .i64 qu) ∧ WtNew X w1.heap.size (.slice va m vc) ql) := fun X hX => by
    have p := HK.out X (r1.trans (hX.mono r1.size))
    exact ⟨p.1, p.2.1, p.2.2, r2.keep hX, r4.keep hX⟩
  clear HK r1 r2 r3 r4 r5 HS
  generalize wc = V3 at *
  obtain ⟨e0, e1, ef, _⟩ := (HK3.out _ (Below.refl _ _)).2.1
  go_wp2_with fail
  refine (HT.out _ (HK3.out _ (Below.refl _ _)).1).mono ?_
  rintro r0 w4 ⟨⟨G, rfl, m4, hG3⟩, hb4⟩
  clear e0 e1 ef
  obtain ⟨V4, hV4⟩ : ∃ V, V = w4.alloc (.cells #[.int .i64 y, .slice (some ⟨G, 0, none⟩) n n] 35) := ⟨_, rfl⟩
  have HV4 : Hid (V4 = w4.alloc (.cells #[.int .i64 y, .slice (some ⟨G, 0, none⟩) n n] 35)) := hV4
  have aV4 : Below w4.heap.size w4 V4 := by rw [hV4]; exact (Below.refl _ _).alloc (Nat.le_refl _) _
  have b34 := hb4.trans (aV4.mono hb4.size)
  have h4 : D2 V4 w4.heap.size (.int .i64 y) (.slice (some ⟨G, 0, none⟩) n n) := by rw [hV4]; exact D2.new w4 _ _ _
  have m5 := m4.keep aV4
  obtain ⟨y0, hy0⟩ : ∃ y, w4.heap.size = y := ⟨_, rfl⟩
  rw [hy0] at h4
  have HK4 : Hid (∀ X, Below V4.heap.size V4 X → (Below w.heap.size w X ∧ D2 X w.heap.size (.int .i64 y) (.slice a n cap) ∧ D3 X (w.heap.size + 1) (.int .i64 s) (.int .i64 c) (.int .i64 t) ∧ D4 X x0 (.int .i64 qc) (.int .i64 qy) (.slice va m vc) (.int .i64 qu) ∧ WtNew X w1.heap.size (.slice va m vc) ql) ∧ D2 X y0 (.int .i64 y) (.slice (some ⟨G, 0, none⟩) n n) ∧ BlkNew X G l) := fun X hX => ⟨HK3.out X (b34.trans (hX.mono b34.size)), h4.keep hX, m5.keep hX⟩
  have HK : Hid (∀ X, Below V4.heap.size V4 X → D3 X (w.heap.size + 1) (.int .i64 s) (.int .i64 c) (.int .i64 t) ∧ D2 X y0 (.int .i64 y) (.slice (some ⟨G, 0, none⟩) n n) ∧ BlkNew X G l) := fun X hX => ⟨(HK4.out X hX).1.2.2.1, (HK4.out X hX).2.1, (HK4.out X hX).2.2⟩
  have HGB : Hid (V3.heap.size ≤ G ∧ G < V4.heap.size ∧ Below V3.heap.size V3 V4) := ⟨hG3, m5.lt, b34⟩
  clear hb4 m4 hV4 aV4 b34 h4 m5 hG3
  go_upto_region 7 with fail
  rw [← HV4.out]
  clear HV4 hy0
  go_cut [8] from 25 to 28 (fun sx wx => ∃ X0 va vc, sx = .pointer (some ⟨X0, 0, none⟩) ∧ Below V4.heap.size V4 wx ∧ D4 wx X0 (.int .i64 qc) (.int .i64 qy) (.slice va m vc) (.int .i64 qu) ∧ V4.heap.size ≤ X0 ∧ WtNew wx V4.heap.size (.slice va m vc) ql ∧ ∀ Q, (Value.slice va m vc).ownBlock = some Q → ql = [] ∨ Q ≠ X0)
  case first =>
    have HKS : Hid (∀ X, Below V4.heap.size V4 X → X.cell? ⟨y0, 0, none⟩ = some (.int .i64 y) ∧ X.cell? ⟨y0, 1, none⟩ = some (.slice (some ⟨G, 0, none⟩) n n) ∧ X.cell? ⟨w.heap.size + 1, 0, none⟩ = some (.int .i64 s) ∧ X.cell? ⟨w.heap.size + 1, 1, none⟩ = some (.int .i64 c) ∧ X.cell? ⟨w.heap.size + 1, 2, none⟩ = some (.int .i64 t)) := fun X hb => ⟨(HK.out X hb).2.1.c0, (HK.out X hb).2.1.c1, (HK.out X hb).1.c0, (HK.out X hb).1.c1, (HK.out X hb).1.c2⟩
    have B0 : Hid (Below V4.heap.size V4 V4.drew) := (Below.refl _ _).drew
    have B0A : Hid (Below V4.heap.size V4 (V4.alloc (.cells #[.int .i64 0, .int .i64 0, .slice none 0 0, .int .i64 0] 48)).drew) := ((Below.refl _ _).alloc (Nat.le_refl _) _).drew
    have ZA0 : Hid (D4 (V4.alloc (.cells #[.int .i64 0, .int .i64 0, .slice none 0 0, .int .i64 0] 48)).drew V4.heap.size (.int .i64 0) (.int .i64 0) (.slice none 0 0) (.int .i64 0)) := (D4.new V4 _ _ _ _ _).keep ((Below.refl _ _).drew)
    go_region_held3 (fun X => X.cell? ⟨y0, 0, none⟩ = some (.int .i64 y) ∧ X.cell? ⟨y0, 1, none⟩ = some (.slice (some ⟨G, 0, none⟩) n n) ∧ X.cell? ⟨w.heap.size + 1, 0, none⟩ = some (.int .i64 s) ∧ X.cell? ⟨w.heap.size + 1, 1, none⟩ = some (.int .i64 c) ∧ X.cell? ⟨w.heap.size + 1, 2, none⟩ = some (.int .i64 t))
      (first | ((with_reducible refine HKS.out _ ?_); (with_reducible exact BD.out)) | ((with_reducible refine HKS.out _ ?_); (with_reducible exact B2.out)) | ((with_reducible refine HKS.out _ ?_); (with_reducible exact B1.out)) | ((with_reducible refine HKS.out _ ?_); (with_reducible exact B0.out)) | ((with_reducible refine HKS.out _ ?_); (with_reducible exact B0A.out)) | ((with_reducible refine HKS.out _ ?_); (with_reducible exact B2.out.alloc B2.out.size _)) | ((with_reducible refine HKS.out _ ?_); (with_reducible exact B1.out.alloc B1.out.size _)) | ((with_reducible refine HKS.out _ ?_); (with_reducible exact (Below.refl _ _).alloc (Nat.le_refl _) _)))
      (first
        | (go_at_call 16; first
          | (have HBB : Hid (Below V4.heap.size V4 V4.drew) := B0.out; (with_reducible refine (HTR.out V4.drew).mono ?_); rintro r0 u1 ⟨rfl, hb⟩; have B1 : Hid (Below V4.heap.size V4 u1) := HBB.out.trans (hb.mono HBB.out.size); clear hb; clear HBB)
          | (have HBB : Hid (Below V4.heap.size V4 (V4.alloc (.cells #[.int .i64 0, .int .i64 0, .slice none 0 0, .int .i64 0] 48)).drew) := B0A.out; (with_reducible refine (HTR.out (V4.alloc (.cells #[.int .i64 0, .int .i64 0, .slice none 0 0, .int .i64 0] 48)).drew).mono ?_); rintro r0 u1 ⟨rfl, hb⟩; have B1 : Hid (Below V4.heap.size V4 u1) := HBB.out.trans (hb.mono HBB.out.size); have Z1x1 : Hid (D4 u1 V4.heap.size (.int .i64 0) (.int .i64 0) (.slice none 0 0) (.int .i64 0)) := ZA0.out.keep hb; clear hb; clear HBB))
        | (go_at_call 32; first
          | (have hz := Z1x1.out; have HBB : Hid (Below V4.heap.size V4 u1) := B1.out; (with_reducible refine (HG.out u1 G (HK.out _ HBB.out).2.2).mono ?_); rintro r0 u2 ⟨⟨va, vc, rfl, mv⟩, hb⟩; have B2 : Hid (Below V4.heap.size V4 u2) := HBB.out.trans (hb.mono HBB.out.size); have Z1x2 : Hid (D4 u2 V4.heap.size (.int .i64 0) (.int .i64 0) (.slice none 0 0) (.int .i64 0)) := hz.keep hb; have hXb : V4.heap.size < u1.heap.size := hz.lt; have hXw : V4.heap.size ≤ V4.heap.size := Nat.le_refl _; have BD : Hid (Below V4.heap.size V4 ((((u2.setCell ⟨V4.heap.size, 0, none⟩ (.int .i64 qc)).setCell ⟨V4.heap.size, 1, none⟩ (.int .i64 qy)).setCell ⟨V4.heap.size, 2, none⟩ (.slice va m vc)).setCell ⟨V4.heap.size, 3, none⟩ (.int .i64 qu))) := (((((B2.out).setCell hXw _).setCell hXw _).setCell hXw _).setCell hXw _); have FIN : Hid (Below V4.heap.size V4 ((((u2.setCell ⟨V4.heap.size, 0, none⟩ (.int .i64 qc)).setCell ⟨V4.heap.size, 1, none⟩ (.int .i64 qy)).setCell ⟨V4.heap.size, 2, none⟩ (.slice va m vc)).setCell ⟨V4.heap.size, 3, none⟩ (.int .i64 qu)) ∧ D4 ((((u2.setCell ⟨V4.heap.size, 0, none⟩ (.int .i64 qc)).setCell ⟨V4.heap.size, 1, none⟩ (.int .i64 qy)).setCell ⟨V4.heap.size, 2, none⟩ (.slice va m vc)).setCell ⟨V4.heap.size, 3, none⟩ (.int .i64 qu)) V4.heap.size (.int .i64 qc) (.int .i64 qy) (.slice va m vc) (.int .i64 qu) ∧ V4.heap.size ≤ V4.heap.size ∧ WtNew ((((u2.setCell ⟨V4.heap.size, 0, none⟩ (.int .i64 qc)).setCell ⟨V4.heap.size, 1, none⟩ (.int .i64 qy)).setCell ⟨V4.heap.size, 2, none⟩ (.slice va m vc)).setCell ⟨V4.heap.size, 3, none⟩ (.int .i64 qu)) V4.heap.size (.slice va m vc) ql ∧ ∀ Q, (Value.slice va m vc).ownBlock = some Q → ql = [] ∨ Q ≠ V4.heap.size) := ⟨BD.out, Z1x2.out.put _ _ _ _, hXw, ((((mv.gw2 (gwSet _ _ _ _) hXb).gw2 (gwSet _ _ _ _) hXb).gw2 (gwSet _ _ _ _) hXb).gw2 (gwSet _ _ _ _) hXb).lower HBB.out.size, mv.apartLeave (.inl hXb)⟩; obtain ⟨z0, z1, z2, z3, zf, _⟩ := Z1x2.out; clear hXb hXw mv hb; clear HBB)
          | (have HBB : Hid (Below V4.heap.size V4 u1) := B1.out; (with_reducible refine (HG.out u1 G (HK.out _ HBB.out).2.2).mono ?_); rintro r0 u2 ⟨⟨va, vc, rfl, mv⟩, hb⟩; have B2 : Hid (Below V4.heap.size V4 u2) := HBB.out.trans (hb.mono HBB.out.size); have BD : Hid (Below V4.heap.size V4 (u2.alloc (.cells #[.int .i64 qc, .int .i64 qy, .slice va m vc, .int .i64 qu] 48))) := B2.out.alloc B2.out.size _; have FIN : Hid (Below V4.heap.size V4 (u2.alloc (.cells #[.int .i64 qc, .int .i64 qy, .slice va m vc, .int .i64 qu] 48)) ∧ D4 (u2.alloc (.cells #[.int .i64 qc, .int .i64 qy, .slice va m vc, .int .i64 qu] 48)) u2.heap.size (.int .i64 qc) (.int .i64 qy) (.slice va m vc) (.int .i64 qu) ∧ V4.heap.size ≤ u2.heap.size ∧ WtNew (u2.alloc (.cells #[.int .i64 qc, .int .i64 qy, .slice va m vc, .int .i64 qu] 48)) V4.heap.size (.slice va m vc) ql ∧ ∀ Q, (Value.slice va m vc).ownBlock = some Q → ql = [] ∨ Q ≠ u2.heap.size) := ⟨BD.out, D4.new u2 _ _ _ _ _, B2.out.size, (mv.lower HBB.out.size).keep ((Below.refl _ _).alloc (Nat.le_refl _) _), mv.apartLeave (.inr (Nat.le_refl _))⟩; clear mv hb; clear HBB)
          | (have HBB : Hid (Below V4.heap.size V4 (u1.alloc (.cells #[.int .i64 0, .int .i64 0, .slice none 0 0, .int .i64 0] 48))) := (B1.out.alloc B1.out.size _); (with_reducible refine (HG.out (u1.alloc (.cells #[.int .i64 0, .int .i64 0, .slice none 0 0, .int .i64 0] 48)) G (HK.out _ HBB.out).2.2).mono ?_); rintro r0 u2 ⟨⟨va, vc, rfl, mv⟩, hb⟩; have B2 : Hid (Below V4.heap.size V4 u2) := HBB.out.trans (hb.mono HBB.out.size); have Z2x2 : Hid (D4 u2 u1.heap.size (.int .i64 0) (.int .i64 0) (.slice none 0 0) (.int .i64 0)) := (D4.new u1 _ _ _ _ _).keep hb; have hXb : u1.heap.size < (u1.alloc (.cells #[.int .i64 0, .int .i64 0, .slice none 0 0, .int .i64 0] 48)).heap.size := (by simp); have hXw : V4.heap.size ≤ u1.heap.size := B1.out.size; have BD : Hid (Below V4.heap.size V4 ((((u2.setCell ⟨u1.heap.size, 0, none⟩ (.int .i64 qc)).setCell ⟨u1.heap.size, 1, none⟩ (.int .i64 qy)).setCell ⟨u1.heap.size, 2, none⟩ (.slice va m vc)).setCell ⟨u1.heap.size, 3, none⟩ (.int .i64 qu))) := (((((B2.out).setCell hXw _).setCell hXw _).setCell hXw _).setCell hXw _); have FIN : Hid (Below V4.heap.size V4 ((((u2.setCell ⟨u1.heap.size, 0, none⟩ (.int .i64 qc)).setCell ⟨u1.heap.size, 1, none⟩ (.int .i64 qy)).setCell ⟨u1.heap.size, 2, none⟩ (.slice va m vc)).setCell ⟨u1.heap.size, 3, none⟩ (.int .i64 qu)) ∧ D4 ((((u2.setCell ⟨u1.heap.size, 0, none⟩ (.int .i64 qc)).setCell ⟨u1.heap.size, 1, none⟩ (.int .i64 qy)).setCell ⟨u1.heap.size, 2, none⟩ (.slice va m vc)).setCell ⟨u1.heap.size, 3, none⟩ (.int .i64 qu)) u1.heap.size (.int .i64 qc) (.int .i64 qy) (.slice va m vc) (.int .i64 qu) ∧ V4.heap.size ≤ u1.heap.size ∧ WtNew ((((u2.setCell ⟨u1.heap.size, 0, none⟩ (.int .i64 qc)).setCell ⟨u1.heap.size, 1, none⟩ (.int .i64 qy)).setCell ⟨u1.heap.size, 2, none⟩ (.slice va m vc)).setCell ⟨u1.heap.size, 3, none⟩ (.int .i64 qu)) V4.heap.size (.slice va m vc) ql ∧ ∀ Q, (Value.slice va m vc).ownBlock = some Q → ql = [] ∨ Q ≠ u1.heap.size) := ⟨BD.out, Z2x2.out.put _ _ _ _, hXw, ((((mv.gw2 (gwSet _ _ _ _) hXb).gw2 (gwSet _ _ _ _) hXb).gw2 (gwSet _ _ _ _) hXb).gw2 (gwSet _ _ _ _) hXb).lower HBB.out.size, mv.apartLeave (.inl hXb)⟩; obtain ⟨z0, z1, z2, z3, zf, _⟩ := Z2x2.out; clear hXb hXw mv hb; clear HBB)))
    all_goals (go_wp2_with fail; go_meet; exact ⟨_, va, vc, rfl, FIN.out⟩)
  case rest =>
  obtain ⟨x2, ga, gc, rfl, r1, r2, r3, r4, r5⟩ := hcut
  have HK5 : Hid (∀ X, Below wc.heap.size wc X → ((Below w.heap.size w X ∧ D2 X w.heap.size (.int .i64 y) (.slice a n cap) ∧ D3 X (w.heap.size + 1) (.int .i64 s) (.int .i64 c) (.int .i64 t) ∧ D4 X x0 (.int .i64 qc) (.int .i64 qy) (.slice va m vc) (.int .i64 qu) ∧ WtNew X w1.heap.size (.slice va m vc) ql) ∧ D2 X y0 (.int .i64 y) (.slice (some ⟨G, 0, none⟩) n n) ∧ BlkNew X G l) ∧ D4 X x2 (.int .i64 qc) (.int .i64 qy) (.slice ga m gc) (.int .i64 qu) ∧ WtNew X V4.heap.size (.slice ga m gc) ql) := fun X hX => ⟨HK4.out X (r1.trans (hX.mono r1.size)), r2.keep hX, r4.keep hX⟩
  have HX2 : Hid (V4.heap.size ≤ x2 ∧ (∀ Q, (Value.slice ga m gc).ownBlock = some Q → ql = [] ∨ Q ≠ x2) ∧ Below V3.heap.size V3 wc ∧ V4.heap.size ≤ wc.heap.size) := ⟨r3, r5, HGB.out.2.2.trans (r1.mono HGB.out.2.2.size), r1.size⟩
  clear HK HK4 r1 r2 r3 r4 r5
  generalize wc = V5 at *
  obtain ⟨e0, e1, e2, e3, ef, _⟩ := (HK5.out _ (Below.refl _ _)).2.1
  obtain ⟨f0, f1, f2, f3, ff, _⟩ := (HK5.out _ (Below.refl _ _)).1.1.2.2.2.1
  go_wp2_with fail
  refine (HEQ.out _ _ _ _ _ _ _ (HK5.out _ (Below.refl _ _)).2.2 (HK5.out _ (Below.refl _ _)).1.1.2.2.2.2).mono ?_
  rintro r0 w6 ⟨rfl, hb6⟩
  clear e0 e1 e2 e3 ef f0 f1 f2 f3 ff
  have HK6 : Hid (∀ X, Below w6.heap.size w6 X → ((Below w.heap.size w X ∧ D2 X w.heap.size (.int .i64 y) (.slice a n cap) ∧ D3 X (w.heap.size + 1) (.int .i64 s) (.int .i64 c) (.int .i64 t) ∧ D4 X x0 (.int .i64 qc) (.int .i64 qy) (.slice va m vc) (.int .i64 qu) ∧ WtNew X w1.heap.size (.slice va m vc) ql) ∧ D2 X y0 (.int .i64 y) (.slice (some ⟨G, 0, none⟩) n n) ∧ BlkNew X G l) ∧ D4 X x2 (.int .i64 qc) (.int .i64 qy) (.slice ga m gc) (.int .i64 qu) ∧ WtNew X V4.heap.size (.slice ga m gc) ql) := fun X hX => HK5.out X (hb6.trans (hX.mono hb6.size))
  have HX6 : Hid (Below V3.heap.size V3 w6 ∧ V4.heap.size ≤ w6.heap.size) := ⟨HX2.out.2.2.1.trans (hb6.mono HX2.out.2.2.1.size), Nat.le_trans HX2.out.2.2.2 hb6.size⟩
  clear HK5 hb6
  have HKS : Hid (∀ X, Below w6.heap.size w6 X → X.cell? ⟨w.heap.size, 0, none⟩ = some (.int .i64 y) ∧ X.cell? ⟨w.heap.size, 1, none⟩ = some (.slice a n cap) ∧ X.cell? ⟨y0, 0, none⟩ = some (.int .i64 y) ∧ X.cell? ⟨y0, 1, none⟩ = some (.slice (some ⟨G, 0, none⟩) n n)) := fun X hb => ⟨(HK6.out X hb).1.1.2.1.c0, (HK6.out X hb).1.1.2.1.c1, (HK6.out X hb).1.2.1.c0, (HK6.out X hb).1.2.1.c1⟩
  have B0 : Hid (Below w6.heap.size w6 w6.drew) := (Below.refl _ _).drew
  go_wp2_with fail
  go_region_held3 (fun X => X.cell? ⟨w.heap.size, 0, none⟩ = some (.int .i64 y) ∧ X.cell? ⟨w.heap.size, 1, none⟩ = some (.slice a n cap) ∧ X.cell? ⟨y0, 0, none⟩ = some (.int .i64 y) ∧ X.cell? ⟨y0, 1, none⟩ = some (.slice (some ⟨G, 0, none⟩) n n))
    (first | exact HKS.out _ BB.out | exact HKS.out _ BA.out | exact HKS.out _ B0.out)
    (first
    | (go_at_call 20; refine (HT.out _ (HK6.out _ B0.out).1.1.1).mono ?_; rintro r0 wa ⟨⟨I1, rfl, ma, _⟩, hba⟩; have BA : Hid (Below w6.heap.size w6 wa) := B0.out.trans (hba.mono B0.out.size); have MA : Hid (BlkNew wa I1 l) := ma; clear hba ma)
    | (go_at_call 22; refine (HQ.out _ _ _ (HK6.out _ BA.out).1.2.2 MA.out).mono ?_; rintro r0 w7 ⟨rfl, hbb⟩; have BB : Hid (Below w6.heap.size w6 w7) := BA.out.trans (hbb.mono BA.out.size); clear hbb))
  have HK7 : Hid (∀ X, Below w7.heap.size w7 X → ((Below w.heap.size w X ∧ D2 X w.heap.size (.int .i64 y) (.slice a n cap) ∧ D3 X (w.heap.size + 1) (.int .i64 s) (.int .i64 c) (.int .i64 t) ∧ D4 X x0 (.int .i64 qc) (.int .i64 qy) (.slice va m vc) (.int .i64 qu) ∧ WtNew X w1.heap.size (.slice va m vc) ql) ∧ D2 X y0 (.int .i64 y) (.slice (some ⟨G, 0, none⟩) n n) ∧ BlkNew X G l) ∧ D4 X x2 (.int .i64 qc) (.int .i64 qy) (.slice ga m gc) (.int .i64 qu) ∧ WtNew X V4.heap.size (.slice ga m gc) ql) := fun X hX => HK6.out X (BB.out.trans (hX.mono BB.out.size))
  have HX7 : Hid (Below V3.heap.size V3 w7 ∧ V4.heap.size ≤ w7.heap.size) := ⟨HX6.out.1.trans (BB.out.mono HX6.out.1.size), Nat.le_trans HX6.out.2 BB.out.size⟩
  clear HK6 HX6 HKS B0 BA BB MA HQ
  obtain ⟨e0, e1, ef, _⟩ := (HK7.out _ (Below.refl _ _)).1.2.1
  go_wp2_with fail
  refine (HM.out _ _ (HK7.out _ (Below.refl _ _)).1.2.2).mono ?_
  rintro r0 w8 ⟨rfl, hg8⟩
  clear e0 e1 ef HM
  have k7 := HK7.out _ (Below.refl _ _)
  have b38 : Below V3.heap.size V3 w8 := HX7.out.1.trans (gwTo hg8 HGB.out.1 HX7.out.1.size)
  have c8 := k7.2.1.gw hg8 (by have := HX2.out.1; have := HGB.out.2.1; omega)
  have n8 := k7.2.2.gw2 hg8 HGB.out.2.1
  have HK8 : Hid (∀ X, Below w8.heap.size w8 X → (Below w.heap.size w X ∧ D2 X w.heap.size (.int .i64 y) (.slice a n cap) ∧ D3 X (w.heap.size + 1) (.int .i64 s) (.int .i64 c) (.int .i64 t) ∧ D4 X x0 (.int .i64 qc) (.int .i64 qy) (.slice va m vc) (.int .i64 qu) ∧ WtNew X w1.heap.size (.slice va m vc) ql) ∧ D4 X x2 (.int .i64 qc) (.int .i64 qy) (.slice ga m gc) (.int .i64 qu) ∧ WtNew X V4.heap.size (.slice ga m gc) ql) := fun X hX => ⟨HK3.out X (b38.trans (hX.mono b38.size)), c8.keep hX, n8.keep hX⟩
  have HX8 : Hid (Below V3.heap.size V3 w8 ∧ V4.heap.size ≤ w8.heap.size) := ⟨b38, Nat.le_trans HX7.out.2 hg8.size⟩
  clear HK7 HX7 k7 b38 c8 n8 hg8
  have hk0 : decide (((1 + n * 2 : Nat) : Int) < 0) = false := decide_eq_false (by omega)
  have hk1 : ¬ ((1 + n * 2 : Nat) : Int) < 0 := by omega
  generalize ((1 + n * 2 : Nat) : Int) = kx at *
  obtain ⟨e0, e1, e2, e3, ef, _⟩ := (HK8.out _ (Below.refl _ _)).2.1
  obtain ⟨f0, f1, f2, f3, ff, _⟩ := (HK8.out _ (Below.refl _ _)).1.2.2.2.1
  go_wp2_with fail
  refine (HEQ.out _ _ _ _ _ _ _ (HK8.out _ (Below.refl _ _)).2.2 (HK8.out _ (Below.refl _ _)).1.2.2.2.2).mono ?_
  rintro r0 w9 ⟨rfl, hb9⟩
  clear e0 e1 e2 e3 ef f0 f1 f2 f3 ff hk0 hk1
  have HK9 : Hid (∀ X, Below w9.heap.size w9 X → (Below w.heap.size w X ∧ D2 X w.heap.size (.int .i64 y) (.slice a n cap) ∧ D3 X (w.heap.size + 1) (.int .i64 s) (.int .i64 c) (.int .i64 t) ∧ D4 X x0 (.int .i64 qc) (.int .i64 qy) (.slice va m vc) (.int .i64 qu) ∧ WtNew X w1.heap.size (.slice va m vc) ql) ∧ D4 X x2 (.int .i64 qc) (.int .i64 qy) (.slice ga m gc) (.int .i64 qu) ∧ WtNew X V4.heap.size (.slice ga m gc) ql) := fun X hX => HK8.out X (hb9.trans (hX.mono hb9.size))
  have HX9 : Hid (Below V3.heap.size V3 w9 ∧ V4.heap.size ≤ w9.heap.size) := ⟨HX8.out.1.trans (hb9.mono HX8.out.1.size), Nat.le_trans HX8.out.2 hb9.size⟩
  clear HK8 HX8 hb9
  obtain ⟨g2, off2, hg2, sp2, hx2⟩ := (HK9.out _ (Below.refl _ _)).2.2.atLeave HX9.out.2 (HK9.out _ (Below.refl _ _)).2.1.lt HX2.out.2.1
  have HSP : Hid (SpotWt w9 ga g2 off2 ql) := sp2
  have HG2 : Hid (V4.heap.size ≤ g2 ∧ x2 ≠ g2) := ⟨hg2, hx2⟩
  clear hg2 sp2 hx2
  obtain ⟨e0, e1, e2, e3, ef, _⟩ := (HK9.out _ (Below.refl _ _)).2.1
  go_wp2_with fail
  refine (HMK.out _ _ _ _ _ HSP.out).mono ?_
  rintro r0 w10 ⟨rfl, hI10, hg10⟩
  clear e0 e1 e2 e3 ef
  have b310 : Below V3.heap.size V3 w10 := HX9.out.1.trans (gwTo hg10 (Nat.le_trans HGB.out.2.2.size HG2.out.1) HX9.out.1.size)
  have c10 := (HK9.out _ (Below.refl _ _)).2.1.gw hg10 HG2.out.2
  have HK : Hid (∀ X, Below w10.heap.size w10 X → Below w.heap.size w X ∧ D2 X w.heap.size (.int .i64 y) (.slice a n cap) ∧ D3 X (w.heap.size + 1) (.int .i64 s) (.int .i64 c) (.int .i64 t)) := fun X hX => by
    have p := HK3.out X (b310.trans (hX.mono b310.size))
    exact ⟨p.1, p.2.1, p.2.2.1⟩
  have HK10 : Hid (∀ X, Below w10.heap.size w10 X → (Below w.heap.size w X ∧ D2 X w.heap.size (.int .i64 y) (.slice a n cap) ∧ D3 X (w.heap.size + 1) (.int .i64 s) (.int .i64 c) (.int .i64 t) ∧ D4 X x0 (.int .i64 qc) (.int .i64 qy) (.slice va m vc) (.int .i64 qu) ∧ WtNew X w1.heap.size (.slice va m vc) ql) ∧ D4 X x2 (.int .i64 qc) (.int .i64 qy) (.slice ga m gc) (.int .i64 qu) ∧ WtIn X ga (mkdWt 1 ql)) := fun X hX => ⟨HK3.out X (b310.trans (hX.mono b310.size)), c10.keep hX, hI10.keep hX⟩
  clear HK9 HX9 HK3 HX2 HGB HSP HG2 hI10 hg10 b310 c10 HMK
  have hm1 : ¬ ((1 + m * 2 : Nat) : Int) < 0 := by omega
  generalize ((1 + m * 2 : Nat) : Int) = mx at *
  obtain ⟨e0, e1, e2, e3, ef, _⟩ := (HK10.out _ (Below.refl _ _)).2.1
  go_wp2_with fail
  refine (HHD.out _ _ _ (HK10.out _ (Below.refl _ _)).2.2).mono ?_
  rintro r0 w11 ⟨rfl, hb11⟩
  clear e0 e1 e2 e3 ef
  have HK11 : Hid (∀ X, Below w11.heap.size w11 X → (Below w.heap.size w X ∧ D2 X w.heap.size (.int .i64 y) (.slice a n cap) ∧ D3 X (w.heap.size + 1) (.int .i64 s) (.int .i64 c) (.int .i64 t) ∧ D4 X x0 (.int .i64 qc) (.int .i64 qy) (.slice va m vc) (.int .i64 qu) ∧ WtNew X w1.heap.size (.slice va m vc) ql) ∧ D4 X x2 (.int .i64 qc) (.int .i64 qy) (.slice ga m gc) (.int .i64 qu) ∧ WtIn X ga (mkdWt 1 ql)) := fun X hX => HK10.out X (hb11.trans (hX.mono hb11.size))
  have HKx : Hid (∀ X, Below w11.heap.size w11 X → Below w.heap.size w X ∧ D2 X w.heap.size (.int .i64 y) (.slice a n cap) ∧ D3 X (w.heap.size + 1) (.int .i64 s) (.int .i64 c) (.int .i64 t)) := fun X hX => HK.out X (hb11.trans (hX.mono hb11.size))
  clear HK10 HK hb11
  have HK := HKx
  clear HKx
  go_upto_region 24 with fail
  go_cut [12] from 60 to 64 (fun sx wx => ∃ X0 va vc, sx = .pointer (some ⟨X0, 0, none⟩) ∧ Below w11.heap.size w11 wx ∧ D4 wx X0 (.int .i64 qc) (.int .i64 qy) (.slice va m vc) (.int .i64 qu) ∧ w11.heap.size ≤ X0 ∧ WtNew wx w11.heap.size (.slice va m vc) ql ∧ ∀ Q, (Value.slice va m vc).ownBlock = some Q → ql = [] ∨ Q ≠ X0)
  case first =>
    clear HK11
    have HKS : Hid (∀ X, Below w11.heap.size w11 X → X.cell? ⟨w.heap.size, 0, none⟩ = some (.int .i64 y) ∧ X.cell? ⟨w.heap.size, 1, none⟩ = some (.slice a n cap) ∧ X.cell? ⟨w.heap.size + 1, 0, none⟩ = some (.int .i64 s) ∧ X.cell? ⟨w.heap.size + 1, 1, none⟩ = some (.int .i64 c) ∧ X.cell? ⟨w.heap.size + 1, 2, none⟩ = some (.int .i64 t)) := fun X hb => ⟨(HK.out X hb).2.1.c0, (HK.out X hb).2.1.c1, (HK.out X hb).2.2.c0, (HK.out X hb).2.2.c1, (HK.out X hb).2.2.c2⟩
    have B0 : Hid (Below w11.heap.size w11 w11.drew) := (Below.refl _ _).drew
    have B0A : Hid (Below w11.heap.size w11 (w11.alloc (.cells #[.int .i64 0, .int .i64 0, .slice none 0 0, .int .i64 0] 48)).drew) := ((Below.refl _ _).alloc (Nat.le_refl _) _).drew
    have ZA0 : Hid (D4 (w11.alloc (.cells #[.int .i64 0, .int .i64 0, .slice none 0 0, .int .i64 0] 48)).drew w11.heap.size (.int .i64 0) (.int .i64 0) (.slice none 0 0) (.int .i64 0)) := (D4.new w11 _ _ _ _ _).keep ((Below.refl _ _).drew)
    go_region_held3 (fun X => X.cell? ⟨w.heap.size, 0, none⟩ = some (.int .i64 y) ∧ X.cell? ⟨w.heap.size, 1, none⟩ = some (.slice a n cap) ∧ X.cell? ⟨w.heap.size + 1, 0, none⟩ = some (.int .i64 s) ∧ X.cell? ⟨w.heap.size + 1, 1, none⟩ = some (.int .i64 c) ∧ X.cell? ⟨w.heap.size + 1, 2, none⟩ = some (.int .i64 t))
      (first | ((with_reducible refine HKS.out _ ?_); (with_reducible exact BD.out)) | ((with_reducible refine HKS.out _ ?_); (with_reducible exact B3.out)) | ((with_reducible refine HKS.out _ ?_); (with_reducible exact B2.out)) | ((with_reducible refine HKS.out _ ?_); (with_reducible exact B1.out)) | ((with_reducible refine HKS.out _ ?_); (with_reducible exact B0.out)) | ((with_reducible refine HKS.out _ ?_); (with_reducible exact B0A.out)) | ((with_reducible refine HKS.out _ ?_); (with_reducible exact B3.out.alloc B3.out.size _)) | ((with_reducible refine HKS.out _ ?_); (with_reducible exact B2.out.alloc B2.out.size _)) | ((with_reducible refine HKS.out _ ?_); (with_reducible exact B1.out.alloc B1.out.size _)) | ((with_reducible refine HKS.out _ ?_); (with_reducible exact (Below.refl _ _).alloc (Nat.le_refl _) _)))
      (first
        | (go_at_call 20; first
          | (have HBB : Hid (Below w11.heap.size w11 w11.drew) := B0.out; (with_reducible refine (HT.out w11.drew (HK.out _ HBB.out).1).mono ?_); rintro r0 u1 ⟨⟨I1, rfl, ma, _⟩, hb⟩; have B1 : Hid (Below w11.heap.size w11 u1) := HBB.out.trans (hb.mono HBB.out.size); have MA : Hid (BlkNew u1 I1 l) := ma; clear ma; clear hb; clear HBB)
          | (have HBB : Hid (Below w11.heap.size w11 (w11.alloc (.cells #[.int .i64 0, .int .i64 0, .slice none 0 0, .int .i64 0] 48)).drew) := B0A.out; (with_reducible refine (HT.out (w11.alloc (.cells #[.int .i64 0, .int .i64 0, .slice none 0 0, .int .i64 0] 48)).drew (HK.out _ HBB.out).1).mono ?_); rintro r0 u1 ⟨⟨I1, rfl, ma, _⟩, hb⟩; have B1 : Hid (Below w11.heap.size w11 u1) := HBB.out.trans (hb.mono HBB.out.size); have MA : Hid (BlkNew u1 I1 l) := ma; clear ma; have Z1x1 : Hid (D4 u1 w11.heap.size (.int .i64 0) (.int .i64 0) (.slice none 0 0) (.int .i64 0)) := ZA0.out.keep hb; clear hb; clear HBB))
        | (go_at_call 16; first
          | (have hz := Z1x1.out; have HBB : Hid (Below w11.heap.size w11 u1) := B1.out; (with_reducible refine (HTR.out u1).mono ?_); rintro r0 u2 ⟨rfl, hb⟩; have B2 : Hid (Below w11.heap.size w11 u2) := HBB.out.trans (hb.mono HBB.out.size); have MB : Hid (BlkNew u2 I1 l) := MA.out.keep hb; have Z1x2 : Hid (D4 u2 w11.heap.size (.int .i64 0) (.int .i64 0) (.slice none 0 0) (.int .i64 0)) := hz.keep hb; clear hb; clear HBB)
          | (have HBB : Hid (Below w11.heap.size w11 u1) := B1.out; (with_reducible refine (HTR.out u1).mono ?_); rintro r0 u2 ⟨rfl, hb⟩; have B2 : Hid (Below w11.heap.size w11 u2) := HBB.out.trans (hb.mono HBB.out.size); have MB : Hid (BlkNew u2 I1 l) := MA.out.keep hb; clear hb; clear HBB)
          | (have HBB : Hid (Below w11.heap.size w11 (u1.alloc (.cells #[.int .i64 0, .int .i64 0, .slice none 0 0, .int .i64 0] 48))) := (B1.out.alloc B1.out.size _); (with_reducible refine (HTR.out (u1.alloc (.cells #[.int .i64 0, .int .i64 0, .slice none 0 0, .int .i64 0] 48))).mono ?_); rintro r0 u2 ⟨rfl, hb⟩; have B2 : Hid (Below w11.heap.size w11 u2) := HBB.out.trans (hb.mono HBB.out.size); have MB : Hid (BlkNew u2 I1 l) := (MA.out.keep ((Below.refl _ _).alloc (Nat.le_refl _) _)).keep hb; have Z2x2 : Hid (D4 u2 u1.heap.size (.int .i64 0) (.int .i64 0) (.slice none 0 0) (.int .i64 0)) := (D4.new u1 _ _ _ _ _).keep hb; clear hb; clear HBB))
        | (go_at_call 32; first
          | (have hz := Z1x2.out; have HBB : Hid (Below w11.heap.size w11 u2) := B2.out; (with_reducible refine (HG.out u2 I1 MB.out).mono ?_); rintro r0 u3 ⟨⟨va, vc, rfl, mv⟩, hb⟩; have B3 : Hid (Below w11.heap.size w11 u3) := HBB.out.trans (hb.mono HBB.out.size); have Z1x3 : Hid (D4 u3 w11.heap.size (.int .i64 0) (.int .i64 0) (.slice none 0 0) (.int .i64 0)) := hz.keep hb; have hXb : w11.heap.size < u2.heap.size := hz.lt; have hXw : w11.heap.size ≤ w11.heap.size := Nat.le_refl _; have BD : Hid (Below w11.heap.size w11 ((((u3.setCell ⟨w11.heap.size, 0, none⟩ (.int .i64 qc)).setCell ⟨w11.heap.size, 1, none⟩ (.int .i64 qy)).setCell ⟨w11.heap.size, 2, none⟩ (.slice va m vc)).setCell ⟨w11.heap.size, 3, none⟩ (.int .i64 qu))) := (((((B3.out).setCell hXw _).setCell hXw _).setCell hXw _).setCell hXw _); have FIN : Hid (Below w11.heap.size w11 ((((u3.setCell ⟨w11.heap.size, 0, none⟩ (.int .i64 qc)).setCell ⟨w11.heap.size, 1, none⟩ (.int .i64 qy)).setCell ⟨w11.heap.size, 2, none⟩ (.slice va m vc)).setCell ⟨w11.heap.size, 3, none⟩ (.int .i64 qu)) ∧ D4 ((((u3.setCell ⟨w11.heap.size, 0, none⟩ (.int .i64 qc)).setCell ⟨w11.heap.size, 1, none⟩ (.int .i64 qy)).setCell ⟨w11.heap.size, 2, none⟩ (.slice va m vc)).setCell ⟨w11.heap.size, 3, none⟩ (.int .i64 qu)) w11.heap.size (.int .i64 qc) (.int .i64 qy) (.slice va m vc) (.int .i64 qu) ∧ w11.heap.size ≤ w11.heap.size ∧ WtNew ((((u3.setCell ⟨w11.heap.size, 0, none⟩ (.int .i64 qc)).setCell ⟨w11.heap.size, 1, none⟩ (.int .i64 qy)).setCell ⟨w11.heap.size, 2, none⟩ (.slice va m vc)).setCell ⟨w11.heap.size, 3, none⟩ (.int .i64 qu)) w11.heap.size (.slice va m vc) ql ∧ ∀ Q, (Value.slice va m vc).ownBlock = some Q → ql = [] ∨ Q ≠ w11.heap.size) := ⟨BD.out, Z1x3.out.put _ _ _ _, hXw, ((((mv.gw2 (gwSet _ _ _ _) hXb).gw2 (gwSet _ _ _ _) hXb).gw2 (gwSet _ _ _ _) hXb).gw2 (gwSet _ _ _ _) hXb).lower HBB.out.size, mv.apartLeave (.inl hXb)⟩; obtain ⟨z0, z1, z2, z3, zf, _⟩ := Z1x3.out; clear hXb hXw mv hb; clear HBB)
          | (have hz := Z2x2.out; have HBB : Hid (Below w11.heap.size w11 u2) := B2.out; (with_reducible refine (HG.out u2 I1 MB.out).mono ?_); rintro r0 u3 ⟨⟨va, vc, rfl, mv⟩, hb⟩; have B3 : Hid (Below w11.heap.size w11 u3) := HBB.out.trans (hb.mono HBB.out.size); have Z2x3 : Hid (D4 u3 u1.heap.size (.int .i64 0) (.int .i64 0) (.slice none 0 0) (.int .i64 0)) := hz.keep hb; have hXb : u1.heap.size < u2.heap.size := hz.lt; have hXw : w11.heap.size ≤ u1.heap.size := B1.out.size; have BD : Hid (Below w11.heap.size w11 ((((u3.setCell ⟨u1.heap.size, 0, none⟩ (.int .i64 qc)).setCell ⟨u1.heap.size, 1, none⟩ (.int .i64 qy)).setCell ⟨u1.heap.size, 2, none⟩ (.slice va m vc)).setCell ⟨u1.heap.size, 3, none⟩ (.int .i64 qu))) := (((((B3.out).setCell hXw _).setCell hXw _).setCell hXw _).setCell hXw _); have FIN : Hid (Below w11.heap.size w11 ((((u3.setCell ⟨u1.heap.size, 0, none⟩ (.int .i64 qc)).setCell ⟨u1.heap.size, 1, none⟩ (.int .i64 qy)).setCell ⟨u1.heap.size, 2, none⟩ (.slice va m vc)).setCell ⟨u1.heap.size, 3, none⟩ (.int .i64 qu)) ∧ D4 ((((u3.setCell ⟨u1.heap.size, 0, none⟩ (.int .i64 qc)).setCell ⟨u1.heap.size, 1, none⟩ (.int .i64 qy)).setCell ⟨u1.heap.size, 2, none⟩ (.slice va m vc)).setCell ⟨u1.heap.size, 3, none⟩ (.int .i64 qu)) u1.heap.size (.int .i64 qc) (.int .i64 qy) (.slice va m vc) (.int .i64 qu) ∧ w11.heap.size ≤ u1.heap.size ∧ WtNew ((((u3.setCell ⟨u1.heap.size, 0, none⟩ (.int .i64 qc)).setCell ⟨u1.heap.size, 1, none⟩ (.int .i64 qy)).setCell ⟨u1.heap.size, 2, none⟩ (.slice va m vc)).setCell ⟨u1.heap.size, 3, none⟩ (.int .i64 qu)) w11.heap.size (.slice va m vc) ql ∧ ∀ Q, (Value.slice va m vc).ownBlock = some Q → ql = [] ∨ Q ≠ u1.heap.size) := ⟨BD.out, Z2x3.out.put _ _ _ _, hXw, ((((mv.gw2 (gwSet _ _ _ _) hXb).gw2 (gwSet _ _ _ _) hXb).gw2 (gwSet _ _ _ _) hXb).gw2 (gwSet _ _ _ _) hXb).lower HBB.out.size, mv.apartLeave (.inl hXb)⟩; obtain ⟨z0, z1, z2, z3, zf, _⟩ := Z2x3.out; clear hXb hXw mv hb; clear HBB)
          | (have HBB : Hid (Below w11.heap.size w11 u2) := B2.out; (with_reducible refine (HG.out u2 I1 MB.out).mono ?_); rintro r0 u3 ⟨⟨va, vc, rfl, mv⟩, hb⟩; have B3 : Hid (Below w11.heap.size w11 u3) := HBB.out.trans (hb.mono HBB.out.size); have BD : Hid (Below w11.heap.size w11 (u3.alloc (.cells #[.int .i64 qc, .int .i64 qy, .slice va m vc, .int .i64 qu] 48))) := B3.out.alloc B3.out.size _; have FIN : Hid (Below w11.heap.size w11 (u3.alloc (.cells #[.int .i64 qc, .int .i64 qy, .slice va m vc, .int .i64 qu] 48)) ∧ D4 (u3.alloc (.cells #[.int .i64 qc, .int .i64 qy, .slice va m vc, .int .i64 qu] 48)) u3.heap.size (.int .i64 qc) (.int .i64 qy) (.slice va m vc) (.int .i64 qu) ∧ w11.heap.size ≤ u3.heap.size ∧ WtNew (u3.alloc (.cells #[.int .i64 qc, .int .i64 qy, .slice va m vc, .int .i64 qu] 48)) w11.heap.size (.slice va m vc) ql ∧ ∀ Q, (Value.slice va m vc).ownBlock = some Q → ql = [] ∨ Q ≠ u3.heap.size) := ⟨BD.out, D4.new u3 _ _ _ _ _, B3.out.size, (mv.lower HBB.out.size).keep ((Below.refl _ _).alloc (Nat.le_refl _) _), mv.apartLeave (.inr (Nat.le_refl _))⟩; clear mv hb; clear HBB)
          | (have HBB : Hid (Below w11.heap.size w11 (u2.alloc (.cells #[.int .i64 0, .int .i64 0, .slice none 0 0, .int .i64 0] 48))) := (B2.out.alloc B2.out.size _); (with_reducible refine (HG.out (u2.alloc (.cells #[.int .i64 0, .int .i64 0, .slice none 0 0, .int .i64 0] 48)) I1 (MB.out.keep ((Below.refl _ _).alloc (Nat.le_refl _) _))).mono ?_); rintro r0 u3 ⟨⟨va, vc, rfl, mv⟩, hb⟩; have B3 : Hid (Below w11.heap.size w11 u3) := HBB.out.trans (hb.mono HBB.out.size); have Z3x3 : Hid (D4 u3 u2.heap.size (.int .i64 0) (.int .i64 0) (.slice none 0 0) (.int .i64 0)) := (D4.new u2 _ _ _ _ _).keep hb; have hXb : u2.heap.size < (u2.alloc (.cells #[.int .i64 0, .int .i64 0, .slice none 0 0, .int .i64 0] 48)).heap.size := (by simp); have hXw : w11.heap.size ≤ u2.heap.size := B2.out.size; have BD : Hid (Below w11.heap.size w11 ((((u3.setCell ⟨u2.heap.size, 0, none⟩ (.int .i64 qc)).setCell ⟨u2.heap.size, 1, none⟩ (.int .i64 qy)).setCell ⟨u2.heap.size, 2, none⟩ (.slice va m vc)).setCell ⟨u2.heap.size, 3, none⟩ (.int .i64 qu))) := (((((B3.out).setCell hXw _).setCell hXw _).setCell hXw _).setCell hXw _); have FIN : Hid (Below w11.heap.size w11 ((((u3.setCell ⟨u2.heap.size, 0, none⟩ (.int .i64 qc)).setCell ⟨u2.heap.size, 1, none⟩ (.int .i64 qy)).setCell ⟨u2.heap.size, 2, none⟩ (.slice va m vc)).setCell ⟨u2.heap.size, 3, none⟩ (.int .i64 qu)) ∧ D4 ((((u3.setCell ⟨u2.heap.size, 0, none⟩ (.int .i64 qc)).setCell ⟨u2.heap.size, 1, none⟩ (.int .i64 qy)).setCell ⟨u2.heap.size, 2, none⟩ (.slice va m vc)).setCell ⟨u2.heap.size, 3, none⟩ (.int .i64 qu)) u2.heap.size (.int .i64 qc) (.int .i64 qy) (.slice va m vc) (.int .i64 qu) ∧ w11.heap.size ≤ u2.heap.size ∧ WtNew ((((u3.setCell ⟨u2.heap.size, 0, none⟩ (.int .i64 qc)).setCell ⟨u2.heap.size, 1, none⟩ (.int .i64 qy)).setCell ⟨u2.heap.size, 2, none⟩ (.slice va m vc)).setCell ⟨u2.heap.size, 3, none⟩ (.int .i64 qu)) w11.heap.size (.slice va m vc) ql ∧ ∀ Q, (Value.slice va m vc).ownBlock = some Q → ql = [] ∨ Q ≠ u2.heap.size) := ⟨BD.out, Z3x3.out.put _ _ _ _, hXw, ((((mv.gw2 (gwSet _ _ _ _) hXb).gw2 (gwSet _ _ _ _) hXb).gw2 (gwSet _ _ _ _) hXb).gw2 (gwSet _ _ _ _) hXb).lower HBB.out.size, mv.apartLeave (.inl hXb)⟩; obtain ⟨z0, z1, z2, z3, zf, _⟩ := Z3x3.out; clear hXb hXw mv hb; clear HBB)))
    all_goals (go_wp2_with fail; go_meet; exact ⟨_, va, vc, rfl, FIN.out⟩)
  case rest =>
  obtain ⟨x3, ha, hc, rfl, r1, r2, r3, r4, r5⟩ := hcut
  have HK12 : Hid (∀ X, Below wc.heap.size wc X → ((Below w.heap.size w X ∧ D2 X w.heap.size (.int .i64 y) (.slice a n cap) ∧ D3 X (w.heap.size + 1) (.int .i64 s) (.int .i64 c) (.int .i64 t) ∧ D4 X x0 (.int .i64 qc) (.int .i64 qy) (.slice va m vc) (.int .i64 qu) ∧ WtNew X w1.heap.size (.slice va m vc) ql) ∧ D4 X x2 (.int .i64 qc) (.int .i64 qy) (.slice ga m gc) (.int .i64 qu) ∧ WtIn X ga (mkdWt 1 ql)) ∧ D4 X x3 (.int .i64 qc) (.int .i64 qy) (.slice ha m hc) (.int .i64 qu) ∧ WtNew X w11.heap.size (.slice ha m hc) ql) := fun X hX => ⟨HK11.out X (r1.trans (hX.mono r1.size)), r2.keep hX, r4.keep hX⟩
  clear HK HK11 r1 r2 r3 r4 r5 HT HTR HG
  generalize wc = V12 at *
  obtain ⟨e0, e1, e2, e3, ef, _⟩ := (HK12.out _ (Below.refl _ _)).2.1
  obtain ⟨f0, f1, f2, f3, ff, _⟩ := (HK12.out _ (Below.refl _ _)).1.1.2.2.2.1
  go_wp2_with fail
  refine (HEQ.out _ _ _ _ _ _ _ (HK12.out _ (Below.refl _ _)).2.2 (HK12.out _ (Below.refl _ _)).1.1.2.2.2.2).mono ?_
  rintro r0 w13 ⟨rfl, hb13⟩
  clear e0 e1 e2 e3 ef f0 f1 f2 f3 ff
  have HK13 := hid11 (HK12.out _ hb13).1
  clear HK12 hb13
  obtain ⟨e0, e1, e2, e3, ef, _⟩ := HK13.out.2.1
  go_wp2_with fail
  refine (HHD.out _ _ _ HK13.out.2.2).mono ?_
  rintro r0 w14 ⟨rfl, hb14⟩
  clear e0 e1 e2 e3 ef
  have KZ : Hid (Below w.heap.size w w14) := HK13.out.1.1.trans (hb14.mono HK13.out.1.1.size)
  clear HK13 hb14 HHD HEQ
  go_wp2_with fail
  go_ret
  exact ⟨rfl, KZ.out⟩
end Go.Proofs.Ytdfikpadanmgmaa
