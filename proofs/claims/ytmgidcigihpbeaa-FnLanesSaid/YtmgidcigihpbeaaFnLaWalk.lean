/-
  The law of lanes, out of contracts.
-/
import Derived.Test.YtmgidcigihpbeaaDraw11C
import Derived.Test.YtmgidcigihpbeaaFnLaP
import Derived.Test.YtmgidcigihpbeaaEnterI
import Derived.Test.YtmgidcigihpbeaaEnterS
import Derived.Test.YtmgidcigihpbeaaLeaveI
import Derived.Test.YtmgidcigihpbeaaBlkImpl
import Derived.Test.YtmgidcigihpbeaaBlkSpec
import Derived.Lib.QuietBelow
import Derived.BigQuiet
import Derived.Deep.RegionHeld3
import Derived.Deep.CutRange
import Derived.Deep.CutBlock
namespace Go.Proofs.Ytmgidcigihpbeaa
open Go.ChangeShapes Go.WideShapes Go.ChangeAt Go.RowKit Go.Sort
namespace lanes
set_option linter.unusedVariables false
set_option maxRecDepth 100000 in
set_option maxHeartbeats 32000000 in
theorem fnLanes_walk (w : World) (a : Option Addr) (len cap : Nat) (hc : CodeRow w w.heap.size a len) :
    Calls Try.prog 3 #[.slice a len cap] w fun e w' => e = .returned (.bool true) ∧ Below w.heap.size w w' := by
  have HC : Hid (CodeRow w w.heap.size a len) := hc
  clear hc
  by_cases hbig : (1048576 : Int) < len
  · go_enter Try.func3, Try.ntmps3
    go_wp2
    go_ret
    exact ⟨rfl, Below.refl _ _⟩
  have hl2 : len ≤ 1048576 := by omega
  go_enter Try.func3, Try.ntmps3
  go_wp2_with (go_at_call 7; go_in)
  refine (drawEnter_any w a len cap w.heap.size rfl HC.out hl2).mono ?_
  rintro r w1 ⟨y, s, c, t, id, now, va, n, vc, q, rfl, hln, hn9, hf⟩
  obtain ⟨v1, hv1⟩ : ∃ X, X = (w1.alloc (.cells #[.int .i64 y, .slice va n vc] 26)).alloc (.cells #[.int .i64 s, .int .i64 c, .int .i64 t] 28) := ⟨_, rfl⟩
  obtain ⟨M3, hM3⟩ : ∃ M, w1.heap.size = M := ⟨_, rfl⟩
  have F1 : Hid (∀ X, Below v1.heap.size v1 X → Below w.heap.size w X ∧ SBL X M3 (M3 + 1) y va n vc s c t ∧ WtIn X va q) := by
    have bA : Below w1.heap.size w1 (w1.alloc (.cells #[.int .i64 y, .slice va n vc] 26)) := (Below.refl _ _).alloc (Nat.le_refl _) _
    have bB : Below (w1.alloc (.cells #[.int .i64 y, .slice va n vc] 26)).heap.size (w1.alloc (.cells #[.int .i64 y, .slice va n vc] 26)) v1 := by rw [hv1]; exact (Below.refl _ _).alloc (Nat.le_refl _) _
    have sA := D2.new w1 (.int .i64 y) (.slice va n vc) 26
    have sB := D3.new (w1.alloc (.cells #[.int .i64 y, .slice va n vc] 26)) (.int .i64 s) (.int .i64 c) (.int .i64 t) 28
    rw [show (w1.alloc (.cells #[.int .i64 y, .slice va n vc] 26)).heap.size = M3 + 1 by rw [← hM3]; simp, ← hv1] at sB
    rw [hM3] at sA
    have sA2 := sA.keep bB
    intro X hX
    have b12 := bA.trans (bB.mono bA.size)
    exact ⟨hf.lo.trans ((b12.trans (hX.mono b12.size)).mono hf.lo.size), (show SBL v1 M3 (M3 + 1) y va n vc s c t from ⟨sA2.c0, sA2.c1, sB.c0, sB.c1, sB.c2⟩).keep hX, (hf.in.1.keep b12).keep hX⟩
  have HLN : Hid (q.length = n) := hln
  have HCAP : Hid (n ≤ vc) := hf.in.2
  have HV1 := rulW hv1
  clear hf HC hv1 hln
  obtain ⟨z, hz⟩ : ∃ z, enterR y q s c t id now = z := ⟨_, rfl⟩
  have HI : Hid (∀ X, Below v1.heap.size v1 X → Calls Try.prog 9 #[.agg #[.int .i64 y, .slice va n vc], .agg #[.int .i64 s, .int .i64 c, .int .i64 t], .int .i64 id, .int .i64 now] X fun e w' => EnRes w' X.heap.size z e ∧ Below X.heap.size X w') := fun X hX => by
    have r := implEnter_any X y va vc q s c t id now (by have := HLN.out; omega) (by rw [HLN.out]; exact HCAP.out) (F1.out X hX).2.2
    rw [HLN.out, hz] at r
    exact r
  have HSP : Hid (∀ X, Below v1.heap.size v1 X → Calls Try.prog 10 #[.agg #[.int .i64 y, .slice va n vc], .agg #[.int .i64 s, .int .i64 c, .int .i64 t], .int .i64 id, .int .i64 now] X fun e w' => EnRes w' X.heap.size z e ∧ Below X.heap.size X w') := fun X hX => by
    have r := specEnter_any X y va vc q s c t id now (by have := HLN.out; omega) (F1.out X hX).2.2
    rw [HLN.out, hz] at r
    exact r
  have HBI : Hid (∀ X, Below v1.heap.size v1 X → Calls Try.prog 11 #[.agg #[.int .i64 y, .slice va n vc], .agg #[.int .i64 s, .int .i64 c, .int .i64 t]] X fun e w' => e = .returned (.int .i64 (blkC y q s c t)) ∧ Below X.heap.size X w') := fun X hX => by
    have r := implBlk_any y va vc q s c t X (by rw [HLN.out]; exact HCAP.out) (F1.out X hX).2.2
    rw [HLN.out] at r
    exact r
  have HBS : Hid (∀ X, Below v1.heap.size v1 X → Calls Try.prog 12 #[.agg #[.int .i64 y, .slice va n vc], .agg #[.int .i64 s, .int .i64 c, .int .i64 t]] X fun e w' => e = .returned (.int .i64 (blkC y q s c t)) ∧ Below X.heap.size X w') := fun X hX => by
    have r := specBlk_any y va vc q s c t X (F1.out X hX).2.2
    rw [HLN.out] at r
    exact r
  have HOK : Hid (z.c = 0 → EnOk y q s c t z) := fun h => by rw [← hz] at h ⊢; exact enter_ok h
  obtain ⟨zc, zy, zl, zu⟩ := z
  clear hz
  generalize hbk : blkC y q s c t = bk at *
  clear hbk
  go_upto_region 4 with fail
  try simp only [hM3]
  rw [← HV1.out]
  clear HV1 hM3
  obtain ⟨c0, c1, r0, r1, r2⟩ := (F1.out _ (Below.refl _ _)).2.1
  go_wp2_with fail
  refine (HI.out _ (Below.refl _ _)).mono ?_
  rintro r w2 ⟨⟨qa, qk, rfl, hmn, hqk⟩, hb2⟩
  clear c0 c1 r0 r1 r2 HI
  simp only at hmn hqk
  obtain ⟨qn, hqn⟩ : ∃ x, zl.length = x := ⟨_, rfl⟩
  rw [hqn] at hmn hqk
  obtain ⟨v2, hv2⟩ : ∃ X, X = w2.alloc (.cells #[.int .i64 zc, .int .i64 zy, .slice qa qn qk, .bool zu] 32) := ⟨_, rfl⟩
  obtain ⟨M7, hM7⟩ : ∃ M, w2.heap.size = M := ⟨_, rfl⟩
  have F2 : Hid (∀ X, Below v2.heap.size v2 X → Below v1.heap.size v1 X ∧ D4 X M7 (.int .i64 zc) (.int .i64 zy) (.slice qa qn qk) (.bool zu) ∧ WtIn X qa zl) := by
    have al : Below w2.heap.size w2 v2 := by rw [hv2]; exact (Below.refl _ _).alloc (Nat.le_refl _) _
    have c := D4.new w2 (.int .i64 zc) (.int .i64 zy) (.slice qa qn qk) (.bool zu) 32
    rw [← hv2, hM7] at c
    obtain ⟨x1, x2, x3, x4⟩ := hmn.in
    simp only [Value.slice.injEq] at x3
    intro X hX
    have b := hb2.trans (al.mono hb2.size)
    exact ⟨b.trans (hX.mono b.size), c.keep hX, by rw [x3.1]; exact (x4.keep al).keep hX⟩
  have HQN : Hid (zl.length = qn) := hqn
  have HQK : Hid (qn ≤ qk) := hqk
  have HV2 := rulW hv2
  clear hb2 hmn hv2 hqk
  go_upto_region 5 with fail
  try simp only [hM7]
  try simp only [hqn]
  rw [← HV2.out]
  clear HV2 hM7
  obtain ⟨c0, c1, r0, r1, r2⟩ := (F1.out _ (F2.out _ (Below.refl _ _)).1).2.1
  go_wp2_with fail
  refine (HSP.out _ (F2.out _ (Below.refl _ _)).1).mono ?_
  rintro r w3 ⟨⟨pa, pk, rfl, _, _⟩, hb3⟩
  clear c0 c1 r0 r1 r2 HSP
  obtain ⟨v3, hv3⟩ : ∃ X, X = w3.alloc (.cells #[.int .i64 zc, .int .i64 zy, .slice pa qn pk, .bool zu] 32) := ⟨_, rfl⟩
  obtain ⟨M8, hM8⟩ : ∃ M, w3.heap.size = M := ⟨_, rfl⟩
  have F3 : Hid (∀ X, Below v3.heap.size v3 X → Below v2.heap.size v2 X ∧ D4 X M8 (.int .i64 zc) (.int .i64 zy) (.slice pa qn pk) (.bool zu)) := by
    have al : Below w3.heap.size w3 v3 := by rw [hv3]; exact (Below.refl _ _).alloc (Nat.le_refl _) _
    have c := D4.new w3 (.int .i64 zc) (.int .i64 zy) (.slice pa qn pk) (.bool zu) 32
    rw [← hv3, hM8] at c
    intro X hX
    have b := hb3.trans (al.mono hb3.size)
    exact ⟨b.trans (hX.mono b.size), c.keep hX⟩
  have HV3 := rulW hv3
  clear hb3 hv3
  have HBI3 : Hid (∀ X, Below v3.heap.size v3 X → Calls Try.prog 11 #[.agg #[.int .i64 y, .slice va n vc], .agg #[.int .i64 s, .int .i64 c, .int .i64 t]] X fun e w' => e = .returned (.int .i64 bk) ∧ Below v3.heap.size v3 w') := fun X hX => (HBI.out X (F2.out X (F3.out X hX).1).1).mono fun _ _ ⟨h1, h2⟩ => ⟨h1, hX.trans (h2.mono hX.size)⟩
  have HBS3 : Hid (∀ X, Below v3.heap.size v3 X → Calls Try.prog 12 #[.agg #[.int .i64 y, .slice va n vc], .agg #[.int .i64 s, .int .i64 c, .int .i64 t]] X fun e w' => e = .returned (.int .i64 bk) ∧ Below v3.heap.size v3 w') := fun X hX => (HBS.out X (F2.out X (F3.out X hX).1).1).mono fun _ _ ⟨h1, h2⟩ => ⟨h1, hX.trans (h2.mono hX.size)⟩
  have HRI3 : Hid (∀ X, Below v3.heap.size v3 X → Calls Try.prog 13 #[.agg #[.int .i64 s, .int .i64 c, .int .i64 t]] X fun e w' => e = .returned (.int .i64 (lanesC s c t)) ∧ Below v3.heap.size v3 w') := fun X hX => (implLanes_any s c t X).mono fun _ _ ⟨h1, h2⟩ => ⟨h1, hX.trans (h2.mono hX.size)⟩
  have HRS3 : Hid (∀ X, Below v3.heap.size v3 X → Calls Try.prog 14 #[.agg #[.int .i64 s, .int .i64 c, .int .i64 t]] X fun e w' => e = .returned (.int .i64 (lanesC s c t)) ∧ Below v3.heap.size v3 w') := fun X hX => (specLanes_any s c t X).mono fun _ _ ⟨h1, h2⟩ => ⟨h1, hX.trans (h2.mono hX.size)⟩
  generalize lanesC s c t = rk at *
  clear HBI HBS
  go_upto_region 6 with fail
  try simp only [hM8]
  try simp only [hqn]
  rw [← HV3.out]
  clear HV3 hM8 hqn
  have HKS : Hid (∀ X, Below v3.heap.size v3 X → X.cell? ⟨M3, 0, none⟩ = some (.int .i64 y) ∧ X.cell? ⟨M3, 1, none⟩ = some (.slice va n vc) ∧ X.cell? ⟨M3 + 1, 0, none⟩ = some (.int .i64 s) ∧ X.cell? ⟨M3 + 1, 1, none⟩ = some (.int .i64 c) ∧ X.cell? ⟨M3 + 1, 2, none⟩ = some (.int .i64 t) ∧ X.cell? ⟨M7, 0, none⟩ = some (.int .i64 zc) ∧ X.cell? ⟨M7, 3, none⟩ = some (.bool zu) ∧ X.cell? ⟨M8, 0, none⟩ = some (.int .i64 zc) ∧ X.cell? ⟨M8, 3, none⟩ = some (.bool zu)) := fun X hX => by
    obtain ⟨z0, z5⟩ := F3.out X hX
    obtain ⟨z1, z2, z3⟩ := F2.out X z0
    obtain ⟨y0, y1, y2, y3, y4⟩ := (F1.out X z1).2.1
    exact ⟨y0, y1, y2, y3, y4, z2.c0, z2.c3, z5.c0, z5.c3⟩
  have DZ : Hid (Below v3.heap.size v3 v3) := Below.refl _ _
  have D0 : Hid (Below v3.heap.size v3 v3.drew) := (Below.refl _ _).drew
  go_cut [56] from 29 to 56 (fun c wx => c = .bool false ∧ Below v3.heap.size v3 wx)
  case first =>
    go_wp2_with fail
    go_region_held3 (fun X => X.cell? ⟨M3, 0, none⟩ = some (.int .i64 y) ∧ X.cell? ⟨M3, 1, none⟩ = some (.slice va n vc) ∧ X.cell? ⟨M3 + 1, 0, none⟩ = some (.int .i64 s) ∧ X.cell? ⟨M3 + 1, 1, none⟩ = some (.int .i64 c) ∧ X.cell? ⟨M3 + 1, 2, none⟩ = some (.int .i64 t) ∧ X.cell? ⟨M7, 0, none⟩ = some (.int .i64 zc) ∧ X.cell? ⟨M7, 3, none⟩ = some (.bool zu) ∧ X.cell? ⟨M8, 0, none⟩ = some (.int .i64 zc) ∧ X.cell? ⟨M8, 3, none⟩ = some (.bool zu))
      (first | ((with_reducible refine HKS.out _ ?_); (first | with_reducible exact E4.out | with_reducible exact E3.out | with_reducible exact E2.out | with_reducible exact E1.out | with_reducible exact D0.out | with_reducible exact DZ.out)))
      (first
      | (go_at_call 11; (with_reducible refine (HBI3.out _ ?_).mono ?_); (with_reducible exact D0.out); rintro r we ⟨rfl, hb⟩; have E1 : Hid (Below v3.heap.size v3 we) := hb; clear hb)
      | (go_at_call 12; (with_reducible refine (HBS3.out _ ?_).mono ?_); (with_reducible exact E1.out); rintro r wf ⟨rfl, hb⟩; have E2 : Hid (Below v3.heap.size v3 wf) := hb; clear hb)
      | (go_at_call 13; (with_reducible refine (HRI3.out _ ?_).mono ?_); (with_reducible exact E2.out); rintro r wg ⟨rfl, hb⟩; have E3 : Hid (Below v3.heap.size v3 wg) := hb; clear hb)
      | (go_at_call 14; (with_reducible refine (HRS3.out _ ?_).mono ?_); (with_reducible exact E3.out); rintro r wh ⟨rfl, hb⟩; have E4 : Hid (Below v3.heap.size v3 wh) := hb; clear hb))
    all_goals
      go_wp2_with fail
      go_meet
      exact ⟨rfl, E4.out⟩
  case rest =>
  obtain ⟨rfl, hcb⟩ := hcut
  have HCB : Hid (Below v3.heap.size v3 wc) := hcb
  generalize wc = wA at *
  clear hcb HBI3 HBS3 HRI3 HRS3 HKS DZ D0
  have F4 : Hid (∀ X, Below v3.heap.size v3 X → Below w.heap.size w X ∧ SBL X M3 (M3 + 1) y va n vc s c t ∧ D4 X M7 (.int .i64 zc) (.int .i64 zy) (.slice qa qn qk) (.bool zu) ∧ WtIn X qa zl) := fun X hX => by
    have z0 := (F3.out X hX).1
    obtain ⟨z1, z2, z3⟩ := F2.out X z0
    have z4 := F1.out X z1
    exact ⟨z4.1, z4.2.1, z2, z3⟩
  clear F1 F2 F3
  obtain ⟨e0, e1, e2, e3, _, _⟩ := (F4.out _ HCB.out).2.2.1
  by_cases hq0 : zc = 0
  rotate_left
  · have hq1 : (zc != 0) = true := by simpa using hq0
    have HB : Hid (Below w.heap.size w wA) := (F4.out _ HCB.out).1
    clear HOK
    go_wp2_with fail
    go_ret
    exact ⟨rfl, HB.out⟩
  subst hq0
  have HE := rulW (HOK.out rfl)
  clear HOK
  have HBL : Hid (blkC zy zl s c t = 0) := HE.out.blk
  have HY1 : Hid (1 ≤ zy ∧ zy ≤ 8) := HE.out.y1
  have HL8 : Hid (zl.length ≤ 8) := HE.out.l8
  have HNL : Hid (zl = [] → zu = true) := HE.out.nl
  have HBF : Hid (∀ X, Below v3.heap.size v3 X → Calls Try.prog 11 #[.agg #[.int .i64 zy, .slice qa qn qk], .agg #[.int .i64 s, .int .i64 c, .int .i64 t]] X fun e w' => e = .returned (.int .i64 0) ∧ Below v3.heap.size v3 w') := fun X hX => by
    have r := implBlk_any zy qa qk zl s c t X (by rw [HQN.out]; exact HQK.out) (F4.out X hX).2.2.2
    rw [HBL.out, HQN.out] at r
    exact r.mono fun _ _ ⟨h1, h2⟩ => ⟨h1, hX.trans (h2.mono hX.size)⟩
  have HLV : Hid (∀ X, Below v3.heap.size v3 X → Calls Try.prog 15 #[.agg #[.int .i64 zy, .slice qa qn qk], .agg #[.int .i64 s, .int .i64 c, .int .i64 t]] X fun e w' => (∃ xa xk, e = .returned (.agg #[.int .i64 0, .int .i64 (busyW zy zl), .slice xa zl.tail.length xk, .int .i64 (nextW zl)])) ∧ Below X.heap.size X w') := fun X hX => by
    have r := implLeave_any X zy qa qk zl s c t (by have := HL8.out; omega) (by rw [HQN.out]; exact HQK.out) (F4.out X hX).2.2.2
    rw [leave_ok HBL.out (by have := HY1.out; omega), HQN.out] at r
    exact r.mono fun _ _ ⟨⟨xa, xk, h1, _⟩, h2⟩ => ⟨⟨xa, xk, h1⟩, h2⟩
  have HST : Hid (zu = decide (y < s)) := HE.out.st
  clear HE
  obtain ⟨yb, hyb⟩ : ∃ x, busyW zy zl = x := ⟨_, rfl⟩
  obtain ⟨tn, htn⟩ : ∃ x, zl.tail.length = x := ⟨_, rfl⟩
  obtain ⟨nx, hnx⟩ : ∃ x, nextW zl = x := ⟨_, rfl⟩
  rw [hyb, htn, hnx] at HLV
  have HEQ : Hid (busyW zy zl = yb ∧ zl.tail.length = tn ∧ nextW zl = nx) := ⟨hyb, htn, hnx⟩
  clear hyb htn hnx
  go_upto_region 10 with fail
  go_cut [74] from 60 to 74 (fun c wx => c = .bool false ∧ Below v3.heap.size v3 wx)
  case first =>
    obtain ⟨c0, c1, r0, r1, r2⟩ := (F4.out _ HCB.out).2.1
    go_wp2_with fail
    refine (HBF.out _ HCB.out).mono ?_
    rintro r w4 ⟨rfl, hb4⟩
    have HB4 : Hid (Below v3.heap.size v3 w4) := hb4
    clear c0 c1 r0 r1 r2 e0 e1 e2 e3
    obtain ⟨c0, c1, r0, r1, r2⟩ := (F4.out _ hb4).2.1
    obtain ⟨e0, e1, e2, e3, _, _⟩ := (F4.out _ hb4).2.2.1
    clear hb4 HBF HLV
    by_cases hys : y < s
    · have hu : zu = true := by rw [HST.out]; simpa using hys
      subst hu
      have d1 : decide (y < s) = true := by simpa using hys
      clear HST
      go_wp2_with fail
      go_meet
      exact ⟨rfl, HB4.out⟩
    · have hu : zu = false := by rw [HST.out]; simpa using hys
      subst hu
      have d1 : decide (y < s) = false := by simpa using hys
      clear HST
      go_wp2_with fail
      go_meet
      exact ⟨rfl, HB4.out⟩
  case rest =>
  obtain ⟨rfl, hcb⟩ := hcut
  have HCC : Hid (Below v3.heap.size v3 wc) := hcb
  generalize wc = wB at *
  clear hcb HBF HCB e0 e1 e2 e3
  obtain ⟨c0, c1, r0, r1, r2⟩ := (F4.out _ HCC.out).2.1
  obtain ⟨e0, e1, e2, e3, _, _⟩ := (F4.out _ HCC.out).2.2.1
  go_wp2_with fail
  refine (HLV.out _ HCC.out).mono ?_
  rintro r w5 ⟨⟨xa, xk, rfl⟩, hb5⟩
  clear c0 c1 r0 r1 r2 e0 e1 e2 e3 HLV
  obtain ⟨v5, hv5⟩ : ∃ X, X = w5.alloc (.cells #[.int .i64 0, .int .i64 yb, .slice xa tn xk, .int .i64 nx] 37) := ⟨_, rfl⟩
  obtain ⟨M9, hM9⟩ : ∃ M, w5.heap.size = M := ⟨_, rfl⟩
  have F5 : Hid (Below w.heap.size w v5 ∧ D4 v5 M7 (.int .i64 0) (.int .i64 zy) (.slice qa qn qk) (.bool zu) ∧ WtIn v5 qa zl ∧ D4 v5 M9 (.int .i64 0) (.int .i64 yb) (.slice xa tn xk) (.int .i64 nx)) := by
    have al : Below w5.heap.size w5 v5 := by rw [hv5]; exact (Below.refl _ _).alloc (Nat.le_refl _) _
    have c := D4.new w5 (.int .i64 0) (.int .i64 yb) (.slice xa tn xk) (.int .i64 nx) 37
    rw [← hv5, hM9] at c
    have z4 := F4.out v5 (HCC.out.trans ((hb5.trans (al.mono hb5.size)).mono HCC.out.size))
    exact ⟨z4.1, z4.2.2.1, z4.2.2.2, c⟩
  have HV5 := rulW hv5
  clear hv5 hb5 F4 HCC HST
  go_upto_region 13 with fail
  try simp only [hM9]
  rw [← HV5.out]
  clear HV5 hM9
  obtain ⟨e0, e1, e2, e3, _, _⟩ := F5.out.2.1
  obtain ⟨l0, l1, l2, l3, _, _⟩ := F5.out.2.2.2
  have HB := rulW F5.out.1
  have hwt := F5.out.2.2.1
  have hql := HQN.out
  have hy1 := HY1.out
  have hnl := HNL.out
  have hl8 := HL8.out
  obtain ⟨hyb, htn, hnx⟩ := HEQ.out
  clear F5 HQN HQK HY1 HNL HL8 HEQ HBL
  cases zl with
  | nil =>
    have hu := hnl rfl
    subst hu
    simp only [List.length_nil] at hql
    subst hql
    have wz : IntKind.i64.wrap (zy - 1) = zy - 1 := by rw [IntKind.wrap_i64]; omega
    simp only [busyW, nextW, List.tail_nil, List.length_nil] at hyb htn hnx
    subst hyb htn hnx
    clear hnl hwt hl8
    go_wp2_with fail
    go_ret
    exact ⟨rfl, HB.out⟩
  | cons z zs =>
    simp only [List.length_cons] at hql hl8
    rcases hwt with h | ⟨bb, off, rfl, hat⟩
    · cases h
    have hz0 := (hat 0 z rfl).1
    simp only [busyW, nextW, List.tail_cons] at hyb htn hnx
    subst hyb hnx
    rw [htn] at hql hl8
    generalize hmm : tn = m at *
    clear hmm htn
    subst hql
    have hz1 : v5.cell? ⟨bb, off, none⟩ = some (.int .i64 z.wi) := by simpa using hz0
    have wm : IntKind.i64.wrap ((m : Int) + 1 - 1) = (m : Int) := by rw [IntKind.wrap_i64]; omega
    have i0 : (0 : Int) < (m : Int) + 1 := by omega
    clear hnl hat hz0 hy1
    generalize z.wi = zi at *
    go_upto_region 16 with fail
    go_quiet (fail)
    go_wp2_with fail
    go_ret
    exact ⟨rfl, below_drewN HB.out _⟩
end lanes
end Go.Proofs.Ytmgidcigihpbeaa
