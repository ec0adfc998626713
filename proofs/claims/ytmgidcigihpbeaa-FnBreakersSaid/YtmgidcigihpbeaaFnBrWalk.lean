/-
  The law of breakers, out of contracts.
-/
import Derived.Test.YtmgidcigihpbeaaDraw10F
import Derived.Test.YtmgidcigihpbeaaFnBrP
import Derived.Test.YtmgidcigihpbeaaAllowF
import Derived.Test.YtmgidcigihpbeaaAllowI
import Derived.Test.YtmgidcigihpbeaaBrkImpl
import Derived.Test.YtmgidcigihpbeaaBrkSpec
import Derived.Lib.QuietBelow
import Derived.BigQuiet
import Derived.Deep.RegionHeld3
import Derived.Deep.CutRange
import Derived.Deep.CutBlock
namespace Go.Proofs.Ytmgidcigihpbeaa
open Go.ChangeShapes Go.WideShapes Go.ChangeAt Go.RowKit Go.Sort
namespace breakers
theorem afield0 (c s t o : Int) (a : Option Addr) (n k : Nat) (b : Bool) (w : World) : (Instr.field 57 (.agg #[.int .i64 c, .int .i64 s, .int .i64 t, .int .i64 o, .slice a n k, .bool b]) 0).run Try.prog w = .ok (.int .i64 c) w := by kernel_rfl
theorem afield2 (c s t o : Int) (a : Option Addr) (n k : Nat) (b : Bool) (w : World) : (Instr.field 57 (.agg #[.int .i64 c, .int .i64 s, .int .i64 t, .int .i64 o, .slice a n k, .bool b]) 2).run Try.prog w = .ok (.bool b) w := by kernel_rfl
set_option maxRecDepth 100000 in
set_option maxHeartbeats 32000000 in
theorem fnBreakers_walk (w : World) (a : Option Addr) (len cap : Nat) (hc : CodeRow w w.heap.size a len) :
    Calls Try.prog 5 #[.slice a len cap] w fun e w' => e = .returned (.bool true) ∧ Below w.heap.size w w' := by
  have HC : Hid (CodeRow w w.heap.size a len) := hc
  clear hc
  by_cases hbig : (1048576 : Int) < len
  · go_enter Try.func5, Try.ntmps5
    go_wp2
    go_ret
    exact ⟨rfl, Below.refl _ _⟩
  have hl2 : len ≤ 1048576 := by omega
  go_enter Try.func5, Try.ntmps5
  go_wp2_with (go_at_call 7; go_in)
  refine (drawAllow_any w a len cap w.heap.size rfl HC.out hl2).mono ?_
  rintro r w1 ⟨s, t, o, now, a0, a1, a2, a3, a4, va, n, vc, l, rfl, hln, hn61, hnow, hf⟩
  obtain ⟨v1, hv1⟩ : ∃ X, X = (w1.alloc (.cells #[.int .i64 s, .int .i64 t, .int .i64 o, .slice va n vc] 51)).alloc (.cells #[.int .i64 a0, .int .i64 a1, .int .i64 a2, .int .i64 a3, .int .i64 a4] 53) := ⟨_, rfl⟩
  obtain ⟨M3, hM3⟩ : ∃ M, w1.heap.size = M := ⟨_, rfl⟩
  have F1 : Hid (∀ X, Below v1.heap.size v1 X → Below w.heap.size w X ∧ SBR X M3 (M3 + 1) s t o va n vc a0 a1 a2 a3 a4 ∧ MkIn X va l) := by
    have bA : Below w1.heap.size w1 (w1.alloc (.cells #[.int .i64 s, .int .i64 t, .int .i64 o, .slice va n vc] 51)) := (Below.refl _ _).alloc (Nat.le_refl _) _
    have bB : Below (w1.alloc (.cells #[.int .i64 s, .int .i64 t, .int .i64 o, .slice va n vc] 51)).heap.size (w1.alloc (.cells #[.int .i64 s, .int .i64 t, .int .i64 o, .slice va n vc] 51)) v1 := by rw [hv1]; exact (Below.refl _ _).alloc (Nat.le_refl _) _
    have sA := S4.new w1 (.int .i64 s) (.int .i64 t) (.int .i64 o) (.slice va n vc) 51
    have sB := S5.new (w1.alloc (.cells #[.int .i64 s, .int .i64 t, .int .i64 o, .slice va n vc] 51)) (.int .i64 a0) (.int .i64 a1) (.int .i64 a2) (.int .i64 a3) (.int .i64 a4) 53
    rw [show (w1.alloc (.cells #[.int .i64 s, .int .i64 t, .int .i64 o, .slice va n vc] 51)).heap.size = M3 + 1 by rw [← hM3]; simp, ← hv1] at sB
    rw [hM3] at sA
    have sA2 := sA.keep bB
    intro X hX
    have b12 := bA.trans (bB.mono bA.size)
    exact ⟨hf.lo.trans ((b12.trans (hX.mono b12.size)).mono hf.lo.size), (show SBR v1 M3 (M3 + 1) s t o va n vc a0 a1 a2 a3 a4 from ⟨sA2.c0, sA2.c1, sA2.c2, sA2.c3, sB.c0, sB.c1, sB.c2, sB.c3, sB.c4⟩).keep hX, (hf.in.keep b12).keep hX⟩
  have HV1S : Hid (M3 + 2 ≤ v1.heap.size) := by show _ ≤ _; rw [hv1, ← hM3]; simp
  have HLN : Hid (l.length = n) := hln
  have HV1 := rulQ hv1
  clear hf HC hv1 hln
  obtain ⟨q, hq⟩ : ∃ q, allowR s t o l a0 a1 a2 a3 a4 now = q := ⟨_, rfl⟩
  have HI : Hid (∀ X, Below v1.heap.size v1 X → Calls Try.prog 26 #[.agg #[.int .i64 s, .int .i64 t, .int .i64 o, .slice va n vc], .agg #[.int .i64 a0, .int .i64 a1, .int .i64 a2, .int .i64 a3, .int .i64 a4], .int .i64 now] X fun e w' => AllowRes w' X.heap.size q e ∧ Below X.heap.size X w') := fun X hX => by
    have z := implAllow_any X s t o va vc l a0 a1 a2 a3 a4 now (by have := HLN.out; omega) (F1.out X hX).2.2
    rw [HLN.out, hq] at z
    exact z
  have HSP : Hid (∀ X, Below v1.heap.size v1 X → Calls Try.prog 27 #[.agg #[.int .i64 s, .int .i64 t, .int .i64 o, .slice va n vc], .agg #[.int .i64 a0, .int .i64 a1, .int .i64 a2, .int .i64 a3, .int .i64 a4], .int .i64 now] X fun e w' => AllowRes w' X.heap.size q e ∧ Below X.heap.size X w') := fun X hX => by
    have z := specAllow_any X s t o va vc l a0 a1 a2 a3 a4 now (by have := HLN.out; omega) (F1.out X hX).2.2
    rw [HLN.out, hq] at z
    exact z
  have HBI : Hid (∀ X, Below v1.heap.size v1 X → Calls Try.prog 28 #[.agg #[.int .i64 s, .int .i64 t, .int .i64 o, .slice va n vc]] X fun e w' => e = .returned (.int .i64 (brkC s t o l)) ∧ Below X.heap.size X w') := fun X hX => by
    have z := implBrk_any s t o va vc l X (F1.out X hX).2.2
    rw [HLN.out] at z
    exact z
  have HBS : Hid (∀ X, Below v1.heap.size v1 X → Calls Try.prog 29 #[.agg #[.int .i64 s, .int .i64 t, .int .i64 o, .slice va n vc]] X fun e w' => e = .returned (.int .i64 (brkC s t o l)) ∧ Below X.heap.size X w') := fun X hX => by
    have z := specBrk_any s t o va vc l X (F1.out X hX).2.2
    rw [HLN.out] at z
    exact z
  have HQ : Hid (q = allowR s t o l a0 a1 a2 a3 a4 now) := hq.symm
  obtain ⟨qc, ⟨qs, qt, qo, ql⟩, qb⟩ := q
  clear hq
  generalize hbk : brkC s t o l = bk at *
  clear hbk
  go_upto_region 4 with fail
  try simp only [hM3]
  rw [← HV1.out]
  clear HV1 hM3
  obtain ⟨c0, c1, c2, c3, r0, r1, r2, r3, r4⟩ := (F1.out _ (Below.refl _ _)).2.1
  go_wp2_with fail
  refine (HI.out _ (Below.refl _ _)).mono ?_
  rintro r w2 ⟨⟨qa, qk, rfl, hmn⟩, hb2⟩
  clear c0 c1 c2 c3 r0 r1 r2 r3 r4 HI
  simp only at hmn
  obtain ⟨qn, hqn⟩ : ∃ x, ql.length = x := ⟨_, rfl⟩
  obtain ⟨v2, hv2⟩ : ∃ X, X = w2.alloc (.cells #[.int .i64 qc, .int .i64 qs, .int .i64 qt, .int .i64 qo, .slice qa qn qk, .bool qb] 57) := ⟨_, rfl⟩
  obtain ⟨M6, hM6⟩ : ∃ M, w2.heap.size = M := ⟨_, rfl⟩
  have F2 : Hid (∀ X, Below v2.heap.size v2 X → Below v1.heap.size v1 X ∧ C6 X M6 (.int .i64 qc) (.int .i64 qs) (.int .i64 qt) (.int .i64 qo) (.slice qa qn qk) (.bool qb) ∧ MkNew X v1.heap.size (.slice qa qn qk) ql ∧ (∀ M, M6 < M → MkNe X M qa ql)) := by
    have al : Below w2.heap.size w2 v2 := by rw [hv2]; exact (Below.refl _ _).alloc (Nat.le_refl _) _
    have c := C6.new w2 (.int .i64 qc) (.int .i64 qs) (.int .i64 qt) (.int .i64 qo) (.slice qa qn qk) (.bool qb) 57
    rw [← hv2, hM6] at c
    rw [hqn] at hmn
    intro X hX
    have b := hb2.trans (al.mono hb2.size)
    exact ⟨b.trans (hX.mono b.size), c.keep hX, (hmn.keep al).keep hX, fun M hM => ((MkNe.of hmn (fun g _ h2 => by omega)).keep al).keep hX⟩
  have HQN : Hid (ql.length = qn) := hqn
  have HV2 := rulQ hv2
  have HM6 : Hid (v2.heap.size = M6 + 1) := by show _ = _; rw [hv2, ← hM6]; simp
  clear hb2 hmn hv2
  have HSP2 : Hid (∀ X, Below v2.heap.size v2 X → Calls Try.prog 27 #[.agg #[.int .i64 s, .int .i64 t, .int .i64 o, .slice va n vc], .agg #[.int .i64 a0, .int .i64 a1, .int .i64 a2, .int .i64 a3, .int .i64 a4], .int .i64 now] X fun e w' => (∃ xa xk, e = .returned (.agg #[.int .i64 qc, .int .i64 qs, .int .i64 qt, .int .i64 qo, .slice xa qn xk, .bool qb])) ∧ Below v2.heap.size v2 w') := fun X hX => (HSP.out X (F2.out X hX).1).mono fun _ _ ⟨⟨xa, xk, h1, _⟩, h2⟩ => ⟨⟨xa, xk, by rw [h1]; simp only [HQN.out]⟩, hX.trans (h2.mono hX.size)⟩
  have HBI2 : Hid (∀ X, Below v2.heap.size v2 X → Calls Try.prog 28 #[.agg #[.int .i64 s, .int .i64 t, .int .i64 o, .slice va n vc]] X fun e w' => e = .returned (.int .i64 bk) ∧ Below v2.heap.size v2 w') := fun X hX => (HBI.out X (F2.out X hX).1).mono fun _ _ ⟨h1, h2⟩ => ⟨h1, hX.trans (h2.mono hX.size)⟩
  have HBS2 : Hid (∀ X, Below v2.heap.size v2 X → Calls Try.prog 29 #[.agg #[.int .i64 s, .int .i64 t, .int .i64 o, .slice va n vc]] X fun e w' => e = .returned (.int .i64 bk) ∧ Below v2.heap.size v2 w') := fun X hX => (HBS.out X (F2.out X hX).1).mono fun _ _ ⟨h1, h2⟩ => ⟨h1, hX.trans (h2.mono hX.size)⟩
  have HRI2 : Hid (∀ X, Below v2.heap.size v2 X → Calls Try.prog 30 #[.agg #[.int .i64 a0, .int .i64 a1, .int .i64 a2, .int .i64 a3, .int .i64 a4]] X fun e w' => e = .returned (.int .i64 (rulesC a0 a1 a2 a3 a4)) ∧ Below v2.heap.size v2 w') := fun X hX => (implRules_any a0 a1 a2 a3 a4 X).mono fun _ _ ⟨h1, h2⟩ => ⟨h1, hX.trans (h2.mono hX.size)⟩
  have HRS2 : Hid (∀ X, Below v2.heap.size v2 X → Calls Try.prog 31 #[.agg #[.int .i64 a0, .int .i64 a1, .int .i64 a2, .int .i64 a3, .int .i64 a4]] X fun e w' => e = .returned (.int .i64 (rulesC a0 a1 a2 a3 a4)) ∧ Below v2.heap.size v2 w') := fun X hX => (specRules_any a0 a1 a2 a3 a4 X).mono fun _ _ ⟨h1, h2⟩ => ⟨h1, hX.trans (h2.mono hX.size)⟩
  generalize rulesC a0 a1 a2 a3 a4 = rk at *
  clear HSP HBI HBS
  go_upto_region 5 with fail
  try simp only [hM6]
  try simp only [hqn]
  rw [← HV2.out]
  clear HV2 hM6 hqn
  have HKS : Hid (∀ X, Below v2.heap.size v2 X → X.cell? ⟨M3, 0, none⟩ = some (.int .i64 s) ∧ X.cell? ⟨M3, 1, none⟩ = some (.int .i64 t) ∧ X.cell? ⟨M3, 2, none⟩ = some (.int .i64 o) ∧ X.cell? ⟨M3, 3, none⟩ = some (.slice va n vc) ∧ X.cell? ⟨M3 + 1, 0, none⟩ = some (.int .i64 a0) ∧ X.cell? ⟨M3 + 1, 1, none⟩ = some (.int .i64 a1) ∧ X.cell? ⟨M3 + 1, 2, none⟩ = some (.int .i64 a2) ∧ X.cell? ⟨M3 + 1, 3, none⟩ = some (.int .i64 a3) ∧ X.cell? ⟨M3 + 1, 4, none⟩ = some (.int .i64 a4) ∧ X.cell? ⟨M6, 0, none⟩ = some (.int .i64 qc) ∧ X.cell? ⟨M6, 5, none⟩ = some (.bool qb)) := fun X hX => by
    obtain ⟨z1, z2, z3⟩ := F2.out X hX
    obtain ⟨y0, y1, y2, y3, y4, y5, y6, y7, y8⟩ := (F1.out X z1).2.1
    exact ⟨y0, y1, y2, y3, y4, y5, y6, y7, y8, z2.c0, z2.c5⟩
  have DZ : Hid (Below v2.heap.size v2 v2) := Below.refl _ _
  have D0 : Hid (Below v2.heap.size v2 v2.drew) := (Below.refl _ _).drew
  go_cut [54] from 23 to 54 (fun c wx => c = .bool false ∧ Below v2.heap.size v2 wx)
  case first =>
    have fl0 := afield0
    have fl2 := afield2
    go_wp2_with fail
    go_region_held3 (fun X => X.cell? ⟨M3, 0, none⟩ = some (.int .i64 s) ∧ X.cell? ⟨M3, 1, none⟩ = some (.int .i64 t) ∧ X.cell? ⟨M3, 2, none⟩ = some (.int .i64 o) ∧ X.cell? ⟨M3, 3, none⟩ = some (.slice va n vc) ∧ X.cell? ⟨M3 + 1, 0, none⟩ = some (.int .i64 a0) ∧ X.cell? ⟨M3 + 1, 1, none⟩ = some (.int .i64 a1) ∧ X.cell? ⟨M3 + 1, 2, none⟩ = some (.int .i64 a2) ∧ X.cell? ⟨M3 + 1, 3, none⟩ = some (.int .i64 a3) ∧ X.cell? ⟨M3 + 1, 4, none⟩ = some (.int .i64 a4) ∧ X.cell? ⟨M6, 0, none⟩ = some (.int .i64 qc) ∧ X.cell? ⟨M6, 5, none⟩ = some (.bool qb))
      (first | ((with_reducible refine HKS.out _ ?_); (first | with_reducible exact D6.out | with_reducible exact D5.out | with_reducible exact D4.out | with_reducible exact D3.out | with_reducible exact D2.out | with_reducible exact D1.out | with_reducible exact D0.out | with_reducible exact DZ.out)))
      (first
      | (go_at_call 27; first
        | ((with_reducible refine (HSP2.out _ ?_).mono ?_); (with_reducible exact D1.out); rintro r wb ⟨⟨xb, yb, rfl⟩, hb⟩; have D2 : Hid (Below v2.heap.size v2 wb) := hb; clear hb)
        | ((with_reducible refine (HSP2.out _ ?_).mono ?_); (with_reducible exact D0.out); rintro r wa ⟨⟨xa, ya, rfl⟩, hb⟩; have D1 : Hid (Below v2.heap.size v2 wa) := hb; clear hb))
      | (go_at_call 28; (with_reducible refine (HBI2.out _ ?_).mono ?_); (with_reducible exact D2.out); rintro r we ⟨rfl, hb⟩; have D3 : Hid (Below v2.heap.size v2 we) := hb; clear hb)
      | (go_at_call 29; (with_reducible refine (HBS2.out _ ?_).mono ?_); (with_reducible exact D3.out); rintro r wf ⟨rfl, hb⟩; have D4 : Hid (Below v2.heap.size v2 wf) := hb; clear hb)
      | (go_at_call 30; (with_reducible refine (HRI2.out _ ?_).mono ?_); (with_reducible exact D4.out); rintro r wg ⟨rfl, hb⟩; have D5 : Hid (Below v2.heap.size v2 wg) := hb; clear hb)
      | (go_at_call 31; (with_reducible refine (HRS2.out _ ?_).mono ?_); (with_reducible exact D5.out); rintro r wh ⟨rfl, hb⟩; have D6 : Hid (Below v2.heap.size v2 wh) := hb; clear hb))
    all_goals
      go_wp2_with fail
      go_meet
      exact ⟨rfl, D6.out⟩
  case rest =>
  obtain ⟨rfl, hcb⟩ := hcut
  have HCB : Hid (Below v2.heap.size v2 wc) := hcb
  generalize wc = wA at *
  clear hcb HSP2 HBI2 HBS2 HRI2 HRS2 HKS DZ D0
  obtain ⟨e0, e1, e2, e3, e4, e5, _, _⟩ := (F2.out _ HCB.out).2.1
  by_cases hq0 : qc = 0
  rotate_left
  · have hq1 : (qc != 0) = true := by simpa using hq0
    have HB : Hid (Below w.heap.size w wA) := (F1.out _ (F2.out _ HCB.out).1).1
    clear HQ
    go_wp2_with fail
    go_ret
    exact ⟨rfl, HB.out⟩
  subst hq0
  have HT : Hid (turnC s t o l a0 a1 a2 a3 a4 now = 0) := by
    show _ = _
    have h := HQ.out
    by_cases ht : turnC s t o l a0 a1 a2 a3 a4 now = 0
    · exact ht
    · rw [allowR_bad ht] at h
      exact (congrArg Prod.fst h).symm
  have hq := HQ.out
  rw [allowR_ok HT.out] at hq
  simp only [Prod.mk.injEq, Bk.mk.injEq, true_and] at hq
  obtain ⟨⟨h1, h2, h3, h4⟩, h5⟩ := hq
  subst h2
  subst h4
  have HS : Hid (qs = alS s qt o a3 a4 now ∧ qo = alO s qt o a3 a4 now ∧ qb = alB s qt o a3 a4 now) := ⟨h1, h3, h5⟩
  have hnn : qn = n := by have := HQN.out; have := HLN.out; omega
  subst hnn
  have HG := hid12 (good_of HT.out)
  have HTA : Hid (brkC qs qt qo ql = 0 ∧ turnC qs qt qo ql a0 a1 a2 a3 a4 now = 0) := by rw [HS.out.1, HS.out.2.1]; exact turn_allow HT.out
  have HST : Hid (BrInv qs qt a3 a4 now 0 0 qs qo) := by rw [HS.out.1, HS.out.2.1]; exact BrInv.start HT.out
  have HBF : Hid (∀ X, Below v2.heap.size v2 X → Calls Try.prog 28 #[.agg #[.int .i64 qs, .int .i64 qt, .int .i64 qo, .slice qa qn qk]] X fun e w' => e = .returned (.int .i64 0) ∧ Below v2.heap.size v2 w') := fun X hX => by
    have z := implBrk_any qs qt qo qa qk ql X (((F2.out X hX).2.2.2 (M6 + 1) (by omega)).in)
    rw [HTA.out.1, HQN.out] at z
    exact z.mono fun _ _ ⟨h1, h2⟩ => ⟨h1, hX.trans (h2.mono hX.size)⟩
  clear h1 h3 h5 HQ HLN
  go_upto_region 9 with fail
  go_cut [103] from 58 to 103 (fun c wx => c = .bool false ∧ Below v2.heap.size v2 wx)
  case first =>
    have HD : Hid (∀ X, Below v2.heap.size v2 X → X.cell? ⟨M6, 5, none⟩ = some (.bool qb) ∧ X.cell? ⟨M3, 0, none⟩ = some (.int .i64 s) ∧ X.cell? ⟨M3, 1, none⟩ = some (.int .i64 qt) ∧ X.cell? ⟨M3, 2, none⟩ = some (.int .i64 o) ∧ X.cell? ⟨M3 + 1, 3, none⟩ = some (.int .i64 a3) ∧ X.cell? ⟨M3 + 1, 4, none⟩ = some (.int .i64 a4)) := fun X hX => by
      obtain ⟨z1, z2, z3⟩ := F2.out X hX
      obtain ⟨y0, y1, y2, y3, y4, y5, y6, y7, y8⟩ := (F1.out X z1).2.1
      exact ⟨z2.c5, y0, y1, y2, y7, y8⟩
    have wnt : IntKind.i64.wrap (now - qt) = now - qt := by have h1 := HG.out.ht; have h2 := HG.out.hnow; rw [IntKind.wrap_i64]; omega
    go_wp2_with fail
    refine (HBF.out _ HCB.out).mono ?_
    rintro r w4 ⟨rfl, hb4⟩
    have HB4 : Hid (Below v2.heap.size v2 w4) := hb4
    obtain ⟨g5, g0, g1, g2, g3, g4⟩ := HD.out _ hb4
    clear hb4 e0 e1 e2 e3 e4 e5 HBF HD
    have hs := HG.out.hs
    have hqb := HS.out.2.2
    clear HS HST HTA HT
    rcases hs with rfl | rfl | rfl
    · have hb : qb = true := by rw [hqb]; simp [alB]
      subst hb
      clear hqb
      go_wp2_with fail
      go_meet
      exact ⟨rfl, HB4.out⟩
    · by_cases hx : now - qt < a3
      · have hb : qb = false := by rw [hqb]; simp [alB, hx]
        subst hb
        have d1 : decide (a3 ≤ now - qt) = false := by simp; omega
        clear hqb
        go_wp2_with fail
        go_meet
        exact ⟨rfl, HB4.out⟩
      · have hb : qb = true := by rw [hqb]; simp [alB, hx]
        subst hb
        have d1 : decide (a3 ≤ now - qt) = true := by simp; omega
        clear hqb
        go_wp2_with fail
        go_meet
        exact ⟨rfl, HB4.out⟩
    · by_cases hx : a4 ≤ o
      · have hb : qb = false := by rw [hqb]; simp [alB, hx]
        subst hb
        have d1 : decide (o < a4) = false := by simp; omega
        clear hqb
        go_wp2_with fail
        go_meet
        exact ⟨rfl, HB4.out⟩
      · have hb : qb = true := by rw [hqb]; simp [alB, hx]
        subst hb
        have d1 : decide (o < a4) = true := by simp; omega
        clear hqb
        go_wp2_with fail
        go_meet
        exact ⟨rfl, HB4.out⟩
  case rest =>
  obtain ⟨rfl, hcb⟩ := hcut
  have HCC : Hid (Below v2.heap.size v2 wc) := hcb
  generalize wc = wB at *
  clear hcb HBF e0 e1 e2 e3 e4 e5 HCB
  obtain ⟨v4, hv4⟩ : ∃ X, X = wB.alloc (.cells #[.int .i64 qs, .int .i64 qt, .int .i64 qo, .slice qa qn qk] 51) := ⟨_, rfl⟩
  obtain ⟨M7, hM7⟩ : ∃ M, wB.heap.size = M := ⟨_, rfl⟩
  have hM67 : M6 < M7 := by have h1 := HM6.out; have h2 := HCC.out.size; omega
  have hM37 : M3 + 2 ≤ M7 := by have h1 := HV1S.out; have h2 := (F2.out _ HCC.out).1.size; omega
  have F4 : Hid (Below M7 wB v4 ∧ S4 v4 M7 (.int .i64 qs) (.int .i64 qt) (.int .i64 qo) (.slice qa qn qk) ∧ MkNe v4 M7 qa ql) := by
    have al : Below wB.heap.size wB v4 := by rw [hv4]; exact (Below.refl _ _).alloc (Nat.le_refl _) _
    have c := S4.new wB (.int .i64 qs) (.int .i64 qt) (.int .i64 qo) (.slice qa qn qk) 51
    rw [← hv4, hM7] at c
    exact ⟨by rw [← hM7]; exact al, c, ((F2.out _ HCC.out).2.2.2 M7 hM67).keep al⟩
  have HK : Hid (∀ X, Below M7 wB X → Below w.heap.size w X ∧ SBR X M3 (M3 + 1) s qt o va qn vc a0 a1 a2 a3 a4 ∧ C6 X M6 (.int .i64 0) (.int .i64 qs) (.int .i64 qt) (.int .i64 qo) (.slice qa qn qk) (.bool qb)) := fun X hX => by
    have hX2 : Below wB.heap.size wB X := by rw [hM7]; exact hX
    have z := F2.out X (HCC.out.trans (hX2.mono HCC.out.size))
    have y := F1.out X z.1
    exact ⟨y.1, y.2.1, z.2.1⟩
  have HV4 := rulQ hv4
  obtain ⟨e0, e1, e2, e3, e4, e5, _, _⟩ := (F2.out _ HCC.out).2.1
  have HTQ : Hid (turnC qs qt qo ql a0 a1 a2 a3 a4 now = 0) := HTA.out.2
  clear hv4 HT HTA HS
  go_upto_region 12 with fail
  try simp only [hM7]
  rw [← HV4.out]
  clear HV4 hM7 e0 e1 e2 e3 e4 e5 F1 F2 HCC
  go_wp2_with fail
  go_loopw [8, 9] (fun nv kv X => ∃ (k m : Nat) (xs xo : Int) (xa : Option Addr) (xk : Nat), k ≤ 8 ∧ kv = .int .i64 (k : Int) ∧ nv = .int .i64 (m : Int) ∧ BrInv qs qt a3 a4 now k m xs xo ∧ turnC xs qt xo ql a0 a1 a2 a3 a4 now = 0 ∧ Below M7 wB X ∧ S4 X M7 (.int .i64 xs) (.int .i64 qt) (.int .i64 xo) (.slice xa qn xk) ∧ MkNe X M7 xa ql) (fun _ kv _ => 8 - (intOf kv).toNat)
  case atStart => exact ⟨0, 0, qs, qo, qa, qk, by omega, rfl, rfl, HST.out, HTQ.out, F4.out⟩
  case round =>
    obtain ⟨k, m, xs, xo, xa, xk, hk8, rfl, rfl, hinv, hturn, hb, h4, hne⟩ := hrel
    have HINV := hid12 hinv
    have HTU := hid12 hturn
    clear hinv hturn F4 HTQ HST
    obtain ⟨zb, ⟨y0, y1, y2, y3, y4, y5, y6, y7, y8⟩, zc⟩ := HK.out wr hb
    by_cases hlt : k < 8
    · have gk : (k : Int) < 8 := by omega
      have HCA : Hid (Calls Try.prog 26 #[.agg #[.int .i64 xs, .int .i64 qt, .int .i64 xo, .slice xa qn xk], .agg #[.int .i64 a0, .int .i64 a1, .int .i64 a2, .int .i64 a3, .int .i64 a4], .int .i64 now] wr fun e u => (∃ na nc, e = .returned (.agg #[.int .i64 0, .int .i64 (alS xs qt xo a3 a4 now), .int .i64 qt, .int .i64 (alO xs qt xo a3 a4 now), .slice na qn nc, .bool (alB xs qt xo a3 a4 now)]) ∧ MkNew u wr.heap.size (.slice na qn nc) ql) ∧ Below wr.heap.size wr u) := by
        have z := implAllow_any wr xs qt xo xa xk ql a0 a1 a2 a3 a4 now (by have := HQN.out; omega) hne.in
        rw [allowR_ok HTU.out, HQN.out] at z
        exact z.mono fun _ _ ⟨⟨na, nc, h1, h2⟩, h3⟩ => ⟨⟨na, nc, by rw [h1]; simp only [HQN.out], by simp only [HQN.out] at h2; exact h2⟩, h3⟩
      have HSTEP := hid12 (HINV.out.step HTU.out)
      have hm8 : m ≤ 8 := by have := HINV.out.le; omega
      have HTN : Hid (turnC (alS xs qt xo a3 a4 now) qt (alO xs qt xo a3 a4 now) ql a0 a1 a2 a3 a4 now = 0) := (turn_allow HTU.out).2
      have HW : Hid (Below M7 wB wr ∧ S4 wr M7 (.int .i64 xs) (.int .i64 qt) (.int .i64 xo) (.slice xa qn xk)) := ⟨hb, h4⟩
      obtain ⟨x0, x1, x2, x3, _, _⟩ := h4
      clear HTU HINV hne hb zb zc
      generalize alS xs qt xo a3 a4 now = ys at *
      generalize alO xs qt xo a3 a4 now = yo at *
      generalize alB xs qt xo a3 a4 now = yb at *
      go_wp2_with fail
      refine HCA.out.mono ?_
      rintro r u ⟨⟨na, nc, rfl, hmw⟩, hbu⟩
      clear x0 x1 x2 x3 y0 y1 y2 y3 y4 y5 y6 y7 y8 HCA
      obtain ⟨u1, hu1⟩ : ∃ X, X = u.alloc (.cells #[.int .i64 0, .int .i64 ys, .int .i64 qt, .int .i64 yo, .slice na qn nc, .bool yb] 57) := ⟨_, rfl⟩
      obtain ⟨M10, hM10⟩ : ∃ M, u.heap.size = M := ⟨_, rfl⟩
      have al : Below u.heap.size u u1 := by rw [hu1]; exact (Below.refl _ _).alloc (Nat.le_refl _) _
      have c := C6.new u (.int .i64 0) (.int .i64 ys) (.int .i64 qt) (.int .i64 yo) (.slice na qn nc) (.bool yb) 57
      rw [← hu1, hM10] at c
      have bu := hbu.trans (al.mono hbu.size)
      have HU1 : Hid (Below M7 wB u1 ∧ S4 u1 M7 (.int .i64 xs) (.int .i64 qt) (.int .i64 xo) (.slice xa qn xk) ∧ C6 u1 M10 (.int .i64 0) (.int .i64 ys) (.int .i64 qt) (.int .i64 yo) (.slice na qn nc) (.bool yb) ∧ MkNe u1 M7 na ql ∧ M7 < M10) := by
        have hlt7 := HW.out.2.lt
        refine ⟨HW.out.1.trans (bu.mono (Nat.le_of_lt hlt7)), HW.out.2.keep bu, c, (MkNe.of hmw (fun g h1 _ => by omega)).keep al, ?_⟩
        have := hbu.size
        omega
      have HVU := rulQ hu1
      clear hu1 al c bu hbu hmw HW
      go_upto_region 17 with fail
      try simp only [hM10]
      rw [← HVU.out]
      clear HVU hM10
      obtain ⟨x0, x1, x2, x3, xf, _⟩ := HU1.out.2.1
      have xf0 := xf 0
      have xf1 := xf 1
      have xf2 := xf 2
      have xf3 := xf 3
      clear xf
      obtain ⟨t0, t1, t2, t3, t4, t5, _, _⟩ := HU1.out.2.2.1
      have hne7 : ¬ M7 = M10 := by have := HU1.out.2.2.2.2; omega
      have hne8 : ¬ M10 = M7 := fun e => hne7 e.symm
      have HEND : Hid (Below M7 wB ((((u1.setCell ⟨M7, 0, none⟩ (.int .i64 ys)).setCell ⟨M7, 1, none⟩ (.int .i64 qt)).setCell ⟨M7, 2, none⟩ (.int .i64 yo)).setCell ⟨M7, 3, none⟩ (.slice na qn nc)) ∧ S4 ((((u1.setCell ⟨M7, 0, none⟩ (.int .i64 ys)).setCell ⟨M7, 1, none⟩ (.int .i64 qt)).setCell ⟨M7, 2, none⟩ (.int .i64 yo)).setCell ⟨M7, 3, none⟩ (.slice na qn nc)) M7 (.int .i64 ys) (.int .i64 qt) (.int .i64 yo) (.slice na qn nc) ∧ MkNe ((((u1.setCell ⟨M7, 0, none⟩ (.int .i64 ys)).setCell ⟨M7, 1, none⟩ (.int .i64 qt)).setCell ⟨M7, 2, none⟩ (.int .i64 yo)).setCell ⟨M7, 3, none⟩ (.slice na qn nc)) M7 na ql) :=
        ⟨(((HU1.out.1.setCell (Nat.le_refl _) _).setCell (Nat.le_refl _) _).setCell (Nat.le_refl _) _).setCell (Nat.le_refl _) _, (((HU1.out.2.1.set0 _).set1 _).set2 _).set3 _, HU1.out.2.2.2.1.off.off.off.off⟩
      have wm : IntKind.i64.wrap ((m : Int) + 1) = (m : Int) + 1 := by rw [IntKind.wrap_i64]; omega
      cases yb
      · go_wp2_with fail
        go_roundw
        case rel => exact ⟨k + 1, m, ys, yo, na, nc, by omega, by go_num, rfl, HSTEP.out.2 rfl, HTN.out, HEND.out⟩
        case measure => simp [intOf]; omega
      · go_wp2_with fail
        go_roundw
        case rel => exact ⟨k + 1, m + 1, ys, yo, na, nc, by omega, by go_num, by go_num, HSTEP.out.1 rfl, HTN.out, HEND.out⟩
        case measure => simp [intOf]; omega
    · have hk : k = 8 := by omega
      subst hk
      have HE := hid12 (HINV.out.end HG.out.hr4.1)
      have HSS : Hid (qs = 0 ∨ qs = 1 ∨ qs = 2) := by have := HINV.out.st; have h := (good_of HTU.out).hs; rw [this] at h; exact h
      have HB := hid12 zb
      obtain ⟨e0, e1, e2, e3, e4, e5, _, _⟩ := zc
      clear HINV HTU hne h4 hb zb
      have hs := HSS.out
      have he := HE.out
      clear HSS HE
      rcases hs with rfl | rfl | rfl
      · have hm : m = 8 := by have := he.2.1 rfl; omega
        subst hm
        clear he
        go_wp2_with fail
        go_ret
        exact ⟨rfl, HB.out⟩
      · have hm : m = 0 := by have := he.2.2.2 rfl; omega
        subst hm
        clear he
        go_wp2_with fail
        go_ret
        exact ⟨rfl, HB.out⟩
      · have hm : (m : Int) ≤ a4 := he.2.2.1 rfl
        have d1 : decide ((m : Int) ≤ a4) = true := by simpa using hm
        clear he
        go_wp2_with fail
        go_ret
        exact ⟨by simp, HB.out⟩
end breakers
end Go.Proofs.Ytmgidcigihpbeaa
