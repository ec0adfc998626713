/-
  The law of traces, out of contracts.
-/
import Derived.Test.YtglbffjeakcgcaaDraw10T
import Derived.Test.YtglbffjeakcgcaaLwNums
import Derived.Test.YtglbffjeakcgcaaTrcR
import Derived.Test.YtglbffjeakcgcaaTrcS
import Derived.Test.YtglbffjeakcgcaaAllowI
import Derived.Test.YtglbffjeakcgcaaNoteI
import Derived.Test.YtglbffjeakcgcaaFnTrP
import Derived.Lib.QuietBelow
import Derived.BigQuiet
import Derived.Deep.RegionHeld3
import Derived.Deep.CutRange
import Derived.Deep.CutBlock
namespace Go.Proofs.Ytglbffjeakcgcaa
open Go.ChangeShapes Go.WideShapes Go.ChangeAt Go.RowKit Go.Sort
namespace traces
theorem low_set {w X : World} {n b i : Nat} (h : Below n w X) (v : Value) (hb : n ≤ b) : Below n w (X.setCell ⟨b, i, none⟩ v) := h.setCell hb v
theorem hidT {p : Prop} (h : p) : Hid p := h
set_option maxRecDepth 100000 in
set_option maxHeartbeats 32000000 in
theorem fnTraces_walk (w : World) (a : Option Addr) (len cap : Nat) (hc : CodeRow w w.heap.size a len) :
    Calls Try.prog 5 #[.slice a len cap] w fun e w' => e = .returned (.bool true) ∧ Below w.heap.size w w' := by
  have HC : Hid (CodeRow w w.heap.size a len) := hc
  clear hc
  by_cases hbig : (1048576 : Int) < len
  · go_enter Try.func5, Try.ntmps5
    go_wp2
    go_ret
    exact ⟨rfl, Below.refl _ _⟩
  have hl2 : len ≤ 1048576 := by omega
  go_enter Try.func5, Try.ntmps5
  go_wp2_with (go_at_call 8; go_in)
  refine (drawTraces_any w a len cap HC.out hl2).mono ?_
  rintro r w1 ⟨⟨a0, a1, a2, a3, a4, va, vc, l, rfl, hlen, htr⟩, hb1⟩
  obtain ⟨v1, hv1⟩ : ∃ X, Hid (X = w1.alloc (.cells #[.int .i64 a0, .int .i64 a1, .int .i64 a2, .int .i64 a3, .int .i64 a4] 50)) := ⟨_, rfl⟩
  have F1 : Hid (∀ X, Below v1.heap.size v1 X → Below w.heap.size w X ∧ S5 X w1.heap.size (.int .i64 a0) (.int .i64 a1) (.int .i64 a2) (.int .i64 a3) (.int .i64 a4) ∧ TrIn X va l) := fun X hX => by
    have al : Below w1.heap.size w1 v1 := by rw [hv1.out]; exact (Below.refl _ _).alloc (Nat.le_refl _) _
    have b := hb1.trans (al.mono hb1.size)
    refine ⟨b.trans (hX.mono b.size), ?_, (htr.keep al).keep hX⟩
    have := S5.new w1 (.int .i64 a0) (.int .i64 a1) (.int .i64 a2) (.int .i64 a3) (.int .i64 a4) 50
    rw [← hv1.out] at this
    exact this.keep hX
  clear hb1 htr HC hl2 hbig
  have HI : Hid (∀ X, Below v1.heap.size v1 X → Calls Try.prog 27 #[.agg #[.int .i64 a0, .int .i64 a1, .int .i64 a2, .int .i64 a3, .int .i64 a4], .slice va l.length vc] X fun e w' => TracesRes w' X.heap.size (tracesR a0 a1 a2 a3 a4 l) e ∧ Below X.heap.size X w') := fun X hX => implTraces_any X a0 a1 a2 a3 a4 va vc l (by omega) (F1.out X hX).2.2
  have HSP : Hid (∀ X, Below v1.heap.size v1 X → Calls Try.prog 28 #[.agg #[.int .i64 a0, .int .i64 a1, .int .i64 a2, .int .i64 a3, .int .i64 a4], .slice va l.length vc] X fun e w' => TracesRes w' X.heap.size (tracesR a0 a1 a2 a3 a4 l) e ∧ Below X.heap.size X w') := fun X hX => specTraces_any X a0 a1 a2 a3 a4 va vc l (by omega) (F1.out X hX).2.2
  have HZ : Hid ((tracesR a0 a1 a2 a3 a4 l).1 = 0 → runT a0 a1 a2 a3 a4 ⟨0, 0, 0, []⟩ l [] [] = tracesR a0 a1 a2 a3 a4 l ∧ (tracesR a0 a1 a2 a3 a4 l).2.1.length = l.length ∧ (tracesR a0 a1 a2 a3 a4 l).2.2.length = l.length) := tracesR_zero
  have HLN : Hid ((tracesR a0 a1 a2 a3 a4 l).2.1.length ≤ 1048576 ∧ (tracesR a0 a1 a2 a3 a4 l).2.2.length ≤ 1048576) := by
    have h := runT_len a0 a1 a2 a3 a4 l ⟨0, 0, 0, []⟩ [] []
    unfold tracesR
    split
    · split
      · exact ⟨by simp, by simp⟩
      · exact ⟨by simp only [List.length_nil] at h; omega, by simp only [List.length_nil] at h; omega⟩
    · exact ⟨by simp, by simp⟩
  obtain ⟨q, hq⟩ : ∃ q, tracesR a0 a1 a2 a3 a4 l = q := ⟨_, rfl⟩
  rw [hq] at HI HSP HZ HLN
  clear hq
  obtain ⟨qc, S, A⟩ := q
  simp only at HZ HLN
  go_upto_region 4 with fail
  rw [← hv1.out]
  have HLE : Hid (l.length ≤ 101) := hlen
  clear hv1 hlen
  generalize w1.heap.size = M3 at *
  clear w1
  generalize hn : l.length = n at *
  have HN : Hid (l.length = n) := hn
  clear hn
  obtain ⟨c0, c1, c2, c3, c4, _, _⟩ := (F1.out _ (Below.refl _ _)).2.1
  go_wp2_with fail
  refine (HI.out _ (Below.refl _ _)).mono ?_
  rintro r w2 ⟨⟨sa, sc, aa, ac, rfl, hs2, ha2, _⟩, hb2⟩
  clear c0 c1 c2 c3 c4
  simp only at hs2 ha2
  obtain ⟨v2, hv2⟩ : ∃ X, Hid (X = w2.alloc (.cells #[.int .i64 qc, .slice sa S.length sc, .slice aa A.length ac] 56)) := ⟨_, rfl⟩
  have F2 : Hid (∀ X, Below v2.heap.size v2 X → Below v1.heap.size v1 X ∧ C3 X w2.heap.size (.int .i64 qc) (.slice sa S.length sc) (.slice aa A.length ac) ∧ NsIn X sa S ∧ BsIn X aa A) := fun X hX => by
    have al : Below w2.heap.size w2 v2 := by rw [hv2.out]; exact (Below.refl _ _).alloc (Nat.le_refl _) _
    have b := hb2.trans (al.mono hb2.size)
    have c := C3.new w2 (.int .i64 qc) (.slice sa S.length sc) (.slice aa A.length ac) 56
    rw [← hv2.out] at c
    obtain ⟨x1, x2, x3, x4⟩ := hs2.in
    obtain ⟨y1, y2, y3, y4⟩ := ha2.in
    simp only [Value.slice.injEq] at x3 y3
    rw [x3.1, y3.1]
    exact ⟨b.trans (hX.mono b.size), by rw [← x3.1, ← y3.1]; exact c.keep hX, (x4.keep al).keep hX, (y4.keep al).keep hX⟩
  clear hb2 hs2 ha2
  go_upto_region 5 with fail
  rw [← hv2.out]
  clear hv2
  generalize w2.heap.size = M5 at *
  clear w2
  obtain ⟨c0, c1, c2, c3, c4, _, _⟩ := (F1.out _ (F2.out _ (Below.refl _ _)).1).2.1
  go_wp2_with fail
  refine (HSP.out _ (F2.out _ (Below.refl _ _)).1).mono ?_
  rintro r w3 ⟨⟨sb, sd, ab, ad, rfl, hs3, ha3, _⟩, hb3⟩
  clear c0 c1 c2 c3 c4 HI HSP
  simp only at hs3 ha3
  obtain ⟨v3, hv3⟩ : ∃ X, Hid (X = w3.alloc (.cells #[.int .i64 qc, .slice sb S.length sd, .slice ab A.length ad] 56)) := ⟨_, rfl⟩
  have F3 : Hid (∀ X, Below v3.heap.size v3 X → Below v2.heap.size v2 X ∧ C3 X w3.heap.size (.int .i64 qc) (.slice sb S.length sd) (.slice ab A.length ad) ∧ NsIn X sb S) := fun X hX => by
    have al : Below w3.heap.size w3 v3 := by rw [hv3.out]; exact (Below.refl _ _).alloc (Nat.le_refl _) _
    have b := hb3.trans (al.mono hb3.size)
    have c := C3.new w3 (.int .i64 qc) (.slice sb S.length sd) (.slice ab A.length ad) 56
    rw [← hv3.out] at c
    obtain ⟨x1, x2, x3, x4⟩ := hs3.in
    simp only [Value.slice.injEq] at x3
    rw [x3.1]
    exact ⟨b.trans (hX.mono b.size), by rw [← x3.1]; exact c.keep hX, (x4.keep al).keep hX⟩
  clear hb3 hs3 ha3
  have HLW : Hid (Calls Try.prog 23 #[.slice sa S.length sc, .slice sb S.length sd] v3 fun e w' => e = .returned (.bool true) ∧ Below v3.heap.size v3 w') := lwNums_same v3 sa sb sc sd S HLN.out.1 (F2.out _ (F3.out _ (Below.refl _ _)).1).2.2.1 (F3.out _ (Below.refl _ _)).2.2
  have HSN : Hid (qc = 0 → S.length = n ∧ A.length = n) := fun h => (HZ.out h).2
  go_upto_region 6 with fail
  rw [← hv3.out]
  clear hv3
  generalize w3.heap.size = M6 at *
  clear w3
  obtain ⟨d0, d1, d2, _, _⟩ := (F2.out _ (F3.out _ (Below.refl _ _)).1).2.1
  obtain ⟨e0, e1, e2, _, _⟩ := (F3.out _ (Below.refl _ _)).2.1
  generalize hsn0 : S.length = sn at *
  generalize han0 : A.length = an at *
  have HSL : Hid (S.length = sn ∧ A.length = an) := ⟨hsn0, han0⟩
  clear hsn0 han0
  go_wp2_with fail
  refine HLW.out.mono ?_
  rintro r w4 ⟨rfl, hb4⟩
  clear d0 d1 d2 e0 e1 e2 HLW
  have F4 : Hid (∀ X, Below w4.heap.size w4 X → Below v2.heap.size v2 X ∧ C3 X M6 (.int .i64 qc) (.slice sb sn sd) (.slice ab an ad)) := fun X hX => by
    have z := F3.out X (hb4.trans (hX.mono hb4.size))
    exact ⟨z.1, z.2.1⟩
  clear hb4 F3
  obtain ⟨d0, d1, d2, _, _⟩ := (F2.out _ (F4.out _ (Below.refl _ _)).1).2.1
  obtain ⟨e0, e1, e2, _, _⟩ := (F4.out _ (Below.refl _ _)).2
  by_cases hq0 : qc = 0
  rotate_left
  · have hq1 : (qc != 0) = true := by simpa using hq0
    have HB : Hid (Below w.heap.size w w4) := (F1.out _ (F2.out _ (F4.out _ (Below.refl _ _)).1).1).1
    clear HZ HSN
    go_wp2_with fail
    go_ret
    exact ⟨rfl, HB.out⟩
  subst hq0
  obtain ⟨hsn, han⟩ := HSN.out rfl
  have hsn' := hsn.symm
  have han' := han.symm
  clear hsn han
  subst hsn'
  subst han'
  have HRT : Hid (runT a0 a1 a2 a3 a4 ⟨0, 0, 0, []⟩ l [] [] = (0, S, A)) := (HZ.out rfl).1
  clear HZ HSN
  have HK : Hid (∀ X, Below w4.heap.size w4 X → Below w.heap.size w X ∧ S5 X M3 (.int .i64 a0) (.int .i64 a1) (.int .i64 a2) (.int .i64 a3) (.int .i64 a4) ∧ C3 X M5 (.int .i64 0) (.slice sa n sc) (.slice aa n ac) ∧ NsIn X sa S ∧ BsIn X aa A ∧ TrIn X va l) := fun X hX => by
    have z4 := F4.out X hX
    have z2 := F2.out X z4.1
    have z1 := F1.out X z2.1
    exact ⟨z1.1, z1.2.1, z2.2.1, z2.2.2.1, z2.2.2.2, z1.2.2⟩
  obtain ⟨v4, hv4⟩ : ∃ X, Hid (X = w4.alloc (.cells #[.int .i64 0, .int .i64 0, .int .i64 0, .slice none 0 0] 60)) := ⟨_, rfl⟩
  have F5 : Hid (Below w4.heap.size w4 v4 ∧ S4 v4 w4.heap.size (.int .i64 0) (.int .i64 0) (.int .i64 0) (.slice none 0 0)) := by
    rw [hv4.out]
    exact ⟨(Below.refl _ _).alloc (Nat.le_refl _) _, S4.new w4 _ _ _ _ _⟩
  clear F1 F2 F4
  go_wp2_with fail
  rw [← hv4.out]
  clear hv4 d0 d1 d2 e0 e1 e2
  obtain ⟨M7, hM7⟩ : ∃ M, w4.heap.size = M := ⟨_, rfl⟩
  rw [hM7] at HK F5 ⊢
  clear hM7
  go_loopw [8] (fun i wr => ∃ (k : Nat) (bs bt bo : Int) (bl : List Mk) (ma : Option Addr) (mc : Nat) (S0 : List Int) (A0 : List Bool), k ≤ n ∧ i = .int .i64 k ∧ Below M7 w4 wr ∧ S4 wr M7 (.int .i64 bs) (.int .i64 bt) (.int .i64 bo) (.slice ma bl.length mc) ∧ MkNew wr (M7 + 1) (.slice ma bl.length mc) bl ∧ bl.length ≤ 1048576 ∧ S0.length = k ∧ A0.length = k ∧ runT a0 a1 a2 a3 a4 ⟨bs, bt, bo, bl⟩ (l.drop k) S0 A0 = (0, S, A)) (fun i _ => n - (intOf i).toNat)
  case atStart => exact ⟨0, 0, 0, 0, [], none, 0, [], [], Nat.zero_le _, rfl, F5.out.1, F5.out.2, MkNew.nil _ _ _ _, by simp, rfl, rfl, HRT.out⟩
  case round =>
    obtain ⟨k, bs, bt, bo, bl, ma, mc, S0, A0, hk, rfl, hb, h4, hmk, hbl, hS0, hA0, hrun⟩ := hrel
    clear HRT F5
    by_cases hlt : k < n
    · obtain ⟨x, hx⟩ : ∃ r, l[k]? = some r := ⟨l[k]'(by have := HN.out; omega), List.getElem?_eq_getElem _⟩
      obtain ⟨hst, hsk, hak, hrun'⟩ := runT_at hx hrun rfl hS0 hA0
      simp only at hsk hak
      obtain ⟨k1, k2, k3, k4, k5, k6⟩ := HK.out wr hb
      rcases k6 with e | ⟨tb, oo, er, hat⟩
      · rw [e] at hx; simp at hx
      rcases k4 with e | ⟨b1, o1, es, has⟩
      · rw [e] at hsk; simp at hsk
      rcases k5 with e | ⟨b2, o2, ea, haa⟩
      · rw [e] at hak; simp at hak
      obtain ⟨p0, p1, p2⟩ := hat k x hx
      have HAll : Hid (∀ X, Below M7 w4 X → Below w.heap.size w X ∧ X.cell? ⟨M5, 0, none⟩ = some (.int .i64 0) ∧ X.cell? ⟨M5, 1, none⟩ = some (.slice (some ⟨b1, o1, none⟩) n sc) ∧ X.cell? ⟨M5, 2, none⟩ = some (.slice (some ⟨b2, o2, none⟩) n ac) ∧ X.cell? ⟨b1, o1 + k, none⟩ = some (.int .i64 (stepB ⟨bs, bt, bo, bl⟩ a0 a1 a2 a3 a4 x).s) ∧ X.cell? ⟨b2, o2 + k, none⟩ = some (.bool (stepA ⟨bs, bt, bo, bl⟩ a0 a1 a2 a3 a4 x)) ∧ X.cell? ⟨M3, 0, none⟩ = some (.int .i64 a0) ∧ X.cell? ⟨M3, 1, none⟩ = some (.int .i64 a1) ∧ X.cell? ⟨M3, 2, none⟩ = some (.int .i64 a2) ∧ X.cell? ⟨M3, 3, none⟩ = some (.int .i64 a3) ∧ X.cell? ⟨M3, 4, none⟩ = some (.int .i64 a4) ∧ X.cell? ⟨tb, oo + k * 3, none⟩ = some (.int .i64 x.tm) ∧ X.cell? ⟨tb, oo + k * 3 + 1, none⟩ = some (.bool x.ak) ∧ X.cell? ⟨tb, oo + k * 3 + 2, none⟩ = some (.bool x.gd)) := fun X hX => by
        obtain ⟨z1, z2, z3, z4, z5, z6⟩ := HK.out X hX
        rcases z6 with e | ⟨tb', oo', er', hat'⟩
        · rw [e] at hx; simp at hx
        rcases z4 with e | ⟨b1', o1', es', has'⟩
        · rw [e] at hsk; simp at hsk
        rcases z5 with e | ⟨b2', o2', ea', haa'⟩
        · rw [e] at hak; simp at hak
        rw [er] at er'
        rw [es] at es'
        rw [ea] at ea'
        simp only [Option.some.injEq, Addr.mk.injEq, and_true] at er' es' ea'
        obtain ⟨rfl, rfl⟩ := er'
        obtain ⟨rfl, rfl⟩ := es'
        obtain ⟨rfl, rfl⟩ := ea'
        obtain ⟨y0, y1, y2⟩ := hat' k x hx
        rw [es, ea] at z3
        exact ⟨z1, z3.c0, z3.c1, z3.c2, has' k _ hsk, haa' k _ hak, z2.c0, z2.c1, z2.c2, z2.c3, z2.c4, y0, y1, y2⟩
      have HM60 : Hid ((stepB ⟨bs, bt, bo, bl⟩ a0 a1 a2 a3 a4 x).l.length ≤ 1048576) := by have := stepB_len hst; show _ ≤ _; omega
      obtain ⟨ma', mc', em, hmi⟩ := hmk.in
      simp only [Value.slice.injEq] at em
      obtain ⟨rfl, _, rfl⟩ := em
      have HCA : Hid (x.ak = true → ∀ X, Below wr.heap.size wr X → Calls Try.prog 29 #[.agg #[.int .i64 bs, .int .i64 bt, .int .i64 bo, .slice ma bl.length mc], .agg #[.int .i64 a0, .int .i64 a1, .int .i64 a2, .int .i64 a3, .int .i64 a4], .int .i64 x.tm] X fun e u => (∃ na nc, e = .returned (.agg #[.int .i64 0, .int .i64 (stepB ⟨bs, bt, bo, bl⟩ a0 a1 a2 a3 a4 x).s, .int .i64 (stepB ⟨bs, bt, bo, bl⟩ a0 a1 a2 a3 a4 x).t, .int .i64 (stepB ⟨bs, bt, bo, bl⟩ a0 a1 a2 a3 a4 x).o, .slice na (stepB ⟨bs, bt, bo, bl⟩ a0 a1 a2 a3 a4 x).l.length nc, .bool (stepA ⟨bs, bt, bo, bl⟩ a0 a1 a2 a3 a4 x)]) ∧ MkNew u X.heap.size (.slice na (stepB ⟨bs, bt, bo, bl⟩ a0 a1 a2 a3 a4 x).l.length nc) (stepB ⟨bs, bt, bo, bl⟩ a0 a1 a2 a3 a4 x).l) ∧ Below X.heap.size X u) := fun ha X hX => by
        have z := implAllow_any X bs bt bo ma mc bl a0 a1 a2 a3 a4 x.tm hbl (hmi.keep hX)
        rw [show allowR bs bt bo bl a0 a1 a2 a3 a4 x.tm = _ from allowR_step hst ha] at z
        exact z
      have HCN : Hid (x.ak = false → ∀ X, Below wr.heap.size wr X → Calls Try.prog 30 #[.agg #[.int .i64 bs, .int .i64 bt, .int .i64 bo, .slice ma bl.length mc], .agg #[.int .i64 a0, .int .i64 a1, .int .i64 a2, .int .i64 a3, .int .i64 a4], .int .i64 x.tm, .bool x.gd] X fun e u => (∃ na nc, e = .returned (.agg #[.int .i64 0, .int .i64 (stepB ⟨bs, bt, bo, bl⟩ a0 a1 a2 a3 a4 x).s, .int .i64 (stepB ⟨bs, bt, bo, bl⟩ a0 a1 a2 a3 a4 x).t, .int .i64 (stepB ⟨bs, bt, bo, bl⟩ a0 a1 a2 a3 a4 x).o, .slice na (stepB ⟨bs, bt, bo, bl⟩ a0 a1 a2 a3 a4 x).l.length nc]) ∧ MkNew u X.heap.size (.slice na (stepB ⟨bs, bt, bo, bl⟩ a0 a1 a2 a3 a4 x).l.length nc) (stepB ⟨bs, bt, bo, bl⟩ a0 a1 a2 a3 a4 x).l) ∧ Below X.heap.size X u) := fun ha X hX => by
        have z := implNote_any X bs bt bo ma mc bl a0 a1 a2 a3 a4 x.tm x.gd hbl (hmi.keep hX)
        rw [show noteR bs bt bo bl a0 a1 a2 a3 a4 x.tm x.gd = _ from noteR_step hst ha] at z
        exact z
      have HRUN : Hid (runT a0 a1 a2 a3 a4 (stepB ⟨bs, bt, bo, bl⟩ a0 a1 a2 a3 a4 x) (l.drop (k + 1)) (S0 ++ [(stepB ⟨bs, bt, bo, bl⟩ a0 a1 a2 a3 a4 x).s]) (A0 ++ [stepA ⟨bs, bt, bo, bl⟩ a0 a1 a2 a3 a4 x]) = (0, S, A) ∧ (S0 ++ [(stepB ⟨bs, bt, bo, bl⟩ a0 a1 a2 a3 a4 x).s]).length = k + 1 ∧ (A0 ++ [stepA ⟨bs, bt, bo, bl⟩ a0 a1 a2 a3 a4 x]).length = k + 1) := ⟨hrun', by rw [List.length_append, hS0]; rfl, by rw [List.length_append, hA0]; rfl⟩
      have HS4 : Hid (S4 wr M7 (.int .i64 bs) (.int .i64 bt) (.int .i64 bo) (.slice ma bl.length mc)) := h4
      have HBW : Hid (Below M7 w4 wr) := hb
      rw [er, es, ea]
      clear er es ea hst hsk hak hrun hrun' k1 k2 k3 hat has haa hmk hmi hbl hS0 hA0 h4 hb hx
      generalize stepA ⟨bs, bt, bo, bl⟩ a0 a1 a2 a3 a4 x = ga at *
      generalize A0 ++ [ga] = A1 at *
      obtain ⟨cs, ct, co, cl, hB⟩ : ∃ cs ct co cl, stepB ⟨bs, bt, bo, bl⟩ a0 a1 a2 a3 a4 x = ⟨cs, ct, co, cl⟩ := ⟨_, _, _, _, rfl⟩
      rw [hB] at HAll HM60 HCA HCN HRUN
      simp only at HAll HM60 HCA HCN HRUN
      generalize S0 ++ [cs] = S1 at *
      clear hB
      obtain ⟨xt, xa, xg⟩ := x
      simp only at p0 p1 p2 HAll HCA HCN
      generalize bl.length = bm at *
      generalize hcm : cl.length = cm at *
      have HCM : Hid (cl.length = cm) := hcm
      clear hcm
      have hnb : n ≤ 101 := HLE.out
      have g : (k : Int) < n := by omega
      have g0 : (0 : Int) ≤ k := by omega
      have HKS : Hid (∀ X, Below wr.heap.size wr X → X.cell? ⟨M7, 0, none⟩ = some (.int .i64 bs) ∧ X.cell? ⟨M7, 1, none⟩ = some (.int .i64 bt) ∧ X.cell? ⟨M7, 2, none⟩ = some (.int .i64 bo) ∧ X.cell? ⟨M7, 3, none⟩ = some (.slice ma bm mc) ∧ X.cell? ⟨M3, 0, none⟩ = some (.int .i64 a0) ∧ X.cell? ⟨M3, 1, none⟩ = some (.int .i64 a1) ∧ X.cell? ⟨M3, 2, none⟩ = some (.int .i64 a2) ∧ X.cell? ⟨M3, 3, none⟩ = some (.int .i64 a3) ∧ X.cell? ⟨M3, 4, none⟩ = some (.int .i64 a4) ∧ X.cell? ⟨tb, oo + k * 3, none⟩ = some (.int .i64 xt) ∧ X.cell? ⟨tb, oo + k * 3 + 1, none⟩ = some (.bool xa) ∧ X.cell? ⟨tb, oo + k * 3 + 2, none⟩ = some (.bool xg)) := fun X hX => by
        have z := (HAll.out X (HBW.out.trans (hX.mono (Nat.le_of_lt HS4.out.lt)))).2.2.2.2.2.2
        have q := HS4.out.keep hX
        exact ⟨q.c0, q.c1, q.c2, q.c3, z.1, z.2.1, z.2.2.1, z.2.2.2.1, z.2.2.2.2.1, z.2.2.2.2.2.1, z.2.2.2.2.2.2.1, z.2.2.2.2.2.2.2⟩
      cases xa
      · have HCA' := hidT (HCN.out rfl)
        clear HCA HCN
        have HCA := hidT HCA'.out
        clear HCA'
        go_upto_region 19 with fail
        go_cut [10] from 50 to 109 (fun s9 wx => ∃ X9 na nc, s9 = .pointer (some ⟨X9, 0, none⟩) ∧ C5 wx X9 (.int .i64 0) (.int .i64 cs) (.int .i64 ct) (.int .i64 co) (.slice na cm nc) ∧ S4 wx M7 (.int .i64 bs) (.int .i64 bt) (.int .i64 bo) (.slice ma bm mc) ∧ MkNew wx (M7 + 1) (.slice na cm nc) cl ∧ Below wr.heap.size wr wx ∧ M7 < X9)
        case first =>
          have B0 : Hid (Below wr.heap.size wr wr.drew) := (Below.refl _ _).drew
          have B1 : Hid (Below wr.heap.size wr (wr.alloc (.cells #[.int .i64 0, .int .i64 0, .int .i64 0, .int .i64 0, .slice none 0 0] 67)).drew) := ((Below.refl _ _).alloc (Nat.le_refl _) _).drew
          have ZA : Hid (C5 (wr.alloc (.cells #[.int .i64 0, .int .i64 0, .int .i64 0, .int .i64 0, .slice none 0 0] 67)).drew wr.heap.size (.int .i64 0) (.int .i64 0) (.int .i64 0) (.int .i64 0) (.slice none 0 0)) := (C5.new wr _ _ _ _ _ _).keep ((Below.refl _ _).drew)
          have hX9 : wr.heap.size ≠ M7 := by have := HS4.out.lt; omega
          go_region_held3 (fun X => X.cell? ⟨M7, 0, none⟩ = some (.int .i64 bs) ∧ X.cell? ⟨M7, 1, none⟩ = some (.int .i64 bt) ∧ X.cell? ⟨M7, 2, none⟩ = some (.int .i64 bo) ∧ X.cell? ⟨M7, 3, none⟩ = some (.slice ma bm mc) ∧ X.cell? ⟨M3, 0, none⟩ = some (.int .i64 a0) ∧ X.cell? ⟨M3, 1, none⟩ = some (.int .i64 a1) ∧ X.cell? ⟨M3, 2, none⟩ = some (.int .i64 a2) ∧ X.cell? ⟨M3, 3, none⟩ = some (.int .i64 a3) ∧ X.cell? ⟨M3, 4, none⟩ = some (.int .i64 a4) ∧ X.cell? ⟨tb, oo + k * 3, none⟩ = some (.int .i64 xt) ∧ X.cell? ⟨tb, oo + k * 3 + 1, none⟩ = some (.bool false) ∧ X.cell? ⟨tb, oo + k * 3 + 2, none⟩ = some (.bool xg))
            (first | ((with_reducible refine HKS.out _ ?_); (with_reducible exact BD.out)) | ((with_reducible refine HKS.out _ ?_); (with_reducible exact BU.out)) | ((with_reducible refine HKS.out _ ?_); (with_reducible exact B0.out)) | ((with_reducible refine HKS.out _ ?_); (with_reducible exact B1.out)) | ((with_reducible refine HKS.out _ ?_); (with_reducible exact (Below.refl _ _).alloc (Nat.le_refl _) _)) | ((with_reducible refine HKS.out _ ?_); (with_reducible exact BU.out.alloc BU.out.size _)))
            (first | (go_at_call 30; first
              | ((with_reducible refine (HCA.out (wr.alloc (.cells #[.int .i64 0, .int .i64 0, .int .i64 0, .int .i64 0, .slice none 0 0] 67)).drew B1.out).mono ?_); rintro e0 u ⟨⟨na, nc, rfl, mw⟩, hb⟩; have BU : Hid (Below wr.heap.size wr u) := B1.out.trans (hb.mono B1.out.size); have hX : wr.heap.size < (wr.alloc (.cells #[.int .i64 0, .int .i64 0, .int .i64 0, .int .i64 0, .slice none 0 0] 67)).drew.heap.size := ZA.out.lt; have BD : Hid (Below wr.heap.size wr (((((u.setCell ⟨wr.heap.size, 0, none⟩ (.int .i64 0)).setCell ⟨wr.heap.size, 1, none⟩ (.int .i64 cs)).setCell ⟨wr.heap.size, 2, none⟩ (.int .i64 ct)).setCell ⟨wr.heap.size, 3, none⟩ (.int .i64 co)).setCell ⟨wr.heap.size, 4, none⟩ (.slice na cm nc))) := (((((BU.out.setCell (Nat.le_refl _) _).setCell (Nat.le_refl _) _).setCell (Nat.le_refl _) _).setCell (Nat.le_refl _) _).setCell (Nat.le_refl _) _); have FIN : Hid (C5 (((((u.setCell ⟨wr.heap.size, 0, none⟩ (.int .i64 0)).setCell ⟨wr.heap.size, 1, none⟩ (.int .i64 cs)).setCell ⟨wr.heap.size, 2, none⟩ (.int .i64 ct)).setCell ⟨wr.heap.size, 3, none⟩ (.int .i64 co)).setCell ⟨wr.heap.size, 4, none⟩ (.slice na cm nc)) wr.heap.size (.int .i64 0) (.int .i64 cs) (.int .i64 ct) (.int .i64 co) (.slice na cm nc) ∧ S4 (((((u.setCell ⟨wr.heap.size, 0, none⟩ (.int .i64 0)).setCell ⟨wr.heap.size, 1, none⟩ (.int .i64 cs)).setCell ⟨wr.heap.size, 2, none⟩ (.int .i64 ct)).setCell ⟨wr.heap.size, 3, none⟩ (.int .i64 co)).setCell ⟨wr.heap.size, 4, none⟩ (.slice na cm nc)) M7 (.int .i64 bs) (.int .i64 bt) (.int .i64 bo) (.slice ma bm mc) ∧ MkNew (((((u.setCell ⟨wr.heap.size, 0, none⟩ (.int .i64 0)).setCell ⟨wr.heap.size, 1, none⟩ (.int .i64 cs)).setCell ⟨wr.heap.size, 2, none⟩ (.int .i64 ct)).setCell ⟨wr.heap.size, 3, none⟩ (.int .i64 co)).setCell ⟨wr.heap.size, 4, none⟩ (.slice na cm nc)) (M7 + 1) (.slice na cm nc) cl ∧ Below wr.heap.size wr (((((u.setCell ⟨wr.heap.size, 0, none⟩ (.int .i64 0)).setCell ⟨wr.heap.size, 1, none⟩ (.int .i64 cs)).setCell ⟨wr.heap.size, 2, none⟩ (.int .i64 ct)).setCell ⟨wr.heap.size, 3, none⟩ (.int .i64 co)).setCell ⟨wr.heap.size, 4, none⟩ (.slice na cm nc)) ∧ M7 < wr.heap.size) := ⟨(ZA.out.keep hb).put _ _ _ _ _, ((((((HS4.out.low BU.out HS4.out.lt).off hX9).off hX9).off hX9).off hX9).off hX9), (((((mw.gb2 (gbSet _ _ _ _) hX).gb2 (gbSet _ _ _ _) hX).gb2 (gbSet _ _ _ _) hX).gb2 (gbSet _ _ _ _) hX).gb2 (gbSet _ _ _ _) hX).lower (Nat.le_of_lt (Nat.lt_of_le_of_lt HS4.out.lt hX)), BD.out, HS4.out.lt⟩; obtain ⟨zz0, zz1, zz2, zz3, zz4, zf, _⟩ := ZA.out.keep hb; have zf0 := zf 0; have zf1 := zf 1; have zf2 := zf 2; have zf3 := zf 3; have zf4 := zf 4; clear zf hb mw hX)
              | ((with_reducible refine (HCA.out wr.drew B0.out).mono ?_); rintro e0 u ⟨⟨na, nc, rfl, mw⟩, hb⟩; have BU : Hid (Below wr.heap.size wr u) := B0.out.trans (hb.mono B0.out.size); have BD : Hid (Below wr.heap.size wr (u.alloc (.cells #[.int .i64 0, .int .i64 cs, .int .i64 ct, .int .i64 co, .slice na cm nc] 67))) := BU.out.alloc BU.out.size _; have FIN : Hid (C5 (u.alloc (.cells #[.int .i64 0, .int .i64 cs, .int .i64 ct, .int .i64 co, .slice na cm nc] 67)) u.heap.size (.int .i64 0) (.int .i64 cs) (.int .i64 ct) (.int .i64 co) (.slice na cm nc) ∧ S4 (u.alloc (.cells #[.int .i64 0, .int .i64 cs, .int .i64 ct, .int .i64 co, .slice na cm nc] 67)) M7 (.int .i64 bs) (.int .i64 bt) (.int .i64 bo) (.slice ma bm mc) ∧ MkNew (u.alloc (.cells #[.int .i64 0, .int .i64 cs, .int .i64 ct, .int .i64 co, .slice na cm nc] 67)) (M7 + 1) (.slice na cm nc) cl ∧ Below wr.heap.size wr (u.alloc (.cells #[.int .i64 0, .int .i64 cs, .int .i64 ct, .int .i64 co, .slice na cm nc] 67)) ∧ M7 < u.heap.size) := ⟨C5.new u _ _ _ _ _ _, (HS4.out.keep BU.out).keep ((Below.refl _ _).alloc (Nat.le_refl _) _), (mw.lower (Nat.le_trans HS4.out.lt B0.out.size)).keep ((Below.refl _ _).alloc (Nat.le_refl _) _), BD.out, Nat.lt_of_lt_of_le HS4.out.lt BU.out.size⟩; clear hb mw)))
          all_goals (go_wp2_with fail; go_meet; exact ⟨_, na, nc, rfl, FIN.out⟩)
        case rest =>
          obtain ⟨X9, na, nc, rfl, f1, f2, f3, f4, f5⟩ := hcut
          have HF : Hid (∀ X, Below wc.heap.size wc X → C5 X X9 (.int .i64 0) (.int .i64 cs) (.int .i64 ct) (.int .i64 co) (.slice na cm nc) ∧ S4 X M7 (.int .i64 bs) (.int .i64 bt) (.int .i64 bo) (.slice ma bm mc) ∧ MkNew X (M7 + 1) (.slice na cm nc) cl ∧ Below M7 w4 X) := fun X hX => ⟨f1.keep hX, f2.keep hX, f3.keep hX, (HBW.out.trans (f4.mono (Nat.le_of_lt HS4.out.lt))).trans (hX.mono (Nat.le_of_lt f2.lt))⟩
          have hne : ¬ X9 = M7 := by omega
          have hne2 : ¬ M7 = X9 := by omega
          clear HKS HCA HBW HS4 f1 f2 f3 f4 f5 p0 p1 p2
          generalize wc = u at *
          clear wr
          have HF2 := hidT HF.out
          clear HF
          generalize u = u2 at *
          obtain ⟨z0, z1, z2, z3, z4, _, _⟩ := (HF2.out _ (Below.refl _ _)).1
          obtain ⟨m0, m1, m2, m3, mf, ml⟩ := (HF2.out _ (Below.refl _ _)).2.1
          have mf0 := mf 0
          have mf1 := mf 1
          have mf2 := mf 2
          have mf3 := mf 3
          clear mf
          obtain ⟨u3, hu3⟩ : ∃ X, Hid (X = ((((u2.setCell ⟨M7, 0, none⟩ (.int .i64 cs)).setCell ⟨M7, 1, none⟩ (.int .i64 ct)).setCell ⟨M7, 2, none⟩ (.int .i64 co)).setCell ⟨M7, 3, none⟩ (.slice na cm nc))) := ⟨_, rfl⟩
          have F3 : Hid (S4 u3 M7 (.int .i64 cs) (.int .i64 ct) (.int .i64 co) (.slice na cm nc) ∧ MkNew u3 (M7 + 1) (.slice na cm nc) cl ∧ Below M7 w4 u3) := by
            obtain ⟨q1, q2, q3, q4⟩ := HF2.out _ (Below.refl _ _)
            rw [hu3.out]
            exact ⟨(((q2.set0 _).set1 _).set2 _).set3 _, (((q3.gb2 (gbSet _ _ _ _) (Nat.lt_succ_self _)).gb2 (gbSet _ _ _ _) (Nat.lt_succ_self _)).gb2 (gbSet _ _ _ _) (Nat.lt_succ_self _)).gb2 (gbSet _ _ _ _) (Nat.lt_succ_self _), (((q4.setCell (Nat.le_refl _) _).setCell (Nat.le_refl _) _).setCell (Nat.le_refl _) _).setCell (Nat.le_refl _) _⟩
          clear HF2
          go_upto_region 23 with fail
          rw [← hu3.out]
          clear hu3 m0 m1 m2 m3 ml mf0 mf1 mf2 mf3 z0 z1 z2 z3 z4
          have y := HAll.out u3 F3.out.2.2
          have x0 := cell_regrown F3.out.1.c0
          have y1 := cell_regrown y.2.2.1
          have y3 := cell_regrown y.2.2.2.2.1
          clear y
          go_wp2_with fail
          refine wp_region_quiet_below (by kernel_rfl) (by kernel_rfl) ?_
          repeat (go_big_quiet_step (fail))
          refine wpQuiet_nil ?_
          intro u4 hw4
          have F4 : Hid (S4 u4 M7 (.int .i64 cs) (.int .i64 ct) (.int .i64 co) (.slice na cm nc) ∧ MkNew u4 (M7 + 1) (.slice na cm nc) cl ∧ Below M7 w4 u4) := by
            obtain ⟨⟨d, os⟩, rfl⟩ := hw4
            have b := below_regrown u3 d os
            obtain ⟨q1, q2, q3⟩ := F3.out
            exact ⟨q1.keep b, q2.keep b, q3.trans (b.mono (Nat.le_of_lt q1.lt))⟩
          clear hw4 x0 y1 y3 F3
          go_wp2_with fail
          go_roundw
          case rel => exact ⟨k + 1, cs, ct, co, cl, na, nc, S1, A1, by omega, by go_num, F4.out.2.2, HCM.out.symm ▸ F4.out.1, HCM.out.symm ▸ F4.out.2.1, HCM.out.symm ▸ HM60.out, HRUN.out.2.1, HRUN.out.2.2, HRUN.out.1⟩
          case measure => simp [intOf]; omega
      · have HCA' := hidT (HCA.out rfl)
        clear HCA HCN
        have HCA := hidT HCA'.out
        clear HCA'
        go_upto_region 15 with fail
        go_cut [9] from 50 to 109 (fun s9 wx => ∃ X9 na nc, s9 = .pointer (some ⟨X9, 0, none⟩) ∧ C6 wx X9 (.int .i64 0) (.int .i64 cs) (.int .i64 ct) (.int .i64 co) (.slice na cm nc) (.bool ga) ∧ S4 wx M7 (.int .i64 bs) (.int .i64 bt) (.int .i64 bo) (.slice ma bm mc) ∧ MkNew wx (M7 + 1) (.slice na cm nc) cl ∧ Below wr.heap.size wr wx ∧ M7 < X9)
        case first =>
          have B0 : Hid (Below wr.heap.size wr wr.drew) := (Below.refl _ _).drew
          have B1 : Hid (Below wr.heap.size wr (wr.alloc (.cells #[.int .i64 0, .int .i64 0, .int .i64 0, .int .i64 0, .slice none 0 0, .bool false] 64)).drew) := ((Below.refl _ _).alloc (Nat.le_refl _) _).drew
          have ZA : Hid (C6 (wr.alloc (.cells #[.int .i64 0, .int .i64 0, .int .i64 0, .int .i64 0, .slice none 0 0, .bool false] 64)).drew wr.heap.size (.int .i64 0) (.int .i64 0) (.int .i64 0) (.int .i64 0) (.slice none 0 0) (.bool false)) := (C6.new wr _ _ _ _ _ _ _).keep ((Below.refl _ _).drew)
          have hX9 : wr.heap.size ≠ M7 := by have := HS4.out.lt; omega
          go_region_held3 (fun X => X.cell? ⟨M7, 0, none⟩ = some (.int .i64 bs) ∧ X.cell? ⟨M7, 1, none⟩ = some (.int .i64 bt) ∧ X.cell? ⟨M7, 2, none⟩ = some (.int .i64 bo) ∧ X.cell? ⟨M7, 3, none⟩ = some (.slice ma bm mc) ∧ X.cell? ⟨M3, 0, none⟩ = some (.int .i64 a0) ∧ X.cell? ⟨M3, 1, none⟩ = some (.int .i64 a1) ∧ X.cell? ⟨M3, 2, none⟩ = some (.int .i64 a2) ∧ X.cell? ⟨M3, 3, none⟩ = some (.int .i64 a3) ∧ X.cell? ⟨M3, 4, none⟩ = some (.int .i64 a4) ∧ X.cell? ⟨tb, oo + k * 3, none⟩ = some (.int .i64 xt) ∧ X.cell? ⟨tb, oo + k * 3 + 1, none⟩ = some (.bool true) ∧ X.cell? ⟨tb, oo + k * 3 + 2, none⟩ = some (.bool xg))
            (first | ((with_reducible refine HKS.out _ ?_); (with_reducible exact BD.out)) | ((with_reducible refine HKS.out _ ?_); (with_reducible exact BU.out)) | ((with_reducible refine HKS.out _ ?_); (with_reducible exact B0.out)) | ((with_reducible refine HKS.out _ ?_); (with_reducible exact B1.out)) | ((with_reducible refine HKS.out _ ?_); (with_reducible exact (Below.refl _ _).alloc (Nat.le_refl _) _)) | ((with_reducible refine HKS.out _ ?_); (with_reducible exact BU.out.alloc BU.out.size _)))
            (first | (go_at_call 29; first
              | ((with_reducible refine (HCA.out (wr.alloc (.cells #[.int .i64 0, .int .i64 0, .int .i64 0, .int .i64 0, .slice none 0 0, .bool false] 64)).drew B1.out).mono ?_); rintro e0 u ⟨⟨na, nc, rfl, mw⟩, hb⟩; have BU : Hid (Below wr.heap.size wr u) := B1.out.trans (hb.mono B1.out.size); have hX : wr.heap.size < (wr.alloc (.cells #[.int .i64 0, .int .i64 0, .int .i64 0, .int .i64 0, .slice none 0 0, .bool false] 64)).drew.heap.size := ZA.out.lt; have BD : Hid (Below wr.heap.size wr ((((((u.setCell ⟨wr.heap.size, 0, none⟩ (.int .i64 0)).setCell ⟨wr.heap.size, 1, none⟩ (.int .i64 cs)).setCell ⟨wr.heap.size, 2, none⟩ (.int .i64 ct)).setCell ⟨wr.heap.size, 3, none⟩ (.int .i64 co)).setCell ⟨wr.heap.size, 4, none⟩ (.slice na cm nc)).setCell ⟨wr.heap.size, 5, none⟩ (.bool ga))) := ((((((BU.out.setCell (Nat.le_refl _) _).setCell (Nat.le_refl _) _).setCell (Nat.le_refl _) _).setCell (Nat.le_refl _) _).setCell (Nat.le_refl _) _).setCell (Nat.le_refl _) _); have FIN : Hid (C6 ((((((u.setCell ⟨wr.heap.size, 0, none⟩ (.int .i64 0)).setCell ⟨wr.heap.size, 1, none⟩ (.int .i64 cs)).setCell ⟨wr.heap.size, 2, none⟩ (.int .i64 ct)).setCell ⟨wr.heap.size, 3, none⟩ (.int .i64 co)).setCell ⟨wr.heap.size, 4, none⟩ (.slice na cm nc)).setCell ⟨wr.heap.size, 5, none⟩ (.bool ga)) wr.heap.size (.int .i64 0) (.int .i64 cs) (.int .i64 ct) (.int .i64 co) (.slice na cm nc) (.bool ga) ∧ S4 ((((((u.setCell ⟨wr.heap.size, 0, none⟩ (.int .i64 0)).setCell ⟨wr.heap.size, 1, none⟩ (.int .i64 cs)).setCell ⟨wr.heap.size, 2, none⟩ (.int .i64 ct)).setCell ⟨wr.heap.size, 3, none⟩ (.int .i64 co)).setCell ⟨wr.heap.size, 4, none⟩ (.slice na cm nc)).setCell ⟨wr.heap.size, 5, none⟩ (.bool ga)) M7 (.int .i64 bs) (.int .i64 bt) (.int .i64 bo) (.slice ma bm mc) ∧ MkNew ((((((u.setCell ⟨wr.heap.size, 0, none⟩ (.int .i64 0)).setCell ⟨wr.heap.size, 1, none⟩ (.int .i64 cs)).setCell ⟨wr.heap.size, 2, none⟩ (.int .i64 ct)).setCell ⟨wr.heap.size, 3, none⟩ (.int .i64 co)).setCell ⟨wr.heap.size, 4, none⟩ (.slice na cm nc)).setCell ⟨wr.heap.size, 5, none⟩ (.bool ga)) (M7 + 1) (.slice na cm nc) cl ∧ Below wr.heap.size wr ((((((u.setCell ⟨wr.heap.size, 0, none⟩ (.int .i64 0)).setCell ⟨wr.heap.size, 1, none⟩ (.int .i64 cs)).setCell ⟨wr.heap.size, 2, none⟩ (.int .i64 ct)).setCell ⟨wr.heap.size, 3, none⟩ (.int .i64 co)).setCell ⟨wr.heap.size, 4, none⟩ (.slice na cm nc)).setCell ⟨wr.heap.size, 5, none⟩ (.bool ga)) ∧ M7 < wr.heap.size) := ⟨(ZA.out.keep hb).put _ _ _ _ _ _, (((((((HS4.out.low BU.out HS4.out.lt).off hX9).off hX9).off hX9).off hX9).off hX9).off hX9), ((((((mw.gb2 (gbSet _ _ _ _) hX).gb2 (gbSet _ _ _ _) hX).gb2 (gbSet _ _ _ _) hX).gb2 (gbSet _ _ _ _) hX).gb2 (gbSet _ _ _ _) hX).gb2 (gbSet _ _ _ _) hX).lower (Nat.le_of_lt (Nat.lt_of_le_of_lt HS4.out.lt hX)), BD.out, HS4.out.lt⟩; obtain ⟨zz0, zz1, zz2, zz3, zz4, zz5, zf, _⟩ := ZA.out.keep hb; have zf0 := zf 0; have zf1 := zf 1; have zf2 := zf 2; have zf3 := zf 3; have zf4 := zf 4; have zf5 := zf 5; clear zf hb mw hX)
              | ((with_reducible refine (HCA.out wr.drew B0.out).mono ?_); rintro e0 u ⟨⟨na, nc, rfl, mw⟩, hb⟩; have BU : Hid (Below wr.heap.size wr u) := B0.out.trans (hb.mono B0.out.size); have BD : Hid (Below wr.heap.size wr (u.alloc (.cells #[.int .i64 0, .int .i64 cs, .int .i64 ct, .int .i64 co, .slice na cm nc, .bool ga] 64))) := BU.out.alloc BU.out.size _; have FIN : Hid (C6 (u.alloc (.cells #[.int .i64 0, .int .i64 cs, .int .i64 ct, .int .i64 co, .slice na cm nc, .bool ga] 64)) u.heap.size (.int .i64 0) (.int .i64 cs) (.int .i64 ct) (.int .i64 co) (.slice na cm nc) (.bool ga) ∧ S4 (u.alloc (.cells #[.int .i64 0, .int .i64 cs, .int .i64 ct, .int .i64 co, .slice na cm nc, .bool ga] 64)) M7 (.int .i64 bs) (.int .i64 bt) (.int .i64 bo) (.slice ma bm mc) ∧ MkNew (u.alloc (.cells #[.int .i64 0, .int .i64 cs, .int .i64 ct, .int .i64 co, .slice na cm nc, .bool ga] 64)) (M7 + 1) (.slice na cm nc) cl ∧ Below wr.heap.size wr (u.alloc (.cells #[.int .i64 0, .int .i64 cs, .int .i64 ct, .int .i64 co, .slice na cm nc, .bool ga] 64)) ∧ M7 < u.heap.size) := ⟨C6.new u _ _ _ _ _ _ _, (HS4.out.keep BU.out).keep ((Below.refl _ _).alloc (Nat.le_refl _) _), (mw.lower (Nat.le_trans HS4.out.lt B0.out.size)).keep ((Below.refl _ _).alloc (Nat.le_refl _) _), BD.out, Nat.lt_of_lt_of_le HS4.out.lt BU.out.size⟩; clear hb mw)))
          all_goals (go_wp2_with fail; go_meet; exact ⟨_, na, nc, rfl, FIN.out⟩)
        case rest =>
          obtain ⟨X9, na, nc, rfl, f1, f2, f3, f4, f5⟩ := hcut
          have HF : Hid (∀ X, Below wc.heap.size wc X → C6 X X9 (.int .i64 0) (.int .i64 cs) (.int .i64 ct) (.int .i64 co) (.slice na cm nc) (.bool ga) ∧ S4 X M7 (.int .i64 bs) (.int .i64 bt) (.int .i64 bo) (.slice ma bm mc) ∧ MkNew X (M7 + 1) (.slice na cm nc) cl ∧ Below M7 w4 X) := fun X hX => ⟨f1.keep hX, f2.keep hX, f3.keep hX, (HBW.out.trans (f4.mono (Nat.le_of_lt HS4.out.lt))).trans (hX.mono (Nat.le_of_lt f2.lt))⟩
          have hne : ¬ X9 = M7 := by omega
          have hne2 : ¬ M7 = X9 := by omega
          clear HKS HCA HBW HS4 f1 f2 f3 f4 f5 p0 p1 p2
          generalize wc = u at *
          clear wr
          obtain ⟨z0, z1, z2, z3, z4, z5, _, _⟩ := (HF.out _ (Below.refl _ _)).1
          have y := HAll.out u (HF.out _ (Below.refl _ _)).2.2.2
          have x0 := cell_regrown z0
          have x5 := cell_regrown z5
          have y2 := cell_regrown y.2.2.2.1
          have y4 := cell_regrown y.2.2.2.2.2.1
          clear z0 z1 z2 z3 z4 z5 y
          go_wp2_with fail
          refine wp_region_quiet_below (by kernel_rfl) (by kernel_rfl) ?_
          repeat (go_big_quiet_step (fail))
          refine wpQuiet_nil ?_
          intro u2 hw2
          have HF2 : Hid (∀ X, Below u2.heap.size u2 X → C6 X X9 (.int .i64 0) (.int .i64 cs) (.int .i64 ct) (.int .i64 co) (.slice na cm nc) (.bool ga) ∧ S4 X M7 (.int .i64 bs) (.int .i64 bt) (.int .i64 bo) (.slice ma bm mc) ∧ MkNew X (M7 + 1) (.slice na cm nc) cl ∧ Below M7 w4 X) := fun X hX => by
            obtain ⟨⟨d, os⟩, rfl⟩ := hw2
            have b := below_regrown u d os
            exact HF.out X (b.trans (hX.mono b.size))
          clear hw2 x0 x5 y2 y4 HF
          obtain ⟨z0, z1, z2, z3, z4, z5, _, _⟩ := (HF2.out _ (Below.refl _ _)).1
          obtain ⟨m0, m1, m2, m3, mf, ml⟩ := (HF2.out _ (Below.refl _ _)).2.1
          have mf0 := mf 0
          have mf1 := mf 1
          have mf2 := mf 2
          have mf3 := mf 3
          clear mf
          obtain ⟨u3, hu3⟩ : ∃ X, Hid (X = ((((u2.setCell ⟨M7, 0, none⟩ (.int .i64 cs)).setCell ⟨M7, 1, none⟩ (.int .i64 ct)).setCell ⟨M7, 2, none⟩ (.int .i64 co)).setCell ⟨M7, 3, none⟩ (.slice na cm nc))) := ⟨_, rfl⟩
          have F3 : Hid (S4 u3 M7 (.int .i64 cs) (.int .i64 ct) (.int .i64 co) (.slice na cm nc) ∧ MkNew u3 (M7 + 1) (.slice na cm nc) cl ∧ Below M7 w4 u3) := by
            obtain ⟨q1, q2, q3, q4⟩ := HF2.out _ (Below.refl _ _)
            rw [hu3.out]
            exact ⟨(((q2.set0 _).set1 _).set2 _).set3 _, (((q3.gb2 (gbSet _ _ _ _) (Nat.lt_succ_self _)).gb2 (gbSet _ _ _ _) (Nat.lt_succ_self _)).gb2 (gbSet _ _ _ _) (Nat.lt_succ_self _)).gb2 (gbSet _ _ _ _) (Nat.lt_succ_self _), (((q4.setCell (Nat.le_refl _) _).setCell (Nat.le_refl _) _).setCell (Nat.le_refl _) _).setCell (Nat.le_refl _) _⟩
          clear HF2
          go_upto_region 23 with fail
          rw [← hu3.out]
          clear hu3 m0 m1 m2 m3 ml mf0 mf1 mf2 mf3 z0 z1 z2 z3 z4 z5
          have y := HAll.out u3 F3.out.2.2
          have x0 := cell_regrown F3.out.1.c0
          have y1 := cell_regrown y.2.2.1
          have y3 := cell_regrown y.2.2.2.2.1
          clear y
          go_wp2_with fail
          refine wp_region_quiet_below (by kernel_rfl) (by kernel_rfl) ?_
          repeat (go_big_quiet_step (fail))
          refine wpQuiet_nil ?_
          intro u4 hw4
          have F4 : Hid (S4 u4 M7 (.int .i64 cs) (.int .i64 ct) (.int .i64 co) (.slice na cm nc) ∧ MkNew u4 (M7 + 1) (.slice na cm nc) cl ∧ Below M7 w4 u4) := by
            obtain ⟨⟨d, os⟩, rfl⟩ := hw4
            have b := below_regrown u3 d os
            obtain ⟨q1, q2, q3⟩ := F3.out
            exact ⟨q1.keep b, q2.keep b, q3.trans (b.mono (Nat.le_of_lt q1.lt))⟩
          clear hw4 x0 y1 y3 F3
          go_wp2_with fail
          go_roundw
          case rel => exact ⟨k + 1, cs, ct, co, cl, na, nc, S1, A1, by omega, by go_num, F4.out.2.2, HCM.out.symm ▸ F4.out.1, HCM.out.symm ▸ F4.out.2.1, HCM.out.symm ▸ HM60.out, HRUN.out.2.1, HRUN.out.2.2, HRUN.out.1⟩
          case measure => simp [intOf]; omega
    · have HF : Hid (n = n) := rfl
      have HB : Hid (Below w.heap.size w wr) := (HK.out wr hb).1
      obtain ⟨d0, d1, d2, _, _⟩ := (HK.out wr hb).2.2.1
      clear hrun
      go_wp2_with fail
      go_ret
      exact ⟨rfl, HB.out⟩
end traces
end Go.Proofs.Ytglbffjeakcgcaa
