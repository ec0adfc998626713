/-
  NoteOutcome, by the model: the marks that it leaves lie in a row of their own.
-/
import Derived.Test.YtmgidcigihpbeaaNoteP
import Derived.Test.YtmgidcigihpbeaaNoteW
import Derived.Test.YtmgidcigihpbeaaAllowF
import Derived.Lib.QuietBelow
import Derived.BigQuiet
import Derived.Deep.CutRange
namespace Go.Proofs.Ytmgidcigihpbeaa
open Go.ChangeShapes Go.WideShapes Go.ChangeAt Go.RowKit Go.Sort
theorem OwnMk.offB {B : Nat} {w w' : World} {base : Nat} {v : Value} {l : List Mk} (h : OwnMk w base v l) (k : w.grownBy w' (Option.some B)) (hB : B < base) : OwnMk w' base v l := World.ownsRow.kept h k (by
  cases e : v.ownBlock with
  | none => exact .inl rfl
  | some q => right; intro e2; have := row_ge h q e; have := Option.some.inj e2; omega)
def NoteTO (w : World) (base B : Nat) (q : Bk) : Prop := ∃ a c, S4 w B (.int .i64 q.s) (.int .i64 q.t) (.int .i64 q.o) (.slice a q.l.length c) ∧ OwnMk w base (.slice a q.l.length c) q.l
set_option maxRecDepth 100000 in
set_option maxHeartbeats 32000000 in
theorem specTurnO_any (w : World) (base B R : Nat) (hBb : B < base) (hbase : base ≤ w.heap.size) (hne : R ≠ B) (s t o : Int) (a : Option Addr) (cap : Nat) (l : List Mk) (a0 a1 a2 a3 a4 now : Int) (good : Bool) (h59 : l.length ≤ 59) (hG : Good s t o l a0 a1 a2 a3 a4 now) (hB : S4 w B (.int .i64 s) (.int .i64 t) (.int .i64 o) (.slice a l.length cap)) (hR : S5 w R (.int .i64 a0) (.int .i64 a1) (.int .i64 a2) (.int .i64 a3) (.int .i64 a4)) (hi : OwnMk w base (.slice a l.length cap) l) :
    Calls Try.prog 74 #[.pointer (some ⟨B, 0, none⟩), .pointer (some ⟨R, 0, none⟩), .int .i64 now, .bool good] w fun e w' => e = .returned (.tuple #[]) ∧ NoteTO w' base B (noteV s t o l a0 a1 a2 now good) ∧ w.grownBy w' (some B) := by
  have HOI : Hid (OwnMk w base (.slice a l.length cap) l) := hi
  have HBb : Hid (B < base) := hBb
  have HBS : Hid (base ≤ w.heap.size) := hbase
  clear hBb hbase
  have HSB : Hid (S4 w B (.int .i64 s) (.int .i64 t) (.int .i64 o) (.slice a l.length cap)) := hB
  rcases hG.hs with rfl | rfl | rfl
  rotate_left
  · have hl := hG.hl0 (by decide)
    subst hl
    have HE : Hid (noteV 1 t o [] a0 a1 a2 now good = ⟨1, t, o, []⟩) := by show _ = _; simp [noteV]
    rw [HE.out]
    clear hG
    obtain ⟨c0, c1, c2, c3, fr, _⟩ := hB
    go_enter Try.func74, Try.ntmps74
    go_wp2_with fail
    exact bodyPost_ret (v := .tuple #[]) (results_none rfl _ _ _) rfl ⟨rfl, ⟨a, cap, HSB.out, HOI.out⟩, gbRefl _ _⟩
  · have hl := hG.hl0 (by decide)
    subst hl
    clear hG
    obtain ⟨c0, c1, c2, c3, fr, _⟩ := hB
    have f0 := fr 0
    have f1 := fr 1
    have f2 := fr 2
    cases good
    · have HE : Hid (noteV 2 t o [] a0 a1 a2 now false = ⟨1, now, 0, []⟩) := by show _ = _; simp [noteV]
      rw [HE.out]
      go_enter Try.func74, Try.ntmps74
      go_wp2_with fail
      exact bodyPost_ret (v := .tuple #[]) (results_none rfl _ _ _) rfl ⟨rfl, ⟨a, cap, (((HSB.out.set0 _).set0 _).set1 _).set2 _, (((HOI.out.offB (gbSet _ _ _ _) HBb.out).offB (gbSet _ _ _ _) HBb.out).offB (gbSet _ _ _ _) HBb.out).offB (gbSet _ _ _ _) HBb.out⟩, gbTrans (gbTrans (gbTrans (gbSet _ _ _ _) (gbSet _ _ _ _)) (gbSet _ _ _ _)) (gbSet _ _ _ _)⟩
    · have HE : Hid (noteV 2 t o [] a0 a1 a2 now true = ⟨0, t, 0, []⟩) := by show _ = _; simp [noteV]
      rw [HE.out]
      go_enter Try.func74, Try.ntmps74
      go_wp2_with fail
      exact bodyPost_ret (v := .tuple #[]) (results_none rfl _ _ _) rfl ⟨rfl, ⟨a, cap, (HSB.out.set0 _).set2 _, (HOI.out.offB (gbSet _ _ _ _) HBb.out).offB (gbSet _ _ _ _) HBb.out⟩, gbTrans (gbSet _ _ _ _) (gbSet _ _ _ _)⟩
  have HNR : Hid (R ≠ B) := hne
  have HBL : Hid (B < w.heap.size) := hB.lt
  have HRL : Hid (R < w.heap.size) := hR.lt
  have HR2 : Hid (1 ≤ a2 ∧ a2 ≤ 1000) := hG.hr2
  have HSR : Hid (S5 w R (.int .i64 a0) (.int .i64 a1) (.int .i64 a2) (.int .i64 a3) (.int .i64 a4)) := hR
  have HI : Hid (MkIn w a l) := (by obtain ⟨x, y, e, _, hin⟩ := hi.in; simp only [Value.slice.injEq] at e; rw [e.1]; exact hin)
  have HTS : Hid (∀ (i : Nat) x, l[i]? = some x → 0 ≤ x.tm ∧ x.tm ≤ 1000000000000000) := hG.hts
  have HAD : Hid (∀ x w, 0 ≤ x → x ≤ 1000000000000000 → Calls Try.prog 49 #[.int .i64 x, .int .i64 a0] w fun r w' => r = .returned (.int .i64 (addT x a0)) ∧ Below w.heap.size w w') := fun x w h1 h2 => (l1Add_all x a0 ⟨h1, h2⟩ ⟨by have := hG.hr0; omega, by have := hG.hr0; omega⟩ w).mono fun _ _ ⟨e, e2⟩ => ⟨e, by rw [e2]; exact Below.refl _ _⟩
  have hl := h59
  obtain ⟨c0, c1, c2, c3, fr, _⟩ := hB
  have HO0 : Hid (OwnMk (w.alloc (.cells #[] 112)) w.heap.size (.slice (some ⟨w.heap.size, 0, none⟩) 0 0) []) := OwnMk.made0 w w.heap.size (Nat.le_refl _)
  have HB0 : Hid (Below w.heap.size w (w.alloc (.cells #[] 112))) := (Below.refl _ _).alloc (Nat.le_refl _) _
  obtain ⟨nl, hnl⟩ : ∃ nl, noteL l a0 now good = nl := ⟨_, rfl⟩
  have HNL : Hid (nl = if 60 < (cntL a0 now l ++ [(⟨now, good⟩ : Mk)]).length then (cntL a0 now l ++ [(⟨now, good⟩ : Mk)]).drop 1 else cntL a0 now l ++ [(⟨now, good⟩ : Mk)]) := by show _ = _; rw [← hnl]; rfl
  have HNV1 : Hid (tooB nl a1 a2 = true → noteV 0 t o l a0 a1 a2 now good = ⟨1, now, o, []⟩) := fun h => by rw [← hnl] at h; simp [noteV, h]
  have HNV0 : Hid (tooB nl a1 a2 = false → noteV 0 t o l a0 a1 a2 now good = ⟨0, t, o, nl⟩) := fun h => by rw [← hnl] at h ⊢; simp [noteV, h]
  clear hR hi hG hne hnl HOI HBb h59
  generalize noteV 0 t o l a0 a1 a2 now good = nv at *
  obtain ⟨n, hn⟩ : ∃ n, l.length = n := ⟨_, rfl⟩
  have HN : Hid (l.length = n) := hn
  rw [hn] at hl c3 HSB
  clear hn
  go_enter Try.func74, Try.ntmps74
  go_wp2_with fail
  go_loopw [8, 9] (fun v i wr => ∃ k : Nat, k ≤ n ∧ i = .int .i64 k ∧ OwnMk wr w.heap.size v (cntL a0 now (l.take k)) ∧ Below w.heap.size w wr) (fun _ i _ => n - (intOf i).toNat)
  case atStart => exact ⟨0, Nat.zero_le _, rfl, HO0.out, HB0.out⟩
  case round =>
    obtain ⟨k, hk, rfl, ho, hb⟩ := hrel
    clear c0 c1 c2 c3 fr
    have HKr : Hid (S4 wr B (.int .i64 0) (.int .i64 t) (.int .i64 o) (.slice a n cap) ∧ S5 wr R (.int .i64 a0) (.int .i64 a1) (.int .i64 a2) (.int .i64 a3) (.int .i64 a4)) := ⟨HSB.out.keep hb, HSR.out.keep hb⟩
    obtain ⟨c0, c1, c2, c3, fr, _⟩ := HKr.out.1
    obtain ⟨d0, d1, d2, d3, d4, fd, _⟩ := HKr.out.2
    have hbs := hb.size
    by_cases hlt : k < n
    · obtain ⟨r, hr⟩ : ∃ r, l[k]? = some r := ⟨l[k]'(by have := HN.out; omega), List.getElem?_eq_getElem _⟩
      rcases (HI.out.keep hb) with h | ⟨b, off, rfl, hat⟩
      · subst h; simp at hr
      obtain ⟨p0, p1⟩ := hat k r hr
      obtain ⟨t0, t1⟩ := HTS.out k r hr
      have cA : ∀ d os, Calls Try.prog 49 #[.int .i64 r.tm, .int .i64 a0] (grow (redrawn wr d) os) fun e w'' => e = .returned (.int .i64 (addT r.tm a0)) ∧ ∃ p : Regrown, w'' = grow (redrawn wr p.d) p.os := fun d os => Calls.regrown_of (HAD.out _ _ t0 t1)
      have HX := cntL_take a0 now hr
      have hcl : (cntL a0 now (l.take k)).length ≤ 60 := by have := cntL_le a0 now (l.take k); have := List.length_take_le k l; have := HN.out; simp at *; omega
      have P0 := cell_regrown p0
      have C3 := cell_regrown c3
      have D0 := cell_regrown d0
      have HP : Hid (wr.cell? ⟨b, off + k * 2, none⟩ = some (.int .i64 r.tm) ∧ wr.cell? ⟨b, off + k * 2 + 1, none⟩ = some (.bool r.gd)) := ⟨p0, p1⟩
      have HO : Hid (OwnMk wr w.heap.size u8 (cntL a0 now (l.take k)) ∧ Below w.heap.size w wr) := ⟨ho, hb⟩
      have g0 : (0 : Int) ≤ k := by omega
      have gk : (k : Int) < n := by omega
      have HRR : Hid ((⟨r.tm, r.gd⟩ : Mk) = r) := rfl
      clear hr hat ho hb HI p0 p1 HNL HNV1 HNV0 HO0 HB0
      cases hc : cntB a0 now r
      · rw [hc] at HX
        have HF : Hid (cntL a0 now (l.take (k + 1)) = cntL a0 now (l.take k)) := by show _ = _; rw [HX]; simp
        have gx : ¬ now < addT r.tm a0 := by simpa [cntB] using hc
        have gd : decide (now < addT r.tm a0) = false := by simpa using gx
        clear HX hc HRR
        generalize addT r.tm a0 = z at *
        generalize r.tm = rt at *
        generalize r.gd = rg at *
        go_wp2_with fail
        refine wp_region_quiet_below (by kernel_rfl) (by kernel_rfl) ?_
        repeat (go_big_quiet_step ((go_at_call 49; exact cA _ _)))
        refine wpQuiet_nil ?_
        intro wq hwq
        obtain ⟨⟨d, os⟩, hd⟩ := hwq
        have bq : Below wr.heap.size wr wq := by rw [hd]; exact below_regrown wr d os
        have HQ : Hid (OwnMk wq w.heap.size u8 (cntL a0 now (l.take k)) ∧ Below w.heap.size w wq) := ⟨HO.out.1.below bq, HO.out.2.trans (bq.mono HO.out.2.size)⟩
        clear P0 C3 D0 cA hd bq HO
        go_wp2_with fail
        go_roundw
        case rel => exact ⟨k + 1, by omega, by go_num, by rw [HF.out]; exact HQ.out.1, HQ.out.2⟩
        case measure => simp [intOf]; omega
      · rw [hc] at HX
        have HF : Hid (cntL a0 now (l.take (k + 1)) = cntL a0 now (l.take k) ++ [(⟨r.tm, r.gd⟩ : Mk)]) := by show _ = _; rw [HX]; simp
        have gx : now < addT r.tm a0 := by simpa [cntB] using hc
        have gd : decide (now < addT r.tm a0) = true := by simpa using gx
        clear HX hc HRR
        generalize addT r.tm a0 = z at *
        generalize r.tm = rt at *
        generalize r.gd = rg at *
        generalize cntL a0 now (l.take k) = Lk at *
        go_wp2_with fail
        refine wp_region_quiet_below (by kernel_rfl) (by kernel_rfl) ?_
        repeat (go_big_quiet_step ((go_at_call 49; exact cA _ _)))
        refine wpQuiet_nil ?_
        intro wq hwq
        obtain ⟨⟨d, os⟩, hd⟩ := hwq
        have bq : Below wr.heap.size wr wq := by rw [hd]; exact below_regrown wr d os
        have HQ : Hid (OwnMk wq w.heap.size u8 Lk ∧ Below w.heap.size w wq) := ⟨HO.out.1.below bq, HO.out.2.trans (bq.mono HO.out.2.size)⟩
        have hqs : w.heap.size ≤ wq.heap.size := HQ.out.2.size
        have z3 := cell_keep10 c3 bq
        have z0 := cell_keep10 HP.out.1 bq
        have z1 := cell_keep10 HP.out.2 bq
        clear P0 C3 D0 cA hd bq HO c0 c1 c2 c3 fr d0 d1 d2 d3 d4 fd HP
        go_wp2_with (at_builtin; refine wpList_append1Mk wq rfl (.tmp 59) (.tmp 67) rfl w.heap.size _ Lk ⟨rt, rg⟩ rfl (by simp [go_sem]) HQ.out.1 (by omega) hqs ?_; intro v4 w4 ho4 hb4 hg4)
        go_roundw
        case rel => exact ⟨k + 1, by omega, by go_num, by rw [HF.out]; exact ho4, HQ.out.2.trans hb4⟩
        case measure => simp [intOf]; omega
    · have HF : Hid (cntL a0 now l = cntL a0 now (l.take k)) := by
        show _ = _
        rw [List.take_of_length_le (by have := HN.out; omega)]
      have HO : Hid (OwnMk wr w.heap.size u8 (cntL a0 now l) ∧ Below w.heap.size w wr) := ⟨by rw [HF.out]; exact ho, hb⟩
      have hcl : (cntL a0 now l).length ≤ 59 := by have := cntL_le a0 now l; have := HN.out; omega
      clear ho hb HF HI HTS HAD HO0 HB0 HSR HSB d0 d1 d2 d3 d4 fd
      generalize cntL a0 now l = Lc at *
      go_upto_region 15 with (at_builtin; refine wpList_append1Mk wr rfl (.tmp 69) (.tmp 73) rfl w.heap.size _ Lc (⟨now, good⟩ : Mk) rfl (by simp [go_sem]) HO.out.1 (by omega) hbs ?_; intro v4 V ho4 hb4 hg4; have hlen : (Lc ++ [(⟨now, good⟩ : Mk)]).length = Lc.length + 1 := (by simp); have hnew := ho4; obtain ⟨g, vc, rfl, hvc⟩ := ho4.some (by omega); rw [hlen] at hnew hvc HNL ⊢; obtain ⟨cn, hcn⟩ : ∃ n, Lc.length = n := ⟨_, rfl⟩; rw [hcn] at hnew hvc hlen hcl HNL ⊢; have HX : Hid (OwnMk V w.heap.size (.slice (some ⟨g, 0, none⟩) (cn + 1) vc) (Lc ++ [(⟨now, good⟩ : Mk)]) ∧ Below w.heap.size wr V) := ⟨hnew, hb4⟩; have HML : Hid ((Lc ++ [(⟨now, good⟩ : Mk)]).length = cn + 1) := hlen; clear hb4 hg4 hnew hlen hcn c0 c1 c2 c3 fr)
      have HKV : Hid (S4 V B (.int .i64 0) (.int .i64 t) (.int .i64 o) (.slice a n cap) ∧ S5 V R (.int .i64 a0) (.int .i64 a1) (.int .i64 a2) (.int .i64 a3) (.int .i64 a4) ∧ w.grownBy V (some B)) := ⟨HKr.out.1.low HX.out.2 HBL.out, HKr.out.2.low HX.out.2 HRL.out, gbBelow _ (HO.out.2.trans HX.out.2)⟩
      clear HKr HO
      obtain ⟨c0, c1, c2, c3, fr, _⟩ := HKV.out.1
      have f3 := fr 3
      have hbig : ¬ 60 < cn + 1 := by omega
      have HNE : Hid (nl = Lc ++ [(⟨now, good⟩ : Mk)]) := by show _ = _; rw [HNL.out, if_neg hbig]
      have HND : Hid (OwnMk V w.heap.size (.slice (some ⟨g, 0, none⟩) (cn + 1) vc) nl) := by rw [HNE.out]; exact HX.out.1
      have HLN : Hid (nl.length = cn + 1) := by show _ = _; rw [HNE.out, HML.out]
      have hs1 : ¬ (60 : Int) < ((cn + 1 : Nat) : Int) := by omega
      clear HNL HNE
      obtain ⟨V1, hV1⟩ : ∃ V1, V1 = V.setCell ⟨B, 3, none⟩ (.slice (some ⟨g, 0, none⟩) (cn + 1) vc) := ⟨_, rfl⟩
      have HV1 : Hid (V1 = V.setCell ⟨B, 3, none⟩ (.slice (some ⟨g, 0, none⟩) (cn + 1) vc)) := hV1
      have g1 : V.grownBy V1 (some B) := by rw [hV1]; exact gbSet _ _ _ _
      have HT1 : Hid (S4 V1 B (.int .i64 0) (.int .i64 t) (.int .i64 o) (.slice (some ⟨g, 0, none⟩) (cn + 1) vc) ∧ S5 V1 R (.int .i64 a0) (.int .i64 a1) (.int .i64 a2) (.int .i64 a3) (.int .i64 a4) ∧ OwnMk V1 w.heap.size (.slice (some ⟨g, 0, none⟩) (cn + 1) vc) nl ∧ w.grownBy V1 (some B)) := by
        refine ⟨?_, HKV.out.2.1.gb g1 HNR.out, HND.out.offB g1 HBL.out, gbTrans HKV.out.2.2 g1⟩
        rw [hV1]; exact HKV.out.1.set3 _
      have hnl61 : nl.length ≤ 61 := by rw [HLN.out]; omega
      have mr := mul_room HR2.out (show nl.length ≤ 100 by omega)
      have bl := badM_le nl
      have x1 : IntKind.i64.wrap (1000 * (badM nl : Int)) = 1000 * (badM nl : Int) := by rw [IntKind.wrap_i64]; omega
      have x2 : IntKind.i64.wrap (a2 * ((cn : Int) + 1)) = a2 * ((cn : Int) + 1) := by rw [HLN.out] at mr; have mr2 : 0 ≤ a2 * ((cn : Int) + 1) ∧ a2 * ((cn : Int) + 1) ≤ 100000 := mr; rw [IntKind.wrap_i64]; omega
      have cB : ∀ d os, Calls Try.prog 76 #[.slice (some ⟨g, 0, none⟩) (cn + 1) vc] (grow (redrawn V1 d) os) fun e w'' => e = .returned (.int .i64 (badM nl : Int)) ∧ ∃ p : Regrown, w'' = grow (redrawn V1 p.d) p.os := fun d os => Calls.regrown_of (by
        have := specBad_any (grow (redrawn V1 d) os) (some ⟨g, 0, none⟩) vc nl (by omega) (by obtain ⟨x, y, e, _, hin⟩ := (HT1.out.2.2.1.below (below_regrown V1 d os)).in; simp only [Value.slice.injEq] at e; rw [e.1]; exact hin)
        rw [HLN.out] at this
        exact this)
      have D1 := cell_regrown HT1.out.2.1.c1
      have D2 := cell_regrown HT1.out.2.1.c2
      have HTT : Hid (tooB nl a1 a2 = (decide (a1 ≤ ((cn : Int) + 1)) && decide (a2 * ((cn : Int) + 1) ≤ 1000 * (badM nl : Int)))) := by show _ = _; rw [tooB, HLN.out]; rfl
      have y3 := HKV.out.1.c3
      have yf := HKV.out.1.fr 3
      generalize (badM nl : Int) = bm at *
      clear hV1 g1 mr bl hnl61
      by_cases g1 : a1 ≤ ((cn : Int) + 1)
      · have d1 : decide (a1 ≤ ((cn : Int) + 1)) = true := by simpa using g1
        by_cases g2 : a2 * ((cn : Int) + 1) ≤ 1000 * bm
        · have d2 : decide (a2 * ((cn : Int) + 1) ≤ 1000 * bm) = true := by simpa using g2
          have HN2 : Hid (nv = ⟨1, now, o, []⟩) := HNV1.out (by rw [HTT.out, d1, d2]; rfl)
          clear HTT HNV1 HNV0
          go_wp2_with fail
          rw [← HV1.out]
          refine wp_region_quiet_below (by kernel_rfl) (by kernel_rfl) ?_
          repeat (go_big_quiet_step ((go_at_call 76; exact cB _ _)))
          refine wpQuiet_nil ?_
          intro wq hwq
          obtain ⟨⟨d, os⟩, hd⟩ := hwq
          have b6 : Below V1.heap.size V1 wq := by rw [hd]; exact below_regrown V1 d os
          have HT6 : Hid (S4 wq B (.int .i64 0) (.int .i64 t) (.int .i64 o) (.slice (some ⟨g, 0, none⟩) (cn + 1) vc) ∧ OwnMk wq w.heap.size (.slice (some ⟨g, 0, none⟩) (cn + 1) vc) nl ∧ w.grownBy wq (some B)) := ⟨HT1.out.1.keep b6, HT1.out.2.2.1.below b6, gbTrans HT1.out.2.2.2 (gbBelow _ b6)⟩
          clear D1 D2 cB hd b6 HT1 HV1
          obtain ⟨q0, q1, q2, q3, qf, _⟩ := HT6.out.1
          have qf0 := qf 0
          have qf1 := qf 1
          have qf3 := qf 3
          clear qf
          go_wp2_with fail
          exact bodyPost_end (v := .tuple #[]) (by simp [results, Try.results74, go_sem]) rfl ⟨rfl, ⟨none, 0, by rw [HN2.out]; exact ((HT6.out.1.set0 _).set1 _).set3 _, by rw [HN2.out]; exact OwnMk.none0 _ _⟩, gbTrans (gbTrans (gbTrans HT6.out.2.2 (gbSet _ _ _ _)) (gbSet _ _ _ _)) (gbSet _ _ _ _)⟩
        · have d2 : decide (a2 * ((cn : Int) + 1) ≤ 1000 * bm) = false := by simpa using g2
          have HN2 : Hid (nv = ⟨0, t, o, nl⟩) := HNV0.out (by rw [HTT.out, d2]; simp)
          clear HTT HNV1 HNV0
          go_wp2_with fail
          rw [← HV1.out]
          refine wp_region_quiet_below (by kernel_rfl) (by kernel_rfl) ?_
          repeat (go_big_quiet_step ((go_at_call 76; exact cB _ _)))
          refine wpQuiet_nil ?_
          intro wq hwq
          obtain ⟨⟨d, os⟩, hd⟩ := hwq
          have b6 : Below V1.heap.size V1 wq := by rw [hd]; exact below_regrown V1 d os
          have HT6 : Hid (S4 wq B (.int .i64 0) (.int .i64 t) (.int .i64 o) (.slice (some ⟨g, 0, none⟩) (cn + 1) vc) ∧ OwnMk wq w.heap.size (.slice (some ⟨g, 0, none⟩) (cn + 1) vc) nl ∧ w.grownBy wq (some B)) := ⟨HT1.out.1.keep b6, HT1.out.2.2.1.below b6, gbTrans HT1.out.2.2.2 (gbBelow _ b6)⟩
          clear D1 D2 cB hd b6 HT1 HV1
          go_wp2_with fail
          exact bodyPost_end (v := .tuple #[]) (by simp [results, Try.results74, go_sem]) rfl ⟨rfl, ⟨some ⟨g, 0, none⟩, vc, by rw [HN2.out, HLN.out]; exact HT6.out.1, by rw [HN2.out, HLN.out]; exact HT6.out.2.1.lower HBS.out⟩, HT6.out.2.2⟩
      · have d1 : decide (a1 ≤ ((cn : Int) + 1)) = false := by simpa using g1
        have HN2 : Hid (nv = ⟨0, t, o, nl⟩) := HNV0.out (by rw [HTT.out, d1]; simp)
        clear HTT HNV1 HNV0
        go_wp2_with fail
        rw [← HV1.out]
        refine wp_region_quiet_below (by kernel_rfl) (by kernel_rfl) ?_
        repeat (go_big_quiet_step ((go_at_call 76; exact cB _ _)))
        refine wpQuiet_nil ?_
        intro wq hwq
        obtain ⟨⟨d, os⟩, hd⟩ := hwq
        have b6 : Below V1.heap.size V1 wq := by rw [hd]; exact below_regrown V1 d os
        have HT6 : Hid (S4 wq B (.int .i64 0) (.int .i64 t) (.int .i64 o) (.slice (some ⟨g, 0, none⟩) (cn + 1) vc) ∧ OwnMk wq w.heap.size (.slice (some ⟨g, 0, none⟩) (cn + 1) vc) nl ∧ w.grownBy wq (some B)) := ⟨HT1.out.1.keep b6, HT1.out.2.2.1.below b6, gbTrans HT1.out.2.2.2 (gbBelow _ b6)⟩
        clear D1 D2 cB hd b6 HT1 HV1
        go_wp2_with fail
        exact bodyPost_end (v := .tuple #[]) (by simp [results, Try.results74, go_sem]) rfl ⟨rfl, ⟨some ⟨g, 0, none⟩, vc, by rw [HN2.out, HLN.out]; exact HT6.out.1, by rw [HN2.out, HLN.out]; exact HT6.out.2.1.lower HBS.out⟩, HT6.out.2.2⟩
end Go.Proofs.Ytmgidcigihpbeaa
