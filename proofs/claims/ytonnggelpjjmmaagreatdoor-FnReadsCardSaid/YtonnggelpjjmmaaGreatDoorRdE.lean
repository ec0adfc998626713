/-
  Texts of one claim, one behind the other.
-/
import Derived.MakeChecks
import Derived.Stop.LaidErr
import Derived.Test.YtonnggelpjjmmaaGreatDoorRows
import Derived.Test.YtonnggelpjjmmaaGreatDoorRdD
/-
  The law of reading, out of contracts.
-/
namespace Go.Proofs.YtonnggelpjjmmaaGreatDoor
open Go.ChangeShapes Go.WideShapes Go.ChangeAt Go.RowKit Go.Sort
namespace reads
open msgs
structure F5 (W : World) (B : Nat) (v0 v1 v2 v3 v4 : Value) : Prop where
  c0 : W.cell? ⟨B, 0, none⟩ = some v0
  c1 : W.cell? ⟨B, 1, none⟩ = some v1
  c2 : W.cell? ⟨B, 2, none⟩ = some v2
  c3 : W.cell? ⟨B, 3, none⟩ = some v3
  c4 : W.cell? ⟨B, 4, none⟩ = some v4
theorem F5.keep {w w' : World} {b : Nat} {v0 v1 v2 v3 v4 : Value} (h : F5 w b v0 v1 v2 v3 v4) (hb : Below w.heap.size w w') : F5 w' b v0 v1 v2 v3 v4 :=
  ⟨by rw [hb.cell (p := ⟨b, 0, none⟩) (block_lt_of_cell h.c0), h.c0], by rw [hb.cell (p := ⟨b, 1, none⟩) (block_lt_of_cell h.c1), h.c1], by rw [hb.cell (p := ⟨b, 2, none⟩) (block_lt_of_cell h.c2), h.c2], by rw [hb.cell (p := ⟨b, 3, none⟩) (block_lt_of_cell h.c3), h.c3], by rw [hb.cell (p := ⟨b, 4, none⟩) (block_lt_of_cell h.c4), h.c4]⟩
theorem F5.new (w : World) (v0 v1 v2 v3 v4 : Value) (t : TypeId) : F5 (w.alloc (.cells #[v0, v1, v2, v3, v4] t)) w.heap.size v0 v1 v2 v3 v4 := ⟨by simp, by simp, by simp, by simp, by simp⟩
/-- What was drawn and read, wherever the world stands. -/
structure FR (w : World) (da : Option Addr) (dl : List UInt8) (K : Nat) (c : Int) (m h p : ByteArray) (va : Option Addr) (n vc : Nat) (L : List Hdr) (oa : Option Addr) (ol : List UInt8)
    (J : Nat) (rc s : Int) (ra : Option Addr) (rn rk : Nat) (RL : List Hdr) (ga : Option Addr) (bn bk : Nat) (bl : List UInt8) (X : World) : Prop where
  b : Below w.heap.size w X
  di : BIn X da dl
  k : F5 X K (.int .i64 c) (.string m) (.string h) (.string p) (.slice va n vc)
  ki : HdsIn X va L
  oi : BIn X oa ol
  j : Four X J (.int .i64 rc) (.int .i64 s) (.slice ra rn rk) (.slice ga bn bk)
  ri : HdsIn X ra RL
  bi : BIn X ga bl
theorem FR.keep {w : World} {da : Option Addr} {dl : List UInt8} {K : Nat} {c : Int} {m h p : ByteArray} {va : Option Addr} {n vc : Nat} {L : List Hdr} {oa : Option Addr} {ol : List UInt8} {J : Nat} {rc s : Int} {ra : Option Addr} {rn rk : Nat} {RL : List Hdr} {ga : Option Addr} {bn bk : Nat} {bl : List UInt8} {X Y : World}
    (f : FR w da dl K c m h p va n vc L oa ol J rc s ra rn rk RL ga bn bk bl X) (hb : Below X.heap.size X Y) : FR w da dl K c m h p va n vc L oa ol J rc s ra rn rk RL ga bn bk bl Y :=
  ⟨f.b.trans (hb.mono f.b.size), f.di.keep hb, f.k.keep hb, f.ki.keep hb, f.oi.keep hb, f.j.keep hb, f.ri.keep hb, f.bi.keep hb⟩
set_option maxRecDepth 100000 in
set_option maxHeartbeats 16000000 in
theorem fnReads_walk (E : Errs) (w : World) (a : Option Addr) (len cap : Nat) (hc : CodeRow w w.heap.size a len) (hset : SetIs w) (hE : ErrsIs w E) (hmax : MaxIs w) (hpow : num.PowIs w) :
    Calls Tryz.prog 4 #[.slice a len cap] w fun e w' => e = .returned (.bool true) ∧ Below w.heap.size w w' := by
  have HENV : Hid (∀ W, Below w.heap.size w W → SetIs W ∧ ErrsIs W E ∧ MaxIs W ∧ num.PowIs W ∧ CodeRow W W.heap.size a len) := fun W hb => ⟨hset.below hb, hE.below hb, hmax.below hb, hpow.below hb, (hc.below hb).mono hb.size⟩
  clear hset hE hmax hpow
  by_cases hbig : (1048576 : Int) < len
  · clear hc
    go_enter Tryz.func4, Tryz.ntmps4
    go_wp2
    go_ret
    exact ⟨rfl, Below.refl _ _⟩
  have hl2 : len ≤ 1048576 := by omega
  have HD := drawReadRequest_any w a len cap hc hl2
  clear hc
  go_enter Tryz.func4, Tryz.ntmps4
  go_wp2_with (go_at_call 6; go_in)
  refine HD.mono ?_
  rintro e w1 ⟨⟨da, dk, dl, rfl, _, hdi, hdl⟩, hb1⟩
  obtain ⟨dn, hdn⟩ : ∃ n, Hid (dl.length = n) := ⟨_, rfl⟩
  obtain ⟨c, hcq⟩ : ∃ n, Hid ((readQ dl).1 = n) := ⟨_, rfl⟩
  obtain ⟨m, hmq⟩ : ∃ n, Hid ((readQ dl).2.m = n) := ⟨_, rfl⟩
  obtain ⟨h, hhq⟩ : ∃ n, Hid ((readQ dl).2.h = n) := ⟨_, rfl⟩
  obtain ⟨p, hpq⟩ : ∃ n, Hid ((readQ dl).2.p = n) := ⟨_, rfl⟩
  obtain ⟨L, hLq⟩ : ∃ n, Hid ((readQ dl).2.l = n) := ⟨_, rfl⟩
  have HC0 : Hid (c = 0 → reqC m h p L = 0) := fun h0 => by
    have := readQ_right (d := dl) (by rw [hcq.out]; exact h0)
    rw [rqC, hmq.out, hhq.out, hpq.out, hLq.out] at this
    exact this
  rw [hdn.out]
  have HQ : Hid (∀ X, Below w.heap.size w X → BIn X da dl → Calls Tryz.prog 15 #[.slice da dn dk] X fun e w' => (∃ xa xn xk, e = .returned (.agg #[.int .i64 c, .string m, .string h, .string p, .slice xa xn xk]) ∧ OwnH w' 0 (.slice xa xn xk) L) ∧ Below X.heap.size X w') := fun X hb hi => by
    obtain ⟨e1, e2, e3, _⟩ := HENV.out X hb
    have := implReadQ_any E X da dk dl (by omega) e1 e2 e3 hi
    rw [hdn.out] at this
    refine this.mono ?_
    rintro e w' ⟨⟨v, rfl, ho⟩, hb⟩
    rw [hLq.out] at ho
    rw [hcq.out, hmq.out, hhq.out, hpq.out]
    obtain ⟨xa, xk, rfl, _⟩ := ho.at
    exact ⟨⟨xa, _, xk, rfl, ho.lower (Nat.zero_le _)⟩, hb⟩
  have HQS : Hid (∀ X, BIn X da dl → Calls Tryz.prog 22 #[.slice da dn dk] X fun e w' => (∃ xa xn xk, e = .returned (.agg #[.int .i64 c, .string m, .string h, .string p, .slice xa xn xk])) ∧ Below X.heap.size X w') := fun X hi => by
    have := specReadQ_any X da dk dl (by omega) hi
    rw [hdn.out] at this
    refine this.mono ?_
    rintro e w' ⟨⟨v, rfl, ho⟩, hb⟩
    rw [hcq.out, hmq.out, hhq.out, hpq.out]
    obtain ⟨xa, xk, rfl, _⟩ := ho.at
    exact ⟨⟨xa, _, xk, rfl⟩, hb⟩
  have H1 := HQ.out w1 hb1 hdi
  have F1 : Hid (Below w.heap.size w w1 ∧ BIn w1 da dl) := ⟨hb1, hdi⟩
  clear hb1 hdi HD hcq hmq hhq hpq hLq hdn hdl HQ
  go_wp2_with fail
  refine H1.mono ?_
  rintro e w2 ⟨⟨va, n, vc, rfl, ho⟩, hb2⟩
  obtain ⟨en, hvi, hcap⟩ := own_in2 ho
  have HN : Hid (n = L.length ∧ L.length ≤ vc) := ⟨en, hcap⟩
  clear en hcap
  obtain ⟨pl, hpl⟩ : ∃ x, Hid (reqL m h p L = x) := ⟨_, rfl⟩
  have CP : Hid (c = 0 → ∀ X, Below w.heap.size w X → HdsIn X va L → Calls Tryz.prog 8 #[.agg #[.string m, .string h, .string p, .slice va n vc]] X fun e w' => (∃ xa xn xk, e = .returned (.agg #[.int .i64 0, .slice xa xn xk]) ∧ BOwn w' 0 (.slice xa xn xk) pl) ∧ Below X.heap.size X w') := fun h0 X hb hi => by
    obtain ⟨e1, e2, _⟩ := HENV.out X hb
    have hr := HC0.out h0
    obtain ⟨y1, y2, y3, y4⟩ := reqC_zero hr
    obtain ⟨z1, z2, z3⟩ := method_size y1
    have := implPackReq_in E X m h p va vc L (by omega) HN.out.2 (by omega) e1 e2 hi
    rw [← HN.out.1, hr, reqB, if_pos hr, hpl.out] at this
    refine this.mono ?_
    rintro e w' ⟨⟨xa, xn, xk, rfl, hx⟩, hb⟩
    exact ⟨⟨xa, xn, xk, rfl, hx.lower (Nat.zero_le _)⟩, hb⟩
  have CR : Hid (c = 0 → ∀ X xa xn xk, Below w.heap.size w X → BOwn X 0 (.slice xa xn xk) pl → Calls Tryz.prog 15 #[.slice xa xn xk] X fun e w' => (∃ ya yn yk, e = .returned (.agg #[.int .i64 0, .string m, .string h, .string p, .slice ya yn yk]) ∧ OwnH w' 0 (.slice ya yn yk) L) ∧ Below X.heap.size X w') := fun h0 X xa xn xk hb hx => by
    obtain ⟨e1, e2, e3, _⟩ := HENV.out X hb
    obtain ⟨rfl, hi⟩ := bown_in hx
    have hr := HC0.out h0
    have := implReadQ_any E X xa xk pl (by rw [← hpl.out]; exact reqL_len hr) e1 e2 e3 hi
    have er : readQ pl = (0, ⟨m, h, p, L⟩) := by rw [← hpl.out]; exact readQ_pack hr
    rw [er] at this
    refine this.mono ?_
    rintro e w' ⟨⟨v, rfl, ho⟩, hb⟩
    obtain ⟨ya, yk, rfl, _⟩ := ho.at
    exact ⟨⟨ya, _, yk, rfl, ho.lower (Nat.zero_le _)⟩, hb⟩
  have CQE : Hid (c = 0 → ∀ X xa xn xk base, OwnH X base (.slice xa xn xk) L → HdsIn X va L → Calls Tryz.prog 16 #[.agg #[.string m, .string h, .string p, .slice xa xn xk], .agg #[.string m, .string h, .string p, .slice va n vc]] X fun e w' => e = .returned (.bool true) ∧ Below X.heap.size X w') := fun h0 X xa xn xk base ho hi => by
    obtain ⟨y1, y2, y3, y4⟩ := reqC_zero (HC0.out h0)
    obtain ⟨e1, e2, _⟩ := own_in2 ho
    subst e1
    have := implSameQ_any X m h p xa xk L m h p va vc L (by omega) e2 hi
    rw [sameQ_refl] at this
    rw [HN.out.1]
    exact this
  have al2 : Below w2.heap.size w2 (w2.alloc (.cells #[.int .i64 c, .string m, .string h, .string p, .slice va n vc] 38)) := (Below.refl _ _).alloc (Nat.le_refl _) _
  obtain ⟨v2, hv2⟩ : ∃ X, Hid (X = w2.alloc (.cells #[.int .i64 c, .string m, .string h, .string p, .slice va n vc] 38)) := ⟨_, rfl⟩
  have F2 : Hid (Below w.heap.size w v2 ∧ BIn v2 da dl ∧ F5 v2 w2.heap.size (.int .i64 c) (.string m) (.string h) (.string p) (.slice va n vc) ∧ HdsIn v2 va L) := by
    rw [hv2.out]
    have b2 := F1.out.1.trans (hb2.mono F1.out.1.size)
    exact ⟨b2.trans (al2.mono b2.size), (F1.out.2.keep hb2).keep al2, F5.new w2 _ _ _ _ _ _, hvi.keep al2⟩
  have H2 := drawReadResponse_any v2 a len cap (HENV.out v2 F2.out.1).2.2.2.2 hl2
  clear F1 hb2 al2 ho hvi H1 hpl HN HC0
  go_wp2_with fail
  rw [← hv2.out]
  clear hv2
  generalize w2.heap.size = K at *
  clear w2 w1
  refine H2.mono ?_
  rintro e w3 ⟨⟨oa, ok, ol, rfl, hok, hoi, hol⟩, hb3⟩
  obtain ⟨on, hon⟩ : ∃ n, Hid (ol.length = n) := ⟨_, rfl⟩
  obtain ⟨rc, hrc⟩ : ∃ n, Hid ((readP ol).1 = n) := ⟨_, rfl⟩
  obtain ⟨s, hs⟩ : ∃ n, Hid ((readP ol).2.s = n) := ⟨_, rfl⟩
  obtain ⟨RL, hRL⟩ : ∃ n, Hid ((readP ol).2.l = n) := ⟨_, rfl⟩
  obtain ⟨bl, hbl⟩ : ∃ n, Hid ((readP ol).2.b = n) := ⟨_, rfl⟩
  have HR0 : Hid (rc = 0 → respC s RL bl.length = 0) := fun h0 => by
    have := readP_right (d := ol) (by rw [hrc.out]; exact h0)
    rw [rpC, hs.out, hRL.out, hbl.out] at this
    exact this
  have F3 : Hid (Below w.heap.size w w3 ∧ BIn w3 da dl ∧ F5 w3 K (.int .i64 c) (.string m) (.string h) (.string p) (.slice va n vc) ∧ HdsIn w3 va L ∧ BIn w3 oa ol) := ⟨F2.out.1.trans (hb3.mono F2.out.1.size), F2.out.2.1.keep hb3, F2.out.2.2.1.keep hb3, F2.out.2.2.2.keep hb3, hoi⟩
  have HP : Hid (∀ X, Below w.heap.size w X → BIn X oa ol → Calls Tryz.prog 17 #[.slice oa on ok] X fun e w' => (∃ xa xn xk ya yn yk, e = .returned (.agg #[.int .i64 rc, .int .i64 s, .slice xa xn xk, .slice ya yn yk]) ∧ OwnH w' 0 (.slice xa xn xk) RL ∧ BOwn w' 0 (.slice ya yn yk) bl) ∧ Below X.heap.size X w') := fun X hb hi => by
    obtain ⟨e1, e2, e3, _⟩ := HENV.out X hb
    have := implReadP_any E X oa ok ol (by omega) e1 e2 e3 hi
    rw [hon.out] at this
    refine this.mono ?_
    rintro e w' ⟨⟨xa, xn, xk, ya, yn, yk, rfl, ho, hy⟩, hb⟩
    rw [hRL.out] at ho
    rw [hbl.out] at hy
    rw [hrc.out, hs.out]
    exact ⟨⟨xa, xn, xk, ya, yn, yk, rfl, ho.lower (Nat.zero_le _), hy.lower (Nat.zero_le _)⟩, hb⟩
  have HPS : Hid (∀ X, BIn X oa ol → Calls Tryz.prog 23 #[.slice oa on ok] X fun e w' => (∃ xa xn xk ya yn yk, e = .returned (.agg #[.int .i64 rc, .int .i64 s, .slice xa xn xk, .slice ya yn yk])) ∧ Below X.heap.size X w') := fun X hi => by
    have := specReadP_any X oa ok ol (by omega) hok hi
    rw [hon.out] at this
    refine this.mono ?_
    rintro e w' ⟨⟨xa, xn, xk, ya, yn, yk, rfl, ho, hy⟩, hb⟩
    rw [hrc.out, hs.out]
    exact ⟨⟨xa, xn, xk, ya, yn, yk, rfl⟩, hb⟩
  have H3 := HP.out w3 F3.out.1 hoi
  rw [hon.out]
  clear hoi F2 H2 hb3 hrc hs hRL hbl HP hon hol hok
  clear v2
  go_wp2_with fail
  refine H3.mono ?_
  rintro e w4 ⟨⟨ra, rn, rk, ga, bn, bk, rfl, hro, hbo⟩, hb4⟩
  obtain ⟨ern, hri, hrcap⟩ := own_in2 hro
  obtain ⟨ebn, hbi⟩ := bown_in hbo
  have HRN : Hid (rn = RL.length ∧ bn = bl.length) := ⟨ern, ebn⟩
  clear ern ebn hrcap
  obtain ⟨ql, hql⟩ : ∃ x, Hid (respL s RL bl = x) := ⟨_, rfl⟩
  have DP : Hid (rc = 0 → ∀ X, Below w.heap.size w X → HdsIn X ra RL → BIn X ga bl → Calls Tryz.prog 10 #[.agg #[.int .i64 s, .slice ra rn rk, .slice ga bn bk]] X fun e w' => (∃ xa xn xk, e = .returned (.agg #[.int .i64 0, .slice xa xn xk]) ∧ BOwn w' 0 (.slice xa xn xk) ql) ∧ Below X.heap.size X w') := fun h0 X hb hi hj => by
    obtain ⟨e1, e2, _, e4, _⟩ := HENV.out X hb
    have hr := HR0.out h0
    obtain ⟨y1, y2, y3, y4⟩ := respC_zero hr
    have hz := (heads_sizes y3).1
    have := implPackResp_in E X s ra rk RL ga bk bl (by omega) (by omega) e1 e2 e4 hi hj
    rw [← HRN.out.1, hr, respB, if_pos hr, hql.out, ← HRN.out.2] at this
    refine this.mono ?_
    rintro e w' ⟨⟨xa, xn, xk, rfl, hx⟩, hb⟩
    exact ⟨⟨xa, xn, xk, rfl, hx.lower (Nat.zero_le _)⟩, hb⟩
  have DR : Hid (rc = 0 → ∀ X xa xn xk, Below w.heap.size w X → BOwn X 0 (.slice xa xn xk) ql → Calls Tryz.prog 17 #[.slice xa xn xk] X fun e w' => (∃ xa xn xk ya yn yk, e = .returned (.agg #[.int .i64 0, .int .i64 s, .slice xa xn xk, .slice ya yn yk]) ∧ OwnH w' 0 (.slice xa xn xk) RL ∧ BOwn w' 0 (.slice ya yn yk) bl) ∧ Below X.heap.size X w') := fun h0 X xa xn xk hb hx => by
    obtain ⟨e1, e2, e3, _⟩ := HENV.out X hb
    obtain ⟨rfl, hi⟩ := bown_in hx
    have hr := HR0.out h0
    have := implReadP_any E X xa xk ql (by rw [← hql.out]; exact respL_len hr) e1 e2 e3 hi
    have er : readP ql = (0, ⟨s, RL, bl⟩) := by rw [← hql.out]; exact readP_pack hr
    rw [er] at this
    refine this.mono ?_
    rintro e w' ⟨⟨xa, xn, xk, ya, yn, yk, rfl, ho, hy⟩, hb⟩
    exact ⟨⟨xa, xn, xk, ya, yn, yk, rfl, ho.lower (Nat.zero_le _), hy.lower (Nat.zero_le _)⟩, hb⟩
  have DPE : Hid (rc = 0 → ∀ X xa xn xk ya yn yk base, OwnH X base (.slice xa xn xk) RL → BOwn X base (.slice ya yn yk) bl → HdsIn X ra RL → BIn X ga bl → Calls Tryz.prog 18 #[.agg #[.int .i64 s, .slice xa xn xk, .slice ya yn yk], .agg #[.int .i64 s, .slice ra rn rk, .slice ga bn bk]] X fun e w' => e = .returned (.bool true) ∧ Below X.heap.size X w') := fun h0 X xa xn xk ya yn yk base h1 h2 h3 h4 => by
    obtain ⟨y1, y2, y3, y4⟩ := respC_zero (HR0.out h0)
    have hz := (heads_sizes y3).1
    obtain ⟨e1, e2, _⟩ := own_in2 h1
    obtain ⟨e3, e4⟩ := bown_in h2
    subst e1
    subst e3
    have := implSameP_any X s xa xk RL ya yk bl s ra rk RL ga bk bl (by omega) e2 h3 e4 h4
    rw [sameP_refl] at this
    rw [HRN.out.1, HRN.out.2]
    exact this
  have DF : Hid (rc = 0 → ∀ X, Below w.heap.size w X → HdsIn X ra RL → Calls Tryz.prog 14 #[.agg #[.int .i64 s, .slice ra rn rk, .slice ga bn bk]] X fun e w' => e = .returned (.int .i64 0) ∧ Below X.heap.size X w') := fun h0 X hb hi => by
    obtain ⟨e1, e2, _⟩ := HENV.out X hb
    have hr := HR0.out h0
    obtain ⟨y1, y2, y3, y4⟩ := respC_zero hr
    have hz := (heads_sizes y3).1
    have := implResp_any E X s ra rk RL ga bl.length bk (by omega) (by omega) e1 e2 hi
    rw [hr, ← HRN.out.1, ← HRN.out.2] at this
    exact this
  have al4 : Below w4.heap.size w4 (w4.alloc (.cells #[.int .i64 rc, .int .i64 s, .slice ra rn rk, .slice ga bn bk] 42)) := (Below.refl _ _).alloc (Nat.le_refl _) _
  obtain ⟨W, hW⟩ : ∃ X, Hid (X = w4.alloc (.cells #[.int .i64 rc, .int .i64 s, .slice ra rn rk, .slice ga bn bk] 42)) := ⟨_, rfl⟩
  have F4 : Hid (FR w da dl K c m h p va n vc L oa ol w4.heap.size rc s ra rn rk RL ga bn bk bl W) := by
    rw [hW.out]
    have b4 := F3.out.1.trans (hb4.mono F3.out.1.size)
    obtain ⟨_, f2, f3, f4, f5⟩ := F3.out
    exact ⟨b4.trans (al4.mono b4.size), (f2.keep hb4).keep al4, (f3.keep hb4).keep al4, (f4.keep hb4).keep al4, (f5.keep hb4).keep al4, Four.new w4 _ _ _ _ _, hri.keep al4, hbi.keep al4⟩
  clear F3 hb4 al4 hro hbo hri hbi H3 hql HRN HR0 HENV
  go_upto_region 7 with fail
  rw [← hW.out]
  clear hW
  generalize w4.heap.size = J at *
  clear w4 w3
  have HK : Hid (∀ X, Below W.heap.size W X → FR w da dl K c m h p va n vc L oa ol J rc s ra rn rk RL ga bn bk bl X) := fun X hb => F4.out.keep hb
  clear F4
  go_cut [30] from 17 to 30 (fun s30 wx => s30 = .bool false ∧ Below W.heap.size W wx)
  case first =>
    have HKS : Hid (∀ X, Below W.heap.size W X → X.cell? ⟨K, 0, none⟩ = some (.int .i64 c) ∧ X.cell? ⟨J, 0, none⟩ = some (.int .i64 rc)) := fun X hb => by
      have f := HK.out X hb
      exact ⟨f.k.c0, f.j.c0⟩
    have B0 : Hid (Below W.heap.size W W.drew) := (Below.refl _ _).drew
    have hf1 := qfield_code
    have hf2 := pfield_code
    go_region_held3 (fun X => X.cell? ⟨K, 0, none⟩ = some (.int .i64 c) ∧ X.cell? ⟨J, 0, none⟩ = some (.int .i64 rc))
      (first | exact HKS.out _ BB.out | exact HKS.out _ BA.out | exact HKS.out _ B0.out)
      (first
      | (go_at_call 22; refine (HQS.out _ (HK.out _ B0.out).di).mono ?_; rintro e wa ⟨⟨xa, xn, xk, rfl⟩, hba⟩; have BA : Hid (Below W.heap.size W wa) := B0.out.trans (hba.mono B0.out.size); clear hba)
      | (go_at_call 23; refine (HPS.out _ (HK.out _ BA.out).oi).mono ?_; rintro e wb ⟨⟨xa, xn, xk, xb, xbn, xbk, rfl⟩, hbb⟩; have BB : Hid (Below W.heap.size W wb) := BA.out.trans (hbb.mono BA.out.size); clear hbb))
    all_goals (go_wp2_with fail; go_meet; exact ⟨rfl, BB.out⟩)
  case rest =>
  obtain ⟨rfl, hbx⟩ := hcut
  have X1 : Hid (Below W.heap.size W wc) := hbx
  clear hbx HQS HPS
  go_wp2_with fail
  generalize wc = w1 at *
  go_cut [45] from 31 to 45 (fun s45 wx => s45 = .bool false ∧ Below W.heap.size W wx)
  case first =>
    have HKS : Hid (∀ X, Below W.heap.size W X → X.cell? ⟨K, 0, none⟩ = some (.int .i64 c) ∧ X.cell? ⟨K, 1, none⟩ = some (.string m) ∧ X.cell? ⟨K, 2, none⟩ = some (.string h) ∧ X.cell? ⟨K, 3, none⟩ = some (.string p) ∧ X.cell? ⟨K, 4, none⟩ = some (.slice va n vc)) := fun X hb => by
      have f := HK.out X hb
      exact ⟨f.k.c0, f.k.c1, f.k.c2, f.k.c3, f.k.c4⟩
    have B0 : Hid (Below W.heap.size W w1.drew) := X1.out.trans ((Below.refl _ _).drew)
    by_cases h0 : c = 0
    · subst h0
      have CP0 : Hid (∀ X, Below w.heap.size w X → HdsIn X va L → Calls Tryz.prog 8 #[.agg #[.string m, .string h, .string p, .slice va n vc]] X fun e w' => (∃ xa xn xk, e = .returned (.agg #[.int .i64 0, .slice xa xn xk]) ∧ BOwn w' 0 (.slice xa xn xk) pl) ∧ Below X.heap.size X w') := CP.out rfl
      have CR0 : Hid (∀ X xa xn xk, Below w.heap.size w X → BOwn X 0 (.slice xa xn xk) pl → Calls Tryz.prog 15 #[.slice xa xn xk] X fun e w' => (∃ ya yn yk, e = .returned (.agg #[.int .i64 0, .string m, .string h, .string p, .slice ya yn yk]) ∧ OwnH w' 0 (.slice ya yn yk) L) ∧ Below X.heap.size X w') := CR.out rfl
      have CQ0 : Hid (∀ X xa xn xk base, OwnH X base (.slice xa xn xk) L → HdsIn X va L → Calls Tryz.prog 16 #[.agg #[.string m, .string h, .string p, .slice xa xn xk], .agg #[.string m, .string h, .string p, .slice va n vc]] X fun e w' => e = .returned (.bool true) ∧ Below X.heap.size X w') := CQE.out rfl
      clear CP CR CQE DP DR DPE DF
      have hf0 := bfield_bytes
      have hf1 := qfield_code
      have hf2 := qfield_req
      go_region_held3 (fun X => X.cell? ⟨K, 0, none⟩ = some (.int .i64 0) ∧ X.cell? ⟨K, 1, none⟩ = some (.string m) ∧ X.cell? ⟨K, 2, none⟩ = some (.string h) ∧ X.cell? ⟨K, 3, none⟩ = some (.string p) ∧ X.cell? ⟨K, 4, none⟩ = some (.slice va n vc))
        (first | exact HKS.out _ BC.out | exact HKS.out _ BB.out | exact HKS.out _ BA.out | exact HKS.out _ B0.out)
        (first
        | (go_at_call 8; refine (CP0.out _ (HK.out _ B0.out).b (HK.out _ B0.out).ki).mono ?_; rintro e wa ⟨⟨xa, xn, xk, rfl, hox⟩, hba⟩; have OX : Hid (BOwn wa 0 (.slice xa xn xk) pl) := hox; have BA : Hid (Below W.heap.size W wa) := B0.out.trans (hba.mono B0.out.size); clear hba hox)
        | (go_at_call 15; refine (CR0.out _ xa xn xk (HK.out _ BA.out).b OX.out).mono ?_; rintro e wb ⟨⟨ya, yn, yk, rfl, hoy⟩, hbb⟩; have OY : Hid (OwnH wb 0 (.slice ya yn yk) L) := hoy; have BB : Hid (Below W.heap.size W wb) := BA.out.trans (hbb.mono BA.out.size); clear hbb hoy)
        | (go_at_call 16; refine (CQ0.out _ ya yn yk 0 OY.out (HK.out _ BB.out).ki).mono ?_; rintro e wd ⟨rfl, hbd⟩; have BC : Hid (Below W.heap.size W wd) := BB.out.trans (hbd.mono BB.out.size); clear hbd))
      all_goals (go_wp2_with fail; go_meet; exact ⟨rfl, BC.out⟩)
    · have hn0 : (c == 0) = false := by simpa using h0
      have r0 := cell_regrown (HKS.out _ X1.out).1
      have hn1 : decide (c = 0) = false := by simpa using h0
      refine wp_region_quiet_below (by kernel_rfl) (by kernel_rfl) ?_
      repeat (go_big_quiet_step (first | fail))
      refine wpQuiet_nil ?_
      intro W3 hW3
      have hbW : Below w1.heap.size w1 W3 := by
        obtain ⟨⟨d', os⟩, rfl⟩ := hW3
        exact below_regrown w1 d' os
      have BW : Hid (Below W.heap.size W W3) := X1.out.trans (hbW.mono X1.out.size)
      clear hW3 hbW r0
      go_wp2_with fail
      go_meet
      exact ⟨rfl, BW.out⟩
  case rest =>
  obtain ⟨rfl, hbx⟩ := hcut
  have X2 : Hid (Below W.heap.size W wc) := hbx
  clear hbx X1 CP CR CQE
  clear w1
  go_wp2_with fail
  generalize wc = w2 at *
  have HKS : Hid (∀ X, Below W.heap.size W X → X.cell? ⟨J, 0, none⟩ = some (.int .i64 rc) ∧ X.cell? ⟨J, 1, none⟩ = some (.int .i64 s) ∧ X.cell? ⟨J, 2, none⟩ = some (.slice ra rn rk) ∧ X.cell? ⟨J, 3, none⟩ = some (.slice ga bn bk)) := fun X hb => by
    have f := HK.out X hb
    exact ⟨f.j.c0, f.j.c1, f.j.c2, f.j.c3⟩
  have B0 : Hid (Below W.heap.size W w2.drew) := X2.out.trans ((Below.refl _ _).drew)
  by_cases h0 : rc = 0
  · subst h0
    have DP0 : Hid (∀ X, Below w.heap.size w X → HdsIn X ra RL → BIn X ga bl → Calls Tryz.prog 10 #[.agg #[.int .i64 s, .slice ra rn rk, .slice ga bn bk]] X fun e w' => (∃ xa xn xk, e = .returned (.agg #[.int .i64 0, .slice xa xn xk]) ∧ BOwn w' 0 (.slice xa xn xk) ql) ∧ Below X.heap.size X w') := DP.out rfl
    have DR0 : Hid (∀ X xa xn xk, Below w.heap.size w X → BOwn X 0 (.slice xa xn xk) ql → Calls Tryz.prog 17 #[.slice xa xn xk] X fun e w' => (∃ xa xn xk ya yn yk, e = .returned (.agg #[.int .i64 0, .int .i64 s, .slice xa xn xk, .slice ya yn yk]) ∧ OwnH w' 0 (.slice xa xn xk) RL ∧ BOwn w' 0 (.slice ya yn yk) bl) ∧ Below X.heap.size X w') := DR.out rfl
    have DE0 : Hid (∀ X xa xn xk ya yn yk base, OwnH X base (.slice xa xn xk) RL → BOwn X base (.slice ya yn yk) bl → HdsIn X ra RL → BIn X ga bl → Calls Tryz.prog 18 #[.agg #[.int .i64 s, .slice xa xn xk, .slice ya yn yk], .agg #[.int .i64 s, .slice ra rn rk, .slice ga bn bk]] X fun e w' => e = .returned (.bool true) ∧ Below X.heap.size X w') := DPE.out rfl
    have DF0 : Hid (∀ X, Below w.heap.size w X → HdsIn X ra RL → Calls Tryz.prog 14 #[.agg #[.int .i64 s, .slice ra rn rk, .slice ga bn bk]] X fun e w' => e = .returned (.int .i64 0) ∧ Below X.heap.size X w') := DF.out rfl
    clear DP DR DPE DF
    have hf0 := bfield_bytes
    have hf1 := pfield_code
    have hf2 := pfield_resp
    go_region_held3 (fun X => X.cell? ⟨J, 0, none⟩ = some (.int .i64 0) ∧ X.cell? ⟨J, 1, none⟩ = some (.int .i64 s) ∧ X.cell? ⟨J, 2, none⟩ = some (.slice ra rn rk) ∧ X.cell? ⟨J, 3, none⟩ = some (.slice ga bn bk))
      (first | exact HKS.out _ BD.out | exact HKS.out _ BC.out | exact HKS.out _ BB.out | exact HKS.out _ BA.out | exact HKS.out _ B0.out)
      (first
      | (go_at_call 10; refine (DP0.out _ (HK.out _ B0.out).b (HK.out _ B0.out).ri (HK.out _ B0.out).bi).mono ?_; rintro e wa ⟨⟨xa, xn, xk, rfl, hox⟩, hba⟩; have OX : Hid (BOwn wa 0 (.slice xa xn xk) ql) := hox; have BA : Hid (Below W.heap.size W wa) := B0.out.trans (hba.mono B0.out.size); clear hba hox)
      | (go_at_call 17; refine (DR0.out _ xa xn xk (HK.out _ BA.out).b OX.out).mono ?_; rintro e wb ⟨⟨ya, yn, yk, yb, ybn, ybk, rfl, hoy, hpy⟩, hbb⟩; have OY : Hid (OwnH wb 0 (.slice ya yn yk) RL) := hoy; have PY : Hid (BOwn wb 0 (.slice yb ybn ybk) bl) := hpy; have BB : Hid (Below W.heap.size W wb) := BA.out.trans (hbb.mono BA.out.size); clear hbb hoy hpy)
      | (go_at_call 18; refine (DE0.out _ ya yn yk yb ybn ybk 0 OY.out PY.out (HK.out _ BB.out).ri (HK.out _ BB.out).bi).mono ?_; rintro e wd ⟨rfl, hbd⟩; have BC : Hid (Below W.heap.size W wd) := BB.out.trans (hbd.mono BB.out.size); clear hbd)
      | (go_at_call 14; refine (DF0.out _ (HK.out _ BC.out).b (HK.out _ BC.out).ri).mono ?_; rintro e we ⟨rfl, hbe⟩; have BD : Hid (Below W.heap.size W we) := BC.out.trans (hbe.mono BC.out.size); clear hbe))
    all_goals (go_wp2_with fail; go_ret; exact ⟨rfl, (HK.out _ BD.out).b⟩)
  · have hn0 : (rc != 0) = true := by simpa using h0
    have r0 := cell_regrown (HKS.out _ X2.out).1
    refine wp_region_quiet_below (by kernel_rfl) (by kernel_rfl) ?_
    repeat (go_big_quiet_step (first | fail))
    refine wpQuiet_nil ?_
    intro W3 hW3
    have hbW : Below w2.heap.size w2 W3 := by
      obtain ⟨⟨d', os⟩, rfl⟩ := hW3
      exact below_regrown w2 d' os
    have BW : Hid (Below W.heap.size W W3) := X2.out.trans (hbW.mono X2.out.size)
    clear hW3 hbW r0
    go_wp2_with fail
    go_ret
    exact ⟨rfl, (HK.out _ BW.out).b⟩
end reads
end Go.Proofs.YtonnggelpjjmmaaGreatDoor
/-
  What the row's list gives of the table of powers of ten.
-/
namespace Go.Proofs.YtonnggelpjjmmaaGreatDoor
namespace num
theorem powType : (Tryz.prog.globals[6]?).map (·.type) = some 205 := by kernel_rfl
theorem powTab {H : Type} : (Rows.laid_internal_strconv_uint64pow10 : DataW H) = Lib.tabData .u64 Lib.pow10Tab := by kernel_rfl
theorem pow_of {w : World} {rest : List (String × DataW Unit)} (h : laidMet Tryz.prog (("internal/strconv.uint64pow10", Rows.laid_internal_strconv_uint64pow10) :: rest) w) : PowIs w := by
  rw [powTab] at h
  exact Lib.tabIs_of_head powNamed powType Tryz.underlying205 Tryz.underlying166 (by kernel_rfl) (by kernel_rfl) h
end num
end Go.Proofs.YtonnggelpjjmmaaGreatDoor
/-
  As many variables are read as are named.
-/
namespace Go.Proofs.YtonnggelpjjmmaaGreatDoor
theorem trodVars_len {H : Type} {enc : TypeId × Value → H} {P : Program} {W : World} {sp : Nat → Bool} : ∀ {ns : List String} {gs : List (DataW H)} {ps : List MemPlace}, DataW.TrodVars enc P W sp ns gs ps → gs.length = ns.length
  | [], [], _, _ => rfl
  | [], _ :: _, _, h => h.elim
  | _ :: _, [], _, h => h.elim
  | n :: ns, d :: ds, ps, h => by
    obtain ⟨g, t, cs, fuel, p, q, h1, h2, h3, h4, hs, e⟩ := h
    simp [trodVars_len hs]
end Go.Proofs.YtonnggelpjjmmaaGreatDoor
