/-
  Texts of one claim, one behind the other.
-/
import Derived.ChangeArms
import Derived.JoinedCond
import Derived.MakeChecks
import Derived.ProofKit
import Derived.Test.YtacninhhkbglaaaGreatDoorRows
import Derived.Test.YtacninhhkbglaaaGreatDoorMgE
/-
  JoinFlight, by the model and by the program.
-/
namespace Go.Proofs.YtacninhhkbglaaaGreatDoor
open Go.ChangeShapes Go.WideShapes Go.ChangeAt Go.RowKit Go.Sort
set_option linter.unusedSimpArgs false
set_option maxRecDepth 100000 in
set_option maxHeartbeats 16000000 in
theorem implJoinF_any (E : Errs) (w : World) (x : Fl) (r : FlR) (y : Wr) (room : Int) (hf : FlFit x) (hset : SetIs w) (hE : ErrsIs w E) (hi : FlIn w x r) :
    Calls Tryz.prog 28 #[.agg #[.int .i64 x.id, .string x.key, .bool x.bk, .bool x.ot, .int .i64 x.du, .bool x.dm, .string x.m, .string x.h, .string x.p, .slice r.ha x.hs.length r.hc, .slice r.wa x.ws.length r.wc], .agg #[.int .i64 y.rq, .bool y.hd, .int .i64 y.du, .bool y.lt], .int .i64 room] w fun e w' => JnRes x y room w w' e ∧ Below w.heap.size w w' := by
  obtain ⟨W, hW⟩ : ∃ W, W = ((w.alloc (.cells #[.int .i64 x.id, .string x.key, .bool x.bk, .bool x.ot, .int .i64 x.du, .bool x.dm, .string x.m, .string x.h, .string x.p, .slice r.ha x.hs.length r.hc, .slice r.wa x.ws.length r.wc] 86)).alloc (.cells #[.int .i64 y.rq, .bool y.hd, .int .i64 y.du, .bool y.lt] 91)).alloc (.cells #[.int .i64 0, .int .i64 0, .string ⟨#[]⟩, .bool false, .bool false, .int .i64 0, .bool false, .string ⟨#[]⟩, .string ⟨#[]⟩, .string ⟨#[]⟩, .slice none 0 0, .slice none 0 0] 88) := ⟨_, rfl⟩
  have HW : Hid (W = ((w.alloc (.cells #[.int .i64 x.id, .string x.key, .bool x.bk, .bool x.ot, .int .i64 x.du, .bool x.dm, .string x.m, .string x.h, .string x.p, .slice r.ha x.hs.length r.hc, .slice r.wa x.ws.length r.wc] 86)).alloc (.cells #[.int .i64 y.rq, .bool y.hd, .int .i64 y.du, .bool y.lt] 91)).alloc (.cells #[.int .i64 0, .int .i64 0, .string ⟨#[]⟩, .bool false, .bool false, .int .i64 0, .bool false, .string ⟨#[]⟩, .string ⟨#[]⟩, .string ⟨#[]⟩, .slice none 0 0, .slice none 0 0] 88)) := hW
  have KW := hidL (show Below w.heap.size w W by rw [hW]; exact (((Below.refl _ _).alloc (Nat.le_refl _) _).alloc (by simp) _).alloc (by simp; omega) _)
  have FB := hidL (show At w.heap.size (w.heap.size + 1) (Bx w.heap.size [.int .i64 x.id, .string x.key, .bool x.bk, .bool x.ot, .int .i64 x.du, .bool x.dm, .string x.m, .string x.h, .string x.p, .slice r.ha x.hs.length r.hc, .slice r.wa x.ws.length r.wc]) W by rw [hW]; exact ((Bx.new _ [.int .i64 x.id, .string x.key, .bool x.bk, .bool x.ot, .int .i64 x.du, .bool x.dm, .string x.m, .string x.h, .string x.p, .slice r.ha x.hs.length r.hc, .slice r.wa x.ws.length r.wc] _).al _).al _)
  have FY := hidL (show At (w.heap.size + 1) (w.heap.size + 1 + 1) (Bx (w.heap.size + 1) [.int .i64 y.rq, .bool y.hd, .int .i64 y.du, .bool y.lt]) W by rw [hW]; exact (Bx.newAt (by simp) [.int .i64 y.rq, .bool y.hd, .int .i64 y.du, .bool y.lt] _).al _)
  have FZ := hidL (show At (w.heap.size + 2) (w.heap.size + 2 + 1) (Bx (w.heap.size + 2) [.int .i64 0, .int .i64 0, .string ⟨#[]⟩, .bool false, .bool false, .int .i64 0, .bool false, .string ⟨#[]⟩, .string ⟨#[]⟩, .string ⟨#[]⟩, .slice none 0 0, .slice none 0 0]) W by rw [hW]; exact Bx.newAt (by simp) [.int .i64 0, .int .i64 0, .string ⟨#[]⟩, .bool false, .bool false, .int .i64 0, .bool false, .string ⟨#[]⟩, .string ⟨#[]⟩, .string ⟨#[]⟩, .slice none 0 0, .slice none 0 0] _)
  have SW := hidL (show w.heap.size + 3 ≤ W.heap.size by rw [hW]; simp)
  have CF : Hid (∀ X, Below w.heap.size w X → Calls Tryz.prog 81 #[.agg #[.int .i64 x.id, .string x.key, .bool x.bk, .bool x.ot, .int .i64 x.du, .bool x.dm, .string x.m, .string x.h, .string x.p, .slice r.ha x.hs.length r.hc, .slice r.wa x.ws.length r.wc]] X fun e w' => e = .returned (.int .i64 (flC x)) ∧ Below X.heap.size X w') := fun X hX => implFl_any E X x r hf (hset.below hX) (hE.below hX) (hi.keep hX)
  have CT : Hid (∀ X, Calls Tryz.prog 82 #[.agg #[.int .i64 y.rq, .bool y.hd, .int .i64 y.du, .bool y.lt]] X fun e w' => e = .returned (.bool (waitOk y)) ∧ Below X.heap.size X w') := fun X => waiter_any X y
  have CI : Hid (∀ x lo hi w, Calls Tryz.prog 50 #[.int .i64 x, .int .i64 lo, .int .i64 hi] w fun r w' => r = .returned (.bool (inW lo hi x)) ∧ w' = w) := isWithin_all
  have SM : Hid (flC x = 0 → ∀ r ∈ x.hs, r.name.size ≤ 1048576 ∧ r.value.size ≤ 1048576) := fun h r hr => by
    obtain ⟨_, h2⟩ := headsC_zero (reqC_zero (flC_zero h).2.2.2.2.1).2.1
    obtain ⟨i, hi2⟩ := List.mem_iff_getElem?.1 hr
    obtain ⟨y1, y2, _⟩ := faultH_zero (h2 i r hi2)
    have := hword_max y1; omega
  have CR : Hid (∀ X, Calls Tryz.prog 83 #[.agg #[.int .i64 x.id, .string x.key, .bool x.bk, .bool x.ot, .int .i64 x.du, .bool x.dm, .string x.m, .string x.h, .string x.p, .slice r.ha x.hs.length r.hc, .slice r.wa x.ws.length r.wc]] X fun e w' => e = .returned (.agg #[.string x.key, .string x.m, .string x.h, .string x.p, .slice r.ha x.hs.length r.hc, .int .i64 x.id, .bool x.bk, .bool x.ot, .int .i64 x.du, .bool x.dm, .slice r.wa x.ws.length r.wc]) ∧ Below X.heap.size X w') := fun X => trip_any X x r
  have CH : Hid (∀ X, Below w.heap.size w X → Calls Tryz.prog 84 #[.agg #[.string x.key, .string x.m, .string x.h, .string x.p, .slice r.ha x.hs.length r.hc, .int .i64 x.id, .bool x.bk, .bool x.ot, .int .i64 x.du, .bool x.dm, .slice r.wa x.ws.length r.wc], .int .i64 y.rq] X fun e w' => e = .returned (.bool (hasR x.ws y.rq)) ∧ Below X.heap.size X w') := fun X hX => waitedBy_any X x.key x.m x.h x.p r.ha x.hs.length r.hc x.id x.bk x.ot x.du x.dm r.wa r.wc x.ws y.rq hf.w (hi.keep hX).k
  have CN : Hid (∀ X B1 B2, Below w.heap.size w X → X.cell? ⟨B2, 0, none⟩ = some (.slice r.wa x.ws.length r.wc) → X.cell? ⟨B2, 1, none⟩ = some (.slice (some ⟨B1, 0, none⟩) 1 1) → X.cell? ⟨B1, 0, none⟩ = some (.int .i64 y.rq) → X.cell? ⟨B1, 1, none⟩ = some (.bool y.hd) → X.cell? ⟨B1, 2, none⟩ = some (.int .i64 y.du) → X.cell? ⟨B1, 3, none⟩ = some (.bool y.lt) → flC x = 0 → Calls Tryz.prog 86 #[.slice (some ⟨B2, 0, none⟩) 2 2] X fun e w' => (∃ v, e = .returned v ∧ OwnWr w' X.heap.size v (x.ws ++ [y])) ∧ Below X.heap.size X w') := fun X B1 B2 hX c0 c1 d0 d1 d2 d3 h => concatWr_any X B2 r.wa (some ⟨B1, 0, none⟩) r.wc 1 x.ws [y] c0 c1 (hi.keep hX).k (.inr ⟨B1, 0, rfl, fun i z hz => by
    match i, hz with
    | 0, hz => simp only [List.getElem?_cons_zero, Option.some.injEq] at hz; subst hz; exact ⟨d0, d1, d2, d3⟩
    | i + 1, hz => simp at hz⟩) (by have := (flC_zero h).2.2.2.2.2.2.1; simp only [List.length_singleton]; omega)
  have CW : Hid (flC x = 0 → ∀ X a c, Below w.heap.size w X → WrIn X a (x.ws ++ [y]) → Calls Tryz.prog 85 #[.agg #[.string x.key, .string x.m, .string x.h, .string x.p, .slice r.ha x.hs.length r.hc, .int .i64 x.id, .bool x.bk, .bool x.ot, .int .i64 x.du, .bool x.dm, .slice r.wa x.ws.length r.wc], .slice a (x.ws ++ [y]).length c] X fun e w' => (∃ va vc xa xc, e = .returned (.agg #[.int .i64 x.id, .string x.key, .bool x.bk, .bool x.ot, .int .i64 x.du, .bool x.dm, .string x.m, .string x.h, .string x.p, .slice va x.hs.length vc, .slice xa (x.ws ++ [y]).length xc]) ∧ RowH w' X.heap.size (.slice va x.hs.length vc) x.hs ∧ OwnWr w' X.heap.size (.slice xa (x.ws ++ [y]).length xc) (x.ws ++ [y]) ∧ (∀ q, Value.ownBlock (.slice va x.hs.length vc) = some q → ∀ q', Value.ownBlock (.slice xa (x.ws ++ [y]).length xc) = some q' → q ≠ q')) ∧ Below X.heap.size X w') := fun h X a c hX hw => flightWith_any X x.id x.key x.bk x.ot x.du x.dm x.m x.h x.p r.ha r.hc x.hs r.wa x.ws.length r.wc a c (x.ws ++ [y]) hf.key hf.m hf.hh hf.p hf.h (SM.out h) (hi.keep hX).h (by have := (flC_zero h).2.2.2.2.2.2.1; simp only [List.length_append, List.length_singleton]; omega) hw
  have N10 : Hid (flC x = 0 → x.ws.length ≤ 10) := fun h => (flC_zero h).2.2.2.2.2.2.1
  obtain ⟨Q, hQ⟩ : ∃ Q : World → Ending → Prop, Q = fun w' e => JnRes x y room w w' e := ⟨_, rfl⟩
  have QB : Hid (∀ w' d, (jnC (flC x) y.rq y.du room x.ws) = d → ¬ d = 0 → w.heap.size ≤ w'.heap.size → Q w' (.returned (.agg #[.int .i64 d, .int .i64 0, .string ⟨#[]⟩, .bool false, .bool false, .int .i64 0, .bool false, .string ⟨#[]⟩, .string ⟨#[]⟩, .string ⟨#[]⟩, .slice none 0 0, .slice none 0 0]))) := fun w' d h1 h2 h3 => by rw [hQ]; exact JnRes.bad h1 h2 h3
  have QG : Hid ((jnC (flC x) y.rq y.du room x.ws) = 0 → ∀ w' ra rn rk wa wn wk, At w.heap.size w'.heap.size (FR x.hs (x.ws ++ [y]) ra rn rk wa wn wk) w' → Q w' (.returned (.agg #[.int .i64 0, .int .i64 x.id, .string x.key, .bool x.bk, .bool x.ot, .int .i64 x.du, .bool x.dm, .string x.m, .string x.h, .string x.p, .slice ra rn rk, .slice wa wn wk]))) := fun h w' ra rn rk wa wn wk k => by rw [hQ]; exact JnRes.good h k
  refine Calls.mono (R := fun e w' => Q w' e ∧ Below w.heap.size w w') ?_ (fun e w' h => by rw [hQ] at h; exact h)
  clear hQ hW hi hset hE SM
  have E1 : Hid (¬ flC x = 0 → (jnC (flC x) y.rq y.du room x.ws) = flC x) := jnC_fl
  have E2 : Hid (flC x = 0 → (timeB y.rq = false ∨ timeB y.du = false ∨ inW 1 10 room = false) → (jnC (flC x) y.rq y.du room x.ws) = 3) := fun h k => by
    rcases k with k | k | k
    · exact jnC_t1 h k
    · exact jnC_t2 h k
    · exact jnC_t3 h k
  have E4 : Hid (flC x = 0 → timeB y.rq = true → timeB y.du = true → inW 1 10 room = true → hasR x.ws y.rq = true → (jnC (flC x) y.rq y.du room x.ws) = 6) := jnC_taken
  have E5 : Hid (flC x = 0 → timeB y.rq = true → timeB y.du = true → inW 1 10 room = true → hasR x.ws y.rq = false → room ≤ (x.ws.length : Int) → (jnC (flC x) y.rq y.du room x.ws) = 7) := jnC_full
  have E6 : Hid (flC x = 0 → timeB y.rq = true → timeB y.du = true → inW 1 10 room = true → hasR x.ws y.rq = false → ¬ room ≤ (x.ws.length : Int) → (jnC (flC x) y.rq y.du room x.ws) = 0) := jnC_ok
  have EW : Hid (waitOk y = (timeB y.rq && timeB y.du)) := rfl
  have hwl := hf.w
  clear hf
  have HLA := hidL (show (x.ws ++ [y]).length = x.ws.length + 1 by simp)
  obtain ⟨k, hk⟩ : ∃ k, x.ws.length = k := ⟨_, rfl⟩
  have HK : Hid (x.ws.length = k) := hk
  obtain ⟨n, hn⟩ : ∃ n, x.hs.length = n := ⟨_, rfl⟩
  have HN : Hid (x.hs.length = n) := hn
  rw [hk] at hwl N10 CH E5 E6 HLA
  rw [hk, hn] at HW FB CF CR CW ⊢
  rw [hk] at CN
  rw [hn] at CH
  clear hk hn
  generalize (jnC (flC x) y.rq y.du room x.ws) = ec at *
  generalize flC x = fc at *
  generalize waitOk y = wo at *
  generalize hasR x.ws y.rq = hr at *
  obtain ⟨y0, y1, y2, y3⟩ := y
  simp only at HW FY CH E2 E4 E5 E6 QG ⊢ CT CN EW
  rw [HLA.out] at CW
  go_enter Tryz.func28, Tryz.ntmps28
  go_upto_region 1 with fail
  rw [← HW.out]
  clear HW
  have LB := hidL FB.out.val.1
  go_wp2_with (first | ((with_reducible refine flI_load (b := w.heap.size) (vs := [.int .i64 x.id, .string x.key, .bool x.bk, .bool x.ot, .int .i64 x.du, .bool x.dm, .string x.m, .string x.h, .string x.p, .slice r.ha n r.hc, .slice r.wa k r.wc]) ?_ ?_ LB.out ?_); exact rfl; exact rfl))
  refine (CF.out W KW.out).mono ?_
  rintro e w1 ⟨rfl, hb⟩
  have s0 := Nat.le_trans SW.out hb.size
  have K1 := hidL (KW.out.trans (hb.mono KW.out.size))
  replace FB := hidL (FB.out.keep hb)
  replace FY := hidL (FY.out.keep hb)
  replace FZ := hidL (FZ.out.keep hb)
  clear hb LB KW CF SW
  by_cases c0 : fc = 0
  · subst c0
    have LZ := hidL FZ.out.val.1
    have LZf := hidL FZ.out.val.2
    have LY := hidL FY.out.val.1
    go_wp2_with (first | ((with_reducible refine wrB_load (b := w.heap.size + 1) (vs := [.int .i64 y0, .bool y1, .int .i64 y2, .bool y3]) ?_ ?_ LY.out ?_); exact rfl; exact rfl))
    refine (CT.out _).mono ?_
    rintro r0 v0 ⟨rfl, hb⟩
    replace K1 := hidL (K1.out.trans (hb.mono K1.out.size))
    replace s0 := Nat.le_trans s0 hb.size
    replace FB := hidL (FB.out.keep hb)
    replace FY := hidL (FY.out.keep hb)
    replace FZ := hidL (FZ.out.keep hb)
    clear hb LZ LZf LY
    have LZ := hidL FZ.out.val.1
    have LZf := hidL FZ.out.val.2
    cases h1 : wo
    · have h12 : timeB y0 = false ∨ timeB y2 = false := by
        have := EW.out; rw [h1] at this
        cases q1 : timeB y0 <;> cases q2 : timeB y2 <;> simp [q1, q2] at this ⊢
      go_wp2_with (first | ((with_reducible refine flR_put (b := w.heap.size + 2) (zs := [.int .i64 0, .int .i64 0, .string ⟨#[]⟩, .bool false, .bool false, .int .i64 0, .bool false, .string ⟨#[]⟩, .string ⟨#[]⟩, .string ⟨#[]⟩, .slice none 0 0, .slice none 0 0]) (vs := [.int .i64 3, .int .i64 0, .string ⟨#[]⟩, .bool false, .bool false, .int .i64 0, .bool false, .string ⟨#[]⟩, .string ⟨#[]⟩, .string ⟨#[]⟩, .slice none 0 0, .slice none 0 0]) ?_ ?_ ?_ ?_ ?_ LZ.out LZf.out ?_); exact rfl; exact rfl; exact rfl; exact rfl; exact rfl))
      obtain ⟨VF, hVF⟩ : ∃ V, V = putAll v0 (w.heap.size + 2) 0 [.int .i64 3, .int .i64 0, .string ⟨#[]⟩, .bool false, .bool false, .int .i64 0, .bool false, .string ⟨#[]⟩, .string ⟨#[]⟩, .string ⟨#[]⟩, .slice none 0 0, .slice none 0 0] := ⟨_, rfl⟩
      rw [← hVF]
      have R : At (w.heap.size + 2) (w.heap.size + 2 + 1) (Bx (w.heap.size + 2) [.int .i64 3, .int .i64 0, .string ⟨#[]⟩, .bool false, .bool false, .int .i64 0, .bool false, .string ⟨#[]⟩, .string ⟨#[]⟩, .string ⟨#[]⟩, .slice none 0 0, .slice none 0 0]) VF := by rw [hVF]; exact Bx.putAll FZ.out [.int .i64 3, .int .i64 0, .string ⟨#[]⟩, .bool false, .bool false, .int .i64 0, .bool false, .string ⟨#[]⟩, .string ⟨#[]⟩, .string ⟨#[]⟩, .slice none 0 0, .slice none 0 0] rfl
      have KF : Below w.heap.size w VF := by rw [hVF]; exact below_putAll (by omega) [.int .i64 3, .int .i64 0, .string ⟨#[]⟩, .bool false, .bool false, .int .i64 0, .bool false, .string ⟨#[]⟩, .string ⟨#[]⟩, .string ⟨#[]⟩, .slice none 0 0, .slice none 0 0] 0 K1.out
      clear hVF
      refine bodyPost_ret (v := .agg #[.int .i64 3, .int .i64 0, .string ⟨#[]⟩, .bool false, .bool false, .int .i64 0, .bool false, .string ⟨#[]⟩, .string ⟨#[]⟩, .string ⟨#[]⟩, .slice none 0 0, .slice none 0 0]) ?_ rfl ⟨QB.out VF 3 (E2.out (by simp) (h12.elim .inl (fun q => .inr (.inl q)))) (by decide) KF.size, KF⟩
      exact results_bx rfl Tryz.underlying88 flR_size rfl R.val.1
    have h12 : timeB y0 = true ∧ timeB y2 = true := by
      have := EW.out; rw [h1] at this
      cases q1 : timeB y0 <;> cases q2 : timeB y2 <;> simp [q1, q2] at this ⊢
    go_wp2_with fail
    refine (CI.out room 1 10 _).mono ?_
    rintro r2 v2 ⟨rfl, rfl⟩
    cases h3 : inW 1 10 room
    · go_wp2_with (first | ((with_reducible refine flR_put (b := w.heap.size + 2) (zs := [.int .i64 0, .int .i64 0, .string ⟨#[]⟩, .bool false, .bool false, .int .i64 0, .bool false, .string ⟨#[]⟩, .string ⟨#[]⟩, .string ⟨#[]⟩, .slice none 0 0, .slice none 0 0]) (vs := [.int .i64 3, .int .i64 0, .string ⟨#[]⟩, .bool false, .bool false, .int .i64 0, .bool false, .string ⟨#[]⟩, .string ⟨#[]⟩, .string ⟨#[]⟩, .slice none 0 0, .slice none 0 0]) ?_ ?_ ?_ ?_ ?_ LZ.out LZf.out ?_); exact rfl; exact rfl; exact rfl; exact rfl; exact rfl))
      obtain ⟨VF, hVF⟩ : ∃ V, V = putAll v2 (w.heap.size + 2) 0 [.int .i64 3, .int .i64 0, .string ⟨#[]⟩, .bool false, .bool false, .int .i64 0, .bool false, .string ⟨#[]⟩, .string ⟨#[]⟩, .string ⟨#[]⟩, .slice none 0 0, .slice none 0 0] := ⟨_, rfl⟩
      rw [← hVF]
      have R : At (w.heap.size + 2) (w.heap.size + 2 + 1) (Bx (w.heap.size + 2) [.int .i64 3, .int .i64 0, .string ⟨#[]⟩, .bool false, .bool false, .int .i64 0, .bool false, .string ⟨#[]⟩, .string ⟨#[]⟩, .string ⟨#[]⟩, .slice none 0 0, .slice none 0 0]) VF := by rw [hVF]; exact Bx.putAll FZ.out [.int .i64 3, .int .i64 0, .string ⟨#[]⟩, .bool false, .bool false, .int .i64 0, .bool false, .string ⟨#[]⟩, .string ⟨#[]⟩, .string ⟨#[]⟩, .slice none 0 0, .slice none 0 0] rfl
      have KF : Below w.heap.size w VF := by rw [hVF]; exact below_putAll (by omega) [.int .i64 3, .int .i64 0, .string ⟨#[]⟩, .bool false, .bool false, .int .i64 0, .bool false, .string ⟨#[]⟩, .string ⟨#[]⟩, .string ⟨#[]⟩, .slice none 0 0, .slice none 0 0] 0 K1.out
      clear hVF
      refine bodyPost_ret (v := .agg #[.int .i64 3, .int .i64 0, .string ⟨#[]⟩, .bool false, .bool false, .int .i64 0, .bool false, .string ⟨#[]⟩, .string ⟨#[]⟩, .string ⟨#[]⟩, .slice none 0 0, .slice none 0 0]) ?_ rfl ⟨QB.out VF 3 (E2.out (by simp) (.inr (.inr h3))) (by decide) KF.size, KF⟩
      exact results_bx rfl Tryz.underlying88 flR_size rfl R.val.1
    clear LZ LZf CT CI EW
    have LB := hidL FB.out.val.1
    go_wp2_with (first | ((with_reducible refine flI_load (b := w.heap.size) (vs := [.int .i64 x.id, .string x.key, .bool x.bk, .bool x.ot, .int .i64 x.du, .bool x.dm, .string x.m, .string x.h, .string x.p, .slice r.ha n r.hc, .slice r.wa k r.wc]) ?_ ?_ LB.out ?_); exact rfl; exact rfl))
    refine (CR.out _).mono ?_
    rintro r3 w2 ⟨rfl, hb⟩
    obtain ⟨V, hV⟩ : ∃ V, V = w2.alloc (.cells #[.string x.key, .string x.m, .string x.h, .string x.p, .slice r.ha n r.hc, .int .i64 x.id, .bool x.bk, .bool x.ot, .int .i64 x.du, .bool x.dm, .slice r.wa k r.wc] 150) := ⟨_, rfl⟩
    have HV : Hid (V = w2.alloc (.cells #[.string x.key, .string x.m, .string x.h, .string x.p, .slice r.ha n r.hc, .int .i64 x.id, .bool x.bk, .bool x.ot, .int .i64 x.du, .bool x.dm, .slice r.wa k r.wc] 150)) := hV
    have aV : Below w2.heap.size w2 V := by rw [hV]; exact (Below.refl _ _).alloc (Nat.le_refl _) _
    have s1 := hb.size
    have sV : w2.heap.size + 1 ≤ V.heap.size := by rw [hV]; simp
    have KV := hidL ((K1.out.trans (hb.mono K1.out.size)).trans (aV.mono (Nat.le_trans K1.out.size hb.size)))
    obtain ⟨O, hO⟩ : ∃ O, w2.heap.size = O := ⟨_, rfl⟩
    have FO := hidL (show At O (O + 1) (Bx O [.string x.key, .string x.m, .string x.h, .string x.p, .slice r.ha n r.hc, .int .i64 x.id, .bool x.bk, .bool x.ot, .int .i64 x.du, .bool x.dm, .slice r.wa k r.wc]) V by rw [hV, ← hO]; exact Bx.new _ [.string x.key, .string x.m, .string x.h, .string x.p, .slice r.ha n r.hc, .int .i64 x.id, .bool x.bk, .bool x.ot, .int .i64 x.du, .bool x.dm, .slice r.wa k r.wc] _)
    replace FZ := hidL ((FZ.out.keep hb).keep aV)
    replace FY := hidL ((FY.out.keep hb).keep aV)
    rw [hO] at s1 sV
    clear hb aV hV LB FB K1 CR
    go_upto_region 7 with (first | ((with_reducible refine trI_store (c' := #[.string x.key, .string x.m, .string x.h, .string x.p, .slice r.ha n r.hc, .int .i64 x.id, .bool x.bk, .bool x.ot, .int .i64 x.du, .bool x.dm, .slice r.wa k r.wc]) ?_ ?_ ?_ ?_ ?_ ?_); exact rfl; exact rfl; exact rfl; exact rfl; exact rfl))
    rw [← HV.out]
    clear HV
    try rw [hO]
    have LO := hidL FO.out.val.1
    have q0 := FY.out.val.1 0 _ rfl
    go_wp2_with (first | ((with_reducible refine trI_load (b := O) (vs := [.string x.key, .string x.m, .string x.h, .string x.p, .slice r.ha n r.hc, .int .i64 x.id, .bool x.bk, .bool x.ot, .int .i64 x.du, .bool x.dm, .slice r.wa k r.wc]) ?_ ?_ LO.out ?_); exact rfl; exact rfl))
    refine (CH.out _ KV.out).mono ?_
    rintro r4 w3 ⟨rfl, hb⟩
    replace KV := hidL (KV.out.trans (hb.mono KV.out.size))
    have s2 := hb.size
    replace FO := hidL (FO.out.keep hb)
    replace FY := hidL (FY.out.keep hb)
    replace FZ := hidL (FZ.out.keep hb)
    clear hb LO q0
    have LZ := hidL FZ.out.val.1
    have LZf := hidL FZ.out.val.2
    cases h4 : hr
    rotate_left
    · go_wp2_with (first | ((with_reducible refine flR_put (b := w.heap.size + 2) (zs := [.int .i64 0, .int .i64 0, .string ⟨#[]⟩, .bool false, .bool false, .int .i64 0, .bool false, .string ⟨#[]⟩, .string ⟨#[]⟩, .string ⟨#[]⟩, .slice none 0 0, .slice none 0 0]) (vs := [.int .i64 6, .int .i64 0, .string ⟨#[]⟩, .bool false, .bool false, .int .i64 0, .bool false, .string ⟨#[]⟩, .string ⟨#[]⟩, .string ⟨#[]⟩, .slice none 0 0, .slice none 0 0]) ?_ ?_ ?_ ?_ ?_ LZ.out LZf.out ?_); exact rfl; exact rfl; exact rfl; exact rfl; exact rfl))
      obtain ⟨VF, hVF⟩ : ∃ V, V = putAll w3 (w.heap.size + 2) 0 [.int .i64 6, .int .i64 0, .string ⟨#[]⟩, .bool false, .bool false, .int .i64 0, .bool false, .string ⟨#[]⟩, .string ⟨#[]⟩, .string ⟨#[]⟩, .slice none 0 0, .slice none 0 0] := ⟨_, rfl⟩
      rw [← hVF]
      have R : At (w.heap.size + 2) (w.heap.size + 2 + 1) (Bx (w.heap.size + 2) [.int .i64 6, .int .i64 0, .string ⟨#[]⟩, .bool false, .bool false, .int .i64 0, .bool false, .string ⟨#[]⟩, .string ⟨#[]⟩, .string ⟨#[]⟩, .slice none 0 0, .slice none 0 0]) VF := by rw [hVF]; exact Bx.putAll FZ.out [.int .i64 6, .int .i64 0, .string ⟨#[]⟩, .bool false, .bool false, .int .i64 0, .bool false, .string ⟨#[]⟩, .string ⟨#[]⟩, .string ⟨#[]⟩, .slice none 0 0, .slice none 0 0] rfl
      have KF : Below w.heap.size w VF := by rw [hVF]; exact below_putAll (by omega) [.int .i64 6, .int .i64 0, .string ⟨#[]⟩, .bool false, .bool false, .int .i64 0, .bool false, .string ⟨#[]⟩, .string ⟨#[]⟩, .string ⟨#[]⟩, .slice none 0 0, .slice none 0 0] 0 KV.out
      clear hVF
      refine bodyPost_ret (v := .agg #[.int .i64 6, .int .i64 0, .string ⟨#[]⟩, .bool false, .bool false, .int .i64 0, .bool false, .string ⟨#[]⟩, .string ⟨#[]⟩, .string ⟨#[]⟩, .slice none 0 0, .slice none 0 0]) ?_ rfl ⟨QB.out VF 6 (E4.out (by simp) h12.1 h12.2 h3 h4) (by decide) KF.size, KF⟩
      exact results_bx rfl Tryz.underlying88 flR_size rfl R.val.1
    have o10 := FO.out.val.1 10 _ rfl
    by_cases h5 : room ≤ (k : Int)
    · go_wp2_with (first | ((with_reducible refine flR_put (b := w.heap.size + 2) (zs := [.int .i64 0, .int .i64 0, .string ⟨#[]⟩, .bool false, .bool false, .int .i64 0, .bool false, .string ⟨#[]⟩, .string ⟨#[]⟩, .string ⟨#[]⟩, .slice none 0 0, .slice none 0 0]) (vs := [.int .i64 7, .int .i64 0, .string ⟨#[]⟩, .bool false, .bool false, .int .i64 0, .bool false, .string ⟨#[]⟩, .string ⟨#[]⟩, .string ⟨#[]⟩, .slice none 0 0, .slice none 0 0]) ?_ ?_ ?_ ?_ ?_ LZ.out LZf.out ?_); exact rfl; exact rfl; exact rfl; exact rfl; exact rfl))
      obtain ⟨VF, hVF⟩ : ∃ V, V = putAll w3 (w.heap.size + 2) 0 [.int .i64 7, .int .i64 0, .string ⟨#[]⟩, .bool false, .bool false, .int .i64 0, .bool false, .string ⟨#[]⟩, .string ⟨#[]⟩, .string ⟨#[]⟩, .slice none 0 0, .slice none 0 0] := ⟨_, rfl⟩
      rw [← hVF]
      have R : At (w.heap.size + 2) (w.heap.size + 2 + 1) (Bx (w.heap.size + 2) [.int .i64 7, .int .i64 0, .string ⟨#[]⟩, .bool false, .bool false, .int .i64 0, .bool false, .string ⟨#[]⟩, .string ⟨#[]⟩, .string ⟨#[]⟩, .slice none 0 0, .slice none 0 0]) VF := by rw [hVF]; exact Bx.putAll FZ.out [.int .i64 7, .int .i64 0, .string ⟨#[]⟩, .bool false, .bool false, .int .i64 0, .bool false, .string ⟨#[]⟩, .string ⟨#[]⟩, .string ⟨#[]⟩, .slice none 0 0, .slice none 0 0] rfl
      have KF : Below w.heap.size w VF := by rw [hVF]; exact below_putAll (by omega) [.int .i64 7, .int .i64 0, .string ⟨#[]⟩, .bool false, .bool false, .int .i64 0, .bool false, .string ⟨#[]⟩, .string ⟨#[]⟩, .string ⟨#[]⟩, .slice none 0 0, .slice none 0 0] 0 KV.out
      clear hVF
      refine bodyPost_ret (v := .agg #[.int .i64 7, .int .i64 0, .string ⟨#[]⟩, .bool false, .bool false, .int .i64 0, .bool false, .string ⟨#[]⟩, .string ⟨#[]⟩, .string ⟨#[]⟩, .slice none 0 0, .slice none 0 0]) ?_ rfl ⟨QB.out VF 7 (E5.out (by simp) h12.1 h12.2 h3 h4 h5) (by decide) KF.size, KF⟩
      exact results_bx rfl Tryz.underlying88 flR_size rfl R.val.1
    have h10 := N10.out (by simp)
    have EC := hidL (E6.out (by simp) h12.1 h12.2 h3 h4 (by omega))
    replace QG := hidL (QG.out EC.out)
    replace CW := hidL (CW.out (by simp))
    clear h12 h3 h4 E1 E2 E4 E5 E6 QB N10 CH LZ LZf
    go_upto_region 11 with fail
    clear o10
    have HKS : Hid (∀ X, Below w3.heap.size w3 X → (fun Y : World => Y.rangeAt O 0 [.string x.key, .string x.m, .string x.h, .string x.p, .slice r.ha n r.hc, .int .i64 x.id, .bool x.bk, .bool x.ot, .int .i64 x.du, .bool x.dm, .slice r.wa k r.wc] ∧ Y.rangeAt (w.heap.size + 1) 0 [.int .i64 y0, .bool y1, .int .i64 y2, .bool y3] ∧ Y.cell? ⟨O, 10, none⟩ = some (.slice r.wa k r.wc)) X) := fun X hX => ⟨range_of (FO.out.keep hX).val.1, range_of (FY.out.keep hX).val.1, (FO.out.keep hX).val.1 10 _ rfl⟩
    have B0 : Hid (Below w3.heap.size w3 w3.drew) := (Below.refl _ _).drew
    have HS0 := HKS.out _ B0.out
    refine wp_region_last (fun Y : World => Y.rangeAt O 0 [.string x.key, .string x.m, .string x.h, .string x.p, .slice r.ha n r.hc, .int .i64 x.id, .bool x.bk, .bool x.ot, .int .i64 x.du, .bool x.dm, .slice r.wa k r.wc] ∧ Y.rangeAt (w.heap.size + 1) 0 [.int .i64 y0, .bool y1, .int .i64 y2, .bool y3] ∧ Y.cell? ⟨O, 10, none⟩ = some (.slice r.wa k r.wc)) 9 (by kernel_rfl) ?_
    refine butLast_take (i := 0) (oi := _) (v := .agg #[.string x.key, .string x.m, .string x.h, .string x.p, .slice r.ha n r.hc, .int .i64 x.id, .bool x.bk, .bool x.ot, .int .i64 x.du, .bool x.dm, .slice r.wa k r.wc]) rfl (by kernel_rfl) (by kernel_rfl) (by kernel_rfl) (by kernel_rfl) (fun _ _ _ h => h) (yieldsIf_load_mid (by rfl) _ _ rfl O 0 rfl _ _ (fun _ h => h.1) Tryz.underlying150 rfl trI_size) HS0 ?_
    try simp only [Act.put, List.setIfInBounds_toArray, List.set_cons_zero, List.set_cons_succ]
    refine butLast_take (i := 1) (oi := _) (v := .pointer (some ⟨O, 10, none⟩)) rfl (by kernel_rfl) (by kernel_rfl) (by kernel_rfl) (by kernel_rfl) (fun _ _ _ h => h) (Or.inl ⟨by kernel_rfl, ?_⟩) HS0 ?_
    · rintro X ⟨s1, s2, s3⟩
      go_simp
    try simp only [Act.put, List.setIfInBounds_toArray, List.set_cons_zero, List.set_cons_succ]
    refine butLast_take (i := 2) (oi := _) (v := .slice r.wa k r.wc) rfl (by kernel_rfl) (by kernel_rfl) (by kernel_rfl) (by kernel_rfl) (fun _ _ _ h => h) (Or.inl ⟨by kernel_rfl, ?_⟩) HS0 ?_
    · rintro X ⟨s1, s2, s3⟩
      go_simp
    try simp only [Act.put, List.setIfInBounds_toArray, List.set_cons_zero, List.set_cons_succ]
    refine butLast_take (i := 3) (oi := _) (v := .agg #[.int .i64 y0, .bool y1, .int .i64 y2, .bool y3]) rfl (by kernel_rfl) (by kernel_rfl) (by kernel_rfl) (by kernel_rfl) (fun _ _ _ h => h) (yieldsIf_load_mid (by rfl) _ _ rfl (w.heap.size + 1) 0 rfl _ _ (fun _ h => h.2.1) Tryz.underlying91 rfl wrB_size) HS0 ?_
    try simp only [Act.put, List.setIfInBounds_toArray, List.set_cons_zero, List.set_cons_succ]
    refine butLast_one (i := 4) rfl (by kernel_rfl) (fun K hK => ?_)
    go_simp
    have BA : Hid (Below w3.heap.size w3 ((w3.alloc (.cells #[.int .i64 y0, .bool y1, .int .i64 y2, .bool y3] 91)).drew)) := ((Below.refl _ _).alloc (Nat.le_refl _) _).drew
    refine hK _ _ (.inr (HKS.out _ BA.out)) ?_
    clear hK K
    try simp only [Act.put, List.setIfInBounds_toArray, List.set_cons_zero, List.set_cons_succ]
    refine butLast_one (i := 5) rfl (by kernel_rfl) (fun K hK => ?_)
    go_simp
    have BB : Hid (Below w3.heap.size w3 (((w3.alloc (.cells #[.int .i64 y0, .bool y1, .int .i64 y2, .bool y3] 91)).alloc (.cells #[.slice r.wa k r.wc, .slice (some ⟨w3.heap.size, 0, none⟩) 1 1] 84)).drew)) := (((Below.refl _ _).alloc (Nat.le_refl _) _).alloc (by simp) _).drew
    refine hK _ _ (.inr (HKS.out _ BB.out)) ?_
    clear hK K
    try simp only [Act.put, List.setIfInBounds_toArray, List.set_cons_zero, List.set_cons_succ]
    obtain ⟨D, hD⟩ : ∃ D, D = ((w3.alloc (.cells #[.int .i64 y0, .bool y1, .int .i64 y2, .bool y3] 91)).alloc (.cells #[.slice r.wa k r.wc, .slice (some ⟨w3.heap.size, 0, none⟩) 1 1] 84)).drew := ⟨_, rfl⟩
    have HD := hidL hD
    have c0 : D.cell? ⟨w3.heap.size + 1, 0, none⟩ = some (.slice r.wa k r.wc) := by rw [hD]; simp
    have c1 : D.cell? ⟨w3.heap.size + 1, 1, none⟩ = some (.slice (some ⟨w3.heap.size, 0, none⟩) 1 1) := by rw [hD]; simp
    have d0 : D.cell? ⟨w3.heap.size, 0, none⟩ = some (.int .i64 y0) := by rw [hD]; simp
    have d1 : D.cell? ⟨w3.heap.size, 1, none⟩ = some (.bool y1) := by rw [hD]; simp
    have d2 : D.cell? ⟨w3.heap.size, 2, none⟩ = some (.int .i64 y2) := by rw [hD]; simp
    have d3 : D.cell? ⟨w3.heap.size, 3, none⟩ = some (.bool y3) := by rw [hD]; simp
    rw [← hD]
    rw [← hD] at BB
    clear hD HD
    have CNN := hidL (CN.out D w3.heap.size (w3.heap.size + 1) (KV.out.trans (BB.out.mono KV.out.size)) c0 c1 d0 d1 d2 d3 (by simp))
    clear c0 c1 d0 d1 d2 d3 CN BA HS0
    have sD := BB.out.size
    refine butLast_one (i := 6) rfl (by kernel_rfl) (fun K hK => ?_)
    go_simp
    refine CNN.out.mono ?_
    rintro e0 w4 ⟨⟨v4, rfl, ow⟩, hb⟩
    have BC : Hid (Below w3.heap.size w3 w4) := BB.out.trans (hb.mono BB.out.size)
    obtain ⟨a4, c4, rfl, _, wi4⟩ := OwnWr.in ow
    rw [HLA.out]
    have WI4 := hidL wi4
    have s4 := hb.size
    clear hb ow wi4 CNN
    refine hK _ _ (.inr (HKS.out _ BC.out)) ?_
    clear hK K
    try simp only [Act.put, List.setIfInBounds_toArray, List.set_cons_zero, List.set_cons_succ]
    refine butLast_one (i := 7) rfl (by kernel_rfl) (fun K hK => ?_)
    go_simp
    refine (CW.out w4 a4 c4 (KV.out.trans (BC.out.mono KV.out.size)) WI4.out).mono ?_
    rintro e0 w5 ⟨⟨va, vc, xa, xc, rfl, hh, hw2, hap⟩, hb⟩
    have BD : Hid (Below w3.heap.size w3 w5) := BC.out.trans (hb.mono BC.out.size)
    have HH := hidL hh
    have HW2 := hidL hw2
    have HAP := hidL hap
    have s5 := hb.size
    clear hb hh hw2 hap WI4 CW
    refine hK _ _ (.inr (HKS.out _ BD.out)) ?_
    clear hK K
    try simp only [Act.put, List.setIfInBounds_toArray, List.set_cons_zero, List.set_cons_succ]
    refine butLast_one (i := 8) rfl (by kernel_rfl) (fun K hK => ?_)
    go_simp
    refine hK _ _ (.inr (HKS.out _ BD.out)) ?_
    clear hK K
    try simp only [Act.put, List.setIfInBounds_toArray, List.set_cons_zero, List.set_cons_succ]
    replace FZ := hidL (FZ.out.keep BD.out)
    have LZ := hidL FZ.out.val.1
    have LZf := hidL FZ.out.val.2
    refine butLast_one (i := 9) rfl (by kernel_rfl) (fun K hK => ?_)
    simp only [List.getElem_toArray, List.getElem_cons_succ, List.getElem_cons_zero]
    rw [if_pos (by simp [Region.wanted])]
    with_reducible refine flRNew_put (b := w.heap.size + 2) (zs := [.int .i64 0, .int .i64 0, .string ⟨#[]⟩, .bool false, .bool false, .int .i64 0, .bool false, .string ⟨#[]⟩, .string ⟨#[]⟩, .string ⟨#[]⟩, .slice none 0 0, .slice none 0 0]) (vs := [.int .i64 0, .int .i64 x.id, .string x.key, .bool x.bk, .bool x.ot, .int .i64 x.du, .bool x.dm, .string x.m, .string x.h, .string x.p, .slice va n vc, .slice xa (k + 1) xc]) ?_ ?_ ?_ ?_ ?_ LZ.out LZf.out ?_
    · rfl
    · rfl
    · rfl
    · rfl
    · rfl
    refine hK _ _ (.inl rfl) ?_
    clear hK K
    try simp only [Act.put, List.setIfInBounds_toArray, List.set_cons_zero, List.set_cons_succ]
    refine butLast_end (by kernel_rfl) ?_
    have KE := hidL (KV.out.trans (BD.out.mono KV.out.size))
    have a1 := RowH.hl HH.out (b := w.heap.size) (by omega) (by omega)
    have a2 := OwnWr.wl HW2.out (b := w.heap.size) (by omega) (by omega)
    have g1 := row_stretch HH.out (b := w.heap.size) (by omega) (by omega)
    have g2 := row_stretch HW2.out (b := w.heap.size) (by omega) (by omega)
    have t1 := s_off (v := .slice va n vc) (b := w.heap.size) (c := w.heap.size + 3) (fun q hq => by have := row_ge HH.out q hq; omega)
    have t2 := s_off (v := .slice xa (k + 1) xc) (b := w.heap.size) (c := w.heap.size + 3) (fun q hq => by have := row_ge HW2.out q hq; omega)
    have t3 := s_apart (b := w.heap.size) (v := .slice va n vc) (u := .slice xa (k + 1) xc) (fun q hq e => HAP.out q hq q e rfl) (fun q hq => by have := row_ge HH.out q hq; omega) (fun q hq => by have := row_ge HW2.out q hq; omega)
    obtain ⟨VF, hVF⟩ : ∃ V, V = putAll w5 (w.heap.size + 2) 0 [.int .i64 0, .int .i64 x.id, .string x.key, .bool x.bk, .bool x.ot, .int .i64 x.du, .bool x.dm, .string x.m, .string x.h, .string x.p, .slice va n vc, .slice xa (k + 1) xc] := ⟨_, rfl⟩
    rw [← hVF]
    have R : At (w.heap.size + 2) (w.heap.size + 2 + 1) (Bx (w.heap.size + 2) [.int .i64 0, .int .i64 x.id, .string x.key, .bool x.bk, .bool x.ot, .int .i64 x.du, .bool x.dm, .string x.m, .string x.h, .string x.p, .slice va n vc, .slice xa (k + 1) xc]) VF := by rw [hVF]; exact Bx.putAll FZ.out [.int .i64 0, .int .i64 x.id, .string x.key, .bool x.bk, .bool x.ot, .int .i64 x.du, .bool x.dm, .string x.m, .string x.h, .string x.p, .slice va n vc, .slice xa (k + 1) xc] rfl
    have KF : Below w.heap.size w VF := by rw [hVF]; exact below_putAll (by omega) [.int .i64 0, .int .i64 x.id, .string x.key, .bool x.bk, .bool x.ot, .int .i64 x.du, .bool x.dm, .string x.m, .string x.h, .string x.p, .slice va n vc, .slice xa (k + 1) xc] 0 KE.out
    have eA := And.intro (At.putAll (X := w5) (b := w.heap.size + 2) (by omega) [.int .i64 0, .int .i64 x.id, .string x.key, .bool x.bk, .bool x.ot, .int .i64 x.du, .bool x.dm, .string x.m, .string x.h, .string x.p, .slice va n vc, .slice xa (k + 1) xc] 0 a1) (At.putAll (X := w5) (b := w.heap.size + 2) (by omega) [.int .i64 0, .int .i64 x.id, .string x.key, .bool x.bk, .bool x.ot, .int .i64 x.du, .bool x.dm, .string x.m, .string x.h, .string x.p, .slice va n vc, .slice xa (k + 1) xc] 0 a2)
    rw [← hVF] at eA
    obtain ⟨d1, d2⟩ := eA
    have i1 := (d1.val.in rfl).1
    have i2 := d2.val.in.1
    clear hVF
    have QQ := QG.out VF _ _ _ _ _ _ ⟨Nat.le_refl _, FR.dep _ _ _ _ _ _ _ _ _ _, ⟨i1, i2⟩, _, _, _, _, ⟨g1.1, s_le _ _, d1.le⟩, ⟨g2.1, s_le _ _, d2.le⟩, t3, d1, d2⟩
    clear HKS BB BC BD KE QG a1 a2 g1 g2 t1 t2 t3 d1 d2 i1 i2 LZ LZf FZ FY FO HH HW2 HAP B0
    go_wp2_with fail
    refine bodyPost_ret (v := .agg #[.int .i64 0, .int .i64 x.id, .string x.key, .bool x.bk, .bool x.ot, .int .i64 x.du, .bool x.dm, .string x.m, .string x.h, .string x.p, .slice va n vc, .slice xa (k + 1) xc]) ?_ rfl ⟨QQ, KF⟩
    exact results_bx rfl Tryz.underlying88 flR_size rfl R.val.1
  · have LZ := hidL FZ.out.val.1
    have LZf := hidL FZ.out.val.2
    go_wp2_with (first | ((with_reducible refine flR_put (b := w.heap.size + 2) (zs := [.int .i64 0, .int .i64 0, .string ⟨#[]⟩, .bool false, .bool false, .int .i64 0, .bool false, .string ⟨#[]⟩, .string ⟨#[]⟩, .string ⟨#[]⟩, .slice none 0 0, .slice none 0 0]) (vs := [.int .i64 fc, .int .i64 0, .string ⟨#[]⟩, .bool false, .bool false, .int .i64 0, .bool false, .string ⟨#[]⟩, .string ⟨#[]⟩, .string ⟨#[]⟩, .slice none 0 0, .slice none 0 0]) ?_ ?_ ?_ ?_ ?_ LZ.out LZf.out ?_); exact rfl; exact rfl; exact rfl; exact rfl; exact rfl))
    obtain ⟨VF, hVF⟩ : ∃ V, V = putAll w1 (w.heap.size + 2) 0 [.int .i64 fc, .int .i64 0, .string ⟨#[]⟩, .bool false, .bool false, .int .i64 0, .bool false, .string ⟨#[]⟩, .string ⟨#[]⟩, .string ⟨#[]⟩, .slice none 0 0, .slice none 0 0] := ⟨_, rfl⟩
    rw [← hVF]
    have R : At (w.heap.size + 2) (w.heap.size + 2 + 1) (Bx (w.heap.size + 2) [.int .i64 fc, .int .i64 0, .string ⟨#[]⟩, .bool false, .bool false, .int .i64 0, .bool false, .string ⟨#[]⟩, .string ⟨#[]⟩, .string ⟨#[]⟩, .slice none 0 0, .slice none 0 0]) VF := by rw [hVF]; exact Bx.putAll FZ.out [.int .i64 fc, .int .i64 0, .string ⟨#[]⟩, .bool false, .bool false, .int .i64 0, .bool false, .string ⟨#[]⟩, .string ⟨#[]⟩, .string ⟨#[]⟩, .slice none 0 0, .slice none 0 0] rfl
    have KF : Below w.heap.size w VF := by rw [hVF]; exact below_putAll (by omega) [.int .i64 fc, .int .i64 0, .string ⟨#[]⟩, .bool false, .bool false, .int .i64 0, .bool false, .string ⟨#[]⟩, .string ⟨#[]⟩, .string ⟨#[]⟩, .slice none 0 0, .slice none 0 0] 0 K1.out
    clear hVF
    refine bodyPost_ret (v := .agg #[.int .i64 fc, .int .i64 0, .string ⟨#[]⟩, .bool false, .bool false, .int .i64 0, .bool false, .string ⟨#[]⟩, .string ⟨#[]⟩, .string ⟨#[]⟩, .slice none 0 0, .slice none 0 0]) ?_ rfl ⟨QB.out VF fc (E1.out c0) c0 KF.size, KF⟩
    exact results_bx rfl Tryz.underlying88 flR_size rfl R.val.1
end Go.Proofs.YtacninhhkbglaaaGreatDoor
/-
  The law of JoinFlight.
-/
namespace Go.Proofs.YtacninhhkbglaaaGreatDoor
open Go.ChangeShapes Go.WideShapes Go.ChangeAt Go.RowKit Go.Sort
theorem jnLens (x : Fl) (y : Wr) (room : Int) : (exL (jnC (flC x) y.rq y.du room x.ws) x.hs).length ≤ 20 ∧ (exL (jnC (flC x) y.rq y.du room x.ws) (x.ws ++ [y])).length ≤ 11 := by
  by_cases h : (jnC (flC x) y.rq y.du room x.ws) = 0
  · have h2 : flC x = 0 := by
      by_cases c : flC x = 0
      · exact c
      · rw [jnC_fl c] at h; exact absurd h c
    obtain ⟨_, _, _, _, h5, _, h7, _⟩ := flC_zero h2
    have h6 := (headsC_zero (reqC_zero h5).2.1).1
    unfold exL
    rw [if_pos h, if_pos h]
    simp only [List.length_append, List.length_singleton]
    omega
  · unfold exL
    rw [if_neg h, if_neg h]
    simp
theorem jnFit {x : Fl} (h : ¬ (szF 1048576 x.key x.m x.h x.p x.hs x.ws.length) < 0) : FlFit x := by
  obtain ⟨a, b, c, d, e, f, _⟩ := szF_room (by omega) h
  exact ⟨a, b, c, d, e, f⟩
set_option maxHeartbeats 1000000 in
theorem toWr1_any (X : World) (y : Wr) : Calls Tryz.prog 27 #[.agg #[.int .i64 y.rq, .bool y.hd, .int .i64 y.du, .bool y.lt]] X fun e w' => e = .returned (.agg #[.int .i64 y.rq, .bool y.hd, .int .i64 y.du, .bool y.lt]) ∧ Below X.heap.size X w' := (toWr_any y X).mono fun _ _ ⟨h1, h2⟩ => ⟨h1, h2⟩
set_option maxHeartbeats 4000000 in
theorem lawJoinFlight (E : Errs) (w : World) (x : Fl) (r : FlR) (y : Wr) (room : Int) (hset : SetIs w) (hE : ErrsIs w E) (hi : FlIn w x r) (hs : FlSm x) :
    Calls Tryz.prog 7 #[.agg #[.int .i64 x.id, .string x.key, .bool x.bk, .bool x.ot, .int .i64 x.du, .bool x.dm, .string x.m, .string x.h, .string x.p, .slice r.ha x.hs.length r.hc, .slice r.wa x.ws.length r.wc], .agg #[.int .i64 y.rq, .bool y.hd, .int .i64 y.du, .bool y.lt], .int .i64 room] w fun e w' => e = .returned (.bool true) ∧ Below w.heap.size w w' := by
  have ll := jnLens x y room
  refine walk_Join w x.id x.key x.bk x.ot x.du x.dm x.m x.h x.p r.ha x.hs.length r.hc r.wa x.ws.length r.wc y.rq y.hd y.du y.lt room (jnC (flC x) y.rq y.du room x.ws) (exI (jnC (flC x) y.rq y.du room x.ws) x.id) (exS (jnC (flC x) y.rq y.du room x.ws) x.key) (exB (jnC (flC x) y.rq y.du room x.ws) x.bk) (exB (jnC (flC x) y.rq y.du room x.ws) x.ot) (exI (jnC (flC x) y.rq y.du room x.ws) x.du) (exB (jnC (flC x) y.rq y.du room x.ws) x.dm) (exS (jnC (flC x) y.rq y.du room x.ws) x.m) (exS (jnC (flC x) y.rq y.du room x.ws) x.h) (exS (jnC (flC x) y.rq y.du room x.ws) x.p) (szF 1048576 x.key x.m x.h x.p x.hs x.ws.length) (CFl x) (FR (exL (jnC (flC x) y.rq y.du room x.ws) x.hs) (exL (jnC (flC x) y.rq y.du room x.ws) (x.ws ++ [y]))) (FRm (exL (jnC (flC x) y.rq y.du room x.ws) x.hs) (exL (jnC (flC x) y.rq y.du room x.ws) (x.ws ++ [y]))) ((1 + 2 * x.hs.length + x.ws.length * 4 : Nat) : Int) ((1 + 2 * (exL (jnC (flC x) y.rq y.du room x.ws) x.hs).length + (exL (jnC (flC x) y.rq y.du room x.ws) (x.ws ++ [y])).length * 4 : Nat) : Int) ?_ ?_ ?_ ?_ ?_ ?_ ?_ ?_ ?_ ?_ ?_ ?_
  · exact fun X hX => szFlight_any X x.id x.key x.bk x.ot x.du x.dm x.m x.h x.p r.ha r.hc r.wa r.wc x.hs x.ws 1048576 (by omega) (by omega) hs.key hs.m hs.h hs.p hs.hl hs.hs hs.wl (hi.h.keep hX)
  · exact fun h X hX => flA_T w x r (jnFit h) hi X hX
  · exact fun h X la ha lb hb Kx Dx Ky Dy c d => flA_Q x (jnFit h) X la ha lb hb Kx Dx Ky Dy c d
  · exact fun h X l h2 K D c hb => flA_M x (jnFit h) w.heap.size X l h2 K D c hb
  · exact fun _ X => toWr1_any X y
  · exact fun h X l h2 K D _ c => specJoinF_any X x ⟨some ⟨K, 0, none⟩, x.hs.length, some ⟨D, 0, none⟩, x.ws.length⟩ y room (jnFit h) c.val.in
  · exact fun h X l h2 K D hX c => implJoinF_any E X x ⟨some ⟨K, 0, none⟩, x.hs.length, some ⟨D, 0, none⟩, x.ws.length⟩ y room (jnFit h) (hset.below hX) (hE.below hX) c.val.in
  · intro h X la ha lb hb xa xn xk ya yn yk xa2 xn2 xk2 ya2 yn2 yk2 c d
    obtain ⟨⟨rfl, rfl⟩, _, _, _, _, _, _, _, a1, a2⟩ := c.val
    obtain ⟨⟨rfl, rfl⟩, _, _, _, _, _, _, _, b1, b2⟩ := d.val
    exact jnEq X _ _ _ _ _ _ _ _ _ _ xa xk ya yk xa2 xk2 ya2 yk2 (exL (jnC (flC x) y.rq y.du room x.ws) x.hs) (exL (jnC (flC x) y.rq y.du room x.ws) (x.ws ++ [y])) (by omega) (by omega) (a1.val.in rfl).2 a2.val.in.2 (b1.val.in rfl).2 b2.val.in.2
  · intro h X l h2 xa xn xk ya yn yk hX c hb
    obtain ⟨⟨rfl, rfl⟩, _⟩ := c.val
    exact jnMark X _ _ _ _ _ _ _ _ _ _ xa _ xk ya _ yk (exL (jnC (flC x) y.rq y.du room x.ws) x.hs) (exL (jnC (flC x) y.rq y.du room x.ws) (x.ws ++ [y])) l h2 w.heap.size c hb hX.size (by omega) (by omega)
  · intro h X l h2 xa xn xk ya yn yk c
    obtain ⟨⟨rfl, rfl⟩, _⟩ := c.val
    exact jnHeld X _ _ _ _ _ _ _ _ _ _ xa _ xk ya _ yk (exL (jnC (flC x) y.rq y.du room x.ws) x.hs) (exL (jnC (flC x) y.rq y.du room x.ws) (x.ws ++ [y])) l h2 c (by omega) (by omega)
  · omega
  · omega
end Go.Proofs.YtacninhhkbglaaaGreatDoor
/-
  Head lines that came in, opened.
-/
namespace Go.Proofs.YtacninhhkbglaaaGreatDoor
open Go.ChangeShapes Go.WideShapes Go.ChangeAt Go.RowKit Go.Deep
theorem headerCells : Tryz.prog.cellsOf 289 = 2 := by kernel_rfl
theorem hOneS : Tryz.prog.cellsOf 9 = 1 := by kernel_rfl
theorem hdr_of {H : Type} {enc : TypeId × Value → H} {w : World} {base : Nat} {spare : Nat → Bool} {held : Bool} {fuel : Nat} {cs : List Value} {x : DataW H × List MemPlace}
    (h : DataW.trod enc Tryz.prog w base spare held fuel 289 cs = some x) : ∃ r : Hdr, cs = [.string r.name, .string r.value] ∧ r.name.size ≤ maxLen ∧ r.value.size ≤ maxLen := by
  obtain ⟨y0, y1, n, _, hl, h0, h2⟩ := trod_struct2 Tryz.underlying289 h
  rw [headerCells] at hl
  simp only [hOneS] at h0 h2
  obtain ⟨s0, e0, _, z0⟩ := DataW.trod_string Tryz.underlying9 h0
  obtain ⟨s2, e2, _, z2⟩ := DataW.trod_string Tryz.underlying9 h2
  match cs, hl with
  | [c0, c2], _ =>
    simp only [List.drop_zero, List.take_succ_cons, List.take_zero, List.drop_succ_cons, List.cons.injEq, and_true] at e0 e2
    exact ⟨⟨s0, s2⟩, by rw [e0, e2], z0, z2⟩
theorem open_headers {H : Type} {enc : TypeId × Value → H} {w : World} {base : Nat} {spare : Nat → Bool} {held : Bool} {fuel : Nat} {a : Option Addr} {len cap : Nat} {x : DataW H × List MemPlace}
    (h : DataW.trod enc Tryz.prog w base spare held fuel 72 [.slice a len cap] = some x) :
    ∃ l : List Hdr, l.length = len ∧ len ≤ maxLen ∧ SmallHdrs l ∧ (l = [] ∨ ∃ b off, a = some ⟨b, off, none⟩ ∧ HeadsAt w b off l) := by
  rcases open_slice Tryz.underlying72 h with ⟨hcs, _⟩ | ⟨A, len', cap', m, n, D, Pl, hcs, _, hl, hm, hmm, _, hel⟩
  · simp only [List.cons.injEq, Value.slice.injEq, and_true] at hcs
    obtain ⟨_, rfl, _⟩ := hcs
    exact ⟨[], rfl, by unfold maxLen; omega, fun i r hr => by simp at hr, .inl rfl⟩
  · simp only [List.cons.injEq, Value.slice.injEq, and_true] at hcs
    obtain ⟨rfl, rfl, rfl⟩ := hcs
    have hlm : len ≤ m := by rw [hmm]; split <;> omega
    have hrec : ∀ i, i < len → ∃ r : Hdr, w.cells? base (A.add (i * 2)) 2 = some [.string r.name, .string r.value] ∧ r.name.size ≤ maxLen ∧ r.value.size ≤ maxLen := by
      intro i hi
      obtain ⟨cs', hc, ht⟩ := hel i (by omega)
      rw [headerCells] at hc
      obtain ⟨r, rfl, z⟩ := hdr_of ht
      exact ⟨r, hc, z⟩
    obtain ⟨f, hf⟩ : ∃ f : Nat → Hdr, ∀ i, i < len → w.cells? base (A.add (i * 2)) 2 = some [.string (f i).name, .string (f i).value] ∧ (f i).name.size ≤ maxLen ∧ (f i).value.size ≤ maxLen := by
      classical
      refine ⟨fun i => if hi : i < len then (hrec i hi).choose else ⟨.empty, .empty⟩, fun i hi => ?_⟩
      simp only [dif_pos hi]
      exact (hrec i hi).choose_spec
    refine ⟨(List.range len).map f, by simp, by omega, ?_, ?_⟩
    · intro i r hr
      rw [List.getElem?_map] at hr
      obtain ⟨j, hj, rfl⟩ := Option.map_eq_some_iff.1 hr
      obtain ⟨hlt, rfl⟩ := List.getElem?_eq_some_iff.1 hj
      simp at hlt
      simpa using (hf i hlt).2
    · by_cases h0 : len = 0
      · subst h0; exact .inl rfl
      · obtain ⟨b, off, spot⟩ := A
        have cells : ∀ i, i < len → ∀ j, j < 2 → w.cell? ((⟨b, off, spot⟩ : Addr).add (i * 2 + j)) = ([.string (f i).name, .string (f i).value] : List Value)[j]? := by
          intro i hi j hj
          have c := (World.cells?_some (hf i hi).1).2.2 j hj
          rw [add_add] at c
          exact c
        have hs : spot = none := by
          have c := cells 0 (by omega) 0 (by omega)
          simp only [Nat.zero_mul, Nat.add_zero, List.getElem?_cons_zero] at c
          simpa [Addr.add] using World.cell?_spot c
        subst hs
        have hadd : ∀ i, (⟨b, off, none⟩ : Addr).add i = ⟨b, off + i, none⟩ := fun i => by unfold Addr.add; split <;> simp_all
        refine .inr ⟨b, off, rfl, fun i r hr => ?_⟩
        rw [List.getElem?_map] at hr
        obtain ⟨j, hj, rfl⟩ := Option.map_eq_some_iff.1 hr
        obtain ⟨hlt, rfl⟩ := List.getElem?_eq_some_iff.1 hj
        simp only [List.length_range] at hlt
        simp only [List.getElem_range]
        have q0 := cells i hlt 0 (by omega)
        have q1 := cells i hlt 1 (by omega)
        rw [hadd] at q0 q1
        exact ⟨by simpa using q0, by simpa [Nat.add_assoc] using q1⟩
end Go.Proofs.YtacninhhkbglaaaGreatDoor
/-
  A request and a response that came in by value, opened.
-/
namespace Go.Proofs.YtacninhhkbglaaaGreatDoor
open Go.ChangeShapes Go.WideShapes Go.ChangeAt Go.RowKit Go.Deep
theorem requestCells : Tryz.prog.cellsOf 74 = 4 := by kernel_rfl
theorem headsOne : Tryz.prog.cellsOf 72 = 1 := by kernel_rfl
theorem slice_cs {H : Type} {enc : TypeId × Value → H} {w : World} {base : Nat} {spare : Nat → Bool} {held : Bool} {fuel : Nat} {cs : List Value} {t e : TypeId} {x : DataW H × List MemPlace}
    (hu : Tryz.prog.underlying t = some (.slice e)) (h : DataW.trod enc Tryz.prog w base spare held fuel t cs = some x) : ∃ a len cap, cs = [.slice a len cap] := by
  rcases open_slice hu h with ⟨hcs, _⟩ | ⟨A, len', cap', m, n, D, Pl, hcs, _⟩
  · exact ⟨_, _, _, hcs⟩
  · exact ⟨_, _, _, hcs⟩
set_option maxRecDepth 100000 in
theorem open_request {H : Type} {enc : TypeId × Value → H} {w : World} {r : Reach} {b0 base : Nat} {spare : Nat → Bool} {held : Bool} {v : Value} {d : DataW H} {p : List MemPlace}
    (hv : Value.okWide Tryz.prog w r b0 74 v) (h : DataW.Trod enc Tryz.prog w base spare held 74 v d p) :
    ∃ (m h p : ByteArray) (a : Option Addr) (cap : Nat) (l : List Hdr), v = .agg #[.string m, .string h, .string p, .slice a l.length cap] ∧ m.size ≤ maxLen ∧ h.size ≤ maxLen ∧ p.size ≤ maxLen ∧ l.length ≤ maxLen ∧ SmallHdrs l ∧ (l = [] ∨ ∃ b off, a = some ⟨b, off, none⟩ ∧ HeadsAt w b off l) := by
  obtain ⟨cs, rfl, hsz⟩ := okWide_struct Tryz.underlying74 hv
  obtain ⟨fuel, hf0⟩ := h
  obtain ⟨xs, n, _, _, hl, hlen, hf⟩ := DataW.trod_struct Tryz.underlying74 hf0
  match xs, hlen with
  | [y0, y1, y2, y3], _ =>
    have h0 : DataW.trod enc Tryz.prog w base spare held n 9 (((Value.agg cs).cells.toList.drop 0).take (Tryz.prog.cellsOf 9)) = some y0 := hf 0 _ rfl
    have h1 : DataW.trod enc Tryz.prog w base spare held n 9 (((Value.agg cs).cells.toList.drop 1).take (Tryz.prog.cellsOf 9)) = some y1 := hf 1 _ rfl
    have h2 : DataW.trod enc Tryz.prog w base spare held n 9 (((Value.agg cs).cells.toList.drop 2).take (Tryz.prog.cellsOf 9)) = some y2 := hf 2 _ rfl
    have h3 : DataW.trod enc Tryz.prog w base spare held n 72 (((Value.agg cs).cells.toList.drop 3).take (Tryz.prog.cellsOf 72)) = some y3 := hf 3 _ rfl
    rw [hOneS] at h0 h1 h2
    rw [headsOne] at h3
    obtain ⟨s0, e0, _, z0⟩ := DataW.trod_string Tryz.underlying9 h0
    obtain ⟨s1, e1, _, z1⟩ := DataW.trod_string Tryz.underlying9 h1
    obtain ⟨s2, e2, _, z2⟩ := DataW.trod_string Tryz.underlying9 h2
    obtain ⟨a, len, cap, e3⟩ := slice_cs Tryz.underlying72 h3
    rw [e3] at h3
    obtain ⟨l, rfl, m3, s3, o3⟩ := open_headers h3
    refine ⟨s0, s1, s2, a, cap, l, ?_, z0, z1, z2, m3, s3, o3⟩
    have e : cs.toList = [.string s0, .string s1, .string s2, .slice a l.length cap] := by
      simp only [Value.cells] at e0 e1 e2 e3 hl
      rw [requestCells] at hl
      match hc : cs.toList, hl with
      | [c0, c1, c2, c3], _ =>
        rw [hc] at e0 e1 e2 e3
        simp only [List.drop_zero, List.take_succ_cons, List.take_zero, List.drop_succ_cons, List.cons.injEq, and_true] at e0 e1 e2 e3
        rw [e0, e1, e2, e3]
    congr 1
    exact Array.toList_inj.1 e
end Go.Proofs.YtacninhhkbglaaaGreatDoor
/-
  A list that came in, opened.
-/
namespace Go.Proofs.YtacninhhkbglaaaGreatDoor
open Go.ChangeShapes Go.WideShapes Go.ChangeAt Go.RowKit Go.Deep
theorem cellsWr : Tryz.prog.cellsOf 79 = 4 := by kernel_rfl
theorem oneWrb : Tryz.prog.cellsOf 4 = 1 := by kernel_rfl
theorem oneWri : Tryz.prog.cellsOf 2 = 1 := by kernel_rfl
set_option maxRecDepth 100000 in
theorem ofWr {H : Type} {enc : TypeId × Value → H} {w : World} {base : Nat} {spare : Nat → Bool} {held : Bool} {fuel : Nat} {cs : List Value} {x : DataW H × List MemPlace}
    (h : DataW.trod enc Tryz.prog w base spare held fuel 79 cs = some x) : ∃ r : Wr, cs = [.int .i64 r.rq, .bool r.hd, .int .i64 r.du, .bool r.lt] := by
  obtain ⟨xs, n, _, _, hl, hlen, hf⟩ := DataW.trod_struct Tryz.underlying79 h
  rw [cellsWr] at hl
  match xs, hlen with
  | [y0, y1, y2, y3], _ =>
    have h0 : DataW.trod enc Tryz.prog w base spare held n 2 ((cs.drop 0).take (Tryz.prog.cellsOf 2)) = some y0 := hf 0 _ rfl
    have h1 : DataW.trod enc Tryz.prog w base spare held n 4 ((cs.drop 1).take (Tryz.prog.cellsOf 4)) = some y1 := hf 1 _ rfl
    have h2 : DataW.trod enc Tryz.prog w base spare held n 2 ((cs.drop 2).take (Tryz.prog.cellsOf 2)) = some y2 := hf 2 _ rfl
    have h3 : DataW.trod enc Tryz.prog w base spare held n 4 ((cs.drop 3).take (Tryz.prog.cellsOf 4)) = some y3 := hf 3 _ rfl
    rw [oneWri] at h0 h2
    rw [oneWrb] at h1 h3
    obtain ⟨s0, e0, _⟩ := DataW.trod_int Tryz.underlying2 h0
    obtain ⟨s1, e1, _⟩ := DataW.trod_bool Tryz.underlying4 h1
    obtain ⟨s2, e2, _⟩ := DataW.trod_int Tryz.underlying2 h2
    obtain ⟨s3, e3, _⟩ := DataW.trod_bool Tryz.underlying4 h3
    match cs, hl with
    | [c0, c1, c2, c3], _ =>
      simp only [List.drop_zero, List.take_succ_cons, List.take_zero, List.drop_succ_cons, List.cons.injEq, and_true] at e0 e1 e2 e3
      exact ⟨⟨s0, s1, s2, s3⟩, by rw [e0, e1, e2, e3]⟩
set_option maxRecDepth 100000 in
theorem openWr {H : Type} {enc : TypeId × Value → H} {w : World} {base : Nat} {spare : Nat → Bool} {held : Bool} {fuel : Nat} {a : Option Addr} {len cap : Nat} {x : DataW H × List MemPlace}
    (h : DataW.trod enc Tryz.prog w base spare held fuel 75 [.slice a len cap] = some x) :
    ∃ l : List Wr, l.length = len ∧ len ≤ maxLen ∧ WrIn w a l := by
  rcases open_slice Tryz.underlying75 h with ⟨hcs, _⟩ | ⟨A, len', cap', m, n, D, Pl, hcs, _, hl, hm, hmm, _, hel⟩
  · simp only [List.cons.injEq, Value.slice.injEq, and_true] at hcs
    obtain ⟨_, rfl, _⟩ := hcs
    exact ⟨[], rfl, by unfold maxLen; omega, .inl rfl⟩
  · simp only [List.cons.injEq, Value.slice.injEq, and_true] at hcs
    obtain ⟨rfl, rfl, rfl⟩ := hcs
    have hlm : len ≤ m := by rw [hmm]; split <;> omega
    have hrec : ∀ i, i < len → ∃ r : Wr, w.cells? base (A.add (i * 4)) 4 = some [.int .i64 r.rq, .bool r.hd, .int .i64 r.du, .bool r.lt] := by
      intro i hi
      obtain ⟨cs', hc, ht⟩ := hel i (by omega)
      rw [cellsWr] at hc
      obtain ⟨r, rfl⟩ := ofWr ht
      exact ⟨r, hc⟩
    obtain ⟨f, hf⟩ : ∃ f : Nat → Wr, ∀ i, i < len → w.cells? base (A.add (i * 4)) 4 = some [.int .i64 (f i).rq, .bool (f i).hd, .int .i64 (f i).du, .bool (f i).lt] := by
      classical
      refine ⟨fun i => if hi : i < len then (hrec i hi).choose else ⟨0, false, 0, false⟩, fun i hi => ?_⟩
      simp only [dif_pos hi]
      exact (hrec i hi).choose_spec
    refine ⟨(List.range len).map f, by simp, by omega, ?_⟩
    by_cases h0 : len = 0
    · subst h0; exact .inl rfl
    · obtain ⟨b, off, spot⟩ := A
      have cells : ∀ i, i < len → ∀ j, j < 4 → w.cell? ((⟨b, off, spot⟩ : Addr).add (i * 4 + j)) = ([.int .i64 (f i).rq, .bool (f i).hd, .int .i64 (f i).du, .bool (f i).lt] : List Value)[j]? := by
        intro i hi j hj
        have c := (World.cells?_some (hf i hi)).2.2 j hj
        rw [add_add] at c
        exact c
      have hs : spot = none := by
        have c := cells 0 (by omega) 0 (by omega)
        simp only [Nat.zero_mul, Nat.add_zero, List.getElem?_cons_zero] at c
        simpa [Addr.add] using World.cell?_spot c
      subst hs
      have hadd : ∀ i, (⟨b, off, none⟩ : Addr).add i = ⟨b, off + i, none⟩ := fun i => by unfold Addr.add; split <;> simp_all
      refine .inr ⟨b, off, rfl, fun i r hr => ?_⟩
      rw [List.getElem?_map] at hr
      obtain ⟨j, hj, rfl⟩ := Option.map_eq_some_iff.1 hr
      obtain ⟨hlt, rfl⟩ := List.getElem?_eq_some_iff.1 hj
      simp only [List.length_range] at hlt
      simp only [List.getElem_range]
      have q0 := cells i hlt 0 (by omega)
      have q1 := cells i hlt 1 (by omega)
      have q2 := cells i hlt 2 (by omega)
      have q3 := cells i hlt 3 (by omega)
      rw [hadd] at q0 q1 q2 q3
      exact ⟨by simpa using q0, by simpa [Nat.add_assoc] using q1, by simpa [Nat.add_assoc] using q2, by simpa [Nat.add_assoc] using q3⟩
end Go.Proofs.YtacninhhkbglaaaGreatDoor
/-
  A flight that came in, and flights, opened.
-/
namespace Go.Proofs.YtacninhhkbglaaaGreatDoor
open Go.ChangeShapes Go.WideShapes Go.ChangeAt Go.RowKit Go.Deep
theorem flCells : Tryz.prog.cellsOf 77 = 11 := by kernel_rfl
theorem fOneS : Tryz.prog.cellsOf 9 = 1 := by kernel_rfl
theorem fOneI : Tryz.prog.cellsOf 2 = 1 := by kernel_rfl
theorem fOneB : Tryz.prog.cellsOf 4 = 1 := by kernel_rfl
theorem fOneH : Tryz.prog.cellsOf 72 = 1 := by kernel_rfl
theorem fOneW : Tryz.prog.cellsOf 75 = 1 := by kernel_rfl
theorem fOneR : Tryz.prog.cellsOf 74 = 4 := by kernel_rfl
theorem slice_cap {H : Type} {enc : TypeId × Value → H} {P : Program} {w : World} {base : Nat} {spare : Nat → Bool} {held : Bool} {fuel : Nat} {t e : TypeId} {a : Option Addr} {n c : Nat} {x : DataW H × List MemPlace} (ht : P.underlying t = some (.slice e))
    (h : DataW.trod enc P w base spare held fuel t [.slice a n c] = some x) : n ≤ c := by
  rcases open_slice ht h with ⟨hcs, _⟩ | ⟨A, len', cap', m, n', D, Pl, hcs, _, hl, _⟩
  · simp only [List.cons.injEq, Value.slice.injEq, and_true] at hcs
    omega
  · simp only [List.cons.injEq, Value.slice.injEq, and_true] at hcs
    omega
set_option maxRecDepth 100000 in
theorem req_cs {H : Type} {enc : TypeId × Value → H} {w : World} {base : Nat} {spare : Nat → Bool} {held : Bool} {fuel : Nat} {cs : List Value} {x : DataW H × List MemPlace}
    (h : DataW.trod enc Tryz.prog w base spare held fuel 74 cs = some x) : ∃ (m h p : ByteArray) (ha : Option Addr) (hc : Nat) (hs : List Hdr), cs = [.string m, .string h, .string p, .slice ha hs.length hc] ∧ m.size ≤ maxLen ∧ h.size ≤ maxLen ∧ p.size ≤ maxLen ∧ hs.length ≤ maxLen ∧ SmallHdrs hs ∧ HdsIn w ha hs ∧ hs.length ≤ hc := by
  obtain ⟨xs, n, _, _, hl, hlen, hf⟩ := DataW.trod_struct Tryz.underlying74 h
  match xs, hlen with
  | [y0, y1, y2, y3], _ =>
    have h0 : DataW.trod enc Tryz.prog w base spare held n 9 ((cs.drop 0).take (Tryz.prog.cellsOf 9)) = some y0 := hf 0 _ rfl
    have h1 : DataW.trod enc Tryz.prog w base spare held n 9 ((cs.drop 1).take (Tryz.prog.cellsOf 9)) = some y1 := hf 1 _ rfl
    have h2 : DataW.trod enc Tryz.prog w base spare held n 9 ((cs.drop 2).take (Tryz.prog.cellsOf 9)) = some y2 := hf 2 _ rfl
    have h3 : DataW.trod enc Tryz.prog w base spare held n 72 ((cs.drop 3).take (Tryz.prog.cellsOf 72)) = some y3 := hf 3 _ rfl
    rw [fOneS] at h0 h1 h2
    rw [fOneH] at h3
    obtain ⟨s0, e0, _, z0⟩ := DataW.trod_string Tryz.underlying9 h0
    obtain ⟨s1, e1, _, z1⟩ := DataW.trod_string Tryz.underlying9 h1
    obtain ⟨s2, e2, _, z2⟩ := DataW.trod_string Tryz.underlying9 h2
    obtain ⟨ha, hn, hc, e3⟩ := slice_cs Tryz.underlying72 h3
    rw [e3] at h3
    obtain ⟨l, rfl, m3, sm3, o3⟩ := open_headers h3
    refine ⟨s0, s1, s2, ha, hc, l, ?_, z0, z1, z2, m3, sm3, o3, slice_cap Tryz.underlying72 h3⟩
    rw [fOneR] at hl
    match cs, hl with
    | [c0, c1, c2, c3], _ =>
      simp only [List.drop_zero, List.take_succ_cons, List.take_zero, List.drop_succ_cons, List.cons.injEq, and_true] at e0 e1 e2 e3
      rw [e0, e1, e2, e3]
set_option maxRecDepth 100000 in
theorem fl_of {H : Type} {enc : TypeId × Value → H} {w : World} {base : Nat} {spare : Nat → Bool} {held : Bool} {fuel : Nat} {cs : List Value} {x : DataW H × List MemPlace}
    (h : DataW.trod enc Tryz.prog w base spare held fuel 77 cs = some x) : ∃ (q : Fl) (r : FlR), cs = flW q r ∧ FlIn w q r ∧ FlSm q := by
  obtain ⟨xs, n, _, _, hl, hlen, hf⟩ := DataW.trod_struct Tryz.underlying77 h
  match xs, hlen with
  | [y0, y1, y2, y3, y4, y5, y6, y7], _ =>
    have h0 : DataW.trod enc Tryz.prog w base spare held n 2 ((cs.drop 0).take (Tryz.prog.cellsOf 2)) = some y0 := hf 0 _ rfl
    have h1 : DataW.trod enc Tryz.prog w base spare held n 9 ((cs.drop 1).take (Tryz.prog.cellsOf 9)) = some y1 := hf 1 _ rfl
    have h2 : DataW.trod enc Tryz.prog w base spare held n 4 ((cs.drop 2).take (Tryz.prog.cellsOf 4)) = some y2 := hf 2 _ rfl
    have h3 : DataW.trod enc Tryz.prog w base spare held n 4 ((cs.drop 3).take (Tryz.prog.cellsOf 4)) = some y3 := hf 3 _ rfl
    have h4 : DataW.trod enc Tryz.prog w base spare held n 2 ((cs.drop 4).take (Tryz.prog.cellsOf 2)) = some y4 := hf 4 _ rfl
    have h5 : DataW.trod enc Tryz.prog w base spare held n 4 ((cs.drop 5).take (Tryz.prog.cellsOf 4)) = some y5 := hf 5 _ rfl
    have h6 : DataW.trod enc Tryz.prog w base spare held n 74 ((cs.drop 6).take (Tryz.prog.cellsOf 74)) = some y6 := hf 6 _ rfl
    have h7 : DataW.trod enc Tryz.prog w base spare held n 75 ((cs.drop 10).take (Tryz.prog.cellsOf 75)) = some y7 := hf 7 _ rfl
    rw [fOneI] at h0 h4
    rw [fOneS] at h1
    rw [fOneB] at h2 h3 h5
    rw [fOneR] at h6
    rw [fOneW] at h7
    obtain ⟨s0, e0, _⟩ := DataW.trod_int Tryz.underlying2 h0
    obtain ⟨s1, e1, _, z1⟩ := DataW.trod_string Tryz.underlying9 h1
    obtain ⟨s2, e2, _⟩ := DataW.trod_bool Tryz.underlying4 h2
    obtain ⟨s3, e3, _⟩ := DataW.trod_bool Tryz.underlying4 h3
    obtain ⟨s4, e4, _⟩ := DataW.trod_int Tryz.underlying2 h4
    obtain ⟨s5, e5, _⟩ := DataW.trod_bool Tryz.underlying4 h5
    obtain ⟨m, ho, p, ha, hc, l, e6, q1, q2, q3, q4, q5, q6, q7⟩ := req_cs h6
    obtain ⟨wa, wn, wc, e7⟩ := slice_cs Tryz.underlying75 h7
    rw [e7] at h7
    obtain ⟨ws, rfl, m7, o7⟩ := openWr h7
    refine ⟨⟨s0, s1, s2, s3, s4, s5, m, ho, p, l, ws⟩, ⟨ha, hc, wa, wc⟩, ?_, ⟨q6, o7, q7, slice_cap Tryz.underlying75 h7⟩, ⟨z1, q1, q2, q3, q4, q5, m7⟩⟩
    rw [flCells] at hl
    match cs, hl with
    | [c0, c1, c2, c3, c4, c5, c6, c7, c8, c9, c10], _ =>
      simp only [List.drop_zero, List.take_succ_cons, List.take_zero, List.drop_succ_cons, List.cons.injEq, and_true] at e0 e1 e2 e3 e4 e5 e6 e7
      obtain ⟨f6, f7, f8, f9⟩ := e6
      rw [e0, e1, e2, e3, e4, e5, f6, f7, f8, f9, e7]
      rfl
set_option maxRecDepth 100000 in
theorem open_flight {H : Type} {enc : TypeId × Value → H} {w : World} {r : Reach} {b0 base : Nat} {spare : Nat → Bool} {held : Bool} {v : Value} {d : DataW H} {p : List MemPlace}
    (hv : Value.okWide Tryz.prog w r b0 77 v) (h : DataW.Trod enc Tryz.prog w base spare held 77 v d p) : ∃ (q : Fl) (r : FlR), v = flV q r ∧ FlIn w q r ∧ FlSm q := by
  obtain ⟨cs, rfl, hsz⟩ := okWide_struct Tryz.underlying77 hv
  obtain ⟨fuel, hf0⟩ := h
  obtain ⟨q, r, e, h1, h2⟩ := fl_of hf0
  refine ⟨q, r, ?_, h1, h2⟩
  simp only [Value.cells] at e
  show Value.agg cs = .agg _
  congr 1
  exact Array.toList_inj.1 e
set_option maxRecDepth 100000 in
theorem open_flights {H : Type} {enc : TypeId × Value → H} {w : World} {base : Nat} {spare : Nat → Bool} {held : Bool} {fuel : Nat} {a : Option Addr} {len cap : Nat} {x : DataW H × List MemPlace}
    (h : DataW.trod enc Tryz.prog w base spare held fuel 33 [.slice a len cap] = some x) :
    ∃ l : List (Fl × FlR), l.length = len ∧ len ≤ maxLen ∧ len ≤ cap ∧ (∀ q ∈ l, FlSm q.1) ∧ FlsIn w a l := by
  have hcap := slice_cap Tryz.underlying33 h
  rcases open_slice Tryz.underlying33 h with ⟨hcs, _⟩ | ⟨A, len', cap', m, n, D, Pl, hcs, _, hl, hm, hmm, _, hel⟩
  · simp only [List.cons.injEq, Value.slice.injEq, and_true] at hcs
    obtain ⟨_, rfl, _⟩ := hcs
    exact ⟨[], rfl, by unfold maxLen; omega, hcap, fun q hq => by simp at hq, .inl rfl⟩
  · simp only [List.cons.injEq, Value.slice.injEq, and_true] at hcs
    obtain ⟨rfl, rfl, rfl⟩ := hcs
    have hlm : len ≤ m := by rw [hmm]; split <;> omega
    have hrec : ∀ i, i < len → ∃ q : Fl × FlR, w.cells? base (A.add (i * 11)) 11 = some (flW q.1 q.2) ∧ FlIn w q.1 q.2 ∧ FlSm q.1 := by
      intro i hi
      obtain ⟨cs', hc, ht⟩ := hel i (by omega)
      rw [flCells] at hc
      obtain ⟨q, r, rfl, z⟩ := fl_of ht
      exact ⟨(q, r), hc, z⟩
    obtain ⟨f, hf⟩ : ∃ f : Nat → Fl × FlR, ∀ i, i < len → w.cells? base (A.add (i * 11)) 11 = some (flW (f i).1 (f i).2) ∧ FlIn w (f i).1 (f i).2 ∧ FlSm (f i).1 := by
      classical
      refine ⟨fun i => if hi : i < len then (hrec i hi).choose else (⟨0, .empty, false, false, 0, false, .empty, .empty, .empty, [], []⟩, ⟨none, 0, none, 0⟩), fun i hi => ?_⟩
      simp only [dif_pos hi]
      exact (hrec i hi).choose_spec
    refine ⟨(List.range len).map f, by simp, by omega, hcap, ?_, ?_⟩
    · intro q hq
      obtain ⟨i, hi, rfl⟩ := List.mem_map.1 hq
      exact (hf i (by simpa using hi)).2.2
    · by_cases h0 : len = 0
      · subst h0; exact .inl rfl
      · obtain ⟨b, off, spot⟩ := A
        have cells : ∀ i, i < len → ∀ j, j < 11 → w.cell? ((⟨b, off, spot⟩ : Addr).add (i * 11 + j)) = (flW (f i).1 (f i).2)[j]? := by
          intro i hi j hj
          have c := (World.cells?_some (hf i hi).1).2.2 j hj
          rw [add_add] at c
          exact c
        have hs : spot = none := by
          have c := cells 0 (by omega) 0 (by omega)
          simp only [Nat.zero_mul, Nat.add_zero, flW, List.getElem?_cons_zero] at c
          simpa [Addr.add] using World.cell?_spot c
        subst hs
        have hadd : ∀ i, (⟨b, off, none⟩ : Addr).add i = ⟨b, off + i, none⟩ := fun i => by unfold Addr.add; split <;> simp_all
        refine .inr ⟨b, off, rfl, fun i q hq => ?_⟩
        rw [List.getElem?_map] at hq
        obtain ⟨j, hj, rfl⟩ := Option.map_eq_some_iff.1 hq
        obtain ⟨hlt, rfl⟩ := List.getElem?_eq_some_iff.1 hj
        simp only [List.length_range] at hlt
        simp only [List.getElem_range]
        refine ⟨fun j hj => ?_, (hf i hlt).2.1⟩
        have q0 := cells i hlt j hj
        rw [hadd, ← Nat.add_assoc] at q0
        exact q0
end Go.Proofs.YtacninhhkbglaaaGreatDoor
/-
  Somebody who waits, who came in, opened.
-/
namespace Go.Proofs.YtacninhhkbglaaaGreatDoor
open Go.ChangeShapes Go.WideShapes Go.ChangeAt Go.RowKit Go.Deep
set_option maxRecDepth 100000 in
theorem open_waiter {H : Type} {enc : TypeId × Value → H} {w : World} {r : Reach} {b0 base : Nat} {spare : Nat → Bool} {held : Bool} {v : Value} {d : DataW H} {p : List MemPlace}
    (hv : Value.okWide Tryz.prog w r b0 79 v) (h : DataW.Trod enc Tryz.prog w base spare held 79 v d p) : ∃ y : Wr, v = .agg #[.int .i64 y.rq, .bool y.hd, .int .i64 y.du, .bool y.lt] := by
  obtain ⟨cs, rfl, hsz⟩ := okWide_struct Tryz.underlying79 hv
  obtain ⟨fuel, hf0⟩ := h
  obtain ⟨y, e⟩ := ofWr hf0
  refine ⟨y, ?_⟩
  simp only [Value.cells] at e
  show Value.agg cs = .agg _
  congr 1
  exact Array.toList_inj.1 e
end Go.Proofs.YtacninhhkbglaaaGreatDoor
/-
  Facts of the program as a whole that every card of this seat leans on: each reckoned by the kernel, each by itself.
-/
namespace Go.Proofs.YtacninhhkbglaaaGreatDoor
theorem pf_laid : laidOutB Tryz.prog = true := by kernel_rfl
theorem pf_maps : mapsRowed Tryz.prog = true := by kernel_rfl
theorem pf_stops : (Tryz.prog.stops == []) = true := by kernel_rfl
theorem pf_knobs : (Tryz.prog.stopKnobs == []) = true := by kernel_rfl
theorem pf_heard : Tryz.prog.stopsHeard = true := by kernel_rfl
theorem pf_enter : Tryz.prog.mayEnter = true := by kernel_rfl
theorem pf_prog : Tryz.pinned.checked.prog = Tryz.prog := by kernel_rfl
end Go.Proofs.YtacninhhkbglaaaGreatDoor
/-
  As many variables are read as are named.
-/
namespace Go.Proofs.YtacninhhkbglaaaGreatDoor
theorem trodVars_len {H : Type} {enc : TypeId × Value → H} {P : Program} {W : World} {sp : Nat → Bool} : ∀ {ns : List String} {gs : List (DataW H)} {ps : List MemPlace}, DataW.TrodVars enc P W sp ns gs ps → gs.length = ns.length
  | [], [], _, _ => rfl
  | [], _ :: _, _, h => h.elim
  | _ :: _, [], _, h => h.elim
  | n :: ns, d :: ds, ps, h => by
    obtain ⟨g, t, cs, fuel, p, q, h1, h2, h3, h4, hs, e⟩ := h
    simp [trodVars_len hs]
end Go.Proofs.YtacninhhkbglaaaGreatDoor
