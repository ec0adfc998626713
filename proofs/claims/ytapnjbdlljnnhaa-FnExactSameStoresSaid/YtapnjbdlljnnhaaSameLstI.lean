/-
  Lists of entries, held against each other by slices.EqualFunc.
-/
import Derived.Test.YtapnjbdlljnnhaaSameLstS
namespace Go.Proofs.Ytapnjbdlljnnhaa
open Go.ChangeShapes Go.WideShapes Go.ChangeAt Go.RowKit Go.Sort
set_option maxRecDepth 100000 in
set_option maxHeartbeats 8000000 in
theorem equalEnts_any (w : World) (a b : Option Addr) (ca cb : Nat) (l m : List (Ent × EntR)) (hl : l.length ≤ 1048576) (hf : ∀ q ∈ l, EntFit q.1) (h1 : EntsIn w a l) (h2 : EntsIn w b m) :
    Calls Try.prog 12 #[.slice a l.length ca, .slice b m.length cb, .func (.func 13) #[] #[]] w fun e w' => e = .returned (.bool (sameEs (l.map Prod.fst) (m.map Prod.fst))) ∧ Below w.heap.size w w' := by
  have H1 : Hid (EntsIn w a l) := h1
  have H2 : Hid (EntsIn w b m) := h2
  have HFT : Hid (∀ q ∈ l, EntFit q.1) := hf
  clear h1 h2 hf
  by_cases hlen : l.length = m.length
  · have HM : Hid (m.length = l.length) := hlen.symm
    rw [← hlen]
    clear hlen
    obtain ⟨S, hS⟩ : ∃ S, sameEs (l.map Prod.fst) (m.map Prod.fst) = S := ⟨_, rfl⟩
    rw [hS]
    generalize hn : l.length = n at *
    have HN : Hid (l.length = n) := hn
    have HS0 : Hid (sameEs (l.map Prod.fst) (m.map Prod.fst) = S) := hS
    clear hn hS
    go_enter Try.func12, Try.ntmps12
    go_wp2_with fail
    go_loopw [17] (fun i wr => ∃ k : Nat, k ≤ n ∧ i = .int .i64 k ∧ S = sameEs ((l.map Prod.fst).drop k) ((m.map Prod.fst).drop k) ∧ Below w.heap.size w wr) (fun i _ => n - (intOf i).toNat)
    case atStart => exact ⟨0, Nat.zero_le _, rfl, HS0.out.symm, Below.refl _ _⟩
    case round =>
      obtain ⟨k, hk, rfl, hs, hb⟩ := hrel
      have HS : Hid (S = sameEs ((l.map Prod.fst).drop k) ((m.map Prod.fst).drop k)) := hs
      clear hs HS0
      by_cases hlt : k < n
      · obtain ⟨⟨x, r⟩, hx⟩ : ∃ r, l[k]? = some r := ⟨l[k]'(by have := HN.out; omega), List.getElem?_eq_getElem _⟩
        obtain ⟨⟨y, s⟩, hy⟩ : ∃ r, m[k]? = some r := ⟨m[k]'(by have := HM.out; have := HN.out; omega), List.getElem?_eq_getElem _⟩
        rcases H1.out with h | ⟨b1, o1, rfl, at1⟩
        · subst h; simp at hx
        rcases H2.out with h | ⟨b2, o2, rfl, at2⟩
        · subst h; simp at hy
        have P1 := (at1.keep hb).here hx
        have P2 := (at2.keep hb).here hy
        have I1 := (at1.keep hb).in hx
        have I2 := (at2.keep hb).in hy
        have ft := HFT.out _ (List.mem_of_getElem? hx)
        simp only at P1 P2 I1 I2 ft
        have HD : Hid (S = (sameE x y && sameEs ((l.map Prod.fst).drop (k + 1)) ((m.map Prod.fst).drop (k + 1)))) := by show _ = _; rw [HS.out, sameEs_drop hx hy]
        have g0 : (0 : Int) ≤ k := by omega
        have g : (k : Int) < n := by omega
        clear hx hy at1 at2 HS
        have cE : Hid (∀ X, Below wr.heap.size wr X → Calls Try.prog 13 #[.agg #[.string x.key, .int .i64 x.st, .slice r.ha x.hs.length r.hc, .slice r.ba x.bl.length r.bc, .int .i64 x.t, .int .i64 x.g, .int .i64 x.l, .int .i64 x.s, .int .i64 x.e, .bool x.b1, .bool x.b2, .slice r.ta x.ts.length r.tc, .int .i64 x.pins], .agg #[.string y.key, .int .i64 y.st, .slice s.ha y.hs.length s.hc, .slice s.ba y.bl.length s.bc, .int .i64 y.t, .int .i64 y.g, .int .i64 y.l, .int .i64 y.s, .int .i64 y.e, .bool y.b1, .bool y.b2, .slice s.ta y.ts.length s.tc, .int .i64 y.pins]] X fun e w' => e = .returned (.bool (sameE x y)) ∧ Below X.heap.size X w') := fun X hX => implSameE_any X x y r s ft (I1.keep hX) (I2.keep hX)
        have p0 := P1.1
        have p1 := P1.2.1
        have p2 := P1.2.2.1
        have p3 := P1.2.2.2.1
        have p4 := P1.2.2.2.2.1
        have p5 := P1.2.2.2.2.2.1
        have p6 := P1.2.2.2.2.2.2.1
        have p7 := P1.2.2.2.2.2.2.2.1
        have p8 := P1.2.2.2.2.2.2.2.2.1
        have p9 := P1.2.2.2.2.2.2.2.2.2.1
        have p10 := P1.2.2.2.2.2.2.2.2.2.2.1
        have p11 := P1.2.2.2.2.2.2.2.2.2.2.2.1
        have p12 := P1.2.2.2.2.2.2.2.2.2.2.2.2
        have P3 := P2.keep ((Below.refl wr.heap.size wr).alloc (Nat.le_refl _) (.cells #[.string x.key, .int .i64 x.st, .slice r.ha x.hs.length r.hc, .slice r.ba x.bl.length r.bc, .int .i64 x.t, .int .i64 x.g, .int .i64 x.l, .int .i64 x.s, .int .i64 x.e, .bool x.b1, .bool x.b2, .slice r.ta x.ts.length r.tc, .int .i64 x.pins] 42))
        have q0 := P3.1
        have q1 := P3.2.1
        have q2 := P3.2.2.1
        have q3 := P3.2.2.2.1
        have q4 := P3.2.2.2.2.1
        have q5 := P3.2.2.2.2.2.1
        have q6 := P3.2.2.2.2.2.2.1
        have q7 := P3.2.2.2.2.2.2.2.1
        have q8 := P3.2.2.2.2.2.2.2.2.1
        have q9 := P3.2.2.2.2.2.2.2.2.2.1
        have q10 := P3.2.2.2.2.2.2.2.2.2.2.1
        have q11 := P3.2.2.2.2.2.2.2.2.2.2.2.1
        have q12 := P3.2.2.2.2.2.2.2.2.2.2.2.2
        clear P1 P2 P3 I1 I2 ft
        obtain ⟨kx, stx, hsx, blx, tx, gx, lx, swx, ex, px, qx, tsx, pnx⟩ := x
        obtain ⟨hax, hcx, bax, bcx, tax, tcx⟩ := r
        obtain ⟨ky, sty, hsy, bly, ty, gy, ly, swy, ey, py, qy, tsy, pny⟩ := y
        obtain ⟨hay, hcy, bay, bcy, tay, tcy⟩ := s
        simp only at cE p0 p1 p2 p3 p4 p5 p6 p7 p8 p9 p10 p11 p12 q0 q1 q2 q3 q4 q5 q6 q7 q8 q9 q10 q11 q12
        cases hsame : sameE ⟨kx, stx, hsx, blx, tx, gx, lx, swx, ex, px, qx, tsx, pnx⟩ ⟨ky, sty, hsy, bly, ty, gy, ly, swy, ey, py, qy, tsy, pny⟩
        · rw [hsame] at cE
          have HE : Hid (S = false) := by show _ = _; rw [HD.out, hsame, Bool.false_and]
          clear HD hsame
          have HB : Hid (Below w.heap.size w wr) := hb
          go_wp2_with fail
          have bA : Below wr.heap.size wr ((wr.alloc (.cells #[.string kx, .int .i64 stx, .slice hax hsx.length hcx, .slice bax blx.length bcx, .int .i64 tx, .int .i64 gx, .int .i64 lx, .int .i64 swx, .int .i64 ex, .bool px, .bool qx, .slice tax tsx.length tcx, .int .i64 pnx] 42)).alloc (.cells #[.string ky, .int .i64 sty, .slice hay hsy.length hcy, .slice bay bly.length bcy, .int .i64 ty, .int .i64 gy, .int .i64 ly, .int .i64 swy, .int .i64 ey, .bool py, .bool qy, .slice tay tsy.length tcy, .int .i64 pny] 42)) := ((Below.refl _ _).alloc (Nat.le_refl _) _).alloc (by simp) _
          refine (cE.out _ bA).mono ?_
          rintro r0 w2 ⟨rfl, hb2⟩
          have hbb : Below w.heap.size w w2 := HB.out.trans ((bA.trans (hb2.mono bA.size)).mono HB.out.size)
          clear hb2 bA HB hb cE p0 p1 p2 p3 p4 p5 p6 p7 p8 p9 p10 p11 p12 q0 q1 q2 q3 q4 q5 q6 q7 q8 q9 q10 q11 q12
          go_wp2_with fail
          go_ret
          exact ⟨ret_bool HE.out.symm, hbb⟩
        · rw [hsame] at cE
          have HE : Hid (S = sameEs ((l.map Prod.fst).drop (k + 1)) ((m.map Prod.fst).drop (k + 1))) := by show _ = _; rw [HD.out, hsame, Bool.true_and]
          clear HD hsame
          have HB : Hid (Below w.heap.size w wr) := hb
          go_wp2_with fail
          have bA : Below wr.heap.size wr ((wr.alloc (.cells #[.string kx, .int .i64 stx, .slice hax hsx.length hcx, .slice bax blx.length bcx, .int .i64 tx, .int .i64 gx, .int .i64 lx, .int .i64 swx, .int .i64 ex, .bool px, .bool qx, .slice tax tsx.length tcx, .int .i64 pnx] 42)).alloc (.cells #[.string ky, .int .i64 sty, .slice hay hsy.length hcy, .slice bay bly.length bcy, .int .i64 ty, .int .i64 gy, .int .i64 ly, .int .i64 swy, .int .i64 ey, .bool py, .bool qy, .slice tay tsy.length tcy, .int .i64 pny] 42)) := ((Below.refl _ _).alloc (Nat.le_refl _) _).alloc (by simp) _
          refine (cE.out _ bA).mono ?_
          rintro r0 w2 ⟨rfl, hb2⟩
          have hbb : Below w.heap.size w w2 := HB.out.trans ((bA.trans (hb2.mono bA.size)).mono HB.out.size)
          clear hb2 bA HB hb cE p0 p1 p2 p3 p4 p5 p6 p7 p8 p9 p10 p11 p12 q0 q1 q2 q3 q4 q5 q6 q7 q8 q9 q10 q11 q12
          go_wp2_with fail
          go_roundw
          case rel => exact ⟨k + 1, by omega, by go_num, HE.out, hbb⟩
          case measure => simp [intOf]; omega
      · have HE : Hid (S = true) := by
          show _ = _
          rw [HS.out, List.drop_of_length_le (by have := HN.out; simp; omega), List.drop_of_length_le (by have := HM.out; have := HN.out; simp; omega)]
          rfl
        clear HS
        go_wp2_with fail
        go_ret
        exact ⟨ret_bool HE.out.symm, hb⟩
  · have HE : Hid (sameEs (l.map Prod.fst) (m.map Prod.fst) = false) := sameEs_lens _ _ (by simpa using hlen)
    have g : ¬ (l.length : Int) = (m.length : Int) := by omega
    have g2 : ((l.length : Int) != (m.length : Int)) = true := by simpa using g
    clear H1 H2 HFT
    generalize l.length = n at *
    generalize m.length = n2 at *
    go_enter Try.func12, Try.ntmps12
    go_wp2_with fail
    go_ret
    exact ⟨ret_bool HE.out.symm, Below.refl _ _⟩
end Go.Proofs.Ytapnjbdlljnnhaa
