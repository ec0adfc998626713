/-
  Lists of flights, held against each other by the program.
-/
import Derived.Test.YtgejegmilkmiiaaSameFlS
import Derived.Test.YtgejegmilkmiiaaSameFlI
namespace Go.Proofs.Ytgejegmilkmiiaa
open Go.ChangeShapes Go.WideShapes Go.ChangeAt Go.RowKit Go.Sort
set_option maxRecDepth 100000 in
set_option maxHeartbeats 8000000 in
theorem equalFls_any (w : World) (a b : Option Addr) (ca cb : Nat) (l m : List (Fl × FlR)) (hl : l.length ≤ 1048576) (hf : ∀ q ∈ l, FlFit q.1) (h1 : FlsIn w a l) (h2 : FlsIn w b m) :
    Calls Try.prog 13 #[.slice a l.length ca, .slice b m.length cb, .func (.func 14) #[] #[]] w fun e w' => e = .returned (.bool (sameFs (l.map Prod.fst) (m.map Prod.fst))) ∧ Below w.heap.size w w' := by
  have H1 : Hid (FlsIn w a l) := h1
  have H2 : Hid (FlsIn w b m) := h2
  have HFT : Hid (∀ q ∈ l, FlFit q.1) := hf
  clear h1 h2 hf
  by_cases hlen : l.length = m.length
  · have HM : Hid (m.length = l.length) := hlen.symm
    rw [← hlen]
    clear hlen
    obtain ⟨S, hS⟩ : ∃ S, sameFs (l.map Prod.fst) (m.map Prod.fst) = S := ⟨_, rfl⟩
    rw [hS]
    generalize hn : l.length = n at *
    have HN : Hid (l.length = n) := hn
    have HS0 : Hid (sameFs (l.map Prod.fst) (m.map Prod.fst) = S) := hS
    clear hn hS
    go_enter Try.func13, Try.ntmps13
    go_wp2_with fail
    go_loopw [17] (fun i wr => ∃ k : Nat, k ≤ n ∧ i = .int .i64 k ∧ S = sameFs ((l.map Prod.fst).drop k) ((m.map Prod.fst).drop k) ∧ Below w.heap.size w wr) (fun i _ => n - (intOf i).toNat)
    case atStart => exact ⟨0, Nat.zero_le _, rfl, HS0.out.symm, Below.refl _ _⟩
    case round =>
      obtain ⟨k, hk, rfl, hs, hb⟩ := hrel
      have HS : Hid (S = sameFs ((l.map Prod.fst).drop k) ((m.map Prod.fst).drop k)) := hs
      clear hs HS0
      by_cases hlt : k < n
      · obtain ⟨⟨x, r⟩, hx⟩ : ∃ r, l[k]? = some r := ⟨l[k]'(by have := HN.out; omega), List.getElem?_eq_getElem _⟩
        obtain ⟨⟨y, s⟩, hy⟩ : ∃ r, m[k]? = some r := ⟨m[k]'(by have := HM.out; have := HN.out; omega), List.getElem?_eq_getElem _⟩
        rcases H1.out with h | ⟨b1, o1, rfl, at1⟩
        · subst h; simp at hx
        rcases H2.out with h | ⟨b2, o2, rfl, at2⟩
        · subst h; simp at hy
        have P1 := (at1.keep hb).here hx
        have P2 := (at2.keep hb).here hy
        have I1 := (at1.keep hb).in hx
        have I2 := (at2.keep hb).in hy
        have ft := HFT.out _ (List.mem_of_getElem? hx)
        simp only at P1 P2 I1 I2 ft
        have HD : Hid (S = (sameF x y && sameFs ((l.map Prod.fst).drop (k + 1)) ((m.map Prod.fst).drop (k + 1)))) := by show _ = _; rw [HS.out, sameFs_drop hx hy]
        have g0 : (0 : Int) ≤ k := by omega
        have g : (k : Int) < n := by omega
        clear hx hy at1 at2 HS
        have cE : Hid (∀ X, Below wr.heap.size wr X → Calls Try.prog 14 #[.agg #[.int .i64 x.id, .string x.key, .bool x.bk, .bool x.ot, .int .i64 x.du, .bool x.dm, .string x.m, .string x.h, .string x.p, .slice r.ha x.hs.length r.hc, .slice r.wa x.ws.length r.wc], .agg #[.int .i64 y.id, .string y.key, .bool y.bk, .bool y.ot, .int .i64 y.du, .bool y.dm, .string y.m, .string y.h, .string y.p, .slice s.ha y.hs.length s.hc, .slice s.wa y.ws.length s.wc]] X fun e w' => e = .returned (.bool (sameF x y)) ∧ Below X.heap.size X w') := fun X hX => implSameF_any X x y r s ft (I1.keep hX) (I2.keep hX)
        have p0 := P1.1
        have p1 := P1.2.1
        have p2 := P1.2.2.1
        have p3 := P1.2.2.2.1
        have p4 := P1.2.2.2.2.1
        have p5 := P1.2.2.2.2.2.1
        have p6 := P1.2.2.2.2.2.2.1
        have p7 := P1.2.2.2.2.2.2.2.1
        have p8 := P1.2.2.2.2.2.2.2.2.1
        have p9 := P1.2.2.2.2.2.2.2.2.2.1
        have p10 := P1.2.2.2.2.2.2.2.2.2.2
        have P3 := P2.keep ((Below.refl wr.heap.size wr).alloc (Nat.le_refl _) (.cells #[.int .i64 x.id, .string x.key, .bool x.bk, .bool x.ot, .int .i64 x.du, .bool x.dm, .string x.m, .string x.h, .string x.p, .slice r.ha x.hs.length r.hc, .slice r.wa x.ws.length r.wc] 40))
        have q0 := P3.1
        have q1 := P3.2.1
        have q2 := P3.2.2.1
        have q3 := P3.2.2.2.1
        have q4 := P3.2.2.2.2.1
        have q5 := P3.2.2.2.2.2.1
        have q6 := P3.2.2.2.2.2.2.1
        have q7 := P3.2.2.2.2.2.2.2.1
        have q8 := P3.2.2.2.2.2.2.2.2.1
        have q9 := P3.2.2.2.2.2.2.2.2.2.1
        have q10 := P3.2.2.2.2.2.2.2.2.2.2
        clear P1 P2 P3 I1 I2 ft
        obtain ⟨idx, keyx, bkx, otx, dux, dmx, mtx, hox, pax, hsx, wsx⟩ := x
        obtain ⟨hax, hcx, wax, wcx⟩ := r
        obtain ⟨idy, keyy, bky, oty, duy, dmy, mty, hoy, pay, hsy, wsy⟩ := y
        obtain ⟨hay, hcy, way, wcy⟩ := s
        simp only at cE p0 p1 p2 p3 p4 p5 p6 p7 p8 p9 p10 q0 q1 q2 q3 q4 q5 q6 q7 q8 q9 q10
        cases hsame : sameF ⟨idx, keyx, bkx, otx, dux, dmx, mtx, hox, pax, hsx, wsx⟩ ⟨idy, keyy, bky, oty, duy, dmy, mty, hoy, pay, hsy, wsy⟩
        · rw [hsame] at cE
          have HE : Hid (S = false) := by show _ = _; rw [HD.out, hsame, Bool.false_and]
          clear HD hsame
          have HB : Hid (Below w.heap.size w wr) := hb
          go_wp2_with fail
          have bA : Below wr.heap.size wr ((wr.alloc (.cells #[.int .i64 idx, .string keyx, .bool bkx, .bool otx, .int .i64 dux, .bool dmx, .string mtx, .string hox, .string pax, .slice hax hsx.length hcx, .slice wax wsx.length wcx] 40)).alloc (.cells #[.int .i64 idy, .string keyy, .bool bky, .bool oty, .int .i64 duy, .bool dmy, .string mty, .string hoy, .string pay, .slice hay hsy.length hcy, .slice way wsy.length wcy] 40)) := ((Below.refl _ _).alloc (Nat.le_refl _) _).alloc (by simp) _
          refine (cE.out _ bA).mono ?_
          rintro r0 w2 ⟨rfl, hb2⟩
          have hbb : Below w.heap.size w w2 := HB.out.trans ((bA.trans (hb2.mono bA.size)).mono HB.out.size)
          clear hb2 bA HB hb cE p0 p1 p2 p3 p4 p5 p6 p7 p8 p9 p10 q0 q1 q2 q3 q4 q5 q6 q7 q8 q9 q10
          go_wp2_with fail
          go_ret
          exact ⟨ret_bool HE.out.symm, hbb⟩
        · rw [hsame] at cE
          have HE : Hid (S = sameFs ((l.map Prod.fst).drop (k + 1)) ((m.map Prod.fst).drop (k + 1))) := by show _ = _; rw [HD.out, hsame, Bool.true_and]
          clear HD hsame
          have HB : Hid (Below w.heap.size w wr) := hb
          go_wp2_with fail
          have bA : Below wr.heap.size wr ((wr.alloc (.cells #[.int .i64 idx, .string keyx, .bool bkx, .bool otx, .int .i64 dux, .bool dmx, .string mtx, .string hox, .string pax, .slice hax hsx.length hcx, .slice wax wsx.length wcx] 40)).alloc (.cells #[.int .i64 idy, .string keyy, .bool bky, .bool oty, .int .i64 duy, .bool dmy, .string mty, .string hoy, .string pay, .slice hay hsy.length hcy, .slice way wsy.length wcy] 40)) := ((Below.refl _ _).alloc (Nat.le_refl _) _).alloc (by simp) _
          refine (cE.out _ bA).mono ?_
          rintro r0 w2 ⟨rfl, hb2⟩
          have hbb : Below w.heap.size w w2 := HB.out.trans ((bA.trans (hb2.mono bA.size)).mono HB.out.size)
          clear hb2 bA HB hb cE p0 p1 p2 p3 p4 p5 p6 p7 p8 p9 p10 q0 q1 q2 q3 q4 q5 q6 q7 q8 q9 q10
          go_wp2_with fail
          go_roundw
          case rel => exact ⟨k + 1, by omega, by go_num, HE.out, hbb⟩
          case measure => simp [intOf]; omega
      · have HE : Hid (S = true) := by
          show _ = _
          rw [HS.out, List.drop_of_length_le (by have := HN.out; simp; omega), List.drop_of_length_le (by have := HM.out; have := HN.out; simp; omega)]
          rfl
        clear HS
        go_wp2_with fail
        go_ret
        exact ⟨ret_bool HE.out.symm, hb⟩
  · have HE : Hid (sameFs (l.map Prod.fst) (m.map Prod.fst) = false) := sameFs_lens _ _ (by simpa using hlen)
    have g : ¬ (l.length : Int) = (m.length : Int) := by omega
    have g2 : ((l.length : Int) != (m.length : Int)) = true := by simpa using g
    clear H1 H2 HFT
    generalize l.length = n at *
    generalize m.length = n2 at *
    go_enter Try.func13, Try.ntmps13
    go_wp2_with fail
    go_ret
    exact ⟨ret_bool HE.out.symm, Below.refl _ _⟩
set_option maxHeartbeats 1000000 in
theorem implSameFs_any (w : World) (a b : Option Addr) (ca cb : Nat) (l m : List (Fl × FlR)) (hl : l.length ≤ 1048576) (hf : ∀ q ∈ l, FlFit q.1) (h1 : FlsIn w a l) (h2 : FlsIn w b m) :
    Calls Try.prog 7 #[.slice a l.length ca, .slice b m.length cb] w fun e w' => e = .returned (.bool (sameFs (l.map Prod.fst) (m.map Prod.fst))) ∧ Below w.heap.size w w' := by
  have C := equalFls_any w a b ca cb l m hl hf h1 h2
  clear h1 h2 hf
  generalize sameFs (l.map Prod.fst) (m.map Prod.fst) = S at *
  generalize l.length = n at *
  generalize m.length = n2 at *
  go_enter Try.func7, Try.ntmps7
  go_wp2_with fail
  refine C.mono ?_
  rintro e w1 ⟨rfl, hb1⟩
  clear C
  have HB : Hid (Below w.heap.size w w1) := hb1
  clear hb1
  go_wp2_with fail
  go_ret
  exact ⟨rfl, HB.out⟩
end Go.Proofs.Ytgejegmilkmiiaa
