/-
  Flights, held against each other by the model.
-/
import Derived.Test.YtgejegmilkmiiaaSameFl0
namespace Go.Proofs.Ytgejegmilkmiiaa
open Go.ChangeShapes Go.WideShapes Go.ChangeAt Go.RowKit Go.Sort
def sameFs : List Fl → List Fl → Bool
  | [], [] => true
  | x :: l, y :: m => sameF x y && sameFs l m
  | _, _ => false
theorem sameFs_lens : ∀ (l m : List Fl), l.length ≠ m.length → sameFs l m = false
  | [], [], h => absurd rfl h
  | [], _ :: _, _ => rfl
  | _ :: _, [], _ => rfl
  | x :: l, y :: m, h => by
    rw [sameFs, sameFs_lens l m (by simpa using h), Bool.and_false]
theorem sameFs_drop {l m : List (Fl × FlR)} {k : Nat} {x y : Fl × FlR} (hx : l[k]? = some x) (hy : m[k]? = some y) : sameFs ((l.map Prod.fst).drop k) ((m.map Prod.fst).drop k) = (sameF x.1 y.1 && sameFs ((l.map Prod.fst).drop (k + 1)) ((m.map Prod.fst).drop (k + 1))) := by
  obtain ⟨hk, rfl⟩ := List.getElem?_eq_some_iff.1 hx
  obtain ⟨hj, rfl⟩ := List.getElem?_eq_some_iff.1 hy
  rw [List.drop_eq_getElem_cons (i := k) (by simpa using hk), List.drop_eq_getElem_cons (i := k) (by simpa using hj), sameFs]
  simp
set_option maxRecDepth 100000 in
set_option maxHeartbeats 16000000 in
theorem specSameF_any (w : World) (a b : Option Addr) (ca cb : Nat) (l m : List (Fl × FlR)) (hl : l.length ≤ 1048576) (hf : ∀ q ∈ l, FlFit q.1) (h1 : FlsIn w a l) (h2 : FlsIn w b m) :
    Calls Try.prog 5 #[.slice a l.length ca, .slice b m.length cb] w fun e w' => e = .returned (.bool (sameFs (l.map Prod.fst) (m.map Prod.fst))) ∧ Below w.heap.size w w' := by
  have H1 : Hid (FlsIn w a l) := h1
  have H2 : Hid (FlsIn w b m) := h2
  have HFT : Hid (∀ q ∈ l, FlFit q.1) := hf
  clear h1 h2 hf
  by_cases hlen : l.length = m.length
  · have HM : Hid (m.length = l.length) := hlen.symm
    rw [← hlen]
    clear hlen
    obtain ⟨S, hS⟩ : ∃ S, sameFs (l.map Prod.fst) (m.map Prod.fst) = S := ⟨_, rfl⟩
    rw [hS]
    generalize hn : l.length = n at *
    have HN : Hid (l.length = n) := hn
    have HS0 : Hid (sameFs (l.map Prod.fst) (m.map Prod.fst) = S) := hS
    clear hn hS
    go_enter Try.func5, Try.ntmps5
    go_wp2_with fail
    go_loopw [5] (fun i wr => ∃ k : Nat, k ≤ n ∧ i = .int .i64 k ∧ S = sameFs ((l.map Prod.fst).drop k) ((m.map Prod.fst).drop k) ∧ Below w.heap.size w wr) (fun i _ => n - (intOf i).toNat)
    case atStart => exact ⟨0, Nat.zero_le _, rfl, HS0.out.symm, Below.refl _ _⟩
    case round =>
      obtain ⟨k, hk, rfl, hs, hb⟩ := hrel
      have HS : Hid (S = sameFs ((l.map Prod.fst).drop k) ((m.map Prod.fst).drop k)) := hs
      clear hs HS0
      by_cases hlt : k < n
      · obtain ⟨⟨x, r⟩, hx⟩ : ∃ r, l[k]? = some r := ⟨l[k]'(by have := HN.out; omega), List.getElem?_eq_getElem _⟩
        obtain ⟨⟨y, s⟩, hy⟩ : ∃ r, m[k]? = some r := ⟨m[k]'(by have := HM.out; have := HN.out; omega), List.getElem?_eq_getElem _⟩
        rcases H1.out with h | ⟨b1, o1, rfl, at1⟩
        · subst h; simp at hx
        rcases H2.out with h | ⟨b2, o2, rfl, at2⟩
        · subst h; simp at hy
        have P1 := (at1.keep hb).here hx
        have P2 := (at2.keep hb).here hy
        have I1 := (at1.keep hb).in hx
        have I2 := (at2.keep hb).in hy
        have ft := HFT.out _ (List.mem_of_getElem? hx)
        simp only at P1 P2 I1 I2 ft
        have HD : Hid (S = (sameF x y && sameFs ((l.map Prod.fst).drop (k + 1)) ((m.map Prod.fst).drop (k + 1)))) := by show _ = _; rw [HS.out, sameFs_drop hx hy]
        have g0 : (0 : Int) ≤ k := by omega
        have g : (k : Int) < n := by omega
        clear hx hy at1 at2 HS
        have cQ : Hid (∀ X, Below wr.heap.size wr X → Calls Try.prog 10 #[.agg #[.string x.m, .string x.h, .string x.p, .slice r.ha x.hs.length r.hc], .agg #[.string y.m, .string y.h, .string y.p, .slice s.ha y.hs.length s.hc]] X fun e w' => e = .returned (.bool (sameQ x.m x.h x.p x.hs y.m y.h y.p y.hs)) ∧ Below X.heap.size X w') := fun X hX => specSameQ_any X _ _ _ _ _ _ _ _ _ _ _ _ ft.h (I1.h.keep hX) (I2.h.keep hX)
        have cW : Hid (∀ X, Below wr.heap.size wr X → Calls Try.prog 11 #[.slice r.wa x.ws.length r.wc, .slice s.wa y.ws.length s.wc] X fun e w' => e = .returned (.bool (sameRs x.ws y.ws)) ∧ Below X.heap.size X w') := fun X hX => specWaiters_any X _ _ _ _ _ _ ft.w (I1.k.keep hX) (I2.k.keep hX)
        have p0 := P1.1
        have p1 := P1.2.1
        have p2 := P1.2.2.1
        have p3 := P1.2.2.2.1
        have p4 := P1.2.2.2.2.1
        have p5 := P1.2.2.2.2.2.1
        have p6 := P1.2.2.2.2.2.2.1
        have p7 := P1.2.2.2.2.2.2.2.1
        have p8 := P1.2.2.2.2.2.2.2.2.1
        have p9 := P1.2.2.2.2.2.2.2.2.2.1
        have p10 := P1.2.2.2.2.2.2.2.2.2.2
        have P3 := P2.keep ((Below.refl wr.heap.size wr).alloc (Nat.le_refl _) (.cells #[.int .i64 x.id, .string x.key, .bool x.bk, .bool x.ot, .int .i64 x.du, .bool x.dm, .string x.m, .string x.h, .string x.p, .slice r.ha x.hs.length r.hc, .slice r.wa x.ws.length r.wc] 40))
        have q0 := P3.1
        have q1 := P3.2.1
        have q2 := P3.2.2.1
        have q3 := P3.2.2.2.1
        have q4 := P3.2.2.2.2.1
        have q5 := P3.2.2.2.2.2.1
        have q6 := P3.2.2.2.2.2.2.1
        have q7 := P3.2.2.2.2.2.2.2.1
        have q8 := P3.2.2.2.2.2.2.2.2.1
        have q9 := P3.2.2.2.2.2.2.2.2.2.1
        have q10 := P3.2.2.2.2.2.2.2.2.2.2
        clear P1 P2 P3 I1 I2 ft
        unfold sameF sameC at HD
        generalize sameQ x.m x.h x.p x.hs y.m y.h y.p y.hs = sq at *
        generalize sameRs x.ws y.ws = sw at *
        obtain ⟨id1, key1, bk1, ot1, du1, dm1, m1, h1, p1', hs1, ws1⟩ := x
        obtain ⟨ha1, hc1, wa1, wc1⟩ := r
        obtain ⟨id2, key2, bk2, ot2, du2, dm2, m2, h2, p2', hs2, ws2⟩ := y
        obtain ⟨ha2, hc2, wa2, wc2⟩ := s
        simp only at HD cQ cW p0 p1 p2 p3 p4 p5 p6 p7 p8 p9 p10 q0 q1 q2 q3 q4 q5 q6 q7 q8 q9 q10
        generalize hs1.length = hl1 at *
        generalize hs2.length = hl2 at *
        generalize ws1.length = wn1 at *
        generalize ws2.length = wn2 at *
        have HB : Hid (Below w.heap.size w wr) := hb
        have bA : Hid (Below wr.heap.size wr ((wr.alloc (.cells #[.int .i64 id1, .string key1, .bool bk1, .bool ot1, .int .i64 du1, .bool dm1, .string m1, .string h1, .string p1', .slice ha1 hl1 hc1, .slice wa1 wn1 wc1] 40)).alloc (.cells #[.int .i64 id2, .string key2, .bool bk2, .bool ot2, .int .i64 du2, .bool dm2, .string m2, .string h2, .string p2', .slice ha2 hl2 hc2, .slice wa2 wn2 wc2] 40))) := ((Below.refl _ _).alloc (Nat.le_refl _) _).alloc (by simp) _
        have HE1 : Hid (E11 ((wr.alloc (.cells #[.int .i64 id1, .string key1, .bool bk1, .bool ot1, .int .i64 du1, .bool dm1, .string m1, .string h1, .string p1', .slice ha1 hl1 hc1, .slice wa1 wn1 wc1] 40)).alloc (.cells #[.int .i64 id2, .string key2, .bool bk2, .bool ot2, .int .i64 du2, .bool dm2, .string m2, .string h2, .string p2', .slice ha2 hl2 hc2, .slice wa2 wn2 wc2] 40)) wr.heap.size (.int .i64 id1) (.string key1) (.bool bk1) (.bool ot1) (.int .i64 du1) (.bool dm1) (.string m1) (.string h1) (.string p1') (.slice ha1 hl1 hc1) (.slice wa1 wn1 wc1)) := (E11.new wr _ _ _ _ _ _ _ _ _ _ _ _).keep ((Below.refl _ _).alloc (Nat.le_refl _) _)
        have HE2 : Hid (E11 ((wr.alloc (.cells #[.int .i64 id1, .string key1, .bool bk1, .bool ot1, .int .i64 du1, .bool dm1, .string m1, .string h1, .string p1', .slice ha1 hl1 hc1, .slice wa1 wn1 wc1] 40)).alloc (.cells #[.int .i64 id2, .string key2, .bool bk2, .bool ot2, .int .i64 du2, .bool dm2, .string m2, .string h2, .string p2', .slice ha2 hl2 hc2, .slice wa2 wn2 wc2] 40)) (wr.heap.size + 1) (.int .i64 id2) (.string key2) (.bool bk2) (.bool ot2) (.int .i64 du2) (.bool dm2) (.string m2) (.string h2) (.string p2') (.slice ha2 hl2 hc2) (.slice wa2 wn2 wc2)) := by
          show E11 ((wr.alloc (.cells #[.int .i64 id1, .string key1, .bool bk1, .bool ot1, .int .i64 du1, .bool dm1, .string m1, .string h1, .string p1', .slice ha1 hl1 hc1, .slice wa1 wn1 wc1] 40)).alloc (.cells #[.int .i64 id2, .string key2, .bool bk2, .bool ot2, .int .i64 du2, .bool dm2, .string m2, .string h2, .string p2', .slice ha2 hl2 hc2, .slice wa2 wn2 wc2] 40)) (wr.heap.size + 1) (.int .i64 id2) (.string key2) (.bool bk2) (.bool ot2) (.int .i64 du2) (.bool dm2) (.string m2) (.string h2) (.string p2') (.slice ha2 hl2 hc2) (.slice wa2 wn2 wc2)
          have := E11.new (wr.alloc (.cells #[.int .i64 id1, .string key1, .bool bk1, .bool ot1, .int .i64 du1, .bool dm1, .string m1, .string h1, .string p1', .slice ha1 hl1 hc1, .slice wa1 wn1 wc1] 40)) (.int .i64 id2) (.string key2) (.bool bk2) (.bool ot2) (.int .i64 du2) (.bool dm2) (.string m2) (.string h2) (.string p2') (.slice ha2 hl2 hc2) (.slice wa2 wn2 wc2) 40
          simpa using this
        have hbb : Hid (Below w.heap.size w ((wr.alloc (.cells #[.int .i64 id1, .string key1, .bool bk1, .bool ot1, .int .i64 du1, .bool dm1, .string m1, .string h1, .string p1', .slice ha1 hl1 hc1, .slice wa1 wn1 wc1] 40)).alloc (.cells #[.int .i64 id2, .string key2, .bool bk2, .bool ot2, .int .i64 du2, .bool dm2, .string m2, .string h2, .string p2', .slice ha2 hl2 hc2, .slice wa2 wn2 wc2] 40))) := HB.out.trans (bA.out.mono HB.out.size)
        obtain ⟨V, hV⟩ : ∃ V, V = ((wr.alloc (.cells #[.int .i64 id1, .string key1, .bool bk1, .bool ot1, .int .i64 du1, .bool dm1, .string m1, .string h1, .string p1', .slice ha1 hl1 hc1, .slice wa1 wn1 wc1] 40)).alloc (.cells #[.int .i64 id2, .string key2, .bool bk2, .bool ot2, .int .i64 du2, .bool dm2, .string m2, .string h2, .string p2', .slice ha2 hl2 hc2, .slice wa2 wn2 wc2] 40)) := ⟨_, rfl⟩
        have HV : Hid (V = ((wr.alloc (.cells #[.int .i64 id1, .string key1, .bool bk1, .bool ot1, .int .i64 du1, .bool dm1, .string m1, .string h1, .string p1', .slice ha1 hl1 hc1, .slice wa1 wn1 wc1] 40)).alloc (.cells #[.int .i64 id2, .string key2, .bool bk2, .bool ot2, .int .i64 du2, .bool dm2, .string m2, .string h2, .string p2', .slice ha2 hl2 hc2, .slice wa2 wn2 wc2] 40))) := hV
        rw [← hV] at hbb HE1 HE2 bA
        clear hV hb
        by_cases c0 : id1 = id2
        rotate_left
        · have HF : Hid (S = false) := by show _ = _; rw [HD.out]; simp [c0]
          clear HD
          have d0 : (id1 != id2) = true := by simp [c0]
          clear c0
          go_wp2_with fail
          rw [← HV.out]
          go_ret
          exact ⟨ret_bool HF.out.symm, hbb.out⟩
        subst c0
        by_cases c1 : key1.toList = key2.toList
        rotate_left
        · have HF : Hid (S = false) := by show _ = _; rw [HD.out]; simp [c1]
          clear HD
          have d1 : (key1.toList == key2.toList) = false := by simp [c1]
          clear c1
          go_wp2_with fail
          rw [← HV.out]
          go_ret
          exact ⟨ret_bool HF.out.symm, hbb.out⟩
        have d1 : (key1.toList == key2.toList) = true := by simp [c1]
        have C1 : Hid (key1.toList = key2.toList) := c1
        clear c1
        by_cases c2 : bk1 = bk2
        rotate_left
        · have HF : Hid (S = false) := by show _ = _; rw [HD.out]; simp [C1.out, c2]
          clear HD
          cases bk1 <;> cases bk2
          · exact absurd rfl c2
          · clear c2
            go_wp2_with fail
            rw [← HV.out]
            go_ret
            exact ⟨ret_bool HF.out.symm, hbb.out⟩
          · clear c2
            go_wp2_with fail
            rw [← HV.out]
            go_ret
            exact ⟨ret_bool HF.out.symm, hbb.out⟩
          · exact absurd rfl c2
        subst c2
        by_cases c3 : ot1 = ot2
        rotate_left
        · have HF : Hid (S = false) := by show _ = _; rw [HD.out]; simp [C1.out, c3]
          clear HD
          cases ot1 <;> cases ot2
          · exact absurd rfl c3
          · clear c3
            go_wp2_with fail
            rw [← HV.out]
            go_ret
            exact ⟨ret_bool HF.out.symm, hbb.out⟩
          · clear c3
            go_wp2_with fail
            rw [← HV.out]
            go_ret
            exact ⟨ret_bool HF.out.symm, hbb.out⟩
          · exact absurd rfl c3
        subst c3
        by_cases c4 : du1 = du2
        rotate_left
        · have HF : Hid (S = false) := by show _ = _; rw [HD.out]; simp [C1.out, c4]
          clear HD
          have d4 : (du1 != du2) = true := by simp [c4]
          clear c4
          go_wp2_with fail
          rw [← HV.out]
          go_ret
          exact ⟨ret_bool HF.out.symm, hbb.out⟩
        subst c4
        by_cases c5 : dm1 = dm2
        rotate_left
        · have HF : Hid (S = false) := by show _ = _; rw [HD.out]; simp [C1.out, c5]
          clear HD
          cases dm1 <;> cases dm2
          · exact absurd rfl c5
          · clear c5
            go_wp2_with fail
            rw [← HV.out]
            go_ret
            exact ⟨ret_bool HF.out.symm, hbb.out⟩
          · clear c5
            go_wp2_with fail
            rw [← HV.out]
            go_ret
            exact ⟨ret_bool HF.out.symm, hbb.out⟩
          · exact absurd rfl c5
        subst c5
        have HD2 : Hid (S = (sq && sw && sameFs ((l.map Prod.fst).drop (k + 1)) ((m.map Prod.fst).drop (k + 1)))) := by show _ = _; rw [HD.out]; simp [C1.out]
        clear HD
        have z9 := HE1.out.c9
        cases sq
        · have HF : Hid (S = false) := by show _ = _; rw [HD2.out]; simp
          clear HD2
          go_wp2_with fail
          rw [← HV.out]
          refine (cQ.out _ bA.out).mono ?_
          rintro e w2 ⟨rfl, hb2⟩
          have HB2 : Hid (Below w.heap.size w w2) := hbb.out.trans (hb2.mono hbb.out.size)
          clear hb2
          go_wp2_with fail
          go_ret
          exact ⟨ret_bool HF.out.symm, HB2.out⟩
        go_wp2_with fail
        rw [← HV.out]
        refine (cQ.out _ bA.out).mono ?_
        rintro e w2 ⟨rfl, hb2⟩
        have HB2 : Hid (Below w.heap.size w w2) := hbb.out.trans (hb2.mono hbb.out.size)
        have HR2 : Hid (Below wr.heap.size wr w2) := bA.out.trans (hb2.mono bA.out.size)
        have y1 := (HE1.out.keep hb2).c10
        have y2 := (HE2.out.keep hb2).c10
        clear hb2 p0 p1 p2 p3 p4 p5 p6 p7 p8 p9 p10 q0 q1 q2 q3 q4 q5 q6 q7 q8 q9 q10 HV HE1 HE2 z9
        go_wp2_with fail
        refine (cW.out _ HR2.out).mono ?_
        rintro e w3 ⟨rfl, hb3⟩
        have HB3 : Hid (Below w.heap.size w w3) := HB2.out.trans (hb3.mono HB2.out.size)
        clear hb3 y1 y2
        cases sw
        · have HF : Hid (S = false) := by show _ = _; rw [HD2.out]; simp
          clear HD2
          go_wp2_with fail
          go_ret
          exact ⟨ret_bool HF.out.symm, HB3.out⟩
        · have HF : Hid (S = sameFs ((l.map Prod.fst).drop (k + 1)) ((m.map Prod.fst).drop (k + 1))) := by show _ = _; rw [HD2.out]; simp
          clear HD2
          go_wp2_with fail
          go_roundw
          case rel => exact ⟨k + 1, by omega, by go_num, HF.out, HB3.out⟩
          case measure => simp [intOf]; omega
      · have HE : Hid (S = true) := by
          show _ = _
          rw [HS.out, List.drop_of_length_le (by have := HN.out; simp; omega), List.drop_of_length_le (by have := HM.out; have := HN.out; simp; omega)]
          rfl
        clear HS
        go_wp2_with fail
        go_ret
        exact ⟨ret_bool HE.out.symm, hb⟩
  · have HE : Hid (sameFs (l.map Prod.fst) (m.map Prod.fst) = false) := sameFs_lens _ _ (by simpa using hlen)
    have g : ¬ (l.length : Int) = (m.length : Int) := by omega
    have g2 : ((l.length : Int) != (m.length : Int)) = true := by simpa using g
    clear H1 H2 HFT
    generalize l.length = n at *
    generalize m.length = n2 at *
    go_enter Try.func5, Try.ntmps5
    go_wp2_with fail
    go_ret
    exact ⟨ret_bool HE.out.symm, Below.refl _ _⟩
end Go.Proofs.Ytgejegmilkmiiaa
