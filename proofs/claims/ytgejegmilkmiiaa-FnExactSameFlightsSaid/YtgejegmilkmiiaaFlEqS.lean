/-
  Two lists of flights that are alike, compared by the laws.
-/
import Derived.Test.YtgejegmilkmiiaaFlToS
import Derived.Test.YtgejegmilkmiiaaFlEq
namespace Go.Proofs.Ytgejegmilkmiiaa
open Go.ChangeShapes Go.WideShapes Go.ChangeAt Go.RowKit Go.Sort
theorem eqFlight_q (w : World) (x : Fl) (r1 r2 : FlR) (hf : FlFit x) (h1 : FlIn w x r1) (h2 : FlIn w x r2) :
    Calls Try.prog 15 #[.agg #[.int .i64 x.id, .string x.key, .bool x.bk, .bool x.ot, .int .i64 x.du, .bool x.dm, .string x.m, .string x.h, .string x.p, .slice r1.ha x.hs.length r1.hc, .slice r1.wa x.ws.length r1.wc], .agg #[.int .i64 x.id, .string x.key, .bool x.bk, .bool x.ot, .int .i64 x.du, .bool x.dm, .string x.m, .string x.h, .string x.p, .slice r2.ha x.hs.length r2.hc, .slice r2.wa x.ws.length r2.wc]] w fun e w' => e = .returned (.bool true) ∧ Below w.heap.size w w' :=
  eqFlight_same w _ _ _ _ _ _ _ _ _ _ _ _ _ _ _ _ _ _ _ hf.h hf.w h1.h h2.h h1.k h2.k
set_option maxHeartbeats 1000000 in
theorem eqFlightS_none (w : World) (a b : Option Addr) (c d : Nat) :
    Calls Try.prog 8 #[.slice a 0 c, .slice b 0 d] w fun e w' => e = .returned (.bool true) ∧ Below w.heap.size w w' := by
  go_enter Try.func8, Try.ntmps8
  go_wp2_with fail
  go_loop [5] (fun i => i = .int .i64 0) (fun _ => 0)
  case atStart => exact rfl
  case round =>
    cases hrel
    go_wp2_with fail
    go_ret
    exact ⟨rfl, Below.refl _ _⟩
set_option maxRecDepth 100000 in
set_option maxHeartbeats 8000000 in
theorem eqFlightS_at (w : World) (b1 o1 b2 o2 c1 c2 : Nat) (l m : List (Fl × FlR)) (n : Nat) (hn : l.length = n) (hl : n ≤ 1048576) (hf : ∀ q ∈ l, FlFit q.1) (hm : l.map Prod.fst = m.map Prod.fst) (h1 : FlsAt w b1 o1 l) (h2 : FlsAt w b2 o2 m) :
    Calls Try.prog 8 #[.slice (some ⟨b1, o1, none⟩) n c1, .slice (some ⟨b2, o2, none⟩) n c2] w fun e w' => e = .returned (.bool true) ∧ Below w.heap.size w w' := by
  have H1 : Hid (FlsAt w b1 o1 l) := h1
  have H2 : Hid (FlsAt w b2 o2 m) := h2
  have HFT : Hid (∀ q ∈ l, FlFit q.1) := hf
  have HMP : Hid (l.map Prod.fst = m.map Prod.fst) := hm
  have HN : Hid (l.length = n) := hn
  clear h1 h2 hf hm hn
  go_enter Try.func8, Try.ntmps8
  go_wp2_with fail
  go_loopw [5] (fun i wr => ∃ k : Nat, k ≤ n ∧ i = .int .i64 k ∧ Below w.heap.size w wr) (fun i _ => n - (intOf i).toNat)
  case atStart => exact ⟨0, Nat.zero_le _, rfl, Below.refl _ _⟩
  case round =>
    obtain ⟨k, hk, rfl, hb⟩ := hrel
    by_cases hlt : k < n
    · obtain ⟨⟨x, r1⟩, hr⟩ : ∃ r, l[k]? = some r := ⟨l[k]'(by have := HN.out; omega), List.getElem?_eq_getElem _⟩
      obtain ⟨r2, hr2⟩ : ∃ r2, m[k]? = some (x, r2) := by
        have e := congrArg (fun z => z[k]?) HMP.out
        simp only [List.getElem?_map, hr, Option.map_some] at e
        obtain ⟨⟨y, r2⟩, e1, e2⟩ := Option.map_eq_some_iff.1 e.symm
        simp only at e2
        exact ⟨r2, by rw [e1, e2]⟩
      have P1 := (H1.out.keep hb).cells hr
      have P2 := (H2.out.keep hb).cells hr2
      simp only at P1 P2
      have I1 := (H1.out.keep hb).in hr
      have I2 := (H2.out.keep hb).in hr2
      have ft := HFT.out _ (List.mem_of_getElem? hr)
      simp only at I1 I2 ft
      have cE : ∀ d os, Calls Try.prog 15 #[.agg #[.int .i64 x.id, .string x.key, .bool x.bk, .bool x.ot, .int .i64 x.du, .bool x.dm, .string x.m, .string x.h, .string x.p, .slice r1.ha x.hs.length r1.hc, .slice r1.wa x.ws.length r1.wc], .agg #[.int .i64 x.id, .string x.key, .bool x.bk, .bool x.ot, .int .i64 x.du, .bool x.dm, .string x.m, .string x.h, .string x.p, .slice r2.ha x.hs.length r2.hc, .slice r2.wa x.ws.length r2.wc]] (grow (redrawn wr d) os) fun e w'' => e = .returned (.bool true) ∧ ∃ p : Regrown, w'' = grow (redrawn wr p.d) p.os := fun d os => Calls.regrown_of (eqFlight_q _ x r1 r2 ft (I1.keep (below_regrown wr d os)) (I2.keep (below_regrown wr d os)))
      have g0 : (0 : Int) ≤ k := by omega
      have g : (k : Int) < n := by omega
      have x0 := cell_regrown P1.1
      have x1 := cell_regrown P1.2.1
      have x2 := cell_regrown P1.2.2.1
      have x3 := cell_regrown P1.2.2.2.1
      have x4 := cell_regrown P1.2.2.2.2.1
      have x5 := cell_regrown P1.2.2.2.2.2.1
      have x6 := cell_regrown P1.2.2.2.2.2.2.1
      have x7 := cell_regrown P1.2.2.2.2.2.2.2.1
      have x8 := cell_regrown P1.2.2.2.2.2.2.2.2.1
      have x9 := cell_regrown P1.2.2.2.2.2.2.2.2.2.1
      have x10 := cell_regrown P1.2.2.2.2.2.2.2.2.2.2
      have y0 := cell_regrown P2.1
      have y1 := cell_regrown P2.2.1
      have y2 := cell_regrown P2.2.2.1
      have y3 := cell_regrown P2.2.2.2.1
      have y4 := cell_regrown P2.2.2.2.2.1
      have y5 := cell_regrown P2.2.2.2.2.2.1
      have y6 := cell_regrown P2.2.2.2.2.2.2.1
      have y7 := cell_regrown P2.2.2.2.2.2.2.2.1
      have y8 := cell_regrown P2.2.2.2.2.2.2.2.2.1
      have y9 := cell_regrown P2.2.2.2.2.2.2.2.2.2.1
      have y10 := cell_regrown P2.2.2.2.2.2.2.2.2.2.2
      clear hr hr2 P1 P2 I1 I2 ft
      obtain ⟨id, key, bk, ot, du, dm, mt, ho, pa, hs, ws⟩ := x
      obtain ⟨ha1, hc1, wa1, wc1⟩ := r1
      obtain ⟨ha2, hc2, wa2, wc2⟩ := r2
      simp only at x0 x1 x2 x3 x4 x5 x6 x7 x8 x9 x10 y0 y1 y2 y3 y4 y5 y6 y7 y8 y9 y10 cE
      generalize hs.length = hl at *
      generalize ws.length = wn at *
      go_wp2_with fail
      refine wp_region_quiet_below (by kernel_rfl) (by kernel_rfl) ?_
      repeat (go_big_quiet_step ((go_at_call 15; exact cE _ _)))
      refine wpQuiet_nil ?_
      intro w2 hw2
      have hbb : Below w.heap.size w w2 := by
        obtain ⟨⟨d, os⟩, rfl⟩ := hw2
        exact hb.trans ((below_regrown wr d os).mono hb.size)
      clear x0 x1 x2 x3 x4 x5 x6 x7 x8 x9 x10 y0 y1 y2 y3 y4 y5 y6 y7 y8 y9 y10 cE hw2 hb
      go_wp2_with fail
      go_roundw
      case rel => exact ⟨k + 1, by omega, by go_num, hbb⟩
      case measure => simp [intOf]; omega
    · go_wp2_with fail
      go_ret
      exact ⟨rfl, hb⟩
theorem eqFlightS_same (w : World) (a1 a2 : Option Addr) (c1 c2 : Nat) (l m : List (Fl × FlR)) (hl : l.length ≤ 1048576) (hf : ∀ q ∈ l, FlFit q.1) (hm : l.map Prod.fst = m.map Prod.fst) (h1 : FlsIn w a1 l) (h2 : FlsIn w a2 m) :
    Calls Try.prog 8 #[.slice a1 l.length c1, .slice a2 l.length c2] w fun e w' => e = .returned (.bool true) ∧ Below w.heap.size w w' := by
  rcases h1 with rfl | ⟨b, o, rfl, h1⟩
  · exact eqFlightS_none w _ _ _ _
  · rcases h2 with rfl | ⟨b2, o2, rfl, h2⟩
    · have : l = [] := by simpa using hm
      subst this
      exact eqFlightS_none w _ _ _ _
    · exact eqFlightS_at w b o b2 o2 c1 c2 l m _ rfl hl hf hm h1 h2
end Go.Proofs.Ytgejegmilkmiiaa
