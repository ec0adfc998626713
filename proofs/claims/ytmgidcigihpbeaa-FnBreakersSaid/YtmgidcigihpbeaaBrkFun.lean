/-
  The program's small functions over outcomes: which of them are meant, whether they rise.
-/
import Derived.Test.YtmgidcigihpbeaaBrkSpec
import Derived.WalkSmall
import Derived.Shelf.Abstract
namespace Go.Proofs.Ytmgidcigihpbeaa
open Go.ChangeShapes Go.WideShapes Go.ChangeAt Go.RowKit Go.Sort
/-- A function value tells of outcomes whether they are meant, whatever world follows w. -/
structure PredM (w : World) (g : Nat) (lb : Array Value) (p : Mk → Bool) : Prop where
  eg : ∀ args X, (callFunc g args).run Try.prog X = .ok (.enter g args) X
  call : ∀ X, Below w.heap.size w X → ∀ r : Mk, Calls Try.prog g (#[.agg #[.int .i64 r.tm, .bool r.gd]] ++ lb) X fun e X' => e = .returned (.bool (p r)) ∧ Below X.heap.size X X'
theorem PredM.later {w w' : World} {g : Nat} {lb : Array Value} {p : Mk → Bool} (h : PredM w g lb p) (hb : Below w.heap.size w w') : PredM w' g lb p := ⟨h.eg, fun X hX => h.call X (hb.trans (hX.mono hb.size))⟩
def IdxM (p : Mk → Bool) (l : List Mk) (e : Ending) : Prop := (∃ k : Nat, e = .returned (.int .i64 (k : Int)) ∧ k ≤ 1048576 ∧ l.any p = true) ∨ (e = .returned (.int .i64 (-1)) ∧ l.any p = false)
theorem anyM_of {p : Mk → Bool} {l : List Mk} {k : Nat} {r : Mk} (hr : l[k]? = some r) (h : p r = true) : l.any p = true := List.any_eq_true.2 ⟨r, List.mem_of_getElem? hr, h⟩
theorem anyM_no {p : Mk → Bool} {l : List Mk} (h : ∀ (j : Nat) x, l[j]? = some x → p x = false) : l.any p = false := by
  rw [List.any_eq_false]
  intro x hx
  obtain ⟨i, hi⟩ := List.getElem?_of_mem hx
  rw [h i x hi]; decide
set_option maxRecDepth 100000 in
set_option maxHeartbeats 4000000 in
theorem indexMk_any (w : World) (g : Nat) (lb : Array Value) (p : Mk → Bool) (a : Option Addr) (cap : Nat) (l : List Mk) (hl : l.length ≤ 1048576) (hi : MkIn w a l) (PH : PredM w g lb p) :
    Calls Try.prog 90 #[.slice a l.length cap, .func (.func g) #[] lb] w fun e w' => IdxM p l e ∧ Below w.heap.size w w' := by
  have HI : Hid (MkIn w a l) := hi
  have HP : Hid (∀ X, Below w.heap.size w X → ∀ r : Mk, Calls Try.prog g (#[.agg #[.int .i64 r.tm, .bool r.gd]] ++ lb) X fun e X' => e = .returned (.bool (p r)) ∧ Below X.heap.size X X') := PH.call
  have eg := PH.eg
  clear hi PH
  obtain ⟨n, hn⟩ : ∃ n, l.length = n := ⟨_, rfl⟩
  rw [hn] at hl ⊢
  have HN : Hid (l.length = n) := hn
  clear hn
  go_enter Try.func90, Try.ntmps90
  go_wp2_with fail
  go_loopw [8] (fun i wr => ∃ k : Nat, k ≤ n ∧ i = .int .i64 k ∧ (∀ (j : Nat) x, j < k → l[j]? = some x → p x = false) ∧ Below w.heap.size w wr) (fun i _ => n - (intOf i).toNat)
  case atStart => exact ⟨0, Nat.zero_le _, rfl, fun j x h => by omega, Below.refl _ _⟩
  case round =>
    obtain ⟨k, hk, rfl, hA, hb⟩ := hrel
    have HA : Hid (∀ (j : Nat) x, j < k → l[j]? = some x → p x = false) := hA
    clear hA
    by_cases hlt : k < n
    · obtain ⟨r, hr⟩ : ∃ r, l[k]? = some r := ⟨l[k]'(by have := HN.out; omega), List.getElem?_eq_getElem _⟩
      rcases (HI.out.keep hb) with h | ⟨b, off, rfl, hat⟩
      · subst h; simp at hr
      obtain ⟨p0, p1⟩ := hat k r hr
      have CP := HP.out wr hb r
      have gk : (k : Int) < n := by omega
      have gk0 : (0 : Int) ≤ k := by omega
      have HB : Hid (Below w.heap.size w wr) := hb
      cases he : p r
      · rw [he] at CP
        have HF : Hid (∀ (j : Nat) x, j < k + 1 → l[j]? = some x → p x = false) := by
          intro j x hj hjx
          by_cases e : j = k
          · subst e; rw [hr] at hjx; obtain rfl := Option.some.inj hjx; exact he
          · exact HA.out j x (by omega) hjx
        clear hr hat hb HA HI he HP
        generalize r.tm = rt at *
        generalize r.gd = rg at *
        go_wp2_with (go_at_fn g; refine CP.mono ?_; rintro e w2 ⟨rfl, hb2⟩)
        go_roundw
        case rel => exact ⟨k + 1, by omega, by go_num, HF.out, HB.out.trans (hb2.mono HB.out.size)⟩
        case measure => simp [intOf]; omega
      · rw [he] at CP
        have HF : Hid (IdxM p l (.returned (.int .i64 (k : Int)))) := .inl ⟨k, rfl, by omega, anyM_of hr he⟩
        clear hr hat hb HA HI he HP
        generalize r.tm = rt at *
        generalize r.gd = rg at *
        go_wp2_with (go_at_fn g; refine CP.mono ?_; rintro e w2 ⟨rfl, hb2⟩)
        go_ret
        exact ⟨HF.out, HB.out.trans (hb2.mono HB.out.size)⟩
    · have HF : Hid (IdxM p l (.returned (.int .i64 (-1)))) := .inr ⟨rfl, anyM_no fun j x hx => HA.out j x (by have := (List.getElem?_eq_some_iff.1 hx).1; have := HN.out; omega) hx⟩
      have HB : Hid (Below w.heap.size w wr) := hb
      clear HA hb HP HN HI
      go_wp2_with fail
      go_ret
      exact ⟨HF.out, HB.out⟩
set_option maxHeartbeats 400000 in
theorem containsMk_any (w : World) (g : Nat) (lb : Array Value) (p : Mk → Bool) (a : Option Addr) (cap : Nat) (l : List Mk) (hl : l.length ≤ 1048576) (hi : MkIn w a l) (PH : PredM w g lb p) :
    Calls Try.prog 68 #[.slice a l.length cap, .func (.func g) #[] lb] w fun e w' => e = .returned (.bool (l.any p)) ∧ Below w.heap.size w w' := by
  have HC : Hid (Calls Try.prog 90 #[.slice a l.length cap, .func (.func g) #[] lb] w fun e w' => IdxM p l e ∧ Below w.heap.size w w') := indexMk_any w g lb p a cap l hl hi PH
  clear hi PH
  generalize l.length = n at *
  go_enter Try.func68, Try.ntmps68
  go_wp2_with fail
  refine HC.out.mono ?_
  rintro e w1 ⟨hI, hb⟩
  clear HC
  rcases hI with ⟨k, rfl, _, h⟩ | ⟨rfl, h⟩
  · have HH : Hid (l.any p = true) := h
    clear h
    go_wp2_with fail
    go_ret
    exact ⟨by rw [HH.out]; rfl, hb⟩
  · have HH : Hid (l.any p = false) := h
    clear h
    go_wp2_with fail
    go_ret
    exact ⟨by rw [HH.out]; rfl, hb⟩
theorem notTime_any (w : World) : PredM w 69 #[] (fun r => !timeB r.tm) := by
  refine ⟨enters_of Try.func69 (by kernel_rfl) rfl, fun X _ r => ?_⟩
  have HU : Hid (∀ x w, Calls Try.prog 41 #[.int .i64 x] w fun r w' => r = .returned (.bool (timeB x)) ∧ w' = w) := isTime_all
  obtain ⟨rt, rg⟩ := r
  simp only
  generalize hx : timeB rt = x at *
  show Calls Try.prog 69 #[.agg #[.int .i64 rt, .bool rg]] X _
  go_enter Try.func69, Try.ntmps69
  go_wp2_with fail
  refine (HU.out _ _).mono ?_
  rintro e w1 ⟨rfl, rfl⟩
  rw [hx]
  go_wp2_with fail
  go_ret
  exact ⟨rfl, (Below.refl _ _).alloc (Nat.le_refl _) _⟩
theorem later_any (w : World) (K : Nat) (now : Int) (hK : K < w.heap.size) (hc : w.cell? ⟨K, 0, none⟩ = some (.int .i64 now)) : PredM w 88 #[.pointer (some ⟨K, 0, none⟩)] (fun r => decide (now < r.tm)) := by
  refine ⟨enters_of Try.func88 (by kernel_rfl) rfl, fun X hX r => ?_⟩
  have c0 : X.cell? ⟨K, 0, none⟩ = some (.int .i64 now) := by rw [hX.cell (p := ⟨K, 0, none⟩) hK]; exact hc
  have hKX : K < X.heap.size := Nat.lt_of_lt_of_le hK hX.size
  clear hX hc hK
  obtain ⟨rt, rg⟩ := r
  simp only
  show Calls Try.prog 88 #[.agg #[.int .i64 rt, .bool rg], .pointer (some ⟨K, 0, none⟩)] X _
  by_cases c : now < rt
  · have e : decide (now < rt) = true := by simpa using c
    rw [e]
    go_enter Try.func88, Try.ntmps88
    go_wp2
    go_ret
    exact ⟨rfl, (Below.refl _ _).alloc (Nat.le_refl _) _⟩
  · have e : decide (now < rt) = false := by simpa using c
    rw [e]
    go_enter Try.func88, Try.ntmps88
    go_wp2
    go_ret
    exact ⟨rfl, (Below.refl _ _).alloc (Nat.le_refl _) _⟩
def cmpI (x y : Int) : Int := if x < y then -1 else if y < x then 1 else 0
theorem isNaN_all (x : Int) (w : World) : Calls Try.prog 95 #[.int .i64 x] w fun r w' => r = .returned (.bool false) ∧ w' = w := by
  go_enter Try.func95, Try.ntmps95
  go_wp2
  go_ret
  exact ⟨rfl, rfl⟩
set_option maxHeartbeats 400000 in
theorem compare_all (x y : Int) (w : World) : Calls Try.prog 91 #[.int .i64 x, .int .i64 y] w fun r w' => r = .returned (.int .i64 (cmpI x y)) ∧ w' = w := by
  have HN : Hid (∀ x w, Calls Try.prog 95 #[.int .i64 x] w fun r w' => r = .returned (.bool false) ∧ w' = w) := isNaN_all
  by_cases c : x < y
  · have e : cmpI x y = -1 := by rw [cmpI, if_pos c]
    rw [e]
    go_enter Try.func91, Try.ntmps91
    go_wp2_with fail
    refine (HN.out _ _).mono ?_
    rintro r w1 ⟨rfl, rfl⟩
    go_wp2_with fail
    refine (HN.out _ _).mono ?_
    rintro r w1 ⟨rfl, rfl⟩
    go_wp2_with fail
    go_ret
    exact ⟨rfl, rfl⟩
  · by_cases c2 : y < x
    · have e : cmpI x y = 1 := by rw [cmpI, if_neg c, if_pos c2]
      rw [e]
      go_enter Try.func91, Try.ntmps91
      go_wp2_with fail
      refine (HN.out _ _).mono ?_
      rintro r w1 ⟨rfl, rfl⟩
      go_wp2_with fail
      refine (HN.out _ _).mono ?_
      rintro r w1 ⟨rfl, rfl⟩
      go_wp2_with fail
      go_ret
      exact ⟨rfl, rfl⟩
    · have e : cmpI x y = 0 := by rw [cmpI, if_neg c, if_neg c2]
      rw [e]
      go_enter Try.func91, Try.ntmps91
      go_wp2_with fail
      refine (HN.out _ _).mono ?_
      rintro r w1 ⟨rfl, rfl⟩
      go_wp2_with fail
      refine (HN.out _ _).mono ?_
      rintro r w1 ⟨rfl, rfl⟩
      go_wp2_with fail
      go_ret
      exact ⟨rfl, rfl⟩
theorem byTime_any (x y : Mk) (w : World) : Calls Try.prog 71 #[.agg #[.int .i64 x.tm, .bool x.gd], .agg #[.int .i64 y.tm, .bool y.gd]] w fun r w' => r = .returned (.int .i64 (cmpI x.tm y.tm)) ∧ Below w.heap.size w w' := by
  have HC : Hid (∀ x y w, Calls Try.prog 91 #[.int .i64 x, .int .i64 y] w fun r w' => r = .returned (.int .i64 (cmpI x y)) ∧ w' = w) := compare_all
  obtain ⟨xt, xg⟩ := x
  obtain ⟨yt, yg⟩ := y
  simp only
  generalize hx : cmpI xt yt = z at *
  go_enter Try.func71, Try.ntmps71
  go_wp2_with fail
  refine (HC.out _ _ _).mono ?_
  rintro r w1 ⟨rfl, rfl⟩
  rw [hx]
  go_wp2_with fail
  go_ret
  exact ⟨rfl, ((Below.refl _ _).alloc (Nat.le_refl _) _).alloc (by simp) _⟩
set_option maxRecDepth 100000 in
set_option maxHeartbeats 4000000 in
theorem sortedMk_any (w : World) (a : Option Addr) (cap : Nat) (l : List Mk) (hl : l.length ≤ 1048576) (hi : MkIn w a l) :
    Calls Try.prog 70 #[.slice a l.length cap, .func (.func 71) #[] #[]] w fun e w' => e = .returned (.bool (sortedM l)) ∧ Below w.heap.size w w' := by
  have HI : Hid (MkIn w a l) := hi
  clear hi
  obtain ⟨n, hn⟩ : ∃ n, l.length = n := ⟨_, rfl⟩
  rw [hn] at hl ⊢
  have HN : Hid (l.length = n) := hn
  have HSF : Hid (∀ (i : Nat) x y, l[i]? = some x → l[i + 1]? = some y → y.tm < x.tm → sortedM l = false) := fun i x y => sortedM_no
  have HST : Hid ((∀ (i : Nat) x y, l[i]? = some x → l[i + 1]? = some y → x.tm ≤ y.tm) → sortedM l = true) := (sortedM_iff l).2
  clear hn
  generalize sortedM l = sb at *
  go_enter Try.func70, Try.ntmps70
  go_wp2_with fail
  go_loopw [5] (fun i wr => ∃ z : Int, i = .int .i64 z ∧ -1 ≤ z ∧ z < n + 1 ∧ z ≤ n - 1 ∧ (∀ (j : Nat) x y, z ≤ j → l[j]? = some x → l[j + 1]? = some y → x.tm ≤ y.tm) ∧ Below w.heap.size w wr) (fun i _ => (intOf i).toNat)
  case atStart => exact ⟨(n : Int) - 1, by go_num, by omega, by omega, by omega, fun j x y h _ hy => by have := (List.getElem?_eq_some_iff.1 hy).1; have := HN.out; omega, Below.refl _ _⟩
  case round =>
    obtain ⟨z, rfl, hz, _, hzn, hA, hb⟩ := hrel
    have HA : Hid (∀ (j : Nat) x y, z ≤ j → l[j]? = some x → l[j + 1]? = some y → x.tm ≤ y.tm) := hA
    clear hA
    by_cases hlt : 0 < z
    · obtain ⟨k, rfl⟩ : ∃ k : Nat, z = ((k + 1 : Nat) : Int) := ⟨(z - 1).toNat, by omega⟩
      have hk : k + 1 < n := by omega
      clear hz hzn hlt
      obtain ⟨x, hx⟩ : ∃ r, l[k]? = some r := ⟨l[k]'(by have := HN.out; omega), List.getElem?_eq_getElem _⟩
      obtain ⟨y, hy⟩ : ∃ r, l[k + 1]? = some r := ⟨l[k + 1]'(by have := HN.out; omega), List.getElem?_eq_getElem _⟩
      rcases (HI.out.keep hb) with h | ⟨b, off, rfl, hat⟩
      · subst h; simp at hx
      obtain ⟨p0, p1⟩ := hat k x hx
      obtain ⟨q0, q1⟩ := hat (k + 1) y hy
      have P0 := cell_regrown p0
      have P1 := cell_regrown p1
      have Q0 := cell_regrown q0
      have Q1 := cell_regrown q1
      have cE : ∀ d os, Calls Try.prog 71 #[.agg #[.int .i64 y.tm, .bool y.gd], .agg #[.int .i64 x.tm, .bool x.gd]] (grow (redrawn wr d) os) fun e w'' => e = .returned (.int .i64 (cmpI y.tm x.tm)) ∧ ∃ p : Regrown, w'' = grow (redrawn wr p.d) p.os := fun d os => Calls.regrown_of (byTime_any y x _)
      have g0 : (0 : Int) ≤ k := by omega
      have g : ((k + 1 : Nat) : Int) < n := by omega
      have g1 : (0 : Int) ≤ ((k + 1 : Nat) : Int) := by omega
      have g2 : IntKind.i64.wrap (((k + 1 : Nat) : Int) - 1) = (k : Int) := by rw [IntKind.wrap_i64]; omega
      have g3 : (((k + 1 : Nat) : Int) - 1) = (k : Int) := by omega
      have g4 : (k : Int) < n := by omega
      have g5 : (0 : Int) < ((k + 1 : Nat) : Int) := by omega
      by_cases hxy : y.tm < x.tm
      · have HE : Hid (sb = false) := HSF.out k x y hx hy hxy
        have e : cmpI y.tm x.tm = -1 := by rw [cmpI, if_pos hxy]
        rw [e] at cE
        clear hat hx hy p0 q0 p1 q1 HA HI HST HSF e hxy
        generalize x.tm = xt at *
        generalize y.tm = yt at *
        generalize x.gd = xg at *
        generalize y.gd = yg at *
        go_wp2_with fail
        refine wp_region_quiet_below (by kernel_rfl) (by kernel_rfl) ?_
        repeat (go_big_quiet_step ((go_at_call 71; exact cE _ _)))
        refine wpQuiet_nil ?_
        intro w2 hw2
        have hbb : Below w.heap.size w w2 := by
          obtain ⟨⟨d, os⟩, rfl⟩ := hw2
          exact hb.trans ((below_regrown wr d os).mono hb.size)
        clear P0 Q0 P1 Q1 hw2 hb cE
        go_wp2_with fail
        go_ret
        exact ⟨ret_bool HE.out.symm, hbb⟩
      · have HF : Hid (∀ (j : Nat) x y, (k : Int) ≤ j → l[j]? = some x → l[j + 1]? = some y → x.tm ≤ y.tm) := by
          intro j u v hj hju hjv
          by_cases e : j = k
          · subst e
            rw [hx] at hju; rw [hy] at hjv
            obtain rfl := Option.some.inj hju
            obtain rfl := Option.some.inj hjv
            omega
          · exact HA.out j u v (by omega) hju hjv
        obtain ⟨cz, hcz, hc0⟩ : ∃ cz, cmpI y.tm x.tm = cz ∧ 0 ≤ cz := ⟨_, rfl, by rw [cmpI, if_neg hxy]; split <;> omega⟩
        rw [hcz] at cE
        clear hat hx hy p0 q0 p1 q1 HA HI HSF hcz hxy
        generalize x.tm = xt at *
        generalize y.tm = yt at *
        generalize x.gd = xg at *
        generalize y.gd = yg at *
        go_wp2_with fail
        refine wp_region_quiet_below (by kernel_rfl) (by kernel_rfl) ?_
        repeat (go_big_quiet_step ((go_at_call 71; exact cE _ _)))
        refine wpQuiet_nil ?_
        intro w2 hw2
        have hbb : Below w.heap.size w w2 := by
          obtain ⟨⟨d, os⟩, rfl⟩ := hw2
          exact hb.trans ((below_regrown wr d os).mono hb.size)
        clear P0 Q0 P1 Q1 hw2 hb cE
        go_wp2_with fail
        go_roundw
        case rel => exact ⟨(k : Int), by go_num, by omega, by omega, by omega, HF.out, hbb⟩
        case measure => (simp [intOf]) <;> omega
    · have HE : Hid (sb = true) := HST.out fun i x y hx hy => HA.out i x y (by omega) hx hy
      clear HA HST HSF HI HN
      go_wp2_with fail
      go_ret
      exact ⟨ret_bool HE.out.symm, hb⟩
end Go.Proofs.Ytmgidcigihpbeaa
