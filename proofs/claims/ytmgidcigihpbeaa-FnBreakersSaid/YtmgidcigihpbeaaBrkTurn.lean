/-
  What is asked ahead by all that turn a breaker, on both sides.
-/
import Derived.Test.YtmgidcigihpbeaaBrkImpl
import Derived.Test.YtmgidcigihpbeaaBrkBad
import Derived.Test.YtmgidcigihpbeaaOneB
namespace Go.Proofs.Ytmgidcigihpbeaa
open Go.ChangeShapes Go.WideShapes Go.ChangeAt Go.RowKit Go.Sort
def laterM (now : Int) (l : List Mk) : Bool := l.any fun r => decide (now < r.tm)
def askK (t : Int) (l : List Mk) (now : Int) : Bool := timeB now && decide (t ≤ now) && !laterM now l
def turnC (s t o : Int) (l : List Mk) (a0 a1 a2 a3 a4 now : Int) : Int := if brkC s t o l = 0 then (if rulesC a0 a1 a2 a3 a4 = 0 then (if askK t l now = true then 0 else 3) else rulesC a0 a1 a2 a3 a4) else brkC s t o l
theorem sortedM_le {l : List Mk} (h : sortedM l = true) : ∀ (d i : Nat) x y, l[i]? = some x → l[i + d]? = some y → x.tm ≤ y.tm
  | 0, i, x, y, hx, hy => by rw [Nat.add_zero, hx] at hy; obtain rfl := Option.some.inj hy; exact Int.le_refl _
  | d + 1, i, x, y, hx, hy => by
    have hlt := (List.getElem?_eq_some_iff.1 hy).1
    obtain ⟨z, hz⟩ : ∃ z, l[i + d]? = some z := ⟨_, List.getElem?_eq_getElem (by omega)⟩
    have h1 := sortedM_le h d i x z hx hz
    have h2 := (sortedM_iff l).1 h (i + d) z y hz (by rw [Nat.add_assoc]; exact hy)
    omega
theorem laterM_last {l : List Mk} {r : Mk} {k : Nat} {now : Int} (h : sortedM l = true) (hk : l.length = k + 1) (hr : l[k]? = some r) : laterM now l = decide (now < r.tm) := by
  unfold laterM
  by_cases c : now < r.tm
  · rw [show decide (now < r.tm) = true by simpa using c]
    exact anyM_of hr (by simpa using c)
  · rw [show decide (now < r.tm) = false by simpa using c]
    refine anyM_no fun j x hx => ?_
    have hlt := (List.getElem?_eq_some_iff.1 hx).1
    obtain ⟨d, hd⟩ : ∃ d, k = j + d := ⟨k - j, by omega⟩
    have := sortedM_le h d j x r hx (by rw [← hd]; exact hr)
    simp; omega
theorem laterM_nil (now : Int) : laterM now [] = false := rfl
set_option maxRecDepth 100000 in
set_option maxHeartbeats 8000000 in
theorem specAsk_any (w : World) (B R : Nat) (s t o : Int) (a : Option Addr) (cap : Nat) (l : List Mk) (a0 a1 a2 a3 a4 now : Int) (hB : S4 w B (.int .i64 s) (.int .i64 t) (.int .i64 o) (.slice a l.length cap)) (hR : S5 w R (.int .i64 a0) (.int .i64 a1) (.int .i64 a2) (.int .i64 a3) (.int .i64 a4)) (hi : MkIn w a l) :
    Calls Try.prog 65 #[.pointer (some ⟨B, 0, none⟩), .pointer (some ⟨R, 0, none⟩), .int .i64 now] w fun e w' => e = .returned (.int .i64 (turnC s t o l a0 a1 a2 a3 a4 now)) ∧ Below w.heap.size w w' := by
  have HK : Hid (Calls Try.prog 29 #[.agg #[.int .i64 s, .int .i64 t, .int .i64 o, .slice a l.length cap]] w fun r w' => r = .returned (.int .i64 (brkC s t o l)) ∧ Below w.heap.size w w') := specBrk_any s t o a cap l w hi
  have HR : Hid (∀ W, Calls Try.prog 31 #[.agg #[.int .i64 a0, .int .i64 a1, .int .i64 a2, .int .i64 a3, .int .i64 a4]] W fun r w' => r = .returned (.int .i64 (rulesC a0 a1 a2 a3 a4)) ∧ Below W.heap.size W w') := fun W => specRules_any a0 a1 a2 a3 a4 W
  have HU : Hid (∀ x w, Calls Try.prog 46 #[.int .i64 x] w fun r w' => r = .returned (.bool (timeB x)) ∧ w' = w) := l1Time_all
  have HSB : Hid (S4 w B (.int .i64 s) (.int .i64 t) (.int .i64 o) (.slice a l.length cap)) := hB
  have HSR : Hid (S5 w R (.int .i64 a0) (.int .i64 a1) (.int .i64 a2) (.int .i64 a3) (.int .i64 a4)) := hR
  have HI : Hid (MkIn w a l) := hi
  have H1 : Hid (¬ brkC s t o l = 0 → turnC s t o l a0 a1 a2 a3 a4 now = brkC s t o l) := fun h => by rw [turnC, if_neg h]
  have H2 : Hid (brkC s t o l = 0 → ¬ rulesC a0 a1 a2 a3 a4 = 0 → turnC s t o l a0 a1 a2 a3 a4 now = rulesC a0 a1 a2 a3 a4) := fun h h2 => by rw [turnC, if_pos h, if_neg h2]
  have H3 : Hid (brkC s t o l = 0 → rulesC a0 a1 a2 a3 a4 = 0 → askK t l now = false → turnC s t o l a0 a1 a2 a3 a4 now = 3) := fun h h2 h3 => by rw [turnC, if_pos h, if_pos h2, if_neg (by rw [h3]; decide)]
  have H4 : Hid (brkC s t o l = 0 → rulesC a0 a1 a2 a3 a4 = 0 → askK t l now = true → turnC s t o l a0 a1 a2 a3 a4 now = 0) := fun h h2 h3 => by rw [turnC, if_pos h, if_pos h2, if_pos h3]
  have HO : Hid (brkC s t o l = 0 → l.length ≤ 60 ∧ sortedM l = true) := fun h => ⟨(brkC_of h).2.1, (brkC_of h).2.2.2.1⟩
  obtain ⟨c0, c1, c2, c3, fr, _⟩ := hB
  clear hR hi
  generalize turnC s t o l a0 a1 a2 a3 a4 now = z at *
  generalize brkC s t o l = c at *
  generalize rulesC a0 a1 a2 a3 a4 = d at *
  obtain ⟨n, hn⟩ : ∃ n, l.length = n := ⟨_, rfl⟩
  rw [hn] at HK HSB HO c3
  have HN : Hid (l.length = n) := hn
  clear hn
  go_enter Try.func65, Try.ntmps65
  go_wp2_with fail
  refine HK.out.mono ?_
  rintro e w1 ⟨rfl, hb1⟩
  have HS1 : Hid (Below w.heap.size w w1 ∧ S4 w1 B (.int .i64 s) (.int .i64 t) (.int .i64 o) (.slice a n cap) ∧ S5 w1 R (.int .i64 a0) (.int .i64 a1) (.int .i64 a2) (.int .i64 a3) (.int .i64 a4) ∧ MkIn w1 a l) := ⟨hb1, HSB.out.keep hb1, HSR.out.keep hb1, HI.out.keep hb1⟩
  clear hb1 HSB HSR HI HK c0 c1 c2 c3 fr
  by_cases hc : c = 0
  rotate_left
  · have HE : Hid (z = c) := H1.out hc
    have n0 : (c != 0) = true := by simpa using hc
    clear H1 H2 H3 H4
    go_wp2_with fail
    go_ret
    exact ⟨ret_int HE.out.symm, HS1.out.1⟩
  subst hc
  have H22 : Hid (¬ d = 0 → z = d) := H2.out (by trivial)
  have H32 : Hid (d = 0 → askK t l now = false → z = 3) := H3.out (by trivial)
  have H42 : Hid (d = 0 → askK t l now = true → z = 0) := H4.out (by trivial)
  have HO2 : Hid (n ≤ 60 ∧ sortedM l = true) := HO.out (by trivial)
  clear H1 H2 H3 H4 HO
  obtain ⟨c0, c1, c2, c3, c4, fr, _⟩ := HS1.out.2.2.1
  go_wp2_with fail
  refine (HR.out _).mono ?_
  rintro e w2 ⟨rfl, hb2⟩
  have HS2 : Hid (Below w.heap.size w w2 ∧ S4 w2 B (.int .i64 s) (.int .i64 t) (.int .i64 o) (.slice a n cap) ∧ MkIn w2 a l) := ⟨HS1.out.1.trans (hb2.mono HS1.out.1.size), HS1.out.2.1.keep hb2, HS1.out.2.2.2.keep hb2⟩
  clear hb2 HS1 HR c0 c1 c2 c3 c4 fr
  by_cases hd : d = 0
  rotate_left
  · have HE : Hid (z = d) := H22.out hd
    have n0 : (d != 0) = true := by simpa using hd
    clear H22 H32 H42
    go_wp2_with fail
    go_ret
    exact ⟨ret_int HE.out.symm, HS2.out.1⟩
  subst hd
  have H33 : Hid (askK t l now = false → z = 3) := H32.out (by trivial)
  have H43 : Hid (askK t l now = true → z = 0) := H42.out (by trivial)
  clear H22 H32 H42
  obtain ⟨c0, c1, c2, c3, fr, _⟩ := HS2.out.2.1
  cases hT : timeB now
  · have HE : Hid (z = 3) := H33.out (by simp [askK, hT])
    clear H33 H43
    go_wp2_with fail
    refine (HU.out _ _).mono ?_
    rintro e w3 ⟨rfl, rfl⟩
    rw [hT]
    go_wp2_with fail
    go_ret
    exact ⟨ret_int HE.out.symm, HS2.out.1⟩
  by_cases hl : now < t
  · have HE : Hid (z = 3) := H33.out (by simp [askK, hT]; omega)
    clear H33 H43
    go_wp2_with fail
    refine (HU.out _ _).mono ?_
    rintro e w3 ⟨rfl, rfl⟩
    rw [hT]
    go_wp2_with fail
    go_ret
    exact ⟨ret_int HE.out.symm, HS2.out.1⟩
  have HT2 : Hid (timeB now = true ∧ t ≤ now) := ⟨hT, by omega⟩
  by_cases hn : n = 0
  · have HE : Hid (z = 0) := H43.out (by
      have e : l = [] := List.eq_nil_of_length_eq_zero (by rw [HN.out, hn])
      rw [askK, e, laterM_nil, HT2.out.1]; simp; exact HT2.out.2)
    subst hn
    clear H33 H43
    go_wp2_with fail
    refine (HU.out _ _).mono ?_
    rintro e w3 ⟨rfl, rfl⟩
    rw [hT]
    go_wp2_with fail
    go_ret
    exact ⟨ret_int HE.out.symm, HS2.out.1⟩
  obtain ⟨k, rfl⟩ : ∃ k, n = k + 1 := ⟨n - 1, by omega⟩
  obtain ⟨r, hr⟩ : ∃ r, l[k]? = some r := ⟨_, List.getElem?_eq_getElem (by rw [HN.out]; omega)⟩
  have HLL : Hid (laterM now l = decide (now < r.tm)) := laterM_last HO2.out.2 HN.out hr
  have hk60 := HO2.out.1
  rcases HS2.out.2.2 with h | ⟨b, off, rfl, hat⟩
  · rw [h] at hr; simp at hr
  obtain ⟨p0, _⟩ := hat k r hr
  have g0 : (0 : Int) ≤ k := by omega
  have g1 : (0 : Int) < ((k + 1 : Nat) : Int) := by omega
  have g2 : IntKind.i64.wrap (((k + 1 : Nat) : Int) - 1) = (k : Int) := by rw [IntKind.wrap_i64]; omega
  have g3 : (((k + 1 : Nat) : Int) - 1) = (k : Int) := by omega
  have g4 : (k : Int) < ((k + 1 : Nat) : Int) := by omega
  clear hat hr hn
  by_cases hx : now < r.tm
  · have HE : Hid (z = 3) := H33.out (by rw [askK, HLL.out, HT2.out.1]; simp; intro _; omega)
    clear H33 H43 HLL HT2
    generalize r.tm = rt at *
    have gx : decide (now < rt) = true := by simpa using hx
    go_wp2_with fail
    refine (HU.out _ _).mono ?_
    rintro e w3 ⟨rfl, rfl⟩
    rw [hT]
    go_wp2_with fail
    go_ret
    exact ⟨ret_int HE.out.symm, HS2.out.1⟩
  · have HE : Hid (z = 0) := H43.out (by rw [askK, HLL.out, HT2.out.1]; simp; exact ⟨HT2.out.2, by omega⟩)
    clear H33 H43 HLL HT2
    generalize r.tm = rt at *
    have gx : decide (now < rt) = false := by simpa using hx
    go_wp2_with fail
    refine (HU.out _ _).mono ?_
    rintro e w3 ⟨rfl, rfl⟩
    rw [hT]
    go_wp2_with fail
    go_ret
    exact ⟨ret_int HE.out.symm, HS2.out.1⟩
theorem hid11 {p : Prop} (h : p) : Hid p := h
theorem cell_keep10 {w w' : World} {b o : Nat} {v : Value} (h : w.cell? ⟨b, o, none⟩ = some v) (hb : Below w.heap.size w w') : w'.cell? ⟨b, o, none⟩ = some v := by rw [hb.cell (block_lt_of_cell h)]; exact h
set_option maxRecDepth 100000 in
set_option maxHeartbeats 8000000 in
theorem implAsk_any (w : World) (s t o : Int) (a : Option Addr) (cap : Nat) (l : List Mk) (a0 a1 a2 a3 a4 now : Int) (hi : MkIn w a l) :
    Calls Try.prog 62 #[.agg #[.int .i64 s, .int .i64 t, .int .i64 o, .slice a l.length cap], .agg #[.int .i64 a0, .int .i64 a1, .int .i64 a2, .int .i64 a3, .int .i64 a4], .int .i64 now] w fun e w' => e = .returned (.int .i64 (turnC s t o l a0 a1 a2 a3 a4 now)) ∧ Below w.heap.size w w' := by
  obtain ⟨W, hW⟩ : ∃ W, W = ((w.alloc (.cells #[.int .i64 s, .int .i64 t, .int .i64 o, .slice a l.length cap] 51)).alloc (.cells #[.int .i64 a0, .int .i64 a1, .int .i64 a2, .int .i64 a3, .int .i64 a4] 53)).alloc (.cells #[.int .i64 now] 2) := ⟨_, rfl⟩
  have HW : Hid (W = ((w.alloc (.cells #[.int .i64 s, .int .i64 t, .int .i64 o, .slice a l.length cap] 51)).alloc (.cells #[.int .i64 a0, .int .i64 a1, .int .i64 a2, .int .i64 a3, .int .i64 a4] 53)).alloc (.cells #[.int .i64 now] 2)) := hW
  have K0 : Hid (Below w.heap.size w W ∧ S4 W w.heap.size (.int .i64 s) (.int .i64 t) (.int .i64 o) (.slice a l.length cap) ∧ S5 W (w.heap.size + 1) (.int .i64 a0) (.int .i64 a1) (.int .i64 a2) (.int .i64 a3) (.int .i64 a4) ∧ W.cell? ⟨w.heap.size + 2, 0, none⟩ = some (.int .i64 now) ∧ w.heap.size + 2 < W.heap.size) := by
    have h1 := S4.new w (.int .i64 s) (.int .i64 t) (.int .i64 o) (.slice a l.length cap) 51
    obtain ⟨W1, hW1⟩ : ∃ W1, W1 = w.alloc (.cells #[.int .i64 s, .int .i64 t, .int .i64 o, .slice a l.length cap] 51) := ⟨_, rfl⟩
    rw [← hW1] at h1 hW
    have e1 : W1.heap.size = w.heap.size + 1 := by rw [hW1]; simp
    have b1 : Below w.heap.size w W1 := by rw [hW1]; exact (Below.refl _ _).alloc (Nat.le_refl _) _
    have h2 := S5.new W1 (.int .i64 a0) (.int .i64 a1) (.int .i64 a2) (.int .i64 a3) (.int .i64 a4) 53
    obtain ⟨W2, hW2⟩ : ∃ W2, W2 = W1.alloc (.cells #[.int .i64 a0, .int .i64 a1, .int .i64 a2, .int .i64 a3, .int .i64 a4] 53) := ⟨_, rfl⟩
    rw [← hW2] at h2 hW
    have e2 : W2.heap.size = w.heap.size + 2 := by rw [hW2]; simp [e1]
    have b2 : Below W1.heap.size W1 W2 := by rw [hW2]; exact (Below.refl _ _).alloc (Nat.le_refl _) _
    have b3 : Below W2.heap.size W2 W := by rw [hW]; exact (Below.refl _ _).alloc (Nat.le_refl _) _
    rw [e1] at h2
    have b13 := b2.trans (b3.mono b2.size)
    refine ⟨b1.trans (b13.mono b1.size), h1.keep b13, h2.keep b3, ?_, ?_⟩
    · rw [hW, ← e2]; simp
    · rw [hW]; simp; omega
  have HK : Hid (Calls Try.prog 28 #[.agg #[.int .i64 s, .int .i64 t, .int .i64 o, .slice a l.length cap]] W fun r w' => r = .returned (.int .i64 (brkC s t o l)) ∧ Below W.heap.size W w') := implBrk_any s t o a cap l W (hi.keep K0.out.1)
  have HR : Hid (∀ W, Calls Try.prog 30 #[.agg #[.int .i64 a0, .int .i64 a1, .int .i64 a2, .int .i64 a3, .int .i64 a4]] W fun r w' => r = .returned (.int .i64 (rulesC a0 a1 a2 a3 a4)) ∧ Below W.heap.size W w') := fun W => implRules_any a0 a1 a2 a3 a4 W
  have HU : Hid (∀ x w, Calls Try.prog 41 #[.int .i64 x] w fun r w' => r = .returned (.bool (timeB x)) ∧ w' = w) := isTime_all
  have HC : Hid (l.length ≤ 60 → ∀ X, Below w.heap.size w X ∧ S4 X w.heap.size (.int .i64 s) (.int .i64 t) (.int .i64 o) (.slice a l.length cap) ∧ S5 X (w.heap.size + 1) (.int .i64 a0) (.int .i64 a1) (.int .i64 a2) (.int .i64 a3) (.int .i64 a4) ∧ X.cell? ⟨w.heap.size + 2, 0, none⟩ = some (.int .i64 now) ∧ w.heap.size + 2 < X.heap.size → Calls Try.prog 68 #[.slice a l.length cap, .func (.func 88) #[] #[.pointer (some ⟨w.heap.size + 2, 0, none⟩)]] X fun e w' => e = .returned (.bool (laterM now l)) ∧ Below X.heap.size X w') := fun hl X hX => containsMk_any X _ _ _ a cap l (by omega) (hi.keep hX.1) (later_any X (w.heap.size + 2) now hX.2.2.2.2 hX.2.2.2.1)
  have H1 : Hid (¬ brkC s t o l = 0 → turnC s t o l a0 a1 a2 a3 a4 now = brkC s t o l) := fun h => by rw [turnC, if_neg h]
  have H2 : Hid (brkC s t o l = 0 → ¬ rulesC a0 a1 a2 a3 a4 = 0 → turnC s t o l a0 a1 a2 a3 a4 now = rulesC a0 a1 a2 a3 a4) := fun h h2 => by rw [turnC, if_pos h, if_neg h2]
  have H3 : Hid (brkC s t o l = 0 → rulesC a0 a1 a2 a3 a4 = 0 → askK t l now = false → turnC s t o l a0 a1 a2 a3 a4 now = 3) := fun h h2 h3 => by rw [turnC, if_pos h, if_pos h2, if_neg (by rw [h3]; decide)]
  have H4 : Hid (brkC s t o l = 0 → rulesC a0 a1 a2 a3 a4 = 0 → askK t l now = true → turnC s t o l a0 a1 a2 a3 a4 now = 0) := fun h h2 h3 => by rw [turnC, if_pos h, if_pos h2, if_pos h3]
  have HO : Hid (brkC s t o l = 0 → l.length ≤ 60) := fun h => (brkC_of h).2.1
  clear hi hW
  generalize turnC s t o l a0 a1 a2 a3 a4 now = z at *
  generalize brkC s t o l = c at *
  generalize rulesC a0 a1 a2 a3 a4 = d at *
  generalize l.length = n at *
  go_enter Try.func62, Try.ntmps62
  go_wp2_with fail
  rw [← HW.out]
  refine HK.out.mono ?_
  rintro e w1 ⟨rfl, hb1⟩
  have K1 : Hid (Below w.heap.size w w1 ∧ S4 w1 w.heap.size (.int .i64 s) (.int .i64 t) (.int .i64 o) (.slice a n cap) ∧ S5 w1 (w.heap.size + 1) (.int .i64 a0) (.int .i64 a1) (.int .i64 a2) (.int .i64 a3) (.int .i64 a4) ∧ w1.cell? ⟨w.heap.size + 2, 0, none⟩ = some (.int .i64 now) ∧ w.heap.size + 2 < w1.heap.size) := ⟨K0.out.1.trans (hb1.mono K0.out.1.size), K0.out.2.1.keep hb1, K0.out.2.2.1.keep hb1, cell_keep10 K0.out.2.2.2.1 hb1, Nat.lt_of_lt_of_le K0.out.2.2.2.2 hb1.size⟩
  clear hb1 K0 HK HW
  by_cases hc : c = 0
  rotate_left
  · have HE : Hid (z = c) := H1.out hc
    have n0 : (c != 0) = true := by simpa using hc
    clear H1 H2 H3 H4
    go_wp2_with fail
    go_ret
    exact ⟨ret_int HE.out.symm, K1.out.1⟩
  subst hc
  have H22 : Hid (¬ d = 0 → z = d) := H2.out (by trivial)
  have H32 : Hid (d = 0 → askK t l now = false → z = 3) := H3.out (by trivial)
  have H42 : Hid (d = 0 → askK t l now = true → z = 0) := H4.out (by trivial)
  have HC2 := hid11 (HC.out (HO.out (by trivial)))
  clear H1 H2 H3 H4 HO HC
  obtain ⟨c0, c1, c2, c3, c4, fr, _⟩ := K1.out.2.2.1
  go_wp2_with fail
  refine (HR.out _).mono ?_
  rintro e w2 ⟨rfl, hb2⟩
  have K2 : Hid (Below w.heap.size w w2 ∧ S4 w2 w.heap.size (.int .i64 s) (.int .i64 t) (.int .i64 o) (.slice a n cap) ∧ S5 w2 (w.heap.size + 1) (.int .i64 a0) (.int .i64 a1) (.int .i64 a2) (.int .i64 a3) (.int .i64 a4) ∧ w2.cell? ⟨w.heap.size + 2, 0, none⟩ = some (.int .i64 now) ∧ w.heap.size + 2 < w2.heap.size) := ⟨K1.out.1.trans (hb2.mono K1.out.1.size), K1.out.2.1.keep hb2, K1.out.2.2.1.keep hb2, cell_keep10 K1.out.2.2.2.1 hb2, Nat.lt_of_lt_of_le K1.out.2.2.2.2 hb2.size⟩
  clear hb2 K1 HR c0 c1 c2 c3 c4 fr
  by_cases hd : d = 0
  rotate_left
  · have HE : Hid (z = d) := H22.out hd
    have n0 : (d != 0) = true := by simpa using hd
    clear H22 H32 H42
    go_wp2_with fail
    go_ret
    exact ⟨ret_int HE.out.symm, K2.out.1⟩
  subst hd
  have H33 : Hid (askK t l now = false → z = 3) := H32.out (by trivial)
  have H43 : Hid (askK t l now = true → z = 0) := H42.out (by trivial)
  clear H22 H32 H42
  obtain ⟨c0, c1, c2, c3, fr, _⟩ := K2.out.2.1
  have q0 := K2.out.2.2.2.1
  cases hT : timeB now
  · have HE : Hid (z = 3) := H33.out (by simp [askK, hT])
    clear H33 H43
    go_wp2_with fail
    refine (HU.out _ _).mono ?_
    rintro e w3 ⟨rfl, rfl⟩
    rw [hT]
    go_wp2_with fail
    go_ret
    exact ⟨ret_int HE.out.symm, K2.out.1⟩
  by_cases hl : now < t
  · have HE : Hid (z = 3) := H33.out (by simp [askK, hT]; omega)
    clear H33 H43
    go_wp2_with fail
    refine (HU.out _ _).mono ?_
    rintro e w3 ⟨rfl, rfl⟩
    rw [hT]
    go_wp2_with fail
    go_ret
    exact ⟨ret_int HE.out.symm, K2.out.1⟩
  have HT2 : Hid (timeB now = true ∧ t ≤ now) := ⟨hT, by omega⟩
  go_wp2_with fail
  refine (HU.out _ _).mono ?_
  rintro e w3 ⟨rfl, rfl⟩
  rw [hT]
  go_wp2_with fail
  refine (HC2.out _ K2.out).mono ?_
  rintro e w4 ⟨rfl, hb4⟩
  have HB4 : Hid (Below w.heap.size w w4) := K2.out.1.trans (hb4.mono K2.out.1.size)
  clear hb4 K2 c0 c1 c2 c3 fr q0 HC2
  cases hx : laterM now l
  · have HE : Hid (z = 0) := H43.out (by rw [askK, hx, HT2.out.1]; simp; exact HT2.out.2)
    clear H33 H43 HT2
    go_wp2_with fail
    go_ret
    exact ⟨ret_int HE.out.symm, HB4.out⟩
  · have HE : Hid (z = 3) := H33.out (by rw [askK, hx, HT2.out.1]; simp)
    clear H33 H43 HT2
    go_wp2_with fail
    go_ret
    exact ⟨ret_int HE.out.symm, HB4.out⟩
end Go.Proofs.Ytmgidcigihpbeaa
