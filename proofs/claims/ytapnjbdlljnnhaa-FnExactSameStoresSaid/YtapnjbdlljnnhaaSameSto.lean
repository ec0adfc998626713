/-
  Two stores, held against each other.
-/
import Derived.Test.YtapnjbdlljnnhaaSameLstI
namespace Go.Proofs.Ytapnjbdlljnnhaa
open Go.ChangeShapes Go.WideShapes Go.ChangeAt Go.RowKit Go.Sort
def sameSt (bu1 gu1 : Int) (tl1 kl1 : List (Ent × EntR)) (bu2 gu2 : Int) (tl2 kl2 : List (Ent × EntR)) : Bool := decide (bu1 = bu2) && decide (gu1 = gu2) && sameEs (tl1.map Prod.fst) (tl2.map Prod.fst) && sameEs (kl1.map Prod.fst) (kl2.map Prod.fst)
set_option maxRecDepth 100000 in
set_option maxHeartbeats 8000000 in
theorem spec8Same_any (w : World) (bu1 gu1 bu2 gu2 : Int) (ta1 ka1 ta2 ka2 : Option Addr) (tc1 kc1 tc2 kc2 : Nat) (tl1 kl1 tl2 kl2 : List (Ent × EntR)) (hl : tl1.length ≤ 1048576) (hk : kl1.length ≤ 1048576) (hf : ∀ q ∈ tl1, EntFit q.1) (hg : ∀ q ∈ kl1, EntFit q.1) (h1 : EntsIn w ta1 tl1) (h2 : EntsIn w ta2 tl2) (h3 : EntsIn w ka1 kl1) (h4 : EntsIn w ka2 kl2) :
    Calls Try.prog 5 #[.agg #[.int .i64 bu1, .int .i64 gu1, .slice ta1 tl1.length tc1, .slice ka1 kl1.length kc1], .agg #[.int .i64 bu2, .int .i64 gu2, .slice ta2 tl2.length tc2, .slice ka2 kl2.length kc2]] w fun e w' => e = .returned (.bool (sameSt bu1 gu1 tl1 kl1 bu2 gu2 tl2 kl2)) ∧ Below w.heap.size w w' := by
  have H1 : Hid (∀ X, Below w.heap.size w X → Calls Try.prog 10 #[.slice ta1 tl1.length tc1, .slice ta2 tl2.length tc2] X fun e w' => e = .returned (.bool (sameEs (tl1.map Prod.fst) (tl2.map Prod.fst))) ∧ Below X.heap.size X w') := fun X hb => specLists_any X _ _ _ _ _ _ hl hf (h1.keep hb) (h2.keep hb)
  have H2 : Hid (∀ X, Below w.heap.size w X → Calls Try.prog 10 #[.slice ka1 kl1.length kc1, .slice ka2 kl2.length kc2] X fun e w' => e = .returned (.bool (sameEs (kl1.map Prod.fst) (kl2.map Prod.fst))) ∧ Below X.heap.size X w') := fun X hb => specLists_any X _ _ _ _ _ _ hk hg (h3.keep hb) (h4.keep hb)
  obtain ⟨Z, hZ⟩ : ∃ Z, sameSt bu1 gu1 tl1 kl1 bu2 gu2 tl2 kl2 = Z := ⟨_, rfl⟩
  rw [hZ]
  unfold sameSt at hZ
  have HZ : Hid (_ = Z) := hZ
  clear hZ h1 h2 h3 h4 hf hg hl hk
  generalize sameEs (tl1.map Prod.fst) (tl2.map Prod.fst) = tb at *
  generalize sameEs (kl1.map Prod.fst) (kl2.map Prod.fst) = kb at *
  generalize tl1.length = tn1 at *
  generalize kl1.length = kn1 at *
  generalize tl2.length = tn2 at *
  generalize kl2.length = kn2 at *
  obtain ⟨V, hV⟩ : ∃ V, V = (w.alloc (.cells #[.int .i64 bu1, .int .i64 gu1, .slice ta1 tn1 tc1, .slice ka1 kn1 kc1] 29)).alloc (.cells #[.int .i64 bu2, .int .i64 gu2, .slice ta2 tn2 tc2, .slice ka2 kn2 kc2] 29) := ⟨_, rfl⟩
  have HV : Hid (V = (w.alloc (.cells #[.int .i64 bu1, .int .i64 gu1, .slice ta1 tn1 tc1, .slice ka1 kn1 kc1] 29)).alloc (.cells #[.int .i64 bu2, .int .i64 gu2, .slice ta2 tn2 tc2, .slice ka2 kn2 kc2] 29)) := hV
  have HK : Hid (Below w.heap.size w V ∧ S4 V w.heap.size (.int .i64 bu1) (.int .i64 gu1) (.slice ta1 tn1 tc1) (.slice ka1 kn1 kc1) ∧ S4 V (w.heap.size + 1) (.int .i64 bu2) (.int .i64 gu2) (.slice ta2 tn2 tc2) (.slice ka2 kn2 kc2)) := by
    rw [hV]
    refine ⟨((Below.refl _ _).alloc (Nat.le_refl _) _).alloc (by simp) _, (S4.new w _ _ _ _ _).keep ((Below.refl _ _).alloc (Nat.le_refl _) _), ?_⟩
    have := S4.new (w.alloc (.cells #[.int .i64 bu1, .int .i64 gu1, .slice ta1 tn1 tc1, .slice ka1 kn1 kc1] 29)) (.int .i64 bu2) (.int .i64 gu2) (.slice ta2 tn2 tc2) (.slice ka2 kn2 kc2) 29
    simpa using this
  clear hV
  rcases Decidable.em (bu1 = bu2) with c1 | c1
  rotate_left
  · have HR : Hid (false = Z) := by show false = Z; rw [← HZ.out]; simp [c1]
    clear HZ
    have e1 : (bu1 == bu2) = false := by simp [c1]
    go_enter Try.func5, Try.ntmps5
    go_wp2_with fail
    go_ret
    exact ⟨ret_bool HR.out, HV.out ▸ HK.out.1⟩
  subst c1
  rcases Decidable.em (gu1 = gu2) with c2 | c2
  rotate_left
  · have HR : Hid (false = Z) := by show false = Z; rw [← HZ.out]; simp [c2]
    clear HZ
    have e1 : (gu1 == gu2) = false := by simp [c2]
    go_enter Try.func5, Try.ntmps5
    go_wp2_with fail
    go_ret
    exact ⟨ret_bool HR.out, HV.out ▸ HK.out.1⟩
  subst c2
  cases tb
  · have HR : Hid (false = Z) := by show false = Z; rw [← HZ.out]; simp
    clear HZ
    go_enter Try.func5, Try.ntmps5
    go_wp2_with fail
    rw [← HV.out]
    refine (H1.out _ HK.out.1).mono ?_
    rintro r0 w1 ⟨rfl, hb1⟩
    have B1 : Hid (Below w.heap.size w w1) := HK.out.1.trans (hb1.mono HK.out.1.size)
    have c1 := (HK.out.2.1.keep hb1).c3
    have c2 := (HK.out.2.2.keep hb1).c3
    clear hb1 HK HV
    go_wp2_with fail
    go_ret
    exact ⟨ret_bool HR.out, B1.out⟩
  cases kb
  · have HR : Hid (false = Z) := by show false = Z; rw [← HZ.out]; simp
    clear HZ
    go_enter Try.func5, Try.ntmps5
    go_wp2_with fail
    rw [← HV.out]
    refine (H1.out _ HK.out.1).mono ?_
    rintro r0 w1 ⟨rfl, hb1⟩
    have B1 : Hid (Below w.heap.size w w1) := HK.out.1.trans (hb1.mono HK.out.1.size)
    have c1 := (HK.out.2.1.keep hb1).c3
    have c2 := (HK.out.2.2.keep hb1).c3
    clear hb1 HK HV
    go_wp2_with fail
    refine (H2.out _ B1.out).mono ?_
    rintro r0 w2 ⟨rfl, hb2⟩
    have B2 : Hid (Below w.heap.size w w2) := B1.out.trans (hb2.mono B1.out.size)
    clear hb2 c1 c2
    go_wp2_with fail
    go_ret
    exact ⟨ret_bool HR.out, B2.out⟩
  have HR : Hid (true = Z) := by show true = Z; rw [← HZ.out]; simp
  clear HZ
  go_enter Try.func5, Try.ntmps5
  go_wp2_with fail
  rw [← HV.out]
  refine (H1.out _ HK.out.1).mono ?_
  rintro r0 w1 ⟨rfl, hb1⟩
  have B1 : Hid (Below w.heap.size w w1) := HK.out.1.trans (hb1.mono HK.out.1.size)
  have c1 := (HK.out.2.1.keep hb1).c3
  have c2 := (HK.out.2.2.keep hb1).c3
  clear hb1 HK HV
  go_wp2_with fail
  refine (H2.out _ B1.out).mono ?_
  rintro r0 w2 ⟨rfl, hb2⟩
  have B2 : Hid (Below w.heap.size w w2) := B1.out.trans (hb2.mono B1.out.size)
  clear hb2 c1 c2
  go_wp2_with fail
  go_ret
  exact ⟨ret_bool HR.out, B2.out⟩
set_option maxRecDepth 100000 in
set_option maxHeartbeats 8000000 in
theorem impl8Same_any (w : World) (bu1 gu1 bu2 gu2 : Int) (ta1 ka1 ta2 ka2 : Option Addr) (tc1 kc1 tc2 kc2 : Nat) (tl1 kl1 tl2 kl2 : List (Ent × EntR)) (hl : tl1.length ≤ 1048576) (hk : kl1.length ≤ 1048576) (hf : ∀ q ∈ tl1, EntFit q.1) (hg : ∀ q ∈ kl1, EntFit q.1) (h1 : EntsIn w ta1 tl1) (h2 : EntsIn w ta2 tl2) (h3 : EntsIn w ka1 kl1) (h4 : EntsIn w ka2 kl2) :
    Calls Try.prog 7 #[.agg #[.int .i64 bu1, .int .i64 gu1, .slice ta1 tl1.length tc1, .slice ka1 kl1.length kc1], .agg #[.int .i64 bu2, .int .i64 gu2, .slice ta2 tl2.length tc2, .slice ka2 kl2.length kc2]] w fun e w' => e = .returned (.bool (sameSt bu1 gu1 tl1 kl1 bu2 gu2 tl2 kl2)) ∧ Below w.heap.size w w' := by
  have H1 : Hid (∀ X, Below w.heap.size w X → Calls Try.prog 12 #[.slice ta1 tl1.length tc1, .slice ta2 tl2.length tc2, .func (.func 13) #[] #[]] X fun e w' => e = .returned (.bool (sameEs (tl1.map Prod.fst) (tl2.map Prod.fst))) ∧ Below X.heap.size X w') := fun X hb => equalEnts_any X _ _ _ _ _ _ hl hf (h1.keep hb) (h2.keep hb)
  have H2 : Hid (∀ X, Below w.heap.size w X → Calls Try.prog 12 #[.slice ka1 kl1.length kc1, .slice ka2 kl2.length kc2, .func (.func 13) #[] #[]] X fun e w' => e = .returned (.bool (sameEs (kl1.map Prod.fst) (kl2.map Prod.fst))) ∧ Below X.heap.size X w') := fun X hb => equalEnts_any X _ _ _ _ _ _ hk hg (h3.keep hb) (h4.keep hb)
  obtain ⟨Z, hZ⟩ : ∃ Z, sameSt bu1 gu1 tl1 kl1 bu2 gu2 tl2 kl2 = Z := ⟨_, rfl⟩
  rw [hZ]
  unfold sameSt at hZ
  have HZ : Hid (_ = Z) := hZ
  clear hZ h1 h2 h3 h4 hf hg hl hk
  generalize sameEs (tl1.map Prod.fst) (tl2.map Prod.fst) = tb at *
  generalize sameEs (kl1.map Prod.fst) (kl2.map Prod.fst) = kb at *
  generalize tl1.length = tn1 at *
  generalize kl1.length = kn1 at *
  generalize tl2.length = tn2 at *
  generalize kl2.length = kn2 at *
  obtain ⟨V, hV⟩ : ∃ V, V = (w.alloc (.cells #[.int .i64 bu1, .int .i64 gu1, .slice ta1 tn1 tc1, .slice ka1 kn1 kc1] 29)).alloc (.cells #[.int .i64 bu2, .int .i64 gu2, .slice ta2 tn2 tc2, .slice ka2 kn2 kc2] 29) := ⟨_, rfl⟩
  have HV : Hid (V = (w.alloc (.cells #[.int .i64 bu1, .int .i64 gu1, .slice ta1 tn1 tc1, .slice ka1 kn1 kc1] 29)).alloc (.cells #[.int .i64 bu2, .int .i64 gu2, .slice ta2 tn2 tc2, .slice ka2 kn2 kc2] 29)) := hV
  have HK : Hid (Below w.heap.size w V ∧ S4 V w.heap.size (.int .i64 bu1) (.int .i64 gu1) (.slice ta1 tn1 tc1) (.slice ka1 kn1 kc1) ∧ S4 V (w.heap.size + 1) (.int .i64 bu2) (.int .i64 gu2) (.slice ta2 tn2 tc2) (.slice ka2 kn2 kc2)) := by
    rw [hV]
    refine ⟨((Below.refl _ _).alloc (Nat.le_refl _) _).alloc (by simp) _, (S4.new w _ _ _ _ _).keep ((Below.refl _ _).alloc (Nat.le_refl _) _), ?_⟩
    have := S4.new (w.alloc (.cells #[.int .i64 bu1, .int .i64 gu1, .slice ta1 tn1 tc1, .slice ka1 kn1 kc1] 29)) (.int .i64 bu2) (.int .i64 gu2) (.slice ta2 tn2 tc2) (.slice ka2 kn2 kc2) 29
    simpa using this
  clear hV
  rcases Decidable.em (bu1 = bu2) with c1 | c1
  rotate_left
  · have HR : Hid (false = Z) := by show false = Z; rw [← HZ.out]; simp [c1]
    clear HZ
    have e1 : (bu1 == bu2) = false := by simp [c1]
    go_enter Try.func7, Try.ntmps7
    go_wp2_with fail
    go_ret
    exact ⟨ret_bool HR.out, HV.out ▸ HK.out.1⟩
  subst c1
  rcases Decidable.em (gu1 = gu2) with c2 | c2
  rotate_left
  · have HR : Hid (false = Z) := by show false = Z; rw [← HZ.out]; simp [c2]
    clear HZ
    have e1 : (gu1 == gu2) = false := by simp [c2]
    go_enter Try.func7, Try.ntmps7
    go_wp2_with fail
    go_ret
    exact ⟨ret_bool HR.out, HV.out ▸ HK.out.1⟩
  subst c2
  cases tb
  · have HR : Hid (false = Z) := by show false = Z; rw [← HZ.out]; simp
    clear HZ
    go_enter Try.func7, Try.ntmps7
    go_wp2_with fail
    rw [← HV.out]
    refine (H1.out _ HK.out.1).mono ?_
    rintro r0 w1 ⟨rfl, hb1⟩
    have B1 : Hid (Below w.heap.size w w1) := HK.out.1.trans (hb1.mono HK.out.1.size)
    have c1 := (HK.out.2.1.keep hb1).c3
    have c2 := (HK.out.2.2.keep hb1).c3
    clear hb1 HK HV
    go_wp2_with fail
    go_ret
    exact ⟨ret_bool HR.out, B1.out⟩
  cases kb
  · have HR : Hid (false = Z) := by show false = Z; rw [← HZ.out]; simp
    clear HZ
    go_enter Try.func7, Try.ntmps7
    go_wp2_with fail
    rw [← HV.out]
    refine (H1.out _ HK.out.1).mono ?_
    rintro r0 w1 ⟨rfl, hb1⟩
    have B1 : Hid (Below w.heap.size w w1) := HK.out.1.trans (hb1.mono HK.out.1.size)
    have c1 := (HK.out.2.1.keep hb1).c3
    have c2 := (HK.out.2.2.keep hb1).c3
    clear hb1 HK HV
    go_wp2_with fail
    refine (H2.out _ B1.out).mono ?_
    rintro r0 w2 ⟨rfl, hb2⟩
    have B2 : Hid (Below w.heap.size w w2) := B1.out.trans (hb2.mono B1.out.size)
    clear hb2 c1 c2
    go_wp2_with fail
    go_ret
    exact ⟨ret_bool HR.out, B2.out⟩
  have HR : Hid (true = Z) := by show true = Z; rw [← HZ.out]; simp
  clear HZ
  go_enter Try.func7, Try.ntmps7
  go_wp2_with fail
  rw [← HV.out]
  refine (H1.out _ HK.out.1).mono ?_
  rintro r0 w1 ⟨rfl, hb1⟩
  have B1 : Hid (Below w.heap.size w w1) := HK.out.1.trans (hb1.mono HK.out.1.size)
  have c1 := (HK.out.2.1.keep hb1).c3
  have c2 := (HK.out.2.2.keep hb1).c3
  clear hb1 HK HV
  go_wp2_with fail
  refine (H2.out _ B1.out).mono ?_
  rintro r0 w2 ⟨rfl, hb2⟩
  have B2 : Hid (Below w.heap.size w w2) := B1.out.trans (hb2.mono B1.out.size)
  clear hb2 c1 c2
  go_wp2_with fail
  go_ret
  exact ⟨ret_bool HR.out, B2.out⟩
end Go.Proofs.Ytapnjbdlljnnhaa
