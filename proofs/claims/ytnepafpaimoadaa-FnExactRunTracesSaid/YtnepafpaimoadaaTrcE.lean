/-
  Results of a run of traces: compared, marked, held.
-/
import Derived.Test.YtnepafpaimoadaaTrcR
namespace Go.Proofs.Ytnepafpaimoadaa
open Go.ChangeShapes Go.WideShapes Go.ChangeAt Go.RowKit Go.Sort
theorem gbOf {w w' : World} {row : Option Nat} (h : Below w.heap.size w w') : w.grownBy w' row := ⟨h.os, h.tape, h.output, h.size, fun q hq _ => h.block q hq⟩
set_option maxHeartbeats 2000000 in
theorem eqSR_same (w : World) (q : Int) (s1 s2 a1 a2 : Option Addr) (c1 c2 d1 d2 : Nat) (S : List Int) (A : List Bool) (hS : S.length ≤ 1048576) (hA : A.length ≤ 1048576) (h1 : NsIn w s1 S) (h2 : NsIn w s2 S) (k1 : BsIn w a1 A) (k2 : BsIn w a2 A) :
    Calls Try.prog 45 #[.agg #[.int .i64 q, .slice s1 S.length c1, .slice a1 A.length d1], .agg #[.int .i64 q, .slice s2 S.length c2, .slice a2 A.length d2]] w fun e w' => e = .returned (.bool true) ∧ Below w.heap.size w w' := by
  have HQ1 : Hid (∀ X, Below w.heap.size w X → Calls Try.prog 83 #[.slice s1 S.length c1, .slice s2 S.length c2] X fun e w' => e = .returned (.bool true) ∧ Below X.heap.size X w') := fun X hb => eqNs_same X s1 s2 c1 c2 S hS (h1.keep hb) (h2.keep hb)
  have HQ2 : Hid (∀ X, Below w.heap.size w X → Calls Try.prog 84 #[.slice a1 A.length d1, .slice a2 A.length d2] X fun e w' => e = .returned (.bool true) ∧ Below X.heap.size X w') := fun X hb => eqBs_same X a1 a2 d1 d2 A hA (k1.keep hb) (k2.keep hb)
  obtain ⟨W, hW⟩ : ∃ W, W = (w.alloc (.cells #[.int .i64 q, .slice s1 S.length c1, .slice a1 A.length d1] 51)).alloc (.cells #[.int .i64 q, .slice s2 S.length c2, .slice a2 A.length d2] 51) := ⟨_, rfl⟩
  have HW : Hid (W = (w.alloc (.cells #[.int .i64 q, .slice s1 S.length c1, .slice a1 A.length d1] 51)).alloc (.cells #[.int .i64 q, .slice s2 S.length c2, .slice a2 A.length d2] 51)) := hW
  have K0 : Hid (Below w.heap.size w W ∧ C3 W w.heap.size (.int .i64 q) (.slice s1 S.length c1) (.slice a1 A.length d1) ∧ C3 W (w.heap.size + 1) (.int .i64 q) (.slice s2 S.length c2) (.slice a2 A.length d2)) := by
    have h2 := C3.new (w.alloc (.cells #[.int .i64 q, .slice s1 S.length c1, .slice a1 A.length d1] 51)) (.int .i64 q) (.slice s2 S.length c2) (.slice a2 A.length d2) 51
    rw [show (w.alloc (.cells #[.int .i64 q, .slice s1 S.length c1, .slice a1 A.length d1] 51)).heap.size = w.heap.size + 1 by simp] at h2
    rw [hW]
    exact ⟨((Below.refl _ _).alloc (Nat.le_refl _) _).alloc (by simp) _, (C3.new w _ _ _ _).keep ((Below.refl _ _).alloc (Nat.le_refl _) _), h2⟩
  clear h1 h2 k1 k2 hS hA hW
  generalize S.length = n at *
  generalize A.length = m at *
  go_enter Try.func45, Try.ntmps45
  go_wp2_with fail
  rw [← HW.out]
  refine (HQ1.out _ K0.out.1).mono ?_
  rintro e w1 ⟨rfl, hb⟩
  have K1 : Hid (Below w.heap.size w w1 ∧ C3 w1 w.heap.size (.int .i64 q) (.slice s1 n c1) (.slice a1 m d1) ∧ C3 w1 (w.heap.size + 1) (.int .i64 q) (.slice s2 n c2) (.slice a2 m d2)) := ⟨K0.out.1.trans (hb.mono K0.out.1.size), K0.out.2.1.keep hb, K0.out.2.2.keep hb⟩
  have p2 := K1.out.2.1.c2
  have q2 := K1.out.2.2.c2
  clear hb HQ1 HW K0
  go_wp2_with fail
  refine (HQ2.out _ K1.out.1).mono ?_
  rintro e w2 ⟨rfl, hb⟩
  have HB : Hid (Below w.heap.size w w2) := K1.out.1.trans (hb.mono K1.out.1.size)
  clear hb HQ2 K1 p2 q2
  go_wp2_with fail
  go_ret
  exact ⟨rfl, HB.out⟩
theorem NsIn.far {w w' : World} {a : Option Addr} {g g2 off : Nat} {l l' : List Int} (h : NsIn w a l) (hs : l' = [] ∧ l = [] ∨ a = some ⟨g, off, none⟩) (hlt : l = [] ∨ g < w.heap.size) (k : w.grownBy w' (some g2)) (hne : g ≠ g2) : NsIn w' a l := by
  rcases h with h | ⟨b, o, e, hat⟩
  · exact .inl h
  rcases hs with ⟨_, h⟩ | hs
  · exact .inl h
  rcases hlt with h | hlt
  · exact .inl h
  rw [hs] at e
  simp only [Option.some.injEq, Addr.mk.injEq] at e
  obtain ⟨rfl, rfl, _⟩ := e
  exact .inr ⟨g, off, hs, fun i x hx => by rw [gbCell k _ hlt hne]; exact hat i x hx⟩
theorem SpotBs.gb {w w' : World} {a : Option Addr} {g g1 off : Nat} {l : List Bool} (h : SpotBs w a g off l) (k : w.grownBy w' (some g1)) (hne : g ≠ g1) : SpotBs w' a g off l := by
  rcases h with h | ⟨e, h1, h2, h3⟩
  · exact .inl h
  · exact .inr ⟨e, Nat.lt_of_lt_of_le h1 k.size, fun i x hx => by rw [gbCell k _ h1 hne]; exact h2 i x hx, fun o ho => by rw [gbFrozen k _ h1 hne]; exact h3 o ho⟩
set_option maxHeartbeats 2000000 in
/-- The place of an empty list may be any number beyond the memory: g1, g2 are two places, none the box of the call. -/
theorem markSR_any (w : World) (q : Int) (s1 a1 : Option Addr) (c1 d1 c0 : Nat) (hc0 : c0 ≤ 1000000) (S : List Int) (A : List Bool) (hS : S.length ≤ 1048576) (hA : A.length ≤ 1048576) (g1 o1 g2 o2 : Nat) (h1 : SpotNs w s1 g1 o1 S) (h2 : SpotBs w a1 g2 o2 A) (hne : g1 ≠ g2) (hn1 : g1 ≠ w.heap.size) :
    Calls Try.prog 48 #[.agg #[.int .i64 q, .slice s1 S.length c1, .slice a1 A.length d1], .int .i64 (c0 : Int)] w fun e w' => e = .returned (.int .i64 ((c0 + S.length + A.length : Nat) : Int)) ∧ NsIn w' s1 (mkdNs c0 S) ∧ BsIn w' a1 (mkdBs (c0 + S.length) A) ∧ ∃ X, w.grownBy X (some g1) ∧ X.grownBy w' (some g2) := by
  obtain ⟨W, hW⟩ : ∃ W, W = w.alloc (.cells #[.int .i64 q, .slice s1 S.length c1, .slice a1 A.length d1] 51) := ⟨_, rfl⟩
  have HW : Hid (W = w.alloc (.cells #[.int .i64 q, .slice s1 S.length c1, .slice a1 A.length d1] 51)) := hW
  have bW : Below w.heap.size w W := by rw [hW]; exact (Below.refl _ _).alloc (Nat.le_refl _) _
  have K0 : Hid (Below w.heap.size w W ∧ C3 W w.heap.size (.int .i64 q) (.slice s1 S.length c1) (.slice a1 A.length d1) ∧ SpotNs W s1 g1 o1 S ∧ SpotBs W a1 g2 o2 A) := ⟨bW, by rw [hW]; exact C3.new w _ _ _ _, h1.keep bW, h2.keep bW⟩
  have HM1 : Hid (Calls Try.prog 86 #[.slice s1 S.length c1, .int .i64 (c0 : Int)] W fun e w' => e = .returned (.int .i64 ((c0 + S.length : Nat) : Int)) ∧ NsIn w' s1 (mkdNs c0 S) ∧ W.grownBy w' (some g1)) := markNs_any W s1 c1 c0 (by omega) S hS g1 o1 K0.out.2.2.1
  have HM2 : Hid (∀ X, W.grownBy X (some g1) → Calls Try.prog 87 #[.slice a1 A.length d1, .int .i64 ((c0 + S.length : Nat) : Int)] X fun e w' => e = .returned (.int .i64 ((c0 + S.length + A.length : Nat) : Int)) ∧ BsIn w' a1 (mkdBs (c0 + S.length) A) ∧ X.grownBy w' (some g2)) := fun X hX => markBs_any X a1 d1 (c0 + S.length) (by omega) A hA g2 o2 (K0.out.2.2.2.gb hX (fun e => hne e.symm))
  have HF : Hid (∀ X Y, W.grownBy X (some g1) → X.grownBy Y (some g2) → NsIn X s1 (mkdNs c0 S) → NsIn Y s1 (mkdNs c0 S)) := fun X Y hX hY hN => by
    rcases K0.out.2.2.1 with h | ⟨e, hl, _⟩
    · subst h; exact .inl rfl
    · exact hN.far (l' := []) (.inr e) (.inr (Nat.lt_of_lt_of_le hl hX.size)) hY hne
  obtain ⟨z1, hz1⟩ : ∃ z, z = c0 + S.length := ⟨_, rfl⟩
  obtain ⟨z2, hz2⟩ : ∃ z, z = c0 + S.length + A.length := ⟨_, rfl⟩
  rw [← hz2] at HM2 ⊢
  rw [← hz1] at HM1 HM2 ⊢
  clear h1 h2 hS hA hW bW hz1 hz2
  generalize S.length = n at *
  generalize A.length = m at *
  go_enter Try.func48, Try.ntmps48
  go_wp2_with fail
  rw [← HW.out]
  refine HM1.out.mono ?_
  rintro e w1 ⟨rfl, hN, hg⟩
  have K1 : Hid (W.grownBy w1 (some g1) ∧ NsIn w1 s1 (mkdNs c0 S)) := ⟨hg, hN⟩
  obtain ⟨p0, p1, p2, pf, _⟩ := K0.out.2.1.gb hg (fun e => hn1 e.symm)
  clear hN hg HM1 HW
  go_wp2_with fail
  refine (HM2.out _ K1.out.1).mono ?_
  rintro e w2 ⟨rfl, hN2, hg2⟩
  have K2 : Hid (NsIn w2 s1 (mkdNs c0 S) ∧ BsIn w2 a1 (mkdBs z1 A) ∧ ∃ X, w.grownBy X (some g1) ∧ X.grownBy w2 (some g2)) := ⟨HF.out _ _ K1.out.1 hg2 K1.out.2, hN2, w1, gbTrans (gbOf K0.out.1) K1.out.1, hg2⟩
  clear p0 p1 p2 pf hN2 hg2 K0 K1 HM2 HF
  go_wp2_with fail
  go_ret
  exact ⟨rfl, K2.out⟩
set_option maxHeartbeats 2000000 in
theorem heldSR_any (w : World) (q : Int) (s1 a1 : Option Addr) (c1 d1 c0 : Nat) (hc0 : c0 ≤ 1000000) (S : List Int) (A : List Bool) (hS : S.length ≤ 1048576) (hA : A.length ≤ 1048576) (h1 : NsIn w s1 (mkdNs c0 S)) (h2 : BsIn w a1 (mkdBs (c0 + S.length) A)) :
    Calls Try.prog 49 #[.agg #[.int .i64 q, .slice s1 S.length c1, .slice a1 A.length d1], .int .i64 (c0 : Int)] w fun e w' => e = .returned (.int .i64 ((c0 + S.length + A.length : Nat) : Int)) ∧ Below w.heap.size w w' := by
  obtain ⟨W, hW⟩ : ∃ W, W = w.alloc (.cells #[.int .i64 q, .slice s1 S.length c1, .slice a1 A.length d1] 51) := ⟨_, rfl⟩
  have HW : Hid (W = w.alloc (.cells #[.int .i64 q, .slice s1 S.length c1, .slice a1 A.length d1] 51)) := hW
  have bW : Below w.heap.size w W := by rw [hW]; exact (Below.refl _ _).alloc (Nat.le_refl _) _
  have K0 : Hid (Below w.heap.size w W ∧ C3 W w.heap.size (.int .i64 q) (.slice s1 S.length c1) (.slice a1 A.length d1)) := ⟨bW, by rw [hW]; exact C3.new w _ _ _ _⟩
  have HM1 : Hid (Calls Try.prog 88 #[.slice s1 S.length c1, .int .i64 (c0 : Int)] W fun e w' => e = .returned (.int .i64 ((c0 + S.length : Nat) : Int)) ∧ w' = W) := heldNs_any W s1 c1 c0 (by omega) S hS (h1.keep bW)
  have HM2 : Hid (Calls Try.prog 89 #[.slice a1 A.length d1, .int .i64 ((c0 + S.length : Nat) : Int)] W fun e w' => e = .returned (.int .i64 ((c0 + S.length + A.length : Nat) : Int)) ∧ w' = W) := heldBs_any W a1 d1 (c0 + S.length) (by omega) A hA (h2.keep bW)
  obtain ⟨z1, hz1⟩ : ∃ z, z = c0 + S.length := ⟨_, rfl⟩
  obtain ⟨z2, hz2⟩ : ∃ z, z = c0 + S.length + A.length := ⟨_, rfl⟩
  rw [← hz2] at HM2 ⊢
  rw [← hz1] at HM1 HM2
  clear h1 h2 hS hA hW bW hz1 hz2
  generalize S.length = n at *
  generalize A.length = m at *
  have g1 : ¬ (z1 : Int) < 0 := by omega
  have g2 : ¬ (z2 : Int) < 0 := by omega
  go_enter Try.func49, Try.ntmps49
  go_wp2_with fail
  rw [← HW.out]
  refine HM1.out.mono ?_
  rintro e w1 ⟨rfl, rfl⟩
  obtain ⟨p0, p1, p2, pf, _⟩ := K0.out.2
  clear HM1 HW
  go_wp2_with fail
  refine HM2.out.mono ?_
  rintro e w2 ⟨rfl, rfl⟩
  clear p0 p1 p2 pf HM2
  go_wp2_with fail
  go_ret
  exact ⟨rfl, K0.out.1⟩
end Go.Proofs.Ytnepafpaimoadaa
