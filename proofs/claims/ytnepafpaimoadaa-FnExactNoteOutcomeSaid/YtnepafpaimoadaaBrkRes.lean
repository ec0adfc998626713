/-
  Results with a breaker: compared, marked, held.
-/
import Derived.Test.YtnepafpaimoadaaAllowP
import Derived.Test.YtnepafpaimoadaaBrkLaw
namespace Go.Proofs.Ytnepafpaimoadaa
open Go.ChangeShapes Go.WideShapes Go.ChangeAt Go.RowKit Go.Sort
def SpotMk (w : World) (a : Option Addr) (g off : Nat) (l : List Mk) : Prop := l = [] ∨ (a = some ⟨g, off, none⟩ ∧ g < w.heap.size ∧ MkAt w g off l ∧ ∀ o, o < off + l.length * 2 → w.frozen? ⟨g, o, none⟩ = false)
theorem SpotMk.keep {w w' : World} {a : Option Addr} {g off : Nat} {l : List Mk} (h : SpotMk w a g off l) (hb : Below w.heap.size w w') : SpotMk w' a g off l := by
  rcases h with h | ⟨e, h1, h2, h3⟩
  · exact .inl h
  · exact .inr ⟨e, Nat.lt_of_lt_of_le h1 hb.size, h2.keep hb, fun o ho => by rw [hb.frozen (p := ⟨g, o, none⟩) h1]; exact h3 o ho⟩
theorem MkNew.at0 {w : World} {base : Nat} {a : Option Addr} {n c : Nat} {l : List Mk} (h : MkNew w base (.slice a n c) l) : ∃ g off, base ≤ g ∧ SpotMk w a g off l := by
  rcases h with ⟨e, _⟩ | ⟨g, off, cap, e, h1, h2, h3, h4⟩
  · exact ⟨base, 0, Nat.le_refl _, .inl e⟩
  · simp only [Value.slice.injEq] at e
    obtain ⟨rfl, rfl, rfl⟩ := e
    exact ⟨g, off, h1, .inr ⟨rfl, h2, h3, fun o _ => h4 o⟩⟩
theorem BrkNew.spot {w : World} {G : Nat} {l : List Mk} (h : BrkNew w G l) : SpotMk w (some ⟨G, 0, none⟩) G 0 l := .inr ⟨rfl, h.lt, h.at0, fun o ho => (h.room o (by omega)).2⟩
theorem markMk_spot (w : World) (a : Option Addr) (cap c0 : Nat) (hc0 : c0 ≤ 10000000000000) (l : List Mk) (hl : l.length ≤ 1048576) (g off : Nat) (h : SpotMk w a g off l) :
    Calls Try.prog 80 #[.slice a l.length cap, .int .i64 (c0 : Int)] w fun e w' => e = .returned (.int .i64 ((c0 + l.length * 2 : Nat) : Int)) ∧ MkIn w' a (mkdMk c0 l) ∧ w.grownBy w' (some g) := by
  refine (markMk_any w a cap c0 hc0 l hl g off ?_).mono ?_
  · rcases h with h | ⟨e, _, h2, h3⟩
    · exact .inl h
    · exact .inr ⟨e, h2, h3⟩
  · rintro e w' ⟨rfl, hI, h1⟩
    refine ⟨rfl, ?_, gbOne h1⟩
    rcases h with h | ⟨e, _⟩
    · subst h; exact .inl rfl
    · rcases hI with h | h
      · subst h; exact .inl rfl
      · exact .inr ⟨g, off, e, h⟩
theorem heldMk_below (w : World) (a : Option Addr) (cap c0 : Nat) (hc0 : c0 ≤ 10000000000000) (l : List Mk) (hl : l.length ≤ 1048576) (h : MkIn w a (mkdMk c0 l)) :
    Calls Try.prog 102 #[.slice a l.length cap, .int .i64 (c0 : Int)] w fun e w' => e = .returned (.int .i64 ((c0 + l.length * 2 : Nat) : Int)) ∧ Below w.heap.size w w' := (heldMk_any w a cap c0 hc0 l hl h).mono fun e w' ⟨h1, h2⟩ => ⟨h1, by rw [h2]; exact Below.refl _ _⟩
set_option maxHeartbeats 2000000 in
theorem eqAR_same (w : World) (c s t o : Int) (b : Bool) (a1 a2 : Option Addr) (c1 c2 : Nat) (l : List Mk) (hl : l.length ≤ 1048576) (h1 : MkIn w a1 l) (h2 : MkIn w a2 l) :
    Calls Try.prog 36 #[.agg #[.int .i64 c, .int .i64 s, .int .i64 t, .int .i64 o, .slice a1 l.length c1, .bool b], .agg #[.int .i64 c, .int .i64 s, .int .i64 t, .int .i64 o, .slice a2 l.length c2, .bool b]] w fun e w' => e = .returned (.bool true) ∧ Below w.heap.size w w' := by
  have HQ : Hid (∀ X, Below w.heap.size w X → Calls Try.prog 34 #[.agg #[.int .i64 s, .int .i64 t, .int .i64 o, .slice a1 l.length c1], .agg #[.int .i64 s, .int .i64 t, .int .i64 o, .slice a2 l.length c2]] X fun e w' => e = .returned (.bool true) ∧ Below X.heap.size X w') := fun X hb => eqBreaker_same X s t o a1 a2 c1 c2 l hl (h1.keep hb) (h2.keep hb)
  obtain ⟨W, hW⟩ : ∃ W, W = (w.alloc (.cells #[.int .i64 c, .int .i64 s, .int .i64 t, .int .i64 o, .slice a1 l.length c1, .bool b] 32)).alloc (.cells #[.int .i64 c, .int .i64 s, .int .i64 t, .int .i64 o, .slice a2 l.length c2, .bool b] 32) := ⟨_, rfl⟩
  have HW : Hid (W = (w.alloc (.cells #[.int .i64 c, .int .i64 s, .int .i64 t, .int .i64 o, .slice a1 l.length c1, .bool b] 32)).alloc (.cells #[.int .i64 c, .int .i64 s, .int .i64 t, .int .i64 o, .slice a2 l.length c2, .bool b] 32)) := hW
  have K0 : Hid (Below w.heap.size w W ∧ C6 W w.heap.size (.int .i64 c) (.int .i64 s) (.int .i64 t) (.int .i64 o) (.slice a1 l.length c1) (.bool b) ∧ C6 W (w.heap.size + 1) (.int .i64 c) (.int .i64 s) (.int .i64 t) (.int .i64 o) (.slice a2 l.length c2) (.bool b)) := by
    have h2 := C6.new (w.alloc (.cells #[.int .i64 c, .int .i64 s, .int .i64 t, .int .i64 o, .slice a1 l.length c1, .bool b] 32)) (.int .i64 c) (.int .i64 s) (.int .i64 t) (.int .i64 o) (.slice a2 l.length c2) (.bool b) 32
    rw [show (w.alloc (.cells #[.int .i64 c, .int .i64 s, .int .i64 t, .int .i64 o, .slice a1 l.length c1, .bool b] 32)).heap.size = w.heap.size + 1 by simp] at h2
    rw [hW]
    exact ⟨((Below.refl _ _).alloc (Nat.le_refl _) _).alloc (by simp) _, (C6.new w _ _ _ _ _ _ _).keep ((Below.refl _ _).alloc (Nat.le_refl _) _), h2⟩
  clear h1 h2 hl hW
  generalize l.length = n at *
  go_enter Try.func36, Try.ntmps36
  go_wp2_with fail
  rw [← HW.out]
  refine (HQ.out _ K0.out.1).mono ?_
  rintro e w1 ⟨rfl, hb⟩
  have HB : Hid (Below w.heap.size w w1) := K0.out.1.trans (hb.mono K0.out.1.size)
  have p5 := (K0.out.2.1.keep hb).c5
  have q5 := (K0.out.2.2.keep hb).c5
  clear hb HQ HW
  go_wp2_with fail
  go_ret
  exact ⟨rfl, HB.out⟩
set_option maxHeartbeats 2000000 in
theorem eqBR_same (w : World) (c s t o : Int) (a1 a2 : Option Addr) (c1 c2 : Nat) (l : List Mk) (hl : l.length ≤ 1048576) (h1 : MkIn w a1 l) (h2 : MkIn w a2 l) :
    Calls Try.prog 40 #[.agg #[.int .i64 c, .int .i64 s, .int .i64 t, .int .i64 o, .slice a1 l.length c1], .agg #[.int .i64 c, .int .i64 s, .int .i64 t, .int .i64 o, .slice a2 l.length c2]] w fun e w' => e = .returned (.bool true) ∧ Below w.heap.size w w' := by
  have HQ : Hid (∀ X, Below w.heap.size w X → Calls Try.prog 34 #[.agg #[.int .i64 s, .int .i64 t, .int .i64 o, .slice a1 l.length c1], .agg #[.int .i64 s, .int .i64 t, .int .i64 o, .slice a2 l.length c2]] X fun e w' => e = .returned (.bool true) ∧ Below X.heap.size X w') := fun X hb => eqBreaker_same X s t o a1 a2 c1 c2 l hl (h1.keep hb) (h2.keep hb)
  obtain ⟨W, hW⟩ : ∃ W, W = (w.alloc (.cells #[.int .i64 c, .int .i64 s, .int .i64 t, .int .i64 o, .slice a1 l.length c1] 39)).alloc (.cells #[.int .i64 c, .int .i64 s, .int .i64 t, .int .i64 o, .slice a2 l.length c2] 39) := ⟨_, rfl⟩
  have HW : Hid (W = (w.alloc (.cells #[.int .i64 c, .int .i64 s, .int .i64 t, .int .i64 o, .slice a1 l.length c1] 39)).alloc (.cells #[.int .i64 c, .int .i64 s, .int .i64 t, .int .i64 o, .slice a2 l.length c2] 39)) := hW
  have K0 : Hid (Below w.heap.size w W ∧ C5 W w.heap.size (.int .i64 c) (.int .i64 s) (.int .i64 t) (.int .i64 o) (.slice a1 l.length c1) ∧ C5 W (w.heap.size + 1) (.int .i64 c) (.int .i64 s) (.int .i64 t) (.int .i64 o) (.slice a2 l.length c2)) := by
    have h2 := C5.new (w.alloc (.cells #[.int .i64 c, .int .i64 s, .int .i64 t, .int .i64 o, .slice a1 l.length c1] 39)) (.int .i64 c) (.int .i64 s) (.int .i64 t) (.int .i64 o) (.slice a2 l.length c2) 39
    rw [show (w.alloc (.cells #[.int .i64 c, .int .i64 s, .int .i64 t, .int .i64 o, .slice a1 l.length c1] 39)).heap.size = w.heap.size + 1 by simp] at h2
    rw [hW]
    exact ⟨((Below.refl _ _).alloc (Nat.le_refl _) _).alloc (by simp) _, (C5.new w _ _ _ _ _ _).keep ((Below.refl _ _).alloc (Nat.le_refl _) _), h2⟩
  clear h1 h2 hl hW
  generalize l.length = n at *
  go_enter Try.func40, Try.ntmps40
  go_wp2_with fail
  rw [← HW.out]
  refine (HQ.out _ K0.out.1).mono ?_
  rintro e w1 ⟨rfl, hb⟩
  have HB : Hid (Below w.heap.size w w1) := K0.out.1.trans (hb.mono K0.out.1.size)
  clear hb HQ HW
  go_wp2_with fail
  go_ret
  exact ⟨rfl, HB.out⟩
set_option maxHeartbeats 2000000 in
theorem markBreaker_any (w : World) (s t o : Int) (a : Option Addr) (cap c0 : Nat) (hc0 : c0 ≤ 10000000000000) (l : List Mk) (hl : l.length ≤ 1048576) (g off : Nat) (h : SpotMk w a g off l) :
    Calls Try.prog 37 #[.agg #[.int .i64 s, .int .i64 t, .int .i64 o, .slice a l.length cap], .int .i64 (c0 : Int)] w fun e w' => e = .returned (.int .i64 ((c0 + l.length * 2 : Nat) : Int)) ∧ MkIn w' a (mkdMk c0 l) ∧ w.grownBy w' (some g) := by
  obtain ⟨W, hW⟩ : ∃ W, W = w.alloc (.cells #[.int .i64 s, .int .i64 t, .int .i64 o, .slice a l.length cap] 26) := ⟨_, rfl⟩
  have HW : Hid (W = w.alloc (.cells #[.int .i64 s, .int .i64 t, .int .i64 o, .slice a l.length cap] 26)) := hW
  have bW : Below w.heap.size w W := by rw [hW]; exact (Below.refl _ _).alloc (Nat.le_refl _) _
  have HB : Hid (Below w.heap.size w W) := bW
  have HC : Hid (Calls Try.prog 80 #[.slice a l.length cap, .int .i64 (c0 : Int)] W fun e w' => e = .returned (.int .i64 ((c0 + l.length * 2 : Nat) : Int)) ∧ MkIn w' a (mkdMk c0 l) ∧ W.grownBy w' (some g)) := markMk_spot W a cap c0 hc0 l hl g off (h.keep bW)
  clear hW bW h
  generalize l.length = n at *
  go_enter Try.func37, Try.ntmps37
  go_wp2_with fail
  rw [← HW.out]
  refine HC.out.mono ?_
  rintro e w1 ⟨rfl, hI, hg⟩
  have HR : Hid (MkIn w1 a (mkdMk c0 l) ∧ w.grownBy w1 (some g)) := ⟨hI, gbTrans (gbBelow _ HB.out) hg⟩
  clear hI hg HC HW HB
  go_wp2_with fail
  go_ret
  exact ⟨rfl, HR.out.1, HR.out.2⟩
set_option maxHeartbeats 2000000 in
theorem heldBreaker_any (w : World) (s t o : Int) (a : Option Addr) (cap c0 : Nat) (hc0 : c0 ≤ 10000000000000) (l : List Mk) (hl : l.length ≤ 1048576) (h : MkIn w a (mkdMk c0 l)) :
    Calls Try.prog 81 #[.agg #[.int .i64 s, .int .i64 t, .int .i64 o, .slice a l.length cap], .int .i64 (c0 : Int)] w fun e w' => e = .returned (.int .i64 ((c0 + l.length * 2 : Nat) : Int)) ∧ Below w.heap.size w w' := by
  obtain ⟨W, hW⟩ : ∃ W, W = w.alloc (.cells #[.int .i64 s, .int .i64 t, .int .i64 o, .slice a l.length cap] 26) := ⟨_, rfl⟩
  have HW : Hid (W = w.alloc (.cells #[.int .i64 s, .int .i64 t, .int .i64 o, .slice a l.length cap] 26)) := hW
  have bW : Below w.heap.size w W := by rw [hW]; exact (Below.refl _ _).alloc (Nat.le_refl _) _
  have HB : Hid (Below w.heap.size w W) := bW
  have HC : Hid (Calls Try.prog 102 #[.slice a l.length cap, .int .i64 (c0 : Int)] W fun e w' => e = .returned (.int .i64 ((c0 + l.length * 2 : Nat) : Int)) ∧ Below W.heap.size W w') := heldMk_below W a cap c0 hc0 l hl (h.keep bW)
  clear hW bW h
  have hn : ¬ ((c0 + l.length * 2 : Nat) : Int) < 0 := by omega
  generalize hm : c0 + l.length * 2 = m at *
  generalize l.length = n at *
  clear hm
  go_enter Try.func81, Try.ntmps81
  go_wp2_with fail
  rw [← HW.out]
  refine HC.out.mono ?_
  rintro e w1 ⟨rfl, hb⟩
  have HR : Hid (Below w.heap.size w w1) := HB.out.trans (hb.mono HB.out.size)
  clear hb HC HW HB
  go_wp2_with fail
  go_ret
  exact ⟨rfl, HR.out⟩
set_option maxHeartbeats 2000000 in
theorem markAR_any (w : World) (c s t o : Int) (b : Bool) (a : Option Addr) (cap c0 : Nat) (hc0 : c0 ≤ 10000000000000) (l : List Mk) (hl : l.length ≤ 1048576) (g off : Nat) (h : SpotMk w a g off l) :
    Calls Try.prog 38 #[.agg #[.int .i64 c, .int .i64 s, .int .i64 t, .int .i64 o, .slice a l.length cap, .bool b], .int .i64 (c0 : Int)] w fun e w' => e = .returned (.int .i64 ((c0 + l.length * 2 : Nat) : Int)) ∧ MkIn w' a (mkdMk c0 l) ∧ w.grownBy w' (some g) := by
  obtain ⟨W, hW⟩ : ∃ W, W = w.alloc (.cells #[.int .i64 c, .int .i64 s, .int .i64 t, .int .i64 o, .slice a l.length cap, .bool b] 32) := ⟨_, rfl⟩
  have HW : Hid (W = w.alloc (.cells #[.int .i64 c, .int .i64 s, .int .i64 t, .int .i64 o, .slice a l.length cap, .bool b] 32)) := hW
  have bW : Below w.heap.size w W := by rw [hW]; exact (Below.refl _ _).alloc (Nat.le_refl _) _
  have HB : Hid (Below w.heap.size w W) := bW
  have HC : Hid (Calls Try.prog 37 #[.agg #[.int .i64 s, .int .i64 t, .int .i64 o, .slice a l.length cap], .int .i64 (c0 : Int)] W fun e w' => e = .returned (.int .i64 ((c0 + l.length * 2 : Nat) : Int)) ∧ MkIn w' a (mkdMk c0 l) ∧ W.grownBy w' (some g)) := markBreaker_any W s t o a cap c0 hc0 l hl g off (h.keep bW)
  clear hW bW h
  generalize l.length = n at *
  go_enter Try.func38, Try.ntmps38
  go_wp2_with fail
  rw [← HW.out]
  refine HC.out.mono ?_
  rintro e w1 ⟨rfl, hI, hg⟩
  have HR : Hid (MkIn w1 a (mkdMk c0 l) ∧ w.grownBy w1 (some g)) := ⟨hI, gbTrans (gbBelow _ HB.out) hg⟩
  clear hI hg HC HW HB
  go_wp2_with fail
  go_ret
  exact ⟨rfl, HR.out.1, HR.out.2⟩
set_option maxHeartbeats 2000000 in
theorem heldAR_any (w : World) (c s t o : Int) (b : Bool) (a : Option Addr) (cap c0 : Nat) (hc0 : c0 ≤ 10000000000000) (l : List Mk) (hl : l.length ≤ 1048576) (h : MkIn w a (mkdMk c0 l)) :
    Calls Try.prog 39 #[.agg #[.int .i64 c, .int .i64 s, .int .i64 t, .int .i64 o, .slice a l.length cap, .bool b], .int .i64 (c0 : Int)] w fun e w' => e = .returned (.int .i64 ((c0 + l.length * 2 : Nat) : Int)) ∧ Below w.heap.size w w' := by
  obtain ⟨W, hW⟩ : ∃ W, W = w.alloc (.cells #[.int .i64 c, .int .i64 s, .int .i64 t, .int .i64 o, .slice a l.length cap, .bool b] 32) := ⟨_, rfl⟩
  have HW : Hid (W = w.alloc (.cells #[.int .i64 c, .int .i64 s, .int .i64 t, .int .i64 o, .slice a l.length cap, .bool b] 32)) := hW
  have bW : Below w.heap.size w W := by rw [hW]; exact (Below.refl _ _).alloc (Nat.le_refl _) _
  have HB : Hid (Below w.heap.size w W) := bW
  have HC : Hid (Calls Try.prog 81 #[.agg #[.int .i64 s, .int .i64 t, .int .i64 o, .slice a l.length cap], .int .i64 (c0 : Int)] W fun e w' => e = .returned (.int .i64 ((c0 + l.length * 2 : Nat) : Int)) ∧ Below W.heap.size W w') := heldBreaker_any W s t o a cap c0 hc0 l hl (h.keep bW)
  clear hW bW h
  have hn : ¬ ((c0 + l.length * 2 : Nat) : Int) < 0 := by omega
  generalize hm : c0 + l.length * 2 = m at *
  generalize l.length = n at *
  clear hm
  go_enter Try.func39, Try.ntmps39
  go_wp2_with fail
  rw [← HW.out]
  refine HC.out.mono ?_
  rintro e w1 ⟨rfl, hb⟩
  have HR : Hid (Below w.heap.size w w1) := HB.out.trans (hb.mono HB.out.size)
  clear hb HC HW HB
  go_wp2_with fail
  go_ret
  exact ⟨rfl, HR.out⟩
set_option maxHeartbeats 2000000 in
theorem markBR_any (w : World) (c s t o : Int) (a : Option Addr) (cap c0 : Nat) (hc0 : c0 ≤ 10000000000000) (l : List Mk) (hl : l.length ≤ 1048576) (g off : Nat) (h : SpotMk w a g off l) :
    Calls Try.prog 41 #[.agg #[.int .i64 c, .int .i64 s, .int .i64 t, .int .i64 o, .slice a l.length cap], .int .i64 (c0 : Int)] w fun e w' => e = .returned (.int .i64 ((c0 + l.length * 2 : Nat) : Int)) ∧ MkIn w' a (mkdMk c0 l) ∧ w.grownBy w' (some g) := by
  obtain ⟨W, hW⟩ : ∃ W, W = w.alloc (.cells #[.int .i64 c, .int .i64 s, .int .i64 t, .int .i64 o, .slice a l.length cap] 39) := ⟨_, rfl⟩
  have HW : Hid (W = w.alloc (.cells #[.int .i64 c, .int .i64 s, .int .i64 t, .int .i64 o, .slice a l.length cap] 39)) := hW
  have bW : Below w.heap.size w W := by rw [hW]; exact (Below.refl _ _).alloc (Nat.le_refl _) _
  have HB : Hid (Below w.heap.size w W) := bW
  have HC : Hid (Calls Try.prog 37 #[.agg #[.int .i64 s, .int .i64 t, .int .i64 o, .slice a l.length cap], .int .i64 (c0 : Int)] W fun e w' => e = .returned (.int .i64 ((c0 + l.length * 2 : Nat) : Int)) ∧ MkIn w' a (mkdMk c0 l) ∧ W.grownBy w' (some g)) := markBreaker_any W s t o a cap c0 hc0 l hl g off (h.keep bW)
  clear hW bW h
  generalize l.length = n at *
  go_enter Try.func41, Try.ntmps41
  go_wp2_with fail
  rw [← HW.out]
  refine HC.out.mono ?_
  rintro e w1 ⟨rfl, hI, hg⟩
  have HR : Hid (MkIn w1 a (mkdMk c0 l) ∧ w.grownBy w1 (some g)) := ⟨hI, gbTrans (gbBelow _ HB.out) hg⟩
  clear hI hg HC HW HB
  go_wp2_with fail
  go_ret
  exact ⟨rfl, HR.out.1, HR.out.2⟩
set_option maxHeartbeats 2000000 in
theorem heldBR_any (w : World) (c s t o : Int) (a : Option Addr) (cap c0 : Nat) (hc0 : c0 ≤ 10000000000000) (l : List Mk) (hl : l.length ≤ 1048576) (h : MkIn w a (mkdMk c0 l)) :
    Calls Try.prog 42 #[.agg #[.int .i64 c, .int .i64 s, .int .i64 t, .int .i64 o, .slice a l.length cap], .int .i64 (c0 : Int)] w fun e w' => e = .returned (.int .i64 ((c0 + l.length * 2 : Nat) : Int)) ∧ Below w.heap.size w w' := by
  obtain ⟨W, hW⟩ : ∃ W, W = w.alloc (.cells #[.int .i64 c, .int .i64 s, .int .i64 t, .int .i64 o, .slice a l.length cap] 39) := ⟨_, rfl⟩
  have HW : Hid (W = w.alloc (.cells #[.int .i64 c, .int .i64 s, .int .i64 t, .int .i64 o, .slice a l.length cap] 39)) := hW
  have bW : Below w.heap.size w W := by rw [hW]; exact (Below.refl _ _).alloc (Nat.le_refl _) _
  have HB : Hid (Below w.heap.size w W) := bW
  have HC : Hid (Calls Try.prog 81 #[.agg #[.int .i64 s, .int .i64 t, .int .i64 o, .slice a l.length cap], .int .i64 (c0 : Int)] W fun e w' => e = .returned (.int .i64 ((c0 + l.length * 2 : Nat) : Int)) ∧ Below W.heap.size W w') := heldBreaker_any W s t o a cap c0 hc0 l hl (h.keep bW)
  clear hW bW h
  have hn : ¬ ((c0 + l.length * 2 : Nat) : Int) < 0 := by omega
  generalize hm : c0 + l.length * 2 = m at *
  generalize l.length = n at *
  clear hm
  go_enter Try.func42, Try.ntmps42
  go_wp2_with fail
  rw [← HW.out]
  refine HC.out.mono ?_
  rintro e w1 ⟨rfl, hb⟩
  have HR : Hid (Below w.heap.size w w1) := HB.out.trans (hb.mono HB.out.size)
  clear hb HC HW HB
  go_wp2_with fail
  go_ret
  exact ⟨rfl, HR.out⟩
end Go.Proofs.Ytnepafpaimoadaa
