/-
  ErrorOf: what it answers, by the model and by the program; its law.
-/
import Derived.Test.YtjdkkfbijneedaaMResP0
import Derived.Test.YtjdkkfbijneedaaWalkError
import Derived.Test.YtjdkkfbijneedaaStrRow
namespace Go.Proofs.Ytjdkkfbijneedaa
open Go.ChangeShapes Go.WideShapes Go.ChangeAt Go.RowKit Go.Sort
set_option maxHeartbeats 2000000 in
theorem lineOf_anew (n z : ByteArray) (w : World) (hn : n.size ≤ 1048576) (hz : z.size ≤ 1048576) :
    Calls Try.prog 11 #[.string n, .string z] w fun e w' => e = .returned (.agg #[.string n, .string z]) ∧ Below w.heap.size w w' := by
  have C1 : Hid (∀ X, Calls Try.prog 15 #[.string n] X fun e w' => e = .returned (.string n) ∧ Below X.heap.size X w') := fun X => clone_text n X hn
  have C2 : Hid (∀ X, Calls Try.prog 15 #[.string z] X fun e w' => e = .returned (.string z) ∧ Below X.heap.size X w') := fun X => clone_text z X hz
  obtain ⟨W, hW⟩ : ∃ W, W = w.alloc (.cells #[.string ⟨#[]⟩, .string ⟨#[]⟩] 35) := ⟨_, rfl⟩
  have HW : Hid (W = w.alloc (.cells #[.string ⟨#[]⟩, .string ⟨#[]⟩] 35)) := hW
  have K0 : Hid (Below w.heap.size w W ∧ W.cell? ⟨w.heap.size, 0, none⟩ = some (.string ⟨#[]⟩) ∧ W.cell? ⟨w.heap.size, 1, none⟩ = some (.string ⟨#[]⟩) ∧ (∀ o, W.frozen? ⟨w.heap.size, o, none⟩ = false) ∧ w.heap.size < W.heap.size) := by
    rw [hW]; exact ⟨(Below.refl _ _).alloc (Nat.le_refl _) _, by simp, by simp, fun o => by simp, by simp⟩
  clear hW
  go_enter Try.func11, Try.ntmps11
  go_wp2_with fail
  rw [← HW.out]
  refine (C1.out _).mono ?_
  rintro e w1 ⟨rfl, hb1⟩
  go_wp2_with fail
  refine (C2.out _).mono ?_
  rintro e w2 ⟨rfl, hb2⟩
  have b2 : Below W.heap.size W w2 := hb1.trans (hb2.mono hb1.size)
  have r0 : w2.cell? ⟨w.heap.size, 0, none⟩ = some (.string ⟨#[]⟩) := by rw [b2.cell (p := ⟨w.heap.size, 0, none⟩) K0.out.2.2.2.2]; exact K0.out.2.1
  have r1 : w2.cell? ⟨w.heap.size, 1, none⟩ = some (.string ⟨#[]⟩) := by rw [b2.cell (p := ⟨w.heap.size, 1, none⟩) K0.out.2.2.2.2]; exact K0.out.2.2.1
  have f0 : w2.frozen? ⟨w.heap.size, 0, none⟩ = false := by rw [b2.frozen (p := ⟨w.heap.size, 0, none⟩) K0.out.2.2.2.2]; exact K0.out.2.2.2.1 0
  have f1 : w2.frozen? ⟨w.heap.size, 1, none⟩ = false := by rw [b2.frozen (p := ⟨w.heap.size, 1, none⟩) K0.out.2.2.2.2]; exact K0.out.2.2.2.1 1
  have HB : Hid (Below w.heap.size w w2) := K0.out.1.trans (b2.mono K0.out.1.size)
  clear hb1 hb2 b2 K0 HW C1 C2
  go_wp2_with fail
  exact bodyPost_ret (v := .agg #[.string n, .string z]) (by simp [results, Try.results11, go_sem, r0, r1]) rfl ⟨rfl, (HB.out.setCell (Nat.le_refl _) _).setCell (Nat.le_refl _) _⟩
def xName : ByteArray := ⟨#[88, 45, 67, 97, 99, 104, 101]⟩
def xError : ByteArray := ⟨#[101, 114, 114, 111, 114]⟩
def errC (s : Int) : Int := if 400 ≤ s ∧ s ≤ 599 then 0 else 3
def errS (s : Int) : Int := if 400 ≤ s ∧ s ≤ 599 then s else 0
def errL (s : Int) : List Hdr := if 400 ≤ s ∧ s ≤ 599 then [⟨xName, xError⟩] else []
/-- What ErrorOf answers. -/
def ER (L : List Hdr) (ra : Option Addr) (rn rk : Nat) (rb : Option Addr) (rm rl : Nat) (lo hi : Nat) (X : World) : Prop :=
  rn = L.length ∧ HLV X (.slice ra rn rk) L ∧ (∀ b, (Value.slice ra rn rk).ownBlock = some b → lo ≤ b ∧ b < hi) ∧ rb = none ∧ rm = 0 ∧ rl = 0
theorem ER.dep (L : List Hdr) (ra : Option Addr) (rn rk : Nat) (rb : Option Addr) (rm rl lo hi : Nat) : Dep lo hi (ER L ra rn rk rb rm rl lo hi) := fun X X' _ h2 hc k => by
  obtain ⟨e, h, hb, r⟩ := k
  refine ⟨e, ?_, hb, r⟩
  rcases h with q | ⟨g, c, q, hg, hi', hf⟩
  · exact .inl q
  · obtain ⟨b1, b2⟩ := hb g (by rw [q]; rfl)
    exact .inr ⟨g, c, q, Nat.lt_of_lt_of_le hg h2, fun i r hr => by rw [(hc g _ b1 b2).1, (hc g _ b1 b2).1]; exact hi' i r hr, fun o => by rw [(hc g o b1 b2).2, hf]⟩
theorem lineHead {W : World} {g : Nat} {t : TypeId} (h : W.heap[g]? = some (.cells #[.string xName, .string xError] t (0, 0))) : HeadsAt W g 0 [⟨xName, xError⟩] := by
  intro i r hr
  match i, hr with
  | 0, hr =>
    simp only [List.getElem?_cons_zero, Option.some.injEq] at hr
    subst hr
    exact ⟨by simp [World.cell?, h], by simp [World.cell?, h]⟩
def ErrRes (s : Int) (w w' : World) (e : Ending) : Prop :=
  ∃ ra rn rk rb rm rl, e = .returned (.agg #[.int .i64 (errC s), .int .i64 (errS s), .slice ra rn rk, .slice rb rm rl]) ∧ At w.heap.size w'.heap.size (ER (errL s) ra rn rk rb rm rl) w'
theorem ErrRes.bad {s : Int} {w w' : World} (h : ¬ (400 ≤ s ∧ s ≤ 599)) : ErrRes s w w' (.returned (.agg #[.int .i64 3, .int .i64 0, .slice none 0 0, .slice none 0 0])) := by
  refine ⟨none, 0, 0, none, 0, 0, by unfold errC errS; rw [if_neg h, if_neg h], Nat.le_refl _, ER.dep _ _ _ _ _ _ _ _ _, ?_⟩
  unfold errL
  rw [if_neg h]
  exact ⟨rfl, .inl ⟨rfl, rfl⟩, (fun b hb => by cases hb), rfl, rfl, rfl⟩
theorem ErrRes.good {s : Int} {w w' : World} {g : Nat} {t : TypeId} (h : 400 ≤ s ∧ s ≤ 599) (hg : w.heap.size ≤ g) (hh : w'.heap[g]? = some (.cells #[.string xName, .string xError] t (0, 0))) : ErrRes s w w' (.returned (.agg #[.int .i64 0, .int .i64 s, .slice (some ⟨g, 0, none⟩) 1 1, .slice none 0 0])) := by
  have hlt : g < w'.heap.size := (Array.getElem?_eq_some_iff.1 hh).1
  refine ⟨_, 1, 1, none, 0, 0, by unfold errC errS; rw [if_pos h, if_pos h], Nat.le_refl _, ER.dep _ _ _ _ _ _ _ _ _, ?_⟩
  unfold errL
  rw [if_pos h]
  exact ⟨rfl, .inr ⟨g, 1, rfl, hlt, lineHead hh, fun o => by unfold World.frozen?; rw [hh]; simp⟩, (fun b hb => by simp only [Value.ownBlock, Option.some.injEq] at hb; omega), rfl, rfl, rfl⟩
def inW (lo hi x : Int) : Bool := decide (lo ≤ x) && decide (x ≤ hi)
theorem inW_yes {lo hi x : Int} (h0 : lo ≤ x) (h1 : x ≤ hi) : inW lo hi x = true := by simp [inW, h0, h1]
theorem inW_of {lo hi x : Int} (h : inW lo hi x = true) : lo ≤ x ∧ x ≤ hi := by simpa [inW] using h
theorem l1In_w (x lo hi : Int) (w : World) : Calls Try.prog 9 #[.int .i64 x, .int .i64 lo, .int .i64 hi] w fun r w' => r = .returned (.bool (inW lo hi x)) ∧ w' = w := by
  by_cases c1 : lo ≤ x
  · by_cases c2 : x ≤ hi
    · rw [inW_yes c1 c2]
      have d2 : decide (x ≤ hi) = true := by simpa using c2
      go_enter Try.func9, Try.ntmps9
      go_wp2
      go_ret
      exact ⟨rfl, rfl⟩
    · have e : inW lo hi x = false := by simp [inW]; omega
      rw [e]
      have d2 : decide (x ≤ hi) = false := by simpa using c2
      go_enter Try.func9, Try.ntmps9
      go_wp2
      go_ret
      exact ⟨rfl, rfl⟩
  · have e : inW lo hi x = false := by simp [inW]; omega
    rw [e]
    go_enter Try.func9, Try.ntmps9
    go_wp2
    go_ret
    exact ⟨rfl, rfl⟩
set_option maxHeartbeats 2000000 in
theorem l13Error_any (s : Int) (w : World) :
    Calls Try.prog 10 #[.int .i64 s] w fun e w' => (∃ g, e = .returned (.agg #[.int .i64 s, .slice (some ⟨g, 0, none⟩) 1 1, .slice none 0 0]) ∧ w.heap.size ≤ g ∧ w'.heap[g]? = some (.cells #[.string xName, .string xError] 35 (0, 0))) ∧ Below w.heap.size w w' := by
  go_enter Try.func10, Try.ntmps10
  go_wp2_with fail
  refine bodyPost_ret (v := .agg #[.int .i64 s, .slice (some ⟨w.heap.size + 1, 0, none⟩) 1 1, .slice none 0 0]) (by simp [results, Try.results10, go_sem]) rfl ⟨⟨w.heap.size + 1, rfl, by omega, ?_⟩, ((Below.refl _ _).alloc (Nat.le_refl _) _).alloc (by simp) _⟩
  have := heap_alloc_new (w.alloc (.cells #[.int .i64 s, .slice (some ⟨w.heap.size + 1, 0, none⟩) 1 1, .slice none 0 0] 25)) (.cells #[.string xName, .string xError] 35 (0, 0))
  rw [World.size_alloc] at this
  exact this
set_option maxHeartbeats 4000000 in
theorem specError_any (s : Int) (w : World) :
    Calls Try.prog 4 #[.int .i64 s] w fun e w' => ErrRes s w w' e ∧ Below w.heap.size w w' := by
  have CI : Hid (∀ X, Calls Try.prog 9 #[.int .i64 s, .int .i64 400, .int .i64 599] X fun e w' => e = .returned (.bool (inW 400 599 s)) ∧ w' = X) := fun X => l1In_w s 400 599 X
  have CE : Hid (∀ X, Calls Try.prog 10 #[.int .i64 s] X fun e w' => (∃ g, e = .returned (.agg #[.int .i64 s, .slice (some ⟨g, 0, none⟩) 1 1, .slice none 0 0]) ∧ X.heap.size ≤ g ∧ w'.heap[g]? = some (.cells #[.string xName, .string xError] 35 (0, 0))) ∧ Below X.heap.size X w') := l13Error_any s
  obtain ⟨W, hW⟩ : ∃ W, W = (w.alloc (.cells #[.int .i64 0, .int .i64 0, .slice none 0 0, .slice none 0 0] 27)) := ⟨_, rfl⟩
  have HW : Hid (W = (w.alloc (.cells #[.int .i64 0, .int .i64 0, .slice none 0 0, .slice none 0 0] 27))) := hW
  have K0 : Hid (Below w.heap.size w W ∧ At w.heap.size (w.heap.size + 1) (Bx w.heap.size [.int .i64 0, .int .i64 0, .slice none 0 0, .slice none 0 0]) W) := by rw [hW]; exact ⟨(Below.refl _ _).alloc (Nat.le_refl _) _, Bx.new _ _ _⟩
  clear hW
  by_cases hs : 400 ≤ s ∧ s ≤ 599
  · have HG : Hid (∀ w' g t, w.heap.size ≤ g → w'.heap[g]? = some (.cells #[.string xName, .string xError] t (0, 0)) → ErrRes s w w' (.returned (.agg #[.int .i64 0, .int .i64 s, .slice (some ⟨g, 0, none⟩) 1 1, .slice none 0 0]))) := fun w' g t h1 h2 => ErrRes.good hs h1 h2
    rw [inW_yes hs.1 hs.2] at CI
    clear hs
    go_enter Try.func4, Try.ntmps4
    go_wp2_with fail
    rw [← HW.out]
    refine (CI.out W).mono ?_
    rintro e w1 ⟨rfl, rfl⟩
    clear HW CI
    go_wp2_with fail
    refine (CE.out w1).mono ?_
    rintro e w2 ⟨⟨g, rfl, hg1, hg2⟩, hb⟩
    have K2 : Hid (Below w.heap.size w w2 ∧ At w.heap.size (w.heap.size + 1) (Bx w.heap.size [.int .i64 0, .int .i64 0, .slice none 0 0, .slice none 0 0]) w2 ∧ w1.heap.size ≤ g ∧ w2.heap[g]? = some (.cells #[.string xName, .string xError] 35 (0, 0)) ∧ w.heap.size < w1.heap.size) := ⟨K0.out.1.trans (hb.mono K0.out.1.size), K0.out.2.keep hb, hg1, hg2, K0.out.2.le⟩
    clear hg1 hg2 hb K0 CE
    have z0 := K2.out.2.1.val.1 0 _ rfl
    have z1 := K2.out.2.1.val.1 1 _ rfl
    have z2 := K2.out.2.1.val.1 2 _ rfl
    have z3 := K2.out.2.1.val.1 3 _ rfl
    have zf0 := K2.out.2.1.val.2 0
    have zf1 := K2.out.2.1.val.2 1
    have zf2 := K2.out.2.1.val.2 2
    have zf3 := K2.out.2.1.val.2 3
    go_wp2_with fail
    obtain ⟨bb, _, h1, h2, h3⟩ := K2.out
    exact bodyPost_ret (v := .agg #[.int .i64 0, .int .i64 s, .slice (some ⟨g, 0, none⟩) 1 1, .slice none 0 0]) (by simp [results, Try.results4, go_sem, z0, z1, z2, z3]) rfl ⟨HG.out _ g _ (by omega) (by rw [Below.heap_setCell _ _ _ _ (by show g ≠ w.heap.size; omega), Below.heap_setCell _ _ _ _ (by show g ≠ w.heap.size; omega), Below.heap_setCell _ _ _ _ (by show g ≠ w.heap.size; omega), Below.heap_setCell _ _ _ _ (by show g ≠ w.heap.size; omega)]; exact h2), (((bb.setCell (Nat.le_refl _) _).setCell (Nat.le_refl _) _).setCell (Nat.le_refl _) _).setCell (Nat.le_refl _) _⟩
  · have HB : Hid (∀ w', ErrRes s w w' (.returned (.agg #[.int .i64 3, .int .i64 0, .slice none 0 0, .slice none 0 0]))) := fun w' => ErrRes.bad hs
    have hf : inW 400 599 s = false := by
      cases h : inW 400 599 s
      · rfl
      · exact absurd (inW_of h) hs
    rw [hf] at CI
    clear hs hf CE
    go_enter Try.func4, Try.ntmps4
    go_wp2_with fail
    rw [← HW.out]
    refine (CI.out W).mono ?_
    rintro e w2 ⟨rfl, rfl⟩
    have K2 := hidL (show Below w.heap.size w w2 ∧ At w.heap.size (w.heap.size + 1) (Bx w.heap.size [.int .i64 0, .int .i64 0, .slice none 0 0, .slice none 0 0]) w2 ∧ True from ⟨K0.out.1, K0.out.2, trivial⟩)
    clear HW CI
    have z0 := K2.out.2.1.val.1 0 _ rfl
    have z1 := K2.out.2.1.val.1 1 _ rfl
    have z2 := K2.out.2.1.val.1 2 _ rfl
    have z3 := K2.out.2.1.val.1 3 _ rfl
    have zf0 := K2.out.2.1.val.2 0
    have zf1 := K2.out.2.1.val.2 1
    have zf2 := K2.out.2.1.val.2 2
    have zf3 := K2.out.2.1.val.2 3
    go_wp2_with fail
    have bb := K2.out.1
    exact bodyPost_ret (v := .agg #[.int .i64 3, .int .i64 0, .slice none 0 0, .slice none 0 0]) (by simp [results, Try.results4, go_sem, z0, z1, z2, z3]) rfl ⟨HB.out _, (((bb.setCell (Nat.le_refl _) _).setCell (Nat.le_refl _) _).setCell (Nat.le_refl _) _).setCell (Nat.le_refl _) _⟩
set_option maxHeartbeats 4000000 in
theorem implError_any (s : Int) (w : World) :
    Calls Try.prog 5 #[.int .i64 s] w fun e w' => ErrRes s w w' e ∧ Below w.heap.size w w' := by
  have CE : Hid (∀ X, Calls Try.prog 11 #[.string xName, .string xError] X fun e w' => e = .returned (.agg #[.string xName, .string xError]) ∧ Below X.heap.size X w') := fun X => lineOf_anew _ _ X (by decide) (by decide)
  obtain ⟨W, hW⟩ : ∃ W, W = (w.alloc (.cells #[.int .i64 0, .int .i64 0, .slice none 0 0, .slice none 0 0] 27)) := ⟨_, rfl⟩
  have HW : Hid (W = (w.alloc (.cells #[.int .i64 0, .int .i64 0, .slice none 0 0, .slice none 0 0] 27))) := hW
  have K0 : Hid (Below w.heap.size w W ∧ At w.heap.size (w.heap.size + 1) (Bx w.heap.size [.int .i64 0, .int .i64 0, .slice none 0 0, .slice none 0 0]) W) := by rw [hW]; exact ⟨(Below.refl _ _).alloc (Nat.le_refl _) _, Bx.new _ _ _⟩
  clear hW
  by_cases c1 : s < 400
  · have HB : Hid (∀ w', ErrRes s w w' (.returned (.agg #[.int .i64 3, .int .i64 0, .slice none 0 0, .slice none 0 0]))) := fun w' => ErrRes.bad (by omega)
    have d1 : decide (s < 400) = true := by simpa using c1
    clear CE HW K0
    go_enter Try.func5, Try.ntmps5
    go_wp2_with fail
    exact bodyPost_ret (v := .agg #[.int .i64 3, .int .i64 0, .slice none 0 0, .slice none 0 0]) (by simp [results, Try.results5, go_sem]) rfl ⟨HB.out _, (Below.refl _ _).alloc (Nat.le_refl _) _⟩
  by_cases c2 : 599 < s
  · have HB : Hid (∀ w', ErrRes s w w' (.returned (.agg #[.int .i64 3, .int .i64 0, .slice none 0 0, .slice none 0 0]))) := fun w' => ErrRes.bad (by omega)
    have d1 : decide (s < 400) = false := by simpa using c1
    have d2 : decide (599 < s) = true := by simpa using c2
    clear CE HW K0
    go_enter Try.func5, Try.ntmps5
    go_wp2_with fail
    exact bodyPost_ret (v := .agg #[.int .i64 3, .int .i64 0, .slice none 0 0, .slice none 0 0]) (by simp [results, Try.results5, go_sem]) rfl ⟨HB.out _, (Below.refl _ _).alloc (Nat.le_refl _) _⟩
  have HG : Hid (∀ w' g t, w.heap.size ≤ g → w'.heap[g]? = some (.cells #[.string xName, .string xError] t (0, 0)) → ErrRes s w w' (.returned (.agg #[.int .i64 0, .int .i64 s, .slice (some ⟨g, 0, none⟩) 1 1, .slice none 0 0]))) := fun w' g t h1 h2 => ErrRes.good (by omega) h1 h2
  have d1 : decide (s < 400) = false := by simpa using c1
  have d2 : decide (599 < s) = false := by simpa using c2
  clear c1 c2
  go_enter Try.func5, Try.ntmps5
  go_wp2_with fail
  rw [← HW.out]
  refine (CE.out W).mono ?_
  rintro e w2 ⟨rfl, hb⟩
  obtain ⟨V, hV⟩ : ∃ V, V = w2.alloc (.cells #[.string xName, .string xError] 35) := ⟨_, rfl⟩
  have HV : Hid (V = w2.alloc (.cells #[.string xName, .string xError] 35)) := hV
  have K2 : Hid (Below w.heap.size w V ∧ At w.heap.size (w.heap.size + 1) (Bx w.heap.size [.int .i64 0, .int .i64 0, .slice none 0 0, .slice none 0 0]) V ∧ w.heap.size < w2.heap.size ∧ V.heap[w2.heap.size]? = some (.cells #[.string xName, .string xError] 35 (0, 0))) := by
    have k2 := K0.out.2.keep hb
    have b2 := K0.out.1.trans (hb.mono K0.out.1.size)
    rw [hV]
    exact ⟨b2.alloc b2.size _, k2.al _, k2.le, heap_alloc_new w2 _⟩
  clear hb K0 CE HW hV
  have z0 := K2.out.2.1.val.1 0 _ rfl
  have z1 := K2.out.2.1.val.1 1 _ rfl
  have z2 := K2.out.2.1.val.1 2 _ rfl
  have z3 := K2.out.2.1.val.1 3 _ rfl
  have zf0 := K2.out.2.1.val.2 0
  have zf1 := K2.out.2.1.val.2 1
  have zf2 := K2.out.2.1.val.2 2
  have zf3 := K2.out.2.1.val.2 3
  rw [HV.out] at z0 z1 z2 z3 zf0 zf1 zf2 zf3
  go_wp2_with fail
  rw [← HV.out]
  rw [← HV.out] at z0 z1 z2 z3
  obtain ⟨bb, _, h3, h2⟩ := K2.out
  exact bodyPost_ret (v := .agg #[.int .i64 0, .int .i64 s, .slice (some ⟨w2.heap.size, 0, none⟩) 1 1, .slice none 0 0]) (by simp [results, Try.results5, go_sem, z0, z1, z2, z3]) rfl ⟨HG.out _ w2.heap.size _ (by omega) (by rw [Below.heap_setCell _ _ _ _ (by show w2.heap.size ≠ w.heap.size; omega), Below.heap_setCell _ _ _ _ (by show w2.heap.size ≠ w.heap.size; omega), Below.heap_setCell _ _ _ _ (by show w2.heap.size ≠ w.heap.size; omega), Below.heap_setCell _ _ _ _ (by show w2.heap.size ≠ w.heap.size; omega)]; exact h2), (((bb.setCell (Nat.le_refl _) _).setCell (Nat.le_refl _) _).setCell (Nat.le_refl _) _).setCell (Nat.le_refl _) _⟩
end Go.Proofs.Ytjdkkfbijneedaa
