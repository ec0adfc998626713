/-
  Texts of one claim, one behind the other.
-/
import Derived.BigQuiet
import Derived.Lib.QuietBelow
import Derived.Test.YtaphofdcoddopaaGreatDoorMgD
/-
  Answers that bear a store: compared, marked, held.
-/
namespace Go.Proofs.YtaphofdcoddopaaGreatDoor
open Go.ChangeShapes Go.WideShapes Go.ChangeAt Go.RowKit Go.Sort
/-- Where the lists of a store lie that is handed back. -/
structure SR where
  a1 : Option Addr
  k1 : Nat
  n1 : Nat
  a2 : Option Addr
  k2 : Nat
  n2 : Nat
def SR.t (r : SR) : Value := .slice r.a1 r.n1 r.k1
def SR.k (r : SR) : Value := .slice r.a2 r.n2 r.k2
/-- It can be read. -/
def RIn (W : World) (r : SR) (L1 L2 : List Ent) : Prop := ∃ m1 m2, m1.map Prod.fst = L1 ∧ m2.map Prod.fst = L2 ∧ r.n1 = m1.length ∧ r.n2 = m2.length ∧ EntsIn W r.a1 m1 ∧ EntsIn W r.a2 m2
/-- It is its holder's own, in blocks from base to hi. -/
def RSto (W : World) (base hi : Nat) (r : SR) (L1 L2 : List Ent) : Prop := ∃ m1 m2, m1.map Prod.fst = L1 ∧ m2.map Prod.fst = L2 ∧ StoLV W base r.t r.k m1 m2 ∧ (∀ b ∈ fp r.t m1 ++ fp r.k m2, b < hi)
def RHeld (W : World) (r : SR) (L1 L2 : List Ent) : Prop := ∃ m1 m2 base, m1.map Prod.fst = L1 ∧ m2.map Prod.fst = L2 ∧ StoHeld W base r.t r.k m1 m2
theorem RIn.keep {W W' : World} {r : SR} {L1 L2 : List Ent} (h : RIn W r L1 L2) (hb : Below W.heap.size W W') : RIn W' r L1 L2 := by
  obtain ⟨m1, m2, e1, e2, n1, n2, h1, h2⟩ := h
  exact ⟨m1, m2, e1, e2, n1, n2, h1.keep hb, h2.keep hb⟩
theorem RSto.below {W W' : World} {base hi : Nat} {r : SR} {L1 L2 : List Ent} (h : RSto W base hi r L1 L2) (hb : Below W.heap.size W W') : RSto W' base hi r L1 L2 := by
  obtain ⟨m1, m2, e1, e2, h1, h2⟩ := h
  exact ⟨m1, m2, e1, e2, h1.below hb, h2⟩
theorem RSto.above {W W' : World} {h0 base hi : Nat} {r : SR} {L1 L2 : List Ent} (h : RSto W base hi r L1 L2) (ha : Above h0 W W') (hb : h0 ≤ base) : RSto W' base hi r L1 L2 := by
  obtain ⟨m1, m2, e1, e2, h1, h2⟩ := h
  exact ⟨m1, m2, e1, e2, h1.above ha hb, h2⟩
theorem RHeld.below {W W' : World} {r : SR} {L1 L2 : List Ent} (h : RHeld W r L1 L2) (hb : Below W.heap.size W W') : RHeld W' r L1 L2 := by
  obtain ⟨m1, m2, base, e1, e2, h1⟩ := h
  exact ⟨m1, m2, base, e1, e2, h1.below hb⟩
theorem RSto.in {W : World} {base hi : Nat} {r : SR} {L1 L2 : List Ent} (h : RSto W base hi r L1 L2) : RIn W r L1 L2 := by
  obtain ⟨m1, m2, e1, e2, h1, _⟩ := h
  obtain ⟨q1, i1⟩ := slice_len h1.t
  obtain ⟨q2, i2⟩ := slice_len h1.k
  exact ⟨m1, m2, e1, e2, q1, q2, i1, i2⟩
theorem RSto.mk {W : World} {base : Nat} {r : SR} {L1 L2 : List Ent} {m1 m2 : List (Ent × EntR)} (e1 : m1.map Prod.fst = L1) (e2 : m2.map Prod.fst = L2) (h : StoLV W base r.t r.k m1 m2) : RSto W base W.heap.size r L1 L2 :=
  ⟨m1, m2, e1, e2, h, fun b hb => by
    rcases List.mem_append.1 hb with hb | hb
    · exact h.t.lt hb
    · exact h.k.lt hb⟩
/-- The entries fit what the laws take. -/
structure FitE (L : List Ent) : Prop where
  n : L.length ≤ 1048576
  f : ∀ x ∈ L, EntFit x
theorem FitE.l {L : List Ent} (h : FitE L) {m : List (Ent × EntR)} (e : m.map Prod.fst = L) : FitL m :=
  ⟨by have := h.n; rw [← e] at this; simpa using this, fun q hq => h.f q.1 (by rw [← e]; exact List.mem_map_of_mem hq)⟩
def nxtE : Nat → List Ent → Nat
  | k, [] => k
  | k, x :: l => nxtE (k + nxt x) l
theorem nxts_E (k : Nat) (l : List (Ent × EntR)) : nxts k l = nxtE k (l.map Prod.fst) := by
  induction l generalizing k with
  | nil => rfl
  | cons q l ih => simp [nxts, nxtE, ih]
def nStoE (L1 L2 : List Ent) : Nat := nxtE (nxtE 1 L1) L2
theorem nSto_E {l1 l2 : List (Ent × EntR)} {L1 L2 : List Ent} (e1 : l1.map Prod.fst = L1) (e2 : l2.map Prod.fst = L2) : nSto l1 l2 = nStoE L1 L2 := by
  unfold nSto nStoE
  rw [nxts_E, nxts_E, e1, e2]
theorem eqSto_r (w : World) (bu gu : Int) (r s : SR) (L1 L2 : List Ent) (f1 : FitE L1) (f2 : FitE L2) (h : RIn w r L1 L2) (k : RIn w s L1 L2) :
    Calls Tryz.prog 16 #[.agg #[.int .i64 bu, .int .i64 gu, .slice r.a1 r.n1 r.k1, .slice r.a2 r.n2 r.k2], .agg #[.int .i64 bu, .int .i64 gu, .slice s.a1 s.n1 s.k1, .slice s.a2 s.n2 s.k2]] w fun e w' => e = .returned (.bool true) ∧ Below w.heap.size w w' := by
  obtain ⟨m1, m2, e1, e2, n1, n2, h1, h2⟩ := h
  obtain ⟨p1, p2, e3, e4, n3, n4, h3, h4⟩ := k
  have q1 : p1.length = m1.length := by have := congrArg List.length (e3.trans e1.symm); simpa using this
  have q2 : p2.length = m2.length := by have := congrArg List.length (e4.trans e2.symm); simpa using this
  rw [n1, n2, n3, n4, q1, q2]
  exact eqStore_same w bu gu _ _ _ _ _ _ _ _ m1 p1 m2 p2 (f1.l e1).n (f2.l e2).n (f1.l e1).f (f2.l e2).f (e1.trans e3.symm) (e2.trans e4.symm) h1 h3 h2 h4
theorem markSto_r (w : World) (base hi : Nat) (bu gu : Int) (r : SR) (L1 L2 : List Ent) (f1 : FitE L1) (f2 : FitE L2) (hbs : base ≤ w.heap.size) (h : RSto w base hi r L1 L2) :
    Calls Tryz.prog 17 #[.agg #[.int .i64 bu, .int .i64 gu, .slice r.a1 r.n1 r.k1, .slice r.a2 r.n2 r.k2], .int .i64 1] w fun e w' => e = .returned (.int .i64 (nStoE L1 L2 : Int)) ∧ Below base w w' ∧ Above hi w w' ∧ RHeld w' r L1 L2 := by
  obtain ⟨m1, m2, e1, e2, h1, h2⟩ := h
  refine (markSto_o w base bu gu r.a1 r.a2 r.k1 r.k2 r.n1 r.n2 m1 m2 (f1.l e1) (f2.l e2) hbs h1).mono ?_
  rintro e w' ⟨h3, h4, h5, h6⟩
  rw [nSto_E e1 e2] at h3
  exact ⟨h3, h6, h5.above h2, ⟨m1, m2, base, e1, e2, h4⟩⟩
theorem heldSto_r (w : World) (bu gu : Int) (r : SR) (L1 L2 : List Ent) (f1 : FitE L1) (f2 : FitE L2) (h : RHeld w r L1 L2) :
    Calls Tryz.prog 57 #[.agg #[.int .i64 bu, .int .i64 gu, .slice r.a1 r.n1 r.k1, .slice r.a2 r.n2 r.k2], .int .i64 1] w fun e w' => e = .returned (.int .i64 (nStoE L1 L2 : Int)) ∧ Below w.heap.size w w' := by
  obtain ⟨m1, m2, base, e1, e2, h1⟩ := h
  have := heldSto_o w base bu gu r.a1 r.a2 r.k1 r.k2 r.n1 r.n2 m1 m2 (f1.l e1) (f2.l e2) h1
  rw [nSto_E e1 e2] at this
  exact this
theorem nStoE_le {L1 L2 : List Ent} (f1 : FitE L1) (f2 : FitE L2) : nStoE L1 L2 ≤ 10000000000000 := by
  have e1 : (L1.map fun x => ((x, ⟨none, 0, none, 0, none, 0⟩) : Ent × EntR)).map Prod.fst = L1 := by simp [Function.comp_def]
  have e2 : (L2.map fun x => ((x, ⟨none, 0, none, 0, none, 0⟩) : Ent × EntR)).map Prod.fst = L2 := by simp [Function.comp_def]
  rw [← nSto_E e1 e2]
  exact nSto_le (f1.l e1) (f2.l e2)
theorem S5.above {w w' : World} {hi b : Nat} {v0 v1 v2 v3 v4 : Value} (k : S5 w b v0 v1 v2 v3 v4) (h : Above hi w w') (hb : hi ≤ b) : S5 w' b v0 v1 v2 v3 v4 :=
  ⟨by rw [h.cell b 0 hb k.lt]; exact k.c0, by rw [h.cell b 1 hb k.lt]; exact k.c1, by rw [h.cell b 2 hb k.lt]; exact k.c2, by rw [h.cell b 3 hb k.lt]; exact k.c3, by rw [h.cell b 4 hb k.lt]; exact k.c4, fun o => by rw [h.frozen b o hb k.lt]; exact k.fr o, Nat.lt_of_lt_of_le k.lt h.size⟩
/-! ### StoreResult -/
set_option maxHeartbeats 4000000 in
theorem eqStoR_r (w : World) (c bu gu : Int) (r s : SR) (L1 L2 : List Ent) (f1 : FitE L1) (f2 : FitE L2) (h : RIn w r L1 L2) (k : RIn w s L1 L2) :
    Calls Tryz.prog 15 #[.agg #[.int .i64 c, .int .i64 bu, .int .i64 gu, .slice r.a1 r.n1 r.k1, .slice r.a2 r.n2 r.k2], .agg #[.int .i64 c, .int .i64 bu, .int .i64 gu, .slice s.a1 s.n1 s.k1, .slice s.a2 s.n2 s.k2]] w fun e w' => e = .returned (.bool true) ∧ Below w.heap.size w w' := by
  have HC : Hid (∀ X, Below w.heap.size w X → Calls Tryz.prog 16 #[.agg #[.int .i64 bu, .int .i64 gu, .slice r.a1 r.n1 r.k1, .slice r.a2 r.n2 r.k2], .agg #[.int .i64 bu, .int .i64 gu, .slice s.a1 s.n1 s.k1, .slice s.a2 s.n2 s.k2]] X fun e w' => e = .returned (.bool true) ∧ Below X.heap.size X w') := fun X hX => eqSto_r X bu gu r s L1 L2 f1 f2 (h.keep hX) (k.keep hX)
  have B0 : Hid (Below w.heap.size w ((w.alloc (.cells #[.int .i64 c, .int .i64 bu, .int .i64 gu, .slice r.a1 r.n1 r.k1, .slice r.a2 r.n2 r.k2] 30)).alloc (.cells #[.int .i64 c, .int .i64 bu, .int .i64 gu, .slice s.a1 s.n1 s.k1, .slice s.a2 s.n2 s.k2] 30))) := ((Below.refl _ _).alloc (Nat.le_refl _) _).alloc (by simp) _
  clear h k f1 f2
  go_enter Tryz.func15, Tryz.ntmps15
  go_wp2_with fail
  refine (HC.out _ B0.out).mono ?_
  rintro e w1 ⟨rfl, hb1⟩
  have B1 : Hid (Below w.heap.size w w1) := B0.out.trans (hb1.mono B0.out.size)
  clear hb1 B0 HC
  go_wp2_with fail
  go_ret
  exact ⟨rfl, B1.out⟩
set_option maxHeartbeats 4000000 in
theorem markStoR_r (w : World) (base hi : Nat) (c bu gu : Int) (r : SR) (L1 L2 : List Ent) (f1 : FitE L1) (f2 : FitE L2) (hbs : base ≤ w.heap.size) (h : RSto w base hi r L1 L2) :
    Calls Tryz.prog 18 #[.agg #[.int .i64 c, .int .i64 bu, .int .i64 gu, .slice r.a1 r.n1 r.k1, .slice r.a2 r.n2 r.k2], .int .i64 1] w fun e w' => e = .returned (.int .i64 (nStoE L1 L2 : Int)) ∧ Below base w w' ∧ Above hi w w' ∧ RHeld w' r L1 L2 := by
  have B0 : Below w.heap.size w (w.alloc (.cells #[.int .i64 c, .int .i64 bu, .int .i64 gu, .slice r.a1 r.n1 r.k1, .slice r.a2 r.n2 r.k2] 30)) := (Below.refl _ _).alloc (Nat.le_refl _) _
  have HC := markSto_r (w.alloc (.cells #[.int .i64 c, .int .i64 bu, .int .i64 gu, .slice r.a1 r.n1 r.k1, .slice r.a2 r.n2 r.k2] 30)) base hi bu gu r L1 L2 f1 f2 (by have := B0.size; omega) (h.below B0)
  have HB : Hid (Below base w (w.alloc (.cells #[.int .i64 c, .int .i64 bu, .int .i64 gu, .slice r.a1 r.n1 r.k1, .slice r.a2 r.n2 r.k2] 30)) ∧ Above hi w (w.alloc (.cells #[.int .i64 c, .int .i64 bu, .int .i64 gu, .slice r.a1 r.n1 r.k1, .slice r.a2 r.n2 r.k2] 30))) := ⟨B0.mono hbs, .below B0⟩
  clear B0 h f1 f2 hbs
  generalize (nStoE L1 L2 : Int) = q at *
  go_enter Tryz.func18, Tryz.ntmps18
  go_wp2_with fail
  refine HC.mono ?_
  rintro e w1 ⟨rfl, hb1, ha1, hh⟩
  have B1 : Hid (Below base w w1 ∧ Above hi w w1 ∧ RHeld w1 r L1 L2) := ⟨HB.out.1.trans hb1, HB.out.2.trans ha1, hh⟩
  clear hb1 ha1 hh HB HC
  go_wp2_with fail
  go_ret
  exact ⟨rfl, B1.out⟩
set_option maxHeartbeats 4000000 in
theorem heldStoR_r (w : World) (c bu gu : Int) (r : SR) (L1 L2 : List Ent) (f1 : FitE L1) (f2 : FitE L2) (h : RHeld w r L1 L2) :
    Calls Tryz.prog 19 #[.agg #[.int .i64 c, .int .i64 bu, .int .i64 gu, .slice r.a1 r.n1 r.k1, .slice r.a2 r.n2 r.k2], .int .i64 1] w fun e w' => e = .returned (.int .i64 (nStoE L1 L2 : Int)) ∧ Below w.heap.size w w' := by
  have B0 : Below w.heap.size w (w.alloc (.cells #[.int .i64 c, .int .i64 bu, .int .i64 gu, .slice r.a1 r.n1 r.k1, .slice r.a2 r.n2 r.k2] 30)) := (Below.refl _ _).alloc (Nat.le_refl _) _
  have HC := heldSto_r (w.alloc (.cells #[.int .i64 c, .int .i64 bu, .int .i64 gu, .slice r.a1 r.n1 r.k1, .slice r.a2 r.n2 r.k2] 30)) bu gu r L1 L2 f1 f2 (h.below B0)
  have HB : Hid (Below w.heap.size w (w.alloc (.cells #[.int .i64 c, .int .i64 bu, .int .i64 gu, .slice r.a1 r.n1 r.k1, .slice r.a2 r.n2 r.k2] 30))) := B0
  clear B0 h f1 f2
  have g : ¬ (nStoE L1 L2 : Int) < 0 := by omega
  generalize (nStoE L1 L2 : Int) = q at *
  go_enter Tryz.func19, Tryz.ntmps19
  go_wp2_with fail
  refine HC.mono ?_
  rintro e w1 ⟨rfl, hb1⟩
  have B1 : Hid (Below w.heap.size w w1) := HB.out.trans (hb1.mono HB.out.size)
  clear hb1 HB HC
  go_wp2_with fail
  go_ret
  exact ⟨rfl, B1.out⟩
/-- A store that is handed back, with its code. -/
structure SAns where
  c : Int
  bu : Int
  gu : Int
  t : List Ent
  k : List Ent
def StoAns (A : SAns) (base : Nat) (e : Ending) (w' : World) : Prop := ∃ r : SR, e = .returned (.agg #[.int .i64 A.c, .int .i64 A.bu, .int .i64 A.gu, .slice r.a1 r.n1 r.k1, .slice r.a2 r.n2 r.k2]) ∧ RSto w' base w'.heap.size r A.t A.k
end Go.Proofs.YtaphofdcoddopaaGreatDoor
/-
  Entries of a store that are turned where they stand.
-/
namespace Go.Proofs.YtaphofdcoddopaaGreatDoor
open Go.ChangeShapes Go.WideShapes Go.ChangeAt Go.RowKit Go.Sort
def turnE (p : Ent → Bool) (f : Ent → Ent) (L : List Ent) : List Ent := L.map fun x => if p x then f x else x
def turnM (p : Ent → Bool) (f : Ent → Ent) (m : List (Ent × EntR)) : List (Ent × EntR) := m.map fun q => (if p q.1 then f q.1 else q.1, q.2)
theorem turnM_fst (p : Ent → Bool) (f : Ent → Ent) (m : List (Ent × EntR)) : (turnM p f m).map Prod.fst = turnE p f (m.map Prod.fst) := by simp [turnM, turnE, Function.comp_def]
theorem turnM_len (p : Ent → Bool) (f : Ent → Ent) (m : List (Ent × EntR)) : (turnM p f m).length = m.length := by simp [turnM]
theorem turnM_none {p : Ent → Bool} {f : Ent → Ent} {m : List (Ent × EntR)} (h : ∀ q ∈ m, p q.1 = false) : turnM p f m = m := by
  unfold turnM
  conv => rhs; rw [← List.map_id m]
  exact List.map_congr_left fun q hq => by simp [h q hq]
theorem turnM_mid {p : Ent → Bool} {f : Ent → Ent} {A B : List (Ent × EntR)} {x : Ent} {r : EntR} (hx : p x = true) (hA : ∀ q ∈ A, p q.1 = false) (hB : ∀ q ∈ B, p q.1 = false) : turnM p f (A ++ (x, r) :: B) = A ++ (f x, r) :: B := by
  have a := turnM_none (f := f) hA
  have b := turnM_none (f := f) hB
  unfold turnM at *
  rw [List.map_append, List.map_cons, a, b]
  simp [hx]
theorem foot_turnM (p : Ent → Bool) (f : Ent → Ent) (m : List (Ent × EntR)) : foot (turnM p f m) = foot m := by
  unfold foot turnM
  rw [List.flatMap_map]
/-- No two have one key. -/
def NdK (L : List Ent) : Prop := (keysE L).Nodup
theorem NdK.app {L M : List Ent} (h : NdK (L ++ M)) : NdK L ∧ NdK M ∧ ∀ x ∈ L, ∀ y ∈ M, x.key.toList ≠ y.key.toList := by
  unfold NdK keysE at *
  rw [List.map_append] at h
  have := List.nodup_append.1 h
  exact ⟨this.1, this.2.1, fun x hx y hy => this.2.2 _ (List.mem_map_of_mem hx) _ (List.mem_map_of_mem hy)⟩
theorem isKey_eq {key : ByteArray} {x y : Ent} (hx : isKey key x = true) (hy : isKey key y = true) : x.key.toList = y.key.toList := by
  unfold isKey at hx hy
  rw [beq_iff_eq] at hx hy
  rw [hx, hy]
theorem NdK.mid {key : ByteArray} {A B : List (Ent × EntR)} {x : Ent} {r : EntR} (h : NdK ((A ++ (x, r) :: B).map Prod.fst)) (hx : isKey key x = true) : (∀ q ∈ A, isKey key q.1 = false) ∧ ∀ q ∈ B, isKey key q.1 = false := by
  rw [List.map_append, List.map_cons] at h
  obtain ⟨_, h2, h3⟩ := NdK.app h
  have h2' : NdK ([x] ++ B.map Prod.fst) := h2
  obtain ⟨_, _, h4⟩ := NdK.app h2'
  refine ⟨fun q hq => ?_, fun q hq => ?_⟩
  · by_cases c : isKey key q.1 = true
    · exact absurd (isKey_eq c hx) (h3 q.1 (List.mem_map_of_mem hq) x (by simp))
    · simpa using c
  · by_cases c : isKey key q.1 = true
    · exact absurd (isKey_eq hx c) (h4 x (by simp) q.1 (List.mem_map_of_mem hq))
    · simpa using c
theorem mid_split {α : Type} {l : List α} {i : Nat} {q : α} (h : l[i]? = some q) : ∃ A B, l = A ++ q :: B ∧ A.length = i := by
  obtain ⟨hi, e⟩ := List.getElem?_eq_some_iff.1 h
  exact ⟨l.take i, l.drop (i + 1), by rw [← e, ← List.drop_eq_getElem_cons hi, List.take_append_drop], by rw [List.length_take]; omega⟩
theorem fp_mid (v : Value) (A B : List (Ent × EntR)) (x x' : Ent) (r : EntR) : fp v (A ++ (x', r) :: B) = fp v (A ++ (x, r) :: B) := by unfold fp; rw [foot_mid, foot_mid]
section
variable {w : World} {base g n cap : Nat} {A B l2 : List (Ent × EntR)} {x : Ent} {r : EntR} {v2 : Value}
theorem StoLV.setT (h : StoLV w base (.slice (some ⟨g, 0, none⟩) n cap) v2 (A ++ (x, r) :: B) l2) {i : Nat} (hi : A.length = i) (j : Nat) (hj : j < 13) (u : Value) (x' : Ent) (e : entW x' r = (entW x r).set j u) (eh : x'.hs = x.hs) (eb : x'.bl = x.bl) (et : x'.ts = x.ts) : StoLV (w.setCell ⟨g, i * 13 + j, none⟩ u) base (.slice (some ⟨g, 0, none⟩) n cap) v2 (A ++ (x', r) :: B) l2 :=
  ⟨h.t.set hi j hj u x' e eh eb et, h.k.out (Out.set w g _ u) (fun b hb e => by simp at e; subst e; exact h.nd b (by simp [fp, Value.ownBlock]) hb), by rw [fp_mid _ A B x x' r]; exact h.nd⟩
theorem StoLV.setK (h : StoLV w base v2 (.slice (some ⟨g, 0, none⟩) n cap) l2 (A ++ (x, r) :: B)) {i : Nat} (hi : A.length = i) (j : Nat) (hj : j < 13) (u : Value) (x' : Ent) (e : entW x' r = (entW x r).set j u) (eh : x'.hs = x.hs) (eb : x'.bl = x.bl) (et : x'.ts = x.ts) : StoLV (w.setCell ⟨g, i * 13 + j, none⟩ u) base v2 (.slice (some ⟨g, 0, none⟩) n cap) l2 (A ++ (x', r) :: B) :=
  ⟨h.t.out (Out.set w g _ u) (fun b hb e => by simp at e; subst e; exact h.nd b hb (by simp [fp, Value.ownBlock])), h.k.set hi j hj u x' e eh eb et, fun b hb => by rw [fp_mid _ A B x x' r]; exact h.nd b hb⟩
end
theorem entC_pins {x : Ent} (h : entC x = 0) : 0 ≤ x.pins ∧ x.pins ≤ 20 := by
  have := (entryC_zero h).2.2.1
  unfold pinB at this
  simpa using this
def pinBy (by' : Int) (x : Ent) : Ent := { x with pins := x.pins + by' }
set_option maxRecDepth 100000 in
set_option maxHeartbeats 16000000 in
theorem l8Pin_at (w : World) (B base : Nat) (bu gu by' : Int) (a1 a2 : Option Addr) (n1 k1 n2 k2 : Nat) (m1 m2 : List (Ent × EntR)) (key : ByteArray) (hs : S4 w B (.int .i64 bu) (.int .i64 gu) (.slice a1 n1 k1) (.slice a2 n2 k2)) (h : StoLV w base (.slice a1 n1 k1) (.slice a2 n2 k2) m1 m2) (hB1 : B ∉ fp (.slice a1 n1 k1) m1) (hB2 : B ∉ fp (.slice a2 n2 k2) m2) (hbB : base ≤ B) (z1 : m1.length ≤ 40) (z2 : m2.length ≤ 40) (hnd : NdK ((m1 ++ m2).map Prod.fst)) (hp : ∀ q ∈ m1 ++ m2, isKey key q.1 = true → 0 ≤ q.1.pins + by' ∧ q.1.pins + by' ≤ 20) :
    Calls Tryz.prog 60 #[.pointer (some ⟨B, 0, none⟩), .string key, .int .i64 by'] w fun e w' => e = .returned (.tuple #[]) ∧ S4 w' B (.int .i64 bu) (.int .i64 gu) (.slice a1 n1 k1) (.slice a2 n2 k2) ∧ StoLV w' base (.slice a1 n1 k1) (.slice a2 n2 k2) (turnM (isKey key) (pinBy by') m1) (turnM (isKey key) (pinBy by') m2) ∧ Below base w w' := by
  have hnd' := hnd
  rw [List.map_append] at hnd'
  obtain ⟨d1, d2, _⟩ := NdK.app hnd'
  -- the first list
  have C1 : Hid (Calls Tryz.prog 104 #[.slice a1 n1 k1, .string key] w fun e w' => ((∃ (i G : Nat) (pn : Int), e = .returned (.int .i64 (i : Int)) ∧ i < n1 ∧ i ≤ 40 ∧ a1 = some ⟨G, 0, none⟩ ∧ w'.cell? ⟨B, 2, none⟩ = some (.slice a1 n1 k1) ∧ w'.cell? ⟨G, i * 13 + 12, none⟩ = some (.int .i64 pn) ∧ w'.frozen? ⟨G, i * 13 + 12, none⟩ = false ∧ 0 ≤ pn + by' ∧ pn + by' ≤ 20 ∧ S4 (w'.setCell ⟨G, i * 13 + 12, none⟩ (.int .i64 (pn + by'))) B (.int .i64 bu) (.int .i64 gu) (.slice a1 n1 k1) (.slice a2 n2 k2) ∧ StoLV (w'.setCell ⟨G, i * 13 + 12, none⟩ (.int .i64 (pn + by'))) base (.slice a1 n1 k1) (.slice a2 n2 k2) (turnM (isKey key) (pinBy by') m1) m2 ∧ Below base w (w'.setCell ⟨G, i * 13 + 12, none⟩ (.int .i64 (pn + by')))) ∨ (e = .returned (.int .i64 (-1)) ∧ S4 w' B (.int .i64 bu) (.int .i64 gu) (.slice a1 n1 k1) (.slice a2 n2 k2) ∧ StoLV w' base (.slice a1 n1 k1) (.slice a2 n2 k2) (turnM (isKey key) (pinBy by') m1) m2 ∧ Below base w w'))) := by
    obtain ⟨rfl, i1⟩ := slice_len h.t
    refine (l8Find_any w a1 k1 m1 key (by omega) i1).mono ?_
    rintro e w' ⟨hc, hb⟩
    have hb0 : base ≤ w.heap.size := by have := hs.lt; omega
    have hh := h.below hb
    have ss := hs.keep hb
    rcases hc with ⟨i, q, hq, hk, _, rfl⟩ | ⟨hn, rfl⟩
    · obtain ⟨A, C, em, hA⟩ := mid_split hq
      obtain ⟨x, r⟩ := q
      have hpn := hp (x, r) (List.mem_append_left _ (List.mem_of_getElem? hq)) hk
      have hlt := (List.getElem?_eq_some_iff.1 hq).1
      rcases hh.t.form with ⟨_, e0⟩ | ⟨G, c, e0, _⟩
      · rw [e0] at hq; simp at hq
      · have ea : a1 = some ⟨G, 0, none⟩ := by simp only [Value.slice.injEq] at e0; exact e0.1
        subst ea
        have hmid := NdK.mid (key := key) (by rw [← em]; exact d1) hk
        have cells := hh.t.at.2.2.2.2.1 i (x, r) hq 12 (by omega)
        have hBG : B ≠ G := fun e => hB1 (by subst e; simp [fp, Value.ownBlock])
        refine .inl ⟨i, G, x.pins, rfl, hlt, by omega, rfl, ss.c2, cells, hh.t.at.2.2.2.2.2 _, hpn.1, hpn.2, ss.off (fun e => hBG e.symm), ?_, (hb.mono hb0).setCell hh.t.at.2.2.1 _⟩
        have e2 : turnM (isKey key) (pinBy by') m1 = A ++ (pinBy by' x, r) :: C := by rw [em]; exact turnM_mid hk hmid.1 hmid.2
        rw [e2]
        have hh2 := hh
        rw [em] at hh2
        have := hh2.setT hA 12 (by omega) (.int .i64 (x.pins + by')) (pinBy by' x) rfl rfl rfl rfl
        rw [← em] at this
        exact this
    · refine .inr ⟨rfl, ss, ?_, hb.mono hb0⟩
      rw [turnM_none (fun q hq => by have := List.find?_eq_none.1 hn q.1 (List.mem_map_of_mem hq); simpa using this)]
      exact hh
  have C2 : Hid (∀ X M1, M1.length = m1.length → S4 X B (.int .i64 bu) (.int .i64 gu) (.slice a1 n1 k1) (.slice a2 n2 k2) → StoLV X base (.slice a1 n1 k1) (.slice a2 n2 k2) M1 m2 → Below base w X → Calls Tryz.prog 104 #[.slice a2 n2 k2, .string key] X fun e w' => ((∃ (i G : Nat) (pn : Int), e = .returned (.int .i64 (i : Int)) ∧ i < n2 ∧ i ≤ 40 ∧ a2 = some ⟨G, 0, none⟩ ∧ w'.cell? ⟨B, 3, none⟩ = some (.slice a2 n2 k2) ∧ w'.cell? ⟨G, i * 13 + 12, none⟩ = some (.int .i64 pn) ∧ w'.frozen? ⟨G, i * 13 + 12, none⟩ = false ∧ 0 ≤ pn + by' ∧ pn + by' ≤ 20 ∧ (S4 (w'.setCell ⟨G, i * 13 + 12, none⟩ (.int .i64 (pn + by'))) B (.int .i64 bu) (.int .i64 gu) (.slice a1 n1 k1) (.slice a2 n2 k2) ∧ StoLV (w'.setCell ⟨G, i * 13 + 12, none⟩ (.int .i64 (pn + by'))) base (.slice a1 n1 k1) (.slice a2 n2 k2) M1 (turnM (isKey key) (pinBy by') m2) ∧ Below base w (w'.setCell ⟨G, i * 13 + 12, none⟩ (.int .i64 (pn + by'))))) ∨ (e = .returned (.int .i64 (-1)) ∧ S4 w' B (.int .i64 bu) (.int .i64 gu) (.slice a1 n1 k1) (.slice a2 n2 k2) ∧ StoLV w' base (.slice a1 n1 k1) (.slice a2 n2 k2) M1 (turnM (isKey key) (pinBy by') m2) ∧ Below base w w'))) := fun X M1 _ hs h hbX => by
    obtain ⟨rfl, i1⟩ := slice_len h.k
    refine (l8Find_any X a2 k2 m2 key (by omega) i1).mono ?_
    rintro e w' ⟨hc, hb⟩
    have hb0 : base ≤ X.heap.size := by have := hs.lt; omega
    have hh := h.below hb
    have ss := hs.keep hb
    rcases hc with ⟨i, q, hq, hk, _, rfl⟩ | ⟨hn, rfl⟩
    · obtain ⟨A, C, em, hA⟩ := mid_split hq
      obtain ⟨x, r⟩ := q
      have hpn := hp (x, r) (List.mem_append_right _ (List.mem_of_getElem? hq)) hk
      have hlt := (List.getElem?_eq_some_iff.1 hq).1
      rcases hh.k.form with ⟨_, e0⟩ | ⟨G, c, e0, _⟩
      · rw [e0] at hq; simp at hq
      · have ea : a2 = some ⟨G, 0, none⟩ := by simp only [Value.slice.injEq] at e0; exact e0.1
        subst ea
        have hmid := NdK.mid (key := key) (by rw [← em]; exact d2) hk
        have cells := hh.k.at.2.2.2.2.1 i (x, r) hq 12 (by omega)
        have hBG : B ≠ G := fun e => hB2 (by subst e; simp [fp, Value.ownBlock])
        refine .inl ⟨i, G, x.pins, rfl, hlt, by omega, rfl, ss.c3, cells, hh.k.at.2.2.2.2.2 _, hpn.1, hpn.2, ss.off (fun e => hBG e.symm), ?_, (hbX.trans (hb.mono hb0)).setCell hh.k.at.2.2.1 _⟩
        have e2 : turnM (isKey key) (pinBy by') m2 = A ++ (pinBy by' x, r) :: C := by rw [em]; exact turnM_mid hk hmid.1 hmid.2
        rw [e2]
        have hh2 := hh
        rw [em] at hh2
        have := hh2.setK hA 12 (by omega) (.int .i64 (x.pins + by')) (pinBy by' x) rfl rfl rfl rfl
        rw [← em] at this
        exact this
    · refine .inr ⟨rfl, ss, ?_, hbX.trans (hb.mono hb0)⟩
      rw [turnM_none (fun q hq => by have := List.find?_eq_none.1 hn q.1 (List.mem_map_of_mem hq); simpa using this)]
      exact hh
  have e2 := hs.c2
  have HLN : Hid ((turnM (isKey key) (pinBy by') m1).length = m1.length) := turnM_len _ _ _
  clear hs h hB1 hB2 hnd hnd' d1 d2 hp z1 z2 hbB
  generalize turnM (isKey key) (pinBy by') m1 = M1 at *
  generalize turnM (isKey key) (pinBy by') m2 = M2 at *
  go_enter Tryz.func60, Tryz.ntmps60
  go_wp2_with fail
  refine C1.out.mono ?_
  rintro e w1 (⟨i, G, pn, rfl, hi, hi4, rfl, y2, yG, yf, p0, p1, hnx⟩ | ⟨rfl, hnx⟩)
  · have HX : Hid (S4 (w1.setCell ⟨G, i * 13 + 12, none⟩ (.int .i64 (pn + by'))).drew B (.int .i64 bu) (.int .i64 gu) (.slice (some ⟨G, 0, none⟩) n1 k1) (.slice a2 n2 k2) ∧ StoLV (w1.setCell ⟨G, i * 13 + 12, none⟩ (.int .i64 (pn + by'))).drew base (.slice (some ⟨G, 0, none⟩) n1 k1) (.slice a2 n2 k2) M1 m2 ∧ Below base w (w1.setCell ⟨G, i * 13 + 12, none⟩ (.int .i64 (pn + by'))).drew) := ⟨hnx.1.keep ((Below.refl _ _).drew), hnx.2.1.below ((Below.refl _ _).drew), hnx.2.2.drew⟩
    have gi : (i : Int) < n1 := by omega
    have gi0 : (0 : Int) ≤ i := by omega
    have ew : IntKind.i64.wrap (pn + by') = pn + by' := by unfold IntKind.wrap; simp [IntKind.signed, IntKind.bits]; omega
    have CC := C2.out _ M1 HLN.out HX.out.1 HX.out.2.1 HX.out.2.2
    have z3 := HX.out.1.c3
    clear C1 C2 hnx HX e2
    go_wp2_with fail
    go_region
    clear y2 yG yf p0 p1 ew gi gi0 hi hi4
    go_wp2_with fail
    refine CC.mono ?_
    clear z3 CC
    rintro e w2 (⟨i, G, pn, rfl, hi, hi4, rfl, y2, yG, yf, p0, p1, hnx⟩ | ⟨rfl, hnx⟩)
    · have HX : Hid _ := hnx
      have gi : (i : Int) < n2 := by omega
      have gi0 : (0 : Int) ≤ i := by omega
      have ew : IntKind.i64.wrap (pn + by') = pn + by' := by unfold IntKind.wrap; simp [IntKind.signed, IntKind.bits]; omega
      clear hnx
      go_wp2_with fail
      go_region
      clear y2 yG yf p0 p1 ew gi gi0 hi hi4
      go_wp2_with fail
      exact bodyPost_end (v := .tuple #[]) (by simp [results, Tryz.results60, go_sem]) rfl ⟨rfl, HX.out.1.keep ((Below.refl _ _).drew), HX.out.2.1.below ((Below.refl _ _).drew), HX.out.2.2.drew⟩
    · have HX : Hid _ := hnx
      clear hnx
      go_wp2_with fail
      exact bodyPost_end (v := .tuple #[]) (by simp [results, Tryz.results60, go_sem]) rfl ⟨rfl, HX.out⟩
  · have CC := C2.out _ M1 HLN.out hnx.1 hnx.2.1 hnx.2.2
    have z3 := hnx.1.c3
    clear C1 C2 hnx e2
    go_wp2_with fail
    refine CC.mono ?_
    clear z3 CC
    rintro e w2 (⟨i, G, pn, rfl, hi, hi4, rfl, y2, yG, yf, p0, p1, hnx⟩ | ⟨rfl, hnx⟩)
    · have HX : Hid _ := hnx
      have gi : (i : Int) < n2 := by omega
      have gi0 : (0 : Int) ≤ i := by omega
      have ew : IntKind.i64.wrap (pn + by') = pn + by' := by unfold IntKind.wrap; simp [IntKind.signed, IntKind.bits]; omega
      clear hnx
      go_wp2_with fail
      go_region
      clear y2 yG yf p0 p1 ew gi gi0 hi hi4
      go_wp2_with fail
      exact bodyPost_end (v := .tuple #[]) (by simp [results, Tryz.results60, go_sem]) rfl ⟨rfl, HX.out.1.keep ((Below.refl _ _).drew), HX.out.2.1.below ((Below.refl _ _).drew), HX.out.2.2.drew⟩
    · have HX : Hid _ := hnx
      clear hnx
      go_wp2_with fail
      exact bodyPost_end (v := .tuple #[]) (by simp [results, Tryz.results60, go_sem]) rfl ⟨rfl, HX.out⟩
end Go.Proofs.YtaphofdcoddopaaGreatDoor
/-
  PinEntry, by the model.
-/
namespace Go.Proofs.YtaphofdcoddopaaGreatDoor
open Go.ChangeShapes Go.WideShapes Go.ChangeAt Go.RowKit Go.Sort
theorem StoLV.off1 {w : World} {base : Nat} {v1 v2 : Value} {l1 l2 : List (Ent × EntR)} (h : StoLV w base v1 v2 l1 l2) {b i : Nat} (u : Value) (hb : b < base) : StoLV (w.setCell ⟨b, i, none⟩ u) base v1 v2 l1 l2 :=
  h.out (Out.set w b i u) (fun c hc e => by simp at hc; subst hc; have := h.t.ge e; omega) (fun c hc e => by simp at hc; subst hc; have := h.k.ge e; omega)
theorem StoLV.none (w : World) (base : Nat) : StoLV w base (.slice none 0 0) (.slice none 0 0) [] [] := (StoO.none w base).lv
theorem StoAns.mk {A : SAns} {base b : Nat} {a1 a2 : Option Addr} {n1 k1 n2 k2 : Nat} {w' : World} {m1 m2 : List (Ent × EntR)} (h : StoLV w' b (.slice a1 n1 k1) (.slice a2 n2 k2) m1 m2) (hb : base ≤ b) (e1 : m1.map Prod.fst = A.t) (e2 : m2.map Prod.fst = A.k) : StoAns A base (.returned (.agg #[.int .i64 A.c, .int .i64 A.bu, .int .i64 A.gu, .slice a1 n1 k1, .slice a2 n2 k2])) w' :=
  ⟨⟨a1, k1, n1, a2, k2, n2⟩, rfl, RSto.mk (r := ⟨a1, k1, n1, a2, k2, n2⟩) e1 e2 (h.lower hb)⟩
def badA (c : Int) : SAns := ⟨c, 0, 0, [], []⟩
theorem StoAns.bad (c : Int) (base : Nat) (w' : World) : StoAns (badA c) base (.returned (.agg #[.int .i64 c, .int .i64 0, .int .i64 0, .slice none 0 0, .slice none 0 0])) w' := StoAns.mk (A := badA c) (StoLV.none w' base) (Nat.le_refl _) rfl rfl
theorem StoAns.got {c bu gu : Int} {t k : List Ent} {base b : Nat} {a1 a2 : Option Addr} {n1 k1 n2 k2 : Nat} {w' : World} {m1 m2 : List (Ent × EntR)} (h : StoLV w' b (.slice a1 n1 k1) (.slice a2 n2 k2) m1 m2) (hb : base ≤ b) (e1 : m1.map Prod.fst = t) (e2 : m2.map Prod.fst = k) : StoAns ⟨c, bu, gu, t, k⟩ base (.returned (.agg #[.int .i64 c, .int .i64 bu, .int .i64 gu, .slice a1 n1 k1, .slice a2 n2 k2])) w' := StoAns.mk (A := ⟨c, bu, gu, t, k⟩) h hb e1 e2
theorem StoAns.of {A B : SAns} {base : Nat} {e : Ending} {w' : World} (h : StoAns B base e w') (he : A = B) : StoAns A base e w' := he ▸ h
open Classical in
noncomputable def pinA (bu gu : Int) (tl kl : List Ent) (key : ByteArray) (by' : Int) : SAns :=
  if (peekR bu gu tl kl key).1 ≠ 0 then badA (peekR bu gu tl kl key).1 else
  if ¬ (0 ≤ (peekR bu gu tl kl key).2.pins + by' ∧ (peekR bu gu tl kl key).2.pins + by' ≤ 20) then badA 3 else
  ⟨0, bu, gu, turnE (isKey key) (pinBy by') tl, turnE (isKey key) (pinBy by') kl⟩
theorem peekR_zero {bu gu : Int} {tl kl : List Ent} {key : ByteArray} (h : (peekR bu gu tl kl key).1 = 0) : storeC bu gu tl kl = 0 ∧ (tl ++ kl).find? (isKey key) = some (peekR bu gu tl kl key).2 := by
  by_cases hs : storeC bu gu tl kl = 0
  · refine ⟨hs, ?_⟩
    cases hf : (tl ++ kl).find? (isKey key) with
    | none => rw [peekR_none hs hf] at h; exact absurd h (by decide)
    | some x => rw [peekR_some hs hf]
  · rw [peekR_bad hs] at h; exact absurd h hs
theorem storeC_nd {bu gu : Int} {tl kl : List Ent} (h : storeC bu gu tl kl = 0) : NdK (tl ++ kl) := by
  have := (storeC_zero h).2.2.2.1
  unfold dupE at this
  simpa [NdK] using this
theorem storeC_ent {bu gu : Int} {tl kl : List Ent} (h : storeC bu gu tl kl = 0) : ∀ x ∈ tl ++ kl, entC x = 0 := faultE_zero (storeC_zero h).2.2.1
theorem key_one {key : ByteArray} {L : List Ent} {x y : Ent} (hn : NdK L) (hx : L.find? (isKey key) = some x) (hy : y ∈ L) (hk : isKey key y = true) : y = x := by
  have hx1 := List.mem_of_find?_eq_some hx
  have hx2 := List.find?_some hx
  have e := isKey_eq hx2 hk
  unfold NdK keysE at hn
  obtain ⟨i, hi, rfl⟩ := List.mem_iff_getElem.1 hx1
  obtain ⟨j, hj, rfl⟩ := List.mem_iff_getElem.1 hy
  have := (List.getElem_inj (xs := L.map fun x => x.key.toList) (h₀ := by simpa using hi) (h₁ := by simpa using hj) hn).1 (by simpa using e)
  subst this
  rfl
set_option maxHeartbeats 1000000 in
theorem l1In_any (x a b : Int) (w : World) : Calls Tryz.prog 59 #[.int .i64 x, .int .i64 a, .int .i64 b] w fun e w' => e = .returned (.bool (decide (a ≤ x) && decide (x ≤ b))) ∧ w' = w := by
  by_cases h1 : a ≤ x
  · by_cases h2 : x ≤ b
    · go_enter Tryz.func59, Tryz.ntmps59
      go_wp2_with fail
      go_ret
      exact ⟨by simp; omega, rfl⟩
    · go_enter Tryz.func59, Tryz.ntmps59
      go_wp2_with fail
      go_ret
      exact ⟨by simp [h2], rfl⟩
  · go_enter Tryz.func59, Tryz.ntmps59
    go_wp2_with fail
    go_ret
    exact ⟨by simp; omega, rfl⟩
set_option maxRecDepth 100000 in
set_option maxHeartbeats 16000000 in
theorem specPin_any (w : World) (bu gu by' : Int) (ta ka : Option Addr) (tc kc : Nat) (tl kl : List (Ent × EntR)) (key : ByteArray) (hl : tl.length ≤ 1048576) (hk : kl.length ≤ 1048576) (hto : ∀ q ∈ tl ++ kl, EntOk q.1) (hft : ∀ q ∈ tl ++ kl, EntFit q.1) (ht : EntsIn w ta tl) (hq : EntsIn w ka kl) :
    Calls Tryz.prog 20 #[.agg #[.int .i64 bu, .int .i64 gu, .slice ta tl.length tc, .slice ka kl.length kc], .string key, .int .i64 by'] w fun e w' => StoAns (pinA bu gu (tl.map Prod.fst) (kl.map Prod.fst) key by') w.heap.size e w' ∧ Below w.heap.size w w' := by
  obtain ⟨W, hW⟩ : ∃ W, W = (w.alloc (.cells #[.int .i64 bu, .int .i64 gu, .slice ta tl.length tc, .slice ka kl.length kc] 28)).alloc (.cells #[.int .i64 0, .int .i64 0, .int .i64 0, .slice none 0 0, .slice none 0 0] 30) := ⟨_, rfl⟩
  have HW : Hid (W = (w.alloc (.cells #[.int .i64 bu, .int .i64 gu, .slice ta tl.length tc, .slice ka kl.length kc] 28)).alloc (.cells #[.int .i64 0, .int .i64 0, .int .i64 0, .slice none 0 0, .slice none 0 0] 30)) := hW
  have K0 : Hid (Below w.heap.size w W ∧ S4 W w.heap.size (.int .i64 bu) (.int .i64 gu) (.slice ta tl.length tc) (.slice ka kl.length kc) ∧ S5 W (w.heap.size + 1) (.int .i64 0) (.int .i64 0) (.int .i64 0) (.slice none 0 0) (.slice none 0 0) ∧ w.heap.size + 2 ≤ W.heap.size) := by
    rw [hW]
    refine ⟨((Below.refl _ _).alloc (Nat.le_refl _) _).alloc (by simp) _, (S4.new w _ _ _ _ _).keep ((Below.refl _ _).alloc (Nat.le_refl _) _), ?_, by simp⟩
    have := S5.new (w.alloc (.cells #[.int .i64 bu, .int .i64 gu, .slice ta tl.length tc, .slice ka kl.length kc] 28)) (.int .i64 0) (.int .i64 0) (.int .i64 0) (.slice none 0 0) (.slice none 0 0) 30
    simpa using this
  have CA : Hid (Calls Tryz.prog 48 #[.pointer (some ⟨w.heap.size, 0, none⟩), .string key] W fun e w' => AskOk (peekR bu gu (tl.map Prod.fst) (kl.map Prod.fst) key).1 bu gu (tl.map Prod.fst) (kl.map Prod.fst) W.heap.size e w' ∧ Below W.heap.size W w') := l8Ask_at W w.heap.size bu gu ta ka tc kc tl kl key K0.out.2.1 hl hk hto hft (ht.keep K0.out.1) (hq.keep K0.out.1)
  have HFT : Hid (∀ q ∈ tl ++ kl, EntFit q.1) := hft
  obtain ⟨A, hA⟩ : ∃ A, pinA bu gu (tl.map Prod.fst) (kl.map Prod.fst) key by' = A := ⟨_, rfl⟩
  rw [hA]
  unfold pinA at hA
  have HA : Hid (_ = A) := hA
  clear hW hl hk hto hft ht hq hA
  obtain ⟨P, hP⟩ : ∃ P, peekR bu gu (tl.map Prod.fst) (kl.map Prod.fst) key = P := ⟨_, rfl⟩
  have HP : Hid (peekR bu gu (tl.map Prod.fst) (kl.map Prod.fst) key = P) := hP
  rw [hP] at CA HA
  clear hP
  obtain ⟨c, x⟩ := P
  simp only at CA HA
  go_enter Tryz.func20, Tryz.ntmps20
  go_wp2_with fail
  rw [← HW.out]
  refine CA.out.mono ?_
  rintro r0 w1 ⟨hask, hb1⟩
  clear CA HW
  rcases hask with ⟨hc, rfl⟩ | ⟨rfl, a1, k1, n1, a2, k2, n2, m1, m2, rfl, q1, q2, o⟩
  · have aV : Below w1.heap.size w1 (w1.alloc (.cells #[.int .i64 0, .int .i64 0, .slice none 0 0, .slice none 0 0] 28)) := (Below.refl _ _).alloc (Nat.le_refl _) _
    have s5 := (K0.out.2.2.1.keep hb1).keep aV
    have b1 := K0.out.1.trans (hb1.mono K0.out.1.size)
    have HB : Hid (Below w.heap.size w (w1.alloc (.cells #[.int .i64 0, .int .i64 0, .slice none 0 0, .slice none 0 0] 28))) := b1.trans (aV.mono b1.size)
    have HAe : Hid (A = badA c) := by have := HA.out; rw [if_pos hc] at this; exact this.symm
    have z0 := s5.c0
    have z1 := s5.c1
    have z2 := s5.c2
    have z3 := s5.c3
    have z4 := s5.c4
    have zf0 := s5.fr 0
    have zf1 := s5.fr 1
    have zf2 := s5.fr 2
    have zf3 := s5.fr 3
    have zf4 := s5.fr 4
    clear s5 aV hb1 b1 K0 HA HP HFT
    go_wp2_with fail
    refine bodyPost_ret (v := .agg #[.int .i64 c, .int .i64 0, .int .i64 0, .slice none 0 0, .slice none 0 0]) (by simp [results, Tryz.results20, go_sem, z0, z1, z2, z3, z4]) rfl ?_
    exact ⟨(StoAns.bad _ _ _).of HAe.out, ((((HB.out.setCell (by simp) _).setCell (by simp) _).setCell (by simp) _).setCell (by simp) _).setCell (by simp) _⟩
  · obtain ⟨V1, hV1⟩ : ∃ V, V = w1.alloc (.cells #[.int .i64 bu, .int .i64 gu, .slice a1 n1 k1, .slice a2 n2 k2] 28) := ⟨_, rfl⟩
    have HV1 : Hid (V1 = w1.alloc (.cells #[.int .i64 bu, .int .i64 gu, .slice a1 n1 k1, .slice a2 n2 k2] 28)) := hV1
    have aV : Below w1.heap.size w1 V1 := by rw [hV1]; exact (Below.refl _ _).alloc (Nat.le_refl _) _
    have sV : S4 V1 w1.heap.size (.int .i64 bu) (.int .i64 gu) (.slice a1 n1 k1) (.slice a2 n2 k2) := by rw [hV1]; exact S4.new w1 _ _ _ _ _
    have b1 := K0.out.1.trans (hb1.mono K0.out.1.size)
    obtain ⟨hst, hfi⟩ := peekR_zero (bu := bu) (gu := gu) (tl := tl.map Prod.fst) (kl := kl.map Prod.fst) (key := key) (by rw [HP.out])
    rw [HP.out] at hfi
    simp only at hfi
    have hln := (storeC_zero hst).2.1
    have ln1 : m1.length = (tl.map Prod.fst).length := by have := congrArg List.length q1; rw [List.length_map] at this; exact this
    have ln2 : m2.length = (kl.map Prod.fst).length := by have := congrArg List.length q2; rw [List.length_map] at this; exact this
    have oV := (o.below aV).lv
    obtain ⟨hn1, in1⟩ := slice_len oV.t
    obtain ⟨hn2, in2⟩ := slice_len oV.k
    have hft2 : ∀ q ∈ m1 ++ m2, q.1.hs.length ≤ 1048576 ∧ q.1.bl.length ≤ 1048576 ∧ q.1.ts.length ≤ 1048576 := fun q hq => by
      have : q.1 ∈ (tl ++ kl).map Prod.fst := by rw [List.map_append, ← q1, ← q2, ← List.map_append]; exact List.mem_map_of_mem hq
      obtain ⟨p, hp, e⟩ := List.mem_map.1 this
      have f := HFT.out p hp
      rw [← e]
      exact ⟨f.h, f.b, f.t⟩
    have CP : Hid (Calls Tryz.prog 58 #[.pointer (some ⟨w1.heap.size, 0, none⟩), .string key] V1 fun e w' => (∃ r : EntR, e = .returned (.tuple #[.agg #[.string x.key, .int .i64 x.st, .slice r.ha x.hs.length r.hc, .slice r.ba x.bl.length r.bc, .int .i64 x.t, .int .i64 x.g, .int .i64 x.l, .int .i64 x.s, .int .i64 x.e, .bool x.b1, .bool x.b2, .slice r.ta x.ts.length r.tc, .int .i64 x.pins], .bool true])) ∧ Below V1.heap.size V1 w') := by
      have c2 := sV.c2
      have c3 := sV.c3
      rw [hn1] at c2
      rw [hn2] at c3
      refine (l8Peek_at V1 w1.heap.size key a1 a2 k1 k2 m1 m2 c2 c3 (by omega) hft2 in1 in2).mono ?_
      rintro e w' ⟨hh, hb⟩
      rw [q1, q2, hfi] at hh
      rcases hh with ⟨y, r, ey, er, _⟩ | ⟨ey, _⟩
      · obtain rfl := Option.some.inj ey
        exact ⟨⟨r, er⟩, hb⟩
      · exact absurd ey (by simp)
    have K1 : Hid (Below w.heap.size w V1 ∧ S5 V1 (w.heap.size + 1) (.int .i64 0) (.int .i64 0) (.int .i64 0) (.slice none 0 0) (.slice none 0 0) ∧ S4 V1 w1.heap.size (.int .i64 bu) (.int .i64 gu) (.slice a1 n1 k1) (.slice a2 n2 k2) ∧ w.heap.size + 2 ≤ W.heap.size ∧ W.heap.size ≤ w1.heap.size) := ⟨b1.trans (aV.mono b1.size), (K0.out.2.2.1.keep hb1).keep aV, sV, K0.out.2.2.2, hb1.size⟩
    have HO : Hid (StoLV V1 W.heap.size (.slice a1 n1 k1) (.slice a2 n2 k2) m1 m2 ∧ w1.heap.size ∉ fp (.slice a1 n1 k1) m1 ∧ w1.heap.size ∉ fp (.slice a2 n2 k2) m2) := ⟨oV, fun h => by have := o.t.lt h; omega, fun h => by have := o.k.lt h; omega⟩
    have HM : Hid (m1.map Prod.fst = tl.map Prod.fst ∧ m2.map Prod.fst = kl.map Prod.fst ∧ m1.length ≤ 40 ∧ m2.length ≤ 40 ∧ NdK ((m1 ++ m2).map Prod.fst) ∧ (∀ q ∈ m1 ++ m2, isKey key q.1 = true → q.1 = x)) := by
      have nd := storeC_nd hst
      rw [← q1, ← q2, ← List.map_append] at nd hfi
      exact ⟨q1, q2, by omega, by omega, nd, fun q hq hk => key_one nd hfi (List.mem_map_of_mem hq) hk⟩
    have HXP : Hid (0 ≤ x.pins ∧ x.pins ≤ 20) := entC_pins (storeC_ent hst x (List.mem_of_find?_eq_some hfi))
    have HA2 : Hid (A = if ¬ (0 ≤ x.pins + by' ∧ x.pins + by' ≤ 20) then badA 3 else ⟨0, bu, gu, turnE (isKey key) (pinBy by') (tl.map Prod.fst), turnE (isKey key) (pinBy by') (kl.map Prod.fst)⟩) := by have := HA.out; simp only [ne_eq, not_true_eq_false, if_false] at this; exact this.symm
    clear hV1 aV sV b1 hb1 K0 o q1 q2 ln1 ln2 hn1 hn2 in1 in2 hft2 oV hst hfi hln HA HFT HP
    go_wp2_with fail
    rw [← HV1.out]
    refine Calls.mono CP.out ?_
    rintro e0 w2 ⟨⟨r, rfl⟩, hb2⟩
    obtain ⟨V2, hV2⟩ : ∃ V, V = w2.alloc (.cells #[.string x.key, .int .i64 x.st, .slice r.ha x.hs.length r.hc, .slice r.ba x.bl.length r.bc, .int .i64 x.t, .int .i64 x.g, .int .i64 x.l, .int .i64 x.s, .int .i64 x.e, .bool x.b1, .bool x.b2, .slice r.ta x.ts.length r.tc, .int .i64 x.pins] 54) := ⟨_, rfl⟩
    have HV2 : Hid (V2 = w2.alloc (.cells #[.string x.key, .int .i64 x.st, .slice r.ha x.hs.length r.hc, .slice r.ba x.bl.length r.bc, .int .i64 x.t, .int .i64 x.g, .int .i64 x.l, .int .i64 x.s, .int .i64 x.e, .bool x.b1, .bool x.b2, .slice r.ta x.ts.length r.tc, .int .i64 x.pins] 54)) := hV2
    have aV2 : Below w2.heap.size w2 V2 := by rw [hV2]; exact (Below.refl _ _).alloc (Nat.le_refl _) _
    have bV : Below V1.heap.size V1 V2 := hb2.trans (aV2.mono hb2.size)
    have y12 : V2.cell? ⟨w2.heap.size, 12, none⟩ = some (.int .i64 x.pins) := by rw [hV2]; simp
    have K2 : Hid (Below w.heap.size w V2 ∧ S5 V2 (w.heap.size + 1) (.int .i64 0) (.int .i64 0) (.int .i64 0) (.slice none 0 0) (.slice none 0 0) ∧ S4 V2 w1.heap.size (.int .i64 bu) (.int .i64 gu) (.slice a1 n1 k1) (.slice a2 n2 k2) ∧ StoLV V2 W.heap.size (.slice a1 n1 k1) (.slice a2 n2 k2) m1 m2) := ⟨K1.out.1.trans (bV.mono K1.out.1.size), K1.out.2.1.keep bV, K1.out.2.2.1.keep bV, HO.out.1.below bV⟩
    have L1 : Hid (∀ X, Calls Tryz.prog 59 #[.int .i64 by', .int .i64 (-20), .int .i64 20] X fun e w' => e = .returned (.bool (decide (-20 ≤ by') && decide (by' ≤ 20))) ∧ w' = X) := fun X => l1In_any by' (-20) 20 X
    clear hV2 aV2 bV hb2 CP HV1
    obtain ⟨xp0, xp1⟩ := HXP.out
    by_cases c1 : -20 ≤ by' ∧ by' ≤ 20
    · have ew : IntKind.i64.wrap (x.pins + by') = x.pins + by' := by unfold IntKind.wrap; simp [IntKind.signed, IntKind.bits]; omega
      have L2 : Hid (∀ X, Calls Tryz.prog 59 #[.int .i64 (x.pins + by'), .int .i64 0, .int .i64 20] X fun e w' => e = .returned (.bool (decide (0 ≤ x.pins + by') && decide (x.pins + by' ≤ 20))) ∧ w' = X) := fun X => l1In_any _ 0 20 X
      have d1 : (decide (-20 ≤ by') && decide (by' ≤ 20)) = true := by simp [c1]
      rw [d1] at L1
      by_cases c2 : 0 ≤ x.pins + by' ∧ x.pins + by' ≤ 20
      · have d2 : (decide (0 ≤ x.pins + by') && decide (x.pins + by' ≤ 20)) = true := by simp [c2]
        rw [d2] at L2
        have HAe : Hid (A = ⟨0, bu, gu, turnE (isKey key) (pinBy by') (tl.map Prod.fst), turnE (isKey key) (pinBy by') (kl.map Prod.fst)⟩) := by have := HA2.out; rw [if_neg (by simpa using c2)] at this; exact this
        have CD : Hid _ := l8Pin_at V2 w1.heap.size W.heap.size bu gu by' a1 a2 n1 k1 n2 k2 m1 m2 key K2.out.2.2.1 K2.out.2.2.2 HO.out.2.1 HO.out.2.2 K1.out.2.2.2.2 HM.out.2.2.1 HM.out.2.2.2.1 HM.out.2.2.2.2.1 (fun q hq hk => by rw [HM.out.2.2.2.2.2 q hq hk]; exact c2)
        clear c1 c2 d1 d2 HA2 HO xp0 xp1 HXP
        generalize x.pins = xp at *
        rw [HV2.out] at y12
        go_wp2_with fail
        refine (L1.out _).mono ?_
        rintro e0 X1 ⟨rfl, rfl⟩
        go_wp2_with fail
        refine (L2.out _).mono ?_
        rintro e0 X1 ⟨rfl, rfl⟩
        go_wp2_with fail
        rw [← HV2.out]
        refine Calls.mono CD.out ?_
        rintro e0 w3 ⟨rfl, s3, o3, hb3⟩
        have hs5 : S5 w3 (w.heap.size + 1) (.int .i64 0) (.int .i64 0) (.int .i64 0) (.slice none 0 0) (.slice none 0 0) := K2.out.2.1.low hb3 (by have := K1.out.2.2.2.1; omega)
        have HB : Hid (Below w.heap.size w w3) := K2.out.1.trans (hb3.mono (by have := K1.out.2.2.2.1; omega))
        have HO3 : Hid (StoLV w3 W.heap.size (.slice a1 n1 k1) (.slice a2 n2 k2) (turnM (isKey key) (pinBy by') m1) (turnM (isKey key) (pinBy by') m2)) := o3
        have HWB : Hid (w.heap.size + 1 < W.heap.size) := by show _ < _; have := K1.out.2.2.2.1; omega
        have z0 := hs5.c0
        have z1 := hs5.c1
        have z2 := hs5.c2
        have z3 := hs5.c3
        have z4 := hs5.c4
        have zf0 := hs5.fr 0
        have zf1 := hs5.fr 1
        have zf2 := hs5.fr 2
        have zf3 := hs5.fr 3
        have zf4 := hs5.fr 4
        have y0 := s3.c0
        have y1 := s3.c1
        have y2 := s3.c2
        have y3 := s3.c3
        clear hs5 s3 o3 hb3 K1 K2 CD HV2 L1 L2 y12
        go_wp2_with fail
        refine bodyPost_ret (v := .agg #[.int .i64 0, .int .i64 bu, .int .i64 gu, .slice a1 n1 k1, .slice a2 n2 k2]) (by simp [results, Tryz.results20, go_sem, z0, z1, z2, z3, z4]) rfl ?_
        have hlt := HWB.out
        exact ⟨(StoAns.got (((((HO3.out.off1 _ hlt).off1 _ hlt).off1 _ hlt).off1 _ hlt).off1 _ hlt) (Nat.le_trans (Nat.le_succ _) (Nat.le_of_lt hlt)) (by rw [turnM_fst, HM.out.1]) (by rw [turnM_fst, HM.out.2.1])).of HAe.out, ((((HB.out.setCell (by simp) _).setCell (by simp) _).setCell (by simp) _).setCell (by simp) _).setCell (by simp) _⟩
      · have d2 : (decide (0 ≤ x.pins + by') && decide (x.pins + by' ≤ 20)) = false := by simpa using c2
        rw [d2] at L2
        have HAe : Hid (A = badA 3) := by have := HA2.out; rw [if_pos c2] at this; exact this
        have HB : Hid (Below w.heap.size w V2) := K2.out.1
        have hs5 := K2.out.2.1
        have z0 := hs5.c0
        have z1 := hs5.c1
        have z2 := hs5.c2
        have z3 := hs5.c3
        have z4 := hs5.c4
        have zf0 := hs5.fr 0
        have zf1 := hs5.fr 1
        have zf2 := hs5.fr 2
        have zf3 := hs5.fr 3
        have zf4 := hs5.fr 4
        clear c1 c2 d1 d2 HA2 HO xp0 xp1 HXP K1 K2 hs5 HM
        generalize x.pins = xp at *
        rw [HV2.out] at y12 z0 z1 z2 z3 z4 zf0 zf1 zf2 zf3 zf4
        go_wp2_with fail
        refine (L1.out _).mono ?_
        rintro e0 X1 ⟨rfl, rfl⟩
        go_wp2_with fail
        refine (L2.out _).mono ?_
        rintro e0 X1 ⟨rfl, rfl⟩
        go_wp2_with fail
        rw [← HV2.out]
        rw [← HV2.out] at z0 z1 z2 z3 z4
        refine bodyPost_ret (v := .agg #[.int .i64 3, .int .i64 0, .int .i64 0, .slice none 0 0, .slice none 0 0]) (by simp [results, Tryz.results20, go_sem, z0, z1, z2, z3, z4]) rfl ?_
        exact ⟨(StoAns.bad _ _ _).of HAe.out, ((((HB.out.setCell (by simp) _).setCell (by simp) _).setCell (by simp) _).setCell (by simp) _).setCell (by simp) _⟩
    · have d1 : (decide (-20 ≤ by') && decide (by' ≤ 20)) = false := by simpa using c1
      rw [d1] at L1
      have HAe : Hid (A = badA 3) := by have := HA2.out; rw [if_pos (fun h => c1 (by omega))] at this; exact this
      have HB : Hid (Below w.heap.size w V2) := K2.out.1
      have hs5 := K2.out.2.1
      have z0 := hs5.c0
      have z1 := hs5.c1
      have z2 := hs5.c2
      have z3 := hs5.c3
      have z4 := hs5.c4
      have zf0 := hs5.fr 0
      have zf1 := hs5.fr 1
      have zf2 := hs5.fr 2
      have zf3 := hs5.fr 3
      have zf4 := hs5.fr 4
      clear c1 d1 HA2 HO xp0 xp1 HXP K1 K2 hs5 HM y12
      rw [HV2.out] at z0 z1 z2 z3 z4 zf0 zf1 zf2 zf3 zf4
      go_wp2_with fail
      refine (L1.out _).mono ?_
      rintro e0 X1 ⟨rfl, rfl⟩
      go_wp2_with fail
      rw [← HV2.out]
      rw [← HV2.out] at z0 z1 z2 z3 z4
      refine bodyPost_ret (v := .agg #[.int .i64 3, .int .i64 0, .int .i64 0, .slice none 0 0, .slice none 0 0]) (by simp [results, Tryz.results20, go_sem, z0, z1, z2, z3, z4]) rfl ?_
      exact ⟨(StoAns.bad _ _ _).of HAe.out, ((((HB.out.setCell (by simp) _).setCell (by simp) _).setCell (by simp) _).setCell (by simp) _).setCell (by simp) _⟩
end Go.Proofs.YtaphofdcoddopaaGreatDoor
/-
  PinEntry, by the program.
-/
namespace Go.Proofs.YtaphofdcoddopaaGreatDoor
open Go.ChangeShapes Go.WideShapes Go.ChangeAt Go.RowKit Go.Sort
theorem keyC_peek (bu gu : Int) (tl kl : List Ent) (key : ByteArray) : keyC bu gu tl kl key = (peekR bu gu tl kl key).1 := by
  unfold keyC
  by_cases hs : storeC bu gu tl kl = 0
  · rw [if_neg (by simpa using hs)]
    cases hf : (tl ++ kl).find? (isKey key) with
    | none => rw [peekR_none hs hf]; simp
    | some x => rw [peekR_some hs hf]; simp
  · rw [if_pos hs, peekR_bad hs]
/-- Where an entry lies that is pointed at. -/
theorem hdlsA_loc {w : World} {base n k : Nat} {a : Option Addr} {m : List (Ent × EntR)} {h : Hdl} (hm : EntsLV w base (.slice a n k) m) (hh : h ∈ hdlsA a m) : ∃ G A C, a = some ⟨G, 0, none⟩ ∧ m = A ++ (h.x, h.r) :: C ∧ h.b = G ∧ h.o = A.length * 13 := by
  rcases hm.form with ⟨e, rfl⟩ | ⟨G, c, e, _⟩
  · simp only [Value.slice.injEq] at e
    obtain ⟨rfl, _⟩ := e
    simp [hdlsA, hdls] at hh
  · simp only [Value.slice.injEq] at e
    obtain ⟨rfl, _⟩ := e
    simp only [hdlsA] at hh
    obtain ⟨i, hi⟩ := List.mem_iff_getElem?.1 hh
    unfold hdls at hi
    rw [List.getElem?_mapIdx] at hi
    obtain ⟨q, hq, rfl⟩ := Option.map_eq_some_iff.1 hi
    obtain ⟨A, C, e1, e2⟩ := mid_split hq
    exact ⟨G, A, C, rfl, e1, rfl, by rw [e2]; simp⟩
theorem turn_set {X : World} {base n1 k1 n2 k2 : Nat} {a1 a2 : Option Addr} {m1 m2 : List (Ent × EntR)} {key : ByteArray} {h : Hdl} (f : Ent → Ent) (j : Nat) (hj : j < 13) (u : Value) (hs : StoLV X base (.slice a1 n1 k1) (.slice a2 n2 k2) m1 m2) (nd : NdK ((m1 ++ m2).map Prod.fst)) (hh : h ∈ hdl2 a1 a2 m1 m2) (hk : isKey key h.x = true) (e : ∀ r, entW (f h.x) r = (entW h.x r).set j u) (eh : (f h.x).hs = h.x.hs) (eb : (f h.x).bl = h.x.bl) (et : (f h.x).ts = h.x.ts) :
    X.cell? ⟨h.b, h.o + j, none⟩ = (entW h.x h.r)[j]? ∧ X.frozen? ⟨h.b, h.o + j, none⟩ = false ∧ base ≤ h.b ∧ (h.b ∈ fp (.slice a1 n1 k1) m1 ∨ h.b ∈ fp (.slice a2 n2 k2) m2) ∧ StoLV (X.setCell ⟨h.b, h.o + j, none⟩ u) base (.slice a1 n1 k1) (.slice a2 n2 k2) (turnM (isKey key) f m1) (turnM (isKey key) f m2) := by
  rw [List.map_append] at nd
  obtain ⟨d1, d2, d3⟩ := NdK.app nd
  rcases List.mem_append.1 hh with hh | hh
  · obtain ⟨G, A, C, rfl, em, hb, ho⟩ := hdlsA_loc hs.t hh
    rw [hb, ho]
    have mid := NdK.mid (key := key) (by rw [← em]; exact d1) hk
    have z := hs.t.at
    have e1 : turnM (isKey key) f m1 = A ++ (f h.x, h.r) :: C := by rw [em]; exact turnM_mid hk mid.1 mid.2
    have e2 : turnM (isKey key) f m2 = m2 := turnM_none fun q hq => by
      by_cases c : isKey key q.1 = true
      · exact absurd (isKey_eq hk c) (d3 h.x (by rw [em]; simp) q.1 (List.mem_map_of_mem hq))
      · simpa using c
    refine ⟨z.2.2.2.2.1 A.length (h.x, h.r) (by rw [em]; exact mid_eq _ _ _) j hj, z.2.2.2.2.2 _, z.2.2.1, .inl (by simp [fp, Value.ownBlock]), ?_⟩
    rw [e1, e2]
    have hs' := hs
    rw [em] at hs'
    exact hs'.setT rfl j hj u (f h.x) (e h.r) eh eb et
  · obtain ⟨G, A, C, rfl, em, hb, ho⟩ := hdlsA_loc hs.k hh
    rw [hb, ho]
    have mid := NdK.mid (key := key) (by rw [← em]; exact d2) hk
    have z := hs.k.at
    have e1 : turnM (isKey key) f m2 = A ++ (f h.x, h.r) :: C := by rw [em]; exact turnM_mid hk mid.1 mid.2
    have e2 : turnM (isKey key) f m1 = m1 := turnM_none fun q hq => by
      by_cases c : isKey key q.1 = true
      · exact absurd (isKey_eq c hk) (d3 q.1 (List.mem_map_of_mem hq) h.x (by rw [em]; simp))
      · simpa using c
    refine ⟨z.2.2.2.2.1 A.length (h.x, h.r) (by rw [em]; exact mid_eq _ _ _) j hj, z.2.2.2.2.2 _, z.2.2.1, .inr (by simp [fp, Value.ownBlock]), ?_⟩
    rw [e1, e2]
    have hs' := hs
    rw [em] at hs'
    exact hs'.setK rfl j hj u (f h.x) (e h.r) eh eb et
set_option maxRecDepth 100000 in
set_option maxHeartbeats 16000000 in
theorem implPin_any (w : World) (bu gu by' : Int) (ta ka : Option Addr) (tc kc : Nat) (tl kl : List (Ent × EntR)) (key : ByteArray) (hset : SetIs w) (hl : tl.length ≤ 1048576) (hk : kl.length ≤ 1048576) (hto : ∀ q ∈ tl ++ kl, EntOk q.1) (hts : ∀ q ∈ tl ++ kl, ∀ t ∈ q.1.ts, t.size ≤ 1048576) (ht : EntsIn w ta tl) (hq : EntsIn w ka kl) :
    Calls Tryz.prog 21 #[.agg #[.int .i64 bu, .int .i64 gu, .slice ta tl.length tc, .slice ka kl.length kc], .string key, .int .i64 by'] w fun e w' => StoAns (pinA bu gu (tl.map Prod.fst) (kl.map Prod.fst) key by') w.heap.size e w' ∧ Below w.heap.size w w' := by
  have HKF : Hid (∀ X, Below w.heap.size w X → Calls Tryz.prog 51 #[.agg #[.int .i64 bu, .int .i64 gu, .slice ta tl.length tc, .slice ka kl.length kc], .string key] X fun r w' => r = .returned (.int .i64 (peekR bu gu (tl.map Prod.fst) (kl.map Prod.fst) key).1) ∧ Below X.heap.size X w') := fun X hb => by
    rw [← keyC_peek]; exact keyFault_any X bu gu ta ka tc kc tl kl key (hset.below hb) hl hk hto (ht.keep hb) (hq.keep hb)
  have HSO : Hid (∀ X, Below w.heap.size w X → Calls Tryz.prog 52 #[.agg #[.int .i64 bu, .int .i64 gu, .slice ta tl.length tc, .slice ka kl.length kc]] X fun e w' => (∃ v1 v2, e = .returned (.agg #[v1, v2]) ∧ TwoP w' X.heap.size v1 v2 (hdlsA ta tl) (hdlsA ka kl)) ∧ Below X.heap.size X w') := fun X hb => shelvesOf_any X bu gu ta ka tc kc tl kl hl hk (ht.keep hb) (hq.keep hb)
  have HTH : Hid (∀ X, Below w.heap.size w X → ∀ h ∈ hdl2 ta ka tl kl, HThere X h) := fun X hb => hdl2_there (ht.keep hb) (hq.keep hb)
  have HTS : Hid (∀ h ∈ hdl2 ta ka tl kl, ∀ t ∈ h.x.ts, t.size ≤ 1048576) := fun h hh => by
    have hm : h.x ∈ (tl ++ kl).map Prod.fst := by rw [List.map_append, ← hdl2_x ta ka]; exact List.mem_map_of_mem hh
    obtain ⟨q, hq, e⟩ := List.mem_map.1 hm
    rw [← e]; exact hts q hq
  have HX2 : Hid ((hdl2 ta ka tl kl).map Hdl.x = tl.map Prod.fst ++ kl.map Prod.fst) := hdl2_x _ _ _ _
  obtain ⟨W, hW⟩ : ∃ W, W = (w.alloc (.cells #[.int .i64 bu, .int .i64 gu, .slice ta tl.length tc, .slice ka kl.length kc] 28)).alloc (.cells #[.int .i64 0, .int .i64 0, .int .i64 0, .slice none 0 0, .slice none 0 0] 30) := ⟨_, rfl⟩
  have HW : Hid (W = (w.alloc (.cells #[.int .i64 bu, .int .i64 gu, .slice ta tl.length tc, .slice ka kl.length kc] 28)).alloc (.cells #[.int .i64 0, .int .i64 0, .int .i64 0, .slice none 0 0, .slice none 0 0] 30)) := hW
  have K0 : Hid (Below w.heap.size w W ∧ S4 W w.heap.size (.int .i64 bu) (.int .i64 gu) (.slice ta tl.length tc) (.slice ka kl.length kc) ∧ S5 W (w.heap.size + 1) (.int .i64 0) (.int .i64 0) (.int .i64 0) (.slice none 0 0) (.slice none 0 0) ∧ w.heap.size + 2 ≤ W.heap.size) := by
    rw [hW]
    refine ⟨((Below.refl _ _).alloc (Nat.le_refl _) _).alloc (by simp) _, (S4.new w _ _ _ _ _).keep ((Below.refl _ _).alloc (Nat.le_refl _) _), ?_, by simp⟩
    have := S5.new (w.alloc (.cells #[.int .i64 bu, .int .i64 gu, .slice ta tl.length tc, .slice ka kl.length kc] 28)) (.int .i64 0) (.int .i64 0) (.int .i64 0) (.slice none 0 0) (.slice none 0 0) 30
    simpa using this
  obtain ⟨A, hA⟩ : ∃ A, pinA bu gu (tl.map Prod.fst) (kl.map Prod.fst) key by' = A := ⟨_, rfl⟩
  rw [hA]
  unfold pinA at hA
  have HA : Hid (_ = A) := hA
  have HL1 : Hid ((hdlsA ta tl).map Hdl.x = tl.map Prod.fst ∧ (hdlsA ka kl).map Hdl.x = kl.map Prod.fst ∧ (hdlsA ta tl).length = tl.length ∧ (hdlsA ka kl).length = kl.length) := ⟨hdlsA_x _ _, hdlsA_x _ _, hdlsA_len _ _, hdlsA_len _ _⟩
  clear hW hl hk hto hts ht hq hA hset
  obtain ⟨P, hP⟩ : ∃ P, peekR bu gu (tl.map Prod.fst) (kl.map Prod.fst) key = P := ⟨_, rfl⟩
  have HP : Hid (peekR bu gu (tl.map Prod.fst) (kl.map Prod.fst) key = P) := hP
  rw [hP] at HKF HA
  clear hP
  obtain ⟨c, x⟩ := P
  simp only at HKF HA
  have e0 := K0.out.2.1.c0
  have e1 := K0.out.2.1.c1
  have e2 := K0.out.2.1.c2
  have e3 := K0.out.2.1.c3
  rw [HW.out] at e0 e1 e2 e3
  obtain ⟨tn, htn⟩ : ∃ n, Hid (tl.length = n) := ⟨_, rfl⟩
  obtain ⟨kn, hkn⟩ : ∃ n, Hid (kl.length = n) := ⟨_, rfl⟩
  rw [htn.out, hkn.out] at HKF HSO HW K0 HL1 ⊢
  rw [htn.out] at e0 e1 e2 e3
  rw [hkn.out] at e0 e1 e2 e3
  by_cases hc : c = 0
  · subst hc
    obtain ⟨hst, hfi⟩ := peekR_zero (bu := bu) (gu := gu) (tl := tl.map Prod.fst) (kl := kl.map Prod.fst) (key := key) (by rw [HP.out])
    rw [HP.out] at hfi
    simp only at hfi
    have hln := (storeC_zero hst).2.1
    rw [List.length_map, List.length_map, htn.out, hkn.out] at hln
    have HXP : Hid (0 ≤ x.pins ∧ x.pins ≤ 20 ∧ isKey key x = true) := by
      have := entC_pins (storeC_ent hst x (List.mem_of_find?_eq_some hfi))
      exact ⟨this.1, this.2, List.find?_some hfi⟩
    have HZC : Hid (∀ h ∈ hdl2 ta ka tl kl, entC h.x = 0) := fun h hh => storeC_ent hst h.x (by rw [← HX2.out]; exact List.mem_map_of_mem hh)
    have HF1 : Hid (∀ X v1 v2 base, Below w.heap.size w X → TwoP X base v1 v2 (hdlsA ta tl) (hdlsA ka kl) → Calls Tryz.prog 61 #[.agg #[v1, v2], .string key] X fun e w' => (∃ b o, e = .returned (.pointer (some ⟨b, o, none⟩)) ∧ w'.cell? ⟨b, o + 12, none⟩ = some (.int .i64 x.pins)) ∧ Below X.heap.size X w') := fun X v1 v2 base hb h => by
      refine (findP_any X v1 v2 base _ _ key h (by rw [HL1.out.2.2.1, HL1.out.2.2.2]; omega) (HTH.out X hb)).mono ?_
      rintro e w' ⟨⟨v, rfl, hv⟩, hb'⟩
      refine ⟨?_, hb'⟩
      rcases hv with ⟨h, hh, hx, rfl⟩ | ⟨hx, _⟩
      · have hx' : ((hdl2 ta ka tl kl).map Hdl.x).find? (isKey key) = some h.x := hx
        rw [HX2.out, hfi] at hx'
        have ex : x = h.x := Option.some.inj hx'
        have := (HTH.out w' (hb.trans (hb'.mono hb.size)) h hh).1 12 (by omega)
        exact ⟨h.b, h.o, rfl, by rw [ex]; exact this⟩
      · have hx' : ((hdl2 ta ka tl kl).map Hdl.x).find? (isKey key) = none := hx
        rw [HX2.out, hfi] at hx'
        exact absurd hx' (by simp)
    have HSL : Hid (∀ X v1 v2 base, Below w.heap.size w X → TwoP X base v1 v2 (hdlsA ta tl) (hdlsA ka kl) → Calls Tryz.prog 54 #[.agg #[v1, v2], .agg #[.int .i64 bu, .int .i64 gu, .slice ta tn tc, .slice ka kn kc]] X fun e w' => (∃ a1 k1 n1 a2 k2 n2 m1 m2, e = .returned (.agg #[.int .i64 bu, .int .i64 gu, .slice a1 n1 k1, .slice a2 n2 k2]) ∧ m1.map Prod.fst = tl.map Prod.fst ∧ m2.map Prod.fst = kl.map Prod.fst ∧ StoLV w' X.heap.size (.slice a1 n1 k1) (.slice a2 n2 k2) m1 m2) ∧ Below X.heap.size X w') := fun X v1 v2 base hb h => by
      refine (storeLike_any X v1 v2 base _ _ bu gu ta ka tc kc tn kn h (by rw [HL1.out.2.2.1, HL1.out.2.2.2]; omega) (HTH.out X hb) HZC.out HTS.out).mono ?_
      rintro e w' ⟨⟨a1, k1, n1, a2, k2, n2, m1, m2, rfl, q1, q2, o⟩, hb'⟩
      exact ⟨⟨a1, k1, n1, a2, k2, n2, m1, m2, rfl, by rw [q1, HL1.out.1], by rw [q2, HL1.out.2.1], o.lv⟩, hb'⟩
    have HS2 : Hid (∀ X base a1 k1 n1 a2 k2 n2 m1 m2, m1.map Prod.fst = tl.map Prod.fst → m2.map Prod.fst = kl.map Prod.fst → StoLV X base (.slice a1 n1 k1) (.slice a2 n2 k2) m1 m2 → Calls Tryz.prog 52 #[.agg #[.int .i64 bu, .int .i64 gu, .slice a1 n1 k1, .slice a2 n2 k2]] X fun e w' => (∃ v1 v2, e = .returned (.agg #[v1, v2]) ∧ Calls Tryz.prog 61 #[.agg #[v1, v2], .string key] w' fun e w'' => (∃ b o, e = .returned (.pointer (some ⟨b, o, none⟩)) ∧ w''.cell? ⟨b, o + 12, none⟩ = some (.int .i64 x.pins) ∧ w''.frozen? ⟨b, o + 12, none⟩ = false ∧ base ≤ b ∧ (b ∈ fp (.slice a1 n1 k1) m1 ∨ b ∈ fp (.slice a2 n2 k2) m2) ∧ StoLV (w''.setCell ⟨b, o + 12, none⟩ (.int .i64 (x.pins + by'))) base (.slice a1 n1 k1) (.slice a2 n2 k2) (turnM (isKey key) (pinBy by') m1) (turnM (isKey key) (pinBy by') m2)) ∧ Below w'.heap.size w' w'') ∧ Below X.heap.size X w') := fun X base a1 k1 n1 a2 k2 n2 m1 m2 q1 q2 o => by
      obtain ⟨rfl, i1⟩ := slice_len o.t
      obtain ⟨rfl, i2⟩ := slice_len o.k
      have nd := storeC_nd hst
      rw [← q1, ← q2, ← List.map_append] at nd
      refine (shFind_any X bu gu a1 a2 k1 k2 m1 m2 key (by rw [q1, q2]; exact hst) i1 i2).mono ?_
      rintro e w' ⟨⟨v1, v2, rfl, hF⟩, hb'⟩
      refine ⟨⟨v1, v2, rfl, hF.mono ?_⟩, hb'⟩
      rintro e w'' ⟨⟨v, rfl, hv⟩, hb''⟩
      refine ⟨?_, hb''⟩
      have ofi : ((hdl2 a1 a2 m1 m2).map Hdl.x).find? (isKey key) = some x := by rw [hdl2_x, q1, q2]; exact hfi
      rcases hv with ⟨h, hh, hx, rfl⟩ | ⟨hx, _⟩
      · rw [ofi] at hx
        have ex : x = h.x := Option.some.inj hx
        have ts := turn_set (f := pinBy by') 12 (by omega) (.int .i64 (h.x.pins + by')) ((o.below hb').below hb'') nd hh (by rw [← ex]; exact HXP.out.2.2) (fun r => rfl) rfl rfl rfl
        rw [← ex] at ts
        exact ⟨h.b, h.o, rfl, ts.1, ts.2.1, ts.2.2.1, ts.2.2.2.1, ts.2.2.2.2⟩
      · rw [ofi] at hx; exact absurd hx (by simp)
    have HA2 : Hid (A = if ¬ (0 ≤ x.pins + by' ∧ x.pins + by' ≤ 20) then badA 3 else ⟨0, bu, gu, turnE (isKey key) (pinBy by') (tl.map Prod.fst), turnE (isKey key) (pinBy by') (kl.map Prod.fst)⟩) := by have := HA.out; simp only [ne_eq, not_true_eq_false, if_false] at this; exact this.symm
    obtain ⟨xp0, xp1, _⟩ := HXP.out
    clear HA HP HX2 HTH HTS HZC hst hfi hln htn hkn HL1 HXP
    generalize x.pins = xp at *
    go_enter Tryz.func21, Tryz.ntmps21
    go_wp2_with fail
    rw [← HW.out]
    refine (HKF.out _ K0.out.1).mono ?_
    rintro r0 w1 ⟨rfl, hb1⟩
    have K1 : Hid (Below w.heap.size w w1 ∧ S4 w1 w.heap.size (.int .i64 bu) (.int .i64 gu) (.slice ta tn tc) (.slice ka kn kc) ∧ S5 w1 (w.heap.size + 1) (.int .i64 0) (.int .i64 0) (.int .i64 0) (.slice none 0 0) (.slice none 0 0) ∧ w.heap.size + 2 ≤ w1.heap.size) := ⟨K0.out.1.trans (hb1.mono K0.out.1.size), K0.out.2.1.keep hb1, K0.out.2.2.1.keep hb1, by have := K0.out.2.2.2; have := hb1.size; omega⟩
    clear K0 HW hb1 HKF e0 e1 e2 e3
    have e0 := K1.out.2.1.c0
    have e1 := K1.out.2.1.c1
    have e2 := K1.out.2.1.c2
    have e3 := K1.out.2.1.c3
    go_wp2_with fail
    refine (HSO.out _ K1.out.1).mono ?_
    rintro r0 w2 ⟨⟨v1, v2, rfl, tp⟩, hb2⟩
    obtain ⟨b1, d1, rfl, _⟩ := tp.a.form
    obtain ⟨b2, d2, rfl, _⟩ := tp.b.form
    generalize (hdlsA ta tl).length = l1 at *
    generalize (hdlsA ka kl).length = l2 at *
    obtain ⟨V2, hV2⟩ : ∃ V, V = w2.alloc (.cells #[.slice b1 l1 d1, .slice b2 l2 d2] 85) := ⟨_, rfl⟩
    have HV2 : Hid (V2 = w2.alloc (.cells #[.slice b1 l1 d1, .slice b2 l2 d2] 85)) := hV2
    have aV2 : Below w2.heap.size w2 V2 := by rw [hV2]; exact (Below.refl _ _).alloc (Nat.le_refl _) _
    have bV2 : Below w1.heap.size w1 V2 := hb2.trans (aV2.mono hb2.size)
    have K2 : Hid (Below w.heap.size w V2 ∧ S4 V2 w.heap.size (.int .i64 bu) (.int .i64 gu) (.slice ta tn tc) (.slice ka kn kc) ∧ S5 V2 (w.heap.size + 1) (.int .i64 0) (.int .i64 0) (.int .i64 0) (.slice none 0 0) (.slice none 0 0) ∧ TwoP V2 w1.heap.size (.slice b1 l1 d1) (.slice b2 l2 d2) (hdlsA ta tl) (hdlsA ka kl) ∧ (V2.cell? ⟨w2.heap.size, 0, none⟩ = some (.slice b1 l1 d1) ∧ V2.cell? ⟨w2.heap.size, 1, none⟩ = some (.slice b2 l2 d2)) ∧ w2.heap.size < V2.heap.size ∧ w.heap.size + 2 ≤ V2.heap.size) := ⟨K1.out.1.trans (bV2.mono K1.out.1.size), K1.out.2.1.keep bV2, K1.out.2.2.1.keep bV2, tp.below aV2, by rw [hV2]; simp, by rw [hV2]; simp, by have := K1.out.2.2.2; have := bV2.size; omega⟩
    clear hV2 aV2 bV2 hb2 tp K1 HSO e0 e1 e2 e3
    obtain ⟨y0, y1⟩ := K2.out.2.2.2.2.1
    rw [HV2.out] at y0 y1
    go_wp2_with fail
    rw [← HV2.out]
    rw [← HV2.out] at y0 y1
    refine (HF1.out _ _ _ _ K2.out.1 K2.out.2.2.2.1).mono ?_
    rintro r0 w3 ⟨⟨pb, po, rfl, yp⟩, hb3⟩
    have K3 : Hid (Below w.heap.size w w3 ∧ S4 w3 w.heap.size (.int .i64 bu) (.int .i64 gu) (.slice ta tn tc) (.slice ka kn kc) ∧ S5 w3 (w.heap.size + 1) (.int .i64 0) (.int .i64 0) (.int .i64 0) (.slice none 0 0) (.slice none 0 0) ∧ TwoP w3 w1.heap.size (.slice b1 l1 d1) (.slice b2 l2 d2) (hdlsA ta tl) (hdlsA ka kl) ∧ (w3.cell? ⟨w2.heap.size, 0, none⟩ = some (.slice b1 l1 d1) ∧ w3.cell? ⟨w2.heap.size, 1, none⟩ = some (.slice b2 l2 d2)) ∧ w.heap.size + 2 ≤ w3.heap.size) := by
      obtain ⟨k1, k2, k3, k4, ⟨k5, k6⟩, k7, k8⟩ := K2.out
      exact ⟨k1.trans (hb3.mono k1.size), k2.keep hb3, k3.keep hb3, k4.below hb3, ⟨by rw [hb3.cell (p := ⟨w2.heap.size, 0, none⟩) k7]; exact k5, by rw [hb3.cell (p := ⟨w2.heap.size, 1, none⟩) k7]; exact k6⟩, by have := hb3.size; omega⟩
    clear K2 hb3 HF1 HV2 y0 y1
    have en : IntKind.i64.wrap (-xp) = -xp := by unfold IntKind.wrap; simp [IntKind.signed, IntKind.bits]; omega
    have es : IntKind.i64.wrap (20 - xp) = 20 - xp := by unfold IntKind.wrap; simp [IntKind.signed, IntKind.bits]; omega
    by_cases c2 : 0 ≤ xp + by' ∧ xp + by' ≤ 20
    · have g1 : decide (by' < -xp) = false := by simp; omega
      have g2 : decide (20 - xp < by') = false := by simp; omega
      have ew : IntKind.i64.wrap (xp + by') = xp + by' := by unfold IntKind.wrap; simp [IntKind.signed, IntKind.bits]; omega
      have HAe : Hid (A = ⟨0, bu, gu, turnE (isKey key) (pinBy by') (tl.map Prod.fst), turnE (isKey key) (pinBy by') (kl.map Prod.fst)⟩) := by have := HA2.out; rw [if_neg (by simpa using c2)] at this; exact this
      clear c2 HA2
      have e0 := K3.out.2.1.c0
      have e1 := K3.out.2.1.c1
      have e2 := K3.out.2.1.c2
      have e3 := K3.out.2.1.c3
      obtain ⟨y0, y1⟩ := K3.out.2.2.2.2.1
      go_wp2_with fail
      refine (HSL.out _ _ _ _ K3.out.1 K3.out.2.2.2.1).mono ?_
      rintro r0 w4 ⟨⟨a1, k1, n1, a2, k2, n2, m1, m2, rfl, q1, q2, o⟩, hb4⟩
      obtain ⟨V4, hV4⟩ : ∃ V, V = w4.alloc (.cells #[.int .i64 bu, .int .i64 gu, .slice a1 n1 k1, .slice a2 n2 k2] 28) := ⟨_, rfl⟩
      have HV4 : Hid (V4 = w4.alloc (.cells #[.int .i64 bu, .int .i64 gu, .slice a1 n1 k1, .slice a2 n2 k2] 28)) := hV4
      have aV4 : Below w4.heap.size w4 V4 := by rw [hV4]; exact (Below.refl _ _).alloc (Nat.le_refl _) _
      have bV4 : Below w3.heap.size w3 V4 := hb4.trans (aV4.mono hb4.size)
      have K4 : Hid (Below w.heap.size w V4 ∧ S5 V4 (w.heap.size + 1) (.int .i64 0) (.int .i64 0) (.int .i64 0) (.slice none 0 0) (.slice none 0 0) ∧ S4 V4 w4.heap.size (.int .i64 bu) (.int .i64 gu) (.slice a1 n1 k1) (.slice a2 n2 k2) ∧ StoLV V4 w3.heap.size (.slice a1 n1 k1) (.slice a2 n2 k2) m1 m2 ∧ (w4.heap.size ∉ fp (.slice a1 n1 k1) m1 ∧ w4.heap.size ∉ fp (.slice a2 n2 k2) m2) ∧ w.heap.size + 2 ≤ w3.heap.size ∧ w3.heap.size ≤ V4.heap.size) := ⟨K3.out.1.trans (bV4.mono K3.out.1.size), K3.out.2.2.1.keep bV4, by rw [hV4]; exact S4.new w4 _ _ _ _ _, o.below aV4, ⟨fun h => by have := o.t.lt h; omega, fun h => by have := o.k.lt h; omega⟩, K3.out.2.2.2.2.2, bV4.size⟩
      have HQ : Hid (m1.map Prod.fst = tl.map Prod.fst ∧ m2.map Prod.fst = kl.map Prod.fst) := ⟨q1, q2⟩
      have CS2 := HS2.out V4 _ a1 k1 n1 a2 k2 n2 m1 m2 q1 q2 K4.out.2.2.2.1
      clear hV4 aV4 bV4 hb4 o q1 q2 K3 HSL HS2 e0 e1 e2 e3 y0 y1 yp g1 g2 en es
      go_wp2_with fail
      rw [← HV4.out]
      refine CS2.mono ?_
      rintro r0 w5 ⟨⟨f1, f2, rfl, CF⟩, hb5⟩
      have K5 : Hid (Below w.heap.size w w5 ∧ S5 w5 (w.heap.size + 1) (.int .i64 0) (.int .i64 0) (.int .i64 0) (.slice none 0 0) (.slice none 0 0) ∧ S4 w5 w4.heap.size (.int .i64 bu) (.int .i64 gu) (.slice a1 n1 k1) (.slice a2 n2 k2) ∧ (w4.heap.size ∉ fp (.slice a1 n1 k1) m1 ∧ w4.heap.size ∉ fp (.slice a2 n2 k2) m2) ∧ w.heap.size + 2 ≤ w3.heap.size ∧ w3.heap.size ≤ w5.heap.size) := ⟨K4.out.1.trans (hb5.mono K4.out.1.size), K4.out.2.1.keep hb5, K4.out.2.2.1.keep hb5, K4.out.2.2.2.2.1, K4.out.2.2.2.2.2.1, by have := K4.out.2.2.2.2.2.2; have := hb5.size; omega⟩
      clear K4 hb5 CS2 HV4
      go_wp2_with fail
      refine CF.mono ?_
      rintro r0 w6 ⟨⟨qb, qo, rfl, yq, yf, hqb, hqf, o6⟩, hb6⟩
      have K6 : Hid (Below w.heap.size w (w6.setCell ⟨qb, qo + 12, none⟩ (.int .i64 (xp + by'))) ∧ S5 (w6.setCell ⟨qb, qo + 12, none⟩ (.int .i64 (xp + by'))) (w.heap.size + 1) (.int .i64 0) (.int .i64 0) (.int .i64 0) (.slice none 0 0) (.slice none 0 0) ∧ S4 (w6.setCell ⟨qb, qo + 12, none⟩ (.int .i64 (xp + by'))) w4.heap.size (.int .i64 bu) (.int .i64 gu) (.slice a1 n1 k1) (.slice a2 n2 k2) ∧ StoLV (w6.setCell ⟨qb, qo + 12, none⟩ (.int .i64 (xp + by'))) w3.heap.size (.slice a1 n1 k1) (.slice a2 n2 k2) (turnM (isKey key) (pinBy by') m1) (turnM (isKey key) (pinBy by') m2) ∧ w.heap.size + 2 ≤ w3.heap.size) := by
        obtain ⟨k1, k2, k3, k4, k5, k6⟩ := K5.out
        refine ⟨(k1.trans (hb6.mono k1.size)).setCell (by simp only; omega) _, (k2.keep hb6).off (by omega), (k3.keep hb6).off (fun e => ?_), o6, k5⟩
        subst e
        rcases hqf with h | h
        · exact k4.1 h
        · exact k4.2 h
      have hs5 := K6.out.2.1
      have s3 := K6.out.2.2.1
      have z0 := hs5.c0
      have z1 := hs5.c1
      have z2 := hs5.c2
      have z3 := hs5.c3
      have z4 := hs5.c4
      have zf0 := hs5.fr 0
      have zf1 := hs5.fr 1
      have zf2 := hs5.fr 2
      have zf3 := hs5.fr 3
      have zf4 := hs5.fr 4
      have y0 := s3.c0
      have y1 := s3.c1
      have y2 := s3.c2
      have y3 := s3.c3
      clear hs5 s3 hqb hqf o6 hb6 K5 CF
      go_wp2_with fail
      refine bodyPost_ret (v := .agg #[.int .i64 0, .int .i64 bu, .int .i64 gu, .slice a1 n1 k1, .slice a2 n2 k2]) (by simp [results, Tryz.results21, go_sem, z0, z1, z2, z3, z4]) rfl ?_
      have hlt : w.heap.size + 1 < w3.heap.size := by have := K6.out.2.2.2.2; omega
      exact ⟨(StoAns.got (((((K6.out.2.2.2.1.off1 _ hlt).off1 _ hlt).off1 _ hlt).off1 _ hlt).off1 _ hlt) (Nat.le_trans (Nat.le_succ _) (Nat.le_of_lt hlt)) (by rw [turnM_fst, HQ.out.1]) (by rw [turnM_fst, HQ.out.2])).of HAe.out, ((((K6.out.1.setCell (by simp) _).setCell (by simp) _).setCell (by simp) _).setCell (by simp) _).setCell (by simp) _⟩
    · have HAe : Hid (A = badA 3) := by have := HA2.out; rw [if_pos c2] at this; exact this
      have HB : Hid (Below w.heap.size w w3) := K3.out.1
      have hs5 := K3.out.2.2.1
      have z0 := hs5.c0
      have z1 := hs5.c1
      have z2 := hs5.c2
      have z3 := hs5.c3
      have z4 := hs5.c4
      have zf0 := hs5.fr 0
      have zf1 := hs5.fr 1
      have zf2 := hs5.fr 2
      have zf3 := hs5.fr 3
      have zf4 := hs5.fr 4
      clear HA2 K3 hs5 HSL HS2
      by_cases c3 : by' < -xp
      · have g1 : decide (by' < -xp) = true := by simp; omega
        clear c2
        go_wp2_with fail
        refine bodyPost_ret (v := .agg #[.int .i64 3, .int .i64 0, .int .i64 0, .slice none 0 0, .slice none 0 0]) (by simp [results, Tryz.results21, go_sem, z0, z1, z2, z3, z4]) rfl ?_
        exact ⟨(StoAns.bad _ _ _).of HAe.out, ((((HB.out.setCell (by simp) _).setCell (by simp) _).setCell (by simp) _).setCell (by simp) _).setCell (by simp) _⟩
      · have g1 : decide (by' < -xp) = false := by simp; omega
        have g2 : decide (20 - xp < by') = true := by simp; omega
        clear c2
        go_wp2_with fail
        refine bodyPost_ret (v := .agg #[.int .i64 3, .int .i64 0, .int .i64 0, .slice none 0 0, .slice none 0 0]) (by simp [results, Tryz.results21, go_sem, z0, z1, z2, z3, z4]) rfl ?_
        exact ⟨(StoAns.bad _ _ _).of HAe.out, ((((HB.out.setCell (by simp) _).setCell (by simp) _).setCell (by simp) _).setCell (by simp) _).setCell (by simp) _⟩
  · have HAe : Hid (A = badA c) := by have := HA.out; rw [if_pos hc] at this; exact this.symm
    clear HA HP HSO HX2 HTH HTS htn hkn HL1
    go_enter Tryz.func21, Tryz.ntmps21
    go_wp2_with fail
    rw [← HW.out]
    refine (HKF.out _ K0.out.1).mono ?_
    rintro r0 w1 ⟨rfl, hb1⟩
    have HB : Hid (Below w.heap.size w w1) := K0.out.1.trans (hb1.mono K0.out.1.size)
    have hs5 := K0.out.2.2.1.keep hb1
    have z0 := hs5.c0
    have z1 := hs5.c1
    have z2 := hs5.c2
    have z3 := hs5.c3
    have z4 := hs5.c4
    have zf0 := hs5.fr 0
    have zf1 := hs5.fr 1
    have zf2 := hs5.fr 2
    have zf3 := hs5.fr 3
    have zf4 := hs5.fr 4
    clear K0 HW hb1 HKF e0 e1 e2 e3 hs5
    go_wp2_with fail
    refine bodyPost_ret (v := .agg #[.int .i64 c, .int .i64 0, .int .i64 0, .slice none 0 0, .slice none 0 0]) (by simp [results, Tryz.results21, go_sem, z0, z1, z2, z3, z4]) rfl ?_
    exact ⟨(StoAns.bad _ _ _).of HAe.out, ((((HB.out.setCell (by simp) _).setCell (by simp) _).setCell (by simp) _).setCell (by simp) _).setCell (by simp) _⟩
end Go.Proofs.YtaphofdcoddopaaGreatDoor
/-
  2 cells that may be written.
-/
namespace Go.Proofs.YtaphofdcoddopaaGreatDoor
open Go.ChangeShapes Go.WideShapes Go.ChangeAt Go.RowKit
structure S2 (w : World) (b : Nat) (v0 v1 : Value) : Prop where
  c0 : w.cell? ⟨b, 0, none⟩ = some v0
  c1 : w.cell? ⟨b, 1, none⟩ = some v1
  fr : ∀ o, w.frozen? ⟨b, o, none⟩ = false
  lt : b < w.heap.size
section
variable {w w' : World} {b : Nat} {v0 v1 : Value}
theorem S2.keep (k : S2 w b v0 v1) (hb : Below w.heap.size w w') : S2 w' b v0 v1 :=
  ⟨by rw [hb.cell (p := ⟨b, 0, none⟩) k.lt]; exact k.c0, by rw [hb.cell (p := ⟨b, 1, none⟩) k.lt]; exact k.c1, fun o => by rw [hb.frozen (p := ⟨b, o, none⟩) k.lt]; exact k.fr o, Nat.lt_of_lt_of_le k.lt hb.size⟩
theorem S2.low (k : S2 w b v0 v1) {B : Nat} (hb : Below B w w') (h : b < B) : S2 w' b v0 v1 :=
  ⟨by rw [hb.cell (p := ⟨b, 0, none⟩) h]; exact k.c0, by rw [hb.cell (p := ⟨b, 1, none⟩) h]; exact k.c1, fun o => by rw [hb.frozen (p := ⟨b, o, none⟩) h]; exact k.fr o, Nat.lt_of_lt_of_le k.lt hb.size⟩
theorem S2.new (w : World) (v0 v1 : Value) (t : TypeId) : S2 (w.alloc (.cells #[v0, v1] t)) w.heap.size v0 v1 := ⟨by simp, by simp, fun o => by simp, by simp⟩
theorem S2.off (k : S2 w b v0 v1) {B i : Nat} {x : Value} (h : B ≠ b) : S2 (w.setCell ⟨B, i, none⟩ x) b v0 v1 := by
  have ne : ∀ o : Nat, (⟨B, i, none⟩ : Addr) ≠ ⟨b, o, none⟩ := fun o q => h (congrArg Addr.block q)
  exact ⟨by rw [World.cell?_setCell_other _ _ _ _ (ne _)]; exact k.c0, by rw [World.cell?_setCell_other _ _ _ _ (ne _)]; exact k.c1, fun o => by rw [World.frozen?_setCell]; exact k.fr o, by simpa using k.lt⟩
theorem S2.above {hi : Nat} (k : S2 w b v0 v1) (h : Above hi w w') (hb : hi ≤ b) : S2 w' b v0 v1 :=
  ⟨by rw [h.cell b 0 hb k.lt]; exact k.c0, by rw [h.cell b 1 hb k.lt]; exact k.c1, fun o => by rw [h.frozen b o hb k.lt]; exact k.fr o, Nat.lt_of_lt_of_le k.lt h.size⟩
end
end Go.Proofs.YtaphofdcoddopaaGreatDoor
/-
  Answers that bear names: compared, marked, held.
-/
namespace Go.Proofs.YtaphofdcoddopaaGreatDoor
open Go.ChangeShapes Go.WideShapes Go.ChangeAt Go.RowKit Go.Sort
/-- Where the names lie that are handed back. -/
structure NR where
  a3 : Option Addr
  k3 : Nat
  n3 : Nat
def NR.v (r : NR) : Value := .slice r.a3 r.n3 r.k3
def NIn (W : World) (r : NR) (G : List ByteArray) : Prop := TLV W r.v G
def NSto (W : World) (base hi : Nat) (r : NR) (G : List ByteArray) : Prop := TLV W r.v G ∧ ∀ b, r.v.ownBlock = some b → base ≤ b ∧ b < hi
def NHeld (W : World) (r : NR) (G : List ByteArray) : Prop := TLV W r.v (mkTL 1 G.length)
theorem NIn.keep {W W' : World} {r : NR} {G : List ByteArray} (h : NIn W r G) (hb : Below W.heap.size W W') : NIn W' r G := TLV.below h hb
theorem NSto.below {W W' : World} {base hi : Nat} {r : NR} {G : List ByteArray} (h : NSto W base hi r G) (hb : Below W.heap.size W W') : NSto W' base hi r G := ⟨h.1.below hb, h.2⟩
theorem TLV.out {W W' : World} {F : List Nat} {v : Value} {l : List ByteArray} (h : TLV W v l) (o : Out F W W') (hn : ∀ b, v.ownBlock = some b → b ∉ F) : TLV W' v l := by
  rcases h with h | ⟨g, c, rfl, hg, hi, hf⟩
  · exact .inl h
  · have hg' := hn g rfl
    exact .inr ⟨g, c, rfl, Nat.lt_of_lt_of_le hg o.size, fun i q hq => by rw [o.cell g _ hg hg']; exact hi i q hq, fun q => by rw [o.frozen g q hg hg']; exact hf q⟩
theorem NSto.above {W W' : World} {h0 base hi : Nat} {r : NR} {G : List ByteArray} (h : NSto W base hi r G) (ha : Above h0 W W') (hb : h0 ≤ base) : NSto W' base hi r G :=
  ⟨h.1.out (.of_above ha) (fun b e => by have := (h.2 b e).1; simp; omega), h.2⟩
theorem NHeld.below {W W' : World} {r : NR} {G : List ByteArray} (h : NHeld W r G) (hb : Below W.heap.size W W') : NHeld W' r G := TLV.below h hb
theorem NSto.in {W : World} {base hi : Nat} {r : NR} {G : List ByteArray} (h : NSto W base hi r G) : NIn W r G := h.1
theorem TLV.len {W : World} {a : Option Addr} {n k : Nat} {l : List ByteArray} (h : TLV W (.slice a n k) l) : n = l.length := by
  rcases h with ⟨e, rfl⟩ | ⟨g, c, e, _⟩
  · simp only [Value.slice.injEq] at e; exact e.2.1
  · simp only [Value.slice.injEq] at e; exact e.2.1
structure FitG (G : List ByteArray) : Prop where
  n : G.length ≤ 1000
def nNamE (G : List ByteArray) : Nat := 1 + G.length
theorem eqNamR_r (w : World) (c : Int) (r s : NR) (G : List ByteArray) (f : FitG G) (h : NIn w r G) (k : NIn w s G) :
    Calls Tryz.prog 35 #[.agg #[.int .i64 c, .slice r.a3 r.n3 r.k3], .agg #[.int .i64 c, .slice s.a3 s.n3 s.k3]] w fun e w' => e = .returned (.bool true) ∧ Below w.heap.size w w' := eqNamesResult_lv w c _ _ _ _ _ _ G (by have := f.n; omega) h k
theorem markNamR_r (w : World) (base hi : Nat) (c : Int) (r : NR) (G : List ByteArray) (f : FitG G) (hbs : base ≤ w.heap.size) (h : NSto w base hi r G) :
    Calls Tryz.prog 36 #[.agg #[.int .i64 c, .slice r.a3 r.n3 r.k3], .int .i64 1] w fun e w' => e = .returned (.int .i64 (nNamE G : Int)) ∧ Below base w w' ∧ Above hi w w' ∧ NHeld w' r G := by
  have hn : r.n3 = G.length := TLV.len h.1
  refine (markNamesResult_lv w c r.a3 r.n3 r.k3 G hn f.n h.1 base (fun b e => (h.2 b e).1) hbs).mono ?_
  rintro e w' ⟨h1, h2⟩
  rw [hn] at h1
  have h3 := h2.lv
  rw [show mkTL 1 r.n3 = mkTL 1 G.length from by rw [hn]] at h3
  exact ⟨h1, h2.low, h2.av.above (fun b e => (h.2 b e).2), h3⟩
theorem heldNamR_r (w : World) (c : Int) (r : NR) (G : List ByteArray) (f : FitG G) (h : NHeld w r G) :
    Calls Tryz.prog 37 #[.agg #[.int .i64 c, .slice r.a3 r.n3 r.k3], .int .i64 1] w fun e w' => e = .returned (.int .i64 (nNamE G : Int)) ∧ Below w.heap.size w w' := by
  have hn : r.n3 = G.length := by have := TLV.len h; rw [mkTL_len] at this; exact this
  have h3 : TLV w (.slice r.a3 r.n3 r.k3) (mkTL 1 r.n3) := by rw [show mkTL 1 r.n3 = mkTL 1 G.length from by rw [hn]]; exact h
  have := heldNamesResult_lv w c r.a3 r.n3 r.k3 (by rw [hn]; exact f.n) h3
  rw [show ((1 + r.n3 : Nat) : Int) = (nNamE G : Int) from by rw [hn]; rfl] at this
  exact this
/-- Names that are handed back, with their code. -/
structure NAns where
  c : Int
  g : List ByteArray
def NamAns (A : NAns) (base : Nat) (e : Ending) (w' : World) : Prop := ∃ r : NR, e = .returned (.agg #[.int .i64 A.c, .slice r.a3 r.n3 r.k3]) ∧ NSto w' base w'.heap.size r A.g
end Go.Proofs.YtaphofdcoddopaaGreatDoor
/-
  6 cells that may be written.
-/
namespace Go.Proofs.YtaphofdcoddopaaGreatDoor
open Go.ChangeShapes Go.WideShapes Go.ChangeAt Go.RowKit
structure S6 (w : World) (b : Nat) (v0 v1 v2 v3 v4 v5 : Value) : Prop where
  c0 : w.cell? ⟨b, 0, none⟩ = some v0
  c1 : w.cell? ⟨b, 1, none⟩ = some v1
  c2 : w.cell? ⟨b, 2, none⟩ = some v2
  c3 : w.cell? ⟨b, 3, none⟩ = some v3
  c4 : w.cell? ⟨b, 4, none⟩ = some v4
  c5 : w.cell? ⟨b, 5, none⟩ = some v5
  fr : ∀ o, w.frozen? ⟨b, o, none⟩ = false
  lt : b < w.heap.size
section
variable {w w' : World} {b : Nat} {v0 v1 v2 v3 v4 v5 : Value}
theorem S6.keep (k : S6 w b v0 v1 v2 v3 v4 v5) (hb : Below w.heap.size w w') : S6 w' b v0 v1 v2 v3 v4 v5 :=
  ⟨by rw [hb.cell (p := ⟨b, 0, none⟩) k.lt]; exact k.c0, by rw [hb.cell (p := ⟨b, 1, none⟩) k.lt]; exact k.c1, by rw [hb.cell (p := ⟨b, 2, none⟩) k.lt]; exact k.c2, by rw [hb.cell (p := ⟨b, 3, none⟩) k.lt]; exact k.c3, by rw [hb.cell (p := ⟨b, 4, none⟩) k.lt]; exact k.c4, by rw [hb.cell (p := ⟨b, 5, none⟩) k.lt]; exact k.c5, fun o => by rw [hb.frozen (p := ⟨b, o, none⟩) k.lt]; exact k.fr o, Nat.lt_of_lt_of_le k.lt hb.size⟩
theorem S6.low (k : S6 w b v0 v1 v2 v3 v4 v5) {B : Nat} (hb : Below B w w') (h : b < B) : S6 w' b v0 v1 v2 v3 v4 v5 :=
  ⟨by rw [hb.cell (p := ⟨b, 0, none⟩) h]; exact k.c0, by rw [hb.cell (p := ⟨b, 1, none⟩) h]; exact k.c1, by rw [hb.cell (p := ⟨b, 2, none⟩) h]; exact k.c2, by rw [hb.cell (p := ⟨b, 3, none⟩) h]; exact k.c3, by rw [hb.cell (p := ⟨b, 4, none⟩) h]; exact k.c4, by rw [hb.cell (p := ⟨b, 5, none⟩) h]; exact k.c5, fun o => by rw [hb.frozen (p := ⟨b, o, none⟩) h]; exact k.fr o, Nat.lt_of_lt_of_le k.lt hb.size⟩
theorem S6.new (w : World) (v0 v1 v2 v3 v4 v5 : Value) (t : TypeId) : S6 (w.alloc (.cells #[v0, v1, v2, v3, v4, v5] t)) w.heap.size v0 v1 v2 v3 v4 v5 := ⟨by simp, by simp, by simp, by simp, by simp, by simp, fun o => by simp, by simp⟩
theorem S6.off (k : S6 w b v0 v1 v2 v3 v4 v5) {B i : Nat} {x : Value} (h : B ≠ b) : S6 (w.setCell ⟨B, i, none⟩ x) b v0 v1 v2 v3 v4 v5 := by
  have ne : ∀ o : Nat, (⟨B, i, none⟩ : Addr) ≠ ⟨b, o, none⟩ := fun o q => h (congrArg Addr.block q)
  exact ⟨by rw [World.cell?_setCell_other _ _ _ _ (ne _)]; exact k.c0, by rw [World.cell?_setCell_other _ _ _ _ (ne _)]; exact k.c1, by rw [World.cell?_setCell_other _ _ _ _ (ne _)]; exact k.c2, by rw [World.cell?_setCell_other _ _ _ _ (ne _)]; exact k.c3, by rw [World.cell?_setCell_other _ _ _ _ (ne _)]; exact k.c4, by rw [World.cell?_setCell_other _ _ _ _ (ne _)]; exact k.c5, fun o => by rw [World.frozen?_setCell]; exact k.fr o, by simpa using k.lt⟩
theorem S6.above {hi : Nat} (k : S6 w b v0 v1 v2 v3 v4 v5) (h : Above hi w w') (hb : hi ≤ b) : S6 w' b v0 v1 v2 v3 v4 v5 :=
  ⟨by rw [h.cell b 0 hb k.lt]; exact k.c0, by rw [h.cell b 1 hb k.lt]; exact k.c1, by rw [h.cell b 2 hb k.lt]; exact k.c2, by rw [h.cell b 3 hb k.lt]; exact k.c3, by rw [h.cell b 4 hb k.lt]; exact k.c4, by rw [h.cell b 5 hb k.lt]; exact k.c5, fun o => by rw [h.frozen b o hb k.lt]; exact k.fr o, Nat.lt_of_lt_of_le k.lt h.size⟩
end
end Go.Proofs.YtaphofdcoddopaaGreatDoor
/-
  Answers that bear a store and texts: where they lie.
-/
namespace Go.Proofs.YtaphofdcoddopaaGreatDoor
open Go.ChangeShapes Go.WideShapes Go.ChangeAt Go.RowKit Go.Sort
structure QR where
  s : SR
  a3 : Option Addr
  k3 : Nat
  n3 : Nat
def QR.v (r : QR) : Value := .slice r.a3 r.n3 r.k3
def QIn (W : World) (r : QR) (L1 L2 : List Ent) (G : List ByteArray) : Prop := RIn W r.s L1 L2 ∧ TLV W r.v G
def QSto (W : World) (base hi : Nat) (r : QR) (L1 L2 : List Ent) (G : List ByteArray) : Prop := ∃ m1 m2, m1.map Prod.fst = L1 ∧ m2.map Prod.fst = L2 ∧ StoLV W base r.s.t r.s.k m1 m2 ∧ (∀ b ∈ fp r.s.t m1 ++ fp r.s.k m2, b < hi) ∧ TLV W r.v G ∧ (∀ b, r.v.ownBlock = some b → base ≤ b ∧ b < hi ∧ b ∉ fp r.s.t m1 ∧ b ∉ fp r.s.k m2)
def QHeld (W : World) (r : QR) (L1 L2 : List Ent) (G : List ByteArray) : Prop := RHeld W r.s L1 L2 ∧ TLV W r.v (mkTL (nStoE L1 L2) G.length)
theorem QIn.keep {W W' : World} {r : QR} {L1 L2 : List Ent} {G : List ByteArray} (h : QIn W r L1 L2 G) (hb : Below W.heap.size W W') : QIn W' r L1 L2 G := ⟨h.1.keep hb, h.2.below hb⟩
theorem QSto.below {W W' : World} {base hi : Nat} {r : QR} {L1 L2 : List Ent} {G : List ByteArray} (h : QSto W base hi r L1 L2 G) (hb : Below W.heap.size W W') : QSto W' base hi r L1 L2 G := by
  obtain ⟨m1, m2, e1, e2, h1, h2, h3, h4⟩ := h
  exact ⟨m1, m2, e1, e2, h1.below hb, h2, h3.below hb, h4⟩
theorem QSto.above {W W' : World} {h0 base hi : Nat} {r : QR} {L1 L2 : List Ent} {G : List ByteArray} (h : QSto W base hi r L1 L2 G) (ha : Above h0 W W') (hb : h0 ≤ base) : QSto W' base hi r L1 L2 G := by
  obtain ⟨m1, m2, e1, e2, h1, h2, h3, h4⟩ := h
  exact ⟨m1, m2, e1, e2, h1.above ha hb, h2, h3.out (.of_above ha) (fun b e => by have := (h4 b e).1; simp; omega), h4⟩
theorem QHeld.below {W W' : World} {r : QR} {L1 L2 : List Ent} {G : List ByteArray} (h : QHeld W r L1 L2 G) (hb : Below W.heap.size W W') : QHeld W' r L1 L2 G := ⟨h.1.below hb, h.2.below hb⟩
theorem QSto.in {W : World} {base hi : Nat} {r : QR} {L1 L2 : List Ent} {G : List ByteArray} (h : QSto W base hi r L1 L2 G) : QIn W r L1 L2 G := by
  obtain ⟨m1, m2, e1, e2, h1, h2, h3, h4⟩ := h
  exact ⟨RSto.in (base := base) (hi := hi) ⟨m1, m2, e1, e2, h1, h2⟩, h3⟩
theorem QSto.mk {W : World} {base : Nat} {r : QR} {L1 L2 : List Ent} {G : List ByteArray} {m1 m2 : List (Ent × EntR)} (e1 : m1.map Prod.fst = L1) (e2 : m2.map Prod.fst = L2) (h : StoLV W base r.s.t r.s.k m1 m2) (ht : TLV W r.v G) (hn : ∀ b, r.v.ownBlock = some b → base ≤ b ∧ b ∉ fp r.s.t m1 ∧ b ∉ fp r.s.k m2) : QSto W base W.heap.size r L1 L2 G :=
  ⟨m1, m2, e1, e2, h, fun b hb => by
    rcases List.mem_append.1 hb with hb | hb
    · exact h.t.lt hb
    · exact h.k.lt hb, ht, fun b e => ⟨(hn b e).1, ht.block_lt b e, (hn b e).2.1, (hn b e).2.2⟩⟩
def nPurE (L1 L2 : List Ent) (G : List ByteArray) : Nat := nStoE L1 L2 + G.length
/-- A store and texts that are handed back, with their code. -/
structure QAns where
  c : Int
  bu : Int
  gu : Int
  t : List Ent
  k : List Ent
  g : List ByteArray
def PurAns (A : QAns) (base : Nat) (e : Ending) (w' : World) : Prop := ∃ r : QR, e = .returned (.agg #[.int .i64 A.c, .int .i64 A.bu, .int .i64 A.gu, .slice r.s.a1 r.s.n1 r.s.k1, .slice r.s.a2 r.s.n2 r.s.k2, .slice r.a3 r.n3 r.k3]) ∧ QSto w' base w'.heap.size r A.t A.k A.g
def badQ (c : Int) : QAns := ⟨c, 0, 0, [], [], []⟩
theorem PurAns.of {A B : QAns} {base : Nat} {e : Ending} {w' : World} (h : PurAns B base e w') (he : A = B) : PurAns A base e w' := he ▸ h
theorem PurAns.got {c bu gu : Int} {t k : List Ent} {G : List ByteArray} {base b : Nat} {a1 a2 a3 : Option Addr} {n1 k1 n2 k2 n3 k3 : Nat} {w' : World} {m1 m2 : List (Ent × EntR)} (h : StoLV w' b (.slice a1 n1 k1) (.slice a2 n2 k2) m1 m2) (hb : base ≤ b) (e1 : m1.map Prod.fst = t) (e2 : m2.map Prod.fst = k) (ht : TLV w' (.slice a3 n3 k3) G) (hn : ∀ q, (Value.slice a3 n3 k3).ownBlock = some q → base ≤ q ∧ q ∉ fp (.slice a1 n1 k1) m1 ∧ q ∉ fp (.slice a2 n2 k2) m2) : PurAns ⟨c, bu, gu, t, k, G⟩ base (.returned (.agg #[.int .i64 c, .int .i64 bu, .int .i64 gu, .slice a1 n1 k1, .slice a2 n2 k2, .slice a3 n3 k3])) w' :=
  ⟨⟨⟨a1, k1, n1, a2, k2, n2⟩, a3, k3, n3⟩, rfl, QSto.mk (r := ⟨⟨a1, k1, n1, a2, k2, n2⟩, a3, k3, n3⟩) e1 e2 (h.lower hb) ht hn⟩
theorem PurAns.bad (c : Int) (base : Nat) (w' : World) : PurAns (badQ c) base (.returned (.agg #[.int .i64 c, .int .i64 0, .int .i64 0, .slice none 0 0, .slice none 0 0, .slice none 0 0])) w' := PurAns.got (StoLV.none w' base) (Nat.le_refl _) rfl rfl (.inl ⟨rfl, rfl⟩) (fun q e => by cases e)
end Go.Proofs.YtaphofdcoddopaaGreatDoor
/-
  Answers of type PurgeResult: compared, marked, held.
-/
namespace Go.Proofs.YtaphofdcoddopaaGreatDoor
open Go.ChangeShapes Go.WideShapes Go.ChangeAt Go.RowKit Go.Sort
set_option maxHeartbeats 4000000 in
theorem eqPurR_r (w : World) (c bu gu : Int) (r s : QR) (L1 L2 : List Ent) (G : List ByteArray) (f1 : FitE L1) (f2 : FitE L2) (f3 : FitG G) (h : QIn w r L1 L2 G) (k : QIn w s L1 L2 G) :
    Calls Tryz.prog 40 #[.agg #[.int .i64 c, .int .i64 bu, .int .i64 gu, .slice r.s.a1 r.s.n1 r.s.k1, .slice r.s.a2 r.s.n2 r.s.k2, .slice r.a3 r.n3 r.k3], .agg #[.int .i64 c, .int .i64 bu, .int .i64 gu, .slice s.s.a1 s.s.n1 s.s.k1, .slice s.s.a2 s.s.n2 s.s.k2, .slice s.a3 s.n3 s.k3]] w fun e w' => e = .returned (.bool true) ∧ Below w.heap.size w w' := by
  have HC : Hid (∀ X, Below w.heap.size w X → Calls Tryz.prog 16 #[.agg #[.int .i64 bu, .int .i64 gu, .slice r.s.a1 r.s.n1 r.s.k1, .slice r.s.a2 r.s.n2 r.s.k2], .agg #[.int .i64 bu, .int .i64 gu, .slice s.s.a1 s.s.n1 s.s.k1, .slice s.s.a2 s.s.n2 s.s.k2]] X fun e w' => e = .returned (.bool true) ∧ Below X.heap.size X w') := fun X hX => eqSto_r X bu gu r.s s.s L1 L2 f1 f2 (h.1.keep hX) (k.1.keep hX)
  have HD : Hid (∀ X, Below w.heap.size w X → Calls Tryz.prog 79 #[.slice r.a3 r.n3 r.k3, .slice s.a3 s.n3 s.k3] X fun e w' => e = .returned (.bool true) ∧ Below X.heap.size X w') := fun X hX => eqStringS_lv X _ _ G (by have := f3.n; omega) (h.2.below hX) (k.2.below hX)
  obtain ⟨W, hW⟩ : ∃ W, W = (w.alloc (.cells #[.int .i64 c, .int .i64 bu, .int .i64 gu, .slice r.s.a1 r.s.n1 r.s.k1, .slice r.s.a2 r.s.n2 r.s.k2, .slice r.a3 r.n3 r.k3] 67)).alloc (.cells #[.int .i64 c, .int .i64 bu, .int .i64 gu, .slice s.s.a1 s.s.n1 s.s.k1, .slice s.s.a2 s.s.n2 s.s.k2, .slice s.a3 s.n3 s.k3] 67) := ⟨_, rfl⟩
  have HW : Hid (W = (w.alloc (.cells #[.int .i64 c, .int .i64 bu, .int .i64 gu, .slice r.s.a1 r.s.n1 r.s.k1, .slice r.s.a2 r.s.n2 r.s.k2, .slice r.a3 r.n3 r.k3] 67)).alloc (.cells #[.int .i64 c, .int .i64 bu, .int .i64 gu, .slice s.s.a1 s.s.n1 s.s.k1, .slice s.s.a2 s.s.n2 s.s.k2, .slice s.a3 s.n3 s.k3] 67)) := hW
  have K0 : Hid (Below w.heap.size w W ∧ W.cell? ⟨w.heap.size, 5, none⟩ = some (.slice r.a3 r.n3 r.k3) ∧ W.cell? ⟨w.heap.size + 1, 5, none⟩ = some (.slice s.a3 s.n3 s.k3) ∧ w.heap.size + 2 = W.heap.size) := by
    have s1 := S6.new w (.int .i64 c) (.int .i64 bu) (.int .i64 gu) (.slice r.s.a1 r.s.n1 r.s.k1) (.slice r.s.a2 r.s.n2 r.s.k2) (.slice r.a3 r.n3 r.k3) 67
    have s2 := S6.new (w.alloc (.cells #[.int .i64 c, .int .i64 bu, .int .i64 gu, .slice r.s.a1 r.s.n1 r.s.k1, .slice r.s.a2 r.s.n2 r.s.k2, .slice r.a3 r.n3 r.k3] 67)) (.int .i64 c) (.int .i64 bu) (.int .i64 gu) (.slice s.s.a1 s.s.n1 s.s.k1) (.slice s.s.a2 s.s.n2 s.s.k2) (.slice s.a3 s.n3 s.k3) 67
    rw [World.size_alloc] at s2
    rw [hW]
    exact ⟨((Below.refl _ _).alloc (Nat.le_refl _) _).alloc (by simp) _, (s1.keep ((Below.refl _ _).alloc (Nat.le_refl _) _)).c5, s2.c5, by simp⟩
  clear h k f1 f2 f3 hW
  go_enter Tryz.func40, Tryz.ntmps40
  go_wp2_with fail
  rw [← HW.out]
  refine (HC.out _ K0.out.1).mono ?_
  rintro e w1 ⟨rfl, hb1⟩
  have B1 : Hid (Below w.heap.size w w1) := K0.out.1.trans (hb1.mono K0.out.1.size)
  have y5 : w1.cell? ⟨w.heap.size, 5, none⟩ = some (.slice r.a3 r.n3 r.k3) := by rw [hb1.cell (p := ⟨w.heap.size, 5, none⟩) (by have := K0.out.2.2.2; simp only; omega)]; exact K0.out.2.1
  have z5 : w1.cell? ⟨w.heap.size + 1, 5, none⟩ = some (.slice s.a3 s.n3 s.k3) := by rw [hb1.cell (p := ⟨w.heap.size + 1, 5, none⟩) (by have := K0.out.2.2.2; simp only; omega)]; exact K0.out.2.2.1
  clear hb1 K0 HC HW
  go_wp2_with fail
  refine (HD.out _ B1.out).mono ?_
  rintro e w2 ⟨rfl, hb2⟩
  have B2 : Hid (Below w.heap.size w w2) := B1.out.trans (hb2.mono B1.out.size)
  clear hb2 B1 HD y5 z5
  go_wp2_with fail
  go_ret
  exact ⟨rfl, B2.out⟩
set_option maxHeartbeats 4000000 in
theorem markPurR_r (w : World) (base hi : Nat) (c bu gu : Int) (r : QR) (L1 L2 : List Ent) (G : List ByteArray) (f1 : FitE L1) (f2 : FitE L2) (f3 : FitG G) (hhi : hi ≤ w.heap.size) (hbs : base ≤ w.heap.size) (h : QSto w base hi r L1 L2 G) :
    Calls Tryz.prog 41 #[.agg #[.int .i64 c, .int .i64 bu, .int .i64 gu, .slice r.s.a1 r.s.n1 r.s.k1, .slice r.s.a2 r.s.n2 r.s.k2, .slice r.a3 r.n3 r.k3], .int .i64 1] w fun e w' => e = .returned (.int .i64 (nPurE L1 L2 G : Int)) ∧ Below base w w' ∧ Above hi w w' ∧ QHeld w' r L1 L2 G := by
  obtain ⟨W, hW⟩ : ∃ W, W = w.alloc (.cells #[.int .i64 c, .int .i64 bu, .int .i64 gu, .slice r.s.a1 r.s.n1 r.s.k1, .slice r.s.a2 r.s.n2 r.s.k2, .slice r.a3 r.n3 r.k3] 67) := ⟨_, rfl⟩
  have HW : Hid (W = w.alloc (.cells #[.int .i64 c, .int .i64 bu, .int .i64 gu, .slice r.s.a1 r.s.n1 r.s.k1, .slice r.s.a2 r.s.n2 r.s.k2, .slice r.a3 r.n3 r.k3] 67)) := hW
  have bW : Below w.heap.size w W := by rw [hW]; exact (Below.refl _ _).alloc (Nat.le_refl _) _
  have sW : W.cell? ⟨w.heap.size, 5, none⟩ = some (.slice r.a3 r.n3 r.k3) ∧ w.heap.size < W.heap.size := by rw [hW]; simp
  have hQ := h.below bW
  obtain ⟨m1, m2, e1, e2, h1, h2, h3, h4⟩ := hQ
  have hn : r.n3 = G.length := TLV.len h3
  have C1 : Hid (Calls Tryz.prog 17 #[.agg #[.int .i64 bu, .int .i64 gu, .slice r.s.a1 r.s.n1 r.s.k1, .slice r.s.a2 r.s.n2 r.s.k2], .int .i64 1] W fun e w' => e = .returned (.int .i64 (nStoE L1 L2 : Int)) ∧ w'.cell? ⟨w.heap.size, 5, none⟩ = some (.slice r.a3 r.n3 r.k3) ∧ (StoHeld w' base r.s.t r.s.k m1 m2 ∧ TLV w' r.v G ∧ Below base w w' ∧ Above hi w w' ∧ base ≤ w'.heap.size)) := by
    refine (markSto_o W base bu gu r.s.a1 r.s.a2 r.s.k1 r.s.k2 r.s.n1 r.s.n2 m1 m2 (f1.l e1) (f2.l e2) (by have := bW.size; omega) h1).mono ?_
    rintro e w' ⟨q1, q2, q3, q4⟩
    rw [nSto_E e1 e2] at q1
    refine ⟨q1, ?_, q2, h3.out q3 (fun b e hm => ?_), (bW.mono hbs).trans q4, (Above.below bW).trans (q3.above h2), by have := q4.size; have := bW.size; omega⟩
    · rw [q3.cell w.heap.size 5 sW.2 (fun hm => by have := h2 _ hm; omega)]; exact sW.1
    · rcases List.mem_append.1 hm with hm | hm
      · exact (h4 b e).2.2.1 hm
      · exact (h4 b e).2.2.2 hm
  have HC2 : Hid (∀ X, StoHeld X base r.s.t r.s.k m1 m2 → TLV X r.v G → Below base w X → Above hi w X → base ≤ X.heap.size → Calls Tryz.prog 85 #[.slice r.a3 r.n3 r.k3, .int .i64 (nStoE L1 L2 : Int)] X fun e w' => e = .returned (.int .i64 (nPurE L1 L2 G : Int)) ∧ Below base w w' ∧ Above hi w w' ∧ QHeld w' r L1 L2 G) := fun X q1 q2 q3 q4 q5 => by
    have a1 := nStoE_le f1 f2
    have a2 := nSto_ge m1 m2
    rw [nSto_E e1 e2] at a2
    refine (markStringS_lvk X (.slice r.a3 r.n3 r.k3) G (nStoE L1 L2) a2 (by omega) (by have := f3.n; omega) q2 base (fun b e => (h4 b e).1) q5).mono ?_
    rintro e w' ⟨t1, t2, t3, t4⟩
    refine ⟨t1, q3.trans t4, q4.trans (t3.above fun b e => (h4 b e).2.1), ⟨m1, m2, base, e1, e2, ?_⟩, t2⟩
    refine StoLV.out q1 (Out.hav t3) (fun b hb hm => ?_) (fun b hb hm => ?_)
    · rw [fp_mkEs] at hm; exact (h4 b (by simpa [QR.v] using hb)).2.2.1 hm
    · rw [fp_mkEs] at hm; exact (h4 b (by simpa [QR.v] using hb)).2.2.2 hm
  clear hW bW sW h h1 h2 h3 h4 f1 f2 f3 hbs hhi hn
  generalize (nStoE L1 L2 : Int) = q1 at *
  generalize (nPurE L1 L2 G : Int) = q2 at *
  go_enter Tryz.func41, Tryz.ntmps41
  go_wp2_with fail
  rw [← HW.out]
  refine C1.out.mono ?_
  rintro e w1 ⟨rfl, x5, h1, h2, h3, h4, h5⟩
  have CC := HC2.out w1 h1 h2 h3 h4 h5
  clear C1 HC2 HW h1 h2 h3 h4 h5
  go_wp2_with fail
  refine CC.mono ?_
  rintro e w2 ⟨rfl, h6⟩
  have H6 : Hid _ := h6
  clear CC x5 h6
  go_wp2_with fail
  go_ret
  exact ⟨rfl, H6.out⟩
set_option maxHeartbeats 4000000 in
theorem heldPurR_r (w : World) (c bu gu : Int) (r : QR) (L1 L2 : List Ent) (G : List ByteArray) (f1 : FitE L1) (f2 : FitE L2) (f3 : FitG G) (h : QHeld w r L1 L2 G) :
    Calls Tryz.prog 42 #[.agg #[.int .i64 c, .int .i64 bu, .int .i64 gu, .slice r.s.a1 r.s.n1 r.s.k1, .slice r.s.a2 r.s.n2 r.s.k2, .slice r.a3 r.n3 r.k3], .int .i64 1] w fun e w' => e = .returned (.int .i64 (nPurE L1 L2 G : Int)) ∧ Below w.heap.size w w' := by
  obtain ⟨W, hW⟩ : ∃ W, W = w.alloc (.cells #[.int .i64 c, .int .i64 bu, .int .i64 gu, .slice r.s.a1 r.s.n1 r.s.k1, .slice r.s.a2 r.s.n2 r.s.k2, .slice r.a3 r.n3 r.k3] 67) := ⟨_, rfl⟩
  have HW : Hid (W = w.alloc (.cells #[.int .i64 c, .int .i64 bu, .int .i64 gu, .slice r.s.a1 r.s.n1 r.s.k1, .slice r.s.a2 r.s.n2 r.s.k2, .slice r.a3 r.n3 r.k3] 67)) := hW
  have bW : Below w.heap.size w W := by rw [hW]; exact (Below.refl _ _).alloc (Nat.le_refl _) _
  have sW : W.cell? ⟨w.heap.size, 5, none⟩ = some (.slice r.a3 r.n3 r.k3) ∧ w.heap.size < W.heap.size := by rw [hW]; simp
  have hn : r.n3 = G.length := by have := TLV.len h.2; rw [mkTL_len] at this; exact this
  have C1 : Hid (Calls Tryz.prog 57 #[.agg #[.int .i64 bu, .int .i64 gu, .slice r.s.a1 r.s.n1 r.s.k1, .slice r.s.a2 r.s.n2 r.s.k2], .int .i64 1] W fun e w' => e = .returned (.int .i64 (nStoE L1 L2 : Int)) ∧ w'.cell? ⟨w.heap.size, 5, none⟩ = some (.slice r.a3 r.n3 r.k3) ∧ Below w.heap.size w w') := by
    refine (heldSto_r W bu gu r.s L1 L2 f1 f2 (h.1.below bW)).mono ?_
    rintro e w' ⟨q1, q2⟩
    exact ⟨q1, by rw [q2.cell (p := ⟨w.heap.size, 5, none⟩) sW.2]; exact sW.1, bW.trans (q2.mono bW.size)⟩
  have HC2 : Hid (∀ X, Below w.heap.size w X → Calls Tryz.prog 86 #[.slice r.a3 r.n3 r.k3, .int .i64 (nStoE L1 L2 : Int)] X fun e w' => e = .returned (.int .i64 (nPurE L1 L2 G : Int)) ∧ Below w.heap.size w w') := fun X hb => by
    have a1 := nStoE_le f1 f2
    have a2 : 1 ≤ nStoE L1 L2 := by
      obtain ⟨m1, m2, _, e1, e2, _⟩ := h.1
      have := nSto_ge m1 m2
      rw [nSto_E e1 e2] at this
      exact this
    refine (heldStringS_lvk X (.slice r.a3 r.n3 r.k3) G.length (nStoE L1 L2) a2 (by omega) (by have := f3.n; omega) (h.2.below hb)).mono ?_
    rintro e w' ⟨h1, h2⟩
    exact ⟨h1, hb.trans (h2.mono hb.size)⟩
  have g1 : ¬ (nStoE L1 L2 : Int) < 0 := by omega
  have g2 : ¬ (nPurE L1 L2 G : Int) < 0 := by omega
  clear hW bW sW h f1 f2 f3 hn
  generalize (nStoE L1 L2 : Int) = q1 at *
  generalize (nPurE L1 L2 G : Int) = q2 at *
  go_enter Tryz.func42, Tryz.ntmps42
  go_wp2_with fail
  rw [← HW.out]
  refine C1.out.mono ?_
  rintro e w1 ⟨rfl, x5, h4⟩
  have CC := HC2.out w1 h4
  clear C1 HC2 HW h4
  go_wp2_with fail
  refine CC.mono ?_
  rintro e w2 ⟨rfl, h6⟩
  have H6 : Hid _ := h6
  clear CC x5 h6
  go_wp2_with fail
  go_ret
  exact ⟨rfl, H6.out⟩
end Go.Proofs.YtaphofdcoddopaaGreatDoor
/-
  Answers of type PutResult: compared, marked, held.
-/
namespace Go.Proofs.YtaphofdcoddopaaGreatDoor
open Go.ChangeShapes Go.WideShapes Go.ChangeAt Go.RowKit Go.Sort
set_option maxHeartbeats 4000000 in
theorem eqPutR_r (w : World) (c bu gu : Int) (r s : QR) (L1 L2 : List Ent) (G : List ByteArray) (f1 : FitE L1) (f2 : FitE L2) (f3 : FitG G) (h : QIn w r L1 L2 G) (k : QIn w s L1 L2 G) :
    Calls Tryz.prog 28 #[.agg #[.int .i64 c, .int .i64 bu, .int .i64 gu, .slice r.s.a1 r.s.n1 r.s.k1, .slice r.s.a2 r.s.n2 r.s.k2, .slice r.a3 r.n3 r.k3], .agg #[.int .i64 c, .int .i64 bu, .int .i64 gu, .slice s.s.a1 s.s.n1 s.s.k1, .slice s.s.a2 s.s.n2 s.s.k2, .slice s.a3 s.n3 s.k3]] w fun e w' => e = .returned (.bool true) ∧ Below w.heap.size w w' := by
  have HC : Hid (∀ X, Below w.heap.size w X → Calls Tryz.prog 16 #[.agg #[.int .i64 bu, .int .i64 gu, .slice r.s.a1 r.s.n1 r.s.k1, .slice r.s.a2 r.s.n2 r.s.k2], .agg #[.int .i64 bu, .int .i64 gu, .slice s.s.a1 s.s.n1 s.s.k1, .slice s.s.a2 s.s.n2 s.s.k2]] X fun e w' => e = .returned (.bool true) ∧ Below X.heap.size X w') := fun X hX => eqSto_r X bu gu r.s s.s L1 L2 f1 f2 (h.1.keep hX) (k.1.keep hX)
  have HD : Hid (∀ X, Below w.heap.size w X → Calls Tryz.prog 79 #[.slice r.a3 r.n3 r.k3, .slice s.a3 s.n3 s.k3] X fun e w' => e = .returned (.bool true) ∧ Below X.heap.size X w') := fun X hX => eqStringS_lv X _ _ G (by have := f3.n; omega) (h.2.below hX) (k.2.below hX)
  obtain ⟨W, hW⟩ : ∃ W, W = (w.alloc (.cells #[.int .i64 c, .int .i64 bu, .int .i64 gu, .slice r.s.a1 r.s.n1 r.s.k1, .slice r.s.a2 r.s.n2 r.s.k2, .slice r.a3 r.n3 r.k3] 49)).alloc (.cells #[.int .i64 c, .int .i64 bu, .int .i64 gu, .slice s.s.a1 s.s.n1 s.s.k1, .slice s.s.a2 s.s.n2 s.s.k2, .slice s.a3 s.n3 s.k3] 49) := ⟨_, rfl⟩
  have HW : Hid (W = (w.alloc (.cells #[.int .i64 c, .int .i64 bu, .int .i64 gu, .slice r.s.a1 r.s.n1 r.s.k1, .slice r.s.a2 r.s.n2 r.s.k2, .slice r.a3 r.n3 r.k3] 49)).alloc (.cells #[.int .i64 c, .int .i64 bu, .int .i64 gu, .slice s.s.a1 s.s.n1 s.s.k1, .slice s.s.a2 s.s.n2 s.s.k2, .slice s.a3 s.n3 s.k3] 49)) := hW
  have K0 : Hid (Below w.heap.size w W ∧ W.cell? ⟨w.heap.size, 5, none⟩ = some (.slice r.a3 r.n3 r.k3) ∧ W.cell? ⟨w.heap.size + 1, 5, none⟩ = some (.slice s.a3 s.n3 s.k3) ∧ w.heap.size + 2 = W.heap.size) := by
    have s1 := S6.new w (.int .i64 c) (.int .i64 bu) (.int .i64 gu) (.slice r.s.a1 r.s.n1 r.s.k1) (.slice r.s.a2 r.s.n2 r.s.k2) (.slice r.a3 r.n3 r.k3) 49
    have s2 := S6.new (w.alloc (.cells #[.int .i64 c, .int .i64 bu, .int .i64 gu, .slice r.s.a1 r.s.n1 r.s.k1, .slice r.s.a2 r.s.n2 r.s.k2, .slice r.a3 r.n3 r.k3] 49)) (.int .i64 c) (.int .i64 bu) (.int .i64 gu) (.slice s.s.a1 s.s.n1 s.s.k1) (.slice s.s.a2 s.s.n2 s.s.k2) (.slice s.a3 s.n3 s.k3) 49
    rw [World.size_alloc] at s2
    rw [hW]
    exact ⟨((Below.refl _ _).alloc (Nat.le_refl _) _).alloc (by simp) _, (s1.keep ((Below.refl _ _).alloc (Nat.le_refl _) _)).c5, s2.c5, by simp⟩
  clear h k f1 f2 f3 hW
  go_enter Tryz.func28, Tryz.ntmps28
  go_wp2_with fail
  rw [← HW.out]
  refine (HC.out _ K0.out.1).mono ?_
  rintro e w1 ⟨rfl, hb1⟩
  have B1 : Hid (Below w.heap.size w w1) := K0.out.1.trans (hb1.mono K0.out.1.size)
  have y5 : w1.cell? ⟨w.heap.size, 5, none⟩ = some (.slice r.a3 r.n3 r.k3) := by rw [hb1.cell (p := ⟨w.heap.size, 5, none⟩) (by have := K0.out.2.2.2; simp only; omega)]; exact K0.out.2.1
  have z5 : w1.cell? ⟨w.heap.size + 1, 5, none⟩ = some (.slice s.a3 s.n3 s.k3) := by rw [hb1.cell (p := ⟨w.heap.size + 1, 5, none⟩) (by have := K0.out.2.2.2; simp only; omega)]; exact K0.out.2.2.1
  clear hb1 K0 HC HW
  go_wp2_with fail
  refine (HD.out _ B1.out).mono ?_
  rintro e w2 ⟨rfl, hb2⟩
  have B2 : Hid (Below w.heap.size w w2) := B1.out.trans (hb2.mono B1.out.size)
  clear hb2 B1 HD y5 z5
  go_wp2_with fail
  go_ret
  exact ⟨rfl, B2.out⟩
set_option maxHeartbeats 4000000 in
theorem markPutR_r (w : World) (base hi : Nat) (c bu gu : Int) (r : QR) (L1 L2 : List Ent) (G : List ByteArray) (f1 : FitE L1) (f2 : FitE L2) (f3 : FitG G) (hhi : hi ≤ w.heap.size) (hbs : base ≤ w.heap.size) (h : QSto w base hi r L1 L2 G) :
    Calls Tryz.prog 31 #[.agg #[.int .i64 c, .int .i64 bu, .int .i64 gu, .slice r.s.a1 r.s.n1 r.s.k1, .slice r.s.a2 r.s.n2 r.s.k2, .slice r.a3 r.n3 r.k3], .int .i64 1] w fun e w' => e = .returned (.int .i64 (nPurE L1 L2 G : Int)) ∧ Below base w w' ∧ Above hi w w' ∧ QHeld w' r L1 L2 G := by
  obtain ⟨W, hW⟩ : ∃ W, W = w.alloc (.cells #[.int .i64 c, .int .i64 bu, .int .i64 gu, .slice r.s.a1 r.s.n1 r.s.k1, .slice r.s.a2 r.s.n2 r.s.k2, .slice r.a3 r.n3 r.k3] 49) := ⟨_, rfl⟩
  have HW : Hid (W = w.alloc (.cells #[.int .i64 c, .int .i64 bu, .int .i64 gu, .slice r.s.a1 r.s.n1 r.s.k1, .slice r.s.a2 r.s.n2 r.s.k2, .slice r.a3 r.n3 r.k3] 49)) := hW
  have bW : Below w.heap.size w W := by rw [hW]; exact (Below.refl _ _).alloc (Nat.le_refl _) _
  have sW : W.cell? ⟨w.heap.size, 5, none⟩ = some (.slice r.a3 r.n3 r.k3) ∧ w.heap.size < W.heap.size := by rw [hW]; simp
  have hQ := h.below bW
  obtain ⟨m1, m2, e1, e2, h1, h2, h3, h4⟩ := hQ
  have hn : r.n3 = G.length := TLV.len h3
  have C1 : Hid (Calls Tryz.prog 17 #[.agg #[.int .i64 bu, .int .i64 gu, .slice r.s.a1 r.s.n1 r.s.k1, .slice r.s.a2 r.s.n2 r.s.k2], .int .i64 1] W fun e w' => e = .returned (.int .i64 (nStoE L1 L2 : Int)) ∧ w'.cell? ⟨w.heap.size, 5, none⟩ = some (.slice r.a3 r.n3 r.k3) ∧ (StoHeld w' base r.s.t r.s.k m1 m2 ∧ TLV w' r.v G ∧ Below base w w' ∧ Above hi w w' ∧ base ≤ w'.heap.size)) := by
    refine (markSto_o W base bu gu r.s.a1 r.s.a2 r.s.k1 r.s.k2 r.s.n1 r.s.n2 m1 m2 (f1.l e1) (f2.l e2) (by have := bW.size; omega) h1).mono ?_
    rintro e w' ⟨q1, q2, q3, q4⟩
    rw [nSto_E e1 e2] at q1
    refine ⟨q1, ?_, q2, h3.out q3 (fun b e hm => ?_), (bW.mono hbs).trans q4, (Above.below bW).trans (q3.above h2), by have := q4.size; have := bW.size; omega⟩
    · rw [q3.cell w.heap.size 5 sW.2 (fun hm => by have := h2 _ hm; omega)]; exact sW.1
    · rcases List.mem_append.1 hm with hm | hm
      · exact (h4 b e).2.2.1 hm
      · exact (h4 b e).2.2.2 hm
  have HC2 : Hid (∀ X, StoHeld X base r.s.t r.s.k m1 m2 → TLV X r.v G → Below base w X → Above hi w X → base ≤ X.heap.size → Calls Tryz.prog 85 #[.slice r.a3 r.n3 r.k3, .int .i64 (nStoE L1 L2 : Int)] X fun e w' => e = .returned (.int .i64 (nPurE L1 L2 G : Int)) ∧ Below base w w' ∧ Above hi w w' ∧ QHeld w' r L1 L2 G) := fun X q1 q2 q3 q4 q5 => by
    have a1 := nStoE_le f1 f2
    have a2 := nSto_ge m1 m2
    rw [nSto_E e1 e2] at a2
    refine (markStringS_lvk X (.slice r.a3 r.n3 r.k3) G (nStoE L1 L2) a2 (by omega) (by have := f3.n; omega) q2 base (fun b e => (h4 b e).1) q5).mono ?_
    rintro e w' ⟨t1, t2, t3, t4⟩
    refine ⟨t1, q3.trans t4, q4.trans (t3.above fun b e => (h4 b e).2.1), ⟨m1, m2, base, e1, e2, ?_⟩, t2⟩
    refine StoLV.out q1 (Out.hav t3) (fun b hb hm => ?_) (fun b hb hm => ?_)
    · rw [fp_mkEs] at hm; exact (h4 b (by simpa [QR.v] using hb)).2.2.1 hm
    · rw [fp_mkEs] at hm; exact (h4 b (by simpa [QR.v] using hb)).2.2.2 hm
  clear hW bW sW h h1 h2 h3 h4 f1 f2 f3 hbs hhi hn
  generalize (nStoE L1 L2 : Int) = q1 at *
  generalize (nPurE L1 L2 G : Int) = q2 at *
  go_enter Tryz.func31, Tryz.ntmps31
  go_wp2_with fail
  rw [← HW.out]
  refine C1.out.mono ?_
  rintro e w1 ⟨rfl, x5, h1, h2, h3, h4, h5⟩
  have CC := HC2.out w1 h1 h2 h3 h4 h5
  clear C1 HC2 HW h1 h2 h3 h4 h5
  go_wp2_with fail
  refine CC.mono ?_
  rintro e w2 ⟨rfl, h6⟩
  have H6 : Hid _ := h6
  clear CC x5 h6
  go_wp2_with fail
  go_ret
  exact ⟨rfl, H6.out⟩
set_option maxHeartbeats 4000000 in
theorem heldPutR_r (w : World) (c bu gu : Int) (r : QR) (L1 L2 : List Ent) (G : List ByteArray) (f1 : FitE L1) (f2 : FitE L2) (f3 : FitG G) (h : QHeld w r L1 L2 G) :
    Calls Tryz.prog 32 #[.agg #[.int .i64 c, .int .i64 bu, .int .i64 gu, .slice r.s.a1 r.s.n1 r.s.k1, .slice r.s.a2 r.s.n2 r.s.k2, .slice r.a3 r.n3 r.k3], .int .i64 1] w fun e w' => e = .returned (.int .i64 (nPurE L1 L2 G : Int)) ∧ Below w.heap.size w w' := by
  obtain ⟨W, hW⟩ : ∃ W, W = w.alloc (.cells #[.int .i64 c, .int .i64 bu, .int .i64 gu, .slice r.s.a1 r.s.n1 r.s.k1, .slice r.s.a2 r.s.n2 r.s.k2, .slice r.a3 r.n3 r.k3] 49) := ⟨_, rfl⟩
  have HW : Hid (W = w.alloc (.cells #[.int .i64 c, .int .i64 bu, .int .i64 gu, .slice r.s.a1 r.s.n1 r.s.k1, .slice r.s.a2 r.s.n2 r.s.k2, .slice r.a3 r.n3 r.k3] 49)) := hW
  have bW : Below w.heap.size w W := by rw [hW]; exact (Below.refl _ _).alloc (Nat.le_refl _) _
  have sW : W.cell? ⟨w.heap.size, 5, none⟩ = some (.slice r.a3 r.n3 r.k3) ∧ w.heap.size < W.heap.size := by rw [hW]; simp
  have hn : r.n3 = G.length := by have := TLV.len h.2; rw [mkTL_len] at this; exact this
  have C1 : Hid (Calls Tryz.prog 57 #[.agg #[.int .i64 bu, .int .i64 gu, .slice r.s.a1 r.s.n1 r.s.k1, .slice r.s.a2 r.s.n2 r.s.k2], .int .i64 1] W fun e w' => e = .returned (.int .i64 (nStoE L1 L2 : Int)) ∧ w'.cell? ⟨w.heap.size, 5, none⟩ = some (.slice r.a3 r.n3 r.k3) ∧ Below w.heap.size w w') := by
    refine (heldSto_r W bu gu r.s L1 L2 f1 f2 (h.1.below bW)).mono ?_
    rintro e w' ⟨q1, q2⟩
    exact ⟨q1, by rw [q2.cell (p := ⟨w.heap.size, 5, none⟩) sW.2]; exact sW.1, bW.trans (q2.mono bW.size)⟩
  have HC2 : Hid (∀ X, Below w.heap.size w X → Calls Tryz.prog 86 #[.slice r.a3 r.n3 r.k3, .int .i64 (nStoE L1 L2 : Int)] X fun e w' => e = .returned (.int .i64 (nPurE L1 L2 G : Int)) ∧ Below w.heap.size w w') := fun X hb => by
    have a1 := nStoE_le f1 f2
    have a2 : 1 ≤ nStoE L1 L2 := by
      obtain ⟨m1, m2, _, e1, e2, _⟩ := h.1
      have := nSto_ge m1 m2
      rw [nSto_E e1 e2] at this
      exact this
    refine (heldStringS_lvk X (.slice r.a3 r.n3 r.k3) G.length (nStoE L1 L2) a2 (by omega) (by have := f3.n; omega) (h.2.below hb)).mono ?_
    rintro e w' ⟨h1, h2⟩
    exact ⟨h1, hb.trans (h2.mono hb.size)⟩
  have g1 : ¬ (nStoE L1 L2 : Int) < 0 := by omega
  have g2 : ¬ (nPurE L1 L2 G : Int) < 0 := by omega
  clear hW bW sW h f1 f2 f3 hn
  generalize (nStoE L1 L2 : Int) = q1 at *
  generalize (nPurE L1 L2 G : Int) = q2 at *
  go_enter Tryz.func32, Tryz.ntmps32
  go_wp2_with fail
  rw [← HW.out]
  refine C1.out.mono ?_
  rintro e w1 ⟨rfl, x5, h4⟩
  have CC := HC2.out w1 h4
  clear C1 HC2 HW h4
  go_wp2_with fail
  refine CC.mono ?_
  rintro e w2 ⟨rfl, h6⟩
  have H6 : Hid _ := h6
  clear CC x5 h6
  go_wp2_with fail
  go_ret
  exact ⟨rfl, H6.out⟩
end Go.Proofs.YtaphofdcoddopaaGreatDoor
/-
  IsTagged, on both sides, and its law.
-/
namespace Go.Proofs.YtaphofdcoddopaaGreatDoor
open Go.ChangeShapes Go.WideShapes Go.ChangeAt Go.RowKit
theorem tag_ne {a b : ByteArray} (h : a ≠ b) : (a.toList == b.toList) = false := by
  rw [beq_eq_false_iff_ne]
  intro e
  rw [ByteArray.toList_eq, ByteArray.toList_eq] at e
  exact h (ByteArray.ext (Array.ext' e))
def tagB (l : List ByteArray) (t : ByteArray) : Bool := l.any fun x => decide (x = t)
theorem tagB_yes {l : List ByteArray} {k : Nat} {t : ByteArray} (h : l[k]? = some t) : tagB l t = true :=
  List.any_eq_true.2 ⟨t, List.mem_of_getElem? h, by simp⟩
theorem tagB_no {l : List ByteArray} {t : ByteArray} (h : ∀ (j : Nat) x, l[j]? = some x → x ≠ t) : tagB l t = false := by
  rw [← Bool.not_eq_true]
  intro e
  obtain ⟨x, hx, hd⟩ := List.any_eq_true.1 e
  obtain ⟨j, hj⟩ := List.getElem?_of_mem hx
  exact h j x hj (by simpa using hd)
theorem tret_bool {a b : Bool} (h : a = b) : Ending.returned (.bool a) = Ending.returned (.bool b) := by rw [h]
theorem tret_int {a b : Int} (h : a = b) : Ending.returned (.int .i64 a) = Ending.returned (.int .i64 b) := by rw [h]
set_option maxHeartbeats 2000000 in
theorem specTagged_any (w : World) (a : Option Addr) (cap : Nat) (l : List ByteArray) (t : ByteArray) (hl : l.length ≤ 1048576) (hi : TIn w a l) :
    Calls Tryz.prog 126 #[.slice a l.length cap, .string t] w fun e w' => e = .returned (.bool (tagB l t)) ∧ w' = w := by
  have HI : Hid (TIn w a l) := hi
  clear hi
  generalize hnn : l.length = n at *
  have HN : Hid (l.length = n) := hnn
  clear hnn
  go_enter Tryz.func126, Tryz.ntmps126
  go_wp2_with fail
  go_loopw [5] (fun i wr => ∃ k : Nat, k ≤ n ∧ i = .int .i64 k ∧ (∀ (j : Nat) x, j < k → l[j]? = some x → x ≠ t) ∧ wr = w) (fun i _ => n - (intOf i).toNat)
  case atStart => exact ⟨0, Nat.zero_le _, rfl, fun j x hj _ => absurd hj (by omega), rfl⟩
  case round =>
    obtain ⟨k, hk, rfl, hw, rfl⟩ := hrel
    have HW : Hid (∀ (j : Nat) x, j < k → l[j]? = some x → x ≠ t) := hw
    clear hw
    by_cases hlt : k < n
    · obtain ⟨x, hx⟩ : ∃ r, l[k]? = some r := ⟨l[k]'(by have := HN.out; omega), List.getElem?_eq_getElem _⟩
      rcases HI.out with h | ⟨b, off, rfl, hat⟩
      · subst h; simp at hx
      have p1 := hat k x hx
      have HX : Hid (l[k]? = some x) := hx
      have gk : (k : Int) < n := by omega
      clear hx hat
      by_cases e : x = t
      · subst e
        have HE : Hid (tagB l x = true) := tagB_yes HX.out
        have hbe : (x.toList == x.toList) = true := by simp
        go_wp2_with fail
        go_ret
        exact ⟨tret_bool HE.out.symm, rfl⟩
      · have hbe := tag_ne e
        have HXE : Hid (x ≠ t) := e
        clear e
        go_wp2_with fail
        go_roundw
        case rel =>
          refine ⟨k + 1, by omega, by go_num, fun j y hj hy => ?_, by trivial⟩
          by_cases e : j = k
          · subst e
            rw [HX.out] at hy
            obtain rfl := Option.some.inj hy
            exact HXE.out
          · exact HW.out j y (by omega) hy
        case measure => simp [intOf]; omega
    · have HE : Hid (tagB l t = false) := tagB_no fun j x hx => HW.out j x (by have := (List.getElem?_eq_some_iff.1 hx).1; have := HN.out; omega) hx
      go_wp2_with fail
      go_ret
      exact ⟨tret_bool HE.out.symm, rfl⟩
/-- Where a text stands first, or -1. -/
def TagAt (l : List ByteArray) (t : ByteArray) (e : Ending) : Prop := ∃ i : Int, e = .returned (.int .i64 i) ∧ -1 ≤ i ∧ decide (0 ≤ i) = tagB l t
set_option maxHeartbeats 2000000 in
theorem slicesIndex_any (w : World) (a : Option Addr) (cap : Nat) (l : List ByteArray) (t : ByteArray) (hl : l.length ≤ 1048576) (hi : TIn w a l) :
    Calls Tryz.prog 165 #[.slice a l.length cap, .string t] w fun e w' => TagAt l t e ∧ w' = w := by
  have HI : Hid (TIn w a l) := hi
  clear hi
  generalize hnn : l.length = n at *
  have HN : Hid (l.length = n) := hnn
  clear hnn
  go_enter Tryz.func165, Tryz.ntmps165
  go_wp2_with fail
  go_loopw [8] (fun i wr => ∃ k : Nat, k ≤ n ∧ i = .int .i64 k ∧ (∀ (j : Nat) x, j < k → l[j]? = some x → x ≠ t) ∧ wr = w) (fun i _ => n - (intOf i).toNat)
  case atStart => exact ⟨0, Nat.zero_le _, rfl, fun j x hj _ => absurd hj (by omega), rfl⟩
  case round =>
    obtain ⟨k, hk, rfl, hw, rfl⟩ := hrel
    have HW : Hid (∀ (j : Nat) x, j < k → l[j]? = some x → x ≠ t) := hw
    clear hw
    by_cases hlt : k < n
    · obtain ⟨x, hx⟩ : ∃ r, l[k]? = some r := ⟨l[k]'(by have := HN.out; omega), List.getElem?_eq_getElem _⟩
      rcases HI.out with h | ⟨b, off, rfl, hat⟩
      · subst h; simp at hx
      have p1 := hat k x hx
      have HX : Hid (l[k]? = some x) := hx
      have gk : (k : Int) < n := by omega
      clear hx hat
      by_cases e : x = t
      · subst e
        have HE : Hid (tagB l x = true) := tagB_yes HX.out
        have hbe : (x.toList == x.toList) = true := by simp
        go_wp2_with fail
        go_ret
        exact ⟨⟨_, rfl, by omega, by rw [HE.out]; simp⟩, rfl⟩
      · have hbe := tag_ne (Ne.symm e)
        have HXE : Hid (x ≠ t) := e
        clear e
        go_wp2_with fail
        go_roundw
        case rel =>
          refine ⟨k + 1, by omega, by go_num, fun j y hj hy => ?_, by trivial⟩
          by_cases e : j = k
          · subst e
            rw [HX.out] at hy
            obtain rfl := Option.some.inj hy
            exact HXE.out
          · exact HW.out j y (by omega) hy
        case measure => simp [intOf]; omega
    · have HE : Hid (tagB l t = false) := tagB_no fun j x hx => HW.out j x (by have := (List.getElem?_eq_some_iff.1 hx).1; have := HN.out; omega) hx
      go_wp2_with fail
      go_ret
      exact ⟨⟨-1, rfl, by omega, by rw [HE.out]; simp⟩, rfl⟩
set_option maxHeartbeats 1000000 in
theorem implTagged_any (w : World) (a : Option Addr) (cap : Nat) (l : List ByteArray) (t : ByteArray) (hl : l.length ≤ 1048576) (hi : TIn w a l) :
    Calls Tryz.prog 128 #[.slice a l.length cap, .string t] w fun e w' => e = .returned (.bool (tagB l t)) ∧ w' = w := by
  have HI : Hid (Calls Tryz.prog 165 #[.slice a l.length cap, .string t] w fun e w' => TagAt l t e ∧ w' = w) := slicesIndex_any w a cap l t hl hi
  have HC : Hid (Calls Tryz.prog 152 #[.slice a l.length cap, .string t] w fun e w' => e = .returned (.bool (tagB l t)) ∧ w' = w) := by
    clear hi
    generalize l.length = n at *
    show Calls _ _ _ _ _
    go_enter Tryz.func152, Tryz.ntmps152
    go_wp2_with fail
    refine HI.out.mono ?_
    rintro e w1 ⟨⟨i, rfl, _, hi⟩, rfl⟩
    have HD : Hid (decide (0 ≤ i) = tagB l t) := hi
    clear hi
    go_wp2_with fail
    go_ret
    exact ⟨tret_bool HD.out, rfl⟩
  clear hi HI
  generalize l.length = n at *
  go_enter Tryz.func128, Tryz.ntmps128
  go_wp2_with fail
  refine HC.out.mono ?_
  rintro e w1 ⟨rfl, rfl⟩
  go_wp2_with fail
  go_ret
  exact ⟨rfl, rfl⟩
end Go.Proofs.YtaphofdcoddopaaGreatDoor
/-
  The keys of entries that are meant, by the model.
-/
namespace Go.Proofs.YtaphofdcoddopaaGreatDoor
open Go.ChangeShapes Go.WideShapes Go.ChangeAt Go.RowKit Go.Sort
/-- The keys of those that are meant. -/
def keysP (p : Ent → Bool) (L : List Ent) : List ByteArray := (L.filter p).map Ent.key
def tagP (tag : ByteArray) (x : Ent) : Bool := tagB x.ts tag
theorem keysP_next {p : Ent → Bool} {l : List (Ent × EntR)} {k : Nat} {q : Ent × EntR} (h : l[k]? = some q) : keysP p ((l.take (k + 1)).map Prod.fst) = if p q.1 then keysP p ((l.take k).map Prod.fst) ++ [q.1.key] else keysP p ((l.take k).map Prod.fst) := by
  unfold keysP
  rw [take_next h, List.map_append, List.filter_append]
  cases hk : p q.1 <;> simp [hk]
theorem keysP_len (p : Ent → Bool) (L : List Ent) : (keysP p L).length ≤ L.length := by unfold keysP; rw [List.length_map]; exact List.length_filter_le _ _
theorem RowT.made0 (w : World) (base : Nat) (hb : base ≤ w.heap.size) : RowT (w.alloc (.cells #[] 9)) base (.slice (some ⟨w.heap.size, 0, none⟩) 0 0) [] := World.ownsRow_made w #[] 0 hb (by unfold maxLen; omega) rfl
theorem RowT.below {w w' : World} {base : Nat} {v : Value} {l : List ByteArray} (h : RowT w base v l) (hb : Below w.heap.size w w') : RowT w' base v l := row_below h hb
theorem RowT.lower {w : World} {base b0 : Nat} {v : Value} {l : List ByteArray} (h : RowT w base v l) (hb : b0 ≤ base) : RowT w b0 v l := row_lower h hb
theorem RowT.nil (w : World) (base : Nat) : RowT w base (.slice none 0 0) [] := World.ownsRow_nil _ _ _ _
theorem cTexts_app (l m : List ByteArray) : cTexts (l ++ m) = cTexts l ++ cTexts m := by simp [cTexts]
/-- A text is appended. -/
theorem RowT.app {w w1 w3 : World} {base g cap n : Nat} {va : Option Addr} {vc : Nat} {l : List ByteArray} {t : ByteArray} (hn : l.length = n) (hs : base ≤ w1.heap.size) (hO : w1.ownsRow base 9 1 (.slice va n vc) n (cTexts l)) (h1 : w3.ownsRow base 9 1 (.slice (some ⟨g, 0, none⟩) (n + 1) cap) (n + 1) (cTexts l ++ [.string t])) (h2 : w1.grownBy w3 (Value.slice va n vc).ownBlock) (hb : Below w.heap.size w w1) (hbw : base = w.heap.size) : RowT w3 base (.slice (some ⟨g, 0, none⟩) (n + 1) cap) (l ++ [t]) ∧ Below w.heap.size w w3 := by
  subst hn hbw
  refine ⟨?_, hb.trans ((Below.refl _ _).grown h2 hs (fun q hq => row_ge hO q hq))⟩
  unfold RowT
  rw [List.length_append, cTexts_app]
  exact h1
theorem cell_str (w : World) (t : ByteArray) (T : TypeId) : ∀ j u, ([Value.string t] : List Value)[j]? = some u → (w.alloc (.cells #[.string t] T)).cell? ((⟨w.heap.size, 0, none⟩ : Addr).add j) = some u := by
  intro j u hj
  match j, hj with
  | 0, hj => simp at hj; subst hj; rw [cadd]; simp
/-- While keys are told: where the row of all entries lies, and the row of keys. -/
structure KW (w w1 : World) (av : Value) (al : List (Ent × EntR)) (v : Value) (X : World) : Prop where
  b : Below w.heap.size w X
  all : OwnE X (w.heap.size + 1) av al
  far : ∀ q, v.ownBlock = some q → q = w.heap.size ∨ w1.heap.size ≤ q
  lt : ∀ q, av.ownBlock = some q → q < w1.heap.size
  le : w1.heap.size ≤ X.heap.size
theorem KW.below {w w1 X X' : World} {av v : Value} {al : List (Ent × EntR)} (h : KW w w1 av al v X) (hb : Below X.heap.size X X') : KW w w1 av al v X' :=
  ⟨h.b.trans (hb.mono h.b.size), h.all.below hb, h.far, h.lt, Nat.le_trans h.le hb.size⟩
theorem KW.app {w w1 X X' : World} {av v v' : Value} {al : List (Ent × EntR)} {g : Nat} (h : KW w w1 av al v X) (hg : X.grownBy X' v.ownBlock) (hb : Below w.heap.size w X') (hv : v'.ownBlock = some g) (h3 : v.ownBlock = some g ∨ g = X.heap.size) : KW w w1 av al v' X' := by
  refine ⟨hb, World.ownsRow.kept h.all hg ?_, fun q hq => ?_, h.lt, Nat.le_trans h.le hg.size⟩
  · cases e : av.ownBlock with
    | none => exact .inl rfl
    | some q =>
      refine .inr fun e2 => ?_
      have h1 := own_geE h.all q e
      have h2 := h.lt q e
      rcases h.far q e2.symm with h4 | h4 <;> omega
  · rw [hv] at hq
    obtain rfl := Option.some.inj hq
    rcases h3 with h3 | rfl
    · exact h.far _ h3
    · exact .inr h.le
set_option maxRecDepth 100000 in
set_option maxHeartbeats 8000000 in
theorem l9Tagged_at (w : World) (S : Nat) (tag : ByteArray) (ta ka : Option Addr) (tc kc : Nat) (tl kl : List (Ent × EntR)) (c2 : w.cell? ⟨S, 2, none⟩ = some (.slice ta tl.length tc)) (c3 : w.cell? ⟨S, 3, none⟩ = some (.slice ka kl.length kc)) (hl : tl.length + kl.length ≤ 1000000) (hf : ∀ q ∈ tl ++ kl, EntFit q.1) (ht : EntsIn w ta tl) (hk : EntsIn w ka kl) :
    Calls Tryz.prog 87 #[.pointer (some ⟨S, 0, none⟩), .string tag] w fun e w' => (∃ v, e = .returned v ∧ RowT w' w.heap.size v (keysP (tagP tag) (tl.map Prod.fst ++ kl.map Prod.fst))) ∧ Below w.heap.size w w' := by
  obtain ⟨i0, hi0, hz0, hz1, hz2⟩ := info_parts cTextI
  obtain ⟨W, hW⟩ : ∃ W, W = w.alloc (.cells #[] 9) := ⟨_, rfl⟩
  have HW : Hid (W = w.alloc (.cells #[] 9)) := hW
  have bW : Below w.heap.size w W := by rw [hW]; exact (Below.refl _ _).alloc (Nat.le_refl _) _
  have hS : S < w.heap.size := block_lt_of_cell c2
  have CA : Hid (Calls Tryz.prog 103 #[.pointer (some ⟨S, 0, none⟩)] W fun e w' => (∃ v, e = .returned v ∧ OwnE w' W.heap.size v (tl ++ kl)) ∧ Below W.heap.size W w') := l8All_any W S 0 ta ka tc kc tl kl (by rw [bW.cell (p := ⟨S, 0 + 2, none⟩) hS]; exact c2) (by rw [bW.cell (p := ⟨S, 0 + 3, none⟩) hS]; exact c3) hl (ht.keep bW) (hk.keep bW)
  have HIN : Hid (∀ X, Below w.heap.size w X → ∀ q ∈ tl ++ kl, EntIn X q.1 q.2) := fun X hX q hq' => by
    rcases List.mem_append.1 hq' with h | h
    · rcases ht.keep hX with e | ⟨b, off, _, hat⟩
      · subst e; simp at h
      · obtain ⟨i, hi⟩ := List.mem_iff_getElem?.1 h; exact hat.in hi
    · rcases hk.keep hX with e | ⟨b, off, _, hat⟩
      · subst e; simp at h
      · obtain ⟨i, hi⟩ := List.mem_iff_getElem?.1 h; exact hat.in hi
  have HF : Hid (∀ q ∈ tl ++ kl, EntFit q.1) := hf
  have HR0 : Hid (RowT W w.heap.size (.slice (some ⟨w.heap.size, 0, none⟩) 0 0) [] ∧ Below w.heap.size w W) := ⟨by rw [hW]; exact RowT.made0 w _ (Nat.le_refl _), bW⟩
  have HWS : Hid (w.heap.size + 1 ≤ W.heap.size) := by rw [hW]; simp [Hid]
  rw [← List.map_append]
  have hln : (tl ++ kl).length ≤ 1000000 := by rw [List.length_append]; exact hl
  clear hW bW c2 c3 ht hk hf hS hl
  generalize tl ++ kl = al at *
  go_enter Tryz.func87, Tryz.ntmps87
  go_wp2_with fail
  rw [← HW.out]
  refine CA.out.mono ?_
  rintro e w1 ⟨⟨v, rfl, ho⟩, hb1⟩
  have hbb := HR0.out.2.trans (hb1.mono HR0.out.2.size)
  obtain ⟨a, c, rfl, _, hi⟩ := ho.at (HIN.out _ hbb)
  have K1 : Hid (KW w w1 (.slice a al.length c) al (.slice (some ⟨w.heap.size, 0, none⟩) 0 0) w1 ∧ RowT w1 w.heap.size (.slice (some ⟨w.heap.size, 0, none⟩) 0 0) []) := ⟨⟨hbb, ho.lower HWS.out, fun q hq => .inl (Option.some.inj hq).symm, fun q hq => (World.ownsRow.lt ho q hq).2, Nat.le_refl _⟩, HR0.out.1.below hb1⟩
  clear HW CA hb1 hbb ho hi HR0 HWS
  obtain ⟨n, hn0⟩ : ∃ n, al.length = n := ⟨_, rfl⟩
  rw [hn0] at hln K1 ⊢
  have HN : Hid (al.length = n) := hn0
  clear hn0
  go_wp2_with fail
  go_loopw [5, 7] (fun v i wr => ∃ k : Nat, k ≤ n ∧ i = .int .i64 (k : Int) ∧ RowT wr w.heap.size v (keysP (tagP tag) ((al.take k).map Prod.fst)) ∧ KW w w1 (.slice a n c) al v wr) (fun _ i _ => n - (intOf i).toNat)
  case atStart => exact ⟨0, Nat.zero_le _, rfl, by simpa [keysP] using K1.out.2, K1.out.1⟩
  case round =>
    obtain ⟨k, hk, rfl, ho, hkw⟩ := hrel
    clear K1
    by_cases hlt : k < n
    · obtain ⟨⟨x, r⟩, hr⟩ : ∃ r, al[k]? = some r := ⟨al[k]'(by have := HN.out; omega), List.getElem?_eq_getElem _⟩
      have hin : EntsIn wr a al := by
        obtain ⟨a', c', e', _, hi⟩ := hkw.all.at (HIN.out _ hkw.b)
        simp only [Value.slice.injEq] at e'
        rw [e'.1]; exact hi
      rcases hin with h | ⟨b, off, rfl, hat⟩
      · subst h; simp at hr
      have cc := hat.cells hr
      have p0 := cc.1
      have p11 := cc.2.2.2.2.2.2.2.2.2.2.2.1
      simp only at p0 p11
      have ft := HF.out (x, r) (List.mem_of_getElem? hr)
      have CT : Hid (Calls Tryz.prog 126 #[.slice r.ta x.ts.length r.tc, .string tag] wr fun e w' => e = .returned (.bool (tagP tag x)) ∧ w' = wr) := specTagged_any wr r.ta r.tc x.ts tag ft.t (hat.in hr).k
      have hnx := keysP_next (p := tagP tag) hr
      simp only at hnx
      have hle : (keysP (tagP tag) ((al.take k).map Prod.fst)).length ≤ 1000000 := by
        have := keysP_len (tagP tag) ((al.take k).map Prod.fst)
        rw [List.length_map, List.length_take] at this
        omega
      obtain ⟨m, hm⟩ : ∃ m, m = keysP (tagP tag) ((al.take k).map Prod.fst) := ⟨_, rfl⟩
      rw [← hm] at ho hnx hle
      obtain ⟨va, vc, rfl, hvc⟩ := row_form ho
      have HO : Hid (RowT wr w.heap.size (.slice va m.length vc) m) := ho
      have HB : Hid (KW w w1 (.slice (some ⟨b, off, none⟩) n c) al (.slice va m.length vc) wr) := hkw
      have gk : (k : Int) < n := by omega
      have gk0 : (0 : Int) ≤ k := by omega
      clear hat hr hm ho hkw cc ft HF HIN
      cases he : tagP tag x
      · rw [he] at hnx CT
        simp only [Bool.false_eq_true, if_false] at hnx
        have HA : Hid (RowT wr w.heap.size (.slice va m.length vc) (keysP (tagP tag) ((al.take (k + 1)).map Prod.fst)) ∧ KW w w1 (.slice (some ⟨b, off, none⟩) n c) al (.slice va m.length vc) wr) := ⟨by rw [hnx]; exact HO.out, HB.out⟩
        clear hnx HO HB he
        generalize m.length = mn at *
        go_wp2_with fail
        refine CT.out.mono ?_
        rintro e w2 ⟨rfl, rfl⟩
        clear CT
        go_wp2_with fail
        go_roundw
        case rel => exact ⟨k + 1, by omega, by go_num, HA.out.1, HA.out.2⟩
        case measure => simp [intOf]; omega
      · rw [he] at hnx CT
        simp only [if_true] at hnx
        obtain ⟨xk, hxk⟩ : ∃ t, x.key = t := ⟨_, rfl⟩
        rw [hxk] at hnx p0
        have K2 : Below wr.heap.size wr (wr.alloc (.cells #[.string xk] 9)) := (Below.refl _ _).alloc (Nat.le_refl _) _
        obtain ⟨mn, hmn⟩ : ∃ q, m.length = q := ⟨_, rfl⟩
        have O2 : Hid ((wr.alloc (.cells #[.string xk] 9)).ownsRow w.heap.size 9 1 (.slice va mn vc) mn (cTexts m)) := by
          have := HO.out.below K2
          unfold RowT at this
          rw [hmn] at this
          exact this
        have s2 : Hid (w.heap.size ≤ (wr.alloc (.cells #[.string xk] 9)).heap.size) := by show _ ≤ _; have := K2.size; have := HB.out.b.size; omega
        have HA : Hid (∀ g cap w3, w3.ownsRow w.heap.size 9 1 (.slice (some ⟨g, 0, none⟩) (mn + 1) cap) (mn + 1) (cTexts m ++ [.string xk]) → (wr.alloc (.cells #[.string xk] 9)).grownBy w3 (Value.slice va mn vc).ownBlock → ((Value.slice va mn vc).ownBlock = some g ∨ g = (wr.alloc (.cells #[.string xk] 9)).heap.size) → RowT w3 w.heap.size (.slice (some ⟨g, 0, none⟩) (mn + 1) cap) (keysP (tagP tag) ((al.take (k + 1)).map Prod.fst)) ∧ KW w w1 (.slice (some ⟨b, off, none⟩) n c) al (.slice (some ⟨g, 0, none⟩) (mn + 1) cap) w3) := fun g cap w3 h1 h2 h3 => by
          have := RowT.app (w := w) hmn s2.out O2.out h1 h2 (HB.out.below K2).b rfl
          rw [hnx]
          have hkw := HB.out.below K2
          rw [hmn] at hkw
          exact ⟨this.1, hkw.app h2 this.2 rfl h3⟩
        have HW : Hid (∀ j u, ([Value.string xk] : List Value)[j]? = some u → (wr.alloc (.cells #[.string xk] 9)).cell? ((⟨wr.heap.size, 0, none⟩ : Addr).add j) = some u) := cell_str wr xk _
        rw [hmn] at hle hvc ⊢
        clear K2 hnx HO HB hmn
        go_wp2_with fail
        refine CT.out.mono ?_
        rintro e w2 ⟨rfl, rfl⟩
        clear CT
        go_wp2_with (at_builtin; refine wpList_append_lies _ rfl (.tmp 24) (.tmp 30) 44 rfl w.heap.size 9 i0 _ 1 16 Tryz.underlying44 hi0 hz0 hz1 hz2 rfl (by omega) _ mn (cTexts m) rfl O2.out _ 1 1 [.string xk] rfl rfl HW.out (by simp [Value.oneCell']) (by omega) (by unfold maxLen; omega) (by omega) s2.out _ rfl ?_; intro g cp w3 h1 h2 h3 h4)
        go_roundw
        case rel => exact ⟨k + 1, by omega, by go_num, (HA.out _ _ _ h1 h2 h3).1, (HA.out _ _ _ h1 h2 h3).2⟩
        case measure => simp [intOf]; omega
    · have ek : k = n := by omega
      subst ek
      obtain ⟨va, vc, rfl, _⟩ := row_form ho
      have HE : Hid ((∃ v', Ending.returned (.slice va (keysP (tagP tag) ((al.take k).map Prod.fst)).length vc) = .returned v' ∧ RowT wr w.heap.size v' (keysP (tagP tag) (al.map Prod.fst))) ∧ Below w.heap.size w wr) := ⟨⟨_, rfl, by rw [List.take_of_length_le (by have := HN.out; omega)] at ho ⊢; exact ho⟩, hkw.b⟩
      clear ho hkw
      go_wp2_with fail
      go_ret
      exact HE.out
end Go.Proofs.YtaphofdcoddopaaGreatDoor
/-
  Entries that are meant, told by a function value; their keys, by the program.
-/
namespace Go.Proofs.YtaphofdcoddopaaGreatDoor
open Go.ChangeShapes Go.WideShapes Go.ChangeAt Go.RowKit Go.Sort
/-- The function value g, bound to lb, tells whether an entry is meant, as long as C holds; what lies below B0 is all that C speaks of. -/
structure PredF (B0 : Nat) (g : Nat) (lb : Array Value) (p : Ent → Bool) (C : World → Prop) : Prop where
  eg : ∀ args X, (callFunc g args).run Tryz.prog X = .ok (.enter g args) X
  keep : ∀ X X', C X → Below B0 X X' → C X'
  call : ∀ X (h : Hdl), C X → HThere X h → h.x.ts.length ≤ 1048576 → Calls Tryz.prog g (#[.pointer (some ⟨h.b, h.o, none⟩)] ++ lb) X fun e X' => e = .returned (.bool (p h.x)) ∧ Below X.heap.size X X'
set_option maxHeartbeats 2000000 in
theorem predAny (B0 : Nat) : PredF B0 95 #[] (fun _ => true) (fun _ => True) := by
  refine ⟨enters_of Tryz.func95 (by kernel_rfl) rfl, fun _ _ _ _ => trivial, fun X h _ _ _ => ?_⟩
  show Calls Tryz.prog 95 #[.pointer (some ⟨h.b, h.o, none⟩)] X _
  go_enter Tryz.func95, Tryz.ntmps95
  go_wp2_with fail
  go_ret
  exact ⟨rfl, Below.refl _ _⟩
set_option maxHeartbeats 4000000 in
theorem predKey (B0 K : Nat) (key : ByteArray) (hK : K < B0) : PredF B0 132 #[.pointer (some ⟨K, 0, none⟩)] (isKey key) (fun X => X.cell? ⟨K, 0, none⟩ = some (.string key)) := by
  refine ⟨enters_of Tryz.func132 (by kernel_rfl) rfl, fun X X' h hb => by rw [hb.cell (p := ⟨K, 0, none⟩) hK]; exact h, fun X h hc ht _ => ?_⟩
  show Calls Tryz.prog 132 #[.pointer (some ⟨h.b, h.o, none⟩), .pointer (some ⟨K, 0, none⟩)] X _
  have c0 := ht.cells.1
  clear ht
  have HE : Hid (isKey key h.x = (h.x.key.toList == key.toList)) := rfl
  generalize isKey key h.x = z at *
  generalize h.x.key = xk at *
  cases he : (xk.toList == key.toList)
  · rw [he] at HE
    go_enter Tryz.func132, Tryz.ntmps132
    go_wp2_with fail
    go_region
    all_goals go_wp2_with fail
    all_goals go_ret
    all_goals exact ⟨by rw [HE.out]; rfl, (Below.refl _ _).drew⟩
  · rw [he] at HE
    go_enter Tryz.func132, Tryz.ntmps132
    go_wp2_with fail
    go_region
    all_goals go_wp2_with fail
    all_goals go_ret
    all_goals exact ⟨by rw [HE.out]; rfl, (Below.refl _ _).drew⟩
set_option maxHeartbeats 4000000 in
theorem predTag (B0 K : Nat) (tag : ByteArray) (hK : K < B0) : PredF B0 127 #[.pointer (some ⟨K, 0, none⟩)] (tagP tag) (fun X => X.cell? ⟨K, 0, none⟩ = some (.string tag)) := by
  refine ⟨enters_of Tryz.func127 (by kernel_rfl) rfl, fun X X' h hb => by rw [hb.cell (p := ⟨K, 0, none⟩) hK]; exact h, fun X h hc ht htl => ?_⟩
  show Calls Tryz.prog 127 #[.pointer (some ⟨h.b, h.o, none⟩), .pointer (some ⟨K, 0, none⟩)] X _
  have c11 := cell_regrown ht.cells.2.2.2.2.2.2.2.2.2.2.2.1
  have cK := cell_regrown hc
  have cE : ∀ d os, Calls Tryz.prog 128 #[.slice h.r.ta h.x.ts.length h.r.tc, .string tag] (grow (redrawn X d) os) fun e w'' => e = .returned (.bool (tagP tag h.x)) ∧ ∃ p : Regrown, w'' = grow (redrawn X p.d) p.os := fun d os => by
    have b := below_regrown X d os
    refine Calls.regrown_of ((implTagged_any _ h.r.ta h.r.tc h.x.ts tag htl (ht.2.keep b).k).mono ?_)
    rintro e w' ⟨rfl, rfl⟩
    exact ⟨rfl, Below.refl _ _⟩
  clear ht hc htl
  generalize tagP tag h.x = z at *
  go_enter Tryz.func127, Tryz.ntmps127
  go_wp2_with fail
  refine wp_region_quiet_below (by kernel_rfl) (by kernel_rfl) ?_
  repeat (go_big_quiet_step ((go_at_call 128; exact cE _ _)))
  refine wpQuiet_nil ?_
  intro w3 hw3
  have KB3 : Hid (Below X.heap.size X w3) := by
    obtain ⟨⟨d, os⟩, rfl⟩ := hw3
    exact below_regrown X d os
  clear c11 cK cE hw3
  go_wp2_with fail
  go_ret
  exact ⟨rfl, KB3.out⟩
theorem keysH_next {p : Ent → Bool} {l : List Hdl} {k : Nat} {q : Hdl} (h : l[k]? = some q) : keysP p ((l.take (k + 1)).map Hdl.x) = if p q.x then keysP p ((l.take k).map Hdl.x) ++ [q.x.key] else keysP p ((l.take k).map Hdl.x) := by
  unfold keysP
  rw [take_next h, List.map_append, List.filter_append]
  cases hk : p q.x <;> simp [hk]
set_option maxRecDepth 100000 in
set_option maxHeartbeats 8000000 in
theorem keysOf_any (w : World) (v1 v2 : Value) (base B0 g : Nat) (lb : Array Value) (p : Ent → Bool) (C : World → Prop) (l1 l2 : List Hdl) (h : TwoP w base v1 v2 l1 l2) (PF : PredF B0 g lb p C) (hC : C w) (hB0 : B0 ≤ w.heap.size) (hl : l1.length + l2.length ≤ 1000) (hth : ∀ h ∈ l1 ++ l2, HThere w h) (hts : ∀ h ∈ l1 ++ l2, h.x.ts.length ≤ 1048576) (hks : ∀ h ∈ l1 ++ l2, h.x.key.size ≤ 1048576) :
    Calls Tryz.prog 88 #[.agg #[v1, v2], .func (.func g) #[] lb] w fun e w' => (∃ v, e = .returned v ∧ RowT w' w.heap.size v (keysP p ((l1 ++ l2).map Hdl.x))) ∧ Below w.heap.size w w' := by
  obtain ⟨i0, hi0, hz0, hz1, hz2⟩ := info_parts cTextI
  obtain ⟨a1, k1, e1, _⟩ := h.a.form
  obtain ⟨a2, k2, e2, _⟩ := h.b.form
  obtain ⟨W, hW⟩ : ∃ W, W = w.alloc (.cells #[v1, v2] 85) := ⟨_, rfl⟩
  have HW : Hid (W = w.alloc (.cells #[v1, v2] 85)) := hW
  have bW : Below w.heap.size w W := by rw [hW]; exact (Below.refl _ _).alloc (Nat.le_refl _) _
  have CA : Hid (Calls Tryz.prog 106 #[.agg #[v1, v2]] W fun e w' => (∃ v, e = .returned v ∧ OwnP w' W.heap.size v (l1 ++ l2)) ∧ Below W.heap.size W w') := shAll_any W v1 v2 base l1 l2 (h.below bW) (by omega)
  have HT : Hid (∀ X, Below w.heap.size w X → ∀ h ∈ l1 ++ l2, X.cell? ⟨h.b, h.o, none⟩ = some (.string h.x.key) ∧ Calls Tryz.prog g (#[.pointer (some ⟨h.b, h.o, none⟩)] ++ lb) X fun e X' => e = .returned (.bool (p h.x)) ∧ Below X.heap.size X X') := fun X hX h hh => ⟨(((hth h hh).keep hX).cells).1, PF.call X h (PF.keep _ _ hC (hX.mono hB0)) ((hth h hh).keep hX) (hts h hh)⟩
  have HKZ : Hid (∀ h ∈ l1 ++ l2, h.x.key.size ≤ 1048576) := hks
  have HB : Hid (Below w.heap.size w W) := bW
  have hln : (l1 ++ l2).length ≤ 1000 := by rw [List.length_append]; exact hl
  have eg := PF.eg
  clear hW bW h hth hl PF hC hts hks
  generalize l1 ++ l2 = al at *
  subst e1
  subst e2
  go_enter Tryz.func88, Tryz.ntmps88
  go_wp2_with fail
  rw [← HW.out]
  refine CA.out.mono ?_
  rintro e w1 ⟨⟨v, rfl, ho⟩, hb1⟩
  obtain ⟨av, ac, rfl, _, hf⟩ := ho.form
  have HB1 : Hid (Below w.heap.size w w1) := HB.out.trans (hb1.mono HB.out.size)
  have HC : Hid (∀ X, Below w1.heap.size w1 X → ∀ (k : Nat) h, al[k]? = some h → ∃ g, av = some ⟨g, 0, none⟩ ∧ X.cell? ⟨g, k, none⟩ = some (.pointer (some ⟨h.b, h.o, none⟩))) := fun X hX k h hk => by
    rcases hf with e | ⟨g, e, _, hg, hc⟩
    · rw [e] at hk; simp at hk
    · exact ⟨g, e, by rw [hX.cell (p := ⟨g, k, none⟩) hg]; exact hc k h hk⟩
  clear hf ho hb1 HB HW CA
  obtain ⟨n, hn⟩ : ∃ n, al.length = n := ⟨_, rfl⟩
  rw [hn] at hln ⊢
  have HN : Hid (al.length = n) := hn
  clear hn
  go_wp2_with fail
  go_loopw [5, 11] (fun v i wr => ∃ k : Nat, k ≤ n ∧ i = .int .i64 (k : Int) ∧ RowT wr w1.heap.size v (keysP p ((al.take k).map Hdl.x)) ∧ Below w1.heap.size w1 wr) (fun _ i _ => n - (intOf i).toNat)
  case atStart => exact ⟨0, Nat.zero_le _, rfl, by simpa [keysP] using RowT.nil w1 w1.heap.size, Below.refl _ _⟩
  case round =>
    obtain ⟨k, hk, rfl, ho, hb⟩ := hrel
    by_cases hlt : k < n
    · obtain ⟨q, hr⟩ : ∃ r, al[k]? = some r := ⟨al[k]'(by have := HN.out; omega), List.getElem?_eq_getElem _⟩
      obtain ⟨g', rfl, p1⟩ := HC.out wr hb k q hr
      have hqm := List.mem_of_getElem? hr
      have HBW : Hid (Below w.heap.size w wr) := HB1.out.trans (hb.mono HB1.out.size)
      have CP := (HT.out wr HBW.out q hqm).2
      have hnx := keysH_next (p := p) hr
      have hle : (keysP p ((al.take k).map Hdl.x)).length ≤ 1000000 := by
        have := keysP_len p ((al.take k).map Hdl.x)
        rw [List.length_map, List.length_take] at this
        omega
      obtain ⟨m, hm⟩ : ∃ m, m = keysP p ((al.take k).map Hdl.x) := ⟨_, rfl⟩
      rw [← hm] at ho hnx hle
      obtain ⟨va, vc, rfl, hvc⟩ := row_form ho
      have HO : Hid (RowT wr w1.heap.size (.slice va m.length vc) m) := ho
      have HBb : Hid (Below w1.heap.size w1 wr) := hb
      have gk : (k : Int) < n := by omega
      have gk0 : (0 : Int) ≤ k := by omega
      have HCL : Hid (∀ X, Below w.heap.size w X → X.cell? ⟨q.b, q.o, none⟩ = some (.string q.x.key)) := fun X hX => (HT.out X hX q hqm).1
      have HZ := HKZ.out q hqm
      clear hr hm ho hb HC HT hqm HKZ
      cases he : p q.x
      · rw [he] at hnx CP
        simp only [Bool.false_eq_true, if_false] at hnx
        have HA : Hid (∀ X, Below wr.heap.size wr X → RowT X w1.heap.size (.slice va m.length vc) (keysP p ((al.take (k + 1)).map Hdl.x)) ∧ Below w1.heap.size w1 X) := fun X hX => ⟨by rw [hnx]; exact HO.out.below hX, HBb.out.trans (hX.mono HBb.out.size)⟩
        clear hnx HO HBb he HCL
        generalize m.length = mn at *
        go_wp2_with (go_at_fn g; refine CP.mono ?_; rintro e w2 ⟨rfl, hb2⟩)
        go_roundw
        case rel => exact ⟨k + 1, by omega, by go_num, (HA.out _ hb2).1, (HA.out _ hb2).2⟩
        case measure => simp [intOf]; omega
      · rw [he] at hnx CP
        simp only [if_true] at hnx
        obtain ⟨xk, hxk⟩ : ∃ t, q.x.key = t := ⟨_, rfl⟩
        rw [hxk] at hnx HCL HZ
        have CCL : Hid (∀ X, Calls Tryz.prog 124 #[.string xk] X fun e w' => e = .returned (.string xk) ∧ Below X.heap.size X w') := fun X => clone_text xk X HZ
        obtain ⟨mn, hmn⟩ : ∃ q, m.length = q := ⟨_, rfl⟩
        have HQ : Hid (∀ X, Below wr.heap.size wr X → (X.alloc (.cells #[.string xk] 9)).ownsRow w1.heap.size 9 1 (.slice va mn vc) mn (cTexts m) ∧ w1.heap.size ≤ (X.alloc (.cells #[.string xk] 9)).heap.size ∧ (∀ g cap w3, w3.ownsRow w1.heap.size 9 1 (.slice (some ⟨g, 0, none⟩) (mn + 1) cap) (mn + 1) (cTexts m ++ [.string xk]) → (X.alloc (.cells #[.string xk] 9)).grownBy w3 (Value.slice va mn vc).ownBlock → RowT w3 w1.heap.size (.slice (some ⟨g, 0, none⟩) (mn + 1) cap) (keysP p ((al.take (k + 1)).map Hdl.x)) ∧ Below w1.heap.size w1 w3)) := fun X hX => by
          have K2 : Below X.heap.size X (X.alloc (.cells #[.string xk] 9)) := (Below.refl _ _).alloc (Nat.le_refl _) _
          have O2 : (X.alloc (.cells #[.string xk] 9)).ownsRow w1.heap.size 9 1 (.slice va mn vc) mn (cTexts m) := by
            have := (HO.out.below hX).below K2
            unfold RowT at this
            rw [hmn] at this
            exact this
          have bX : Below w1.heap.size w1 (X.alloc (.cells #[.string xk] 9)) := HBb.out.trans ((hX.trans (K2.mono hX.size)).mono HBb.out.size)
          refine ⟨O2, bX.size, fun g cap w3 h1 h2 => ?_⟩
          have := RowT.app (w := w1) hmn bX.size O2 h1 h2 bX rfl
          rw [hnx]
          exact this
        rw [hmn] at hle hvc ⊢
        clear hnx HO HBb hmn he
        go_wp2_with (go_at_fn g; refine CP.mono ?_; rintro e w2 ⟨rfl, hb2⟩; have y0 := HCL.out _ (HBW.out.trans (hb2.mono HBW.out.size)))
        refine (CCL.out _).mono ?_
        rintro e w3 ⟨rfl, hb3⟩
        have hb23 := hb2.trans (hb3.mono hb2.size)
        have O2 : Hid _ := (HQ.out w3 hb23).1
        have s2 : Hid _ := (HQ.out w3 hb23).2.1
        have HA : Hid _ := (HQ.out w3 hb23).2.2
        have HW : Hid (∀ j u, ([Value.string xk] : List Value)[j]? = some u → (w3.alloc (.cells #[.string xk] 9)).cell? ((⟨w3.heap.size, 0, none⟩ : Addr).add j) = some u) := cell_str w3 xk _
        clear CP CCL HQ hb2 hb3 hb23 y0
        go_wp2_with (at_builtin; refine wpList_append_lies _ rfl (.tmp 18) (.tmp 24) 44 rfl w1.heap.size 9 i0 _ 1 16 Tryz.underlying44 hi0 hz0 hz1 hz2 rfl (by omega) _ mn (cTexts m) rfl O2.out _ 1 1 [.string xk] rfl rfl HW.out (by simp [Value.oneCell']) (by omega) (by unfold maxLen; omega) (by omega) s2.out _ rfl ?_; intro g cp w4 h1 h2 h3 h4)
        go_roundw
        case rel => exact ⟨k + 1, by omega, by go_num, (HA.out _ _ _ h1 h2).1, (HA.out _ _ _ h1 h2).2⟩
        case measure => simp [intOf]; omega
    · have ek : k = n := by omega
      subst ek
      obtain ⟨va, vc, rfl, _⟩ := row_form ho
      have HE : Hid ((∃ v', Ending.returned (.slice va (keysP p ((al.take k).map Hdl.x)).length vc) = .returned v' ∧ RowT wr w.heap.size v' (keysP p (al.map Hdl.x))) ∧ Below w.heap.size w wr) := ⟨⟨_, rfl, by rw [List.take_of_length_le (by have := HN.out; omega)] at ho ⊢; exact ho.lower HB1.out.size⟩, HB1.out.trans (hb.mono HB1.out.size)⟩
      clear ho hb HC HT HKZ
      go_wp2_with fail
      go_ret
      exact HE.out
end Go.Proofs.YtaphofdcoddopaaGreatDoor
/-
  KeysTagged, by the model and by the program.
-/
namespace Go.Proofs.YtaphofdcoddopaaGreatDoor
open Go.ChangeShapes Go.WideShapes Go.ChangeAt Go.RowKit Go.Sort
theorem NamAns.of {A B : NAns} {base : Nat} {e : Ending} {w' : World} (h : NamAns B base e w') (he : A = B) : NamAns A base e w' := he ▸ h
theorem NamAns.got {c : Int} {G : List ByteArray} {base b : Nat} {a : Option Addr} {n k : Nat} {w' : World} (h : RowT w' b (.slice a n k) G) (hb : base ≤ b) : NamAns ⟨c, G⟩ base (.returned (.agg #[.int .i64 c, .slice a n k])) w' :=
  ⟨⟨a, k, n⟩, rfl, h.lv.1, fun q e => ⟨Nat.le_trans hb (h.lv.2 q e), h.lv.1.block_lt q e⟩⟩
theorem NamAns.bad (c : Int) (base : Nat) (w' : World) : NamAns ⟨c, []⟩ base (.returned (.agg #[.int .i64 c, .slice none 0 0])) w' := NamAns.got (RowT.nil w' base) (Nat.le_refl _)
open Classical in
noncomputable def tagA (bu gu : Int) (tl kl : List Ent) (tag : ByteArray) : NAns :=
  if storeC bu gu tl kl ≠ 0 then ⟨storeC bu gu tl kl, []⟩ else ⟨0, keysP (tagP tag) (tl ++ kl)⟩
theorem row_off1T {w : World} {base : Nat} {v : Value} {l : List ByteArray} (h : RowT w base v l) {b i : Nat} (u : Value) (hb : b < base) : RowT (w.setCell ⟨b, i, none⟩ u) base v l := row_off h u hb
set_option maxRecDepth 100000 in
set_option maxHeartbeats 8000000 in
theorem specKeysT_any (w : World) (bu gu : Int) (ta ka : Option Addr) (tc kc : Nat) (tl kl : List (Ent × EntR)) (tag : ByteArray) (hl : tl.length ≤ 1048576) (hk : kl.length ≤ 1048576) (hto : ∀ q ∈ tl ++ kl, EntOk q.1) (hft : ∀ q ∈ tl ++ kl, EntFit q.1) (ht : EntsIn w ta tl) (hq : EntsIn w ka kl) :
    Calls Tryz.prog 33 #[.agg #[.int .i64 bu, .int .i64 gu, .slice ta tl.length tc, .slice ka kl.length kc], .string tag] w fun e w' => NamAns (tagA bu gu (tl.map Prod.fst) (kl.map Prod.fst) tag) w.heap.size e w' ∧ Below w.heap.size w w' := by
  have HF : Hid (∀ X, Below w.heap.size w X → Calls Tryz.prog 68 #[.agg #[.int .i64 bu, .int .i64 gu, .slice ta tl.length tc, .slice ka kl.length kc]] X fun r w' => r = .returned (.int .i64 (storeC bu gu (tl.map Prod.fst) (kl.map Prod.fst))) ∧ Below X.heap.size X w') := fun X hb => specSto_any X bu gu ta ka tc kc tl kl hl hk hto (ht.keep hb) (hq.keep hb)
  have HT : Hid (storeC bu gu (tl.map Prod.fst) (kl.map Prod.fst) = 0 → ∀ X, Below w.heap.size w X → X.cell? ⟨w.heap.size, 2, none⟩ = some (.slice ta tl.length tc) → X.cell? ⟨w.heap.size, 3, none⟩ = some (.slice ka kl.length kc) → Calls Tryz.prog 87 #[.pointer (some ⟨w.heap.size, 0, none⟩), .string tag] X fun e w' => (∃ a n k, e = .returned (.slice a n k) ∧ RowT w' X.heap.size (.slice a n k) (keysP (tagP tag) (tl.map Prod.fst ++ kl.map Prod.fst))) ∧ Below X.heap.size X w') := fun h0 X hX c2 c3 => by
    refine (l9Tagged_at X w.heap.size tag ta ka tc kc tl kl c2 c3 (by have := (storeC_zero h0).2.1; rw [List.length_map, List.length_map] at this; omega) hft (ht.keep hX) (hq.keep hX)).mono ?_
    rintro e w' ⟨⟨v, rfl, ho⟩, hb⟩
    obtain ⟨va, vc, rfl, _⟩ := row_form ho
    exact ⟨⟨va, _, vc, rfl, ho⟩, hb⟩
  obtain ⟨W, hW⟩ : ∃ W, W = (w.alloc (.cells #[.int .i64 bu, .int .i64 gu, .slice ta tl.length tc, .slice ka kl.length kc] 28)).alloc (.cells #[.int .i64 0, .slice none 0 0] 62) := ⟨_, rfl⟩
  have HW : Hid (W = (w.alloc (.cells #[.int .i64 bu, .int .i64 gu, .slice ta tl.length tc, .slice ka kl.length kc] 28)).alloc (.cells #[.int .i64 0, .slice none 0 0] 62)) := hW
  have K0 : Hid (Below w.heap.size w W ∧ S4 W w.heap.size (.int .i64 bu) (.int .i64 gu) (.slice ta tl.length tc) (.slice ka kl.length kc) ∧ S2 W (w.heap.size + 1) (.int .i64 0) (.slice none 0 0) ∧ w.heap.size + 2 ≤ W.heap.size) := by
    rw [hW]
    refine ⟨((Below.refl _ _).alloc (Nat.le_refl _) _).alloc (by simp) _, (S4.new w _ _ _ _ _).keep ((Below.refl _ _).alloc (Nat.le_refl _) _), ?_, by simp⟩
    have := S2.new (w.alloc (.cells #[.int .i64 bu, .int .i64 gu, .slice ta tl.length tc, .slice ka kl.length kc] 28)) (.int .i64 0) (.slice none 0 0) 62
    simpa using this
  obtain ⟨A, hA⟩ : ∃ A, tagA bu gu (tl.map Prod.fst) (kl.map Prod.fst) tag = A := ⟨_, rfl⟩
  rw [hA]
  unfold tagA at hA
  have HA : Hid (_ = A) := hA
  have e0 := K0.out.2.1.c0
  have e1 := K0.out.2.1.c1
  have e2 := K0.out.2.1.c2
  have e3 := K0.out.2.1.c3
  rw [HW.out] at e0 e1 e2 e3
  clear hW hl hk hto hft ht hq hA
  generalize storeC bu gu (tl.map Prod.fst) (kl.map Prod.fst) = sc at *
  generalize tl.length = tn at *
  generalize kl.length = kn at *
  go_enter Tryz.func33, Tryz.ntmps33
  go_wp2_with fail
  rw [← HW.out]
  refine (HF.out _ K0.out.1).mono ?_
  rintro r0 w1 ⟨rfl, hb1⟩
  have K1 : Hid (Below w.heap.size w w1 ∧ S4 w1 w.heap.size (.int .i64 bu) (.int .i64 gu) (.slice ta tn tc) (.slice ka kn kc) ∧ S2 w1 (w.heap.size + 1) (.int .i64 0) (.slice none 0 0) ∧ w.heap.size + 2 ≤ w1.heap.size) := ⟨K0.out.1.trans (hb1.mono K0.out.1.size), K0.out.2.1.keep hb1, K0.out.2.2.1.keep hb1, by have := K0.out.2.2.2; have := hb1.size; omega⟩
  clear K0 HW hb1 HF e0 e1 e2 e3
  by_cases cs : sc = 0
  · subst cs
    have HAe : Hid (A = ⟨0, keysP (tagP tag) (tl.map Prod.fst ++ kl.map Prod.fst)⟩) := by have := HA.out; simp only [ne_eq, not_true_eq_false, if_false] at this; exact this.symm
    clear HA
    go_wp2_with fail
    refine (HT.out (by trivial) _ K1.out.1 K1.out.2.1.c2 K1.out.2.1.c3).mono ?_
    rintro r0 w2 ⟨⟨a, n, k, rfl, ho⟩, hb2⟩
    have HO : Hid (RowT w2 w1.heap.size (.slice a n k) (keysP (tagP tag) (tl.map Prod.fst ++ kl.map Prod.fst))) := ho
    have s2 := K1.out.2.2.1.keep hb2
    have HB : Hid (Below w.heap.size w w2 ∧ w.heap.size + 2 ≤ w1.heap.size) := ⟨K1.out.1.trans (hb2.mono K1.out.1.size), K1.out.2.2.2⟩
    have z0 := s2.c0
    have z1 := s2.c1
    have zf0 := s2.fr 0
    have zf1 := s2.fr 1
    clear s2 hb2 ho K1 HT
    go_wp2_with fail
    refine bodyPost_ret (v := .agg #[.int .i64 0, .slice a n k]) (by simp [results, Tryz.results33, go_sem, z0, z1]) rfl ?_
    have hlt : w.heap.size + 1 < w1.heap.size := by have := HB.out.2; omega
    exact ⟨(NamAns.got (row_off1T (row_off1T HO.out _ hlt) _ hlt) (by omega)).of HAe.out, (HB.out.1.setCell (by simp) _).setCell (by simp) _⟩
  · have HAe : Hid (A = ⟨sc, []⟩) := by have := HA.out; rw [if_pos cs] at this; exact this.symm
    have z0 := K1.out.2.2.1.c0
    have z1 := K1.out.2.2.1.c1
    have zf0 := K1.out.2.2.1.fr 0
    have zf1 := K1.out.2.2.1.fr 1
    have HB : Hid (Below w.heap.size w w1) := K1.out.1
    clear HA K1 HT
    go_wp2_with fail
    refine bodyPost_ret (v := .agg #[.int .i64 sc, .slice none 0 0]) (by simp [results, Tryz.results33, go_sem, z0, z1]) rfl ?_
    exact ⟨(NamAns.bad _ _ _).of HAe.out, (HB.out.setCell (by simp) _).setCell (by simp) _⟩
set_option maxHeartbeats 2000000 in
theorem hasTag_any (w : World) (tag : ByteArray) : Calls Tryz.prog 89 #[.string tag] w fun e w' => e = .returned (.func (.func 127) #[] #[.pointer (some ⟨w.heap.size, 0, none⟩)]) ∧ w'.cell? ⟨w.heap.size, 0, none⟩ = some (.string tag) ∧ w.heap.size < w'.heap.size ∧ Below w.heap.size w w' := by
  go_enter Tryz.func89, Tryz.ntmps89
  go_wp2_with fail
  go_ret
  exact ⟨rfl, by simp, by simp, (Below.refl _ _).alloc (Nat.le_refl _) _⟩
set_option maxHeartbeats 2000000 in
theorem hasKey_any (w : World) (key : ByteArray) : Calls Tryz.prog 93 #[.string key] w fun e w' => e = .returned (.func (.func 132) #[] #[.pointer (some ⟨w.heap.size, 0, none⟩)]) ∧ w'.cell? ⟨w.heap.size, 0, none⟩ = some (.string key) ∧ w.heap.size < w'.heap.size ∧ Below w.heap.size w w' := by
  go_enter Tryz.func93, Tryz.ntmps93
  go_wp2_with fail
  go_ret
  exact ⟨rfl, by simp, by simp, (Below.refl _ _).alloc (Nat.le_refl _) _⟩
theorem entC_sizes {x : Ent} (h : entC x = 0) : x.key.size ≤ 1048576 ∧ x.ts.length ≤ 1048576 := by
  obtain ⟨z1, _, _, _, _, z6, _⟩ := entryC_zero h
  exact ⟨by omega, by omega⟩
set_option maxRecDepth 100000 in
set_option maxHeartbeats 8000000 in
theorem implKeysT_any (w : World) (bu gu : Int) (ta ka : Option Addr) (tc kc : Nat) (tl kl : List (Ent × EntR)) (tag : ByteArray) (hset : SetIs w) (hl : tl.length ≤ 1048576) (hk : kl.length ≤ 1048576) (hto : ∀ q ∈ tl ++ kl, EntOk q.1) (ht : EntsIn w ta tl) (hq : EntsIn w ka kl) :
    Calls Tryz.prog 34 #[.agg #[.int .i64 bu, .int .i64 gu, .slice ta tl.length tc, .slice ka kl.length kc], .string tag] w fun e w' => NamAns (tagA bu gu (tl.map Prod.fst) (kl.map Prod.fst) tag) w.heap.size e w' ∧ Below w.heap.size w w' := by
  have HF : Hid (∀ X, Below w.heap.size w X → Calls Tryz.prog 76 #[.agg #[.int .i64 bu, .int .i64 gu, .slice ta tl.length tc, .slice ka kl.length kc]] X fun r w' => r = .returned (.int .i64 (storeC bu gu (tl.map Prod.fst) (kl.map Prod.fst))) ∧ Below X.heap.size X w') := fun X hb => implSto_any X bu gu ta ka tc kc tl kl (hset.below hb) hl hk hto (ht.keep hb) (hq.keep hb)
  have HSO : Hid (∀ X, Below w.heap.size w X → Calls Tryz.prog 52 #[.agg #[.int .i64 bu, .int .i64 gu, .slice ta tl.length tc, .slice ka kl.length kc]] X fun e w' => (∃ a1 c1 d1 a2 c2 d2, e = .returned (.agg #[.slice a1 c1 d1, .slice a2 c2 d2]) ∧ TwoP w' X.heap.size (.slice a1 c1 d1) (.slice a2 c2 d2) (hdlsA ta tl) (hdlsA ka kl)) ∧ Below X.heap.size X w') := fun X hb => by
    refine (shelvesOf_any X bu gu ta ka tc kc tl kl hl hk (ht.keep hb) (hq.keep hb)).mono ?_
    rintro e w' ⟨⟨v1, v2, rfl, h2⟩, hb'⟩
    obtain ⟨a1, d1, rfl, _⟩ := h2.a.form
    obtain ⟨a2, d2, rfl, _⟩ := h2.b.form
    exact ⟨⟨a1, _, d1, a2, _, d2, rfl, h2⟩, hb'⟩
  have HKO : Hid (storeC bu gu (tl.map Prod.fst) (kl.map Prod.fst) = 0 → ∀ X K v1 v2 base, Below w.heap.size w X → TwoP X base v1 v2 (hdlsA ta tl) (hdlsA ka kl) → K < X.heap.size → X.cell? ⟨K, 0, none⟩ = some (.string tag) → Calls Tryz.prog 88 #[.agg #[v1, v2], .func (.func 127) #[] #[.pointer (some ⟨K, 0, none⟩)]] X fun e w' => (∃ a n k, e = .returned (.slice a n k) ∧ RowT w' X.heap.size (.slice a n k) (keysP (tagP tag) (tl.map Prod.fst ++ kl.map Prod.fst))) ∧ Below X.heap.size X w') := fun h0 X K v1 v2 base hb h hK hc => by
    have hln := (storeC_zero h0).2.1
    rw [List.length_map, List.length_map] at hln
    have hz : ∀ h ∈ hdl2 ta ka tl kl, entC h.x = 0 := fun h hh => storeC_ent h0 h.x (by rw [← hdl2_x ta ka]; exact List.mem_map_of_mem hh)
    refine (keysOf_any X v1 v2 base X.heap.size _ _ (tagP tag) _ (hdlsA ta tl) (hdlsA ka kl) h (predTag X.heap.size K tag hK) hc (Nat.le_refl _) (by rw [hdlsA_len, hdlsA_len]; omega) (hdl2_there (ht.keep hb) (hq.keep hb)) (fun h hh => (entC_sizes (hz h hh)).2) (fun h hh => (entC_sizes (hz h hh)).1)).mono ?_
    rintro e w' ⟨⟨v, rfl, ho⟩, hb'⟩
    have ex : (hdlsA ta tl ++ hdlsA ka kl).map Hdl.x = tl.map Prod.fst ++ kl.map Prod.fst := hdl2_x ta ka tl kl
    rw [ex] at ho
    obtain ⟨va, vc, rfl, _⟩ := row_form ho
    exact ⟨⟨va, _, vc, rfl, ho⟩, hb'⟩
  obtain ⟨W, hW⟩ : ∃ W, W = (w.alloc (.cells #[.int .i64 bu, .int .i64 gu, .slice ta tl.length tc, .slice ka kl.length kc] 28)).alloc (.cells #[.int .i64 0, .slice none 0 0] 62) := ⟨_, rfl⟩
  have HW : Hid (W = (w.alloc (.cells #[.int .i64 bu, .int .i64 gu, .slice ta tl.length tc, .slice ka kl.length kc] 28)).alloc (.cells #[.int .i64 0, .slice none 0 0] 62)) := hW
  have K0 : Hid (Below w.heap.size w W ∧ S4 W w.heap.size (.int .i64 bu) (.int .i64 gu) (.slice ta tl.length tc) (.slice ka kl.length kc) ∧ S2 W (w.heap.size + 1) (.int .i64 0) (.slice none 0 0) ∧ w.heap.size + 2 ≤ W.heap.size) := by
    rw [hW]
    refine ⟨((Below.refl _ _).alloc (Nat.le_refl _) _).alloc (by simp) _, (S4.new w _ _ _ _ _).keep ((Below.refl _ _).alloc (Nat.le_refl _) _), ?_, by simp⟩
    have := S2.new (w.alloc (.cells #[.int .i64 bu, .int .i64 gu, .slice ta tl.length tc, .slice ka kl.length kc] 28)) (.int .i64 0) (.slice none 0 0) 62
    simpa using this
  obtain ⟨A, hA⟩ : ∃ A, tagA bu gu (tl.map Prod.fst) (kl.map Prod.fst) tag = A := ⟨_, rfl⟩
  rw [hA]
  unfold tagA at hA
  have HA : Hid (_ = A) := hA
  have e0 := K0.out.2.1.c0
  have e1 := K0.out.2.1.c1
  have e2 := K0.out.2.1.c2
  have e3 := K0.out.2.1.c3
  rw [HW.out] at e0 e1 e2 e3
  clear hW hl hk hto ht hq hA hset
  generalize storeC bu gu (tl.map Prod.fst) (kl.map Prod.fst) = sc at *
  generalize tl.length = tn at *
  generalize kl.length = kn at *
  go_enter Tryz.func34, Tryz.ntmps34
  go_wp2_with fail
  rw [← HW.out]
  refine (HF.out _ K0.out.1).mono ?_
  rintro r0 w1 ⟨rfl, hb1⟩
  have K1 : Hid (Below w.heap.size w w1 ∧ S4 w1 w.heap.size (.int .i64 bu) (.int .i64 gu) (.slice ta tn tc) (.slice ka kn kc) ∧ S2 w1 (w.heap.size + 1) (.int .i64 0) (.slice none 0 0) ∧ w.heap.size + 2 ≤ w1.heap.size) := ⟨K0.out.1.trans (hb1.mono K0.out.1.size), K0.out.2.1.keep hb1, K0.out.2.2.1.keep hb1, by have := K0.out.2.2.2; have := hb1.size; omega⟩
  clear K0 HW hb1 HF e0 e1 e2 e3
  by_cases cs : sc = 0
  · subst cs
    have HAe : Hid (A = ⟨0, keysP (tagP tag) (tl.map Prod.fst ++ kl.map Prod.fst)⟩) := by have := HA.out; simp only [ne_eq, not_true_eq_false, if_false] at this; exact this.symm
    have HK := HKO.out rfl
    clear HA HKO
    have e0 := K1.out.2.1.c0
    have e1 := K1.out.2.1.c1
    have e2 := K1.out.2.1.c2
    have e3 := K1.out.2.1.c3
    go_wp2_with fail
    refine (HSO.out _ K1.out.1).mono ?_
    rintro r0 w2 ⟨⟨a1, c1, d1, a2, c2, d2, rfl, tp⟩, hb2⟩
    have K2 : Hid (Below w.heap.size w w2 ∧ S2 w2 (w.heap.size + 1) (.int .i64 0) (.slice none 0 0) ∧ w.heap.size + 2 ≤ w2.heap.size ∧ TwoP w2 w1.heap.size (.slice a1 c1 d1) (.slice a2 c2 d2) (hdlsA ta tl) (hdlsA ka kl)) := ⟨K1.out.1.trans (hb2.mono K1.out.1.size), K1.out.2.2.1.keep hb2, by have := K1.out.2.2.2; have := hb2.size; omega, tp⟩
    clear e0 e1 e2 e3 hb2 tp K1 HSO
    go_wp2_with fail
    refine (hasTag_any w2 tag).mono ?_
    rintro r0 w3 ⟨rfl, hc3, hl3, hb3⟩
    have K3 : Hid (Below w.heap.size w w3 ∧ S2 w3 (w.heap.size + 1) (.int .i64 0) (.slice none 0 0) ∧ w.heap.size + 2 ≤ w3.heap.size) := ⟨K2.out.1.trans (hb3.mono K2.out.1.size), K2.out.2.1.keep hb3, by have := K2.out.2.2.1; omega⟩
    have CK := HK w3 w2.heap.size _ _ _ K3.out.1 (K2.out.2.2.2.below hb3) hl3 hc3
    clear hb3 hc3 hl3 K2 HK
    go_wp2_with fail
    refine CK.mono ?_
    rintro r0 w4 ⟨⟨a, n, k, rfl, ho⟩, hb4⟩
    have HO : Hid (RowT w4 w3.heap.size (.slice a n k) (keysP (tagP tag) (tl.map Prod.fst ++ kl.map Prod.fst))) := ho
    have s2 := K3.out.2.1.keep hb4
    have HB : Hid (Below w.heap.size w w4 ∧ w.heap.size + 2 ≤ w3.heap.size) := ⟨K3.out.1.trans (hb4.mono K3.out.1.size), K3.out.2.2⟩
    have z0 := s2.c0
    have z1 := s2.c1
    have zf0 := s2.fr 0
    have zf1 := s2.fr 1
    clear s2 hb4 ho K3 CK
    go_wp2_with fail
    refine bodyPost_ret (v := .agg #[.int .i64 0, .slice a n k]) (by simp [results, Tryz.results34, go_sem, z0, z1]) rfl ?_
    have hlt : w.heap.size + 1 < w3.heap.size := by have := HB.out.2; omega
    exact ⟨(NamAns.got (row_off1T (row_off1T HO.out _ hlt) _ hlt) (by omega)).of HAe.out, (HB.out.1.setCell (by simp) _).setCell (by simp) _⟩
  · have HAe : Hid (A = ⟨sc, []⟩) := by have := HA.out; rw [if_pos cs] at this; exact this.symm
    have z0 := K1.out.2.2.1.c0
    have z1 := K1.out.2.2.1.c1
    have zf0 := K1.out.2.2.1.fr 0
    have zf1 := K1.out.2.2.1.fr 1
    have HB : Hid (Below w.heap.size w w1) := K1.out.1
    clear HA K1 HKO HSO
    go_wp2_with fail
    refine bodyPost_ret (v := .agg #[.int .i64 sc, .slice none 0 0]) (by simp [results, Tryz.results34, go_sem, z0, z1]) rfl ?_
    exact ⟨(NamAns.bad _ _ _).of HAe.out, (HB.out.setCell (by simp) _).setCell (by simp) _⟩
end Go.Proofs.YtaphofdcoddopaaGreatDoor
