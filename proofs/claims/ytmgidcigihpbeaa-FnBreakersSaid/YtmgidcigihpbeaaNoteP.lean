/-
  What an outcome turns, in plain words.
-/
import Derived.Test.YtmgidcigihpbeaaAllowP
namespace Go.Proofs.Ytmgidcigihpbeaa
open Go.ChangeShapes Go.WideShapes Go.ChangeAt Go.RowKit Go.Sort
def cntB (a0 now : Int) (r : Mk) : Bool := decide (now < addT r.tm a0)
def cntL (a0 now : Int) (l : List Mk) : List Mk := l.filter (cntB a0 now)
def noteL (l : List Mk) (a0 now : Int) (good : Bool) : List Mk := if 60 < (cntL a0 now l ++ [(⟨now, good⟩ : Mk)]).length then (cntL a0 now l ++ [(⟨now, good⟩ : Mk)]).drop 1 else cntL a0 now l ++ [(⟨now, good⟩ : Mk)]
def tooB (l : List Mk) (a1 a2 : Int) : Bool := decide (a1 ≤ (l.length : Int)) && decide (a2 * (l.length : Int) ≤ 1000 * (badM l : Int))
def noteV (s t o : Int) (l : List Mk) (a0 a1 a2 now : Int) (good : Bool) : Bk :=
  if s = 1 then ⟨s, t, o, l⟩ else if s = 2 then (if good = true then ⟨0, t, 0, l⟩ else ⟨1, now, 0, l⟩)
  else if tooB (noteL l a0 now good) a1 a2 = true then ⟨1, now, o, []⟩ else ⟨0, t, o, noteL l a0 now good⟩
def noteR (s t o : Int) (l : List Mk) (a0 a1 a2 a3 a4 now : Int) (good : Bool) : Int × Bk := if turnC s t o l a0 a1 a2 a3 a4 now = 0 then (0, noteV s t o l a0 a1 a2 now good) else (turnC s t o l a0 a1 a2 a3 a4 now, ⟨0, 0, 0, []⟩)
def NoteRes (w : World) (base : Nat) (q : Int × Bk) (e : Ending) : Prop := ∃ a c, e = .returned (.agg #[.int .i64 q.1, .int .i64 q.2.s, .int .i64 q.2.t, .int .i64 q.2.o, .slice a q.2.l.length c]) ∧ MkNew w base (.slice a q.2.l.length c) q.2.l
theorem NoteRes.mk {w : World} {base : Nat} {q : Int × Bk} {c0 s t o : Int} {a : Option Addr} {n c : Nat} {l : List Mk} (h : q = (c0, ⟨s, t, o, l⟩)) (hn : l.length = n) (hm : MkNew w base (.slice a n c) l) : NoteRes w base q (.returned (.agg #[.int .i64 c0, .int .i64 s, .int .i64 t, .int .i64 o, .slice a n c])) := by
  subst h; subst hn
  exact ⟨a, c, rfl, hm⟩
theorem cntL_le (a0 now : Int) (l : List Mk) : (cntL a0 now l).length ≤ l.length := List.length_filter_le _ _
theorem noteL_len {l : List Mk} {a0 now : Int} {good : Bool} (h : l.length ≤ 60) : (noteL l a0 now good).length ≤ 60 := by
  have := cntL_le a0 now l
  unfold noteL
  split
  · rw [List.length_drop, List.length_append]; simp; omega
  · omega
theorem noteR_len {s t o : Int} {l : List Mk} {a0 a1 a2 a3 a4 now : Int} {good : Bool} (h : l.length ≤ 1048576) : (noteR s t o l a0 a1 a2 a3 a4 now good).2.l.length ≤ 1048576 := by
  unfold noteR
  split
  · rename_i ht
    have := noteL_len (a0 := a0) (now := now) (good := good) (good_of ht).hn
    unfold noteV
    split
    · exact h
    · split
      · split <;> exact h
      · split
        · simp
        · show (noteL l a0 now good).length ≤ 1048576; omega
  · simp
theorem noteR_bad {s t o : Int} {l : List Mk} {a0 a1 a2 a3 a4 now : Int} {good : Bool} (h : ¬ turnC s t o l a0 a1 a2 a3 a4 now = 0) : noteR s t o l a0 a1 a2 a3 a4 now good = (turnC s t o l a0 a1 a2 a3 a4 now, ⟨0, 0, 0, []⟩) := by rw [noteR, if_neg h]
theorem noteR_ok {s t o : Int} {l : List Mk} {a0 a1 a2 a3 a4 now : Int} {good : Bool} (h : turnC s t o l a0 a1 a2 a3 a4 now = 0) : noteR s t o l a0 a1 a2 a3 a4 now good = (0, noteV s t o l a0 a1 a2 now good) := by rw [noteR, if_pos h]
theorem cntL_take {l : List Mk} {k : Nat} {r : Mk} (a0 now : Int) (hr : l[k]? = some r) : cntL a0 now (l.take (k + 1)) = cntL a0 now (l.take k) ++ (if cntB a0 now r = true then [r] else []) := by
  obtain ⟨hk, rfl⟩ := List.getElem?_eq_some_iff.1 hr
  rw [List.take_succ_eq_append_getElem hk, cntL, cntL, List.filter_append]
  cases h : cntB a0 now l[k] <;> simp [List.filter, h]
theorem mul_room {a2 : Int} {n : Nat} (h : 1 ≤ a2 ∧ a2 ≤ 1000) (hn : n ≤ 100) : 0 ≤ a2 * (n : Int) ∧ a2 * (n : Int) ≤ 100000 := by
  have h1 : a2 * (n : Int) ≤ 1000 * (n : Int) := Int.mul_le_mul_of_nonneg_right h.2 (by omega)
  have h2 : 0 ≤ a2 * (n : Int) := Int.mul_nonneg (by omega) (by omega)
  omega
theorem MkAt.drop1 {w : World} {g off : Nat} {x : Mk} {l : List Mk} (h : MkAt w g off (x :: l)) : MkAt w g (off + 2) l := by
  intro i r hr
  obtain ⟨p0, p1⟩ := h (i + 1) r (by simpa using hr)
  rw [show off + (i + 1) * 2 = off + 2 + i * 2 by omega] at p0 p1
  exact ⟨p0, p1⟩
theorem MkNew.drop1 {w : World} {base g off c c' : Nat} {n : Nat} {l : List Mk} (h : MkNew w base (.slice (some ⟨g, off, none⟩) (n + 1) c) l) (hn : l.length = n + 1) : MkNew w base (.slice (some ⟨g, off + 2, none⟩) n c') (l.drop 1) := by
  cases l with
  | nil => simp at hn
  | cons x l =>
    rcases h with ⟨e, _⟩ | ⟨G, off', cap, e, h1, h2, h3, h4⟩
    · cases e
    · simp only [Value.slice.injEq, Option.some.injEq, Addr.mk.injEq, and_true] at e
      obtain ⟨⟨rfl, rfl⟩, _, rfl⟩ := e
      simp only [List.length_cons, Nat.add_right_cancel_iff] at hn
      subst hn
      exact .inr ⟨g, off + 2, c', rfl, h1, h2, h3.drop1, h4⟩
end Go.Proofs.Ytmgidcigihpbeaa
