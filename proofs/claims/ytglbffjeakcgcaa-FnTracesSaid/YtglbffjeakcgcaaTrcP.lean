/-
  Traces, in plain words.
-/
import Derived.Test.YtglbffjeakcgcaaNoteP
import Derived.Test.YtglbffjeakcgcaaTrTo
import Derived.Test.YtglbffjeakcgcaaNsList
import Derived.Test.YtglbffjeakcgcaaBsList
namespace Go.Proofs.Ytglbffjeakcgcaa
open Go.ChangeShapes Go.WideShapes Go.ChangeAt Go.RowKit Go.Sort
def stepC (b : Bk) (a0 a1 a2 a3 a4 : Int) (x : Tr) : Int := turnC b.s b.t b.o b.l a0 a1 a2 a3 a4 x.tm
def stepB (b : Bk) (a0 a1 a2 a3 a4 : Int) (x : Tr) : Bk := if x.ak = true then ⟨alS b.s b.t b.o a3 a4 x.tm, b.t, alO b.s b.t b.o a3 a4 x.tm, b.l⟩ else noteV b.s b.t b.o b.l a0 a1 a2 x.tm x.gd
def stepA (b : Bk) (_a0 _a1 _a2 a3 a4 : Int) (x : Tr) : Bool := x.ak && alB b.s b.t b.o a3 a4 x.tm
def stepR (b : Bk) (a0 a1 a2 a3 a4 : Int) (x : Tr) : Int × Bk × Bool := if stepC b a0 a1 a2 a3 a4 x = 0 then (0, stepB b a0 a1 a2 a3 a4 x, stepA b a0 a1 a2 a3 a4 x) else (stepC b a0 a1 a2 a3 a4 x, ⟨0, 0, 0, []⟩, false)
def runT (a0 a1 a2 a3 a4 : Int) : Bk → List Tr → List Int → List Bool → Int × List Int × List Bool
  | _, [], S, A => (0, S, A)
  | b, x :: l, S, A => if stepC b a0 a1 a2 a3 a4 x = 0 then runT a0 a1 a2 a3 a4 (stepB b a0 a1 a2 a3 a4 x) l (S ++ [(stepB b a0 a1 a2 a3 a4 x).s]) (A ++ [stepA b a0 a1 a2 a3 a4 x]) else (stepC b a0 a1 a2 a3 a4 x, [], [])
def tracesR (a0 a1 a2 a3 a4 : Int) (l : List Tr) : Int × List Int × List Bool := if rulesC a0 a1 a2 a3 a4 = 0 then (if 100 < l.length then (2, [], []) else runT a0 a1 a2 a3 a4 ⟨0, 0, 0, []⟩ l [] []) else (rulesC a0 a1 a2 a3 a4, [], [])
theorem runT_len (a0 a1 a2 a3 a4 : Int) : ∀ (l : List Tr) (b : Bk) (S : List Int) (A : List Bool), (runT a0 a1 a2 a3 a4 b l S A).2.1.length ≤ S.length + l.length ∧ (runT a0 a1 a2 a3 a4 b l S A).2.2.length ≤ A.length + l.length
  | [], _, S, A => by simp [runT]
  | x :: l, b, S, A => by
    rw [runT]
    split
    · have := runT_len a0 a1 a2 a3 a4 l (stepB b a0 a1 a2 a3 a4 x) (S ++ [(stepB b a0 a1 a2 a3 a4 x).s]) (A ++ [stepA b a0 a1 a2 a3 a4 x])
      simp only [List.length_append, List.length_cons, List.length_nil] at this ⊢
      omega
    · simp
theorem runT_step {a0 a1 a2 a3 a4 : Int} {b : Bk} {l : List Tr} {k : Nat} {x : Tr} {S : List Int} {A : List Bool} (hx : l[k]? = some x) (h : stepC b a0 a1 a2 a3 a4 x = 0) : runT a0 a1 a2 a3 a4 b (l.drop k) S A = runT a0 a1 a2 a3 a4 (stepB b a0 a1 a2 a3 a4 x) (l.drop (k + 1)) (S ++ [(stepB b a0 a1 a2 a3 a4 x).s]) (A ++ [stepA b a0 a1 a2 a3 a4 x]) := by
  rw [dropTr l k x hx, runT, if_pos h]
theorem runT_stop {a0 a1 a2 a3 a4 : Int} {b : Bk} {l : List Tr} {k : Nat} {x : Tr} {S : List Int} {A : List Bool} (hx : l[k]? = some x) (h : ¬ stepC b a0 a1 a2 a3 a4 x = 0) : runT a0 a1 a2 a3 a4 b (l.drop k) S A = (stepC b a0 a1 a2 a3 a4 x, [], []) := by
  rw [dropTr l k x hx, runT, if_neg h]
theorem stepB_len {b : Bk} {a0 a1 a2 a3 a4 : Int} {x : Tr} (h : stepC b a0 a1 a2 a3 a4 x = 0) : (stepB b a0 a1 a2 a3 a4 x).l.length ≤ 60 := by
  have g := good_of h
  unfold stepB
  split
  · exact g.hn
  · unfold noteV
    split
    · exact g.hn
    · split
      · split <;> exact g.hn
      · split
        · simp
        · exact noteL_len g.hn
end Go.Proofs.Ytglbffjeakcgcaa
