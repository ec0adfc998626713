/-
  Who leaves, in plain words.
-/
import Derived.Test.YtmgidcigihpbeaaEnterP
namespace Go.Proofs.Ytmgidcigihpbeaa
open Go.ChangeShapes Go.WideShapes Go.ChangeAt Go.RowKit Go.Sort
structure LeQ where
  c : Int
  y : Int
  l : List Wt
  u : Int
def LeRes (w : World) (base : Nat) (q : LeQ) (e : Ending) : Prop := ∃ a cp, e = .returned (.agg #[.int .i64 q.c, .int .i64 q.y, .slice a q.l.length cp, .int .i64 q.u]) ∧ WtNew w base (.slice a q.l.length cp) q.l ∧ q.l.length ≤ cp
theorem LeRes.mk {w : World} {base : Nat} {q : LeQ} {c0 y : Int} {a : Option Addr} {n cp : Nat} {l : List Wt} {u : Int} (h : q = ⟨c0, y, l, u⟩) (hn : l.length = n) (hm : WtNew w base (.slice a n cp) l) (hc : n ≤ cp) : LeRes w base q (.returned (.agg #[.int .i64 c0, .int .i64 y, .slice a n cp, .int .i64 u])) := by
  subst h; subst hn
  exact ⟨a, cp, rfl, hm, hc⟩
def nextW : List Wt → Int
  | [] => -1
  | r :: _ => r.wi
def busyW (y : Int) : List Wt → Int
  | [] => y - 1
  | _ :: _ => y
def leaveR (y : Int) (l : List Wt) (s c t : Int) : LeQ :=
  if blkC y l s c t = 0 then (if y = 0 then ⟨4, 0, [], 0⟩ else ⟨0, busyW y l, l.tail, nextW l⟩) else ⟨blkC y l s c t, 0, [], 0⟩
section
variable {y s c t : Int} {l : List Wt}
theorem leave_bad (h : ¬ blkC y l s c t = 0) : leaveR y l s c t = ⟨blkC y l s c t, 0, [], 0⟩ := by rw [leaveR, if_neg h]
theorem leave_none (h : blkC y l s c t = 0) (h1 : y = 0) : leaveR y l s c t = ⟨4, 0, [], 0⟩ := by rw [leaveR, if_pos h, if_pos h1]
theorem leave_ok (h : blkC y l s c t = 0) (h1 : ¬ y = 0) : leaveR y l s c t = ⟨0, busyW y l, l.tail, nextW l⟩ := by rw [leaveR, if_pos h, if_neg h1]
theorem leaveR_len (h : l.length ≤ 1048576) : (leaveR y l s c t).l.length ≤ 1048576 := by
  unfold leaveR
  split
  · split
    · simp
    · simp only [List.length_tail]; omega
  · simp
end
theorem WtIn.tail {w : World} {b off : Nat} {r : Wt} {k : List Wt} (h : WtAt w b off (r :: k)) : WtIn w (some ⟨b, off + 2, none⟩) k := by
  refine .inr ⟨b, off + 2, rfl, fun i q hq => ?_⟩
  obtain ⟨p0, p1⟩ := h (i + 1) q (by simpa using hq)
  rw [show off + (i + 1) * 2 = off + 2 + i * 2 by omega] at p0 p1
  exact ⟨p0, p1⟩
theorem WtIn.tail2 {w : World} {b off cap : Nat} {r : Wt} {k : List Wt} (h : WtAt w b off (r :: k)) (hc : k.length + 1 ≤ cap) : WtIn w (if cap = 1 then some ⟨b, off, none⟩ else some ⟨b, off + 2, none⟩) k := by
  split
  · exact .inl (List.eq_nil_of_length_eq_zero (by omega))
  · exact WtIn.tail h
end Go.Proofs.Ytmgidcigihpbeaa
