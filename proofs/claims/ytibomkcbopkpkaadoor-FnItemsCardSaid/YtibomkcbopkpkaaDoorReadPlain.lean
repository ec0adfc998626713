/-
  An item of a trimmed piece, plainly; the items of pieces.
-/
import Derived.Test.YtibomkcbopkpkaaDoorPiecesSpec
import Derived.Test.YtibomkcbopkpkaaDoorItemsAt
import Derived.Test.YtibomkcbopkpkaaDoorWordPlain
import Derived.Test.YtibomkcbopkpkaaDoorTrimPlain
namespace Go.Proofs.YtibomkcbopkpkaaDoor
/-- How many bytes stand ahead of the first '='; all of them where there is none. -/
def eqAt : List UInt8 → Nat
  | [] => 0
  | c :: r => if (c.toNat : Int) = 61 then 0 else 1 + eqAt r
theorem eqAt_le : ∀ l : List UInt8, eqAt l ≤ l.length
  | [] => by simp [eqAt]
  | c :: r => by
    have := eqAt_le r
    simp only [eqAt, List.length_cons]
    split <;> omega
/-- An item of a trimmed piece; none: it is none. -/
def readR (s : ByteArray) : Option Rec :=
  if wordS (s.extract 0 (eqAt s.data.toList)) = false then none
  else if eqAt s.data.toList = s.size then some ⟨s, false, ⟨#[]⟩⟩
  else if wordS (s.extract (eqAt s.data.toList + 1) s.size) = true then some ⟨s.extract 0 (eqAt s.data.toList), true, s.extract (eqAt s.data.toList + 1) s.size⟩
  else if unqB (s.extract (eqAt s.data.toList + 1) s.size) = true then some ⟨s.extract 0 (eqAt s.data.toList), true, unqS (s.extract (eqAt s.data.toList + 1) s.size)⟩
  else none
theorem read_noname {s : ByteArray} (h : wordS (s.extract 0 (eqAt s.data.toList)) = false) : readR s = none := by unfold readR; rw [if_pos h]
theorem read_bare {s : ByteArray} (h : wordS (s.extract 0 (eqAt s.data.toList)) = true) (h2 : eqAt s.data.toList = s.size) : readR s = some ⟨s, false, ⟨#[]⟩⟩ := by unfold readR; rw [if_neg (by rw [h]; decide), if_pos h2]
theorem read_word {s : ByteArray} (h : wordS (s.extract 0 (eqAt s.data.toList)) = true) (h2 : eqAt s.data.toList ≠ s.size) (h3 : wordS (s.extract (eqAt s.data.toList + 1) s.size) = true) : readR s = some ⟨s.extract 0 (eqAt s.data.toList), true, s.extract (eqAt s.data.toList + 1) s.size⟩ := by
  unfold readR; rw [if_neg (by rw [h]; decide), if_neg h2, if_pos h3]
theorem read_quote {s : ByteArray} (h : wordS (s.extract 0 (eqAt s.data.toList)) = true) (h2 : eqAt s.data.toList ≠ s.size) (h3 : wordS (s.extract (eqAt s.data.toList + 1) s.size) = false) (h4 : unqB (s.extract (eqAt s.data.toList + 1) s.size) = true) : readR s = some ⟨s.extract 0 (eqAt s.data.toList), true, unqS (s.extract (eqAt s.data.toList + 1) s.size)⟩ := by
  unfold readR; rw [if_neg (by rw [h]; decide), if_neg h2, if_neg (by rw [h3]; decide), if_pos h4]
theorem read_bad {s : ByteArray} (h : wordS (s.extract 0 (eqAt s.data.toList)) = true) (h2 : eqAt s.data.toList ≠ s.size) (h3 : wordS (s.extract (eqAt s.data.toList + 1) s.size) = false) (h4 : unqB (s.extract (eqAt s.data.toList + 1) s.size) = false) : readR s = none := by
  unfold readR; rw [if_neg (by rw [h]; decide), if_neg h2, if_neg (by rw [h3]; decide), if_neg (by rw [h4]; decide)]
/-- The items of pieces; none: one of them is none. -/
def readP : List (List UInt8) → Option (List Rec)
  | [] => some []
  | p :: ps => if (trimT (mkB p)).size = 0 then readP ps else
    match readR (trimT (mkB p)) with
    | none => none
    | some r => (readP ps).map (r :: ·)
theorem readP_skip {p : List UInt8} {ps : List (List UInt8)} (h : (trimT (mkB p)).size = 0) : readP (p :: ps) = readP ps := by rw [readP, if_pos h]
theorem readP_bad {p : List UInt8} {ps : List (List UInt8)} (h : (trimT (mkB p)).size ≠ 0) (hr : readR (trimT (mkB p)) = none) : readP (p :: ps) = none := by rw [readP, if_neg h, hr]
theorem readP_take {p : List UInt8} {ps : List (List UInt8)} {r : Rec} (h : (trimT (mkB p)).size ≠ 0) (hr : readR (trimT (mkB p)) = some r) : readP (p :: ps) = (readP ps).map (r :: ·) := by rw [readP, if_neg h, hr]
/-- The items of a text, and its code. -/
def parseC (s : ByteArray) : Int := if 1000 < s.size then 2 else match readP (pcs false [] s.data.toList) with
  | none => 5
  | some L => if 20 < L.length then 2 else 0
def parseL (s : ByteArray) : List Rec := if 1000 < s.size then [] else match readP (pcs false [] s.data.toList) with
  | none => []
  | some L => if 20 < L.length then [] else L
theorem parse_long {s : ByteArray} (h : 1000 < s.size) : parseC s = 2 ∧ parseL s = [] := by unfold parseC parseL; rw [if_pos h, if_pos h]; exact ⟨rfl, rfl⟩
theorem parse_bad {s : ByteArray} (h : ¬ 1000 < s.size) (hr : readP (pcs false [] s.data.toList) = none) : parseC s = 5 ∧ parseL s = [] := by unfold parseC parseL; rw [if_neg h, if_neg h, hr]; exact ⟨rfl, rfl⟩
theorem parse_many {s : ByteArray} {L : List Rec} (h : ¬ 1000 < s.size) (hr : readP (pcs false [] s.data.toList) = some L) (hL : 20 < L.length) : parseC s = 2 ∧ parseL s = [] := by
  unfold parseC parseL; rw [if_neg h, if_neg h, hr]; exact ⟨by simp only [if_pos hL], by simp only [if_pos hL]⟩
theorem parse_ok {s : ByteArray} {L : List Rec} (h : ¬ 1000 < s.size) (hr : readP (pcs false [] s.data.toList) = some L) (hL : ¬ 20 < L.length) : parseC s = 0 ∧ parseL s = L := by
  unfold parseC parseL; rw [if_neg h, if_neg h, hr]; exact ⟨by simp only [if_neg hL], by simp only [if_neg hL]⟩
end Go.Proofs.YtibomkcbopkpkaaDoor
