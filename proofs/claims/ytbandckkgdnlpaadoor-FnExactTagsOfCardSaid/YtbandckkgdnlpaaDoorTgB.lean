/-
  Texts of one claim, one behind the other.
-/
import Derived.BigQuiet
import Derived.Deep.CutRange
import Derived.Deep.RegionWith
import Derived.Deep.Slices
import Derived.Deep.Strs
import Derived.Lib.CutLaws
import Derived.Lib.IndexMore
import Derived.Lib.QuietBelow
import Derived.Lib.Strings
import Derived.LoopIn
import Derived.LoopNIn
import Derived.Maps.AppendAt
import Derived.OwnWalkIn
import Derived.RangeFuncBound
import Derived.RangeFuncBox
import Derived.RangeFuncCalls
import Derived.RangeFuncLeaves
import Derived.RangeFuncNested
import Derived.Shelf.Abstract
import Derived.Shelf.RegionOpen
import Derived.Shelf.Strings.FieldsFuncAny
import Derived.Shelf.Strings.Search2
import Derived.Stop.LaidErr
import Derived.TacticsInMore
import Derived.WalkKit
import Derived.WalkMore
import Derived.Test.YtbandckkgdnlpaaDoorTgA
/-
  Lists of items in memory; the laws' own helpers over them.
-/
namespace Go.Proofs.YtbandckkgdnlpaaDoor
open Go.ChangeShapes Go.WideShapes Go.ChangeAt Go.RowKit
/-- An item: its name, whether it has a value, the value. -/
structure Rec where
  name : ByteArray
  has : Bool
  value : ByteArray
/-- The items l lie in block b from off on, three cells each. -/
def ItemsAt (w : World) (b off : Nat) (l : List Rec) : Prop :=
  ∀ (i : Nat) r, l[i]? = some r → w.cell? ⟨b, off + i * 3, none⟩ = some (.string r.name) ∧ w.cell? ⟨b, off + i * 3 + 1, none⟩ = some (.bool r.has) ∧ w.cell? ⟨b, off + i * 3 + 2, none⟩ = some (.string r.value)
def recV (r : Rec) : Value := .agg #[.string r.name, .bool r.has, .string r.value]
def szR (left : Int) (r : Rec) : Int := if left - (r.name.size : Int) < 0 then -1 else if left - (r.name.size : Int) - (r.value.size : Int) < 0 then -1 else left - (r.name.size : Int) - (r.value.size : Int)
/-- How much room is left behind the items; -1: none. -/
def szRs (left : Int) : List Rec → Int
  | [] => left
  | r :: l => if szR left r < 0 then -1 else szRs (szR left r) l
def szL (left : Int) (l : List Rec) : Int := if left - (l.length : Int) < 0 then -1 else szRs (left - (l.length : Int)) l
def SmallRecs (l : List Rec) : Prop := ∀ (i : Nat) r, l[i]? = some r → r.name.size ≤ maxLen ∧ r.value.size ≤ maxLen
theorem ItemsAt.keep {w w' : World} {b off : Nat} {l : List Rec} (h : ItemsAt w b off l) (hb : Below w.heap.size w w') : ItemsAt w' b off l := by
  intro i r hr
  obtain ⟨a1, a2, a3⟩ := h i r hr
  exact ⟨by rw [hb.cell (block_lt_of_cell a1)]; exact a1, by rw [hb.cell (block_lt_of_cell a2)]; exact a2, by rw [hb.cell (block_lt_of_cell a3)]; exact a3⟩
theorem szR_le (left : Int) (r : Rec) : szR left r ≤ left ∨ szR left r = -1 := by
  unfold szR
  split
  · exact .inr rfl
  · split
    · exact .inr rfl
    · left; omega
theorem drop_rec (l : List Rec) (k : Nat) (r : Rec) (h : l[k]? = some r) : l.drop k = r :: l.drop (k + 1) := by
  obtain ⟨hk, rfl⟩ := List.getElem?_eq_some_iff.1 h
  exact List.drop_eq_getElem_cons hk
end Go.Proofs.YtbandckkgdnlpaaDoor
/-
  An item of a trimmed piece, plainly; the items of pieces.
-/
namespace Go.Proofs.YtbandckkgdnlpaaDoor
/-- How many bytes stand ahead of the first '='; all of them where there is none. -/
def eqAt : List UInt8 → Nat
  | [] => 0
  | c :: r => if (c.toNat : Int) = 61 then 0 else 1 + eqAt r
theorem eqAt_le : ∀ l : List UInt8, eqAt l ≤ l.length
  | [] => by simp [eqAt]
  | c :: r => by
    have := eqAt_le r
    simp only [eqAt, List.length_cons]
    split <;> omega
/-- An item of a trimmed piece; none: it is none. -/
def readR (s : ByteArray) : Option Rec :=
  if wordS (s.extract 0 (eqAt s.data.toList)) = false then none
  else if eqAt s.data.toList = s.size then some ⟨s, false, ⟨#[]⟩⟩
  else if wordS (s.extract (eqAt s.data.toList + 1) s.size) = true then some ⟨s.extract 0 (eqAt s.data.toList), true, s.extract (eqAt s.data.toList + 1) s.size⟩
  else if unqB (s.extract (eqAt s.data.toList + 1) s.size) = true then some ⟨s.extract 0 (eqAt s.data.toList), true, unqS (s.extract (eqAt s.data.toList + 1) s.size)⟩
  else none
theorem read_noname {s : ByteArray} (h : wordS (s.extract 0 (eqAt s.data.toList)) = false) : readR s = none := by unfold readR; rw [if_pos h]
theorem read_bare {s : ByteArray} (h : wordS (s.extract 0 (eqAt s.data.toList)) = true) (h2 : eqAt s.data.toList = s.size) : readR s = some ⟨s, false, ⟨#[]⟩⟩ := by unfold readR; rw [if_neg (by rw [h]; decide), if_pos h2]
theorem read_word {s : ByteArray} (h : wordS (s.extract 0 (eqAt s.data.toList)) = true) (h2 : eqAt s.data.toList ≠ s.size) (h3 : wordS (s.extract (eqAt s.data.toList + 1) s.size) = true) : readR s = some ⟨s.extract 0 (eqAt s.data.toList), true, s.extract (eqAt s.data.toList + 1) s.size⟩ := by
  unfold readR; rw [if_neg (by rw [h]; decide), if_neg h2, if_pos h3]
theorem read_quote {s : ByteArray} (h : wordS (s.extract 0 (eqAt s.data.toList)) = true) (h2 : eqAt s.data.toList ≠ s.size) (h3 : wordS (s.extract (eqAt s.data.toList + 1) s.size) = false) (h4 : unqB (s.extract (eqAt s.data.toList + 1) s.size) = true) : readR s = some ⟨s.extract 0 (eqAt s.data.toList), true, unqS (s.extract (eqAt s.data.toList + 1) s.size)⟩ := by
  unfold readR; rw [if_neg (by rw [h]; decide), if_neg h2, if_neg (by rw [h3]; decide), if_pos h4]
theorem read_bad {s : ByteArray} (h : wordS (s.extract 0 (eqAt s.data.toList)) = true) (h2 : eqAt s.data.toList ≠ s.size) (h3 : wordS (s.extract (eqAt s.data.toList + 1) s.size) = false) (h4 : unqB (s.extract (eqAt s.data.toList + 1) s.size) = false) : readR s = none := by
  unfold readR; rw [if_neg (by rw [h]; decide), if_neg h2, if_neg (by rw [h3]; decide), if_neg (by rw [h4]; decide)]
/-- The items of pieces; none: one of them is none. -/
def readP : List (List UInt8) → Option (List Rec)
  | [] => some []
  | p :: ps => if (trimT (mkB p)).size = 0 then readP ps else
    match readR (trimT (mkB p)) with
    | none => none
    | some r => (readP ps).map (r :: ·)
theorem readP_skip {p : List UInt8} {ps : List (List UInt8)} (h : (trimT (mkB p)).size = 0) : readP (p :: ps) = readP ps := by rw [readP, if_pos h]
theorem readP_bad {p : List UInt8} {ps : List (List UInt8)} (h : (trimT (mkB p)).size ≠ 0) (hr : readR (trimT (mkB p)) = none) : readP (p :: ps) = none := by rw [readP, if_neg h, hr]
theorem readP_take {p : List UInt8} {ps : List (List UInt8)} {r : Rec} (h : (trimT (mkB p)).size ≠ 0) (hr : readR (trimT (mkB p)) = some r) : readP (p :: ps) = (readP ps).map (r :: ·) := by rw [readP, if_neg h, hr]
/-- The items of a text, and its code. -/
def parseC (s : ByteArray) : Int := if 1000 < s.size then 2 else match readP (pcs false [] s.data.toList) with
  | none => 5
  | some L => if 20 < L.length then 2 else 0
def parseL (s : ByteArray) : List Rec := if 1000 < s.size then [] else match readP (pcs false [] s.data.toList) with
  | none => []
  | some L => if 20 < L.length then [] else L
theorem parse_long {s : ByteArray} (h : 1000 < s.size) : parseC s = 2 ∧ parseL s = [] := by unfold parseC parseL; rw [if_pos h, if_pos h]; exact ⟨rfl, rfl⟩
theorem parse_bad {s : ByteArray} (h : ¬ 1000 < s.size) (hr : readP (pcs false [] s.data.toList) = none) : parseC s = 5 ∧ parseL s = [] := by unfold parseC parseL; rw [if_neg h, if_neg h, hr]; exact ⟨rfl, rfl⟩
theorem parse_many {s : ByteArray} {L : List Rec} (h : ¬ 1000 < s.size) (hr : readP (pcs false [] s.data.toList) = some L) (hL : 20 < L.length) : parseC s = 2 ∧ parseL s = [] := by
  unfold parseC parseL; rw [if_neg h, if_neg h, hr]; exact ⟨by simp only [if_pos hL], by simp only [if_pos hL]⟩
theorem parse_ok {s : ByteArray} {L : List Rec} (h : ¬ 1000 < s.size) (hr : readP (pcs false [] s.data.toList) = some L) (hL : ¬ 20 < L.length) : parseC s = 0 ∧ parseL s = L := by
  unfold parseC parseL; rw [if_neg h, if_neg h, hr]; exact ⟨by simp only [if_neg hL], by simp only [if_neg hL]⟩
end Go.Proofs.YtbandckkgdnlpaaDoor
/-
  What the model's l2Item answers.
-/
namespace Go.Proofs.YtbandckkgdnlpaaDoor
open Go.ChangeShapes Go.WideShapes Go.ChangeAt Go.RowKit
/-- An item and whether it is one. -/
def ItemRes (s : ByteArray) (e : Ending) : Prop := ∃ (r : Rec) (b : Bool), e = .returned (.tuple #[.agg #[.string r.name, .bool r.has, .string r.value], .bool b]) ∧ (b = true → readR s = some r) ∧ (b = false → readR s = none)
theorem ItemRes.no {s : ByteArray} (n : ByteArray) (h : Bool) (v : ByteArray) (hr : readR s = none) : ItemRes s (.returned (.tuple #[.agg #[.string n, .bool h, .string v], .bool false])) := ⟨⟨n, h, v⟩, false, rfl, (fun h => by cases h), fun _ => hr⟩
theorem ItemRes.yes {s : ByteArray} {n : ByteArray} {h : Bool} {v : ByteArray} (hr : readR s = some ⟨n, h, v⟩) : ItemRes s (.returned (.tuple #[.agg #[.string n, .bool h, .string v], .bool true])) := ⟨⟨n, h, v⟩, true, rfl, fun _ => hr, (fun h => by cases h)⟩
theorem eqAt_stop (s : ByteArray) (k : Nat) (hk : k < s.size) (hc : (s[k].toNat : Int) = 61) : eqAt (s.data.toList.drop k) = 0 := by rw [drop_at s k hk, eqAt, if_pos hc]
theorem eqAt_on (s : ByteArray) (k : Nat) (hk : k < s.size) (hc : ¬ (s[k].toNat : Int) = 61) : eqAt (s.data.toList.drop k) = 1 + eqAt (s.data.toList.drop (k + 1)) := by rw [drop_at s k hk, eqAt, if_neg hc]
theorem eqAt_end (s : ByteArray) (k : Nat) (hk : ¬ k < s.size) : eqAt (s.data.toList.drop k) = 0 := by rw [List.drop_of_length_le (by have := size_list s; omega)]; rfl
/-- A struct stored whole. -/
theorem three_set {w : World} {B : Nat} {u0 u1 u2 v0 v1 v2 : Value} (p0 : w.cell? ⟨B, 0, none⟩ = some u0) (p1 : w.cell? ⟨B, 1, none⟩ = some u1) (p2 : w.cell? ⟨B, 2, none⟩ = some u2) :
    (((w.setCell ⟨B, 0, none⟩ v0).setCell ⟨B, 1, none⟩ v1).setCell ⟨B, 2, none⟩ v2).cell? ⟨B, 0, none⟩ = some v0 ∧ (((w.setCell ⟨B, 0, none⟩ v0).setCell ⟨B, 1, none⟩ v1).setCell ⟨B, 2, none⟩ v2).cell? ⟨B, 1, none⟩ = some v1 ∧ (((w.setCell ⟨B, 0, none⟩ v0).setCell ⟨B, 1, none⟩ v1).setCell ⟨B, 2, none⟩ v2).cell? ⟨B, 2, none⟩ = some v2 := by
  have n01 : (⟨B, 0, none⟩ : Addr) ≠ ⟨B, 1, none⟩ := fun h => by have := congrArg Addr.off h; simp at this
  have n02 : (⟨B, 0, none⟩ : Addr) ≠ ⟨B, 2, none⟩ := fun h => by have := congrArg Addr.off h; simp at this
  have n12 : (⟨B, 1, none⟩ : Addr) ≠ ⟨B, 2, none⟩ := fun h => by have := congrArg Addr.off h; simp at this
  refine ⟨?_, ?_, ?_⟩
  · rw [World.cell?_setCell_other _ _ _ _ n02.symm, World.cell?_setCell_other _ _ _ _ n01.symm, World.cell?_setCell_same _ _ _ p0]
  · rw [World.cell?_setCell_other _ _ _ _ n12.symm]
    refine World.cell?_setCell_same _ _ _ (u := u1) ?_
    rw [World.cell?_setCell_other _ _ _ _ n01, p1]
  · refine World.cell?_setCell_same _ _ _ (u := u2) ?_
    rw [World.cell?_setCell_other _ _ _ _ n12, World.cell?_setCell_other _ _ _ _ n02, p2]
theorem two_items {w w1 : World} {n v : ByteArray} {t : TypeId} (hb : Below (w.heap.size + 1 + 1) ((w.alloc (.cells #[.string ⟨#[]⟩, .bool false, .string ⟨#[]⟩] t)).alloc (.cells #[.string n, .bool true, .string v] t)) w1) :
    w.heap.size + 1 < w1.heap.size ∧ w1.cell? ⟨w.heap.size, 0, none⟩ = some (.string ⟨#[]⟩) ∧ w1.cell? ⟨w.heap.size, 1, none⟩ = some (.bool false) ∧ w1.cell? ⟨w.heap.size, 2, none⟩ = some (.string ⟨#[]⟩) ∧
    w1.frozen? ⟨w.heap.size, 0, none⟩ = false ∧ w1.frozen? ⟨w.heap.size, 1, none⟩ = false ∧ w1.frozen? ⟨w.heap.size, 2, none⟩ = false ∧
    w1.cell? ⟨w.heap.size + 1, 0, none⟩ = some (.string n) ∧ w1.cell? ⟨w.heap.size + 1, 1, none⟩ = some (.bool true) ∧ w1.cell? ⟨w.heap.size + 1, 2, none⟩ = some (.string v) ∧ w1.frozen? ⟨w.heap.size + 1, 2, none⟩ = false ∧ Below w.heap.size w w1 := by
  have hz := hb.size
  simp only [World.size_alloc] at hz
  have l0 : w.heap.size < w.heap.size + 1 + 1 := by omega
  have l1 : w.heap.size + 1 < w.heap.size + 1 + 1 := by omega
  have k1 : Below w.heap.size w (w.alloc (.cells #[.string ⟨#[]⟩, .bool false, .string ⟨#[]⟩] t)) := (Below.refl _ _).alloc (Nat.le_refl _) _
  have e := World.size_alloc w (.cells #[.string ⟨#[]⟩, .bool false, .string ⟨#[]⟩] t)
  refine ⟨by omega, ?_, ?_, ?_, ?_, ?_, ?_, ?_, ?_, ?_, ?_, (k1.alloc (by rw [e]; omega) _).trans (hb.mono (by omega))⟩
  · rw [hb.cell (p := ⟨w.heap.size, 0, none⟩) l0]; simp
  · rw [hb.cell (p := ⟨w.heap.size, 1, none⟩) l0]; simp
  · rw [hb.cell (p := ⟨w.heap.size, 2, none⟩) l0]; simp
  · rw [hb.frozen (p := ⟨w.heap.size, 0, none⟩) l0]; simp
  · rw [hb.frozen (p := ⟨w.heap.size, 1, none⟩) l0]; simp
  · rw [hb.frozen (p := ⟨w.heap.size, 2, none⟩) l0]; simp
  · rw [hb.cell (p := ⟨w.heap.size + 1, 0, none⟩) l1, ← e]; simp
  · rw [hb.cell (p := ⟨w.heap.size + 1, 1, none⟩) l1, ← e]; simp
  · rw [hb.cell (p := ⟨w.heap.size + 1, 2, none⟩) l1, ← e]; simp
  · rw [hb.frozen (p := ⟨w.heap.size + 1, 2, none⟩) l1, ← e]; simp
theorem item_put {w : World} {B C : Nat} {a0 a1 a2 b0 b1 b2 v : Value} (hn : B ≠ C) (c0 : w.cell? ⟨B, 0, none⟩ = some a0) (c1 : w.cell? ⟨B, 1, none⟩ = some a1) (c2 : w.cell? ⟨B, 2, none⟩ = some a2)
    (f0 : w.frozen? ⟨B, 0, none⟩ = false) (f1 : w.frozen? ⟨B, 1, none⟩ = false) (f2 : w.frozen? ⟨B, 2, none⟩ = false) (d0 : w.cell? ⟨C, 0, none⟩ = some b0) (d1 : w.cell? ⟨C, 1, none⟩ = some b1) (d2 : w.cell? ⟨C, 2, none⟩ = some b2) :
    (w.setCell ⟨C, 2, none⟩ v).cell? ⟨C, 0, none⟩ = some b0 ∧ (w.setCell ⟨C, 2, none⟩ v).cell? ⟨C, 1, none⟩ = some b1 ∧ (w.setCell ⟨C, 2, none⟩ v).cell? ⟨C, 2, none⟩ = some v ∧
    (w.setCell ⟨C, 2, none⟩ v).cell? ⟨B, 0, none⟩ = some a0 ∧ (w.setCell ⟨C, 2, none⟩ v).cell? ⟨B, 1, none⟩ = some a1 ∧ (w.setCell ⟨C, 2, none⟩ v).cell? ⟨B, 2, none⟩ = some a2 ∧
    (w.setCell ⟨C, 2, none⟩ v).frozen? ⟨B, 0, none⟩ = false ∧ (w.setCell ⟨C, 2, none⟩ v).frozen? ⟨B, 1, none⟩ = false ∧ (w.setCell ⟨C, 2, none⟩ v).frozen? ⟨B, 2, none⟩ = false := by
  have nb : ∀ i j, (⟨C, i, none⟩ : Addr) ≠ ⟨B, j, none⟩ := fun i j h => hn (congrArg Addr.block h).symm
  have n0 : (⟨C, 2, none⟩ : Addr) ≠ ⟨C, 0, none⟩ := fun h => by have := congrArg Addr.off h; simp at this
  have n1 : (⟨C, 2, none⟩ : Addr) ≠ ⟨C, 1, none⟩ := fun h => by have := congrArg Addr.off h; simp at this
  refine ⟨?_, ?_, World.cell?_setCell_same _ _ _ d2, ?_, ?_, ?_, ?_, ?_, ?_⟩
  · rw [World.cell?_setCell_other _ _ _ _ n0, d0]
  · rw [World.cell?_setCell_other _ _ _ _ n1, d1]
  · rw [World.cell?_setCell_other _ _ _ _ (nb 2 0), c0]
  · rw [World.cell?_setCell_other _ _ _ _ (nb 2 1), c1]
  · rw [World.cell?_setCell_other _ _ _ _ (nb 2 2), c2]
  · rw [World.frozen?_setCell]; exact f0
  · rw [World.frozen?_setCell]; exact f1
  · rw [World.frozen?_setCell]; exact f2
set_option maxRecDepth 100000 in
set_option maxHeartbeats 4000000 in
theorem l2Item_any (s : ByteArray) (w : World) (hs : s.size ≤ 1000) :
    Calls Tryd.prog 95 #[.string s] w fun e w' => ItemRes s e ∧ Below w.heap.size w w' := by
  go_enter Tryd.func95, Tryd.ntmps95
  go_wp2_with fail
  go_loop [4] (fun i => ∃ k : Nat, k ≤ s.size ∧ i = .int .i64 k ∧ eqAt s.data.toList = k + eqAt (s.data.toList.drop k)) (fun i => s.size - (intOf i).toNat)
  case atStart => exact ⟨0, Nat.zero_le _, rfl, by simp⟩
  case round =>
    obtain ⟨k, hk, rfl, he⟩ := hrel
    have HE : Hid (eqAt s.data.toList = k + eqAt (s.data.toList.drop k)) := he
    clear he
    by_cases hgo : k < s.size ∧ ¬ ∃ h : k < s.size, (s[k].toNat : Int) = 61
    · obtain ⟨hlt, hc⟩ := hgo
      have hc2 : ¬ (s[k].toNat : Int) = 61 := fun h => hc ⟨hlt, h⟩
      have HX : Hid (eqAt s.data.toList = (k + 1) + eqAt (s.data.toList.drop (k + 1))) := by
        show _ = _
        rw [HE.out, eqAt_on s k hlt hc2]; omega
      have e1 : ((s[k].toNat : Int) != 61) = true := by simpa using hc2
      have g : (k : Int) < s.size := by omega
      clear HE hc hc2
      go_wp2_with fail
      go_round
      case rel => exact ⟨k + 1, by omega, by go_num, HX.out⟩
      case measure => simp [intOf]; omega
    · have HK : Hid (eqAt s.data.toList = k) := by
        show _ = _
        rw [HE.out]
        by_cases hlt : k < s.size
        · by_cases hc : (s[k].toNat : Int) = 61
          · rw [eqAt_stop s k hlt hc]; omega
          · exact absurd ⟨hlt, fun ⟨_, h⟩ => hc h⟩ hgo
        · rw [eqAt_end s k hlt]; omega
      have R1 := @read_noname s
      have R2 := @read_bare s
      have R3 := @read_word s
      have R4 := @read_quote s
      have R5 := @read_bad s
      rw [HK.out] at R1 R2 R3 R4 R5
      have g1 : (0 : Int) ≤ k := by omega
      have g2 : (k : Int) ≤ s.size := by omega
      have hxz : (s.extract (k + 1) s.size).size ≤ 1000 := by simp; omega
      have HStop : Hid (k < s.size → ∃ h : k < s.size, (s[k].toNat : Int) = 61) := fun h => by
        by_cases hc : (s[k].toNat : Int) = 61
        · exact ⟨h, hc⟩
        · exact absurd ⟨h, fun ⟨_, h⟩ => hc h⟩ hgo
      clear hgo HE
      generalize hnm : s.extract 0 k = nm at *
      have HNM : Hid (s.extract 0 k = nm) := hnm
      clear hnm
      by_cases hlt : k < s.size
      · obtain ⟨_, hc⟩ := HStop.out hlt
        have e1 : ((s[k].toNat : Int) != 61) = false := by simpa using hc
        have e2 : ((k : Int) == (s.size : Int)) = false := by simp; omega
        have g3 : (k : Int) < s.size := by omega
        have hks : k ≠ s.size := by omega
        generalize hrs : s.extract (k + 1) s.size = rs at *
        have HRS : Hid (s.extract (k + 1) s.size = rs) := hrs
        clear hrs HStop hc HK R2
        cases hw : wordS nm
        · have HR : Hid (readR s = none) := R1 hw
          have HW : Hid (wordS nm = false) := hw
          clear R1 R3 R4 R5 hw
          go_wp2_with fail
          rw [HNM.out]
          refine (specIsWord_any nm _).mono ?_
          rintro e w1 ⟨rfl, rfl⟩
          rw [HW.out]
          go_wp2_with fail
          exact bodyPost_ret (v := .tuple #[.agg #[.string ⟨#[]⟩, .bool false, .string ⟨#[]⟩], .bool false]) (by simp [results, Tryd.results95, go_sem]) rfl ⟨ItemRes.no _ _ _ HR.out, (Below.refl _ _).alloc (Nat.le_refl _) _⟩
        · have HW : Hid (wordS nm = true) := hw
          cases hv : wordS rs
          · have HV : Hid (wordS rs = false) := hv
            have HU : Hid ((unqB rs = true → readR s = some ⟨nm, true, unqS rs⟩) ∧ (unqB rs = false → readR s = none)) := ⟨R4 hw hks hv, R5 hw hks hv⟩
            clear R1 R3 R4 R5 hw hv
            go_wp2_with fail
            rw [HNM.out]
            refine (specIsWord_any nm _).mono ?_
            rintro e w1 ⟨rfl, rfl⟩
            rw [HW.out]
            go_wp2_with fail
            rw [HNM.out, HRS.out]
            refine (specIsWord_any rs _).mono ?_
            rintro e w1 ⟨rfl, rfl⟩
            rw [HV.out]
            go_wp2_with fail
            refine (l2Unquote_any rs _ (by omega)).mono ?_
            rintro e w1 ⟨rfl, hb1⟩
            simp only [World.size_alloc] at hb1
            obtain ⟨hz1, c0, c1, c2, f0, f1, f2, d0, d1, d2, d3, kb⟩ := two_items hb1
            cases hub : unqB rs
            · have HR : Hid (readR s = none) := HU.out.2 hub
              clear HU hub hb1
              generalize unqS rs = uv at *
              obtain ⟨x0, x1, x2, y0, y1, y2, z0, z1, z2⟩ := item_put (v := .string uv) (by omega : w.heap.size ≠ w.heap.size + 1) c0 c1 c2 f0 f1 f2 d0 d1 d2
              obtain ⟨r0, r1, r2⟩ := three_set (v0 := .string nm) (v1 := .bool true) (v2 := .string uv) y0 y1 y2
              go_wp2_with fail
              exact bodyPost_ret (v := .tuple #[.agg #[.string nm, .bool true, .string uv], .bool false]) (by simp [results, Tryd.results95, go_sem, r0, r1, r2]) rfl ⟨ItemRes.no _ _ _ HR.out, (((kb.setCell (by simp) _).setCell (Nat.le_refl _) _).setCell (Nat.le_refl _) _).setCell (Nat.le_refl _) _⟩
            · have HR : Hid (readR s = some ⟨nm, true, unqS rs⟩) := HU.out.1 hub
              clear HU hub hb1
              generalize unqS rs = uv at *
              obtain ⟨x0, x1, x2, y0, y1, y2, z0, z1, z2⟩ := item_put (v := .string uv) (by omega : w.heap.size ≠ w.heap.size + 1) c0 c1 c2 f0 f1 f2 d0 d1 d2
              obtain ⟨r0, r1, r2⟩ := three_set (v0 := .string nm) (v1 := .bool true) (v2 := .string uv) y0 y1 y2
              go_wp2_with fail
              exact bodyPost_ret (v := .tuple #[.agg #[.string nm, .bool true, .string uv], .bool true]) (by simp [results, Tryd.results95, go_sem, r0, r1, r2]) rfl ⟨ItemRes.yes HR.out, (((kb.setCell (by simp) _).setCell (Nat.le_refl _) _).setCell (Nat.le_refl _) _).setCell (Nat.le_refl _) _⟩
          · have HV : Hid (wordS rs = true) := hv
            have HR : Hid (readR s = some ⟨nm, true, rs⟩) := R3 hw hks hv
            clear R1 R3 R4 R5 hw hv
            go_wp2_with fail
            rw [HNM.out]
            refine (specIsWord_any nm _).mono ?_
            rintro e w1 ⟨rfl, rfl⟩
            rw [HW.out]
            go_wp2_with fail
            rw [HNM.out, HRS.out]
            refine (specIsWord_any rs _).mono ?_
            rintro e w1 ⟨rfl, rfl⟩
            rw [HV.out]
            go_wp2_with fail
            exact bodyPost_ret (v := .tuple #[.agg #[.string nm, .bool true, .string rs], .bool true]) (by simp [results, Tryd.results95, go_sem]) rfl ⟨ItemRes.yes HR.out, ((Below.refl _ _).alloc (Nat.le_refl _) _).alloc (by simp) _⟩
      · have hks : k = s.size := by omega
        have g3 : ¬ (k : Int) < s.size := by omega
        have e2 : ((k : Int) == (s.size : Int)) = true := by simp; omega
        obtain rfl : s = nm := by
          rw [← HNM.out, hks]
          exact ByteArray.extract_zero_size.symm
        clear HStop HK R3 R4 R5 HNM
        cases hw : wordS s
        · have HR : Hid (readR s = none) := R1 hw
          have HW : Hid (wordS s = false) := hw
          clear R1 R2 hw
          go_wp2_with fail
          refine (specIsWord_any s _).mono ?_
          rintro e w1 ⟨rfl, rfl⟩
          rw [HW.out]
          go_wp2_with fail
          exact bodyPost_ret (v := .tuple #[.agg #[.string ⟨#[]⟩, .bool false, .string ⟨#[]⟩], .bool false]) (by simp [results, Tryd.results95, go_sem]) rfl ⟨ItemRes.no _ _ _ HR.out, (Below.refl _ _).alloc (Nat.le_refl _) _⟩
        · have HR : Hid (readR s = some ⟨s, false, ⟨#[]⟩⟩) := R2 hw hks
          have HW : Hid (wordS s = true) := hw
          clear R1 R2 hw
          go_wp2_with fail
          refine (specIsWord_any s _).mono ?_
          rintro e w1 ⟨rfl, rfl⟩
          rw [HW.out]
          go_wp2_with fail
          exact bodyPost_ret (v := .tuple #[.agg #[.string s, .bool false, .string ⟨#[]⟩], .bool true]) (by simp [results, Tryd.results95, go_sem]) rfl ⟨ItemRes.yes HR.out, (Below.refl _ _).alloc (Nat.le_refl _) _⟩
end Go.Proofs.YtbandckkgdnlpaaDoor
/-
  The laws' copy of a list of items, and their comparing of two.
-/
namespace Go.Proofs.YtbandckkgdnlpaaDoor
open Go.ChangeShapes Go.WideShapes Go.ChangeAt Go.RowKit Go.Sort
/-- m cells from the head of block G on are there and may be written. -/
def Room (w : World) (G m : Nat) : Prop := ∀ j, j < m → (∃ u, w.cell? ⟨G, j, none⟩ = some u) ∧ w.frozen? ⟨G, j, none⟩ = false
theorem Room.keep {w w' : World} {G m : Nat} (h : Room w G m) (hb : Below w.heap.size w w') : Room w' G m := by
  intro j hj
  obtain ⟨⟨u, hu⟩, hf⟩ := h j hj
  exact ⟨⟨u, by rw [hb.cell (block_lt_of_cell hu)]; exact hu⟩, by rw [hb.frozen (block_lt_of_cell hu)]; exact hf⟩
theorem Room.set {w : World} {G m : Nat} (h : Room w G m) (a : Addr) (v : Value) : Room (w.setCell a v) G m := by
  intro j hj
  obtain ⟨⟨u, hu⟩, hf⟩ := h j hj
  refine ⟨?_, by rw [World.frozen?_setCell]; exact hf⟩
  by_cases e : a = ⟨G, j, none⟩
  · exact ⟨v, by subst e; exact World.cell?_setCell_same _ _ _ hu⟩
  · exact ⟨u, by rw [World.cell?_setCell_other _ _ _ _ e]; exact hu⟩
def put3 (w : World) (G k : Nat) (r : Rec) : World := ((w.setCell ⟨G, k * 3, none⟩ (.string r.name)).setCell ⟨G, k * 3 + 1, none⟩ (.bool r.has)).setCell ⟨G, k * 3 + 2, none⟩ (.string r.value)
theorem off_ne {G i j : Nat} (h : i ≠ j) : (⟨G, i, none⟩ : Addr) ≠ ⟨G, j, none⟩ := fun e => h (congrArg Addr.off e)
theorem put3_other (w : World) (G k : Nat) (r : Rec) (j : Nat) (h0 : k * 3 ≠ j) (h1 : k * 3 + 1 ≠ j) (h2 : k * 3 + 2 ≠ j) : (put3 w G k r).cell? ⟨G, j, none⟩ = w.cell? ⟨G, j, none⟩ := by
  unfold put3
  rw [World.cell?_setCell_other _ _ _ _ (off_ne h2), World.cell?_setCell_other _ _ _ _ (off_ne h1), World.cell?_setCell_other _ _ _ _ (off_ne h0)]
theorem Room.put {w : World} {G m : Nat} (h : Room w G m) (k : Nat) (r : Rec) : Room (put3 w G k r) G m := ((h.set _ _).set _ _).set _ _
theorem ItemsAt.put {w : World} {G n : Nat} {l : List Rec} {k : Nat} {r : Rec} (h : ItemsAt w G 0 (l.take k)) (hr : l[k]? = some r) (hm : Room w G (n * 3)) (hk : k < n) : ItemsAt (put3 w G k r) G 0 (l.take (k + 1)) := by
  intro i q hq
  have hi : i < k + 1 := by
    have := (List.getElem?_eq_some_iff.1 hq).1
    simp at this; omega
  rw [List.getElem?_take_of_lt hi] at hq
  simp only [Nat.zero_add]
  by_cases e : i = k
  · subst e
    rw [hr] at hq
    obtain rfl := Option.some.inj hq
    obtain ⟨⟨u0, g0⟩, _⟩ := hm (i * 3) (by omega)
    obtain ⟨⟨u1, g1⟩, _⟩ := (hm.set ⟨G, i * 3, none⟩ (.string r.name)) (i * 3 + 1) (by omega)
    obtain ⟨⟨u2, g2⟩, _⟩ := ((hm.set ⟨G, i * 3, none⟩ (.string r.name)).set ⟨G, i * 3 + 1, none⟩ (.bool r.has)) (i * 3 + 2) (by omega)
    unfold put3
    refine ⟨?_, ?_, World.cell?_setCell_same _ _ _ g2⟩
    · rw [World.cell?_setCell_other _ _ _ _ (off_ne (by omega)), World.cell?_setCell_other _ _ _ _ (off_ne (by omega))]
      exact World.cell?_setCell_same _ _ _ g0
    · rw [World.cell?_setCell_other _ _ _ _ (off_ne (by omega))]
      exact World.cell?_setCell_same _ _ _ g1
  · have hq2 : (l.take k)[i]? = some q := by rw [List.getElem?_take_of_lt (by omega)]; exact hq
    obtain ⟨a1, a2, a3⟩ := h i q hq2
    simp only [Nat.zero_add] at a1 a2 a3
    exact ⟨by rw [put3_other _ _ _ _ _ (by omega) (by omega) (by omega)]; exact a1, by rw [put3_other _ _ _ _ _ (by omega) (by omega) (by omega)]; exact a2, by rw [put3_other _ _ _ _ _ (by omega) (by omega) (by omega)]; exact a3⟩
theorem infoItem : (Tryd.prog.info? 62).map (fun i => (i.zero, i.size, i.bytes)) = some (some (.agg #[.string ⟨#[]⟩, .bool false, .string ⟨#[]⟩]), 3, 40) := by kernel_rfl
end Go.Proofs.YtbandckkgdnlpaaDoor
/-
  What the laws over lists of items share.
-/
namespace Go.Proofs.YtbandckkgdnlpaaDoor
open Go.ChangeShapes Go.WideShapes Go.ChangeAt Go.RowKit
/-- The slice at a holds the items l. -/
def ItsIn (w : World) (a : Option Addr) (l : List Rec) : Prop := l = [] ∨ ∃ b off, a = some ⟨b, off, none⟩ ∧ ItemsAt w b off l
theorem ItsIn.keep {w w' : World} {a : Option Addr} {l : List Rec} (h : ItsIn w a l) (hb : Below w.heap.size w w') : ItsIn w' a l := by
  rcases h with h | ⟨b, off, e, hat⟩
  · exact .inl h
  · exact .inr ⟨b, off, e, hat.keep hb⟩
theorem szR_room {left : Int} {r : Rec} (h : ¬ szR left r < 0) : (r.name.size : Int) ≤ left ∧ (r.value.size : Int) ≤ left ∧ szR left r ≤ left := by
  by_cases c1 : left - (r.name.size : Int) < 0
  · rw [show szR left r = -1 from by simp [szR, c1]] at h; omega
  · by_cases c2 : left - (r.name.size : Int) - (r.value.size : Int) < 0
    · rw [show szR left r = -1 from by simp [szR, c1, c2]] at h; omega
    · have e : szR left r = left - (r.name.size : Int) - (r.value.size : Int) := by simp [szR, c1, c2]
      rw [e]
      omega
theorem szRs_room (l : List Rec) : ∀ left : Int, ¬ szRs left l < 0 → left ≤ 1048576 → ∀ (i : Nat) r, l[i]? = some r → r.name.size ≤ 1048576 ∧ r.value.size ≤ 1048576 := by
  induction l with
  | nil => intro left _ _ i r hr; simp at hr
  | cons x l ih =>
    intro left h hl i r hr
    rw [szRs] at h
    by_cases c : szR left x < 0
    · rw [if_pos c] at h; omega
    · rw [if_neg c] at h
      obtain ⟨z1, z2, z3⟩ := szR_room c
      cases i with
      | zero => simp at hr; subst hr; omega
      | succ i => exact ih _ h (by omega) i r (by simpa using hr)
theorem szL_room {l : List Rec} {left : Int} (hl : left ≤ 1048576) (h : ¬ szL left l < 0) : (l.length : Int) ≤ 1048576 ∧ ∀ (i : Nat) r, l[i]? = some r → r.name.size ≤ 1048576 ∧ r.value.size ≤ 1048576 := by
  unfold szL at h
  by_cases c : left - (l.length : Int) < 0
  · rw [if_pos c] at h; omega
  · rw [if_neg c] at h
    exact ⟨by omega, szRs_room l _ h (by omega)⟩
theorem szRs_le (l : List Rec) : ∀ left : Int, szRs left l ≤ left ∨ szRs left l < 0 := by
  induction l with
  | nil => intro left; exact .inl (Int.le_refl _)
  | cons x l ih =>
    intro left
    rw [szRs]
    by_cases c : szR left x < 0
    · rw [if_pos c]; right; decide
    · rw [if_neg c]
      have := (szR_room c).2.2
      rcases ih (szR left x) with h | h
      · left; omega
      · right; exact h
theorem szL_le {l : List Rec} {left : Int} (h : ¬ szL left l < 0) : szL left l ≤ left := by
  unfold szL at h ⊢
  by_cases c : left - (l.length : Int) < 0
  · rw [if_pos c] at h; omega
  · rw [if_neg c] at h ⊢
    rcases szRs_le l (left - (l.length : Int)) with x | x <;> omega
end Go.Proofs.YtbandckkgdnlpaaDoor
/-
  A slice of items that the call itself grows.
-/
namespace Go.Proofs.YtbandckkgdnlpaaDoor
open Go.ChangeShapes Go.WideShapes Go.ChangeAt Go.RowKit
def recW (r : Rec) : List Value := [.string r.name, .bool r.has, .string r.value]
def recsW (l : List Rec) : List Value := l.flatMap recW
theorem recsW_len (l : List Rec) : (recsW l).length = l.length * 3 := by
  induction l with
  | nil => rfl
  | cons r l ih => simp only [recsW, List.flatMap_cons, List.length_append, List.length_cons] at ih ⊢; rw [ih]; simp [recW]; omega
theorem recsW_at (l : List Rec) : ∀ (i : Nat) r, l[i]? = some r → (recsW l)[i * 3]? = some (.string r.name) ∧ (recsW l)[i * 3 + 1]? = some (.bool r.has) ∧ (recsW l)[i * 3 + 2]? = some (.string r.value) := by
  induction l with
  | nil => intro i r hr; simp at hr
  | cons x l ih =>
    intro i r hr
    have e : recsW (x :: l) = .string x.name :: .bool x.has :: .string x.value :: recsW l := by simp [recsW, recW]
    rw [e]
    cases i with
    | zero => simp at hr; subst hr; simp
    | succ i =>
      have := ih i r (by simpa using hr)
      rw [show (i + 1) * 3 = i * 3 + 1 + 1 + 1 from by omega]
      simpa using this
/-- v, nil or not, holds the items l in a row of the call's own, from block base on. -/
def OwnI (w : World) (base : Nat) (v : Value) (l : List Rec) : Prop := w.ownsRow base 62 3 v l.length (recsW l)
theorem OwnI.nil (w : World) (base : Nat) : OwnI w base (.slice none 0 0) [] := World.ownsRow_nil _ _ _ _
theorem OwnI.made0 (w : World) (base : Nat) (hb : base ≤ w.heap.size) : OwnI (w.alloc (.cells #[] 62)) base (.slice (some ⟨w.heap.size, 0, none⟩) 0 0) [] := World.ownsRow_made w #[] 0 hb (by unfold maxLen; omega) rfl
theorem OwnI.below {w w' : World} {base : Nat} {v : Value} {l : List Rec} (h : OwnI w base v l) (hb : Below w.heap.size w w') : OwnI w' base v l := by
  obtain ⟨h1, h2⟩ := h
  refine ⟨h1, ?_⟩
  rcases h2 with h2 | ⟨g, c, cur, e, hg, hh, hrest⟩
  · exact .inl h2
  · exact .inr ⟨g, c, cur, e, hg, by rw [hb.block g (Array.getElem?_eq_some_iff.1 hh).1]; exact hh, hrest⟩
theorem OwnI.lower {w : World} {b0 base : Nat} {v : Value} {l : List Rec} (h : OwnI w base v l) (hb : b0 ≤ base) : OwnI w b0 v l := by
  obtain ⟨h1, h2⟩ := h
  refine ⟨h1, ?_⟩
  rcases h2 with h2 | ⟨g, c, cur, e, hg, hrest⟩
  · exact .inl h2
  · exact .inr ⟨g, c, cur, e, by omega, hrest⟩
theorem OwnI.at {w : World} {base : Nat} {v : Value} {l : List Rec} (h : OwnI w base v l) : ∃ a c, v = .slice a l.length c ∧ ItsIn w a l := by
  have h0 := h
  obtain ⟨_, h1 | ⟨g, c, cur, rfl, _⟩⟩ := h
  · have e : l = [] := List.eq_nil_of_length_eq_zero h1.2
    exact ⟨none, 0, by rw [h1.1, e]; rfl, .inl e⟩
  · refine ⟨_, c, rfl, .inr ⟨g, 0, rfl, fun i r hr => ?_⟩⟩
    have hi := (List.getElem?_eq_some_iff.1 hr).1
    obtain ⟨a1, a2, a3⟩ := recsW_at l i r hr
    have c1 := World.ownsRow.cellAt h0 (i * 3) (by omega)
    have c2 := World.ownsRow.cellAt h0 (i * 3 + 1) (by omega)
    have c3 := World.ownsRow.cellAt h0 (i * 3 + 2) (by omega)
    exact ⟨by rw [Nat.zero_add, c1, a1], by rw [Nat.zero_add, c2, a2], by rw [Nat.zero_add, c3, a3]⟩
theorem own_geI {w : World} {base : Nat} {e : TypeId} {size : Nat} {v : Value} {n : Nat} {xs : List Value} (h : w.ownsRow base e size v n xs) (q : Nat) (hq : v.ownBlock = some q) : base ≤ q := by
  obtain ⟨_, h | ⟨g, c, cur, rfl, hg, _⟩⟩ := h
  · rw [h.1] at hq; cases hq
  · simp only [Value.ownBlock, Option.some.injEq] at hq; omega
theorem own_apart {w : World} {base base' : Nat} {v pv : Value} {l : List Rec} {L : List ByteArray} (hp : OwnS w base' pv L) (hv : OwnI w base v l) : pv.ownBlock = none ∨ pv.ownBlock ≠ v.ownBlock := by
  obtain ⟨_, hp | ⟨g, c, cur, rfl, _, hh, _⟩⟩ := hp
  · left; rw [hp.1]; rfl
  · right
    obtain ⟨_, hv | ⟨g2, c2, cur2, rfl, _, hh2, _⟩⟩ := hv
    · rw [hv.1]; simp [Value.ownBlock]
    · simp only [Value.ownBlock, ne_eq, Option.some.injEq]
      rintro rfl
      rw [hh] at hh2
      simp at hh2
theorem wpList_append_item {ops : Array Oper} {rest : List Oper} {o : Oper} {a : Act} {Q : Exit → Act → World → Prop} (w : World) (hgd : o.guard = none) (s x : Operand)
    (ho : o.op = .call { callee := .builtin .append, args := #[s, x], argTypes := #[57, 57] }) (base : Nat) (v : Value) (l : List Rec) (n : ByteArray) (b : Bool) (z : ByteArray)
    (hs : a.eval s = v) (hx : a.eval x = .slice (some ⟨w.heap.size, 0, none⟩) 1 1) (hown : OwnI w base v l) (hl : l.length ≤ 1000000) (hbase : base ≤ w.heap.size)
    (h : ∀ v' w', OwnI w' base v' (l ++ [⟨n, b, z⟩]) → Below base w w' → w.heap.size ≤ w'.heap.size → (∀ base' pv L, OwnS w base' pv L → OwnS w' base' pv L) → wpList Tryd.prog ops Q rest (a.put o.dst v') w') :
    wpList Tryd.prog ops Q (o :: rest) a (w.alloc (.cells #[.string n, .bool b, .string z] 62)) := by
  obtain ⟨i0, hi, hz0, hz1, hz2⟩ := info_parts infoItem
  refine wpList_append_own _ hgd s x 57 ho base 62 i0 (.agg #[.string ⟨#[]⟩, .bool false, .string ⟨#[]⟩]) 3 40 Tryd.underlying57 hi hz0 hz1 hz2 rfl (by decide) v l.length (recsW l) hs (World.ownsRow.alloc hown _) ⟨w.heap.size, 0, none⟩ 1 1 [.string n, .bool b, .string z] hx rfl ?_ ?_ ?_ ?_ ?_ ?_
  · intro j u hj
    match j, hj with
    | 0, hj => simp at hj; subst hj; simp [Addr.add]
    | 1, hj => simp at hj; subst hj; simp [Addr.add]
    | 2, hj => simp at hj; subst hj; simp [Addr.add]
  · intro u hu; simp at hu; rcases hu with rfl | rfl | rfl <;> rfl
  · unfold maxLen; omega
  · omega
  · simp; omega
  · intro v' w' h1 h2 h3
    have e : recsW (l ++ [⟨n, b, z⟩]) = recsW l ++ [.string n, .bool b, .string z] := by simp [recsW, recW]
    refine h v' w' (by unfold OwnI; rw [e, List.length_append]; exact h1) ?_ ?_ ?_
    · exact ((Below.refl base w).alloc hbase _).grown h2 (by simp; omega) (fun q hq => own_geI hown q hq)
    · have hb := ((Below.refl 0 w).alloc (Nat.zero_le _) (.cells #[.string n, .bool b, .string z] 62)).grown h2 (Nat.zero_le _) (fun q _ => Nat.zero_le _)
      exact hb.size
    · intro base' pv L hp
      exact World.ownsRow.kept (World.ownsRow.alloc hp _) h2 (own_apart hp hown)
end Go.Proofs.YtbandckkgdnlpaaDoor
/-
  What the model's l2Parse and ParseItems answer.
-/
namespace Go.Proofs.YtbandckkgdnlpaaDoor
open Go.ChangeShapes Go.WideShapes Go.ChangeAt Go.RowKit
theorem trim_le (s : ByteArray) : (trimT s).size ≤ s.size := by
  have h : (Lib.trimS s.data.toList [32, 9]).length ≤ s.data.toList.length := by
    unfold Lib.trimS Lib.trimLeftS Lib.trimRightS
    refine Nat.le_trans (List.dropWhile_sublist _).length_le ?_
    rw [List.length_reverse]
    refine Nat.le_trans (List.dropWhile_sublist _).length_le ?_
    rw [List.length_reverse]
    exact Nat.le_refl _
  have e : (trimT s).size = (Lib.trimS s.data.toList [32, 9]).length := by simp [trimT, ByteArray.size]
  rw [e]
  simpa using h
theorem pcs_small (n : Nat) : ∀ (l : List UInt8) (ins : Bool) (cur : List UInt8), l.length ≤ n → (∀ p ∈ pcs ins cur l, p.length ≤ cur.length + l.length) ∧ (pcs ins cur l).length ≤ l.length + 1 := by
  induction n with
  | zero => intro l ins cur h; have : l = [] := List.eq_nil_of_length_eq_zero (by omega); subst this; simp [pcs]
  | succ n ih =>
    intro l ins cur h
    rw [pcs_first l.length l ins cur (Nat.le_refl _)]
    split
    · rename_i hlt
      obtain ⟨h1, h2⟩ := ih (l.drop (peS ins l + 1)) false [] (by rw [List.length_drop]; omega)
      rw [List.length_drop] at h1 h2
      refine ⟨fun p hp => ?_, by simp only [List.length_cons]; omega⟩
      rcases List.mem_cons.1 hp with rfl | hp
      · simp only [List.length_append, List.length_take]; omega
      · have := h1 p hp; simp only [List.length_nil] at this; omega
    · refine ⟨fun p hp => ?_, by simp⟩
      have e : p = cur ++ l := by simpa using hp
      subst e; simp
theorem str_nil {t : ByteArray} (h : t.size = 0) : t = ⟨#[]⟩ := ByteArray.ext (Array.eq_empty_of_size_eq_zero h)
theorem str_some {v : ByteArray} (h : v.size ≠ 0) : v.toList.isEmpty = false := by
  rw [ByteArray.toList_eq]
  cases hh : v.data.toList with
  | nil => exact absurd (by have := congrArg List.length hh; simpa using this) h
  | cons c r => rfl
def ParseRes (s : ByteArray) (base : Nat) (e : Ending) (w : World) : Prop := ∃ v, e = .returned (.tuple #[v, .int .i64 (parseC s)]) ∧ OwnI w base v (parseL s)
theorem ParseRes.mk {s : ByteArray} {base : Nat} {w : World} {v : Value} {c : Int} {L : List Rec} (h : parseC s = c ∧ parseL s = L) (ho : OwnI w base v L) : ParseRes s base (.returned (.tuple #[v, .int .i64 c])) w := ⟨v, by rw [h.1], by rw [h.2]; exact ho⟩
set_option maxRecDepth 100000 in
set_option maxHeartbeats 8000000 in
theorem l2Parse_any (s : ByteArray) (w : World) (hs : ¬ 1000 < s.size) :
    Calls Tryd.prog 84 #[.string s] w fun e w' => ParseRes s w.heap.size e w' ∧ Below w.heap.size w w' := by
  obtain ⟨sm, sl⟩ := pcs_small s.data.toList.length s.data.toList false [] (Nat.le_refl _)
  rw [size_list] at sm sl
  simp only [List.length_nil, Nat.zero_add] at sm
  have R5 := @parse_bad s hs
  have R2 := fun L => @parse_many s L hs
  have R0 := fun L => @parse_ok s L hs
  have HP : ∀ w, Calls Tryd.prog 94 #[.string s] w fun e w' => (∃ g c, e = .returned (.slice (some ⟨g, 0, none⟩) (pcs false [] s.data.toList).length c) ∧ OwnS w' w.heap.size (.slice (some ⟨g, 0, none⟩) (pcs false [] s.data.toList).length c) ((pcs false [] s.data.toList).map mkB)) ∧ Below w.heap.size w w' := fun w => pieces_any s w (by omega)
  generalize pcs false [] s.data.toList = P at *
  have HSM : Hid (∀ p ∈ P, p.length ≤ s.size) := sm
  have HR5 : Hid (readP P = none → parseC s = 5 ∧ parseL s = []) := R5
  have HR2 : Hid (∀ L, readP P = some L → 20 < L.length → parseC s = 2 ∧ parseL s = []) := R2
  have HR0 : Hid (∀ L, readP P = some L → ¬ 20 < L.length → parseC s = 0 ∧ parseL s = L) := R0
  have HPP : Hid (∀ w, Calls Tryd.prog 94 #[.string s] w fun e w' => (∃ g c, e = .returned (.slice (some ⟨g, 0, none⟩) P.length c) ∧ OwnS w' w.heap.size (.slice (some ⟨g, 0, none⟩) P.length c) (P.map mkB)) ∧ Below w.heap.size w w') := HP
  clear sm R5 R2 R0 HP
  go_enter Tryd.func84, Tryd.ntmps84
  go_wp2_with fail
  refine (HPP.out _).mono ?_
  rintro e w1 ⟨⟨g, c, rfl, hat⟩, hb1⟩
  have HO1 : Hid (OwnI w1 w.heap.size (.slice (some ⟨w.heap.size, 0, none⟩) 0 0) []) := (OwnI.made0 w w.heap.size (Nat.le_refl _)).below hb1
  have HT : Hid (OwnS w1 0 (.slice (some ⟨g, 0, none⟩) P.length c) (P.map mkB)) := OwnS.lower hat (Nat.zero_le _)
  rw [World.size_alloc] at hb1
  have KB1 : Hid (Below w.heap.size w w1) := ((Below.refl _ _).alloc (Nat.le_refl _) _).trans (hb1.mono (Nat.le_succ _))
  generalize hn : P.length = n at *
  have HN : Hid (P.length = n) := hn
  clear hat hb1 HPP hn
  go_wp2_with fail
  go_loopw [4, 6] (fun v i wr => ∃ (k : Nat) (R : List Rec), k ≤ n ∧ R.length ≤ k ∧ i = .int .i64 k ∧ OwnI wr w.heap.size v R ∧ readP P = (readP (P.drop k)).map (R ++ ·) ∧ Below w.heap.size w wr ∧ OwnS wr 0 (.slice (some ⟨g, 0, none⟩) n c) (P.map mkB)) (fun _ i _ => n - (intOf i).toNat)
  case atStart => exact ⟨0, [], Nat.zero_le _, Nat.zero_le _, rfl, HO1.out, by simp, KB1.out, HT.out⟩
  case round =>
    obtain ⟨k, R, hk, hR, rfl, hown, hrd, hb, hat⟩ := hrel
    have HO : Hid (OwnI wr w.heap.size u4 R) := hown
    have HD : Hid (readP P = (readP (P.drop k)).map (R ++ ·)) := hrd
    have HB : Hid (Below w.heap.size w wr) := hb
    have HT : Hid (OwnS wr 0 (.slice (some ⟨g, 0, none⟩) n c) (P.map mkB)) := hat
    have hz := hb.size
    clear hown hrd hb hat HO1 KB1
    by_cases hlt : k < n
    · obtain ⟨p, hp⟩ : ∃ p, P[k]? = some p := ⟨P[k]'(by have := HN.out; omega), List.getElem?_eq_getElem _⟩
      have c1 : wr.cell? ⟨g, k, none⟩ = some (.string (mkB p)) := HT.out.texts k _ (by rw [List.getElem?_map, hp]; rfl)
      have hpz : (mkB p).size ≤ 1000 := by
        have h1 := HSM.out p (List.mem_of_getElem? hp)
        have h2 : (mkB p).size = p.length := by simp [mkB, ByteArray.size]
        omega
      have htz : (trimT (mkB p)).size ≤ 1000 := Nat.le_trans (trim_le _) hpz
      have hdr : P.drop k = p :: P.drop (k + 1) := by
        obtain ⟨hk2, rfl⟩ := List.getElem?_eq_some_iff.1 hp
        exact List.drop_eq_getElem_cons hk2
      have D1 : (trimT (mkB p)).size = 0 → readP P = (readP (P.drop (k + 1))).map (R ++ ·) := fun h => by rw [HD.out, hdr, readP_skip h]
      have D2 : (trimT (mkB p)).size ≠ 0 → readR (trimT (mkB p)) = none → readP P = none := fun h h2 => by rw [HD.out, hdr, readP_bad h h2]; rfl
      have D3 : ∀ r, (trimT (mkB p)).size ≠ 0 → readR (trimT (mkB p)) = some r → readP P = (readP (P.drop (k + 1))).map ((R ++ [r]) ++ ·) := fun r h h2 => by
        rw [HD.out, hdr, readP_take h h2, Option.map_map]
        congr 1
        funext x
        simp
      have gk : (k : Int) < n := by omega
      have LT := fun w => l1Trim_any (mkB p) w hpz
      clear hdr hp HD
      generalize trimT (mkB p) = t at *
      generalize mkB p = pb at *
      have HLT : Hid (∀ w, Calls Tryd.prog 60 #[.string pb] w fun e w' => e = .returned (.string t) ∧ w' = w) := LT
      clear LT
      by_cases ht0 : t.size = 0
      · have HX : Hid (readP P = (readP (P.drop (k + 1))).map (R ++ ·)) := D1 ht0
        have ht := str_nil ht0
        subst ht
        clear D1 D2 D3 ht0 htz
        go_wp2_with fail
        refine (HLT.out _).mono ?_
        rintro e w2 ⟨rfl, rfl⟩
        go_wp2_with fail
        go_roundw
        case rel => exact ⟨k + 1, R, by omega, by omega, by go_num, HO.out, HX.out, HB.out, HT.out⟩
        case measure => simp [intOf]; omega
      · have hte := str_some ht0
        have HD2 : Hid (readR t = none → readP P = none) := D2 ht0
        have HD3 : Hid (∀ r, readR t = some r → readP P = (readP (P.drop (k + 1))).map ((R ++ [r]) ++ ·)) := fun r => D3 r ht0
        clear D1 D2 D3 ht0
        go_wp2_with fail
        refine (HLT.out _).mono ?_
        rintro e w2 ⟨rfl, rfl⟩
        go_wp2_with fail
        refine (l2Item_any t _ htz).mono ?_
        rintro e w3 ⟨⟨r, b, rfl, y1, y2⟩, hb3⟩
        have HB3 : Hid (Below w.heap.size w w3) := HB.out.trans (hb3.mono hz)
        have hz3 := HB3.out.size
        have HO3 : Hid (OwnI w3 w.heap.size u4 R) := HO.out.below hb3
        have HT3 : Hid (OwnS w3 0 (.slice (some ⟨g, 0, none⟩) n c) (P.map mkB)) := HT.out.below hb3
        clear HB HO HT hb3 c1
        cases b
        · have HY := HR5.out (HD2.out (y2 rfl))
          have HYY : Hid (parseC s = 5 ∧ parseL s = []) := HY
          obtain ⟨rn, rh, rv⟩ := r
          clear y1 y2 HY HD2 HD3
          go_wp2_with fail
          go_ret2
          exact ⟨ParseRes.mk HYY.out (OwnI.nil _ _), HB3.out.alloc hz3 _⟩
        · have HY := HD3.out r (y1 rfl)
          have HYY : Hid (readP P = (readP (P.drop (k + 1))).map ((R ++ [r]) ++ ·)) := HY
          obtain ⟨rn, rh, rv⟩ := r
          clear y1 y2 HY HD2 HD3
          have HB4 : Hid (Below w.heap.size w (w3.alloc (.cells #[.string rn, .bool rh, .string rv] 62))) := HB3.out.alloc hz3 _
          have HO4 : Hid (OwnI (w3.alloc (.cells #[.string rn, .bool rh, .string rv] 62)) w.heap.size u4 R) := HO3.out.below ((Below.refl _ _).alloc (Nat.le_refl _) _)
          have HT4 : Hid (OwnS (w3.alloc (.cells #[.string rn, .bool rh, .string rv] 62)) 0 (.slice (some ⟨g, 0, none⟩) n c) (P.map mkB)) := HT3.out.below ((Below.refl _ _).alloc (Nat.le_refl _) _)
          have hz4 : w.heap.size ≤ (w3.alloc (.cells #[.string rn, .bool rh, .string rv] 62)).heap.size := HB4.out.size
          go_wp2_with (at_builtin; refine wpList_append_item _ rfl (.tmp 33) (.tmp 35) rfl w.heap.size _ R rn rh rv rfl (by simp [go_sem]) HO4.out (by omega) hz4 ?_; intro v5 w5 HO5 hb5 hz5 hk5)
          go_roundw
          case rel => exact ⟨k + 1, R ++ [⟨rn, rh, rv⟩], by omega, by simp; omega, by go_num, HO5, HYY.out, HB4.out.trans hb5, hk5 _ _ _ HT4.out⟩
          case measure => simp [intOf]; omega
    · have HX : Hid (readP P = some R) := by
        show _ = _
        rw [HD.out, List.drop_of_length_le (by have := HN.out; omega)]
        simp [readP]
      obtain ⟨ra, rc, rfl, _⟩ := HO.out.at
      have hRn : R.length ≤ 1001 := by omega
      clear HD
      by_cases hbig : 20 < R.length
      · have HY : Hid (parseC s = 2 ∧ parseL s = []) := HR2.out R HX.out hbig
        have gb : (20 : Int) < R.length := by omega
        clear HX
        go_wp2_with fail
        go_ret2
        exact ⟨ParseRes.mk HY.out (OwnI.nil _ _), HB.out⟩
      · have HY : Hid (parseC s = 0 ∧ parseL s = R) := HR0.out R HX.out hbig
        have gb : ¬ (20 : Int) < R.length := by omega
        clear HX
        go_wp2_with fail
        go_ret2
        exact ⟨ParseRes.mk HY.out HO.out, HB.out⟩
end Go.Proofs.YtbandckkgdnlpaaDoor
/-
  What quoteEnd answers.
-/
namespace Go.Proofs.YtbandckkgdnlpaaDoor
open Go.ChangeShapes Go.WideShapes Go.ChangeAt Go.RowKit
set_option maxHeartbeats 1000000 in
theorem quoteEnd_any (s : ByteArray) (b : Nat) (w : World) (hs : s.size ≤ 1048576) (hb : b < s.size) :
    Calls Tryd.prog 96 #[.string s, .int .i64 b] w fun e w' => e = .returned (.int .i64 (qEnd s.data.toList b : Int)) ∧ w' = w := by
  go_enter Tryd.func96, Tryd.ntmps96
  go_wp2
  go_loop [5] (fun i => ∃ k : Nat, i = .int .i64 k ∧ ((k ≤ s.size ∧ qEnd s.data.toList b = k + qLen (s.data.toList.drop k)) ∨ (k = s.size + 1 ∧ qEnd s.data.toList b = s.size))) (fun i => s.size + 1 - (intOf i).toNat)
  case atStart => exact ⟨b + 1, by go_num, .inl ⟨by omega, rfl⟩⟩
  case round =>
    obtain ⟨k, rfl, hk⟩ := hrel
    by_cases hlt : k < s.size
    · have HK : Hid (qEnd s.data.toList b = k + qLen (s.data.toList.drop k)) := by
        rcases hk with hk | hk
        · exact hk.2
        · omega
      have HD : Hid (s.data.toList.drop k = s[k] :: s.data.toList.drop (k + 1)) := drop_at s k hlt
      clear hk
      by_cases c1 : (s[k].toNat : Int) = 34
      · have e1 : ((s[k].toNat : Int) == 34) = true := by simpa using c1
        have e2 : ((s[k].toNat : Int) == 92) = false := by simp; omega
        have HE : Hid ((k : Int) = (qEnd s.data.toList b : Int)) := by
          show _ = _
          rw [HK.out, HD.out, qLen_end _ _ c1]; omega
        clear HK HD c1
        go_wp2
        go_ret
        exact ⟨ret_int HE.out, rfl⟩
      · have e1 : ((s[k].toNat : Int) == 34) = false := by simpa using c1
        by_cases c2 : (s[k].toNat : Int) = 92
        · have e2 : ((s[k].toNat : Int) == 92) = true := by simpa using c2
          have HE : Hid ((k + 2 ≤ s.size ∧ qEnd s.data.toList b = (k + 2) + qLen (s.data.toList.drop (k + 2))) ∨ (k + 2 = s.size + 1 ∧ qEnd s.data.toList b = s.size)) := by
            show _ ∨ _
            by_cases hl : k + 1 = s.size
            · right
              refine ⟨by omega, ?_⟩
              rw [HK.out, HD.out, show s.data.toList.drop (k + 1) = [] from List.drop_of_length_le (by simp; omega), qLen_cut _ c2]; omega
            · left
              refine ⟨by omega, ?_⟩
              rw [HK.out, HD.out, drop_at s (k + 1) (by omega), qLen_esc _ _ _ c2, show k + 1 + 1 = k + 2 from rfl]; omega
          clear HK HD c1 c2
          go_wp2
          go_round
          case rel => exact ⟨k + 2, by go_num, HE.out⟩
          case measure => simp [intOf]; omega
        · have e2 : ((s[k].toNat : Int) == 92) = false := by simpa using c2
          have HE : Hid (k + 1 ≤ s.size ∧ qEnd s.data.toList b = (k + 1) + qLen (s.data.toList.drop (k + 1))) := by
            show _ ∧ _
            refine ⟨by omega, ?_⟩
            rw [HK.out, HD.out, qLen_take _ _ c1 c2]; omega
          clear HK HD c1 c2
          go_wp2
          go_round
          case rel => exact ⟨k + 1, by go_num, .inl HE.out⟩
          case measure => simp [intOf]; omega
    · have HE : Hid ((s.size : Int) = (qEnd s.data.toList b : Int)) := by
        show _ = _
        rcases hk with hk | hk
        · rw [hk.2, show s.data.toList.drop k = [] from List.drop_of_length_le (by simp; omega)]; simp [qLen]; omega
        · rw [hk.2]
      clear hk
      go_wp2
      go_ret
      exact ⟨ret_int HE.out, rfl⟩
set_option maxHeartbeats 400000 in
theorem hasQuote_any (s : ByteArray) (w : World) (hs : s.size ≤ 1048576) :
    Calls Tryd.prog 106 #[.string s, .string ⟨#[34]⟩] w fun e w' => e = .returned (.bool (decide (s.data.toList.head? = some 34))) ∧ w' = w := by
  by_cases h : s.size < 1
  · have HE : Hid (decide (s.data.toList.head? = some 34) = false) := by
      show _ = _
      have : s.data.toList = [] := List.eq_nil_of_length_eq_zero (by have := size_list s; omega)
      rw [this]; simp
    go_enter Tryd.func106, Tryd.ntmps106
    go_wp2
    go_ret
    exact ⟨ret_bool HE.out.symm, rfl⟩
  · have HE : Hid (((s.extract 0 1).toList == [34]) = decide (s.data.toList.head? = some 34)) := by
      show _ = _
      have h0 : 0 < s.size := by omega
      have e1 := drop_at s 0 h0
      rw [List.drop_zero] at e1
      have e2 : (s.extract 0 1).toList = [s[0]] := by
        rw [ByteArray.toList_eq, ByteArray.data_extract, Array.toList_extract, List.extract_eq_take_drop, List.drop_zero, e1]; rfl
      rw [e2, e1]
      simp only [List.head?_cons, Option.some.injEq]
      by_cases c : s[0] = 34
      · rw [c]; rfl
      · simp [c]
    go_enter Tryd.func106, Tryd.ntmps106
    go_wp2
    go_ret
    exact ⟨ret_bool HE.out, rfl⟩
end Go.Proofs.YtbandckkgdnlpaaDoor
/-
  What pieceEnd answers.
-/
namespace Go.Proofs.YtbandckkgdnlpaaDoor
open Go.ChangeShapes Go.WideShapes Go.ChangeAt Go.RowKit
/-- Where the piece that begins at b ends. -/
def pEnd (l : List UInt8) (b : Nat) : Nat := b + peS false (l.drop b)
theorem pEnd_quote (s : ByteArray) (k : Nat) (hk : k < s.size) (hc : (s[k].toNat : Int) = 34) :
    (qEnd s.data.toList k + 1 ≤ s.size ∧ k + peS false (s.data.toList.drop k) = (qEnd s.data.toList k + 1) + peS false (s.data.toList.drop (qEnd s.data.toList k + 1))) ∨ (qEnd s.data.toList k + 1 = s.size + 1 ∧ k + peS false (s.data.toList.drop k) = s.size) := by
  have hz := size_list s
  have hr : (s.data.toList.drop (k + 1)).length = s.size - (k + 1) := by rw [List.length_drop, hz]
  have hq := qLen_le (s.data.toList.drop (k + 1))
  have e : k + peS false (s.data.toList.drop k) = k + 1 + peS true (s.data.toList.drop (k + 1)) := by
    rw [drop_at s k hk, peS_quote hc]; simp only [Bool.not_false]; omega
  rw [e, peS_in _ (s.data.toList.drop (k + 1)) (Nat.le_refl _)]
  unfold qEnd
  by_cases q : qLen (s.data.toList.drop (k + 1)) < (s.data.toList.drop (k + 1)).length
  · left
    rw [if_pos q, List.drop_drop]
    refine ⟨by omega, ?_⟩
    rw [show k + 1 + (qLen (s.data.toList.drop (k + 1)) + 1) = k + 1 + qLen (s.data.toList.drop (k + 1)) + 1 from by omega]
    omega
  · right
    rw [if_neg q]
    omega
set_option maxHeartbeats 2000000 in
theorem pieceEnd_any (s : ByteArray) (b : Nat) (w : World) (hs : s.size ≤ 1000) (hb : b < s.size) :
    Calls Tryd.prog 86 #[.string s, .int .i64 b] w fun e w' => e = .returned (.int .i64 (pEnd s.data.toList b : Int)) ∧ w' = w := by
  have hz := size_list s
  go_enter Tryd.func86, Tryd.ntmps86
  go_wp2
  go_step3
  go_wp2
  go_step3
  go_wp2
  go_loop [5] (fun i => ∃ k : Nat, i = .int .i64 k ∧ ((k ≤ s.size ∧ pEnd s.data.toList b = k + peS false (s.data.toList.drop k)) ∨ (k = s.size + 1 ∧ pEnd s.data.toList b = s.size))) (fun i => s.size + 1 - (intOf i).toNat)
  case atStart => exact ⟨b, rfl, .inl ⟨by omega, rfl⟩⟩
  case round =>
    obtain ⟨k, rfl, hk⟩ := hrel
    by_cases hlt : k < s.size
    · have HK : Hid (pEnd s.data.toList b = k + peS false (s.data.toList.drop k)) := by
        rcases hk with hk | hk
        · exact hk.2
        · omega
      clear hk
      by_cases c1 : (s[k].toNat : Int) = 34
      · have e1 : ((s[k].toNat : Int) == 34) = true := by simpa using c1
        have hq := pEnd_quote s k hlt c1
        have hqk : k ≤ qEnd s.data.toList k := by unfold qEnd; omega
        have HQ := quoteEnd_any s k w (by omega) hlt
        generalize qEnd s.data.toList k = q at *
        have HX : Hid ((q + 1 ≤ s.size ∧ pEnd s.data.toList b = (q + 1) + peS false (s.data.toList.drop (q + 1))) ∨ (q + 1 = s.size + 1 ∧ pEnd s.data.toList b = s.size)) := by
          rw [HK.out]; exact hq
        have hq1 : q ≤ s.size := by rcases hq with h | h <;> omega
        clear hq HK c1
        go_wp2_with fail
        refine HQ.mono ?_
        rintro e w1 ⟨rfl, rfl⟩
        go_wp2_with fail
        go_round
        case rel => exact ⟨q + 1, by go_num, HX.out⟩
        case measure => simp [intOf]; omega
      · have e1 : ((s[k].toNat : Int) == 34) = false := by simpa using c1
        by_cases c2 : (s[k].toNat : Int) = 44
        · have e2 : ((s[k].toNat : Int) == 44) = true := by simpa using c2
          have HX : Hid ((k : Int) = (pEnd s.data.toList b : Int)) := by
            show _ = _
            rw [HK.out, drop_at s k hlt, peS_comma c2]; omega
          have hm : min (k : Int) (s.size : Int) = k := by omega
          clear HK c1 c2
          go_wp2_with fail
          go_ret
          exact ⟨ret_int HX.out, rfl⟩
        · have e2 : ((s[k].toNat : Int) == 44) = false := by simpa using c2
          have HX : Hid (k + 1 ≤ s.size ∧ pEnd s.data.toList b = (k + 1) + peS false (s.data.toList.drop (k + 1))) := by
            show _ ∧ _
            refine ⟨by omega, ?_⟩
            rw [HK.out, drop_at s k hlt, peS_take (by simp) c1 (fun x => c2 x.1)]; omega
          clear HK c1 c2
          go_wp2_with fail
          go_round
          case rel => exact ⟨k + 1, by go_num, .inl HX.out⟩
          case measure => simp [intOf]; omega
    · have HX : Hid ((s.size : Int) = (pEnd s.data.toList b : Int)) := by
        show _ = _
        rcases hk with hk | hk
        · rw [hk.2, show s.data.toList.drop k = [] from List.drop_of_length_le (by omega)]; simp [peS]; omega
        · rw [hk.2]
      have hm : min (k : Int) (s.size : Int) = s.size := by omega
      clear hk
      go_wp2_with fail
      go_ret
      exact ⟨ret_int HX.out, rfl⟩
end Go.Proofs.YtbandckkgdnlpaaDoor
/-
  What the pieces of a text tell, one behind the other, plainly.
-/
namespace Go.Proofs.YtbandckkgdnlpaaDoor
/-- The pieces, trimmed, without the empty ones. -/
def trims : List (List UInt8) → List ByteArray
  | [] => []
  | p :: ps => if (trimT (mkB p)).size = 0 then trims ps else trimT (mkB p) :: trims ps
theorem trims_skip {p : List UInt8} {ps : List (List UInt8)} (h : (trimT (mkB p)).size = 0) : trims (p :: ps) = trims ps := by rw [trims, if_pos h]
theorem trims_take {p : List UInt8} {ps : List (List UInt8)} (h : (trimT (mkB p)).size ≠ 0) : trims (p :: ps) = trimT (mkB p) :: trims ps := by rw [trims, if_neg h]
theorem trims_len : ∀ ps : List (List UInt8), (trims ps).length ≤ ps.length
  | [] => Nat.le_refl _
  | p :: ps => by
    have := trims_len ps
    rw [trims]
    split <;> simp only [List.length_cons] <;> omega
/-- What is told of a trimmed piece: an item and its code. -/
def Tells (t : ByteArray) (x : Rec × Int) : Prop := (x.2 = 0 ∧ readR t = some x.1) ∨ (x.2 = 5 ∧ readR t = none)
def AllTell : List ByteArray → List (Rec × Int) → Prop
  | [], [] => True
  | t :: d, x :: xs => Tells t x ∧ AllTell d xs
  | _, _ => False
theorem readP_all : ∀ (ps : List (List UInt8)) (xs : List (Rec × Int)), AllTell (trims ps) xs → (∀ x ∈ xs, x.2 = 0) → readP ps = some (xs.map (·.1))
  | [], [], _, _ => rfl
  | [], _ :: _, h, _ => h.elim
  | p :: ps, xs, h, h0 => by
    by_cases c : (trimT (mkB p)).size = 0
    · rw [trims_skip c] at h
      rw [readP_skip c]
      exact readP_all ps xs h h0
    · rw [trims_take c] at h
      match xs, h, h0 with
      | x :: xs, ⟨hx, ht⟩, h0 =>
        have hx0 := h0 x (by simp)
        rcases hx with hx | hx
        · rw [readP_take c hx.2, readP_all ps xs ht (fun y hy => h0 y (by simp [hy]))]
          rfl
        · omega
theorem readP_none : ∀ (ps : List (List UInt8)) (t : ByteArray), t ∈ trims ps → readR t = none → readP ps = none
  | [], t, h, _ => by simp [trims] at h
  | p :: ps, t, h, hr => by
    by_cases c : (trimT (mkB p)).size = 0
    · rw [trims_skip c] at h
      rw [readP_skip c]
      exact readP_none ps t h hr
    · rw [trims_take c] at h
      cases hq : readR (trimT (mkB p)) with
      | none => exact readP_bad c hq
      | some r =>
        rcases List.mem_cons.1 h with rfl | h
        · rw [hq] at hr; cases hr
        · rw [readP_take c hq, readP_none ps t h hr]; rfl
theorem trim_nothing : (trimT (mkB [])).size = 0 := by
  have := trim_le (mkB [])
  have e : (mkB []).size = 0 := rfl
  omega
theorem trims_nil : trims (pcs false [] []) = [] := by
  rw [show pcs false [] [] = [[]] from rfl, trims_skip trim_nothing]
  rfl
/-- One piece further on. -/
theorem trims_step (s : ByteArray) (b : Nat) (hb : b < s.size) :
    trims (pcs false [] (s.data.toList.drop b)) = trims ([(s.data.toList.drop b).take (pEnd s.data.toList b - b)] ++ (if pEnd s.data.toList b + 1 ≤ s.size then pcs false [] (s.data.toList.drop (pEnd s.data.toList b + 1)) else [])) := by
  have hz := size_list s
  have hl : (s.data.toList.drop b).length = s.size - b := by rw [List.length_drop, hz]
  have hp := peS_le _ (s.data.toList.drop b) false (Nat.le_refl _)
  rw [pcs_first _ (s.data.toList.drop b) false [] (Nat.le_refl _)]
  unfold pEnd
  rw [show b + peS false (s.data.toList.drop b) - b = peS false (s.data.toList.drop b) from by omega]
  by_cases q : peS false (s.data.toList.drop b) < (s.data.toList.drop b).length
  · rw [if_pos q, if_pos (by omega), List.drop_drop, List.nil_append, show b + (peS false (s.data.toList.drop b) + 1) = b + peS false (s.data.toList.drop b) + 1 from by omega]
    rfl
  · rw [if_neg q, if_neg (by omega), List.take_of_length_le (by omega)]
    rfl
/-- Where the teller stands: done is what it has told of. -/
def TellAt (s : ByteArray) (done : List ByteArray) (b : Nat) : Prop := (b ≤ s.size ∧ trims (pcs false [] s.data.toList) = done ++ trims (pcs false [] (s.data.toList.drop b))) ∨ (b = s.size + 1 ∧ trims (pcs false [] s.data.toList) = done)
theorem TellAt.over {s : ByteArray} {done : List ByteArray} {b : Nat} (h : TellAt s done b) (hb : ¬ b < s.size) : trims (pcs false [] s.data.toList) = done := by
  have hz := size_list s
  rcases h with h | h
  · rw [h.2, List.drop_of_length_le (by omega), trims_nil, List.append_nil]
  · exact h.2
theorem TellAt.skip {s : ByteArray} {done : List ByteArray} {b : Nat} (h : TellAt s done b) (hb : b < s.size) (ht : (trimT (mkB ((s.data.toList.drop b).take (pEnd s.data.toList b - b)))).size = 0) : TellAt s done (pEnd s.data.toList b + 1) := by
  have hz := size_list s
  have hp := peS_le _ (s.data.toList.drop b) false (Nat.le_refl _)
  rw [List.length_drop, hz] at hp
  rcases h with h | h
  · have e := h.2
    rw [trims_step s b hb, List.singleton_append, trims_skip ht] at e
    by_cases q : pEnd s.data.toList b + 1 ≤ s.size
    · rw [if_pos q] at e; exact .inl ⟨q, e⟩
    · rw [if_neg q] at e
      refine .inr ⟨by unfold pEnd at q ⊢; omega, by rw [e]; simp [trims]⟩
  · omega
theorem TellAt.take {s : ByteArray} {done : List ByteArray} {b : Nat} (h : TellAt s done b) (hb : b < s.size) (ht : (trimT (mkB ((s.data.toList.drop b).take (pEnd s.data.toList b - b)))).size ≠ 0) :
    TellAt s (done ++ [trimT (mkB ((s.data.toList.drop b).take (pEnd s.data.toList b - b)))]) (pEnd s.data.toList b + 1) ∧ (done ++ [trimT (mkB ((s.data.toList.drop b).take (pEnd s.data.toList b - b)))]) <+: trims (pcs false [] s.data.toList) := by
  have hz := size_list s
  have hp := peS_le _ (s.data.toList.drop b) false (Nat.le_refl _)
  rw [List.length_drop, hz] at hp
  rcases h with h | h
  · have e := h.2
    rw [trims_step s b hb, List.singleton_append, trims_take ht] at e
    refine ⟨?_, ?_⟩
    · by_cases q : pEnd s.data.toList b + 1 ≤ s.size
      · rw [if_pos q] at e; exact .inl ⟨q, by rw [e]; simp⟩
      · rw [if_neg q] at e
        exact .inr ⟨by unfold pEnd at q ⊢; omega, by rw [e]; simp [trims]⟩
    · rw [e]
      refine ⟨trims (if pEnd s.data.toList b + 1 ≤ s.size then pcs false [] (s.data.toList.drop (pEnd s.data.toList b + 1)) else []), ?_⟩
      rw [List.append_assoc]
      rfl
  · omega
theorem tells_snoc : ∀ {d : List ByteArray} {xs : List (Rec × Int)} {t : ByteArray} {x : Rec × Int}, AllTell d xs → Tells t x → AllTell (d ++ [t]) (xs ++ [x])
  | [], [], _, _, _, hx => ⟨hx, trivial⟩
  | _ :: _, _ :: _, _, _, h, hx => ⟨h.1, tells_snoc h.2 hx⟩
theorem tells_len : ∀ {d : List ByteArray} {xs : List (Rec × Int)}, AllTell d xs → d.length = xs.length
  | [], [], _ => rfl
  | _ :: _, _ :: _, h => by simp [tells_len h.2]
theorem tells_last : ∀ {d : List ByteArray} {xs : List (Rec × Int)} {x : Rec × Int}, AllTell d (xs ++ [x]) → ∃ t ∈ d, Tells t x
  | [], [], _, h => h.elim
  | [], _ :: _, _, h => h.elim
  | t :: _, [], _, h => ⟨t, by simp, h.1⟩
  | _ :: _, _ :: _, _, h => by
    obtain ⟨t, ht, hx⟩ := tells_last h.2
    exact ⟨t, by simp [ht], hx⟩
end Go.Proofs.YtbandckkgdnlpaaDoor
/-
  strings.Cut at a sign that stands alone.
-/
namespace Go.Proofs.YtbandckkgdnlpaaDoor
open Go.ChangeShapes Go.WideShapes Go.ChangeAt Go.RowKit Go.Sort
theorem idx_eq : ∀ l : List UInt8, Lib.indexByte l 61 = if eqAt l < l.length then (eqAt l : Int) else -1
  | [] => by simp [Lib.indexByte, eqAt]
  | c :: r => by
    have ih := idx_eq r
    rw [Lib.indexByte, eqAt]
    by_cases h : (c.toNat : Int) = 61
    · have hc : c = 61 := UInt8.toNat_inj.1 (by simpa using (by omega : c.toNat = 61))
      rw [if_pos (by rw [hc]; rfl), if_pos h]
      simp
    · have hc : ¬ (c == 61) = true := by
        intro e
        have e2 : c = 61 := by simpa using e
        rw [e2] at h
        exact h rfl
      rw [if_neg hc, if_neg h, ih]
      by_cases q : eqAt r < r.length
      · have e1 : ¬ ((eqAt r : Int) == -1) = true := by simp
        rw [if_pos q, if_neg e1, if_pos (by simp only [List.length_cons]; omega)]
        omega
      · rw [if_neg q, if_pos (by rfl), if_neg (by simp only [List.length_cons]; omega)]
theorem index_lib (s : ByteArray) (w : World) :
    Calls Tryd.prog 111 #[.string s, .string ⟨#[61]⟩] w fun e w' => e = .returned (.int .i64 (Lib.indexByte s.data.toList 61)) ∧ w' = w :=
  Any.stringslite_Index_one Tryd.lays219 s 61 w
set_option maxRecDepth 100000 in
set_option maxHeartbeats 2000000 in
theorem cut_yes (s : ByteArray) (w : World) (hs : s.size ≤ 1000) (h : eqAt s.data.toList < s.size) :
    Calls Tryd.prog 105 #[.string s, .string ⟨#[61]⟩] w fun e w' => e = .returned (.tuple #[.string (s.extract 0 (eqAt s.data.toList)), .string (s.extract (eqAt s.data.toList + 1) s.size), .bool true]) ∧ Below w.heap.size w w' := by
  have HI := index_lib s w
  rw [idx_eq, if_pos (by rw [size_list]; exact h)] at HI
  generalize eqAt s.data.toList = k at *
  have g0 : (0 : Int) ≤ k := by omega
  have g1 : (k : Int) ≤ s.size := by omega
  have g2 : (k : Int) + 1 ≤ s.size := by omega
  go_enter Tryd.func105, Tryd.ntmps105
  go_wp2_with fail
  refine HI.mono ?_
  rintro e w1 ⟨rfl, rfl⟩
  go_wp2_with fail
  refine wp_region_quiet_below (by kernel_rfl) (by kernel_rfl) ?_
  repeat (go_big_quiet_step (fail))
  refine wpQuiet_nil ?_
  intro W2 hW2
  have hbW2 : Below w1.heap.size w1 W2 := by
    obtain ⟨⟨d, os⟩, rfl⟩ := hW2
    exact below_regrown w1 d os
  clear hW2
  go_wp2_with fail
  exact bodyPost_ret (v := .tuple #[.string (s.extract 0 k), .string (s.extract (k + 1) s.size), .bool true]) (by simp [results, Tryd.results105, go_sem]) rfl ⟨rfl, hbW2⟩
set_option maxHeartbeats 2000000 in
theorem cut_no (s : ByteArray) (w : World) (h : ¬ eqAt s.data.toList < s.size) :
    Calls Tryd.prog 105 #[.string s, .string ⟨#[61]⟩] w fun e w' => e = .returned (.tuple #[.string s, .string ⟨#[]⟩, .bool false]) ∧ Below w.heap.size w w' := by
  have HI := index_lib s w
  rw [idx_eq, if_neg (by rw [size_list]; exact h)] at HI
  go_enter Tryd.func105, Tryd.ntmps105
  go_wp2_with fail
  refine HI.mono ?_
  rintro e w1 ⟨rfl, rfl⟩
  go_wp2_with fail
  exact bodyPost_ret (v := .tuple #[.string s, .string ⟨#[]⟩, .bool false]) (by simp [results, Tryd.results105, go_sem]) rfl ⟨rfl, Below.refl _ _⟩
set_option maxHeartbeats 2000000 in
theorem cutS_of (s : ByteArray) (w : World) (a b : ByteArray) (h : Bool) (hc : Calls Tryd.prog 105 #[.string s, .string ⟨#[61]⟩] w fun e w' => e = .returned (.tuple #[.string a, .string b, .bool h]) ∧ Below w.heap.size w w') :
    Calls Tryd.prog 97 #[.string s, .string ⟨#[61]⟩] w fun e w' => e = .returned (.tuple #[.string a, .string b, .bool h]) ∧ Below w.heap.size w w' := by
  go_enter Tryd.func97, Tryd.ntmps97
  go_wp2_with fail
  refine hc.mono ?_
  rintro e w1 ⟨rfl, hb⟩
  go_wp2_with fail
  exact bodyPost_ret (v := .tuple #[.string a, .string b, .bool h]) (by simp [results, Tryd.results97, go_sem]) rfl ⟨rfl, hb⟩
end Go.Proofs.YtbandckkgdnlpaaDoor
/-
  What UnquoteText answers.
-/
namespace Go.Proofs.YtbandckkgdnlpaaDoor
open Go.ChangeShapes Go.WideShapes Go.ChangeAt Go.RowKit
set_option maxHeartbeats 400000 in
theorem implUnquote_long (s : ByteArray) (w : World) (h : 2002 < s.size) :
    Calls Tryd.prog 98 #[.string s] w fun e w' => e = .returned (.agg #[.int .i64 2, .string ⟨#[]⟩]) ∧ Below w.heap.size w w' := by
  have hh : (2002 : Int) < s.size := by omega
  go_enter Tryd.func98, Tryd.ntmps98
  go_wp2
  exact bodyPost_ret (v := .agg #[.int .i64 2, .string ⟨#[]⟩]) (by simp [results, Tryd.results98, go_sem]) rfl ⟨rfl, (Below.refl _ _).alloc (Nat.le_refl _) _⟩
set_option maxHeartbeats 1000000 in
theorem implUnquote_bad (s : ByteArray) (w : World) (hs : s.size ≤ 2002) (hp : unqB s = false) :
    Calls Tryd.prog 98 #[.string s] w fun e w' => e = .returned (.agg #[.int .i64 5, .string ⟨#[]⟩]) ∧ Below w.heap.size w w' := by
  have hh : ¬ (2002 : Int) < s.size := by omega
  rw [unqB_ends] at hp
  by_cases h1 : s.data.toList.head? = some 34
  · have H1 : Hid (decide (s.data.toList.head? = some 34) = true) := by show _ = _; simpa using h1
    have h0 : 0 < s.size := by
      cases e : s.data.toList with
      | nil => rw [e] at h1; simp at h1
      | cons c t => have := size_list s
                    rw [e] at this; simp only [List.length_cons] at this; omega
    have H2 := quoteEnd_any s 0 (w.alloc (.cells #[.int .i64 0, .string ⟨#[]⟩] 25)) (by omega) h0
    by_cases h2 : qEnd s.data.toList 0 + 1 = s.size
    · have HP : Hid (plainL s.data.toList = false) := by
        show _ = _
        rw [H1.out, show decide (qEnd s.data.toList 0 + 1 = s.size) = true from by simpa using h2] at hp
        simpa using hp
      generalize qEnd s.data.toList 0 = q at *
      have e2 : ((q : Int) != (s.size : Int) - 1) = false := by simp; omega
      clear hp h1
      go_enter Tryd.func98, Tryd.ntmps98
      go_wp2_with fail
      refine (hasQuote_any s _ (by omega)).mono ?_
      rintro e w1 ⟨rfl, rfl⟩
      rw [H1.out]
      go_wp2_with fail
      refine H2.mono ?_
      rintro e w1 ⟨rfl, rfl⟩
      go_wp2_with fail
      refine (allPlain_any s _ (by omega)).mono ?_
      rintro e w1 ⟨rfl, rfl⟩
      rw [HP.out]
      go_wp2
      exact bodyPost_ret (v := .agg #[.int .i64 5, .string ⟨#[]⟩]) (by simp [results, Tryd.results98, go_sem]) rfl ⟨rfl, (Below.refl _ _).alloc (Nat.le_refl _) _⟩
    · have hq := qLen_le (s.data.toList.drop 1)
      generalize hqe : qEnd s.data.toList 0 = q at *
      have e2 : ((q : Int) != (s.size : Int) - 1) = true := by simp; omega
      clear hp h1
      go_enter Tryd.func98, Tryd.ntmps98
      go_wp2_with fail
      refine (hasQuote_any s _ (by omega)).mono ?_
      rintro e w1 ⟨rfl, rfl⟩
      rw [H1.out]
      go_wp2_with fail
      refine H2.mono ?_
      rintro e w1 ⟨rfl, rfl⟩
      go_wp2_with fail
      exact bodyPost_ret (v := .agg #[.int .i64 5, .string ⟨#[]⟩]) (by simp [results, Tryd.results98, go_sem]) rfl ⟨rfl, (Below.refl _ _).alloc (Nat.le_refl _) _⟩
  · have H1 : Hid (decide (s.data.toList.head? = some 34) = false) := by show _ = _; simpa using h1
    clear hp h1
    go_enter Tryd.func98, Tryd.ntmps98
    go_wp2_with fail
    refine (hasQuote_any s _ (by omega)).mono ?_
    rintro e w1 ⟨rfl, rfl⟩
    rw [H1.out]
    go_wp2_with fail
    exact bodyPost_ret (v := .agg #[.int .i64 5, .string ⟨#[]⟩]) (by simp [results, Tryd.results98, go_sem]) rfl ⟨rfl, (Below.refl _ _).alloc (Nat.le_refl _) _⟩
/-- One byte further on, where the quotes end as they should. -/
theorem unq_last {acc l : List UInt8} (h : (unq acc l).2 = true) (hl : l.length = 1) : (unq acc l).1 = acc := by
  match l, hl with
  | [c], _ =>
    by_cases e : (c.toNat : Int) = 34
    · simp only [unq, if_pos e]
    · simp only [unq, if_neg e] at h; cases h
theorem unq_far {acc l : List UInt8} (h : (unq acc l).2 = true) : l ≠ [] := by
  intro e; subst e; simp [unq] at h
set_option maxHeartbeats 4000000 in
theorem implUnquote_any (s : ByteArray) (w : World) (hs : s.size ≤ 2002) (hp : unqB s = true) :
    Calls Tryd.prog 98 #[.string s] w fun e w' => e = .returned (.agg #[.int .i64 0, .string (unqS s)]) ∧ Below w.heap.size w w' := by
  have hh : ¬ (2002 : Int) < s.size := by omega
  have HB : Hid (unqB s = true) := hp
  rw [unqB_ends, Bool.and_eq_true, Bool.and_eq_true, decide_eq_true_iff, decide_eq_true_iff] at hp
  obtain ⟨⟨h1, h2⟩, h3⟩ := hp
  have H1 : Hid (decide (s.data.toList.head? = some 34) = true) := by show _ = _; simpa using h1
  have hq0 : 1 ≤ qEnd s.data.toList 0 := by unfold qEnd; omega
  have h0 : 0 < s.size := by omega
  have HT : Hid (unqT s.data.toList = unq [] (s.data.toList.drop 1)) := unqT_go (by have := size_list s; omega) h1 h3
  have HP : Hid (plainL s.data.toList = true) := h3
  have H2 := quoteEnd_any s 0 (w.alloc (.cells #[.int .i64 0, .string ⟨#[]⟩] 25)) (by omega) h0
  generalize qEnd s.data.toList 0 = q at *
  have e2 : ((q : Int) != (s.size : Int) - 1) = false := by simp; omega
  clear h1 h3
  go_enter Tryd.func98, Tryd.ntmps98
  go_wp2_with fail
  refine (hasQuote_any s _ (by omega)).mono ?_
  rintro e w1 ⟨rfl, rfl⟩
  rw [H1.out]
  go_wp2_with fail
  refine H2.mono ?_
  rintro e w1 ⟨rfl, rfl⟩
  go_wp2_with fail
  refine (allPlain_any s _ (by omega)).mono ?_
  rintro e w1 ⟨rfl, rfl⟩
  rw [HP.out]
  clear HP H1
  go_wp2
  go_loopw [3, 4] (fun v i wr => ∃ (k : Nat) (acc : List UInt8), k < s.size ∧ acc.length ≤ k ∧ i = .int .i64 k ∧ OwnR wr (w.heap.size + 1) v acc ∧ unqT s.data.toList = unq acc (s.data.toList.drop k) ∧ Below (w.heap.size + 1) (w.alloc (.cells #[.int .i64 0, .string ⟨#[]⟩] 25)) wr) (fun _ i _ => s.size - (intOf i).toNat)
  case atStart => exact ⟨1, [], by omega, by simp, rfl, OwnR.nil _ _, HT.out, Below.refl _ _⟩
  case round =>
    obtain ⟨k, acc, hk, ha, rfl, hown, hq, hb⟩ := hrel
    have HO : Hid (OwnR wr (w.heap.size + 1) u3 acc) := hown
    have HQ : Hid (unqT s.data.toList = unq acc (s.data.toList.drop k)) := hq
    have HR : Hid ((unq acc (s.data.toList.drop k)).2 = true) := by
      show _ = _
      rw [← HQ.out]; exact HB.out
    have hz : w.heap.size + 1 ≤ wr.heap.size := by have := hb.size; rwa [World.size_alloc] at this
    have HD : Hid (s.data.toList.drop k = s[k] :: s.data.toList.drop (k + 1)) := drop_at s k hk
    clear hown hq HT
    by_cases hlt : k + 1 < s.size
    · have g0 : (k : Int) < (s.size : Int) - 1 := by omega
      by_cases c2 : (s[k].toNat : Int) = 92
      · have e2 : ((s[k].toNat : Int) == 92) = true := by simpa using c2
        have HE : Hid (unqT s.data.toList = unq (acc ++ [s[k + 1]]) (s.data.toList.drop (k + 2))) := by
          show _ = _
          rw [HQ.out, HD.out, drop_at s (k + 1) hlt, unq_esc _ _ _ _ c2]
        have hk2 : k + 2 < s.size := by
          have h := HB.out
          unfold unqB at h
          rw [HE.out] at h
          have h4 := unq_far h
          have := size_list s
          by_cases h5 : k + 2 < s.size
          · exact h5
          · exact absurd (List.drop_of_length_le (by omega)) h4
        clear HQ HD HR c2
        go_wp2_with (at_builtin; refine wpList_append_byteR _ rfl (.tmp 39) (.tmp 43) rfl (w.heap.size + 1) _ acc _ s[k + 1] rfl rfl HO.out rfl (by omega) hz ?_; intro v2 w2 HO2 hb2 hz2)
        go_roundw
        case rel => exact ⟨k + 2, acc ++ [s[k + 1]], hk2, by simp; omega, by go_num, HO2, HE.out, hb.trans hb2⟩
        case measure => simp [intOf]; omega
      · have e2 : ((s[k].toNat : Int) == 92) = false := by simpa using c2
        have c1 : ¬ (s[k].toNat : Int) = 34 := by
          intro c1
          have h := HR.out
          rw [HD.out, unq_end _ _ _ c1] at h
          have := size_list s
          simp at h
          omega
        have HE : Hid (unqT s.data.toList = unq (acc ++ [s[k]]) (s.data.toList.drop (k + 1))) := by
          show _ = _
          rw [HQ.out, HD.out, unq_take _ _ _ c1 c2]
        clear HQ HD HR c2 c1
        go_wp2_with (at_builtin; refine wpList_append_byteR _ rfl (.tmp 39) (.tmp 43) rfl (w.heap.size + 1) _ acc _ s[k] rfl rfl HO.out rfl (by omega) hz ?_; intro v2 w2 HO2 hb2 hz2)
        go_roundw
        case rel => exact ⟨k + 1, acc ++ [s[k]], by omega, by simp; omega, by go_num, HO2, HE.out, hb.trans hb2⟩
        case measure => simp [intOf]; omega
    · have g0 : ¬ (k : Int) < (s.size : Int) - 1 := by omega
      have HE : Hid ((⟨acc.toArray⟩ : ByteArray) = unqS s) := by
        show _ = _
        unfold unqS
        rw [HQ.out, unq_last HR.out (by have := size_list s; rw [List.length_drop]; omega)]
      have hcv := HO.out.text
      obtain ⟨hzz, p0, p1, f0, f1, kb⟩ := text_room hb
      generalize (⟨acc.toArray⟩ : ByteArray) = r at *
      obtain ⟨q0, q1⟩ := two_set (v0 := .int .i64 0) (v1 := .string r) p0 p1
      clear HQ HD HR
      go_wp2_with fail
      exact bodyPost_ret (v := .agg #[.int .i64 0, .string r]) (by simp [results, Tryd.results98, go_sem, q0, q1]) rfl ⟨by rw [HE.out], (kb.setCell (Nat.le_refl _) _).setCell (Nat.le_refl _) _⟩
end Go.Proofs.YtbandckkgdnlpaaDoor
/-
  What itemOf answers.
-/
namespace Go.Proofs.YtbandckkgdnlpaaDoor
open Go.ChangeShapes Go.WideShapes Go.ChangeAt Go.RowKit
def ItemOfRes (s : ByteArray) (e : Ending) : Prop := ∃ (r : Rec) (c : Int), e = .returned (.tuple #[.agg #[.string r.name, .bool r.has, .string r.value], .int .i64 c]) ∧ ((c = 0 ∧ readR s = some r) ∨ (c = 5 ∧ readR s = none))
theorem ItemOfRes.no {s : ByteArray} (n : ByteArray) (h : Bool) (v : ByteArray) (hr : readR s = none) : ItemOfRes s (.returned (.tuple #[.agg #[.string n, .bool h, .string v], .int .i64 5])) := ⟨⟨n, h, v⟩, 5, rfl, .inr ⟨rfl, hr⟩⟩
theorem ItemOfRes.yes {s : ByteArray} {n : ByteArray} {h : Bool} {v : ByteArray} (hr : readR s = some ⟨n, h, v⟩) : ItemOfRes s (.returned (.tuple #[.agg #[.string n, .bool h, .string v], .int .i64 0])) := ⟨⟨n, h, v⟩, 0, rfl, .inl ⟨rfl, hr⟩⟩
/-- Three cells of a block that may be written. -/
structure Three (w : World) (B : Nat) (a b c : Value) : Prop where
  c0 : w.cell? ⟨B, 0, none⟩ = some a
  c1 : w.cell? ⟨B, 1, none⟩ = some b
  c2 : w.cell? ⟨B, 2, none⟩ = some c
  f0 : w.frozen? ⟨B, 0, none⟩ = false
  f1 : w.frozen? ⟨B, 1, none⟩ = false
  f2 : w.frozen? ⟨B, 2, none⟩ = false
theorem Three.keep {w w' : World} {B : Nat} {a b c : Value} (h : Three w B a b c) (hb : Below w.heap.size w w') : Three w' B a b c where
  c0 := by rw [hb.cell (block_lt_of_cell h.c0)]; exact h.c0
  c1 := by rw [hb.cell (block_lt_of_cell h.c1)]; exact h.c1
  c2 := by rw [hb.cell (block_lt_of_cell h.c2)]; exact h.c2
  f0 := by rw [hb.frozen (block_lt_of_cell h.c0)]; exact h.f0
  f1 := by rw [hb.frozen (block_lt_of_cell h.c1)]; exact h.f1
  f2 := by rw [hb.frozen (block_lt_of_cell h.c2)]; exact h.f2
theorem Three.new (w : World) (a b c : Value) (t : TypeId) : Three (w.alloc (.cells #[a, b, c] t)) w.heap.size a b c where
  c0 := by simp
  c1 := by simp
  c2 := by simp
  f0 := by simp
  f1 := by simp
  f2 := by simp
theorem Three.alloc {w : World} {B : Nat} {a b c : Value} (h : Three w B a b c) (o : Obj) : Three (w.alloc o) B a b c := h.keep ((Below.refl _ _).alloc (Nat.le_refl _) _)
theorem Three.lt {w : World} {B : Nat} {a b c : Value} (h : Three w B a b c) : B < w.heap.size := block_lt_of_cell h.c0
theorem put_alloc {w w3 : World} (h : Below w.heap.size w w3) (a b c : Value) (o : Obj) : Below w.heap.size w ((((w3.setCell ⟨w.heap.size, 0, none⟩ a).setCell ⟨w.heap.size, 1, none⟩ b).setCell ⟨w.heap.size, 2, none⟩ c).alloc o) := by
  have k := ((h.setCell (p := ⟨w.heap.size, 0, none⟩) (Nat.le_refl _) a).setCell (p := ⟨w.heap.size, 1, none⟩) (Nat.le_refl _) b).setCell (p := ⟨w.heap.size, 2, none⟩) (Nat.le_refl _) c
  exact k.alloc k.size _
set_option maxRecDepth 100000 in
set_option maxHeartbeats 4000000 in
theorem itemOf_bare (s : ByteArray) (w : World) (hset : SetIs w) (hs : s.size ≤ 1000) (h : ¬ eqAt s.data.toList < s.size) :
    Calls Tryd.prog 87 #[.string s] w fun e w' => ItemOfRes s e ∧ Below w.heap.size w w' := by
  have hle := eqAt_le s.data.toList
  rw [size_list] at hle
  have hk : eqAt s.data.toList = s.size := by omega
  have R1 := @read_noname s
  have R2 := @read_bare s
  rw [hk] at R1 R2
  have ee : s.extract 0 s.size = s := ByteArray.extract_zero_size
  rw [ee] at R1 R2
  have RR : Hid ((wordS s = false → readR s = none) ∧ (wordS s = true → readR s = some ⟨s, false, ⟨#[]⟩⟩)) := ⟨R1, fun h => R2 h rfl⟩
  clear R1 R2
  have HC := fun w => cutS_of s w _ _ _ (cut_no s w h)
  have HCC : Hid (∀ w, Calls Tryd.prog 97 #[.string s, .string ⟨#[61]⟩] w fun e w' => e = .returned (.tuple #[.string s, .string ⟨#[]⟩, .bool false]) ∧ Below w.heap.size w w') := HC
  have HS : Hid (SetIs w) := hset
  clear hle hk HC hset ee h
  have T0 : Hid (Three (w.alloc (.cells #[.string ⟨#[]⟩, .bool false, .string ⟨#[]⟩] 62)) w.heap.size (.string ⟨#[]⟩) (.bool false) (.string ⟨#[]⟩)) := Three.new w _ _ _ _
  have KB0 : Hid (Below w.heap.size w (w.alloc (.cells #[.string ⟨#[]⟩, .bool false, .string ⟨#[]⟩] 62))) := (Below.refl _ _).alloc (Nat.le_refl _) _
  go_enter Tryd.func87, Tryd.ntmps87
  go_wp2_with fail
  refine (HCC.out _).mono ?_
  rintro e w1 ⟨rfl, hb1⟩
  have T1 : Hid (Three w1 w.heap.size (.string ⟨#[]⟩) (.bool false) (.string ⟨#[]⟩)) := T0.out.keep hb1
  have KB1 : Hid (Below w.heap.size w w1) := KB0.out.trans (hb1.mono KB0.out.size)
  clear hb1 T0 KB0 HCC
  go_wp2_with fail
  refine (implIsWord_set s w1 (HS.out.below KB1.out)).mono ?_
  rintro e w2 ⟨rfl, hb2⟩
  have T2 : Three w2 w.heap.size (.string ⟨#[]⟩) (.bool false) (.string ⟨#[]⟩) := T1.out.keep hb2
  have KB2 : Hid (Below w.heap.size w w2) := KB1.out.trans (hb2.mono KB1.out.size)
  clear hb2 T1 KB1 HS
  obtain ⟨c0, c1, c2, f0, f1, f2⟩ := T2
  cases hw : wordS s
  · have HR : Hid (readR s = none) := RR.out.1 hw
    clear RR hw
    obtain ⟨r0, r1, r2⟩ := three_set (v0 := .string ⟨#[]⟩) (v1 := .bool false) (v2 := .string ⟨#[]⟩) c0 c1 c2
    go_wp2_with fail
    exact bodyPost_ret (v := .tuple #[.agg #[.string ⟨#[]⟩, .bool false, .string ⟨#[]⟩], .int .i64 5]) (by simp [results, Tryd.results87, go_sem, r0, r1, r2]) rfl ⟨ItemOfRes.no _ _ _ HR.out, ((KB2.out.setCell (Nat.le_refl _) _).setCell (Nat.le_refl _) _).setCell (Nat.le_refl _) _⟩
  · have HR : Hid (readR s = some ⟨s, false, ⟨#[]⟩⟩) := RR.out.2 hw
    have T2 : Hid (Three w2 w.heap.size (.string ⟨#[]⟩) (.bool false) (.string ⟨#[]⟩)) := ⟨c0, c1, c2, f0, f1, f2⟩
    clear RR hw c0 c1 c2 f0 f1 f2
    go_wp2_with fail
    refine (clone_text s w2 (by omega)).mono ?_
    rintro e w3 ⟨rfl, hb3⟩
    have T3 : Three w3 w.heap.size (.string ⟨#[]⟩) (.bool false) (.string ⟨#[]⟩) := T2.out.keep hb3
    have KB3 : Hid (Below w.heap.size w w3) := KB2.out.trans (hb3.mono KB2.out.size)
    have hlt := T3.lt
    obtain ⟨r0, r1, r2⟩ := three_set (v0 := .string s) (v1 := .bool false) (v2 := .string ⟨#[]⟩) T3.c0 T3.c1 T3.c2
    have r0 := f_keepA (.cells #[.string s, .bool false, .string ⟨#[]⟩] 62) r0
    have r1 := f_keepA (.cells #[.string s, .bool false, .string ⟨#[]⟩] 62) r1
    have r2 := f_keepA (.cells #[.string s, .bool false, .string ⟨#[]⟩] 62) r2
    obtain ⟨c0, c1, c2, f0, f1, f2⟩ := T3
    clear hb3 T2 KB2
    go_wp2_with fail
    exact bodyPost_ret (v := .tuple #[.agg #[.string s, .bool false, .string ⟨#[]⟩], .int .i64 0]) (by simp [results, Tryd.results87, go_sem, r0, r1, r2]) rfl ⟨ItemOfRes.yes HR.out, put_alloc KB3.out _ _ _ _⟩
end Go.Proofs.YtbandckkgdnlpaaDoor
/-
  What itemOf answers where there is a sign of equality; at every piece.
-/
namespace Go.Proofs.YtbandckkgdnlpaaDoor
open Go.ChangeShapes Go.WideShapes Go.ChangeAt Go.RowKit
theorem ext_size (s : ByteArray) (i j : Nat) (hs : s.size ≤ 1000) : (s.extract i j).size ≤ 1000 := by simp; omega
theorem put4 {w w3 : World} {B : Nat} (h : Below w.heap.size w w3) (hB : w.heap.size ≤ B) (u a b c : Value) : Below w.heap.size w ((((w3.setCell ⟨B, 2, none⟩ u).setCell ⟨w.heap.size, 0, none⟩ a).setCell ⟨w.heap.size, 1, none⟩ b).setCell ⟨w.heap.size, 2, none⟩ c) :=
  (((h.setCell (p := ⟨B, 2, none⟩) hB u).setCell (p := ⟨w.heap.size, 0, none⟩) (Nat.le_refl _) a).setCell (p := ⟨w.heap.size, 1, none⟩) (Nat.le_refl _) b).setCell (p := ⟨w.heap.size, 2, none⟩) (Nat.le_refl _) c
set_option maxRecDepth 100000 in
set_option maxHeartbeats 8000000 in
theorem itemOf_has (s : ByteArray) (w : World) (hset : SetIs w) (hs : s.size ≤ 1000) (h : eqAt s.data.toList < s.size) :
    Calls Tryd.prog 87 #[.string s] w fun e w' => ItemOfRes s e ∧ Below w.heap.size w w' := by
  have hne : eqAt s.data.toList ≠ s.size := by omega
  have R1 := @read_noname s
  have R3 := fun a => @read_word s a hne
  have R4 := fun a => @read_quote s a hne
  have R5 := fun a => @read_bad s a hne
  have HC := fun w => cutS_of s w _ _ _ (cut_yes s w hs h)
  have hnz := ext_size s 0 (eqAt s.data.toList) hs
  have hrz := ext_size s (eqAt s.data.toList + 1) s.size hs
  generalize s.extract 0 (eqAt s.data.toList) = nm at *
  generalize s.extract (eqAt s.data.toList + 1) s.size = rs at *
  have RR : Hid ((wordS nm = false → readR s = none) ∧ (wordS nm = true → wordS rs = true → readR s = some ⟨nm, true, rs⟩) ∧ (wordS nm = true → wordS rs = false → unqB rs = true → readR s = some ⟨nm, true, unqS rs⟩) ∧ (wordS nm = true → wordS rs = false → unqB rs = false → readR s = none)) := ⟨R1, R3, R4, R5⟩
  have HCC : Hid (∀ w, Calls Tryd.prog 97 #[.string s, .string ⟨#[61]⟩] w fun e w' => e = .returned (.tuple #[.string nm, .string rs, .bool true]) ∧ Below w.heap.size w w') := HC
  have HS : Hid (SetIs w) := hset
  clear R1 R3 R4 R5 HC hset h hne
  have T0 : Hid (Three (w.alloc (.cells #[.string ⟨#[]⟩, .bool false, .string ⟨#[]⟩] 62)) w.heap.size (.string ⟨#[]⟩) (.bool false) (.string ⟨#[]⟩)) := Three.new w _ _ _ _
  have KB0 : Hid (Below w.heap.size w (w.alloc (.cells #[.string ⟨#[]⟩, .bool false, .string ⟨#[]⟩] 62))) := (Below.refl _ _).alloc (Nat.le_refl _) _
  go_enter Tryd.func87, Tryd.ntmps87
  go_wp2_with fail
  refine (HCC.out _).mono ?_
  rintro e w1 ⟨rfl, hb1⟩
  have T1 : Hid (Three w1 w.heap.size (.string ⟨#[]⟩) (.bool false) (.string ⟨#[]⟩)) := T0.out.keep hb1
  have KB1 : Hid (Below w.heap.size w w1) := KB0.out.trans (hb1.mono KB0.out.size)
  clear hb1 T0 KB0 HCC
  go_wp2_with fail
  refine (implIsWord_set nm w1 (HS.out.below KB1.out)).mono ?_
  rintro e w2 ⟨rfl, hb2⟩
  have T2 : Hid (Three w2 w.heap.size (.string ⟨#[]⟩) (.bool false) (.string ⟨#[]⟩)) := T1.out.keep hb2
  have KB2 : Hid (Below w.heap.size w w2) := KB1.out.trans (hb2.mono KB1.out.size)
  clear hb2 T1 KB1
  cases hw : wordS nm
  · have HR : Hid (readR s = none) := RR.out.1 hw
    clear RR hw HS
    obtain ⟨c0, c1, c2, f0, f1, f2⟩ := T2.out
    obtain ⟨r0, r1, r2⟩ := three_set (v0 := .string ⟨#[]⟩) (v1 := .bool false) (v2 := .string ⟨#[]⟩) c0 c1 c2
    go_wp2_with fail
    exact bodyPost_ret (v := .tuple #[.agg #[.string ⟨#[]⟩, .bool false, .string ⟨#[]⟩], .int .i64 5]) (by simp [results, Tryd.results87, go_sem, r0, r1, r2]) rfl ⟨ItemOfRes.no _ _ _ HR.out, ((KB2.out.setCell (Nat.le_refl _) _).setCell (Nat.le_refl _) _).setCell (Nat.le_refl _) _⟩
  have R2 : Hid ((wordS rs = true → readR s = some ⟨nm, true, rs⟩) ∧ (wordS rs = false → unqB rs = true → readR s = some ⟨nm, true, unqS rs⟩) ∧ (wordS rs = false → unqB rs = false → readR s = none)) := ⟨RR.out.2.1 hw, RR.out.2.2.1 hw, RR.out.2.2.2 hw⟩
  clear RR hw
  go_wp2_with fail
  refine (clone_text nm w2 (by omega)).mono ?_
  rintro e w3 ⟨rfl, hb3⟩
  have T3 : Hid (Three w3 w.heap.size (.string ⟨#[]⟩) (.bool false) (.string ⟨#[]⟩)) := T2.out.keep hb3
  have KB3 : Hid (Below w.heap.size w w3) := KB2.out.trans (hb3.mono KB2.out.size)
  have S4 : Hid (SetIs (w3.alloc (.cells #[.string nm, .bool true, .string ⟨#[]⟩] 62))) := (HS.out.below KB3.out).below ((Below.refl _ _).alloc (Nat.le_refl _) _)
  have T4 : Hid (Three (w3.alloc (.cells #[.string nm, .bool true, .string ⟨#[]⟩] 62)) w.heap.size (.string ⟨#[]⟩) (.bool false) (.string ⟨#[]⟩)) := T3.out.alloc _
  have U4 : Hid (Three (w3.alloc (.cells #[.string nm, .bool true, .string ⟨#[]⟩] 62)) w3.heap.size (.string nm) (.bool true) (.string ⟨#[]⟩)) := Three.new w3 _ _ _ _
  have KB4 : Hid (Below w.heap.size w (w3.alloc (.cells #[.string nm, .bool true, .string ⟨#[]⟩] 62))) := KB3.out.alloc KB3.out.size _
  have hBB : w.heap.size < w3.heap.size := T3.out.lt
  clear hb3 T2 KB2 T3 KB3 HS
  go_wp2_with fail
  refine (implIsWord_set rs _ S4.out).mono ?_
  rintro e w5 ⟨rfl, hb5⟩
  have T5 : Hid (Three w5 w.heap.size (.string ⟨#[]⟩) (.bool false) (.string ⟨#[]⟩)) := T4.out.keep hb5
  have U5 : Hid (Three w5 w3.heap.size (.string nm) (.bool true) (.string ⟨#[]⟩)) := U4.out.keep hb5
  have KB5 : Hid (Below w.heap.size w w5) := KB4.out.trans (hb5.mono KB4.out.size)
  clear hb5 T4 U4 KB4 S4
  generalize w3.heap.size = B1 at *
  clear w3
  have hBn : w.heap.size ≠ B1 := by omega
  cases hv : wordS rs
  · have R3 : Hid ((unqB rs = true → readR s = some ⟨nm, true, unqS rs⟩) ∧ (unqB rs = false → readR s = none)) := ⟨R2.out.2.1 hv, R2.out.2.2 hv⟩
    clear R2 hv
    cases hu : unqB rs
    · have HR : Hid (readR s = none) := R3.out.2 hu
      have HU : Hid (Calls Tryd.prog 98 #[.string rs] w5 fun e w' => e = .returned (.agg #[.int .i64 5, .string ⟨#[]⟩]) ∧ Below w5.heap.size w5 w') := implUnquote_bad rs w5 (by omega) hu
      clear R3 hu
      go_wp2_with fail
      refine HU.out.mono ?_
      rintro e w6 ⟨rfl, hb6⟩
      have T6 := T5.out.keep hb6
      have KB6 : Hid (Below w.heap.size w w6) := KB5.out.trans (hb6.mono KB5.out.size)
      have hl6 := T6.lt
      obtain ⟨r0, r1, r2⟩ := three_set (v0 := .string ⟨#[]⟩) (v1 := .bool false) (v2 := .string ⟨#[]⟩) T6.c0 T6.c1 T6.c2
      have r0 := f_keepA (.cells #[.int .i64 5, .string ⟨#[]⟩] 25) r0
      have r1 := f_keepA (.cells #[.int .i64 5, .string ⟨#[]⟩] 25) r1
      have r2 := f_keepA (.cells #[.int .i64 5, .string ⟨#[]⟩] 25) r2
      obtain ⟨c0, c1, c2, f0, f1, f2⟩ := T6
      clear hb6 HU T5 U5 KB5
      go_wp2_with fail
      exact bodyPost_ret (v := .tuple #[.agg #[.string ⟨#[]⟩, .bool false, .string ⟨#[]⟩], .int .i64 5]) (by simp [results, Tryd.results87, go_sem, r0, r1, r2]) rfl ⟨ItemOfRes.no _ _ _ HR.out, put_alloc KB6.out _ _ _ _⟩
    · have HR : Hid (readR s = some ⟨nm, true, unqS rs⟩) := R3.out.1 hu
      have HU : Hid (Calls Tryd.prog 98 #[.string rs] w5 fun e w' => e = .returned (.agg #[.int .i64 0, .string (unqS rs)]) ∧ Below w5.heap.size w5 w') := implUnquote_any rs w5 (by omega) hu
      clear R3 hu
      generalize unqS rs = uv at *
      go_wp2_with fail
      refine HU.out.mono ?_
      rintro e w6 ⟨rfl, hb6⟩
      have T6 := T5.out.keep hb6
      have U6 := U5.out.keep hb6
      have KB6 : Hid (Below w.heap.size w w6) := KB5.out.trans (hb6.mono KB5.out.size)
      have hl6 := T6.lt
      have hm6 := U6.lt
      obtain ⟨x0, x1, x2, y0, y1, y2, z0, z1, z2⟩ := item_put (v := .string uv) hBn T6.c0 T6.c1 T6.c2 T6.f0 T6.f1 T6.f2 U6.c0 U6.c1 U6.c2
      obtain ⟨r0, r1, r2⟩ := three_set (v0 := .string nm) (v1 := .bool true) (v2 := .string uv) y0 y1 y2
      have r0 := f_keepA (.cells #[.int .i64 0, .string uv] 25) r0
      have r1 := f_keepA (.cells #[.int .i64 0, .string uv] 25) r1
      have r2 := f_keepA (.cells #[.int .i64 0, .string uv] 25) r2
      obtain ⟨c0, c1, c2, f0, f1, f2⟩ := T6
      obtain ⟨d0, d1, d2, g0, g1, g2⟩ := U6
      have hkb := put4 KB6.out (by omega : w.heap.size ≤ B1) (.string uv) (.string nm) (.bool true) (.string uv)
      have HKB : Hid (Below w.heap.size w (((((w6.setCell ⟨B1, 2, none⟩ (.string uv)).setCell ⟨w.heap.size, 0, none⟩ (.string nm)).setCell ⟨w.heap.size, 1, none⟩ (.bool true)).setCell ⟨w.heap.size, 2, none⟩ (.string uv)).alloc (.cells #[.int .i64 0, .string uv] 25))) := hkb.alloc hkb.size _
      clear hb6 HU T5 U5 KB5 hkb
      go_wp2_with fail
      exact bodyPost_ret (v := .tuple #[.agg #[.string nm, .bool true, .string uv], .int .i64 0]) (by simp [results, Tryd.results87, go_sem, r0, r1, r2]) rfl ⟨ItemOfRes.yes HR.out, HKB.out⟩
  · have HR : Hid (readR s = some ⟨nm, true, rs⟩) := R2.out.1 hv
    clear R2 hv
    go_wp2_with fail
    refine (clone_text rs w5 (by omega)).mono ?_
    rintro e w6 ⟨rfl, hb6⟩
    have T6 := T5.out.keep hb6
    have U6 := U5.out.keep hb6
    have KB6 : Hid (Below w.heap.size w w6) := KB5.out.trans (hb6.mono KB5.out.size)
    obtain ⟨x0, x1, x2, y0, y1, y2, z0, z1, z2⟩ := item_put (v := .string rs) hBn T6.c0 T6.c1 T6.c2 T6.f0 T6.f1 T6.f2 U6.c0 U6.c1 U6.c2
    obtain ⟨r0, r1, r2⟩ := three_set (v0 := .string nm) (v1 := .bool true) (v2 := .string rs) y0 y1 y2
    obtain ⟨c0, c1, c2, f0, f1, f2⟩ := T6
    obtain ⟨d0, d1, d2, g0, g1, g2⟩ := U6
    have HKB : Hid (Below w.heap.size w ((((w6.setCell ⟨B1, 2, none⟩ (.string rs)).setCell ⟨w.heap.size, 0, none⟩ (.string nm)).setCell ⟨w.heap.size, 1, none⟩ (.bool true)).setCell ⟨w.heap.size, 2, none⟩ (.string rs))) := put4 KB6.out (by omega : w.heap.size ≤ B1) _ _ _ _
    clear hb6 T5 U5 KB5
    go_wp2_with fail
    exact bodyPost_ret (v := .tuple #[.agg #[.string nm, .bool true, .string rs], .int .i64 0]) (by simp [results, Tryd.results87, go_sem, r0, r1, r2]) rfl ⟨ItemOfRes.yes HR.out, HKB.out⟩
theorem itemOf_any (s : ByteArray) (w : World) (hset : SetIs w) (hs : s.size ≤ 1000) :
    Calls Tryd.prog 87 #[.string s] w fun e w' => ItemOfRes s e ∧ Below w.heap.size w w' := by
  by_cases h : eqAt s.data.toList < s.size
  · exact itemOf_has s w hset hs h
  · exact itemOf_bare s w hset hs h
end Go.Proofs.YtbandckkgdnlpaaDoor
/-
  What the teller of itemsOf does, for every loop body.
-/
namespace Go.Proofs.YtbandckkgdnlpaaDoor
open Go.ChangeShapes Go.WideShapes Go.ChangeAt Go.RowKit Go.Shelf
attribute [local go_sem] Oper.semAt_some
theorem ascii_set {l : List UInt8} (h : (l.all fun b => decide (b.toNat < 128)) = true) : ∀ (j : Nat) b, l[j]? = some b → b.toNat < 128 := fun _ b hb => by
  have := List.all_eq_true.1 h b (List.mem_of_getElem? hb)
  simpa using this
theorem trim_lib2 (s : ByteArray) (w : World) (hs : s.size ≤ 1000) :
    Calls Tryd.prog 62 #[.string s, .string ⟨#[32, 9]⟩] w fun e w' => e = .returned (.string (trimT s)) ∧ Below w.heap.size w w' :=
  Any.strings_Trim_laid Tryd.lays160 (by kernel_rfl) s ⟨#[32, 9]⟩ w (by omega) (by decide) (ascii_set (by decide))
theorem setIs_belowN {w w' : World} {n : Nat} (h : SetIs w) (hb : Below n w w') (hn : 0 < n) : SetIs w' := by
  obtain ⟨cs, tt, fr, hg, h1, h2⟩ := h
  exact ⟨cs, tt, fr, by rw [hb.block 0 hn, hg], h1, h2⟩
def encX (x : Rec × Int) : Array Value := #[.agg #[.string x.1.name, .bool x.1.has, .string x.1.value], .int .i64 x.2]
/-- What a round that goes on keeps. -/
def KeepT (n₀ Bt : Nat) (s : ByteArray) (W W' : World) : Prop := Below n₀ W W' ∧ (W.cell? ⟨Bt, 0, none⟩ = some (.string s) → W'.cell? ⟨Bt, 0, none⟩ = some (.string s))
theorem grown_of {W W' : World} (h : Below W.heap.size W W') : W.grownBy W' none := ⟨h.os, h.tape, h.output, h.size, fun k hk _ => h.block k hk⟩
set_option maxRecDepth 100000 in
set_option maxHeartbeats 8000000 in
theorem tell_in (n : Nat) (hn : 1 ≤ n) (l Bt n₀ : Nat) (s : ByteArray) (hs : s.size ≤ 1000) (hG : 0 < n₀) (J Jx : List (Rec × Int) → World → Prop)
    (hJ : ∀ pre W W', J pre W → W.grownBy W' none → J pre W')
    (hY : ∀ pre x W, J pre W → pre.length < 1002 → YieldAt Fence.wide (n - 1) Tryd.prog l (encX x) W fun e W' =>
      (e = .returned (.bool true) ∧ J (pre ++ [x]) W' ∧ KeepT n₀ Bt s W W') ∨ (e = .returned (.bool false) ∧ Jx (pre ++ [x]) W'))
    (W : World) (hc : W.cell? ⟨Bt, 0, none⟩ = some (.string s)) (hset : SetIs W) (h0 : J [] W) :
    CallsIn Fence.wide n Tryd.prog 85 #[.func (.yield l) #[] #[], .pointer (some ⟨Bt, 0, none⟩)] W fun e W' => (∃ v, e = .returned v) ∧
      ((∃ ys, AllTell (trims (pcs false [] s.data.toList)) ys ∧ J ys W') ∨ (∃ pre, (∃ d, d <+: trims (pcs false [] s.data.toList) ∧ AllTell d pre) ∧ Jx pre W')) := by
  have hT := (pcs_small s.data.toList.length s.data.toList false [] (Nat.le_refl _)).2
  rw [size_list] at hT
  have hTl := trims_len (pcs false [] s.data.toList)
  have HY : Hid (∀ pre x W, J pre W → pre.length < 1002 → YieldAt Fence.wide (n - 1) Tryd.prog l (encX x) W fun e W' =>
      (e = .returned (.bool true) ∧ J (pre ++ [x]) W' ∧ KeepT n₀ Bt s W W') ∨ (e = .returned (.bool false) ∧ Jx (pre ++ [x]) W')) := hY
  have HJ : Hid (∀ pre W W', J pre W → W.grownBy W' none → J pre W') := hJ
  clear hY hJ
  refine callsIn_of_wp Tryd.func85 rfl trivial ?_ rfl
  simp only [Tryd.ntmps85, List.size_toArray, List.length_cons, List.length_nil, Nat.reduceAdd, Nat.reduceSub, Array.replicate_succ, Array.replicate_zero, List.push_toArray, List.append_toArray, List.nil_append, List.cons_append]
  gi_wp2
  gi_loopw [3] (fun b wr => ∃ (k : Nat) (done : List ByteArray) (pre : List (Rec × Int)), b = .int .i64 k ∧ k ≤ s.size + 1 ∧ TellAt s done k ∧ AllTell done pre ∧ J pre wr ∧ wr.cell? ⟨Bt, 0, none⟩ = some (.string s) ∧ SetIs wr ∧ done.length ≤ (trims (pcs false [] s.data.toList)).length) (fun b _ => s.size + 1 - (intOf b).toNat)
  case atStart => exact ⟨0, [], [], rfl, Nat.zero_le _, .inl ⟨Nat.zero_le _, rfl⟩, trivial, h0, hc, hset, Nat.zero_le _⟩
  case round =>
    obtain ⟨k, done, pre, rfl, hk, hta, htl, hJs, hcs, hsets, hdl⟩ := hrel
    have HA : Hid (TellAt s done k) := hta
    have HL : Hid (AllTell done pre) := htl
    have HS : Hid (SetIs wr) := hsets
    have HJs : Hid (J pre wr) := hJs
    clear hta htl hsets hJs hc hset h0
    by_cases hlt : k < s.size
    · have g : (k : Int) < s.size := by omega
      have hpe : pEnd s.data.toList k ≤ s.size ∧ k ≤ pEnd s.data.toList k := by
        have hp := peS_le _ (s.data.toList.drop k) false (Nat.le_refl _)
        rw [List.length_drop, size_list] at hp
        unfold pEnd; omega
      have HX : Hid (s.extract k (pEnd s.data.toList k) = mkB ((s.data.toList.drop k).take (pEnd s.data.toList k - k))) := ext_mk _ _ _
      have hxz := ext_size s k (pEnd s.data.toList k) hs
      have A1 := HA.out.skip hlt
      have A2 := HA.out.take hlt
      have PE := pieceEnd_any s k wr hs hlt
      rw [← HX.out] at A1 A2
      generalize pEnd s.data.toList k = q at *
      have TR := fun w => trim_lib2 (s.extract k q) w hxz
      have htz : (trimT (s.extract k q)).size ≤ 1000 := Nat.le_trans (trim_le _) hxz
      generalize trimT (s.extract k q) = t at *
      have HPE : Hid (Calls Tryd.prog 86 #[.string s, .int .i64 k] wr fun e w' => e = .returned (.int .i64 (q : Int)) ∧ w' = wr) := PE
      have HTR : Hid (∀ w, Calls Tryd.prog 62 #[.string (s.extract k q), .string ⟨#[32, 9]⟩] w fun e w' => e = .returned (.string t) ∧ Below w.heap.size w w') := TR
      have gq0 : (0 : Int) ≤ k := by omega
      have gq1 : (k : Int) ≤ q := by omega
      have gq2 : (q : Int) ≤ s.size := by omega
      clear PE TR HX HA
      by_cases ht0 : t.size = 0
      · have HA1 : Hid (TellAt s done (q + 1)) := A1 ht0
        have ht := str_nil ht0
        subst ht
        clear A1 A2 ht0
        gi_wp2_with (first
          | (refine ⟨trivial, ?_⟩; gi_at_call 86; refine (callsIn_wide.2 HPE.out).mono ?_; rintro e w1 ⟨rfl, rfl⟩)
          | (refine ⟨trivial, ?_⟩; gi_at_call 62; refine (callsIn_wide.2 (HTR.out _)).mono ?_; rintro e w2 ⟨rfl, hb2⟩))
        refine ⟨trivial, ?_⟩
        gi_wp2
        refine ⟨fun _ h => (by cases h), ?_⟩
        gi_wp2
        go_roundw
        case rel => exact ⟨q + 1, done, pre, by go_num, by omega, HA1.out, HL.out, HJ.out _ _ _ HJs.out (grown_of hb2), f_keep hb2 hcs, HS.out.below hb2, hdl⟩
        case measure => simp [intOf]; omega
      · obtain ⟨ha2, hpre⟩ := A2 ht0
        have HA2 : Hid (TellAt s (done ++ [t]) (q + 1)) := ha2
        have HPF : Hid ((done ++ [t]) <+: trims (pcs false [] s.data.toList)) := hpre
        have hte := str_some ht0
        have hpl : pre.length < 1002 := by
          have h1 := tells_len HL.out
          omega
        clear A1 A2 ht0 ha2 hpre
        gi_wp2_with (first
          | (refine ⟨trivial, ?_⟩; gi_at_call 86; refine (callsIn_wide.2 HPE.out).mono ?_; rintro e w1 ⟨rfl, rfl⟩)
          | (refine ⟨trivial, ?_⟩; gi_at_call 62; refine (callsIn_wide.2 (HTR.out _)).mono ?_; rintro e w2 ⟨rfl, hb2⟩)
          | (refine ⟨trivial, ?_⟩; gi_at_call 87; refine (callsIn_wide.2 (itemOf_any t _ (HS.out.below hb2) htz)).mono ?_; rintro e w3 ⟨⟨⟨rn, rh, rv⟩, rc, rfl, hres⟩, hb3⟩; have hJ3 := HJ.out _ _ _ (HJ.out _ _ _ HJs.out (grown_of hb2)) (grown_of hb3); obtain ⟨fn, tmps, assign, body, hy, hR⟩ := HY.out pre (⟨rn, rh, rv⟩, rc) w3 hJ3 hpl; dsimp only [encX] at hy))
        refine hR.mono ?_
        rintro e W3 (⟨rfl, hJ4, hk4⟩ | ⟨rfl, hJx4⟩)
        · have hc4 := hk4.2 (f_keep hb3 (f_keep hb2 hcs))
          have hs4 : SetIs W3 := setIs_belowN ((HS.out.below hb2).below hb3) hk4.1 hG
          have htell : Tells t (⟨rn, rh, rv⟩, rc) := hres
          have HFIN : Hid (AllTell (done ++ [t]) (pre ++ [(⟨rn, rh, rv⟩, rc)]) ∧ J (pre ++ [(⟨rn, rh, rv⟩, rc)]) W3 ∧ W3.cell? ⟨Bt, 0, none⟩ = some (.string s) ∧ SetIs W3 ∧ (done ++ [t]).length ≤ (trims (pcs false [] s.data.toList)).length) := ⟨tells_snoc HL.out htell, hJ4, hc4, hs4, HPF.out.length_le⟩
          clear hc4 hs4 htell hJ4 hk4 hy hR hJ3
          gi_wp2
          go_roundw
          case rel => exact ⟨q + 1, done ++ [t], pre ++ [(⟨rn, rh, rv⟩, rc)], by go_num, by omega, HA2.out, HFIN.out.1, HFIN.out.2.1, HFIN.out.2.2.1, HFIN.out.2.2.2.1, HFIN.out.2.2.2.2⟩
          case measure => simp [intOf]; omega
        · have htell : Tells t (⟨rn, rh, rv⟩, rc) := hres
          have HFIN : Hid (AllTell (done ++ [t]) (pre ++ [(⟨rn, rh, rv⟩, rc)])) := tells_snoc HL.out htell
          gi_wp2
          refine bodyPost_ret (results_none rfl _ _ _) rfl ?_
          exact ⟨⟨_, rfl⟩, .inr ⟨pre ++ [(⟨rn, rh, rv⟩, rc)], ⟨done ++ [t], HPF.out, HFIN.out⟩, hJx4⟩⟩
    · have HT : Hid (trims (pcs false [] s.data.toList) = done) := HA.out.over hlt
      have g : ¬ (k : Int) < s.size := by omega
      clear HA HY HJ
      gi_wp2
      go_end0
      exact ⟨⟨_, rfl⟩, .inl ⟨pre, by rw [HT.out]; exact HL.out, HJs.out⟩⟩
end Go.Proofs.YtbandckkgdnlpaaDoor
/-
  What ParseItems answers.
-/
namespace Go.Proofs.YtbandckkgdnlpaaDoor
open Go.ChangeShapes Go.WideShapes Go.ChangeAt Go.RowKit Go.Shelf
attribute [local go_sem] Oper.semAt_some
set_option maxHeartbeats 1000000 in
theorem itemsOf_any (s : ByteArray) (w : World) :
    Calls Tryd.prog 68 #[.string s] w fun e w' => e = .returned (.func (.func 85) #[] #[.pointer (some ⟨w.heap.size, 0, none⟩)]) ∧ w' = w.alloc (.cells #[.string s] 9) := by
  go_enter Tryd.func68, Tryd.ntmps68
  go_wp2
  go_ret
  exact ⟨rfl, rfl⟩
theorem tell_stops (n : Nat) (hn : 1 ≤ n) (Bt n₀ : Nat) (s : ByteArray) (hs : s.size ≤ 1000) (hG : 0 < n₀) (w : World) (hBt : Bt < w.heap.size) (hc : w.cell? ⟨Bt, 0, none⟩ = some (.string s)) (hset : SetIs w) :
    SeqStopsK Fence.wide n Tryd.prog 85 #[.pointer (some ⟨Bt, 0, none⟩)] encX (KeepT n₀ Bt s) (fun ys => AllTell (trims (pcs false [] s.data.toList)) ys) (fun pre => ∃ d, d <+: trims (pcs false [] s.data.toList) ∧ AllTell d pre) 1002 w := fun l J Jx W hW hJ _ hY h0 =>
  tell_in n hn l Bt n₀ s hs hG J Jx (fun pre W1 W2 h hg => hJ pre W1 W2 none h hg (fun r e => by cases e)) hY W ((hW.cell (p := ⟨Bt, 0, none⟩) hBt).trans hc) (hset.below hW) h0
theorem keepT_t {n₀ Bt : Nat} {s : ByteArray} {A B C : World} (h : KeepT n₀ Bt s A B) (k : KeepT n₀ Bt s B C) : KeepT n₀ Bt s A C := ⟨h.1.trans k.1, fun x => k.2 (h.2 x)⟩
theorem keepT_b {n₀ Bt : Nat} {s : ByteArray} {w : World} (hn : n₀ ≤ w.heap.size) (W : World) (l : Nat) (o o' : Obj) (hl : w.heap.size ≤ l) (ho : W.heap[l]? = some o) (h1 : o.isCells = false) (h2 : o.isWalk = false) : KeepT n₀ Bt s W (W.putObj l o') := by
  refine ⟨belowK_b hn W l o o' hl ho h1 h2, fun hc => ?_⟩
  exact cell_kept hc (grownBy_putObj' W l o') (fun r e => by cases e; exact ⟨_, ho, h1⟩)
end Go.Proofs.YtbandckkgdnlpaaDoor
/-
  What the loop of ParseItems keeps between two rounds.
-/
namespace Go.Proofs.YtbandckkgdnlpaaDoor
open Go.ChangeShapes Go.WideShapes Go.ChangeAt Go.RowKit Go.Shelf
/-- Between two rounds: all that was told was an item, and they lie in the row. -/
structure PI (w : World) (pre : List (Rec × Int)) (W : World) : Prop where
  good : ∀ x ∈ pre, x.2 = 0
  row : ∃ v, W.cell? ⟨w.heap.size + 1, 0, none⟩ = some v ∧ OwnI W (w.heap.size + 3) v (pre.map (·.1))
  bf : W.frozen? ⟨w.heap.size + 1, 0, none⟩ = false
  c0 : W.cell? ⟨w.heap.size, 0, none⟩ = some (.int .i64 0)
  c1 : W.cell? ⟨w.heap.size, 1, none⟩ = some (.slice none 0 0)
  f0 : W.frozen? ⟨w.heap.size, 0, none⟩ = false
  f1 : W.frozen? ⟨w.heap.size, 1, none⟩ = false
  below : Below w.heap.size w W
  size : w.heap.size + 3 ≤ W.heap.size
/-- A round has left: the last that was told was none. -/
def PX (w : World) (c : Code) (pre : List (Rec × Int)) (W : World) : Prop := c = .ret ∧ (∃ pr x, pre = pr ++ [x] ∧ x.2 ≠ 0 ∧ W.cell? ⟨w.heap.size, 0, none⟩ = some (.int .i64 x.2) ∧ W.cell? ⟨w.heap.size, 1, none⟩ = some (.slice none 0 0)) ∧ Below w.heap.size w W
theorem ownI_apart {W : World} {base : Nat} {v : Value} {l : List Rec} (h : OwnI W base v l) {row : Option Nat} (hr : ∀ r, row = some r → ∃ o : Obj, W.heap[r]? = some o ∧ o.isCells = false) : v.ownBlock = none ∨ v.ownBlock ≠ row := by
  obtain ⟨_, h1 | ⟨g, c, cur, rfl, _, hh, _⟩⟩ := h
  · left; rw [h1.1]; rfl
  · right
    intro e
    obtain ⟨o, ho, hc⟩ := hr g e.symm
    rw [hh] at ho
    obtain rfl := Option.some.inj ho
    cases hc
theorem pi_grown {w W W' : World} {pre : List (Rec × Int)} {row : Option Nat} (h : PI w pre W) (hg : W.grownBy W' row) (hr : ∀ r, row = some r → w.heap.size + 3 ≤ r ∧ ∃ o : Obj, W.heap[r]? = some o ∧ o.isCells = false) : PI w pre W' := by
  have hr2 : ∀ r, row = some r → ∃ o : Obj, W.heap[r]? = some o ∧ o.isCells = false := fun r e => (hr r e).2
  obtain ⟨v, hv, ho⟩ := h.row
  exact { good := h.good, row := ⟨v, cell_kept hv hg hr2, World.ownsRow.kept ho hg (ownI_apart ho hr2)⟩, bf := (frozen_kept hv hg hr2).trans h.bf,
          c0 := cell_kept h.c0 hg hr2, c1 := cell_kept h.c1 hg hr2, f0 := (frozen_kept h.c0 hg hr2).trans h.f0, f1 := (frozen_kept h.c1 hg hr2).trans h.f1,
          below := h.below.grown hg (by have := h.size; omega) (fun k e => by have := (hr k e).1; omega), size := Nat.le_trans h.size hg.size }
theorem px_grown {w W W' : World} {c : Code} {pre : List (Rec × Int)} {row : Option Nat} (h : PX w c pre W) (hg : W.grownBy W' row) (hr : ∀ r, row = some r → w.heap.size + 3 ≤ r ∧ ∃ o : Obj, W.heap[r]? = some o ∧ o.isCells = false) : PX w c pre W' := by
  have hr2 : ∀ r, row = some r → ∃ o : Obj, W.heap[r]? = some o ∧ o.isCells = false := fun r e => (hr r e).2
  obtain ⟨h1, ⟨pr, x, e, hx, c0, c1⟩, hb⟩ := h
  exact ⟨h1, ⟨pr, x, e, hx, cell_kept c0 hg hr2, cell_kept c1 hg hr2⟩, hb.grown hg hb.size (fun k e => by have := (hr k e).1; omega)⟩
theorem pi_alloc {w W : World} {pre : List (Rec × Int)} (h : PI w pre W) (o : Obj) : PI w pre (W.alloc o) := pi_grown h (World.grownBy_alloc W o none) (fun r e => by cases e)
/-- The row has grown by one item, and its box holds it. -/
theorem pi_append {w W w1 : World} {pre : List (Rec × Int)} {r : Rec} {v v' : Value} {tmp : Obj} {s : ByteArray} (h : PI w pre W) (hv : W.cell? ⟨w.heap.size + 1, 0, none⟩ = some v) (ho : OwnI W (w.heap.size + 3) v (pre.map (·.1)))
    (ho' : OwnI w1 (w.heap.size + 3) v' (pre.map (·.1) ++ [r])) (hg : (W.alloc tmp).grownBy w1 v.ownBlock) :
    w1.cell? ⟨w.heap.size + 1, 0, none⟩ = some v ∧ w1.frozen? ⟨w.heap.size + 1, 0, none⟩ = false ∧ PI w (pre ++ [(r, 0)]) (w1.setCell ⟨w.heap.size + 1, 0, none⟩ v') ∧ KeepT w.heap.size (w.heap.size + 2) s W (w1.setCell ⟨w.heap.size + 1, 0, none⟩ v') ∧ KeepsFrom (w.heap.size + 3) W (w1.setCell ⟨w.heap.size + 1, 0, none⟩ v') := by
  have hA := pi_alloc h tmp
  have hge : ∀ q, v.ownBlock = some q → w.heap.size + 3 ≤ q := fun q hq => own_geI ho q hq
  have kc : ∀ (b o : Nat) (u : Value), b < w.heap.size + 3 → (W.alloc tmp).cell? ⟨b, o, none⟩ = some u → w1.cell? ⟨b, o, none⟩ = some u := fun b o u hb hu => hg.cell hu (fun e => by have := hge b e.symm; omega)
  have kf : ∀ (b o : Nat) (u : Value), b < w.heap.size + 3 → (W.alloc tmp).cell? ⟨b, o, none⟩ = some u → w1.frozen? ⟨b, o, none⟩ = (W.alloc tmp).frozen? ⟨b, o, none⟩ := fun b o u hb hu => World.frozen?_of_block (hg.block b (block_lt_of_cell hu) (fun e => by have := hge b e.symm; omega))
  have hvA : (W.alloc tmp).cell? ⟨w.heap.size + 1, 0, none⟩ = some v := f_keepA tmp hv
  have c1b := kc (w.heap.size + 1) 0 v (by omega) hvA
  have f1b := (kf (w.heap.size + 1) 0 v (by omega) hvA).trans hA.bf
  have ne : ∀ (b o : Nat), b ≠ w.heap.size + 1 → (⟨w.heap.size + 1, 0, none⟩ : Addr) ≠ ⟨b, o, none⟩ := fun b o hb e => hb (congrArg Addr.block e).symm
  have hz : w.heap.size + 3 ≤ (W.alloc tmp).heap.size := hA.size
  have bw : Below w.heap.size w w1 := hA.below.grown hg (by omega) (fun q hq => by have := hge q hq; omega)
  have bW : Below w.heap.size W w1 := ((Below.refl _ W).alloc (by have := h.size; omega) tmp).grown hg (by omega) (fun q hq => by have := hge q hq; omega)
  refine ⟨c1b, f1b, ?_, ⟨bW.setCell (p := ⟨w.heap.size + 1, 0, none⟩) (Nat.le_succ _) _, fun hc => ?_⟩, ?_⟩
  · refine { good := fun x hx => ?_, row := ⟨v', World.cell?_setCell_same _ _ _ c1b, ?_⟩, bf := by rw [World.frozen?_setCell]; exact f1b, c0 := ?_, c1 := ?_, f0 := ?_, f1 := ?_, below := bw.setCell (p := ⟨w.heap.size + 1, 0, none⟩) (Nat.le_succ _) _, size := ?_ }
    · rcases List.mem_append.1 hx with hx | hx
      · exact h.good x hx
      · simp at hx; rw [hx]
    · rw [List.map_append]
      refine World.ownsRow.kept ho' (grownBy_setCell' w1 (w.heap.size + 1) v') ?_
      cases hb : v'.ownBlock with
      | none => exact .inl rfl
      | some q => exact .inr (fun e => by have := own_geI ho' q hb; have := Option.some.inj e; omega)
    · rw [World.cell?_setCell_other _ _ _ _ (ne _ _ (by omega))]; exact kc _ _ _ (by omega) hA.c0
    · rw [World.cell?_setCell_other _ _ _ _ (ne _ _ (by omega))]; exact kc _ _ _ (by omega) hA.c1
    · rw [World.frozen?_setCell]; exact (kf _ _ _ (by omega) hA.c0).trans hA.f0
    · rw [World.frozen?_setCell]; exact (kf _ _ _ (by omega) hA.c1).trans hA.f1
    · have := hg.size
      simp at this ⊢
      have := h.size
      omega
  · rw [World.cell?_setCell_other _ _ _ _ (ne _ _ (by omega))]
    exact kc _ _ _ (by omega) (f_keepA tmp hc)
  · refine (((KeepsOthers.alloc W tmp).trans (KeepsOthers.of_grownBy hg fun j o ej hj => ?_)).trans (KeepsOthers.setCell _ _ _)).from _
    obtain ⟨_, hn | ⟨g, c, cur, rfl, _, hh, _⟩⟩ := World.ownsRow.alloc ho tmp
    · rw [hn.1] at ej; cases ej
    · simp only [Value.ownBlock, Option.some.injEq] at ej
      subst ej
      rw [hh] at hj
      obtain rfl := Option.some.inj hj
      rfl
end Go.Proofs.YtbandckkgdnlpaaDoor
/-
  What ParseItems answers: the loop.
-/
namespace Go.Proofs.YtbandckkgdnlpaaDoor
open Go.ChangeShapes Go.WideShapes Go.ChangeAt Go.RowKit Go.Shelf
attribute [local go_sem] Oper.semAt_some
def ParseOut (s : ByteArray) (base : Nat) (e : Ending) (w : World) : Prop := ∃ v, e = .returned (.agg #[.int .i64 (parseC s), v]) ∧ OwnI w base v (parseL s)
theorem ParseOut.mk {s : ByteArray} {base : Nat} {w : World} {v : Value} {c : Int} {L : List Rec} (h : parseC s = c ∧ parseL s = L) (ho : OwnI w base v L) : ParseOut s base (.returned (.agg #[.int .i64 c, v])) w := ⟨v, by rw [h.1], by rw [h.2]; exact ho⟩
theorem own_set {W : World} {base b o : Nat} {v u : Value} {l : List Rec} (h : OwnI W base v l) (hb : b < base) : OwnI (W.setCell ⟨b, o, none⟩ u) base v l := by
  obtain ⟨h1, h2⟩ := h
  refine ⟨h1, ?_⟩
  rcases h2 with h2 | ⟨g, c, cur, e, hg, hh, hrest⟩
  · exact .inl h2
  · exact .inr ⟨g, c, cur, e, hg, by rw [Below.heap_setCell _ _ _ g (fun e => by simp only at e; omega)]; exact hh, hrest⟩
/-- Behind the loop, at the function's end: what its result's room holds. -/
theorem parse_end {w W2 : World} {D : Nat} {c : Int} {v : Value} {s : ByteArray} {L : List Rec} (hD : w.heap.size + 3 ≤ D) (hK : W2.heap[D]? = some (.deferred (some []))) (q0 : W2.cell? ⟨w.heap.size, 0, none⟩ = some (.int .i64 c)) (q1 : W2.cell? ⟨w.heap.size, 1, none⟩ = some v)
    (hb : Below w.heap.size w W2) (ho : OwnI W2 (w.heap.size + 3) v L) (hY : parseC s = c ∧ parseL s = L) :
    (W2.putObj D (.deferred none)).cell? ⟨w.heap.size, 0, none⟩ = some (.int .i64 c) ∧ (W2.putObj D (.deferred none)).cell? ⟨w.heap.size, 1, none⟩ = some v ∧ ParseOut s w.heap.size (.returned (.agg #[.int .i64 c, v])) (W2.putObj D (.deferred none)) ∧ Below w.heap.size w (W2.putObj D (.deferred none)) := by
  have hr : ∀ r, some D = some r → ∃ o : Obj, W2.heap[r]? = some o ∧ o.isCells = false := fun r e => by cases e; exact ⟨_, hK, rfl⟩
  refine ⟨cell_kept q0 (grownBy_putObj' W2 D _) hr, cell_kept q1 (grownBy_putObj' W2 D _) hr, ParseOut.mk hY ?_, hb.trans (belowK_b (w := w) (Nat.le_refl _) W2 D _ _ (by omega) hK rfl rfl)⟩
  have h1 : OwnI (W2.putObj D (.deferred none)) (w.heap.size + 3) v L := ownsRow_putObj ho _ hK rfl
  exact h1.lower (by omega)
theorem cell_one (X : World) (v : Value) (t : TypeId) : (X.alloc (.cells #[v] t)).cell? ⟨X.heap.size, 0, none⟩ = some v := by simp
theorem fr_keepA {W : World} {p : Addr} {v : Value} (o : Obj) (h : W.cell? p = some v) : (W.alloc o).frozen? p = W.frozen? p := ((Below.refl _ W).alloc (Nat.le_refl _) o).frozen (block_lt_of_cell h)
theorem cells3_new (w : World) (a b c : Value) (t : TypeId) : ∀ (j : Nat) u, ([a, b, c] : List Value)[j]? = some u → (w.alloc (.cells #[a, b, c] t)).cell? ((⟨w.heap.size, 0, none⟩ : Addr).add j) = some u := by
  intro j u hj
  match j, hj with
  | 0, hj => simp at hj; subst hj; simp [Addr.add]
  | 1, hj => simp at hj; subst hj; simp [Addr.add]
  | 2, hj => simp at hj; subst hj; simp [Addr.add]
theorem recsW_snoc (l : List Rec) (n : ByteArray) (h : Bool) (v : ByteArray) : recsW (l ++ [⟨n, h, v⟩]) = recsW l ++ [.string n, .bool h, .string v] := by simp [recsW, recW]
def actX (w : World) (s : ByteArray) (x : Rec × Int) (Bx : Nat) : Act := { tmps := #[.string s, undef, .pointer (some ⟨w.heap.size, 0, none⟩), .pointer (some ⟨w.heap.size + 1, 0, none⟩), .pointer (some ⟨Bx, 0, none⟩), .int .i64 x.2, .string s, .int .i64 s.size, .bool false, undef, .string s, .func (.func 85) #[] #[.pointer (some ⟨w.heap.size + 1 + 1, 0, none⟩)], .agg #[.string x.1.name, .bool x.1.has, .string x.1.value], .int .i64 x.2, undef, undef, undef, undef, undef, undef, undef, undef, undef, undef, undef, undef, undef, undef], defers := [] }
set_option maxRecDepth 100000 in
set_option maxHeartbeats 8000000 in
theorem implParse_loop (s : ByteArray) (w : World) (hs : s.size ≤ 1000) (hset : SetIs w) :
    Calls Tryd.prog 52 #[.string s] w fun e w' => ParseOut s w.heap.size e w' ∧ Below w.heap.size w w' := by
  have g : ¬ (1000 : Int) < s.size := by omega
  have hG : 0 < w.heap.size := by
    obtain ⟨cs, tt, fr, hg, _⟩ := hset
    exact (Array.getElem?_eq_some_iff.1 hg).1
  obtain ⟨i0, hi, hz0, hz1, hz2⟩ := info_parts infoItem
  refine (callsIn_wide (n := 3)).1 ?_
  refine callsIn_of_wp_marks Tryd.func52 rfl trivial ?_ rfl
  simp only [Tryd.ntmps52, List.size_toArray, List.length_cons, List.length_nil, Nat.reduceAdd, Nat.reduceSub, Array.replicate_succ, Array.replicate_zero, List.push_toArray, List.append_toArray, List.nil_append, List.cons_append]
  gi_wp2_with (refine ⟨trivial, ?_⟩; gi_at_call 68; refine (callsIn_wide.2 (itemsOf_any s _)).mono ?_; rintro e w' ⟨rfl, rfl⟩)
  have hb0 : Below w.heap.size w (((w.alloc (.cells #[.int .i64 0, .slice none 0 0] 59)).alloc (.cells #[.slice none 0 0] 57)).alloc (.cells #[.string s] 9)) := (((Below.refl _ w).alloc (Nat.le_refl _) _).alloc (by simp) _).alloc (by simp; omega) _
  have hsz : (((w.alloc (.cells #[.int .i64 0, .slice none 0 0] 59)).alloc (.cells #[.slice none 0 0] 57)).alloc (.cells #[.string s] 9)).heap.size = w.heap.size + 3 := by simp
  have hpi : PI w [] (((w.alloc (.cells #[.int .i64 0, .slice none 0 0] 59)).alloc (.cells #[.slice none 0 0] 57)).alloc (.cells #[.string s] 9)) := by
    have e1 := World.size_alloc w (.cells #[.int .i64 0, .slice none 0 0] 59)
    have b1 : ((w.alloc (.cells #[.int .i64 0, .slice none 0 0] 59)).alloc (.cells #[.slice none 0 0] 57)).cell? ⟨w.heap.size + 1, 0, none⟩ = some (.slice none 0 0) := by rw [← e1]; simp
    have b2 : ((w.alloc (.cells #[.int .i64 0, .slice none 0 0] 59)).alloc (.cells #[.slice none 0 0] 57)).frozen? ⟨w.heap.size + 1, 0, none⟩ = false := by rw [← e1]; simp
    have k := (Below.refl _ ((w.alloc (.cells #[.int .i64 0, .slice none 0 0] 59)).alloc (.cells #[.slice none 0 0] 57))).alloc (Nat.le_refl _) (.cells #[.string s] 9)
    have a0 : (w.alloc (.cells #[.int .i64 0, .slice none 0 0] 59)).cell? ⟨w.heap.size, 0, none⟩ = some (.int .i64 0) := by simp
    have a1 : (w.alloc (.cells #[.int .i64 0, .slice none 0 0] 59)).cell? ⟨w.heap.size, 1, none⟩ = some (.slice none 0 0) := by simp
    have z0 : (w.alloc (.cells #[.int .i64 0, .slice none 0 0] 59)).frozen? ⟨w.heap.size, 0, none⟩ = false := by simp
    have z1 : (w.alloc (.cells #[.int .i64 0, .slice none 0 0] 59)).frozen? ⟨w.heap.size, 1, none⟩ = false := by simp
    refine { good := fun x hx => by simp at hx, row := ⟨.slice none 0 0, f_keepA _ b1, OwnI.nil _ _⟩, bf := ?_, c0 := f_keepA _ (f_keepA _ a0), c1 := f_keepA _ (f_keepA _ a1), f0 := (fr_keepA _ (f_keepA _ a0)).trans ((fr_keepA _ a0).trans z0), f1 := (fr_keepA _ (f_keepA _ a1)).trans ((fr_keepA _ a1).trans z1), below := hb0, size := by rw [hsz]; omega }
    rw [k.frozen (block_lt_of_cell b1)]; exact b2
  have hct : (((w.alloc (.cells #[.int .i64 0, .slice none 0 0] 59)).alloc (.cells #[.slice none 0 0] 57)).alloc (.cells #[.string s] 9)).cell? ⟨w.heap.size + 2, 0, none⟩ = some (.string s) := by
    have e1 : ((w.alloc (.cells #[.int .i64 0, .slice none 0 0] 59)).alloc (.cells #[.slice none 0 0] 57)).heap.size = w.heap.size + 2 := by simp
    have hc := cell_one ((w.alloc (.cells #[.int .i64 0, .slice none 0 0] 59)).alloc (.cells #[.slice none 0 0] 57)) (.string s) 9
    rw [e1] at hc
    exact hc
  obtain ⟨W0, hW0⟩ : ∃ W0, (((w.alloc (.cells #[.int .i64 0, .slice none 0 0] 59)).alloc (.cells #[.slice none 0 0] 57)).alloc (.cells #[.string s] 9)) = W0 := ⟨_, rfl⟩
  rw [hW0] at hb0 hsz hpi hct ⊢
  clear hW0
  have hset0 : SetIs W0 := hset.below hb0
  refine wpIn_rangeFunc_ownH rfl (by omega) (gf := 85) (lb := #[.pointer (some ⟨w.heap.size + 2, 0, none⟩)]) rfl trivial (enters_of Tryd.func85 (by kernel_rfl) rfl)
    (tell_stops 2 (by omega) (w.heap.size + 2) w.heap.size s hs hG W0 (by omega) hct hset0) keepT_t (keepT_b (by omega)) (Below.refl _ _) (fun _ => rfl)
    (fun pre W => PI w pre W) (fun c pre W => PX w c pre W)
    (fun pre W W' row h hg hr => pi_grown h hg (fun r e => by have := hr r e; rw [hsz] at this; exact this))
    (fun c pre W W' row h hg hr => px_grown h hg (fun r e => by have := hr r e; rw [hsz] at this; exact this))
    hpi
    (fun x a' W => ∃ Bx, w.heap.size + 3 ≤ Bx ∧ (W.cell? ⟨Bx, 0, none⟩ = some (.string x.1.name) ∧ W.cell? ⟨Bx, 1, none⟩ = some (.bool x.1.has) ∧ W.cell? ⟨Bx, 2, none⟩ = some (.string x.1.value)) ∧ a' = actX w s x Bx)
    (fun x a' _ W W' row h hg hr => by
      obtain ⟨Bx, h1, ⟨h2, h3, h4⟩, h5⟩ := h
      exact ⟨Bx, h1, ⟨cell_kept h2 hg (fun r e => (hr r e).2), cell_kept h3 hg (fun r e => (hr r e).2), cell_kept h4 hg (fun r e => (hr r e).2)⟩, h5⟩)
    ?assign ?body ?done ?stop
  case assign =>
    rintro l pre x W K hI hK
    have HK := hK (actX w s x W.heap.size) (W.alloc (.cells #[.string x.1.name, .bool x.1.has, .string x.1.value] 62)) ((KeepsOthers.alloc _ _).from _) ⟨(Below.refl _ W).alloc (by have := hI.size; omega) _, fun h => f_keepA _ h⟩ (pi_alloc hI _) ⟨W.heap.size, hI.size, ⟨by simp, by simp, by simp⟩, rfl⟩
    clear hK
    unfold actX at HK
    simp only [encX]
    gi_wp2
    exact HK
  case body =>
    rintro l pre x a' W hl hrec hI ⟨Bx, hBx, ⟨x0, x1, x2⟩, rfl⟩ hlt
    unfold actX
    rw [hsz]
    obtain ⟨⟨rn, rh, rv⟩, rc⟩ := x
    simp only at x0 x1 x2 ⊢
    obtain ⟨v, hv, ho⟩ := hI.row
    have hlen : (pre.map (·.1)).length < 1002 := by rw [List.length_map]; exact hlt
    have HI : Hid (PI w pre W) := hI
    have hzW := hI.size
    by_cases c0 : rc = 0
    · subst c0
      have hgo : ∀ (v' : Value) (w1 : World), OwnI w1 (w.heap.size + 3) v' (pre.map (·.1) ++ [⟨rn, rh, rv⟩]) → (W.alloc (.cells #[.string rn, .bool rh, .string rv] 62)).grownBy w1 v.ownBlock → _ := fun v' w1 ho' hg => pi_append (s := s) HI.out hv ho ho' hg
      have HGO : Hid (∀ (v' : Value) (w1 : World), OwnI w1 (w.heap.size + 3) v' (pre.map (·.1) ++ [⟨rn, rh, rv⟩]) → (W.alloc (.cells #[.string rn, .bool rh, .string rv] 62)).grownBy w1 v.ownBlock → w1.cell? ⟨w.heap.size + 1, 0, none⟩ = some v ∧ w1.frozen? ⟨w.heap.size + 1, 0, none⟩ = false ∧ PI w (pre ++ [(⟨rn, rh, rv⟩, 0)]) (w1.setCell ⟨w.heap.size + 1, 0, none⟩ v') ∧ KeepT w.heap.size (w.heap.size + 2) s W (w1.setCell ⟨w.heap.size + 1, 0, none⟩ v') ∧ KeepsFrom (w.heap.size + 3) W (w1.setCell ⟨w.heap.size + 1, 0, none⟩ v')) := hgo
      have HO : Hid (OwnI W (w.heap.size + 3) v (pre.map (·.1))) := ho
      clear hgo ho hI
      gi_wp2_with (gi_at_builtin; refine wpListIn_append_own _ rfl _ _ 57 rfl (w.heap.size + 3) 62 i0 (.agg #[.string ⟨#[]⟩, .bool false, .string ⟨#[]⟩]) 3 40 Tryd.underlying57 hi hz0 hz1 hz2 rfl (by decide) v (pre.map (·.1)).length (recsW (pre.map (·.1))) rfl (World.ownsRow.alloc HO.out _) ⟨W.heap.size, 0, none⟩ 1 1 [.string rn, .bool rh, .string rv] rfl rfl (cells3_new _ _ _ _ _) (by simp [Value.oneCell']) (by unfold maxLen; omega) (by omega) (by simp; omega) ?_; intro v' w1 hown' hgrow _; obtain ⟨g', cap', hg'⟩ := ownsRow_succ hown'; obtain ⟨hc1, hf1, hp1, hk1, hkf1⟩ := HGO.out v' w1 (by unfold OwnI; rw [recsW_snoc, List.length_append]; exact hown') hgrow; subst hg')
      rw [List.length_map] at hkf1 hk1 hp1
      exact ⟨hkf1, hk1, hp1⟩
    · have e0 : (rc != 0) = true := by simpa using c0
      have hc0 := hI.c0
      have hc1 := hI.c1
      have hf0 := hI.f0
      have hf1 := hI.f1
      obtain ⟨q0, q1⟩ := two_set (v0 := .int .i64 rc) (v1 := .slice none 0 0) hc0 hc1
      have HX : Hid (PX w .ret (pre ++ [(⟨rn, rh, rv⟩, rc)]) ((W.setCell ⟨w.heap.size, 0, none⟩ (.int .i64 rc)).setCell ⟨w.heap.size, 1, none⟩ (.slice none 0 0))) := ⟨rfl, ⟨pre, _, rfl, c0, q0, q1⟩, (hI.below.setCell (p := ⟨w.heap.size, 0, none⟩) (Nat.le_refl _) _).setCell (p := ⟨w.heap.size, 1, none⟩) (Nat.le_refl _) _⟩
      clear ho hI q0 q1
      gi_wp2
      exact ⟨((KeepsOthers.setCell _ _ _).trans (KeepsOthers.setCell _ _ _)).from _, HX.out⟩
  case done =>
    rintro D ys W hD hS hI hK
    rw [hsz] at hD
    obtain ⟨v, hv, ho⟩ := hI.row
    have hrd : readP (pcs false [] s.data.toList) = some (ys.map (·.1)) := readP_all _ _ hS hI.good
    obtain ⟨va, vc, rfl, _⟩ := ho.at
    have hc0 := hI.c0
    have hc1 := hI.c1
    have hf0 := hI.f0
    have hf1 := hI.f1
    have hbW := hI.below
    have HO : Hid (OwnI W (w.heap.size + 3) (.slice va (ys.map (·.1)).length vc) (ys.map (·.1))) := ho
    have hnl : (ys.map (·.1)).length ≤ 1000000 := by
      rw [List.length_map, ← tells_len hS]
      have h1 := trims_len (pcs false [] s.data.toList)
      have h2 := (pcs_small s.data.toList.length s.data.toList false [] (Nat.le_refl _)).2
      rw [size_list] at h2
      omega
    by_cases hbig : 20 < (ys.map (·.1)).length
    · have HY : Hid (parseC s = 2 ∧ parseL s = []) := parse_many (by omega) hrd hbig
      have gb : (20 : Int) < ((ys.map (·.1)).length : Int) := by omega
      clear hrd hS hI ho
      generalize ys.map (·.1) = L at *
      obtain ⟨q0, q1⟩ := two_set (v0 := .int .i64 2) (v1 := .slice none 0 0) hc0 hc1
      have hK2 := ((KeepsOthers.setCell W ⟨w.heap.size, 0, none⟩ (.int .i64 2)).trans (KeepsOthers.setCell _ ⟨w.heap.size, 1, none⟩ (.slice none 0 0))).same D _ hK rfl
      obtain ⟨r0, r1, r2, r3⟩ := parse_end hD hK2 q0 q1 ((hbW.setCell (p := ⟨w.heap.size, 0, none⟩) (Nat.le_refl _) _).setCell (p := ⟨w.heap.size, 1, none⟩) (Nat.le_refl _) _) (OwnI.nil _ _) HY.out
      have RR : Hid (ParseOut s w.heap.size (.returned (.agg #[.int .i64 2, .slice none 0 0])) _ ∧ Below w.heap.size w _) := ⟨r2, r3⟩
      clear r2 r3
      gi_wp2
      refine ⟨by simp, .inl ⟨_, _, rfl, run_takeDeferred hK2, ?_⟩⟩
      exact ⟨.agg #[.int .i64 2, .slice none 0 0], by simp [results, Tryd.results52, go_sem, r0, r1], RR.out⟩
    · have HY : Hid (parseC s = 0 ∧ parseL s = ys.map (·.1)) := parse_ok (by omega) hrd hbig
      have gb : ¬ (20 : Int) < ((ys.map (·.1)).length : Int) := by omega
      clear hrd hS hI ho
      generalize ys.map (·.1) = L at *
      obtain ⟨q0, q1⟩ := two_set (v0 := .int .i64 0) (v1 := .slice va L.length vc) hc0 hc1
      have hK2 := ((KeepsOthers.setCell W ⟨w.heap.size, 0, none⟩ (.int .i64 0)).trans (KeepsOthers.setCell _ ⟨w.heap.size, 1, none⟩ (.slice va L.length vc))).same D _ hK rfl
      obtain ⟨r0, r1, r2, r3⟩ := parse_end hD hK2 q0 q1 ((hbW.setCell (p := ⟨w.heap.size, 0, none⟩) (Nat.le_refl _) _).setCell (p := ⟨w.heap.size, 1, none⟩) (Nat.le_refl _) _) (own_set (own_set HO.out (by omega)) (by omega)) HY.out
      have RR : Hid (ParseOut s w.heap.size (.returned (.agg #[.int .i64 0, .slice va L.length vc])) _ ∧ Below w.heap.size w _) := ⟨r2, r3⟩
      clear r2 r3
      gi_wp2
      refine ⟨by simp, .inl ⟨_, _, rfl, run_takeDeferred hK2, ?_⟩⟩
      exact ⟨.agg #[.int .i64 0, .slice va L.length vc], by simp [results, Tryd.results52, go_sem, r0, r1], RR.out⟩
  case stop =>
    rintro D c pre W hD ⟨d, hd, ht⟩ ⟨rfl, ⟨pr, x, rfl, hx, q0, q1⟩, hbW⟩ hK
    rw [hsz] at hD
    obtain ⟨t, htd, htx⟩ := tells_last ht
    have hx5 : x.2 = 5 ∧ readR t = none := by
      rcases htx with h | h
      · exact absurd h.1 hx
      · exact h
    have hrd : readP (pcs false [] s.data.toList) = none := readP_none _ t (hd.subset htd) hx5.2
    have HY : Hid (parseC s = 5 ∧ parseL s = []) := parse_bad (by omega) hrd
    rw [hx5.1] at q0
    obtain ⟨r0, r1, r2, r3⟩ := parse_end hD hK q0 q1 hbW (OwnI.nil _ _) HY.out
    have RR : Hid (ParseOut s w.heap.size (.returned (.agg #[.int .i64 5, .slice none 0 0])) _ ∧ Below w.heap.size w _) := ⟨r2, r3⟩
    clear r2 r3
    gi_wp2
    refine ⟨by simp, .inl ⟨_, _, rfl, run_takeDeferred hK, ?_⟩⟩
    exact ⟨.agg #[.int .i64 5, .slice none 0 0], by simp [results, Tryd.results52, go_sem, r0, r1], RR.out⟩
end Go.Proofs.YtbandckkgdnlpaaDoor
/-
  markText: a text of its own for each number.
-/
namespace Go.Proofs.YtbandckkgdnlpaaDoor
open Go.ChangeShapes Go.WideShapes Go.ChangeAt Go.RowKit
def mkD (k : Nat) (o : ByteArray) : ByteArray := if _h : k = 0 then o else mkD (k / 10) ((⟨#[UInt8.ofNat (48 + k % 10)]⟩ : ByteArray) ++ o)
termination_by k
decreasing_by omega
theorem mkD_zero (o : ByteArray) : mkD 0 o = o := by rw [mkD]; simp
theorem mkD_more {k : Nat} (h : k ≠ 0) (o : ByteArray) : mkD k o = mkD (k / 10) ((⟨#[UInt8.ofNat (48 + k % 10)]⟩ : ByteArray) ++ o) := by rw [mkD, dif_neg h]
def mkT (k : Nat) : ByteArray := (⟨#[109]⟩ : ByteArray) ++ mkD k ⟨#[]⟩
theorem one_byteM (c : Int) (x : UInt8) (hx : (x.toNat : Int) = c) (W : World) (B cap : Nat) (hc : W.cell? ⟨B, 0, none⟩ = some (.int .u8 c)) :
    (convert 82 9 (.slice (some ⟨B, 0, none⟩) 1 cap)).run Tryd.prog W = .ok (.string ⟨#[x]⟩) W := by
  have := run_convert_bytes_back (P := Tryd.prog) W 82 9 5 ⟨B, 0, none⟩ cap [x] Tryd.underlying82 Tryd.underlying5 Tryd.underlying9 (fun j hj => by
    obtain rfl : j = 0 := by simp at hj; omega
    simp [Addr.add, hc, hx])
  simpa using this
set_option maxHeartbeats 2000000 in
theorem markText_any (k : Nat) (h0 : 1 ≤ k) (h1 : k ≤ 10000000) (w : World) :
    Calls Tryd.prog 39 #[.int .i64 (k : Int)] w fun e w' => e = .returned (.string (mkT k)) ∧ Below w.heap.size w w' := by
  have HT : Hid (mkT k = (⟨#[109]⟩ : ByteArray) ++ mkD k ⟨#[]⟩) := rfl
  have g : ¬ (k : Int) ≤ 0 := by omega
  go_enter Tryd.func39, Tryd.ntmps39
  go_wp2
  go_loopw [0, 3] (fun x v wr => ∃ (j : Nat) (o : ByteArray), j ≤ k ∧ x = .int .i64 (j : Int) ∧ v = .string o ∧ mkD k ⟨#[]⟩ = mkD j o ∧ o.size + j ≤ k ∧ Below w.heap.size w wr) (fun x _ _ => (intOf x).toNat)
  case atStart => exact ⟨k, ⟨#[]⟩, Nat.le_refl _, rfl, rfl, rfl, by simp [ByteArray.size], Below.refl _ _⟩
  case round =>
    obtain ⟨j, o, hj, rfl, rfl, he, hs, hb⟩ := hrel
    have HE : Hid (mkD k ⟨#[]⟩ = mkD j o) := he
    have KB : Hid (Below w.heap.size w wr) := hb
    clear he hb
    by_cases hj0 : j = 0
    · subst hj0
      have HX : Hid (mkD k ⟨#[]⟩ = o) := by show _ = _; rw [HE.out, mkD_zero]
      have zk : (⟨#[109]⟩ : ByteArray).size = 1 := rfl
      have hadd := fun w => run_string_add_sum (P := Tryd.prog) (w := w) (⟨#[109]⟩ : ByteArray) o (by omega)
      clear zk
      go_wp2_with fail
      go_ret
      exact ⟨ret_str (by rw [HT.out, HX.out]), KB.out⟩
    · have HX : Hid (mkD k ⟨#[]⟩ = mkD (j / 10) ((⟨#[UInt8.ofNat (48 + j % 10)]⟩ : ByteArray) ++ o)) := by show _ = _; rw [HE.out, mkD_more hj0]
      have hcv := one_byteM (48 + (j : Int) % 10) (UInt8.ofNat (48 + j % 10)) (by rw [UInt8.toNat_ofNat_of_lt' (by show 48 + j % 10 < 256; omega)]; omega)
      have zr : (⟨#[UInt8.ofNat (48 + j % 10)]⟩ : ByteArray).size = 1 := rfl
      generalize (⟨#[UInt8.ofNat (48 + j % 10)]⟩ : ByteArray) = r at *
      have zq : (r ++ o).size = 1 + o.size := by rw [ByteArray.size_append, zr]
      have hadd := fun w => run_string_add_sum (P := Tryd.prog) (w := w) r o (by omega)
      generalize r ++ o = q at *
      have g1 : (0 : Int) < (j : Int) := by omega
      have e2 : IntKind.u8.wrap (48 + (j : Int) % 10) = 48 + (j : Int) % 10 := by rw [IntKind.wrap_u8]; omega
      have hj9 : (j : Int) ≤ 10000000 := by omega
      go_wp2_with fail
      go_roundw
      case rel => exact ⟨j / 10, q, by omega, by go_num, rfl, HX.out, by omega, KB.out.alloc KB.out.size _⟩
      case measure => simp [intOf]; omega
end Go.Proofs.YtbandckkgdnlpaaDoor
/-
  All that was there, but for one block, is as it was.
-/
namespace Go.Proofs.YtbandckkgdnlpaaDoor
open Go.ChangeShapes Go.WideShapes Go.ChangeAt Go.RowKit
/-- All that was there, but for block B, is as it was. -/
structure Apart (B : Nat) (w w' : World) : Prop where
  size : w.heap.size ≤ w'.heap.size
  cell : ∀ b o, b < w.heap.size → b ≠ B → w'.cell? ⟨b, o, none⟩ = w.cell? ⟨b, o, none⟩
  frozen : ∀ b o, b < w.heap.size → b ≠ B → w'.frozen? ⟨b, o, none⟩ = w.frozen? ⟨b, o, none⟩
theorem Apart.refl (B : Nat) (w : World) : Apart B w w := ⟨Nat.le_refl _, fun _ _ _ _ => rfl, fun _ _ _ _ => rfl⟩
theorem Apart.trans {B : Nat} {w w1 w2 : World} (h : Apart B w w1) (k : Apart B w1 w2) : Apart B w w2 :=
  ⟨Nat.le_trans h.size k.size, fun b o hb hn => by rw [k.cell b o (Nat.lt_of_lt_of_le hb h.size) hn, h.cell b o hb hn], fun b o hb hn => by rw [k.frozen b o (Nat.lt_of_lt_of_le hb h.size) hn, h.frozen b o hb hn]⟩
theorem Apart.below {B : Nat} {w w' : World} (h : Below w.heap.size w w') : Apart B w w' :=
  ⟨h.size, fun b o hb _ => h.cell (p := ⟨b, o, none⟩) hb, fun b o hb _ => h.frozen (p := ⟨b, o, none⟩) hb⟩
theorem Apart.alloc (B : Nat) (w : World) (o : Obj) : Apart B w (w.alloc o) := .below ((Below.refl _ _).alloc (Nat.le_refl _) _)
theorem Apart.set (B o : Nat) (w : World) (v : Value) : Apart B w (w.setCell ⟨B, o, none⟩ v) := by
  refine ⟨by simp, fun b o' _ hn => ?_, fun b o' _ hn => ?_⟩
  · rw [World.cell?_setCell_other _ _ _ _ (by intro h; have := congrArg Addr.block h; simp at this; omega)]
  · rw [World.frozen?_setCell]
end Go.Proofs.YtbandckkgdnlpaaDoor
/-
  markItemS and heldItemS: marks laid into a list of items, and found again.
-/
namespace Go.Proofs.YtbandckkgdnlpaaDoor
open Go.ChangeShapes Go.WideShapes Go.ChangeAt Go.RowKit Go.Sort
def mkR (k : Nat) (j : Nat) : Rec := ⟨mkT (k + 3 * j), decide ((k + 3 * j + 1) % 3 = 0), mkT (k + 3 * j + 2)⟩
def mkL (k n : Nat) : List Rec := (List.range n).map (mkR k)
theorem mkL_len (k n : Nat) : (mkL k n).length = n := by simp [mkL]
theorem mkL_get {k n i : Nat} (h : i < n) : (mkL k n)[i]? = some (mkR k i) := by simp [mkL, h]
theorem cell_set_same {w : World} {g o : Nat} {u v : Value} (h : w.cell? ⟨g, o, none⟩ = some u) : (w.setCell ⟨g, o, none⟩ v).cell? ⟨g, o, none⟩ = some v := World.cell?_setCell_same _ _ _ h
theorem cell_set_off {w : World} {g o o' : Nat} {v : Value} (h : o ≠ o') : (w.setCell ⟨g, o', none⟩ v).cell? ⟨g, o, none⟩ = w.cell? ⟨g, o, none⟩ :=
  World.cell?_setCell_other _ _ _ _ (by intro e; have := congrArg Addr.off e; simp at this; omega)
/-- One field of one item written. -/
theorem put_name {w : World} {g off i : Nat} {L : List Rec} {r : Rec} (h : ItemsAt w g off L) (hr : L[i]? = some r) (n : ByteArray) :
    ItemsAt (w.setCell ⟨g, off + i * 3, none⟩ (.string n)) g off (L.set i { r with name := n }) := by
  intro j q hq
  by_cases e : j = i
  · subst e
    have hl := (List.getElem?_eq_some_iff.1 hr).1
    rw [List.getElem?_set_self hl] at hq
    obtain rfl := Option.some.inj hq
    obtain ⟨a, b, c⟩ := h j r hr
    exact ⟨cell_set_same a, by rw [cell_set_off (by omega)]; exact b, by rw [cell_set_off (by omega)]; exact c⟩
  · rw [List.getElem?_set_ne (fun k => e k.symm)] at hq
    obtain ⟨a, b, c⟩ := h j q hq
    exact ⟨by rw [cell_set_off (by omega)]; exact a, by rw [cell_set_off (by omega)]; exact b, by rw [cell_set_off (by omega)]; exact c⟩
theorem put_has {w : World} {g off i : Nat} {L : List Rec} {r : Rec} (h : ItemsAt w g off L) (hr : L[i]? = some r) (n : Bool) :
    ItemsAt (w.setCell ⟨g, off + i * 3 + 1, none⟩ (.bool n)) g off (L.set i { r with has := n }) := by
  intro j q hq
  by_cases e : j = i
  · subst e
    have hl := (List.getElem?_eq_some_iff.1 hr).1
    rw [List.getElem?_set_self hl] at hq
    obtain rfl := Option.some.inj hq
    obtain ⟨a, b, c⟩ := h j r hr
    exact ⟨by rw [cell_set_off (by omega)]; exact a, cell_set_same b, by rw [cell_set_off (by omega)]; exact c⟩
  · rw [List.getElem?_set_ne (fun k => e k.symm)] at hq
    obtain ⟨a, b, c⟩ := h j q hq
    exact ⟨by rw [cell_set_off (by omega)]; exact a, by rw [cell_set_off (by omega)]; exact b, by rw [cell_set_off (by omega)]; exact c⟩
theorem put_value {w : World} {g off i : Nat} {L : List Rec} {r : Rec} (h : ItemsAt w g off L) (hr : L[i]? = some r) (n : ByteArray) :
    ItemsAt (w.setCell ⟨g, off + i * 3 + 2, none⟩ (.string n)) g off (L.set i { r with value := n }) := by
  intro j q hq
  by_cases e : j = i
  · subst e
    have hl := (List.getElem?_eq_some_iff.1 hr).1
    rw [List.getElem?_set_self hl] at hq
    obtain rfl := Option.some.inj hq
    obtain ⟨a, b, c⟩ := h j r hr
    exact ⟨by rw [cell_set_off (by omega)]; exact a, by rw [cell_set_off (by omega)]; exact b, cell_set_same c⟩
  · rw [List.getElem?_set_ne (fun k => e k.symm)] at hq
    obtain ⟨a, b, c⟩ := h j q hq
    exact ⟨by rw [cell_set_off (by omega)]; exact a, by rw [cell_set_off (by omega)]; exact b, by rw [cell_set_off (by omega)]; exact c⟩
/-- The state of the marking loop: j items are marked. -/
structure Marked (w : World) (g off : Nat) (k n j : Nat) (L : List Rec) (W : World) : Prop where
  len : L.length = n
  done : ∀ i, i < j → L[i]? = some (mkR k i)
  items : ItemsAt W g off L
  thaw : ∀ o, W.frozen? ⟨g, o, none⟩ = false
  apart : Apart g w W
  low : Below g w W
  lt : g < W.heap.size
theorem Marked.below {w : World} {g off k n j : Nat} {L : List Rec} {W W' : World} (h : Marked w g off k n j L W) (hb : Below W.heap.size W W') : Marked w g off k n j L W' :=
  ⟨h.len, h.done, h.items.keep hb, fun o => by rw [hb.frozen (p := ⟨g, o, none⟩) h.lt, h.thaw], h.apart.trans (.below hb), h.low.trans (hb.mono (Nat.le_of_lt h.lt)), Nat.lt_of_lt_of_le h.lt hb.size⟩
theorem Marked.set {w : World} {g off k n j o : Nat} {L L' : List Rec} {W : World} {v : Value} (h : Marked w g off k n j L W) (hl : L'.length = L.length) (hd : ∀ i, i < j → L'[i]? = L[i]?) (hi : ItemsAt (W.setCell ⟨g, o, none⟩ v) g off L') : Marked w g off k n j L' (W.setCell ⟨g, o, none⟩ v) :=
  ⟨hl.trans h.len, fun i hi => (hd i hi).trans (h.done i hi), hi, fun o => by rw [World.frozen?_setCell, h.thaw], h.apart.trans (.set _ _ _ _), h.low.setCell (Nat.le_refl _) _, by simpa using h.lt⟩
end Go.Proofs.YtbandckkgdnlpaaDoor
/-
  markItemS and heldItemS.
-/
namespace Go.Proofs.YtbandckkgdnlpaaDoor
open Go.ChangeShapes Go.WideShapes Go.ChangeAt Go.RowKit Go.Sort
end Go.Proofs.YtbandckkgdnlpaaDoor
/-
  The laws' comparing of two lists of items that are alike.
-/
namespace Go.Proofs.YtbandckkgdnlpaaDoor
open Go.ChangeShapes Go.WideShapes Go.ChangeAt Go.RowKit Go.Sort
end Go.Proofs.YtbandckkgdnlpaaDoor
/-
  A list of items as a value: compared, marked, held.
-/
namespace Go.Proofs.YtbandckkgdnlpaaDoor
open Go.ChangeShapes Go.WideShapes Go.ChangeAt Go.RowKit Go.Sort
def LV (w : World) (v : Value) (l : List Rec) : Prop :=
  (v = .slice none 0 0 ∧ l = []) ∨ ∃ g cap, v = .slice (some ⟨g, 0, none⟩) l.length cap ∧ g < w.heap.size ∧ ItemsAt w g 0 l ∧ ∀ o, w.frozen? ⟨g, o, none⟩ = false
theorem OwnI.lv {w : World} {base : Nat} {v : Value} {l : List Rec} (h : OwnI w base v l) : LV w v l ∧ ∀ b, v.ownBlock = some b → base ≤ b := by
  have h0 := h
  obtain ⟨_, h1 | ⟨g, c, cur, rfl, hg, hh, _⟩⟩ := h
  · have e : l = [] := List.eq_nil_of_length_eq_zero h1.2
    exact ⟨.inl ⟨h1.1, e⟩, fun b hb => by rw [h1.1] at hb; cases hb⟩
  · refine ⟨.inr ⟨g, c, rfl, (Array.getElem?_eq_some_iff.1 hh).1, ?_, fun o => ?_⟩, fun b hb => ?_⟩
    · obtain ⟨a, c', e, hi⟩ := h0.at
      rcases hi with rfl | ⟨b, off, rfl, hat⟩
      · intro i r hr; simp at hr
      · simp only [Value.slice.injEq, Option.some.injEq] at e
        obtain ⟨e, _⟩ := e
        have e1 := congrArg Addr.block e
        have e2 := congrArg Addr.off e
        simp only at e1 e2
        rw [e1, e2]
        exact hat
    · simp [World.frozen?, hh]
    · simp only [Value.ownBlock, Option.some.injEq] at hb; omega
theorem LV.below {w w' : World} {v : Value} {l : List Rec} (h : LV w v l) (hb : Below w.heap.size w w') : LV w' v l := by
  rcases h with h | ⟨g, c, e, hg, hi, hf⟩
  · exact .inl h
  · exact .inr ⟨g, c, e, Nat.lt_of_lt_of_le hg hb.size, hi.keep hb, fun o => by rw [hb.frozen (p := ⟨g, o, none⟩) hg, hf]⟩
/-- All that was there, but for the memory of v, is as it was. -/
structure AV (v : Value) (w w' : World) : Prop where
  size : w.heap.size ≤ w'.heap.size
  cell : ∀ b o, b < w.heap.size → v.ownBlock ≠ some b → w'.cell? ⟨b, o, none⟩ = w.cell? ⟨b, o, none⟩
  frozen : ∀ b o, b < w.heap.size → v.ownBlock ≠ some b → w'.frozen? ⟨b, o, none⟩ = w.frozen? ⟨b, o, none⟩
theorem AV.below {v : Value} {w w' : World} (h : Below w.heap.size w w') : AV v w w' :=
  ⟨h.size, fun b o hb _ => h.cell (p := ⟨b, o, none⟩) hb, fun b o hb _ => h.frozen (p := ⟨b, o, none⟩) hb⟩
theorem LV.av {w w' : World} {v v1 : Value} {l : List Rec} (h : LV w v1 l) (k : AV v w w') (hne : ∀ b, v1.ownBlock = some b → v.ownBlock ≠ some b) : LV w' v1 l := by
  rcases h with h | ⟨g, c, rfl, hg, hi, hf⟩
  · exact .inl h
  · have hn := hne g rfl
    exact .inr ⟨g, c, rfl, Nat.lt_of_lt_of_le hg k.size, fun i r hr => by rw [k.cell g _ hg hn, k.cell g _ hg hn, k.cell g _ hg hn]; exact hi i r hr, fun o => by rw [k.frozen g o hg hn, hf]⟩
end Go.Proofs.YtbandckkgdnlpaaDoor
/-
  ParseItems on both sides, for every text.
-/
namespace Go.Proofs.YtbandckkgdnlpaaDoor
open Go.ChangeShapes Go.WideShapes Go.ChangeAt Go.RowKit Go.Sort
theorem parseL_len (s : ByteArray) : (parseL s).length ≤ 20 := by
  unfold parseL
  split
  · simp
  · split
    · simp
    · split
      · simp
      · omega
set_option maxHeartbeats 1000000 in
theorem specParse_fn (s : ByteArray) (w : World) :
    Calls Tryd.prog 65 #[.string s] w fun e w' => ParseOut s w.heap.size e w' ∧ Below w.heap.size w w' := by
  by_cases hs : 1000 < s.size
  · have hh : (1000 : Int) < s.size := by omega
    have HL : Hid (parseC s = 2 ∧ parseL s = []) := parse_long hs
    go_enter Tryd.func65, Tryd.ntmps65
    go_wp2
    exact bodyPost_ret (v := .agg #[.int .i64 2, .slice none 0 0]) (by simp [results, Tryd.results65, go_sem]) rfl ⟨ParseOut.mk HL.out (OwnI.nil _ _), (Below.refl _ _).alloc (Nat.le_refl _) _⟩
  have hh : ¬ (1000 : Int) < s.size := by omega
  have HP : Hid (∀ W, Calls Tryd.prog 84 #[.string s] W fun e w' => ParseRes s W.heap.size e w' ∧ Below W.heap.size W w') := fun W => l2Parse_any s W hs
  clear hs
  go_enter Tryd.func65, Tryd.ntmps65
  go_wp2_with fail
  refine (HP.out _).mono ?_
  rintro e w1 ⟨⟨v, rfl, ho⟩, hb⟩
  have p0 : w1.cell? ⟨w.heap.size, 0, none⟩ = some (.int .i64 0) := by rw [hb.cell (p := ⟨w.heap.size, 0, none⟩) (by simp)]; simp
  have p1 : w1.cell? ⟨w.heap.size, 1, none⟩ = some (.slice none 0 0) := by rw [hb.cell (p := ⟨w.heap.size, 1, none⟩) (by simp)]; simp
  have f0 : w1.frozen? ⟨w.heap.size, 0, none⟩ = false := by rw [hb.frozen (p := ⟨w.heap.size, 0, none⟩) (by simp)]; simp
  have f1 : w1.frozen? ⟨w.heap.size, 1, none⟩ = false := by rw [hb.frozen (p := ⟨w.heap.size, 1, none⟩) (by simp)]; simp
  have KB : Hid (Below w.heap.size w w1) := ((Below.refl _ _).alloc (Nat.le_refl _) _).trans (hb.mono (by simp))
  have ho2 : OwnI w1 (w.heap.size + 1) v (parseL s) := by simpa using ho
  obtain ⟨va, vc, hv, _⟩ := ho2.at
  generalize hn : (parseL s).length = vn at hv
  subst hv
  have KO : Hid (OwnI w1 (w.heap.size + 1) (.slice va vn vc) (parseL s)) := ho2
  clear hb ho HP ho2 hn
  obtain ⟨c, hc⟩ : ∃ c, Hid (parseC s = c) := ⟨_, rfl⟩
  rw [hc.out]
  obtain ⟨q0, q1⟩ := two_set (v0 := .int .i64 c) (v1 := .slice va vn vc) p0 p1
  go_wp2_with fail
  refine bodyPost_ret (v := .agg #[.int .i64 c, .slice va vn vc]) (by simp [results, Tryd.results65, go_sem, q0, q1]) rfl ⟨ParseOut.mk ⟨hc.out, rfl⟩ ?_, (KB.out.setCell (Nat.le_refl _) _).setCell (Nat.le_refl _) _⟩
  exact ((own_set (own_set KO.out (Nat.lt_succ_self _)) (Nat.lt_succ_self _))).lower (Nat.le_succ _)
set_option maxHeartbeats 1000000 in
theorem implParse_fn (s : ByteArray) (w : World) (hset : SetIs w) :
    Calls Tryd.prog 52 #[.string s] w fun e w' => ParseOut s w.heap.size e w' ∧ Below w.heap.size w w' := by
  by_cases hs : 1000 < s.size
  · have hh : (1000 : Int) < s.size := by omega
    have HL : Hid (parseC s = 2 ∧ parseL s = []) := parse_long hs
    clear hset
    go_enter Tryd.func52, Tryd.ntmps52
    go_wp2
    exact bodyPost_ret (v := .agg #[.int .i64 2, .slice none 0 0]) (by simp [results, Tryd.results52, go_sem]) rfl ⟨ParseOut.mk HL.out (OwnI.nil _ _), (Below.refl _ _).alloc (Nat.le_refl _) _⟩
  · exact implParse_loop s w (by omega) hset
end Go.Proofs.YtbandckkgdnlpaaDoor
/-
  The items of all values of a name, on both sides.
-/
namespace Go.Proofs.YtbandckkgdnlpaaDoor
open Go.ChangeShapes Go.WideShapes Go.ChangeAt Go.RowKit Go.Sort
theorem readR_word {s : ByteArray} {r : Rec} (h : readR s = some r) : wordS r.name = true := by
  unfold readR at h
  split at h
  · cases h
  · rename_i hw
    have hw' : wordS (s.extract 0 (eqAt s.data.toList)) = true := by simpa using hw
    split at h
    · rename_i he
      obtain rfl := Option.some.inj h
      rw [he] at hw'
      have e : s.extract 0 s.size = s := by apply ByteArray.ext; simp
      rw [e] at hw'
      exact hw'
    · split at h
      · obtain rfl := Option.some.inj h
        exact hw'
      · split at h
        · obtain rfl := Option.some.inj h
          exact hw'
        · cases h
theorem readP_word : ∀ (ps : List (List UInt8)) (L : List Rec), readP ps = some L → ∀ r ∈ L, wordS r.name = true
  | [], L, h, r, hr => by
    simp [readP] at h
    subst h
    simp at hr
  | p :: ps, L, h, r, hr => by
    rw [readP] at h
    split at h
    · exact readP_word ps L h r hr
    · split at h
      · cases h
      · rename_i q hq
        obtain ⟨M, hM, rfl⟩ := Option.map_eq_some_iff.1 h
        rcases List.mem_cons.1 hr with rfl | hr
        · exact readR_word hq
        · exact readP_word ps M hM r hr
theorem parse_word {s : ByteArray} {r : Rec} (h : r ∈ parseL s) : wordS r.name = true := by
  unfold parseL at h
  split at h
  · simp at h
  · split at h
    · simp at h
    · rename_i L hL
      split at h
      · simp at h
      · exact readP_word _ L hL r h
theorem parse_empty : parseC ⟨#[]⟩ = 0 ∧ parseL ⟨#[]⟩ = [] := by decide +kernel
/-- All values of a name, one text. -/
def underT (x : ByteArray) (l : List Hdr) : ByteArray := ⟨(hjoinL (valsOf x l)).toArray⟩
theorem under_none {x : ByteArray} {l : List Hdr} (h : valsOf x l = []) : underT x l = ⟨#[]⟩ := by
  unfold underT
  rw [h]
  rfl
theorem under_size {x : ByteArray} {l : List Hdr} (h0 : headsC l = 0) : (underT x l).size ≤ 4040 := by
  obtain ⟨h20, hz⟩ := first_sizes h0
  have h1 := hjoinL_len _ (valsOf_mem (x := x) hz)
  have h2 := valsOf_len x l
  have h3 : (valsOf x l).length * 202 ≤ 20 * 202 := Nat.mul_le_mul_right _ (by omega)
  show (hjoinL (valsOf x l)).toArray.size ≤ _
  rw [List.size_toArray]
  omega
theorem under_join {l : List Hdr} {name : ByteArray} (h0 : headsC l = 0) (hw : wordS name = true) : joinT l name = underT (lowS name) l := by
  have ha : askC l name = 0 := by rw [askC, if_pos h0, if_pos hw]
  by_cases hv : valsOf (lowS name) l = []
  · rw [(join_none ha hv).2, under_none hv]
  · rw [(join_some ha hv).2]; rfl
def ItemsOut (t : ByteArray) (base : Nat) (e : Ending) (w : World) : Prop := ∃ a n k, e = .returned (.tuple #[.slice a n k, .bool (decide (parseC t = 0))]) ∧ OwnI w base (.slice a n k) (parseL t)
theorem ItemsOut.mk {t : ByteArray} {base : Nat} {w : World} {a : Option Addr} {n k : Nat} {b : Bool} (h : decide (parseC t = 0) = b) (ho : OwnI w base (.slice a n k) (parseL t)) : ItemsOut t base (.returned (.tuple #[.slice a n k, .bool b])) w := ⟨a, n, k, by rw [h], ho⟩
set_option maxRecDepth 100000 in
set_option maxHeartbeats 4000000 in
theorem l6Items_any (w : World) (a : Option Addr) (cap : Nat) (l : List Hdr) (name : ByteArray) (h0 : headsC l = 0) (hnm : name.size ≤ 64) (hi : HdsIn w a l) :
    Calls Tryd.prog 49 #[.slice a l.length cap, .string name] w fun e w' => ItemsOut (underT (lowS name) l) w.heap.size e w' ∧ Below w.heap.size w w' := by
  obtain ⟨h20, hz⟩ := first_sizes h0
  have H1 := l4Join_any w a cap l name h20 hz hnm hi
  clear hi hz h0
  generalize l.length = n at *
  by_cases hv : valsOf (lowS name) l = []
  · have HU : Hid (underT (lowS name) l = ⟨#[]⟩) := under_none hv
    rw [hv, show anyV [] = false from rfl] at H1
    generalize (⟨(hjoinL []).toArray⟩ : ByteArray) = jt at *
    clear hv
    go_enter Tryd.func49, Tryd.ntmps49
    go_wp2_with fail
    refine H1.mono ?_
    rintro e w1 ⟨rfl, hb1⟩
    have HB : Hid (Below w.heap.size w w1) := hb1
    clear hb1
    go_wp2_with fail
    go_ret2
    exact ⟨ItemsOut.mk (by rw [HU.out, parse_empty.1]; rfl) (by rw [HU.out, parse_empty.2]; exact OwnI.nil _ _), HB.out⟩
  · have hy : anyV (valsOf (lowS name) l) = true := by simpa [anyV] using hv
    rw [hy, show (⟨(hjoinL (valsOf (lowS name) l)).toArray⟩ : ByteArray) = underT (lowS name) l from rfl] at H1
    clear hy hv
    have HP : Hid (∀ W, Calls Tryd.prog 65 #[.string (underT (lowS name) l)] W fun e w' => ParseOut (underT (lowS name) l) W.heap.size e w' ∧ Below W.heap.size W w') := fun W => specParse_fn _ W
    obtain ⟨t, ht⟩ : ∃ t, Hid (underT (lowS name) l = t) := ⟨_, rfl⟩
    rw [ht.out] at H1 HP ⊢
    clear ht
    go_enter Tryd.func49, Tryd.ntmps49
    go_wp2_with fail
    refine H1.mono ?_
    rintro e w1 ⟨rfl, hb1⟩
    have HB : Hid (Below w.heap.size w w1) := hb1
    clear hb1 H1
    go_wp2_with fail
    refine (HP.out _).mono ?_
    rintro e w2 ⟨⟨v, rfl, ho⟩, hb2⟩
    obtain ⟨va, vc, hv, _⟩ := ho.at
    generalize (parseL t).length = vn at hv
    subst hv
    obtain ⟨c, hcc⟩ : ∃ c, Hid (parseC t = c) := ⟨_, rfl⟩
    rw [hcc.out]
    have b2 := HB.out.trans (hb2.mono HB.out.size)
    have al : Below w2.heap.size w2 (w2.alloc (.cells #[.int .i64 c, .slice va vn vc] 59)) := (Below.refl _ _).alloc (Nat.le_refl _) _
    obtain ⟨W, hW⟩ : ∃ X, Hid (X = w2.alloc (.cells #[.int .i64 c, .slice va vn vc] 59)) := ⟨_, rfl⟩
    have K : Hid (Below w.heap.size w W ∧ OwnI W w.heap.size (.slice va vn vc) (parseL t) ∧ W.cell? ⟨w2.heap.size, 0, none⟩ = some (.int .i64 c) ∧ W.cell? ⟨w2.heap.size, 1, none⟩ = some (.slice va vn vc)) := by
      rw [hW.out]
      exact ⟨b2.trans (al.mono b2.size), (ho.below al).lower HB.out.size, by simp, by simp⟩
    clear hb2 ho HB b2 al HP
    go_upto_region 5 with fail
    rw [← hW.out]
    clear hW
    have q0 := K.out.2.2.1
    have q1 := K.out.2.2.2
    have HD : Hid (decide (parseC t = 0) = (c == 0)) := by
      show _ = _
      rw [hcc.out]
      rfl
    generalize w2.heap.size = B2 at *
    go_quiet (fail)
    go_wp2_with fail
    go_ret2
    refine ⟨ItemsOut.mk HD.out ?_, ?_⟩
    · exact K.out.2.1.below (below_drewN (Below.refl _ _) _)
    · exact below_drewN K.out.1 _
theorem tfieldU (c : Int) (t : ByteArray) (w : World) : (Instr.field 25 (.agg #[.int .i64 c, .string t]) 1).run Tryd.prog w = .ok (.string t) w := by kernel_rfl
set_option maxRecDepth 100000 in
set_option maxHeartbeats 4000000 in
theorem itemsUnder_any (w : World) (a : Option Addr) (cap : Nat) (l : List Hdr) (name : ByteArray) (h0 : headsC l = 0) (hw : wordS name = true) (hcap : l.length ≤ cap) (hset : SetIs w) (hi : HdsIn w a l) :
    Calls Tryd.prog 34 #[.slice a l.length cap, .string name] w fun e w' => ParseOut (underT (lowS name) l) w.heap.size e w' ∧ Below w.heap.size w w' := by
  have h20 := (first_sizes h0).1
  have HJ : Hid (∀ W, Below w.heap.size w W → Calls Tryd.prog 38 #[.slice a l.length cap, .string name] W fun e w' => e = .returned (.agg #[.int .i64 (joinC l name), .string (joinT l name)]) ∧ Below W.heap.size W w') := fun W hb => implJoin_any W a cap l name (by omega) hcap (hset.below hb) (hi.keep hb)
  have HP : Hid (∀ W, Below w.heap.size w W → Calls Tryd.prog 52 #[.string (underT (lowS name) l)] W fun e w' => ParseOut (underT (lowS name) l) W.heap.size e w' ∧ Below W.heap.size W w') := fun W hb => implParse_fn _ W (hset.below hb)
  rw [under_join h0 hw] at HJ
  obtain ⟨t, ht⟩ : ∃ t, Hid (underT (lowS name) l = t) := ⟨_, rfl⟩
  rw [ht.out] at HJ HP ⊢
  clear ht hi hset h0 hw hcap h20
  generalize l.length = n at *
  generalize joinC l name = jc at *
  go_enter Tryd.func34, Tryd.ntmps34
  go_wp2_with fail
  refine (HJ.out _ ((Below.refl _ _).alloc (Nat.le_refl _) _)).mono ?_
  rintro e w1 ⟨rfl, hb1⟩
  rw [World.size_alloc] at hb1
  have HB1 : Hid (Below (w.heap.size + 1) (w.alloc (.cells #[.int .i64 0, .slice none 0 0] 59)) w1) := hb1
  have hz1 : w.heap.size + 1 ≤ w1.heap.size := by have := hb1.size; rwa [World.size_alloc] at this
  have HBw : Hid (Below w.heap.size w w1) := ((Below.refl _ _).alloc (Nat.le_refl _) _).trans (hb1.mono (Nat.le_succ _))
  clear hb1 HJ
  have hf := tfieldU jc t
  go_wp2_with fail
  refine (HP.out _ HBw.out).mono ?_
  rintro e w2 ⟨⟨v, rfl, ho⟩, hb2⟩
  obtain ⟨va, vc, hv, _⟩ := ho.at
  generalize (parseL t).length = vn at hv
  subst hv
  obtain ⟨c, hcc⟩ : ∃ c, Hid (parseC t = c) := ⟨_, rfl⟩
  rw [hcc.out]
  have hb := HB1.out.trans (hb2.mono hz1)
  have p0 : w2.cell? ⟨w.heap.size, 0, none⟩ = some (.int .i64 0) := by rw [hb.cell (p := ⟨w.heap.size, 0, none⟩) (by simp)]; simp
  have p1 : w2.cell? ⟨w.heap.size, 1, none⟩ = some (.slice none 0 0) := by rw [hb.cell (p := ⟨w.heap.size, 1, none⟩) (by simp)]; simp
  have f0 : w2.frozen? ⟨w.heap.size, 0, none⟩ = false := by rw [hb.frozen (p := ⟨w.heap.size, 0, none⟩) (by simp)]; simp
  have f1 : w2.frozen? ⟨w.heap.size, 1, none⟩ = false := by rw [hb.frozen (p := ⟨w.heap.size, 1, none⟩) (by simp)]; simp
  have KB : Hid (Below w.heap.size w w2) := HBw.out.trans (hb2.mono HBw.out.size)
  have KO : Hid (OwnI w2 (w.heap.size + 1) (.slice va vn vc) (parseL t)) := ho.lower hz1
  clear hb hb2 ho HB1 HBw HP hf
  obtain ⟨q0, q1⟩ := two_set (v0 := .int .i64 c) (v1 := .slice va vn vc) p0 p1
  go_wp2_with fail
  refine bodyPost_ret (v := .agg #[.int .i64 c, .slice va vn vc]) (by simp [results, Tryd.results34, go_sem, q0, q1]) rfl ⟨ParseOut.mk ⟨hcc.out, rfl⟩ ?_, (KB.out.setCell (Nat.le_refl _) _).setCell (Nat.le_refl _) _⟩
  exact ((own_set (own_set KO.out (Nat.lt_succ_self _)) (Nat.lt_succ_self _))).lower (Nat.le_succ _)
end Go.Proofs.YtbandckkgdnlpaaDoor
/-
  Head lines read from a text, plainly. No Go in sight.
-/
namespace Go.Proofs.YtbandckkgdnlpaaDoor
/-- Where the first bytes 13 and 10 stand; the length where there are none. -/
def crAt : List UInt8 → Nat
  | [] => 0
  | [_] => 1
  | c :: d :: r => if c = 13 ∧ d = 10 then 0 else 1 + crAt (d :: r)
theorem crAt_le : ∀ l : List UInt8, crAt l ≤ l.length
  | [] => Nat.le_refl _
  | [_] => Nat.le_refl _
  | c :: d :: r => by
    have := crAt_le (d :: r)
    rw [crAt]
    split
    · exact Nat.zero_le _
    · simp only [List.length_cons] at this ⊢; omega
theorem crAt_room : ∀ l : List UInt8, crAt l < l.length → crAt l + 2 ≤ l.length
  | [], h => by simp [crAt] at h
  | [_], h => by simp [crAt] at h
  | c :: d :: r, h => by
    rw [crAt] at h ⊢
    by_cases e : c = 13 ∧ d = 10
    · rw [if_pos e]; simp only [List.length_cons]; omega
    · rw [if_neg e] at h ⊢
      have := crAt_room (d :: r) (by simp only [List.length_cons] at h ⊢; omega)
      simp only [List.length_cons] at this ⊢; omega
theorem crAt_on : ∀ (l : List UInt8) (k : Nat), k ≤ crAt l → (h : k + 1 < l.length) → (l[k] = 13 ∧ l[k + 1] = 10 → crAt l = k) ∧ (¬ (l[k] = 13 ∧ l[k + 1] = 10) → k + 1 ≤ crAt l)
  | [], k, _, h => by simp at h
  | [_], k, _, h => by simp at h
  | c :: d :: r, 0, _, h => by
    refine ⟨fun e => ?_, fun e => ?_⟩
    · rw [crAt, if_pos (by simpa using e)]
    · rw [crAt, if_neg (by simpa using e)]; omega
  | c :: d :: r, k + 1, hk, h => by
    rw [crAt] at hk ⊢
    by_cases e : c = 13 ∧ d = 10
    · rw [if_pos e] at hk; omega
    · rw [if_neg e] at hk ⊢
      have ih := crAt_on (d :: r) k (by omega) (by simp only [List.length_cons] at h ⊢; omega)
      refine ⟨fun x => ?_, fun x => ?_⟩
      · have := ih.1 (by simpa using x); omega
      · have := ih.2 (by simpa using x); omega
theorem crAt_end (l : List UInt8) (k : Nat) (hk : k ≤ crAt l) (h : ¬ k + 1 < l.length) : crAt l = l.length := by
  have h1 := crAt_le l
  by_cases c : crAt l < l.length
  · have := crAt_room l c; omega
  · omega
theorem crAt_is : ∀ l : List UInt8, crAt l < l.length → ([13, 10] : List UInt8).isPrefixOf (l.drop (crAt l)) = true
  | [], h => by simp [crAt] at h
  | [_], h => by simp [crAt] at h
  | c :: d :: r, h => by
    rw [crAt] at h ⊢
    by_cases e : c = 13 ∧ d = 10
    · rw [if_pos e]; simp [e.1, e.2, List.isPrefixOf]
    · rw [if_neg e] at h ⊢
      have := crAt_is (d :: r) (by simp only [List.length_cons] at h ⊢; omega)
      rw [show 1 + crAt (d :: r) = crAt (d :: r) + 1 from by omega, List.drop_succ_cons]
      exact this
theorem crAt_not : ∀ (l : List UInt8) (j : Nat), j < crAt l → ([13, 10] : List UInt8).isPrefixOf (l.drop j) = false
  | [], j, h => by simp [crAt] at h
  | [x], j, h => by
    have : j = 0 := by simp [crAt] at h; omega
    subst this
    simp [List.isPrefixOf]
  | c :: d :: r, j, h => by
    rw [crAt] at h
    by_cases e : c = 13 ∧ d = 10
    · rw [if_pos e] at h; omega
    · rw [if_neg e] at h
      cases j with
      | zero =>
        simp only [List.drop_zero, List.isPrefixOf, Bool.and_true]
        by_cases e1 : c = 13
        · have e2 : ¬ d = 10 := fun x => e ⟨e1, x⟩
          have : ((10 : UInt8) == d) = false := by rw [beq_eq_false_iff_ne]; exact fun x => e2 x.symm
          rw [this, Bool.and_false]
        · have : ((13 : UInt8) == c) = false := by rw [beq_eq_false_iff_ne]; exact fun x => e1 x.symm
          rw [this, Bool.false_and]
      | succ j => rw [List.drop_succ_cons]; exact crAt_not (d :: r) j (by omega)
theorem index_cr (l : List UInt8) : Lib.index l [13, 10] = if crAt l < l.length then (crAt l : Int) else -1 := by
  by_cases h : crAt l < l.length
  · rw [if_pos h]
    exact Lib.index_first (Nat.le_of_lt h) (crAt_is l h) (fun j hj => crAt_not l j hj)
  · rw [if_neg h]
    have e : crAt l = l.length := by have := crAt_le l; omega
    refine Lib.index_none fun j hj => ?_
    by_cases c : j < crAt l
    · exact crAt_not l j c
    · have : j = l.length := by omega
      subst this
      simp [Lib.occAt]
theorem cut_cr {l : List UInt8} (h : crAt l < l.length) : Lib.cut l [13, 10] = (l.take (crAt l), l.drop (crAt l + 2), true) := by
  unfold Lib.cut
  rw [index_cr, if_pos h, if_pos (by omega)]
  rfl
/-- Where the first colon stands; the length where there is none. -/
def clAt : List UInt8 → Nat
  | [] => 0
  | c :: r => if c = 58 then 0 else 1 + clAt r
theorem clAt_le : ∀ l : List UInt8, clAt l ≤ l.length
  | [] => Nat.le_refl _
  | c :: r => by
    have := clAt_le r
    rw [clAt]
    split
    · exact Nat.zero_le _
    · simp only [List.length_cons]; omega
theorem clAt_on : ∀ (l : List UInt8) (k : Nat), k ≤ clAt l → (h : k < l.length) → (l[k] = 58 → clAt l = k) ∧ (¬ l[k] = 58 → k + 1 ≤ clAt l)
  | [], k, _, h => by simp at h
  | c :: r, 0, _, h => by
    refine ⟨fun e => ?_, fun e => ?_⟩
    · rw [clAt, if_pos (by simpa using e)]
    · rw [clAt, if_neg (by simpa using e)]; omega
  | c :: r, k + 1, hk, h => by
    rw [clAt] at hk ⊢
    by_cases e : c = 58
    · rw [if_pos e] at hk; omega
    · rw [if_neg e] at hk ⊢
      have ih := clAt_on r k (by omega) (by simp only [List.length_cons] at h; omega)
      refine ⟨fun x => ?_, fun x => ?_⟩
      · have := ih.1 (by simpa using x); omega
      · have := ih.2 (by simpa using x); omega
theorem index_cl : ∀ l : List UInt8, Lib.index l [58] = if clAt l < l.length then (clAt l : Int) else -1
  | [] => by simp [Lib.index, clAt]
  | c :: r => by
    have ih := index_cl r
    rw [Lib.index, clAt]
    by_cases h : c = 58
    · rw [if_pos (by simp [List.isPrefixOf, h]), if_pos h]; simp
    · have h2 : ([58] : List UInt8).isPrefixOf (c :: r) = false := by
        simp only [List.isPrefixOf, Bool.and_true, beq_eq_false_iff_ne]
        exact fun x => h x.symm
      rw [h2, if_neg h, ih]
      by_cases q : clAt r < r.length
      · have q2 : 1 + clAt r < (c :: r).length := by simp only [List.length_cons]; omega
        have e1 : ((clAt r : Int) == -1) = false := by rw [beq_eq_false_iff_ne]; omega
        simp only [Bool.false_eq_true, if_false, if_pos q, if_pos q2, e1]
        omega
      · have q2 : ¬ 1 + clAt r < (c :: r).length := by simp only [List.length_cons]; omega
        simp only [Bool.false_eq_true, if_false, if_neg q, if_neg q2]
        rfl
theorem cut_cl {l : List UInt8} (h : clAt l < l.length) : Lib.cut l [58] = (l.take (clAt l), l.drop (clAt l + 1), true) := by
  unfold Lib.cut
  rw [index_cl, if_pos h, if_pos (by omega)]
  rfl
theorem cut_cl_no {l : List UInt8} (h : ¬ clAt l < l.length) : Lib.cut l [58] = (l, [], false) := by
  unfold Lib.cut
  rw [index_cl, if_neg h, if_neg (by omega)]
def hmk (p : List UInt8) : ByteArray := ⟨p.toArray⟩
theorem hmk_size (p : List UInt8) : (hmk p).size = p.length := by simp [hmk, ByteArray.size]
theorem hmk_list (p : List UInt8) : (hmk p).data.toList = p := by simp [hmk]
def lineOf (p : List UInt8) : Hdr := ⟨hmk (p.take (clAt p)), trimT (hmk (p.drop (clAt p + 1)))⟩
def lineR (p : List UInt8) : Option Hdr := if clAt p < p.length then some (lineOf p) else none
theorem lineR_yes {p : List UInt8} (h : clAt p < p.length) : lineR p = some (lineOf p) := by unfold lineR; rw [if_pos h]
theorem lineR_no {p : List UInt8} (h : ¬ clAt p < p.length) : lineR p = none := by unfold lineR; rw [if_neg h]
/-- The lines that the bytes 13 and 10 end; none: the last one is not ended. -/
def linesO (l : List UInt8) : Option (List (List UInt8)) :=
  if _h : l = [] then some [] else if crAt l < l.length then (linesO (l.drop (crAt l + 2))).map (l.take (crAt l) :: ·) else none
termination_by l.length
decreasing_by
  have := List.length_pos_iff.2 _h
  simp only [List.length_drop]; omega
theorem linesO_nil : linesO [] = some [] := by rw [linesO]; simp
theorem linesO_cut {l : List UInt8} (h : crAt l < l.length) : linesO l = (linesO (l.drop (crAt l + 2))).map (l.take (crAt l) :: ·) := by
  have h0 : ¬ l = [] := fun e => by subst e; simp [crAt] at h
  rw [linesO, dif_neg h0, if_pos h]
theorem linesO_bad {l : List UInt8} (h0 : ¬ l = []) (h : ¬ crAt l < l.length) : linesO l = none := by
  rw [linesO, dif_neg h0, if_neg h]
theorem linesO_len : ∀ (n : Nat) (l : List UInt8) (P : List (List UInt8)), l.length ≤ n → linesO l = some P → P.length ≤ l.length ∧ ∀ p ∈ P, p.length ≤ l.length := by
  intro n
  induction n with
  | zero =>
    intro l P hn h
    have : l = [] := List.eq_nil_of_length_eq_zero (by omega)
    subst this
    rw [linesO_nil] at h
    obtain rfl := Option.some.inj h
    simp
  | succ n ih =>
    intro l P hn h
    by_cases h0 : l = []
    · subst h0
      rw [linesO_nil] at h
      obtain rfl := Option.some.inj h
      simp
    · by_cases hc : crAt l < l.length
      · rw [linesO_cut hc] at h
        obtain ⟨Q, hQ, rfl⟩ := Option.map_eq_some_iff.1 h
        have hl := List.length_pos_iff.2 h0
        have := ih _ Q (by simp only [List.length_drop]; omega) hQ
        simp only [List.length_drop] at this
        refine ⟨by simp only [List.length_cons]; omega, fun p hp => ?_⟩
        rcases List.mem_cons.1 hp with rfl | hp
        · simp only [List.length_take]; omega
        · have := this.2 p hp; omega
      · rw [linesO_bad h0 hc] at h; cases h
theorem suffix_far {a b : UInt8} {p r : List UInt8} (h : 2 ≤ r.length) : ([a, b].isSuffixOf (p ++ r)) = ([a, b].isSuffixOf r) := by
  rw [Bool.eq_iff_iff, List.isSuffixOf_iff_suffix, List.isSuffixOf_iff_suffix]
  constructor
  · intro hs
    exact List.suffix_of_suffix_length_le hs (List.suffix_append _ _) (by simpa using h)
  · intro hs
    exact hs.trans (List.suffix_append _ _)
theorem linesO_suffix : ∀ (n : Nat) (l : List UInt8), l.length ≤ n → ¬ l = [] → (linesO l).isSome = ([13, 10] : List UInt8).isSuffixOf l := by
  intro n
  induction n with
  | zero => intro l hn h0; exact absurd (List.eq_nil_of_length_eq_zero (by omega)) h0
  | succ n ih =>
    intro l hn h0
    by_cases hc : crAt l < l.length
    · have hr := crAt_room l hc
      have hi := crAt_is l hc
      rw [linesO_cut hc, Option.isSome_map]
      have e : l = l.take (crAt l) ++ ([13, 10] ++ l.drop (crAt l + 2)) := by
        have h1 := (List.take_append_drop (crAt l) l).symm
        obtain ⟨t, ht⟩ := List.isPrefixOf_iff_prefix.1 hi
        have h2 : t = l.drop (crAt l + 2) := by
          have := congrArg (List.drop 2) ht
          simp only [List.drop_drop] at this
          simpa using this
        rw [← h2, ht]
        exact h1
      by_cases h3 : l.drop (crAt l + 2) = []
      · rw [h3, linesO_nil]
        rw [h3] at e
        symm
        rw [Option.isSome_some, List.isSuffixOf_iff_suffix, e]
        exact List.suffix_append _ _
      · rw [ih _ (by simp only [List.length_drop]; have := List.length_pos_iff.2 h0; omega) h3]
        generalize l.drop (crAt l + 2) = r at *
        generalize l.take (crAt l) = p at *
        subst e
        by_cases h4 : 2 ≤ r.length
        · rw [← List.append_assoc, suffix_far h4]
        · match r, h3, h4 with
          | [x], _, _ =>
            rw [Bool.eq_iff_iff, List.isSuffixOf_iff_suffix, List.isSuffixOf_iff_suffix]
            constructor
            · intro hs; have := hs.length_le; simp at this
            · rintro ⟨q, hq⟩
              have hq2 : (q ++ [13]) ++ [10] = (p ++ [13]) ++ ([10] ++ [x]) := by simpa using hq
              have h5 := congrArg List.reverse hq2
              simp at h5
          | _ :: _ :: _, _, h4 => exact absurd (by simp) h4
    · rw [linesO_bad h0 hc]
      symm
      rw [Option.isSome_none]
      cases hs : ([13, 10] : List UInt8).isSuffixOf l
      · rfl
      · obtain ⟨q, hq⟩ := List.isSuffixOf_iff_suffix.1 hs
        have hl : l.length = q.length + 2 := by rw [← hq]; simp
        have := crAt_le l
        have hn2 := crAt_not l q.length (by omega)
        rw [← hq] at hn2
        simp [List.isPrefixOf] at hn2
/-- All lines read. -/
def readLs : List (List UInt8) → Option (List Hdr)
  | [] => some []
  | p :: ps => match lineR p with
    | none => none
    | some r => (readLs ps).map (r :: ·)
theorem readLs_bad {p : List UInt8} {ps : List (List UInt8)} (h : ¬ clAt p < p.length) : readLs (p :: ps) = none := by rw [readLs, lineR_no h]
theorem readLs_take {p : List UInt8} {ps : List (List UInt8)} (h : clAt p < p.length) : readLs (p :: ps) = (readLs ps).map (lineOf p :: ·) := by rw [readLs, lineR_yes h]
def readT (l : List UInt8) : Option (List Hdr) := (linesO l).bind readLs
theorem readT_nil : readT [] = some [] := by unfold readT; rw [linesO_nil]; rfl
theorem readT_bad {l : List UInt8} (h : crAt l < l.length) (h2 : ¬ clAt (l.take (crAt l)) < (l.take (crAt l)).length) : readT l = none := by
  unfold readT
  rw [linesO_cut h]
  cases linesO (l.drop (crAt l + 2)) with
  | none => rfl
  | some P => simp only [Option.map_some, Option.bind_some]; rw [readLs_bad h2]
theorem readT_take {l : List UInt8} (h : crAt l < l.length) (h2 : clAt (l.take (crAt l)) < (l.take (crAt l)).length) : readT l = (readT (l.drop (crAt l + 2))).map (lineOf (l.take (crAt l)) :: ·) := by
  unfold readT
  rw [linesO_cut h]
  cases linesO (l.drop (crAt l + 2)) with
  | none => rfl
  | some P => simp only [Option.map_some, Option.bind_some]; rw [readLs_take h2]
def readHC (s : ByteArray) : Int := if 6000 < s.size then 2 else match readT s.data.toList with
  | none => 5
  | some L => headsC L
def readHL (s : ByteArray) : List Hdr := if 6000 < s.size then [] else match readT s.data.toList with
  | none => []
  | some L => if headsC L = 0 then L else []
theorem readH_long {s : ByteArray} (h : 6000 < s.size) : readHC s = 2 ∧ readHL s = [] := by unfold readHC readHL; rw [if_pos h, if_pos h]; exact ⟨rfl, rfl⟩
theorem readH_bad {s : ByteArray} (h : ¬ 6000 < s.size) (hr : readT s.data.toList = none) : readHC s = 5 ∧ readHL s = [] := by unfold readHC readHL; rw [if_neg h, if_neg h, hr]; exact ⟨rfl, rfl⟩
theorem readH_fault {s : ByteArray} {L : List Hdr} (h : ¬ 6000 < s.size) (hr : readT s.data.toList = some L) (hL : headsC L ≠ 0) : readHC s = headsC L ∧ readHL s = [] := by
  unfold readHC readHL; rw [if_neg h, if_neg h, hr]; exact ⟨rfl, if_neg hL⟩
theorem readH_ok {s : ByteArray} {L : List Hdr} (h : ¬ 6000 < s.size) (hr : readT s.data.toList = some L) (hL : headsC L = 0) : readHC s = 0 ∧ readHL s = L := by
  unfold readHC readHL; rw [if_neg h, if_neg h, hr]; exact ⟨hL, if_pos hL⟩
theorem readHL_len (s : ByteArray) : (readHL s).length ≤ 20 := by
  unfold readHL
  by_cases h : 6000 < s.size
  · rw [if_pos h]; exact Nat.zero_le _
  · rw [if_neg h]
    split
    · exact Nat.zero_le _
    · split
      · rename_i hc; exact (headsC_zero hc).1
      · exact Nat.zero_le _
end Go.Proofs.YtbandckkgdnlpaaDoor
/-
  What the model's l4Lines answers.
-/
namespace Go.Proofs.YtbandckkgdnlpaaDoor
open Go.ChangeShapes Go.WideShapes Go.ChangeAt Go.RowKit
theorem u8_13 (x : UInt8) : x = 13 ↔ (x.toNat : Int) = 13 := by
  constructor
  · rintro rfl; rfl
  · intro h; exact UInt8.toNat_inj.1 (by simpa using (by omega : x.toNat = 13))
theorem u8_10 (x : UInt8) : x = 10 ↔ (x.toNat : Int) = 10 := by
  constructor
  · rintro rfl; rfl
  · intro h; exact UInt8.toNat_inj.1 (by simpa using (by omega : x.toNat = 10))
theorem u8_58 (x : UInt8) : x = 58 ↔ (x.toNat : Int) = 58 := by
  constructor
  · rintro rfl; rfl
  · intro h; exact UInt8.toNat_inj.1 (by simpa using (by omega : x.toNat = 58))
theorem hsize_list (s : ByteArray) : s.data.toList.length = s.size := by simp
theorem drop_get (s : ByteArray) (f k : Nat) (hf : f ≤ k) (hk : k < s.size) (h : k - f < (s.data.toList.drop f).length) : (s.data.toList.drop f)[k - f] = s[k] := by
  rw [List.getElem_drop]
  have e : f + (k - f) = k := by omega
  simp only [e]
  rfl
theorem hext_mk (s : ByteArray) (i j : Nat) : s.extract i j = hmk ((s.data.toList.drop i).take (j - i)) := by
  rw [Lib.extract_eq]; rfl
/-- The state of the walk over the text: O lines are found, the next one begins at f, k is looked at. -/
structure LnAt (s : ByteArray) (O : List (List UInt8)) (f k : Nat) : Prop where
  fk : f ≤ k
  ks : k ≤ s.size
  ol : O.length ≤ k
  eq : linesO s.data.toList = (linesO (s.data.toList.drop f)).map (O ++ ·)
  at' : k - f ≤ crAt (s.data.toList.drop f)
theorem LnAt.start (s : ByteArray) : LnAt s [] 0 0 := ⟨Nat.le_refl _, Nat.zero_le _, Nat.le_refl _, by simp, Nat.zero_le _⟩
theorem LnAt.hit {s : ByteArray} {O : List (List UInt8)} {f k : Nat} (h : LnAt s O f k) (hk : k + 1 < s.size) (h13 : s[k] = 13) (h10 : s[k + 1] = 10) : LnAt s (O ++ [(s.data.toList.drop f).take (k - f)]) (k + 2) (k + 2) := by
  have hl : (s.data.toList.drop f).length = s.size - f := by rw [List.length_drop, hsize_list]
  have hfk := h.fk
  have h1 := drop_get s f k h.fk (by omega) (by omega)
  have h2 := drop_get s f (k + 1) (by omega) hk (by omega)
  have e : k + 1 - f = k - f + 1 := by omega
  simp only [e] at h2
  have hc := (crAt_on _ (k - f) h.at' (by omega)).1 ⟨h1.trans h13, h2.trans h10⟩
  refine ⟨Nat.le_refl _, by omega, by simp; have := h.ol; omega, ?_, by omega⟩
  rw [h.eq, linesO_cut (by omega), hc, List.drop_drop, show f + (k - f + 2) = k + 2 from by omega, Option.map_map]
  congr 1
  funext x
  simp
theorem LnAt.on {s : ByteArray} {O : List (List UInt8)} {f k : Nat} (h : LnAt s O f k) (hk : k + 1 < s.size) (hn : ¬ (s[k] = 13 ∧ s[k + 1] = 10)) : LnAt s O f (k + 1) := by
  have hl : (s.data.toList.drop f).length = s.size - f := by rw [List.length_drop, hsize_list]
  have hfk := h.fk
  have h1 := drop_get s f k h.fk (by omega) (by omega)
  have h2 := drop_get s f (k + 1) (by omega) hk (by omega)
  have e : k + 1 - f = k - f + 1 := by omega
  simp only [e] at h2
  have hc := (crAt_on _ (k - f) h.at' (by omega)).2 (by rw [h1, h2]; exact hn)
  exact ⟨by omega, by omega, by have := h.ol; omega, h.eq, by omega⟩
theorem LnAt.done {s : ByteArray} {O : List (List UInt8)} {f k : Nat} (h : LnAt s O f k) (hk : ¬ k + 1 < s.size) : (f = s.size → linesO s.data.toList = some O) ∧ (f ≠ s.size → linesO s.data.toList = none) ∧ f ≤ s.size := by
  have hl : (s.data.toList.drop f).length = s.size - f := by rw [List.length_drop, hsize_list]
  have hfk := h.fk
  have hks := h.ks
  refine ⟨fun e => ?_, fun e => ?_, by omega⟩
  · rw [h.eq, List.drop_of_length_le (by rw [hsize_list]; omega), linesO_nil]
    simp
  · have h0 : ¬ s.data.toList.drop f = [] := fun x => by have := congrArg List.length x; rw [hl] at this; simp at this; omega
    have hc := crAt_end _ (k - f) h.at' (by omega)
    rw [h.eq, linesO_bad h0 (by omega)]
    rfl
theorem OwnS.shape {w : World} {base : Nat} {v : Value} {l : List ByteArray} (h : OwnS w base v l) : ∃ a c, v = .slice a l.length c ∧ ∀ (k : Nat) x, l[k]? = some x → ∃ g, a = some ⟨g, 0, none⟩ ∧ w.cell? ⟨g, k, none⟩ = some (.string x) := by
  have h0 := h
  obtain ⟨_, h1 | ⟨g, c, cur, rfl, _⟩⟩ := h
  · have e : l = [] := List.eq_nil_of_length_eq_zero h1.2
    exact ⟨none, 0, by rw [h1.1, e]; rfl, fun k x hx => by rw [e] at hx; simp at hx⟩
  · refine ⟨_, c, rfl, fun k x hx => ⟨g, rfl, ?_⟩⟩
    have hk := (List.getElem?_eq_some_iff.1 hx).1
    have := World.ownsRow.cellAt h0 k (by omega)
    rw [this]
    simp [textsW, hx]
theorem ownS_made0 (w : World) (base : Nat) (hb : base ≤ w.heap.size) : OwnS (w.alloc (.cells #[] 9)) base (.slice (some ⟨w.heap.size, 0, none⟩) 0 0) [] := World.ownsRow_made w #[] 0 hb (by unfold maxLen; omega) rfl
def LinesRes (s : ByteArray) (base : Nat) (e : Ending) (w : World) : Prop := ∃ v O ok, e = .returned (.tuple #[v, .bool ok]) ∧ OwnS w base v (O.map hmk) ∧ O.length ≤ 6000 ∧ (ok = true → linesO s.data.toList = some O) ∧ (ok = false → linesO s.data.toList = none)
theorem LinesRes.mk {s : ByteArray} {base : Nat} {w : World} {v : Value} {O : List (List UInt8)} {ok : Bool} (ho : OwnS w base v (O.map hmk)) (hl : O.length ≤ 6000) (h1 : ok = true → linesO s.data.toList = some O) (h2 : ok = false → linesO s.data.toList = none) : LinesRes s base (.returned (.tuple #[v, .bool ok])) w := ⟨v, O, ok, rfl, ho, hl, h1, h2⟩
end Go.Proofs.YtbandckkgdnlpaaDoor
/-
  Texts cut at blanks, plainly.
-/
namespace Go.Proofs.YtbandckkgdnlpaaDoor
def blank (r : Nat) : Bool := r == 32
theorem spans_blank (s : ByteArray) (ha : ∀ (i : Nat) (h : i < s.size), s[i].toNat < 128) : ∀ (f pos : Nat) (st : Option Nat) (acc : List (Nat × Nat)), s.size ≤ pos + f → pos ≤ s.size →
    (match st with | some a => a < pos | none => True) →
    (Lib.closeSpans s (Lib.spansFromP blank s f pos st acc)).map (spanL s) = acc.map (spanL s) ++ fullP (cutG 32 (match st with | some a => spanL s (a, pos) | none => []) (s.data.toList.drop pos)) := by
  intro f
  induction f with
  | zero =>
    intro pos st acc h1 h2 h3
    have e : pos = s.size := by omega
    subst e
    have ed : s.data.toList.drop s.size = [] := List.drop_of_length_le (by simp)
    rw [ed, Lib.spansFromP]
    cases st with
    | none => simp [Lib.closeSpans, cutG, fullP]
    | some a =>
      have hne : spanL s (a, s.size) ≠ [] := by
        intro e
        have := congrArg List.length e
        simp [spanL] at this
        omega
      simp only [Lib.closeSpans, cutG, List.map_append, List.map_cons, List.map_nil]
      rw [fullP_cons _ _ hne]; rfl
  | succ f ih =>
    intro pos st acc h1 h2 h3
    by_cases hp : pos < s.size
    · have hd := decode_ascii s pos hp (ha pos hp)
      have el : s.data.toList.drop pos = s[pos] :: s.data.toList.drop (pos + 1) := by
        rw [List.drop_eq_getElem_cons (by simpa using hp)]; rfl
      have sn : ∀ a, a ≤ pos → spanL s (a, pos + 1) = spanL s (a, pos) ++ [s[pos]] := fun a hap => by
        unfold spanL
        simp only
        rw [take_snoc s pos hp, List.drop_append_of_le_length (by simp; omega)]
      unfold Lib.spansFromP
      rw [if_pos hp, hd]
      simp only
      by_cases hc : s[pos] = 32
      · have hpp : blank s[pos].toNat = true := by rw [hc]; rfl
        rw [hpp, if_pos rfl, el, hc, cutG_at]
        cases st with
        | none =>
          simp only
          rw [ih (pos + 1) none acc (by omega) (by omega) trivial, fullP_cons_nil]
        | some a =>
          simp only at h3 ⊢
          have hne : spanL s (a, pos) ≠ [] := by
            intro e
            have := congrArg List.length e
            simp [spanL] at this
            omega
          rw [ih (pos + 1) none _ (by omega) (by omega) trivial, fullP_cons _ _ hne]
          simp
      · have hpp : blank s[pos].toNat = false := by
          unfold blank
          rw [beq_eq_false_iff_ne]
          intro e
          exact hc (UInt8.toNat_inj.1 (by simpa using e))
        rw [hpp, if_neg (by decide), el, cutG_on _ _ hc]
        cases st with
        | none =>
          simp only
          rw [ih (pos + 1) (some pos) acc (by omega) (by omega) (by simp)]
          simp only
          rw [sn pos (Nat.le_refl _)]
          have : spanL s (pos, pos) = [] := by simp [spanL]
          rw [this]
        | some a =>
          simp only at h3 ⊢
          rw [ih (pos + 1) (some a) acc (by omega) (by omega) (by simp only; omega)]
          simp only
          rw [sn a (by omega)]
    · have e : pos = s.size := by omega
      subst e
      have ed : s.data.toList.drop s.size = [] := List.drop_of_length_le (by simp)
      rw [Lib.spansFromP_end _ _ _ _ _ _ hp, ed]
      cases st with
      | none => simp [Lib.closeSpans, cutG, fullP]
      | some a =>
        have hne : spanL s (a, s.size) ≠ [] := by
          intro e
          have := congrArg List.length e
          simp [spanL] at this
          simp only at h3
          omega
        simp only [Lib.closeSpans, cutG, List.map_append, List.map_cons, List.map_nil]
        rw [fullP_cons _ _ hne]; rfl
theorem fields_blank (s : ByteArray) (ha : ∀ (i : Nat) (h : i < s.size), s[i].toNat < 128) : Lib.goFieldsP blank s = (fullP (cutG 32 [] s.data.toList)).map fun p => (⟨p.toArray⟩ : ByteArray) := by
  have h := spans_blank s ha s.size 0 none [] (by omega) (Nat.zero_le _) trivial
  simp only [List.map_nil, List.nil_append, List.drop_zero] at h
  unfold Lib.goFieldsP Lib.spansOfP
  rw [← h, List.map_map]
  apply List.map_congr_left
  intro x _
  exact spanT_eq s x
theorem tcut_len (c : UInt8) : ∀ (l cur : List UInt8), (cutG c cur l).length ≤ l.length + 1
  | [], cur => by simp [cutG]
  | x :: l, cur => by
    rw [cutG]
    split
    · have := tcut_len c l []
      simp only [List.length_cons]
      omega
    · have := tcut_len c l (cur ++ [x])
      simp only [List.length_cons]
      omega
def tagN : ByteArray := ⟨#[115, 117, 114, 114, 111, 103, 97, 116, 101, 45, 107, 101, 121]⟩
theorem tagS_low : lowS ⟨#[115, 117, 114, 114, 111, 103, 97, 116, 101, 45, 107, 101, 121]⟩ = tagN := by decide +kernel
theorem tagI_low : lowS ⟨#[83, 117, 114, 114, 111, 103, 97, 116, 101, 45, 75, 101, 121]⟩ = tagN := by decide +kernel
theorem tagI_word : wordS ⟨#[83, 117, 114, 114, 111, 103, 97, 116, 101, 45, 75, 101, 121]⟩ = true := by decide +kernel
/-- What stands between the blanks of a text. -/
def tagP (t : ByteArray) : List (List UInt8) := fullP (cutG 32 [] t.data.toList)
theorem tagP_len (t : ByteArray) : (tagP t).length ≤ t.size + 1 := by
  have h1 : (tagP t).length ≤ (cutG 32 [] t.data.toList).length := List.length_filter_le _ _
  have h2 := tcut_len 32 t.data.toList []
  have h3 : t.data.toList.length = t.size := by simp
  omega
def tagsL (l : List Hdr) : List ByteArray := (tagP (underT tagN l)).map hmk
def tagsC (l : List Hdr) : Int := if headsC l = 0 then (if 10 < (tagsL l).length then 2 else 0) else headsC l
def tagsR (l : List Hdr) : List ByteArray := if headsC l = 0 then (if 10 < (tagsL l).length then [] else tagsL l) else []
theorem tags_bad {l : List Hdr} (h : ¬ headsC l = 0) : tagsC l = headsC l ∧ tagsR l = [] := by rw [tagsC, tagsR, if_neg h, if_neg h]; exact ⟨rfl, rfl⟩
theorem tags_many {l : List Hdr} (h : headsC l = 0) (h2 : 10 < (tagsL l).length) : tagsC l = 2 ∧ tagsR l = [] := by rw [tagsC, tagsR, if_pos h, if_pos h, if_pos h2, if_pos h2]; exact ⟨rfl, rfl⟩
theorem tags_ok {l : List Hdr} (h : headsC l = 0) (h2 : ¬ 10 < (tagsL l).length) : tagsC l = 0 ∧ tagsR l = tagsL l := by rw [tagsC, tagsR, if_pos h, if_pos h, if_neg h2, if_neg h2]; exact ⟨rfl, rfl⟩
theorem tagsR_len (l : List Hdr) : (tagsR l).length ≤ 10 := by
  rw [tagsR]
  split
  · split
    · simp
    · omega
  · simp
theorem plain_lt {c : UInt8} (h : plainI (c.toNat : Int) = true) : c.toNat < 128 := by
  simp only [plainI, Bool.or_eq_true, Bool.and_eq_true, decide_eq_true_eq, beq_iff_eq] at h
  omega
theorem tail_ascii : ∀ (r : List (List UInt8)), (∀ v ∈ r, ∀ c ∈ v, c.toNat < 128) → ∀ c ∈ Lib.joinTail [44, 32] r, c.toNat < 128
  | [], _, c, hc => by simp [Lib.joinTail] at hc
  | x :: r, h, c, hc => by
    have e : Lib.joinTail [44, 32] (x :: r) = 44 :: 32 :: (x ++ Lib.joinTail [44, 32] r) := by simp [Lib.joinTail]
    rw [e] at hc
    simp only [List.mem_cons, List.mem_append] at hc
    rcases hc with rfl | rfl | hc | hc
    · decide
    · decide
    · exact h x (List.mem_cons_self ..) c hc
    · exact tail_ascii r (fun v hv => h v (List.mem_cons_of_mem _ hv)) c hc
theorem under_ascii {x : ByteArray} {l : List Hdr} (h0 : headsC l = 0) : ∀ (i : Nat) (h : i < (underT x l).size), (underT x l)[i].toNat < 128 := by
  intro i hi
  have hv : ∀ v ∈ (valsOf x l).map (·.data.toList), ∀ c ∈ v, c.toNat < 128 := by
    intro v hv c hc
    obtain ⟨t, ht, rfl⟩ := List.mem_map.1 hv
    obtain ⟨r, hr, rfl⟩ := List.mem_map.1 ht
    obtain ⟨k, hk⟩ := List.getElem?_of_mem (List.mem_filter.1 hr).1
    have hp := (faultH_zero ((headsC_zero h0).2 k r hk)).2.2.1
    exact plain_lt (List.all_eq_true.1 hp c hc)
  have hall : ∀ c ∈ hjoinL (valsOf x l), c.toNat < 128 := by
    unfold hjoinL
    cases hc : (valsOf x l).map (·.data.toList) with
    | nil => intro c h; rw [Lib.join_nil] at h; cases h
    | cons y r =>
      rw [hc] at hv
      intro c h
      rw [Lib.join_cons] at h
      rcases List.mem_append.1 h with h | h
      · exact hv y (List.mem_cons_self ..) c h
      · exact tail_ascii r (fun v hv' => hv v (List.mem_cons_of_mem _ hv')) c h
  have hi' : i < (hjoinL (valsOf x l)).length := by
    have : (underT x l).size = (hjoinL (valsOf x l)).length := by show (hjoinL (valsOf x l)).toArray.size = _; rw [List.size_toArray]
    omega
  refine hall _ ?_
  show (hjoinL (valsOf x l))[i] ∈ hjoinL (valsOf x l)
  exact List.getElem_mem _
end Go.Proofs.YtbandckkgdnlpaaDoor
/-
  markHeaderS and heldHeaderS: marks laid into head lines, and found again.
-/
namespace Go.Proofs.YtbandckkgdnlpaaDoor
open Go.ChangeShapes Go.WideShapes Go.ChangeAt Go.RowKit Go.Sort
def mkHR (k : Nat) (j : Nat) : Hdr := ⟨mkT (k + 2 * j), mkT (k + 2 * j + 1)⟩
def mkHL (k n : Nat) : List Hdr := (List.range n).map (mkHR k)
theorem mkHL_len (k n : Nat) : (mkHL k n).length = n := by simp [mkHL]
theorem mkHL_get {k n i : Nat} (h : i < n) : (mkHL k n)[i]? = some (mkHR k i) := by simp [mkHL, h]
theorem hcell_set_same {w : World} {g o : Nat} {u v : Value} (h : w.cell? ⟨g, o, none⟩ = some u) : (w.setCell ⟨g, o, none⟩ v).cell? ⟨g, o, none⟩ = some v := World.cell?_setCell_same _ _ _ h
theorem hcell_set_off {w : World} {g o o' : Nat} {v : Value} (h : o ≠ o') : (w.setCell ⟨g, o', none⟩ v).cell? ⟨g, o, none⟩ = w.cell? ⟨g, o, none⟩ :=
  World.cell?_setCell_other _ _ _ _ (by intro e; have := congrArg Addr.off e; simp at this; omega)
/-- One field of one line written. -/
theorem hput_name {w : World} {g off i : Nat} {L : List Hdr} {r : Hdr} (h : HeadsAt w g off L) (hr : L[i]? = some r) (n : ByteArray) :
    HeadsAt (w.setCell ⟨g, off + i * 2, none⟩ (.string n)) g off (L.set i { r with name := n }) := by
  intro j q hq
  by_cases e : j = i
  · subst e
    have hl := (List.getElem?_eq_some_iff.1 hr).1
    rw [List.getElem?_set_self hl] at hq
    obtain rfl := Option.some.inj hq
    obtain ⟨a, c⟩ := h j r hr
    exact ⟨hcell_set_same a, by rw [hcell_set_off (by omega)]; exact c⟩
  · rw [List.getElem?_set_ne (fun k => e k.symm)] at hq
    obtain ⟨a, c⟩ := h j q hq
    exact ⟨by rw [hcell_set_off (by omega)]; exact a, by rw [hcell_set_off (by omega)]; exact c⟩
theorem hput_value {w : World} {g off i : Nat} {L : List Hdr} {r : Hdr} (h : HeadsAt w g off L) (hr : L[i]? = some r) (n : ByteArray) :
    HeadsAt (w.setCell ⟨g, off + i * 2 + 1, none⟩ (.string n)) g off (L.set i { r with value := n }) := by
  intro j q hq
  by_cases e : j = i
  · subst e
    have hl := (List.getElem?_eq_some_iff.1 hr).1
    rw [List.getElem?_set_self hl] at hq
    obtain rfl := Option.some.inj hq
    obtain ⟨a, c⟩ := h j r hr
    exact ⟨by rw [hcell_set_off (by omega)]; exact a, hcell_set_same c⟩
  · rw [List.getElem?_set_ne (fun k => e k.symm)] at hq
    obtain ⟨a, c⟩ := h j q hq
    exact ⟨by rw [hcell_set_off (by omega)]; exact a, by rw [hcell_set_off (by omega)]; exact c⟩
/-- The state of the marking loop: j lines are marked. -/
structure HMarked (w : World) (g off : Nat) (k n j : Nat) (L : List Hdr) (W : World) : Prop where
  len : L.length = n
  done : ∀ i, i < j → L[i]? = some (mkHR k i)
  items : HeadsAt W g off L
  thaw : ∀ o, W.frozen? ⟨g, o, none⟩ = false
  apart : Apart g w W
  low : Below g w W
  lt : g < W.heap.size
theorem HMarked.below {w : World} {g off k n j : Nat} {L : List Hdr} {W W' : World} (h : HMarked w g off k n j L W) (hb : Below W.heap.size W W') : HMarked w g off k n j L W' :=
  ⟨h.len, h.done, h.items.keep hb, fun o => by rw [hb.frozen (p := ⟨g, o, none⟩) h.lt, h.thaw], h.apart.trans (.below hb), h.low.trans (hb.mono (Nat.le_of_lt h.lt)), Nat.lt_of_lt_of_le h.lt hb.size⟩
theorem HMarked.set {w : World} {g off k n j o : Nat} {L L' : List Hdr} {W : World} {v : Value} (h : HMarked w g off k n j L W) (hl : L'.length = L.length) (hd : ∀ i, i < j → L'[i]? = L[i]?) (hi : HeadsAt (W.setCell ⟨g, o, none⟩ v) g off L') : HMarked w g off k n j L' (W.setCell ⟨g, o, none⟩ v) :=
  ⟨hl.trans h.len, fun i hi => (hd i hi).trans (h.done i hi), hi, fun o => by rw [World.frozen?_setCell, h.thaw], h.apart.trans (.set _ _ _ _), h.low.setCell (Nat.le_refl _) _, by simpa using h.lt⟩
end Go.Proofs.YtbandckkgdnlpaaDoor
/-
  markHeaderS and heldHeaderS.
-/
namespace Go.Proofs.YtbandckkgdnlpaaDoor
open Go.ChangeShapes Go.WideShapes Go.ChangeAt Go.RowKit Go.Sort
set_option maxRecDepth 100000 in
set_option maxHeartbeats 4000000 in
theorem markHeaderS_any (w : World) (g off cap n k : Nat) (l : List Hdr) (hn : l.length = n) (hn2 : n ≤ 1048576) (hk0 : 1 ≤ k) (hk1 : k ≤ 1000) (hi : HeadsAt w g off l) (hf : ∀ o, w.frozen? ⟨g, o, none⟩ = false) (hg : g < w.heap.size) :
    Calls Tryd.prog 20 #[.slice (some ⟨g, off, none⟩) n cap, .int .i64 (k : Int)] w fun e w' => e = .returned (.int .i64 ((k + 2 * n : Nat) : Int)) ∧ HeadsAt w' g off (mkHL k n) ∧ Apart g w w' ∧ Below g w w' ∧ ∀ o, w'.frozen? ⟨g, o, none⟩ = false := by
  have HST : Hid (HMarked w g off k n 0 l w) := ⟨hn, fun i h => by omega, hi, hf, .refl _ _, Below.refl _ _, hg⟩
  clear hi hf hg hn
  go_enter Tryd.func20, Tryd.ntmps20
  go_wp2_with fail
  go_loopw [1, 5] (fun x i wr => ∃ (j : Nat) (L : List Hdr), j ≤ n ∧ i = .int .i64 (j : Int) ∧ x = .int .i64 ((k + 2 * j : Nat) : Int) ∧ HMarked w g off k n j L wr) (fun _ i _ => n - (intOf i).toNat)
  case atStart => exact ⟨0, l, Nat.zero_le _, rfl, rfl, HST.out⟩
  case round =>
    obtain ⟨j, L, hj, rfl, rfl, hm⟩ := hrel
    have HM : Hid (HMarked w g off k n j L wr) := hm
    clear hm HST
    by_cases hlt : j < n
    · obtain ⟨r, hr⟩ : ∃ r, L[j]? = some r := ⟨L[j]'(by have := HM.out.len; omega), List.getElem?_eq_getElem _⟩
      have HR : Hid (L[j]? = some r) := hr
      clear hr
      have g0 : (0 : Int) ≤ j := by omega
      have g1 : (j : Int) < n := by omega
      have HT1 : Hid (∀ w, Calls Tryd.prog 39 #[.int .i64 ((k + 2 * j : Nat) : Int)] w fun e w' => e = .returned (.string (mkT (k + 2 * j))) ∧ Below w.heap.size w w') := markText_any (k + 2 * j) (by omega) (by omega)
      go_wp2_with fail
      refine (HT1.out _).mono ?_
      rintro e w1 ⟨rfl, hb1⟩
      have HM1 : Hid (HMarked w g off k n j L w1) := HM.out.below hb1
      clear hb1 HM
      obtain ⟨p1, p3⟩ := HM1.out.items j r HR.out
      have f1 := HM1.out.thaw (off + j * 2)
      have HT2 : Hid (∀ w, Calls Tryd.prog 39 #[.int .i64 ((k : Int) + 2 * j + 1)] w fun e w' => e = .returned (.string (mkT (k + 2 * j + 1))) ∧ Below w.heap.size w w') := by
        have := markText_any (k + 2 * j + 1) (by omega) (by omega)
        rw [show ((k + 2 * j + 1 : Nat) : Int) = (k : Int) + 2 * j + 1 by omega] at this
        exact this
      have hl : Hid (j < L.length) := (List.getElem?_eq_some_iff.1 HR.out).1
      have HM2 := HM1.out.set (L' := L.set j { r with name := mkT (k + 2 * j) }) (by simp) (fun i hi => by rw [List.getElem?_set_ne (by omega)]) (hput_name HM1.out.items HR.out (mkT (k + 2 * j)))
      have HM4 : Hid _ := HM2
      clear HM2 HM1
      go_wp2_with fail
      refine (HT2.out _).mono ?_
      rintro e w2 ⟨rfl, hb2⟩
      have HM5 : Hid (HMarked w g off k n j (L.set j { r with name := mkT (k + 2 * j) }) w2) := HM4.out.below hb2
      clear hb2 HM4 p1 p3 f1
      have hr5 : (L.set j { r with name := mkT (k + 2 * j) })[j]? = some { r with name := mkT (k + 2 * j) } := List.getElem?_set_self hl.out
      obtain ⟨p1, p3⟩ := HM5.out.items j _ hr5
      have f3 := HM5.out.thaw (off + j * 2 + 1)
      have HM6 := HM5.out.set (L' := (L.set j { r with name := mkT (k + 2 * j) }).set j (mkHR k j)) (by simp) (fun i hi => by rw [List.getElem?_set_ne (by omega)]) (by
        have := hput_value HM5.out.items hr5 (mkT (k + 2 * j + 1))
        exact this)
      have HM7 : Hid _ := HM6
      clear HM6 hr5 HM5
      go_wp2_with fail
      go_roundw
      case rel => exact ⟨j + 1, _, by omega, by go_num, by congr 1, HM7.out.len, fun i hi => by
        by_cases e : i = j
        · subst e; exact List.getElem?_set_self (by simpa using hl.out)
        · exact HM7.out.done i (by omega), HM7.out.items, HM7.out.thaw, HM7.out.apart, HM7.out.low, HM7.out.lt⟩
      case measure => simp [intOf]; omega
    · obtain rfl : j = n := by omega
      have HX : Hid (HeadsAt wr g off (mkHL k j)) := by
        have e : L = mkHL k j := by
          apply List.ext_getElem?
          intro i
          by_cases hi : i < j
          · rw [HM.out.done i hi, mkHL_get hi]
          · rw [List.getElem?_eq_none (by have := HM.out.len; omega), List.getElem?_eq_none (by rw [mkHL_len]; omega)]
        show HeadsAt _ _ _ _
        rw [← e]
        exact HM.out.items
      go_wp2_with fail
      go_ret
      exact ⟨rfl, HX.out, HM.out.apart, HM.out.low, HM.out.thaw⟩
end Go.Proofs.YtbandckkgdnlpaaDoor
/-
  The laws' comparing of two lists of items that are alike.
-/
namespace Go.Proofs.YtbandckkgdnlpaaDoor
open Go.ChangeShapes Go.WideShapes Go.ChangeAt Go.RowKit Go.Sort
set_option maxRecDepth 100000 in
set_option maxHeartbeats 2000000 in
theorem eqHeaderS_same (w : World) (b1 o1 b2 o2 c1 c2 : Nat) (l : List Hdr) (hl : l.length ≤ 1048576) (h1 : HeadsAt w b1 o1 l) (h2 : HeadsAt w b2 o2 l) :
    Calls Tryd.prog 11 #[.slice (some ⟨b1, o1, none⟩) l.length c1, .slice (some ⟨b2, o2, none⟩) l.length c2] w fun e w' => e = .returned (.bool true) ∧ Below w.heap.size w w' := by
  have H1 : Hid (HeadsAt w b1 o1 l) := h1
  have H2 : Hid (HeadsAt w b2 o2 l) := h2
  clear h1 h2
  generalize hn : l.length = n at *
  have HN : Hid (l.length = n) := hn
  clear hn
  go_enter Tryd.func11, Tryd.ntmps11
  go_wp2_with fail
  go_loopw [5] (fun i wr => ∃ k : Nat, k ≤ n ∧ i = .int .i64 k ∧ Below w.heap.size w wr) (fun i _ => n - (intOf i).toNat)
  case atStart => exact ⟨0, Nat.zero_le _, rfl, Below.refl _ _⟩
  case round =>
    obtain ⟨k, hk, rfl, hb⟩ := hrel
    by_cases hlt : k < n
    · obtain ⟨r, hr⟩ : ∃ r, l[k]? = some r := ⟨l[k]'(by have := HN.out; omega), List.getElem?_eq_getElem _⟩
      obtain ⟨p1, p3⟩ := (H1.out.keep hb) k r hr
      obtain ⟨q1, q3⟩ := (H2.out.keep hb) k r hr
      have x1 := cell_regrown p1
      have x3 := cell_regrown p3
      have y1 := cell_regrown q1
      have y3 := cell_regrown q3
      have cE : ∀ d os, Calls Tryd.prog 30 #[.agg #[.string r.name, .string r.value], .agg #[.string r.name, .string r.value]] (grow (redrawn wr d) os) fun e w'' => e = .returned (.bool true) ∧ ∃ p : Regrown, w'' = grow (redrawn wr p.d) p.os := fun d os => Calls.regrown_of (eqHeader_same r _)
      have g0 : (0 : Int) ≤ k := by omega
      have g : (k : Int) < n := by omega
      clear hr p1 p3 q1 q3
      generalize r.name = rn at *
      generalize r.value = rv at *
      go_wp2_with fail
      refine wp_region_quiet_below (by kernel_rfl) (by kernel_rfl) ?_
      repeat (go_big_quiet_step ((go_at_call 30; exact cE _ _)))
      refine wpQuiet_nil ?_
      intro w2 hw2
      have hbb : Below w.heap.size w w2 := by
        obtain ⟨⟨d, os⟩, rfl⟩ := hw2
        exact hb.trans ((below_regrown wr d os).mono hb.size)
      clear x1 x3 y1 y3 cE hw2 hb
      go_wp2_with fail
      go_roundw
      case rel => exact ⟨k + 1, by omega, by go_num, hbb⟩
      case measure => simp [intOf]; omega
    · go_wp2_with fail
      go_ret
      exact ⟨rfl, hb⟩
end Go.Proofs.YtbandckkgdnlpaaDoor
/-
  Head lines as a value: compared, marked, held.
-/
namespace Go.Proofs.YtbandckkgdnlpaaDoor
open Go.ChangeShapes Go.WideShapes Go.ChangeAt Go.RowKit Go.Sort
def HLV (w : World) (v : Value) (l : List Hdr) : Prop :=
  (v = .slice none 0 0 ∧ l = []) ∨ ∃ g cap, v = .slice (some ⟨g, 0, none⟩) l.length cap ∧ g < w.heap.size ∧ HeadsAt w g 0 l ∧ ∀ o, w.frozen? ⟨g, o, none⟩ = false
theorem OwnH.lv {w : World} {base : Nat} {v : Value} {l : List Hdr} (h : OwnH w base v l) : HLV w v l ∧ ∀ b, v.ownBlock = some b → base ≤ b := by
  have h0 := h
  obtain ⟨_, h1 | ⟨g, c, cur, rfl, hg, hh, _⟩⟩ := h
  · have e : l = [] := List.eq_nil_of_length_eq_zero h1.2
    exact ⟨.inl ⟨h1.1, e⟩, fun b hb => by rw [h1.1] at hb; cases hb⟩
  · refine ⟨.inr ⟨g, c, rfl, (Array.getElem?_eq_some_iff.1 hh).1, ?_, fun o => ?_⟩, fun b hb => ?_⟩
    · obtain ⟨a, c', e, hi⟩ := h0.at
      rcases hi with rfl | ⟨b, off, rfl, hat⟩
      · intro i r hr; simp at hr
      · simp only [Value.slice.injEq, Option.some.injEq] at e
        obtain ⟨e, _⟩ := e
        have e1 := congrArg Addr.block e
        have e2 := congrArg Addr.off e
        simp only at e1 e2
        rw [e1, e2]
        exact hat
    · simp [World.frozen?, hh]
    · simp only [Value.ownBlock, Option.some.injEq] at hb; omega
theorem HLV.below {w w' : World} {v : Value} {l : List Hdr} (h : HLV w v l) (hb : Below w.heap.size w w') : HLV w' v l := by
  rcases h with h | ⟨g, c, e, hg, hi, hf⟩
  · exact .inl h
  · exact .inr ⟨g, c, e, Nat.lt_of_lt_of_le hg hb.size, hi.keep hb, fun o => by rw [hb.frozen (p := ⟨g, o, none⟩) hg, hf]⟩
/-- All that was there, but for the memory of v, is as it was. -/
structure HAV (v : Value) (w w' : World) : Prop where
  size : w.heap.size ≤ w'.heap.size
  cell : ∀ b o, b < w.heap.size → v.ownBlock ≠ some b → w'.cell? ⟨b, o, none⟩ = w.cell? ⟨b, o, none⟩
  frozen : ∀ b o, b < w.heap.size → v.ownBlock ≠ some b → w'.frozen? ⟨b, o, none⟩ = w.frozen? ⟨b, o, none⟩
theorem HAV.below {v : Value} {w w' : World} (h : Below w.heap.size w w') : HAV v w w' :=
  ⟨h.size, fun b o hb _ => h.cell (p := ⟨b, o, none⟩) hb, fun b o hb _ => h.frozen (p := ⟨b, o, none⟩) hb⟩
theorem HLV.av {w w' : World} {v v1 : Value} {l : List Hdr} (h : HLV w v1 l) (k : HAV v w w') (hne : ∀ b, v1.ownBlock = some b → v.ownBlock ≠ some b) : HLV w' v1 l := by
  rcases h with h | ⟨g, c, rfl, hg, hi, hf⟩
  · exact .inl h
  · have hn := hne g rfl
    exact .inr ⟨g, c, rfl, Nat.lt_of_lt_of_le hg k.size, fun i r hr => by rw [k.cell g _ hg hn, k.cell g _ hg hn]; exact hi i r hr, fun o => by rw [k.frozen g o hg hn, hf]⟩
set_option maxHeartbeats 1000000 in
theorem eqHeaderS_nil (w : World) (a b : Option Addr) (c d : Nat) :
    Calls Tryd.prog 11 #[.slice a 0 c, .slice b 0 d] w fun e w' => e = .returned (.bool true) ∧ Below w.heap.size w w' := by
  go_enter Tryd.func11, Tryd.ntmps11
  go_wp2_with fail
  go_loop [5] (fun i => i = .int .i64 0) (fun _ => 0)
  case atStart => rfl
  case round =>
    obtain rfl := hrel
    go_wp2_with fail
    go_ret
    exact ⟨rfl, Below.refl _ _⟩
theorem eqHeaderS_lv (w : World) (v1 v2 : Value) (l : List Hdr) (hl : l.length ≤ 1048576) (h1 : HLV w v1 l) (h2 : HLV w v2 l) :
    Calls Tryd.prog 11 #[v1, v2] w fun e w' => e = .returned (.bool true) ∧ Below w.heap.size w w' := by
  rcases h1 with ⟨rfl, rfl⟩ | ⟨g, c, rfl, _, hi, _⟩
  · rcases h2 with ⟨rfl, _⟩ | ⟨g, c, rfl, _, _, _⟩
    · exact eqHeaderS_nil w _ _ _ _
    · exact eqHeaderS_nil w _ _ _ _
  · rcases h2 with ⟨rfl, rfl⟩ | ⟨g', c', rfl, _, hi', _⟩
    · exact eqHeaderS_nil w _ _ _ _
    · exact eqHeaderS_same w g 0 g' 0 c c' l hl hi hi'
set_option maxHeartbeats 1000000 in
theorem markHeaderS_nil (w : World) (a : Option Addr) (c k : Nat) :
    Calls Tryd.prog 20 #[.slice a 0 c, .int .i64 (k : Int)] w fun e w' => e = .returned (.int .i64 (k : Int)) ∧ Below w.heap.size w w' := by
  go_enter Tryd.func20, Tryd.ntmps20
  go_wp2_with fail
  go_loop [1, 5] (fun x i => x = .int .i64 (k : Int) ∧ i = .int .i64 0) (fun _ _ => 0)
  case atStart => exact ⟨rfl, rfl⟩
  case round =>
    obtain ⟨rfl, rfl⟩ := hrel
    go_wp2_with fail
    go_ret
    exact ⟨rfl, Below.refl _ _⟩
theorem markHeaderS_lv (w : World) (v : Value) (l : List Hdr) (hl : l.length ≤ 1048576) (h : HLV w v l) (base : Nat) (hb : ∀ b, v.ownBlock = some b → base ≤ b) (hbs : base ≤ w.heap.size) :
    Calls Tryd.prog 20 #[v, .int .i64 1] w fun e w' => e = .returned (.int .i64 ((1 + 2 * l.length : Nat) : Int)) ∧ HLV w' v (mkHL 1 l.length) ∧ HAV v w w' ∧ Below base w w' := by
  rcases h with ⟨rfl, rfl⟩ | ⟨g, c, rfl, hg, hi, hf⟩
  · exact (markHeaderS_nil w none 0 1).mono fun _ _ ⟨h1, h2⟩ => ⟨h1, .inl ⟨rfl, rfl⟩, .below h2, h2.mono hbs⟩
  · refine (markHeaderS_any w g 0 c l.length 1 l rfl hl (by omega) (by omega) hi hf hg).mono ?_
    rintro e w' ⟨h1, h2, h3, h4, h5⟩
    have hne : ∀ b, (Value.slice (some ⟨g, 0, none⟩) l.length c).ownBlock ≠ some b → b ≠ g := fun b hb e => hb (by subst e; rfl)
    refine ⟨h1, ?_, ⟨h3.size, fun b o hb hn => h3.cell b o hb (hne b hn), fun b o hb hn => h3.frozen b o hb (hne b hn)⟩, h4.mono (hb g rfl)⟩
    exact .inr ⟨g, c, by rw [mkHL_len], Nat.lt_of_lt_of_le hg h3.size, h2, h5⟩
end Go.Proofs.YtbandckkgdnlpaaDoor
/-
  Results of head lines: compared, marked, held.
-/
namespace Go.Proofs.YtbandckkgdnlpaaDoor
open Go.ChangeShapes Go.WideShapes Go.ChangeAt Go.RowKit Go.Sort
/-- A result in a variable. -/
structure HHRoom (w : World) (b : Nat) (c : Int) (v : Value) : Prop where
  c0 : w.cell? ⟨b, 0, none⟩ = some (.int .i64 c)
  c1 : w.cell? ⟨b, 1, none⟩ = some v
theorem HHRoom.lt {w : World} {b : Nat} {c : Int} {v : Value} (h : HHRoom w b c v) : b < w.heap.size := block_lt_of_cell h.c0
theorem HHRoom.keep {w w' : World} {b : Nat} {c : Int} {v : Value} (h : HHRoom w b c v) (hb : Below w.heap.size w w') : HHRoom w' b c v :=
  ⟨by rw [hb.cell (p := ⟨b, 0, none⟩) h.lt, h.c0], by rw [hb.cell (p := ⟨b, 1, none⟩) h.lt, h.c1]⟩
theorem HHRoom.av {w w' : World} {b : Nat} {c : Int} {v u : Value} (h : HHRoom w b c v) (k : HAV u w w') (hn : u.ownBlock ≠ some b) : HHRoom w' b c v :=
  ⟨by rw [k.cell b 0 h.lt hn, h.c0], by rw [k.cell b 1 h.lt hn, h.c1]⟩
theorem hroom_new (w : World) (c : Int) (a : Option Addr) (n cap : Nat) (t : TypeId) : HHRoom (w.alloc (.cells #[.int .i64 c, .slice a n cap] t)) w.heap.size c (.slice a n cap) := ⟨by simp, by simp⟩
theorem HLV.block_lt {w : World} {v : Value} {l : List Hdr} (h : HLV w v l) : ∀ b, v.ownBlock = some b → b < w.heap.size := by
  rcases h with ⟨rfl, _⟩ | ⟨g, c, rfl, hg, _⟩
  · intro b hb; cases hb
  · intro b hb; simp only [Value.ownBlock, Option.some.injEq] at hb; omega
/-- What a call hands back: head lines in memory of its own. -/
structure HGot (L : List Hdr) (base : Nat) (a : Option Addr) (n cap : Nat) (w : World) : Prop where
  len : n = L.length
  lv : HLV w (.slice a n cap) L
  ge : ∀ b, (Value.slice a n cap).ownBlock = some b → base ≤ b
theorem HRes.got {c : Int} {L : List Hdr} {base : Nat} {e : Ending} {w : World} (h : HRes c L base e w) : ∃ a n cap, e = .returned (.agg #[.int .i64 c, .slice a n cap]) ∧ HGot L base a n cap w := by
  obtain ⟨v, rfl, ho⟩ := h
  obtain ⟨a, c, rfl, _⟩ := ho.at
  exact ⟨a, _, c, rfl, rfl, ho.lv.1, ho.lv.2⟩
structure HMarkedR (w : World) (base : Nat) (a : Option Addr) (n ca : Nat) (w' : World) : Prop where
  lv : HLV w' (.slice a n ca) (mkHL 1 n)
  av : HAV (.slice a n ca) w w'
  low : Below base w w'
/-- Two results in variables, and their lines. -/
structure HKK (w : World) (X1 X2 : Nat) (c : Int) (v1 v2 : Value) (L1 L2 : List Hdr) (W : World) : Prop where
  b : Below w.heap.size w W
  r1 : HHRoom W X1 c v1
  r2 : HHRoom W X2 c v2
  l1 : HLV W v1 L1
  l2 : HLV W v2 L2
theorem HKK.keep {w : World} {X1 X2 : Nat} {c : Int} {v1 v2 : Value} {L1 L2 : List Hdr} {W W' : World} (h : HKK w X1 X2 c v1 v2 L1 L2 W) (hb : Below W.heap.size W W') : HKK w X1 X2 c v1 v2 L1 L2 W' :=
  ⟨h.b.trans (hb.mono h.b.size), h.r1.keep hb, h.r2.keep hb, h.l1.below hb, h.l2.below hb⟩
theorem HKK.av {w : World} {X1 X2 : Nat} {c : Int} {v1 v2 u : Value} {L1 L2 : List Hdr} {W W' : World} (h : HKK w X1 X2 c v1 v2 L1 L2 W) (k : HAV u W W') (hb : Below w.heap.size W W') (h1 : u.ownBlock ≠ some X1) (h2 : u.ownBlock ≠ some X2) (h3 : ∀ b, v1.ownBlock = some b → u.ownBlock ≠ some b) (h4 : ∀ b, v2.ownBlock = some b → u.ownBlock ≠ some b) : HKK w X1 X2 c v1 v2 L1 L2 W' :=
  ⟨h.b.trans hb, h.r1.av k h1, h.r2.av k h2, h.l1.av k h3, h.l2.av k h4⟩
/-- Lines of the law's own, that may be written. -/
structure HMine (W : World) (B : Nat) (l : List Hdr) : Prop where
  at0 : HeadsAt W B 0 l
  free : ∀ o, W.frozen? ⟨B, o, none⟩ = false
  lt : B < W.heap.size
theorem HMine.keep {W W' : World} {B : Nat} {l : List Hdr} (h : HMine W B l) (hb : Below W.heap.size W W') : HMine W' B l :=
  ⟨h.at0.keep hb, fun o => by rw [hb.frozen (p := ⟨B, o, none⟩) h.lt]; exact h.free o, Nat.lt_of_lt_of_le h.lt hb.size⟩
theorem HMine.mark {W : World} {B base : Nat} {l : List Hdr} (h : HMine W B l) (hl : l.length ≤ 1048576) (hb : base ≤ B) : ∃ q : Int, ¬ q < 0 ∧ Calls Tryd.prog 20 #[.slice (some ⟨B, 0, none⟩) l.length l.length, .int .i64 1] W fun e w' => e = .returned (.int .i64 q) ∧ HAV (.slice (some ⟨B, 0, none⟩) l.length l.length) W w' ∧ Below base W w' :=
  ⟨((1 + 2 * l.length : Nat) : Int), by omega, (markHeaderS_lv W (.slice (some ⟨B, 0, none⟩) l.length l.length) l hl (.inr ⟨B, _, rfl, h.lt, h.at0, h.free⟩) base (fun q hq => by simp only [Value.ownBlock, Option.some.injEq] at hq; omega) (by have := h.lt; omega)).mono fun _ _ ⟨h1, _, h3, h4⟩ => ⟨h1, h3, h4⟩⟩
end Go.Proofs.YtbandckkgdnlpaaDoor
/-
  Rows of texts: the laws' own helpers over them.
-/
namespace Go.Proofs.YtbandckkgdnlpaaDoor
open Go.ChangeShapes Go.WideShapes Go.ChangeAt Go.RowKit Go.Sort
def TAt (w : World) (b off : Nat) (l : List ByteArray) : Prop := ∀ (i : Nat) c, l[i]? = some c → w.cell? ⟨b, off + i, none⟩ = some (.string c)
theorem TAt.keep {w w' : World} {b off : Nat} {l : List ByteArray} (h : TAt w b off l) (hb : Below w.heap.size w w') : TAt w' b off l := by
  intro i c hc
  have := h i c hc
  rw [hb.cell (block_lt_of_cell this)]; exact this
def TIn (w : World) (a : Option Addr) (l : List ByteArray) : Prop := l = [] ∨ ∃ b off, a = some ⟨b, off, none⟩ ∧ TAt w b off l
theorem TIn.keep {w w' : World} {a : Option Addr} {l : List ByteArray} (h : TIn w a l) (hb : Below w.heap.size w w') : TIn w' a l := by
  rcases h with h | ⟨b, off, e, h⟩
  · exact .inl h
  · exact .inr ⟨b, off, e, h.keep hb⟩
structure TMine (W : World) (B : Nat) (l : List ByteArray) : Prop where
  at0 : TAt W B 0 l
  free : ∀ o, o < l.length → W.frozen? ⟨B, o, none⟩ = false
  lt : B < W.heap.size
theorem TMine.keep {W W' : World} {B : Nat} {l : List ByteArray} (h : TMine W B l) (hb : Below W.heap.size W W') : TMine W' B l :=
  ⟨h.at0.keep hb, fun o ho => by rw [hb.frozen (p := ⟨B, o, none⟩) h.lt]; exact h.free o ho, Nat.lt_of_lt_of_le h.lt hb.size⟩
theorem TMine.in {W : World} {B : Nat} {l : List ByteArray} (h : TMine W B l) : TIn W (some ⟨B, 0, none⟩) l := .inr ⟨B, 0, rfl, h.at0⟩
/-- How much room is left behind the texts; -1: none. -/
def szTs (left : Int) : List ByteArray → Int
  | [] => left
  | r :: l => if left - (r.size : Int) < 0 then -1 else szTs (left - (r.size : Int)) l
def szTL (left : Int) (l : List ByteArray) : Int := if left - (l.length : Int) < 0 then -1 else szTs (left - (l.length : Int)) l
theorem szTs_le (l : List ByteArray) : ∀ left, szTs left l ≤ left ∨ szTs left l = -1 := by
  induction l with
  | nil => intro left; exact .inl (Int.le_refl _)
  | cons r l ih =>
    intro left
    rw [szTs]
    split
    · exact .inr rfl
    · rcases ih (left - (r.size : Int)) with h | h
      · left; omega
      · exact .inr h
theorem szTL_room {left : Int} {l : List ByteArray} (hl : left ≤ 1048576) (hz : ¬ szTL left l < 0) : l.length ≤ 1048576 ∧ ∀ x ∈ l, x.size ≤ 1048576 := by
  unfold szTL at hz
  by_cases c : left - (l.length : Int) < 0
  · rw [if_pos c] at hz; omega
  · rw [if_neg c] at hz
    refine ⟨by omega, ?_⟩
    have : ∀ (l : List ByteArray) (left : Int), left ≤ 1048576 → ¬ szTs left l < 0 → ∀ x ∈ l, x.size ≤ 1048576 := fun l => by
      induction l with
      | nil => intro _ _ _ x hx; cases hx
      | cons r l ih =>
        intro left h1 h2 x hx
        rw [szTs] at h2
        by_cases c : left - (r.size : Int) < 0
        · rw [if_pos c] at h2; omega
        · rw [if_neg c] at h2
          rcases List.mem_cons.1 hx with rfl | hx
          · omega
          · exact ih _ (by omega) h2 x hx
    exact this l _ (by omega) hz
set_option maxHeartbeats 2000000 in
theorem szStringS_any (w : World) (a : Option Addr) (cap : Nat) (l : List ByteArray) (hl : l.length ≤ maxLen) (hi : TIn w a l) (hz : ∀ x ∈ l, x.size ≤ maxLen) (left : Int) (h0 : 0 ≤ left) (h1 : left ≤ 1048576) :
    Calls Tryd.prog 12 #[.slice a l.length cap, .int .i64 left] w fun e w' => e = .returned (.int .i64 (szTL left l)) ∧ Below w.heap.size w w' := by
  unfold maxLen at hl
  have HI : Hid (TIn w a l) := hi
  have HZ : Hid (∀ x ∈ l, x.size ≤ maxLen) := hz
  clear hi hz
  generalize hn : l.length = n at *
  have HN : Hid (l.length = n) := hn
  by_cases c0 : left - (n : Int) < 0
  · have HE : Hid (szTL left l = -1) := by show _ = _; unfold szTL; rw [hn, if_pos c0]
    clear hn
    go_enter Tryd.func12, Tryd.ntmps12
    go_wp2
    go_ret
    exact ⟨ret_int HE.out.symm, Below.refl _ _⟩
  have HE : Hid (szTL left l = szTs (left - (n : Int)) l) := by show _ = _; unfold szTL; rw [hn, if_neg c0]
  have c0' : 0 ≤ left - (n : Int) := by omega
  clear hn
  go_enter Tryd.func12, Tryd.ntmps12
  go_wp2_with fail
  go_loopw [1, 5] (fun x i wr => ∃ (k : Nat) (c : Int), k ≤ n ∧ i = .int .i64 k ∧ x = .int .i64 c ∧ 0 ≤ c ∧ c ≤ 1048576 ∧ szTL left l = szTs c (l.drop k) ∧ Below w.heap.size w wr) (fun _ i _ => n - (intOf i).toNat)
  case atStart => exact ⟨0, left - (n : Int), Nat.zero_le _, rfl, rfl, c0', by omega, HE.out, Below.refl _ _⟩
  case round =>
    obtain ⟨k, c, hk, rfl, rfl, c2, c3, hs, hb⟩ := hrel
    have HS : Hid (szTL left l = szTs c (l.drop k)) := hs
    clear hs HE
    by_cases hlt : k < n
    · obtain ⟨r, hr⟩ : ∃ r, l[k]? = some r := ⟨l[k]'(by have := HN.out; omega), List.getElem?_eq_getElem _⟩
      rcases HI.out with h | ⟨b, off, rfl, hat⟩
      · subst h; simp at hr
      have p1 := (hat.keep hb) k r hr
      have z1 := HZ.out r (List.mem_of_getElem? hr)
      have HS2 : Hid (szTL left l = if c - (r.size : Int) < 0 then -1 else szTs (c - (r.size : Int)) (l.drop (k + 1))) := by
        show _ = _
        obtain ⟨hk2, hr2⟩ := List.getElem?_eq_some_iff.1 hr
        rw [HS.out, List.drop_eq_getElem_cons hk2, hr2, szTs]
      have g : (k : Int) < n := by omega
      unfold maxLen at z1
      clear HS hr hat HI HZ
      by_cases hd : c - (r.size : Int) < 0
      · have HF : Hid (szTL left l = -1) := by show _ = _; rw [HS2.out, if_pos hd]
        clear HS2
        go_wp2_with fail
        go_ret
        exact ⟨ret_int HF.out.symm, hb⟩
      · have HF : Hid (szTL left l = szTs (c - (r.size : Int)) (l.drop (k + 1))) := by show _ = _; rw [HS2.out, if_neg hd]
        clear HS2
        go_wp2_with fail
        go_roundw
        case rel => exact ⟨k + 1, c - (r.size : Int), by omega, by go_num, rfl, by omega, by omega, HF.out, hb⟩
        case measure => simp [intOf]; omega
    · have HF : Hid (szTL left l = c) := by
        show _ = _
        rw [HS.out, List.drop_of_length_le (by have := HN.out; omega), szTs]
      clear HS
      go_wp2_with fail
      go_ret
      exact ⟨ret_int HF.out.symm, hb⟩
theorem infoTextR : (Tryd.prog.info? 9).map (fun i => (i.zero, i.size, i.bytes)) = some (some (.string ⟨#[]⟩), 1, 16) := by kernel_rfl
theorem TAt.put {w : World} {G : Nat} {l : List ByteArray} {k n : Nat} {c : ByteArray} (h : TAt w G 0 (l.take k)) (hr : l[k]? = some c) (hm : HRoom w G n) (hk : k < n) : TAt (w.setCell ⟨G, k, none⟩ (.string c)) G 0 (l.take (k + 1)) := by
  intro i q hq
  have hi : i < k + 1 := by
    have := (List.getElem?_eq_some_iff.1 hq).1
    simp at this; omega
  rw [List.getElem?_take_of_lt hi] at hq
  simp only [Nat.zero_add]
  by_cases e : i = k
  · subst e
    rw [hr] at hq
    obtain rfl := Option.some.inj hq
    obtain ⟨⟨u0, g0⟩, _⟩ := hm i (by omega)
    exact World.cell?_setCell_same _ _ _ g0
  · have hq2 : (l.take k)[i]? = some q := by rw [List.getElem?_take_of_lt (by omega)]; exact hq
    have a1 := h i q hq2
    simp only [Nat.zero_add] at a1
    rw [World.cell?_setCell_other _ _ _ _ (hoff_ne (by omega))]; exact a1
set_option maxHeartbeats 2000000 in
theorem toStringS_any (w : World) (a : Option Addr) (cap : Nat) (l : List ByteArray) (hl : l.length ≤ 1048576) (hi : TIn w a l) :
    Calls Tryd.prog 14 #[.slice a l.length cap] w fun e w' => e = .returned (.slice (some ⟨w.heap.size, 0, none⟩) l.length l.length) ∧ TMine w' w.heap.size l ∧ Below w.heap.size w w' := by
  have HI : Hid (TIn w a l) := hi
  obtain ⟨i0, hi0, hz0, hz1, hz2⟩ := info_parts infoTextR
  clear hi
  generalize hn : l.length = n at *
  have HN : Hid (l.length = n) := hn
  clear hn
  go_enter Tryd.func14, Tryd.ntmps14
  go_wp2_with (at_make; refine wpList_make_full w rfl _ _ 32 rfl w.heap.size 9 i0 _ 1 Tryd.underlying32 hi0 hz0 hz1 _ _ _ _ n rfl rfl rfl rfl (by rw [hz2]; omega) (by unfold maxLen; omega) (Nat.le_refl _) ?_; intro w1 hown hgrow)
  have HR1 : Hid (HRoom w1 w.heap.size n ∧ (w.heap.size < w1.heap.size ∧ ∀ o, w1.frozen? ⟨w.heap.size, o, none⟩ = false) ∧ Below w.heap.size w w1) := by
    refine ⟨fun j hj => ⟨?_, hown.frozenAt j⟩, ⟨?lt, fun o => hown.frozenAt o⟩, (Below.refl _ _).grown hgrow (Nat.le_refl _) (fun q hq => by cases hq)⟩
    case lt =>
      obtain ⟨_, h | ⟨g, c, cur, e, _, hh, _⟩⟩ := hown
      · cases h.1
      · simp only [Value.slice.injEq, Option.some.injEq] at e
        have e1 := congrArg Addr.block e.1
        simp only at e1
        rw [e1]
        exact (Array.getElem?_eq_some_iff.1 hh).1
    have h1 := hown.cellAt j (by omega)
    have h2 : j < (madeCells (Value.string ⟨#[]⟩).cells (n * 1)).toList.length := by have := hown.1; omega
    exact ⟨_, h1.trans (List.getElem?_eq_getElem h2)⟩
  clear hown hgrow
  go_loopw [4] (fun i wr => ∃ k : Nat, k ≤ n ∧ i = .int .i64 k ∧ TAt wr w.heap.size 0 (l.take k) ∧ HRoom wr w.heap.size n ∧ (w.heap.size < wr.heap.size ∧ ∀ o, wr.frozen? ⟨w.heap.size, o, none⟩ = false) ∧ Below w.heap.size w wr) (fun i _ => n - (intOf i).toNat)
  case atStart => exact ⟨0, Nat.zero_le _, rfl, fun i r hr => by simp at hr, HR1.out.1, HR1.out.2.1, HR1.out.2.2⟩
  case round =>
    obtain ⟨k, hk, rfl, hat, hroom, hfr, hb⟩ := hrel
    have HFR : Hid (w.heap.size < wr.heap.size ∧ ∀ o, wr.frozen? ⟨w.heap.size, o, none⟩ = false) := hfr
    clear hfr HR1
    by_cases hlt : k < n
    · obtain ⟨c, hr⟩ : ∃ r, l[k]? = some r := ⟨l[k]'(by have := HN.out; omega), List.getElem?_eq_getElem _⟩
      rcases HI.out with h | ⟨b, off, rfl, hsrc⟩
      · subst h; simp at hr
      have p1 := hsrc k c hr
      have hblt : b < w.heap.size := block_lt_of_cell p1
      have p2 : wr.cell? ⟨b, off + k, none⟩ = some (.string c) := by rw [hb.cell (p := ⟨b, off + k, none⟩) hblt]; exact p1
      obtain ⟨⟨u0, g0⟩, f0⟩ := hroom k (by omega)
      have HP : Hid (TAt (wr.setCell ⟨w.heap.size, k, none⟩ (.string c)) w.heap.size 0 (l.take (k + 1)) ∧ HRoom (wr.setCell ⟨w.heap.size, k, none⟩ (.string c)) w.heap.size n) := ⟨hat.put hr hroom hlt, hroom.set _ _⟩
      have g : (k : Int) < n := by omega
      have HB : Hid (Below w.heap.size w wr) := hb
      clear hat hroom hr hsrc p1 HI hb
      go_wp2_with fail
      go_roundw
      case rel => exact ⟨k + 1, by omega, by go_num, HP.out.1, HP.out.2, ⟨by simpa using HFR.out.1, fun o => by rw [World.frozen?_setCell]; exact HFR.out.2 o⟩, HB.out.setCell (Nat.le_refl _) _⟩
      case measure => simp [intOf]; omega
    · have HF : Hid (TMine wr w.heap.size l) := by
        have e : l.take k = l := List.take_of_length_le (by have := HN.out; omega)
        rw [e] at hat
        exact ⟨hat, fun o _ => HFR.out.2 o, HFR.out.1⟩
      clear hat hroom
      go_wp2_with fail
      go_ret
      exact ⟨rfl, HF.out, hb⟩
set_option maxHeartbeats 2000000 in
theorem eqStringS_same (w : World) (a1 a2 : Option Addr) (c1 c2 : Nat) (l : List ByteArray) (hl : l.length ≤ 1048576) (h1 : TIn w a1 l) (h2 : TIn w a2 l) :
    Calls Tryd.prog 16 #[.slice a1 l.length c1, .slice a2 l.length c2] w fun e w' => e = .returned (.bool true) ∧ Below w.heap.size w w' := by
  have H1 : Hid (TIn w a1 l) := h1
  have H2 : Hid (TIn w a2 l) := h2
  clear h1 h2
  generalize hn : l.length = n at *
  have HN : Hid (l.length = n) := hn
  clear hn
  go_enter Tryd.func16, Tryd.ntmps16
  go_wp2_with fail
  go_loopw [5] (fun i wr => ∃ k : Nat, k ≤ n ∧ i = .int .i64 k ∧ Below w.heap.size w wr) (fun i _ => n - (intOf i).toNat)
  case atStart => exact ⟨0, Nat.zero_le _, rfl, Below.refl _ _⟩
  case round =>
    obtain ⟨k, hk, rfl, hb⟩ := hrel
    by_cases hlt : k < n
    · obtain ⟨r, hr⟩ : ∃ r, l[k]? = some r := ⟨l[k]'(by have := HN.out; omega), List.getElem?_eq_getElem _⟩
      rcases H1.out with h | ⟨b1, o1, rfl, hs1⟩
      · subst h; simp at hr
      rcases H2.out with h | ⟨b2, o2, rfl, hs2⟩
      · subst h; simp at hr
      have p1 := (hs1.keep hb) k r hr
      have p2 := (hs2.keep hb) k r hr
      have x1 := cell_regrown p1
      have x2 := cell_regrown p2
      have g0 : (0 : Int) ≤ k := by omega
      have g : (k : Int) < n := by omega
      clear hr p1 p2 hs1 hs2 H1 H2
      go_wp2_with fail
      refine wp_region_quiet_below (by kernel_rfl) (by kernel_rfl) ?_
      repeat (go_big_quiet_step (first | fail))
      refine wpQuiet_nil ?_
      intro w2 hw2
      have hbb : Below w.heap.size w w2 := by
        obtain ⟨⟨d, os⟩, rfl⟩ := hw2
        exact hb.trans ((below_regrown wr d os).mono hb.size)
      clear x1 x2 hw2 hb
      go_wp2_with fail
      go_roundw
      case rel => exact ⟨k + 1, by omega, by go_num, hbb⟩
      case measure => simp [intOf]; omega
    · go_wp2_with fail
      go_ret
      exact ⟨rfl, hb⟩
end Go.Proofs.YtbandckkgdnlpaaDoor
/-
  Rows of texts as a value: compared, marked, held.
-/
namespace Go.Proofs.YtbandckkgdnlpaaDoor
open Go.ChangeShapes Go.WideShapes Go.ChangeAt Go.RowKit Go.Sort
def mkTL (k n : Nat) : List ByteArray := (List.range n).map fun j => mkT (k + j)
theorem mkTL_len (k n : Nat) : (mkTL k n).length = n := by simp [mkTL]
theorem mkTL_get {k n i : Nat} (h : i < n) : (mkTL k n)[i]? = some (mkT (k + i)) := by simp [mkTL, h]
theorem tput {w : World} {g off i : Nat} {L : List ByteArray} {r : ByteArray} (h : TAt w g off L) (hr : L[i]? = some r) (n : ByteArray) : TAt (w.setCell ⟨g, off + i, none⟩ (.string n)) g off (L.set i n) := by
  intro j q hq
  by_cases e : j = i
  · subst e
    have hl := (List.getElem?_eq_some_iff.1 hr).1
    rw [List.getElem?_set_self hl] at hq
    obtain rfl := Option.some.inj hq
    exact hcell_set_same (h j r hr)
  · rw [List.getElem?_set_ne (fun k => e k.symm)] at hq
    rw [hcell_set_off (by omega)]
    exact h j q hq
/-- The state of the marking loop: j texts are marked. -/
structure TMarked (w : World) (g off : Nat) (k n j : Nat) (L : List ByteArray) (W : World) : Prop where
  len : L.length = n
  done : ∀ i, i < j → L[i]? = some (mkT (k + i))
  items : TAt W g off L
  thaw : ∀ o, W.frozen? ⟨g, o, none⟩ = false
  apart : Apart g w W
  low : Below g w W
  lt : g < W.heap.size
theorem TMarked.below {w : World} {g off k n j : Nat} {L : List ByteArray} {W W' : World} (h : TMarked w g off k n j L W) (hb : Below W.heap.size W W') : TMarked w g off k n j L W' :=
  ⟨h.len, h.done, h.items.keep hb, fun o => by rw [hb.frozen (p := ⟨g, o, none⟩) h.lt, h.thaw], h.apart.trans (.below hb), h.low.trans (hb.mono (Nat.le_of_lt h.lt)), Nat.lt_of_lt_of_le h.lt hb.size⟩
theorem TMarked.set {w : World} {g off k n j : Nat} {L : List ByteArray} {W : World} {r : ByteArray} (h : TMarked w g off k n j L W) (hr : L[j]? = some r) : TMarked w g off k n (j + 1) (L.set j (mkT (k + j))) (W.setCell ⟨g, off + j, none⟩ (.string (mkT (k + j)))) := by
  refine ⟨by rw [List.length_set]; exact h.len, fun i hi => ?_, tput h.items hr _, fun o => by rw [World.frozen?_setCell, h.thaw], h.apart.trans (.set _ _ _ _), h.low.setCell (Nat.le_refl _) _, by simpa using h.lt⟩
  by_cases e : i = j
  · subst e; exact List.getElem?_set_self (List.getElem?_eq_some_iff.1 hr).1
  · rw [List.getElem?_set_ne (fun k => e k.symm)]; exact h.done i (by omega)
set_option maxRecDepth 100000 in
set_option maxHeartbeats 4000000 in
theorem markStringS_any (w : World) (g off cap n k : Nat) (l : List ByteArray) (hn : l.length = n) (hn2 : n ≤ 1048576) (hk0 : 1 ≤ k) (hk1 : k ≤ 1000) (hi : TAt w g off l) (hf : ∀ o, w.frozen? ⟨g, o, none⟩ = false) (hg : g < w.heap.size) :
    Calls Tryd.prog 40 #[.slice (some ⟨g, off, none⟩) n cap, .int .i64 (k : Int)] w fun e w' => e = .returned (.int .i64 ((k + n : Nat) : Int)) ∧ TAt w' g off (mkTL k n) ∧ Apart g w w' ∧ Below g w w' ∧ ∀ o, w'.frozen? ⟨g, o, none⟩ = false := by
  have HST : Hid (TMarked w g off k n 0 l w) := ⟨hn, fun i h => by omega, hi, hf, .refl _ _, Below.refl _ _, hg⟩
  clear hi hf hg hn
  go_enter Tryd.func40, Tryd.ntmps40
  go_wp2_with fail
  go_loopw [1, 5] (fun x i wr => ∃ (j : Nat) (L : List ByteArray), j ≤ n ∧ i = .int .i64 (j : Int) ∧ x = .int .i64 ((k + j : Nat) : Int) ∧ TMarked w g off k n j L wr) (fun _ i _ => n - (intOf i).toNat)
  case atStart => exact ⟨0, l, Nat.zero_le _, rfl, rfl, HST.out⟩
  case round =>
    obtain ⟨j, L, hj, rfl, rfl, hm⟩ := hrel
    have HM : Hid (TMarked w g off k n j L wr) := hm
    clear hm HST
    by_cases hlt : j < n
    · obtain ⟨r, hr⟩ : ∃ r, L[j]? = some r := ⟨L[j]'(by have := HM.out.len; omega), List.getElem?_eq_getElem _⟩
      have HR : Hid (L[j]? = some r) := hr
      clear hr
      have g0 : (0 : Int) ≤ j := by omega
      have g1 : (j : Int) < n := by omega
      have HT1 : Hid (∀ w, Calls Tryd.prog 39 #[.int .i64 ((k + j : Nat) : Int)] w fun e w' => e = .returned (.string (mkT (k + j))) ∧ Below w.heap.size w w') := markText_any (k + j) (by omega) (by omega)
      go_wp2_with fail
      refine (HT1.out _).mono ?_
      rintro e w1 ⟨rfl, hb1⟩
      have HM1 : Hid (TMarked w g off k n j L w1) := HM.out.below hb1
      clear hb1 HM
      have p1 := HM1.out.items j r HR.out
      have f1 := HM1.out.thaw (off + j)
      have HM7 : Hid (TMarked w g off k n (j + 1) (L.set j (mkT (k + j))) (w1.setCell ⟨g, off + j, none⟩ (.string (mkT (k + j))))) := HM1.out.set HR.out
      clear HM1
      go_wp2_with fail
      go_roundw
      case rel => exact ⟨j + 1, _, by omega, by go_num, by congr 1, HM7.out⟩
      case measure => simp [intOf]; omega
    · obtain rfl : j = n := by omega
      have HX : Hid (TAt wr g off (mkTL k j)) := by
        have e : L = mkTL k j := by
          apply List.ext_getElem?
          intro i
          by_cases hi : i < j
          · rw [HM.out.done i hi, mkTL_get hi]
          · rw [List.getElem?_eq_none (by have := HM.out.len; omega), List.getElem?_eq_none (by rw [mkTL_len]; omega)]
        show TAt _ _ _ _
        rw [← e]
        exact HM.out.items
      go_wp2_with fail
      go_ret
      exact ⟨rfl, HX.out, HM.out.apart, HM.out.low, HM.out.thaw⟩
set_option maxRecDepth 100000 in
set_option maxHeartbeats 4000000 in
theorem heldStringS_any (w : World) (g off cap n k : Nat) (hn2 : n ≤ 1048576) (hk0 : 1 ≤ k) (hk1 : k ≤ 1000) (hi : TAt w g off (mkTL k n)) :
    Calls Tryd.prog 41 #[.slice (some ⟨g, off, none⟩) n cap, .int .i64 (k : Int)] w fun e w' => e = .returned (.int .i64 ((k + n : Nat) : Int)) ∧ Below w.heap.size w w' := by
  have HI : Hid (TAt w g off (mkTL k n)) := hi
  clear hi
  go_enter Tryd.func41, Tryd.ntmps41
  go_wp2_with fail
  go_loopw [1, 5] (fun x i wr => ∃ (j : Nat), j ≤ n ∧ i = .int .i64 (j : Int) ∧ x = .int .i64 ((k + j : Nat) : Int) ∧ Below w.heap.size w wr) (fun _ i _ => n - (intOf i).toNat)
  case atStart => exact ⟨0, Nat.zero_le _, rfl, rfl, Below.refl _ _⟩
  case round =>
    obtain ⟨j, hj, rfl, rfl, hb⟩ := hrel
    have KB : Hid (Below w.heap.size w wr) := hb
    clear hb
    by_cases hlt : j < n
    · have q1 := (HI.out.keep KB.out) j _ (mkTL_get hlt)
      have g0 : (0 : Int) ≤ j := by omega
      have g1 : (j : Int) < n := by omega
      have HT1 : Hid (∀ w, Calls Tryd.prog 39 #[.int .i64 ((k : Int) + j)] w fun e w' => e = .returned (.string (mkT (k + j))) ∧ Below w.heap.size w w') := by
        have := markText_any (k + j) (by omega) (by omega)
        rw [show ((k + j : Nat) : Int) = (k : Int) + j by omega] at this
        exact this
      generalize mkT (k + j) = t1 at *
      have x1 := cell_regrown q1
      clear q1
      have cE : ∀ d os, Calls Tryd.prog 39 #[.int .i64 ((k : Int) + j)] (grow (redrawn wr d) os) fun e w'' => e = .returned (.string t1) ∧ ∃ p : Regrown, w'' = grow (redrawn wr p.d) p.os := fun d os => Calls.regrown_of (HT1.out _)
      go_wp2_with fail
      refine wp_region_quiet_below (by kernel_rfl) (by kernel_rfl) ?_
      repeat (go_big_quiet_step ((go_at_call 39; exact cE _ _)))
      refine wpQuiet_nil ?_
      intro w3 hw3
      have KB3 : Hid (Below w.heap.size w w3) := by
        obtain ⟨⟨d, os⟩, rfl⟩ := hw3
        exact KB.out.trans ((below_regrown wr d os).mono KB.out.size)
      clear x1 cE hw3 KB
      go_wp2_with fail
      go_roundw
      case rel => exact ⟨j + 1, by omega, by go_num, by congr 1, KB3.out⟩
      case measure => simp [intOf]; omega
    · obtain rfl : j = n := by omega
      go_wp2_with fail
      go_ret
      exact ⟨rfl, KB.out⟩
def TLV (w : World) (v : Value) (l : List ByteArray) : Prop :=
  (v = .slice none 0 0 ∧ l = []) ∨ ∃ g cap, v = .slice (some ⟨g, 0, none⟩) l.length cap ∧ g < w.heap.size ∧ TAt w g 0 l ∧ ∀ o, w.frozen? ⟨g, o, none⟩ = false
theorem OwnS.lv {w : World} {base : Nat} {v : Value} {l : List ByteArray} (h : OwnS w base v l) : TLV w v l ∧ ∀ b, v.ownBlock = some b → base ≤ b := by
  have h0 := h
  obtain ⟨_, h1 | ⟨g, c, cur, rfl, hg, hh, _⟩⟩ := h
  · have e : l = [] := List.eq_nil_of_length_eq_zero h1.2
    exact ⟨.inl ⟨h1.1, e⟩, fun b hb => by rw [h1.1] at hb; cases hb⟩
  · refine ⟨.inr ⟨g, c, rfl, (Array.getElem?_eq_some_iff.1 hh).1, fun i x hx => ?_, fun o => ?_⟩, fun b hb => ?_⟩
    · have hk := (List.getElem?_eq_some_iff.1 hx).1
      have := World.ownsRow.cellAt h0 i (by omega)
      rw [Nat.zero_add, this]
      simp [textsW, hx]
    · simp [World.frozen?, hh]
    · simp only [Value.ownBlock, Option.some.injEq] at hb; omega
theorem TLV.below {w w' : World} {v : Value} {l : List ByteArray} (h : TLV w v l) (hb : Below w.heap.size w w') : TLV w' v l := by
  rcases h with h | ⟨g, c, e, hg, hi, hf⟩
  · exact .inl h
  · exact .inr ⟨g, c, e, Nat.lt_of_lt_of_le hg hb.size, hi.keep hb, fun o => by rw [hb.frozen (p := ⟨g, o, none⟩) hg, hf]⟩
theorem TLV.av {w w' : World} {v v1 : Value} {l : List ByteArray} (h : TLV w v1 l) (k : HAV v w w') (hne : ∀ b, v1.ownBlock = some b → v.ownBlock ≠ some b) : TLV w' v1 l := by
  rcases h with h | ⟨g, c, rfl, hg, hi, hf⟩
  · exact .inl h
  · have hn := hne g rfl
    exact .inr ⟨g, c, rfl, Nat.lt_of_lt_of_le hg k.size, fun i r hr => by rw [k.cell g _ hg hn]; exact hi i r hr, fun o => by rw [k.frozen g o hg hn, hf]⟩
theorem TLV.tin {w : World} {v : Value} {l : List ByteArray} (h : TLV w v l) : ∃ a c, v = .slice a l.length c ∧ TIn w a l := by
  rcases h with ⟨rfl, rfl⟩ | ⟨g, c, rfl, _, hi, _⟩
  · exact ⟨none, 0, rfl, .inl rfl⟩
  · exact ⟨_, c, rfl, .inr ⟨g, 0, rfl, hi⟩⟩
theorem eqStringS_lv (w : World) (v1 v2 : Value) (l : List ByteArray) (hl : l.length ≤ 1048576) (h1 : TLV w v1 l) (h2 : TLV w v2 l) :
    Calls Tryd.prog 16 #[v1, v2] w fun e w' => e = .returned (.bool true) ∧ Below w.heap.size w w' := by
  obtain ⟨a1, c1, rfl, t1⟩ := h1.tin
  obtain ⟨a2, c2, rfl, t2⟩ := h2.tin
  exact eqStringS_same w a1 a2 c1 c2 l hl t1 t2
set_option maxHeartbeats 1000000 in
theorem markStringS_nil (w : World) (a : Option Addr) (c k : Nat) :
    Calls Tryd.prog 40 #[.slice a 0 c, .int .i64 (k : Int)] w fun e w' => e = .returned (.int .i64 (k : Int)) ∧ Below w.heap.size w w' := by
  go_enter Tryd.func40, Tryd.ntmps40
  go_wp2_with fail
  go_loop [1, 5] (fun x i => x = .int .i64 (k : Int) ∧ i = .int .i64 0) (fun _ _ => 0)
  case atStart => exact ⟨rfl, rfl⟩
  case round =>
    obtain ⟨rfl, rfl⟩ := hrel
    go_wp2_with fail
    go_ret
    exact ⟨rfl, Below.refl _ _⟩
set_option maxHeartbeats 1000000 in
theorem heldStringS_nil (w : World) (a : Option Addr) (c k : Nat) :
    Calls Tryd.prog 41 #[.slice a 0 c, .int .i64 (k : Int)] w fun e w' => e = .returned (.int .i64 (k : Int)) ∧ Below w.heap.size w w' := by
  go_enter Tryd.func41, Tryd.ntmps41
  go_wp2_with fail
  go_loop [1, 5] (fun x i => x = .int .i64 (k : Int) ∧ i = .int .i64 0) (fun _ _ => 0)
  case atStart => exact ⟨rfl, rfl⟩
  case round =>
    obtain ⟨rfl, rfl⟩ := hrel
    go_wp2_with fail
    go_ret
    exact ⟨rfl, Below.refl _ _⟩
theorem markStringS_lv (w : World) (v : Value) (l : List ByteArray) (hl : l.length ≤ 1048576) (h : TLV w v l) (base : Nat) (hb : ∀ b, v.ownBlock = some b → base ≤ b) (hbs : base ≤ w.heap.size) :
    Calls Tryd.prog 40 #[v, .int .i64 1] w fun e w' => e = .returned (.int .i64 ((1 + l.length : Nat) : Int)) ∧ TLV w' v (mkTL 1 l.length) ∧ HAV v w w' ∧ Below base w w' := by
  rcases h with ⟨rfl, rfl⟩ | ⟨g, c, rfl, hg, hi, hf⟩
  · exact (markStringS_nil w none 0 1).mono fun _ _ ⟨h1, h2⟩ => ⟨h1, .inl ⟨rfl, rfl⟩, .below h2, h2.mono hbs⟩
  · refine (markStringS_any w g 0 c l.length 1 l rfl hl (by omega) (by omega) hi hf hg).mono ?_
    rintro e w' ⟨h1, h2, h3, h4, h5⟩
    have hne : ∀ b, (Value.slice (some ⟨g, 0, none⟩) l.length c).ownBlock ≠ some b → b ≠ g := fun b hb e => hb (by subst e; rfl)
    refine ⟨h1, ?_, ⟨h3.size, fun b o hb hn => h3.cell b o hb (hne b hn), fun b o hb hn => h3.frozen b o hb (hne b hn)⟩, h4.mono (hb g rfl)⟩
    exact .inr ⟨g, c, by rw [mkTL_len], Nat.lt_of_lt_of_le hg h3.size, h2, h5⟩
theorem heldStringS_lv (w : World) (v : Value) (n : Nat) (hl : n ≤ 1048576) (h : TLV w v (mkTL 1 n)) :
    Calls Tryd.prog 41 #[v, .int .i64 1] w fun e w' => e = .returned (.int .i64 ((1 + n : Nat) : Int)) ∧ Below w.heap.size w w' := by
  rcases h with ⟨rfl, h0⟩ | ⟨g, c, rfl, _, hi, _⟩
  · have e := congrArg List.length h0
    rw [mkTL_len] at e
    simp at e
    subst e
    exact heldStringS_nil w none 0 1
  · rw [mkTL_len]
    exact heldStringS_any w g 0 c n 1 hl (by omega) (by omega) hi
theorem TLV.block_lt {w : World} {v : Value} {l : List ByteArray} (h : TLV w v l) : ∀ b, v.ownBlock = some b → b < w.heap.size := by
  rcases h with ⟨rfl, _⟩ | ⟨g, c, rfl, hg, _⟩
  · intro b hb; cases hb
  · intro b hb; simp only [Value.ownBlock, Option.some.injEq] at hb; omega
/-- What a call hands back: texts in memory of its own. -/
structure TGot (L : List ByteArray) (base : Nat) (a : Option Addr) (n cap : Nat) (w : World) : Prop where
  len : n = L.length
  lv : TLV w (.slice a n cap) L
  ge : ∀ b, (Value.slice a n cap).ownBlock = some b → base ≤ b
def TRes (c : Int) (L : List ByteArray) (base : Nat) (e : Ending) (w : World) : Prop := ∃ v, e = .returned (.agg #[.int .i64 c, v]) ∧ OwnS w base v L
theorem TRes.got {c : Int} {L : List ByteArray} {base : Nat} {e : Ending} {w : World} (h : TRes c L base e w) : ∃ a n cap, e = .returned (.agg #[.int .i64 c, .slice a n cap]) ∧ TGot L base a n cap w := by
  obtain ⟨v, rfl, ho⟩ := h
  obtain ⟨a, c, rfl, _⟩ := ho.lv.1.tin
  exact ⟨a, _, c, rfl, rfl, ho.lv.1, ho.lv.2⟩
set_option maxHeartbeats 1000000 in
theorem eqNamesResult_lv (w : World) (c : Int) (a b : Option Addr) (n m ca cb : Nat) (l : List ByteArray) (hl : l.length ≤ 1048576) (h1 : TLV w (.slice a n ca) l) (h2 : TLV w (.slice b m cb) l) :
    Calls Tryd.prog 19 #[.agg #[.int .i64 c, .slice a n ca], .agg #[.int .i64 c, .slice b m cb]] w fun e w' => e = .returned (.bool true) ∧ Below w.heap.size w w' := by
  have HE : Hid (∀ W, Below w.heap.size w W → Calls Tryd.prog 16 #[.slice a n ca, .slice b m cb] W fun e w' => e = .returned (.bool true) ∧ Below W.heap.size W w') := fun W hb => eqStringS_lv W _ _ l hl (h1.below hb) (h2.below hb)
  clear h1 h2 hl
  go_enter Tryd.func19, Tryd.ntmps19
  go_wp2_with fail
  refine (HE.out _ (((Below.refl _ _).alloc (Nat.le_refl _) _).alloc (by simp) _)).mono ?_
  rintro e w1 ⟨rfl, hb⟩
  have KB : Hid (Below w.heap.size w w1) := (((Below.refl w.heap.size w).alloc (Nat.le_refl _) _).alloc (by simp) _).trans (hb.mono (by simp; omega))
  clear hb HE
  go_wp2_with fail
  go_ret
  exact ⟨rfl, KB.out⟩
structure TMarkedR (w : World) (base : Nat) (a : Option Addr) (n ca : Nat) (w' : World) : Prop where
  lv : TLV w' (.slice a n ca) (mkTL 1 n)
  av : HAV (.slice a n ca) w w'
  low : Below base w w'
set_option maxRecDepth 100000 in
set_option maxHeartbeats 1000000 in
theorem markNamesResult_lv (w : World) (c : Int) (a : Option Addr) (n ca : Nat) (l : List ByteArray) (hn : n = l.length) (hl : l.length ≤ 1000) (h : TLV w (.slice a n ca) l) (base : Nat) (hb : ∀ b, (Value.slice a n ca).ownBlock = some b → base ≤ b) (hbs : base ≤ w.heap.size) :
    Calls Tryd.prog 21 #[.agg #[.int .i64 c, .slice a n ca], .int .i64 1] w fun e w' => e = .returned (.int .i64 ((1 + n : Nat) : Int)) ∧ TMarkedR w base a n ca w' := by
  have HE : Hid (Calls Tryd.prog 40 #[.slice a n ca, .int .i64 1] (w.alloc (.cells #[.int .i64 c, .slice a n ca] 39)) fun e w' => e = .returned (.int .i64 ((1 + n : Nat) : Int)) ∧ TMarkedR w base a n ca w') := by
    have := markStringS_lv (w.alloc (.cells #[.int .i64 c, .slice a n ca] 39)) (.slice a n ca) l (by omega) (h.below ((Below.refl _ _).alloc (Nat.le_refl _) _)) base hb (by simp; omega)
    rw [← hn] at this
    refine this.mono ?_
    intro e w1 ⟨he, hlv, hav, hbb⟩
    refine ⟨he, hlv, ⟨by have := hav.size; simp at this; omega, fun b o h1 h2 => ?_, fun b o h1 h2 => ?_⟩, ((Below.refl base w).alloc hbs _).trans hbb⟩
    · rw [hav.cell b o (by simp; omega) h2]
      exact ((Below.refl w.heap.size w).alloc (Nat.le_refl _) _).cell (p := ⟨b, o, none⟩) h1
    · rw [hav.frozen b o (by simp; omega) h2]
      exact ((Below.refl w.heap.size w).alloc (Nat.le_refl _) _).frozen (p := ⟨b, o, none⟩) h1
  clear h hl hb
  obtain ⟨q, hq⟩ : ∃ q, Hid (((1 + n : Nat) : Int) = q) := ⟨_, rfl⟩
  rw [hq.out] at HE
  rw [hq.out]
  clear hq hn hbs
  go_enter Tryd.func21, Tryd.ntmps21
  go_wp2_with fail
  refine HE.out.mono ?_
  rintro e w1 ⟨rfl, hk⟩
  have K : Hid (TMarkedR w base a n ca w1) := hk
  clear hk HE
  go_wp2_with fail
  go_ret
  exact ⟨rfl, K.out⟩
set_option maxHeartbeats 1000000 in
theorem heldNamesResult_lv (w : World) (c : Int) (a : Option Addr) (n ca : Nat) (hl : n ≤ 1000) (h : TLV w (.slice a n ca) (mkTL 1 n)) :
    Calls Tryd.prog 22 #[.agg #[.int .i64 c, .slice a n ca], .int .i64 1] w fun e w' => e = .returned (.int .i64 ((1 + n : Nat) : Int)) ∧ Below w.heap.size w w' := by
  have HE := heldStringS_lv (w.alloc (.cells #[.int .i64 c, .slice a n ca] 39)) (.slice a n ca) n (by omega) (h.below ((Below.refl _ _).alloc (Nat.le_refl _) _))
  clear h
  have g : ¬ ((1 + n : Nat) : Int) < 0 := by omega
  generalize ((1 + n : Nat) : Int) = q at *
  go_enter Tryd.func22, Tryd.ntmps22
  go_wp2_with fail
  refine HE.mono ?_
  rintro e w1 ⟨rfl, hb⟩
  have KB : Hid (Below w.heap.size w w1) := ((Below.refl _ _).alloc (Nat.le_refl _) _).trans (hb.mono (by simp))
  clear hb HE
  go_wp2_with fail
  go_ret
  exact ⟨rfl, KB.out⟩
/-- Two results in variables, and their lines. -/
structure TKK (w : World) (X1 X2 : Nat) (c : Int) (v1 v2 : Value) (L1 L2 : List ByteArray) (W : World) : Prop where
  b : Below w.heap.size w W
  r1 : HHRoom W X1 c v1
  r2 : HHRoom W X2 c v2
  l1 : TLV W v1 L1
  l2 : TLV W v2 L2
theorem TKK.keep {w : World} {X1 X2 : Nat} {c : Int} {v1 v2 : Value} {L1 L2 : List ByteArray} {W W' : World} (h : TKK w X1 X2 c v1 v2 L1 L2 W) (hb : Below W.heap.size W W') : TKK w X1 X2 c v1 v2 L1 L2 W' :=
  ⟨h.b.trans (hb.mono h.b.size), h.r1.keep hb, h.r2.keep hb, h.l1.below hb, h.l2.below hb⟩
theorem TKK.av {w : World} {X1 X2 : Nat} {c : Int} {v1 v2 u : Value} {L1 L2 : List ByteArray} {W W' : World} (h : TKK w X1 X2 c v1 v2 L1 L2 W) (k : HAV u W W') (hb : Below w.heap.size W W') (h1 : u.ownBlock ≠ some X1) (h2 : u.ownBlock ≠ some X2) (h3 : ∀ b, v1.ownBlock = some b → u.ownBlock ≠ some b) (h4 : ∀ b, v2.ownBlock = some b → u.ownBlock ≠ some b) : TKK w X1 X2 c v1 v2 L1 L2 W' :=
  ⟨h.b.trans hb, h.r1.av k h1, h.r2.av k h2, h.l1.av k h3, h.l2.av k h4⟩
end Go.Proofs.YtbandckkgdnlpaaDoor
/-
  What the model's l1Cut answers.
-/
namespace Go.Proofs.YtbandckkgdnlpaaDoor
open Go.ChangeShapes Go.WideShapes Go.ChangeAt Go.RowKit
theorem kdrop (s : ByteArray) (k : Nat) (h : k < s.size) : s.data.toList.drop k = s[k] :: s.data.toList.drop (k + 1) := by
  rw [List.drop_eq_getElem_cons (by simpa using h)]; rfl
theorem kcur (s : ByteArray) (f k : Nat) (hf : f ≤ k) (hk : k < s.size) : (s.data.toList.drop f).take (k + 1 - f) = (s.data.toList.drop f).take (k - f) ++ [s[k]] := by
  have hz := hsize_list s
  rw [show k + 1 - f = (k - f) + 1 from by omega, List.take_add_one, List.getElem?_drop, show f + (k - f) = k from by omega, List.getElem?_eq_getElem (by omega)]
  rfl
/-- O pieces are cut, the next one began at f, k is looked at. -/
structure CtAt (s : ByteArray) (c : UInt8) (O : List (List UInt8)) (f k : Nat) : Prop where
  fk : f ≤ k
  ks : k ≤ s.size
  ol : O.length ≤ k
  eq : cutG c [] s.data.toList = O ++ cutG c ((s.data.toList.drop f).take (k - f)) (s.data.toList.drop k)
theorem CtAt.start (s : ByteArray) (c : UInt8) : CtAt s c [] 0 0 := ⟨Nat.le_refl _, Nat.zero_le _, Nat.le_refl _, by simp⟩
theorem CtAt.hit {s : ByteArray} {c : UInt8} {O : List (List UInt8)} {f k : Nat} (h : CtAt s c O f k) (hk : k < s.size) (hc : s[k] = c) : CtAt s c (O ++ [(s.data.toList.drop f).take (k - f)]) (k + 1) (k + 1) :=
  ⟨Nat.le_refl _, by omega, by simp; exact h.ol, by rw [h.eq, kdrop s k hk, hc, cutG_at]; simp⟩
theorem CtAt.on {s : ByteArray} {c : UInt8} {O : List (List UInt8)} {f k : Nat} (h : CtAt s c O f k) (hk : k < s.size) (hc : ¬ s[k] = c) : CtAt s c O f (k + 1) :=
  ⟨by have := h.fk; omega, by omega, by have := h.ol; omega, by rw [h.eq, kdrop s k hk, cutG_on _ _ hc, kcur s f k h.fk hk]⟩
theorem CtAt.last {s : ByteArray} {c : UInt8} {O : List (List UInt8)} {f : Nat} (h : CtAt s c O f s.size) : cutG c [] s.data.toList = O ++ [(s.data.toList.drop f).take (s.size - f)] := by
  rw [h.eq, List.drop_of_length_le (i := s.size) (by rw [hsize_list]; omega)]
  rfl
def CutRes (ps : List (List UInt8)) (base : Nat) (e : Ending) (w : World) : Prop := ∃ v, e = .returned v ∧ OwnS w base v (ps.map hmk)
set_option maxRecDepth 100000 in
set_option maxHeartbeats 8000000 in
theorem l1Cut_any (s : ByteArray) (c : UInt8) (w : World) (hs : s.size ≤ 6000) :
    Calls Tryd.prog 54 #[.string s, .int .u8 (c.toNat : Int)] w fun e w' => CutRes (cutG c [] s.data.toList) w.heap.size e w' ∧ Below w.heap.size w w' := by
  go_enter Tryd.func54, Tryd.ntmps54
  go_wp2_with fail
  go_loopw [5, 6, 7] (fun v fr i wr => ∃ (O : List (List UInt8)) (f k : Nat), fr = .int .i64 (f : Int) ∧ i = .int .i64 (k : Int) ∧ (CtAt s c O f k ∨ (k = s.size + 1 ∧ cutG c [] s.data.toList = O)) ∧ OwnS wr w.heap.size v (O.map hmk) ∧ Below w.heap.size w wr) (fun _ _ i _ => s.size + 1 - (intOf i).toNat)
  case atStart => exact ⟨[], 0, 0, rfl, rfl, .inl (CtAt.start s c), ownS_made0 w w.heap.size (Nat.le_refl _), (Below.refl _ _).alloc (Nat.le_refl _) _⟩
  case round =>
    obtain ⟨O, f, k, rfl, rfl, hL, ho, hb⟩ := hrel
    have HO : Hid (OwnS wr w.heap.size u5 (O.map hmk)) := ho
    have hzb := hb.size
    clear ho
    rcases hL with hL | ⟨hk, hL⟩
    · have HL : Hid (CtAt s c O f k) := hL
      have hfk := hL.fk
      have hks := hL.ks
      have hol := hL.ol
      clear hL
      have g0 : (k : Int) ≤ s.size := by omega
      have gf0 : (0 : Int) ≤ f := by omega
      have gfk : (f : Int) ≤ k := by omega
      have HE : Hid (s.extract f k = hmk ((s.data.toList.drop f).take (k - f))) := hext_mk s f k
      have HM : Hid ((O ++ [(s.data.toList.drop f).take (k - f)]).map hmk = O.map hmk ++ [s.extract f k]) := by show _ = _; rw [List.map_append, HE.out]; rfl
      have hml : (O.map hmk).length ≤ 6000 := by rw [List.length_map]; omega
      by_cases hlt : k < s.size
      · have de : ((k : Int) == (s.size : Int)) = false := by simp; omega
        by_cases hc : s[k] = c
        · have HN : Hid (CtAt s c (O ++ [(s.data.toList.drop f).take (k - f)]) (k + 1) (k + 1)) := HL.out.hit hlt hc
          have dc : ((s[k].toNat : Int) == (c.toNat : Int)) = true := by rw [hc]; simp
          clear HL hc HE
          generalize O.map hmk = OM at *
          go_wp2_with (at_builtin; refine wpList_append_str _ rfl (.tmp 26) (.tmp 31) rfl w.heap.size _ OM (s.extract f k) rfl rfl HO.out (by omega) hzb ?_; intro v4 w4 HO4 hb4 hz4)
          go_roundw
          case rel => exact ⟨_, k + 1, k + 1, by go_num, by go_num, .inl HN.out, by rw [HM.out]; exact HO4, hb.trans hb4⟩
          case measure => simp [intOf]; omega
        · have HN : Hid (CtAt s c O f (k + 1)) := HL.out.on hlt hc
          have dc : ((s[k].toNat : Int) == (c.toNat : Int)) = false := by
            rw [beq_eq_false_iff_ne]
            intro e
            exact hc (UInt8.toNat_inj.1 (by omega))
          clear HL hc HE HM
          go_wp2_with fail
          go_roundw
          case rel => exact ⟨O, f, k + 1, rfl, by go_num, .inl HN.out, HO.out, hb⟩
          case measure => simp [intOf]; omega
      · have ek : k = s.size := by omega
        subst ek
        have HN : Hid (cutG c [] s.data.toList = O ++ [(s.data.toList.drop f).take (s.size - f)]) := HL.out.last
        have de : ((s.size : Int) == (s.size : Int)) = true := by simp
        clear HL HE
        generalize O.map hmk = OM at *
        go_wp2_with (at_builtin; refine wpList_append_str _ rfl (.tmp 26) (.tmp 31) rfl w.heap.size _ OM (s.extract f s.size) rfl rfl HO.out (by omega) hzb ?_; intro v4 w4 HO4 hb4 hz4)
        go_roundw
        case rel => exact ⟨_, s.size + 1, s.size + 1, by go_num, by go_num, .inr ⟨rfl, HN.out⟩, by rw [HM.out]; exact HO4, hb.trans hb4⟩
        case measure => simp [intOf]
    · have g0 : ¬ (k : Int) ≤ s.size := by omega
      have HL : Hid (cutG c [] s.data.toList = O) := hL
      clear hL
      go_wp2_with fail
      go_ret
      exact ⟨⟨_, rfl, by rw [HL.out]; exact HO.out⟩, hb⟩
end Go.Proofs.YtbandckkgdnlpaaDoor
/-
  TagsOf, on both sides.
-/
namespace Go.Proofs.YtbandckkgdnlpaaDoor
open Go.ChangeShapes Go.WideShapes Go.ChangeAt Go.RowKit Go.Sort
theorem ttake {ps : List (List UInt8)} {k : Nat} {p : List UInt8} (h : ps[k]? = some p) : ps.take (k + 1) = ps.take k ++ [p] := by rw [List.take_add_one, h]; rfl
theorem hmk_ne {p : List UInt8} (h : ¬ p = []) : ¬ hmk p = ⟨#[]⟩ := fun e => h (by
  have := congrArg (fun t : ByteArray => t.data.toList) e
  simpa [hmk] using this)
theorem tset {W : World} {base b o : Nat} {v u : Value} {l : List ByteArray} (h : OwnS W base v l) (hb : b < base) : OwnS (W.setCell ⟨b, o, none⟩ u) base v l := by
  obtain ⟨h1, h2⟩ := h
  refine ⟨h1, ?_⟩
  rcases h2 with h2 | ⟨g, c, cur, e, hg, hh, hrest⟩
  · exact .inl h2
  · exact .inr ⟨g, c, cur, e, hg, by rw [Below.heap_setCell _ _ _ g (fun e => by simp only at e; omega)]; exact hh, hrest⟩
set_option maxRecDepth 100000 in
set_option maxHeartbeats 8000000 in
theorem l6Tags_any (w : World) (a : Option Addr) (cap : Nat) (l : List Hdr) (h0 : headsC l = 0) (hi : HdsIn w a l) :
    Calls Tryd.prog 36 #[.slice a l.length cap] w fun e w' => (∃ v, e = .returned v ∧ OwnS w' w.heap.size v (tagsL l)) ∧ Below w.heap.size w w' := by
  obtain ⟨h20, hz⟩ := first_sizes h0
  have H1 := l4Join_any w a cap l ⟨#[115, 117, 114, 114, 111, 103, 97, 116, 101, 45, 107, 101, 121]⟩ h20 hz (by decide) hi
  have hus := under_size (x := tagN) h0
  rw [tagS_low, show (⟨(hjoinL (valsOf tagN l)).toArray⟩ : ByteArray) = underT tagN l from rfl] at H1
  have HTL : Hid (tagsL l = (tagP (underT tagN l)).map hmk) := rfl
  obtain ⟨t, ht⟩ : ∃ t, Hid (underT tagN l = t) := ⟨_, rfl⟩
  rw [ht.out] at H1 hus HTL
  clear hi hz h0
  generalize l.length = n at *
  generalize anyV (valsOf tagN l) = av at *
  clear ht
  generalize tagsL l = TL at *
  obtain ⟨ps, hps⟩ : ∃ ps, Hid (cutG 32 [] t.data.toList = ps) := ⟨_, rfl⟩
  have HPS : Hid (TL = (fullP ps).map hmk) := by rw [← hps.out]; exact HTL.out
  have HPL : Hid (ps.length ≤ 5000) := by
    have h1 := tcut_len 32 t.data.toList []
    have h2 : t.data.toList.length = t.size := by simp
    rw [hps.out] at h1
    show _ ≤ _
    omega
  have HCUT : Hid (∀ W, Calls Tryd.prog 54 #[.string t, .int .u8 32] W fun e w' => CutRes ps W.heap.size e w' ∧ Below W.heap.size W w') := fun W => by
    have := l1Cut_any t 32 W (by omega)
    rw [hps.out] at this
    exact this
  clear hps HTL
  go_enter Tryd.func36, Tryd.ntmps36
  go_wp2_with fail
  refine H1.mono ?_
  rintro e w1 ⟨rfl, hb1⟩
  have HB1 : Hid (Below w.heap.size w w1) := hb1
  clear hb1 H1
  go_wp2_with fail
  refine (HCUT.out _).mono ?_
  rintro e w2 ⟨⟨v, rfl, ho⟩, hb2⟩
  obtain ⟨ca, cc, hv, htin⟩ := ho.lv.1.tin
  rw [List.length_map] at hv
  subst hv
  have HT : Hid (TIn w2 ca (ps.map hmk)) := htin
  have HB2 : Hid (Below w.heap.size w w2) := HB1.out.trans (hb2.mono HB1.out.size)
  clear ho htin hb2 HB1 HCUT
  obtain ⟨N, hN⟩ : ∃ N, Hid (ps.length = N) := ⟨_, rfl⟩
  have hNl : N ≤ 5000 := by rw [← hN.out]; exact HPL.out
  rw [hN.out]
  go_wp2_with fail
  go_loopw [6, 7] (fun v i wr => ∃ k : Nat, k ≤ N ∧ i = .int .i64 (k : Int) ∧ OwnS wr w2.heap.size v ((fullP (ps.take k)).map hmk) ∧ Below w2.heap.size w2 wr) (fun _ i _ => N - (intOf i).toNat)
  case atStart => exact ⟨0, Nat.zero_le _, rfl, ownS_made0 w2 w2.heap.size (Nat.le_refl _), (Below.refl _ _).alloc (Nat.le_refl _) _⟩
  case round =>
    obtain ⟨k, hk, rfl, ho, hb⟩ := hrel
    have HO : Hid (OwnS wr w2.heap.size u6 ((fullP (ps.take k)).map hmk)) := ho
    have hzb := hb.size
    clear ho
    by_cases hlt : k < N
    · obtain ⟨p, hp⟩ : ∃ r, ps[k]? = some r := ⟨ps[k]'(by have := hN.out; omega), List.getElem?_eq_getElem _⟩
      rcases HT.out with h | ⟨b, off, rfl, hat⟩
      · have := congrArg List.length h
        rw [List.length_map, hN.out] at this
        simp at this
        omega
      have p1 := (hat.keep hb) k (hmk p) (by rw [List.getElem?_map, hp]; rfl)
      have g0 : (0 : Int) ≤ k := by omega
      have g1 : (k : Int) < N := by omega
      have HTK := ttake hp
      have hol : ((fullP (ps.take k)).map hmk).length ≤ 5000 := by
        have h1 : (fullP (ps.take k)).length ≤ (ps.take k).length := List.length_filter_le _ _
        rw [List.length_take] at h1
        rw [List.length_map]
        omega
      clear hat hp
      by_cases hpe : p = []
      · subst hpe
        have HN : Hid ((fullP (ps.take (k + 1))).map hmk = (fullP (ps.take k)).map hmk) := by show _ = _; rw [HTK, fullP_snoc_nil]
        clear HTK hol
        have p1' : wr.cell? ⟨b, off + k, none⟩ = some (.string ⟨#[]⟩) := p1
        clear p1
        go_wp2_with fail
        go_roundw
        case rel => exact ⟨k + 1, by omega, by go_num, by rw [HN.out]; exact HO.out, hb⟩
        case measure => simp [intOf]; omega
      · have HN : Hid ((fullP (ps.take (k + 1))).map hmk = (fullP (ps.take k)).map hmk ++ [hmk p]) := by show _ = _; rw [HTK, fullP_snoc _ _ hpe, List.map_append]; rfl
        have ne := etxt_ne (hmk_ne hpe)
        clear HTK hpe
        generalize hmk p = x at *
        generalize (fullP (ps.take k)).map hmk = OM at *
        go_wp2_with (at_builtin; refine wpList_append_str _ rfl (.tmp 27) (.tmp 32) rfl w2.heap.size _ OM x rfl rfl HO.out (by omega) hzb ?_; intro v4 w4 HO4 hb4 hz4)
        go_roundw
        case rel => exact ⟨k + 1, by omega, by go_num, by rw [HN.out]; exact HO4, hb.trans hb4⟩
        case measure => simp [intOf]; omega
    · obtain rfl : k = N := by omega
      have HR : Hid (OwnS wr w.heap.size u6 TL) := by
        rw [HPS.out]
        have e : ps.take k = ps := List.take_of_length_le (by rw [hN.out]; omega)
        have := HO.out
        rw [e] at this
        exact this.lower HB2.out.size
      have HBR : Hid (Below w.heap.size w wr) := HB2.out.trans (hb.mono HB2.out.size)
      clear hb
      go_wp2_with fail
      go_ret
      exact ⟨⟨_, rfl, HR.out⟩, HBR.out⟩
set_option maxHeartbeats 1000000 in
theorem isBlank_any (x : Nat) (w : World) : Calls Tryd.prog 56 #[.int .i32 (x : Int)] w fun e w' => e = .returned (.bool (blank x)) ∧ w' = w := by
  have HE : Hid (blank x = ((x : Int) == 32)) := by
    show _ = _
    unfold blank
    by_cases h : x = 32
    · subst h; rfl
    · rw [beq_eq_false_iff_ne.2 h, beq_eq_false_iff_ne.2 (by omega)]
  go_enter Tryd.func56, Tryd.ntmps56
  go_wp2
  go_ret
  exact ⟨by rw [HE.out]; rfl, rfl⟩
set_option maxRecDepth 100000 in
set_option maxHeartbeats 2000000 in
theorem blankParted_any (s : ByteArray) (w : World) (hs : s.size ≤ 6000) (ha : ∀ (i : Nat) (h : i < s.size), s[i].toNat < 128) :
    Calls Tryd.prog 37 #[.string s] w fun e w' => (∃ v, e = .returned v ∧ OwnS w' w.heap.size v ((tagP s).map hmk)) ∧ Below w.heap.size w w' := by
  have C : Calls Tryd.prog 55 #[.string s, .func (.func 56) #[] #[]] w fun e w' => ∃ A, e = .returned (.slice (some ⟨A, 0, none⟩) (tagP s).length (tagP s).length) ∧ OwnS w' w.heap.size (.slice (some ⟨A, 0, none⟩) (tagP s).length (tagP s).length) ((tagP s).map hmk) ∧ Below w.heap.size w w' := by
    have hp : PredAtRunes Tryd.prog 56 #[] blank w := fun W x _ _ => (isBlank_any x W).mono fun e w' ⟨h1, h2⟩ => ⟨h1, 0, by rw [h2]; rfl⟩
    have h := Any.strings_FieldsFunc_runes Tryd.lays229 56 #[] (enters_of Tryd.func56 (by kernel_rfl) rfl) blank s w (by omega) hp (by kernel_rfl) (by kernel_rfl)
    have e1 : Lib.goFieldsP blank s = (tagP s).map hmk := fields_blank s ha
    rw [e1, List.length_map] at h
    refine h.mono ?_
    rintro e w' ⟨A, h1, _, h3, h4⟩
    refine ⟨A, h1, ?_, h4⟩
    unfold OwnS textsW
    rw [List.length_map]
    exact h3
  clear ha
  generalize tagP s = P at *
  go_enter Tryd.func37, Tryd.ntmps37
  go_wp2_with fail
  refine C.mono ?_
  rintro e w1 ⟨A, rfl, ho, hb⟩
  have HO : Hid (OwnS w1 w.heap.size (.slice (some ⟨A, 0, none⟩) P.length P.length) (P.map hmk)) := ho
  have HB2 : Hid (Below w.heap.size w w1) := hb
  clear C ho hb
  go_wp2_with fail
  go_ret
  exact ⟨⟨_, rfl, HO.out⟩, HB2.out⟩
set_option maxRecDepth 100000 in
set_option maxHeartbeats 4000000 in
theorem specTags_any (w : World) (a : Option Addr) (cap : Nat) (l : List Hdr) (hl : l.length ≤ 1048576) (hi : HdsIn w a l) :
    Calls Tryd.prog 17 #[.slice a l.length cap] w fun e w' => TRes (tagsC l) (tagsR l) w.heap.size e w' ∧ Below w.heap.size w w' := by
  have HA : Hid (∀ W, Below w.heap.size w W → Calls Tryd.prog 24 #[.slice a l.length cap] W fun e w' => e = .returned (.int .i64 (headsC l)) ∧ Below W.heap.size W w') := fun W hb => specHFault_any W a cap l hl (hi.keep hb)
  by_cases h0 : headsC l = 0
  · rw [h0] at HA
    have HC2 : Hid (10 < (tagsL l).length → tagsC l = 2 ∧ tagsR l = []) := tags_many h0
    have HC0 : Hid (¬ 10 < (tagsL l).length → tagsC l = 0 ∧ tagsR l = tagsL l) := tags_ok h0
    have HT : Hid (∀ W, Below w.heap.size w W → Calls Tryd.prog 36 #[.slice a l.length cap] W fun e w' => (∃ v, e = .returned v ∧ OwnS w' W.heap.size v (tagsL l)) ∧ Below W.heap.size W w') := fun W hb => l6Tags_any W a cap l h0 (hi.keep hb)
    clear hi h0
    generalize tagsC l = tc at *
    generalize tagsR l = tr at *
    generalize tagsL l = TL at *
    generalize l.length = n at *
    go_enter Tryd.func17, Tryd.ntmps17
    go_wp2_with fail
    refine (HA.out _ ((Below.refl _ _).alloc (Nat.le_refl _) _)).mono ?_
    rintro e w1 ⟨rfl, hb1⟩
    rw [World.size_alloc] at hb1
    have HB1 : Hid (Below (w.heap.size + 1) (w.alloc (.cells #[.int .i64 0, .slice none 0 0] 39)) w1) := hb1
    have hz1 : w.heap.size + 1 ≤ w1.heap.size := by have := hb1.size; rwa [World.size_alloc] at this
    have HBw : Hid (Below w.heap.size w w1) := ((Below.refl _ _).alloc (Nat.le_refl _) _).trans (hb1.mono (Nat.le_succ _))
    clear hb1 HA
    go_wp2_with fail
    refine (HT.out _ HBw.out).mono ?_
    rintro e w2 ⟨⟨v, rfl, ho⟩, hb2⟩
    obtain ⟨va, vc, hv, _⟩ := ho.lv.1.tin
    obtain ⟨vn, hvn⟩ : ∃ n, Hid (TL.length = n) := ⟨_, rfl⟩
    rw [hvn.out] at hv
    subst hv
    have hb := HB1.out.trans (hb2.mono hz1)
    have p0 : w2.cell? ⟨w.heap.size, 0, none⟩ = some (.int .i64 0) := by rw [hb.cell (p := ⟨w.heap.size, 0, none⟩) (by simp)]; simp
    have p1 : w2.cell? ⟨w.heap.size, 1, none⟩ = some (.slice none 0 0) := by rw [hb.cell (p := ⟨w.heap.size, 1, none⟩) (by simp)]; simp
    have f0 : w2.frozen? ⟨w.heap.size, 0, none⟩ = false := by rw [hb.frozen (p := ⟨w.heap.size, 0, none⟩) (by simp)]; simp
    have f1 : w2.frozen? ⟨w.heap.size, 1, none⟩ = false := by rw [hb.frozen (p := ⟨w.heap.size, 1, none⟩) (by simp)]; simp
    have KB : Hid (Below w.heap.size w w2) := HBw.out.trans (hb2.mono HBw.out.size)
    have KO : Hid (OwnS w2 (w.heap.size + 1) (.slice va vn vc) TL) := ho.lower hz1
    clear hb hb2 ho HB1 HBw HT
    by_cases h10 : (10 : Int) < vn
    · obtain ⟨q0, q1⟩ := two_set (v0 := .int .i64 2) (v1 := .slice none 0 0) p0 p1
      have HC : Hid (tc = 2 ∧ tr = []) := HC2.out (by have := hvn.out; omega)
      go_wp2_with fail
      refine bodyPost_ret (v := .agg #[.int .i64 2, .slice none 0 0]) (by simp [results, Tryd.results17, go_sem, q0, q1]) rfl ⟨⟨_, by rw [HC.out.1], ?_⟩, (KB.out.setCell (Nat.le_refl _) _).setCell (Nat.le_refl _) _⟩
      rw [HC.out.2]
      exact OwnS.nil _ _
    · obtain ⟨q0, q1⟩ := two_set (v0 := .int .i64 0) (v1 := .slice va vn vc) p0 p1
      have HC : Hid (tc = 0 ∧ tr = TL) := HC0.out (by have := hvn.out; omega)
      go_wp2_with fail
      refine bodyPost_ret (v := .agg #[.int .i64 0, .slice va vn vc]) (by simp [results, Tryd.results17, go_sem, q0, q1]) rfl ⟨⟨_, by rw [HC.out.1], ?_⟩, (KB.out.setCell (Nat.le_refl _) _).setCell (Nat.le_refl _) _⟩
      rw [HC.out.2]
      exact (tset (tset KO.out (Nat.lt_succ_self _)) (Nat.lt_succ_self _)).lower (Nat.le_succ _)
  · have HC : Hid (tagsC l = headsC l ∧ tagsR l = []) := tags_bad h0
    clear hi
    generalize tagsC l = tc at *
    generalize tagsR l = tr at *
    generalize l.length = n at *
    generalize headsC l = hcode at *
    go_enter Tryd.func17, Tryd.ntmps17
    go_wp2_with fail
    refine (HA.out _ ((Below.refl _ _).alloc (Nat.le_refl _) _)).mono ?_
    rintro e w2 ⟨rfl, hb1⟩
    rw [World.size_alloc] at hb1
    have KB : Hid (Below w.heap.size w w2) := ((Below.refl _ _).alloc (Nat.le_refl _) _).trans (hb1.mono (Nat.le_succ _))
    have p0 : w2.cell? ⟨w.heap.size, 0, none⟩ = some (.int .i64 0) := by rw [hb1.cell (p := ⟨w.heap.size, 0, none⟩) (by simp)]; simp
    have p1 : w2.cell? ⟨w.heap.size, 1, none⟩ = some (.slice none 0 0) := by rw [hb1.cell (p := ⟨w.heap.size, 1, none⟩) (by simp)]; simp
    have f0 : w2.frozen? ⟨w.heap.size, 0, none⟩ = false := by rw [hb1.frozen (p := ⟨w.heap.size, 0, none⟩) (by simp)]; simp
    have f1 : w2.frozen? ⟨w.heap.size, 1, none⟩ = false := by rw [hb1.frozen (p := ⟨w.heap.size, 1, none⟩) (by simp)]; simp
    clear hb1 HA
    obtain ⟨q0, q1⟩ := two_set (v0 := .int .i64 hcode) (v1 := .slice none 0 0) p0 p1
    go_wp2_with fail
    refine bodyPost_ret (v := .agg #[.int .i64 hcode, .slice none 0 0]) (by simp [results, Tryd.results17, go_sem, q0, q1]) rfl ⟨⟨_, by rw [HC.out.1], ?_⟩, (KB.out.setCell (Nat.le_refl _) _).setCell (Nat.le_refl _) _⟩
    rw [HC.out.2]
    exact OwnS.nil _ _
set_option maxRecDepth 100000 in
set_option maxHeartbeats 4000000 in
theorem implTags_any (w : World) (a : Option Addr) (cap : Nat) (l : List Hdr) (hl : l.length ≤ 1048576) (hcap : l.length ≤ cap) (hset : SetIs w) (hi : HdsIn w a l) :
    Calls Tryd.prog 18 #[.slice a l.length cap] w fun e w' => TRes (tagsC l) (tagsR l) w.heap.size e w' ∧ Below w.heap.size w w' := by
  have HA : Hid (∀ W, Below w.heap.size w W → Calls Tryd.prog 27 #[.slice a l.length cap] W fun e w' => e = .returned (.int .i64 (headsC l)) ∧ Below W.heap.size W w') := fun W hb => implHFault_any W a cap l hl (hset.below hb) (hi.keep hb)
  by_cases h0 : headsC l = 0
  · rw [h0] at HA
    have HC2 : Hid (10 < (tagsL l).length → tagsC l = 2 ∧ tagsR l = []) := tags_many h0
    have HC0 : Hid (¬ 10 < (tagsL l).length → tagsC l = 0 ∧ tagsR l = tagsL l) := tags_ok h0
    have h20 := (first_sizes h0).1
    have HJ : Hid (∀ W, Below w.heap.size w W → Calls Tryd.prog 38 #[.slice a l.length cap, .string ⟨#[83, 117, 114, 114, 111, 103, 97, 116, 101, 45, 75, 101, 121]⟩] W fun e w' => e = .returned (.agg #[.int .i64 (joinC l ⟨#[83, 117, 114, 114, 111, 103, 97, 116, 101, 45, 75, 101, 121]⟩), .string (underT tagN l)]) ∧ Below W.heap.size W w') := fun W hb => by
      have := implJoin_any W a cap l ⟨#[83, 117, 114, 114, 111, 103, 97, 116, 101, 45, 75, 101, 121]⟩ (by omega) hcap (hset.below hb) (hi.keep hb)
      rw [under_join h0 tagI_word, tagI_low] at this
      exact this
    have HT : Hid (∀ W, Calls Tryd.prog 37 #[.string (underT tagN l)] W fun e w' => (∃ v, e = .returned v ∧ OwnS w' W.heap.size v (tagsL l)) ∧ Below W.heap.size W w') := fun W => blankParted_any (underT tagN l) W (by have := under_size (x := tagN) h0; omega) (under_ascii h0)
    generalize joinC l ⟨#[83, 117, 114, 114, 111, 103, 97, 116, 101, 45, 75, 101, 121]⟩ = jc at *
    generalize underT tagN l = ut at *
    have hf := tfieldU jc ut
    clear hi h0 hcap hset h20
    generalize tagsC l = tc at *
    generalize tagsR l = tr at *
    generalize tagsL l = TL at *
    generalize l.length = n at *
    go_enter Tryd.func18, Tryd.ntmps18
    go_wp2_with fail
    refine (HA.out _ ((Below.refl _ _).alloc (Nat.le_refl _) _)).mono ?_
    rintro e w1 ⟨rfl, hb1⟩
    rw [World.size_alloc] at hb1
    have HB1 : Hid (Below (w.heap.size + 1) (w.alloc (.cells #[.int .i64 0, .slice none 0 0] 39)) w1) := hb1
    have hz1 : w.heap.size + 1 ≤ w1.heap.size := by have := hb1.size; rwa [World.size_alloc] at this
    have HBw : Hid (Below w.heap.size w w1) := ((Below.refl _ _).alloc (Nat.le_refl _) _).trans (hb1.mono (Nat.le_succ _))
    clear hb1 HA
    go_wp2_with fail
    refine (HJ.out _ HBw.out).mono ?_
    rintro e w15 ⟨rfl, hb15⟩
    have HB15 : Hid (Below (w.heap.size + 1) (w.alloc (.cells #[.int .i64 0, .slice none 0 0] 39)) w15) := HB1.out.trans (hb15.mono hz1)
    have hz15 : w.heap.size + 1 ≤ w15.heap.size := Nat.le_trans hz1 hb15.size
    have HBx : Hid (Below w.heap.size w w15) := HBw.out.trans (hb15.mono HBw.out.size)
    clear hb15 HJ HB1 HBw hz1
    have hz1 := hz15
    have HB1 := HB15
    have HBw := HBx
    clear hz15 HB15 HBx
    go_wp2_with fail
    refine (HT.out _).mono ?_
    rintro e w2 ⟨⟨v, rfl, ho⟩, hb2⟩
    obtain ⟨va, vc, hv, _⟩ := ho.lv.1.tin
    obtain ⟨vn, hvn⟩ : ∃ n, Hid (TL.length = n) := ⟨_, rfl⟩
    rw [hvn.out] at hv
    subst hv
    have hb := HB1.out.trans (hb2.mono hz1)
    have p0 : w2.cell? ⟨w.heap.size, 0, none⟩ = some (.int .i64 0) := by rw [hb.cell (p := ⟨w.heap.size, 0, none⟩) (by simp)]; simp
    have p1 : w2.cell? ⟨w.heap.size, 1, none⟩ = some (.slice none 0 0) := by rw [hb.cell (p := ⟨w.heap.size, 1, none⟩) (by simp)]; simp
    have f0 : w2.frozen? ⟨w.heap.size, 0, none⟩ = false := by rw [hb.frozen (p := ⟨w.heap.size, 0, none⟩) (by simp)]; simp
    have f1 : w2.frozen? ⟨w.heap.size, 1, none⟩ = false := by rw [hb.frozen (p := ⟨w.heap.size, 1, none⟩) (by simp)]; simp
    have KB : Hid (Below w.heap.size w w2) := HBw.out.trans (hb2.mono HBw.out.size)
    have KO : Hid (OwnS w2 (w.heap.size + 1) (.slice va vn vc) TL) := ho.lower hz1
    clear hb hb2 ho HB1 HBw HT
    by_cases h10 : (10 : Int) < vn
    · obtain ⟨q0, q1⟩ := two_set (v0 := .int .i64 2) (v1 := .slice none 0 0) p0 p1
      have HC : Hid (tc = 2 ∧ tr = []) := HC2.out (by have := hvn.out; omega)
      go_wp2_with fail
      refine bodyPost_ret (v := .agg #[.int .i64 2, .slice none 0 0]) (by simp [results, Tryd.results18, go_sem, q0, q1]) rfl ⟨⟨_, by rw [HC.out.1], ?_⟩, (KB.out.setCell (Nat.le_refl _) _).setCell (Nat.le_refl _) _⟩
      rw [HC.out.2]
      exact OwnS.nil _ _
    · obtain ⟨q0, q1⟩ := two_set (v0 := .int .i64 0) (v1 := .slice va vn vc) p0 p1
      have HC : Hid (tc = 0 ∧ tr = TL) := HC0.out (by have := hvn.out; omega)
      go_wp2_with fail
      refine bodyPost_ret (v := .agg #[.int .i64 0, .slice va vn vc]) (by simp [results, Tryd.results18, go_sem, q0, q1]) rfl ⟨⟨_, by rw [HC.out.1], ?_⟩, (KB.out.setCell (Nat.le_refl _) _).setCell (Nat.le_refl _) _⟩
      rw [HC.out.2]
      exact (tset (tset KO.out (Nat.lt_succ_self _)) (Nat.lt_succ_self _)).lower (Nat.le_succ _)
  · have HC : Hid (tagsC l = headsC l ∧ tagsR l = []) := tags_bad h0
    clear hi hcap hset
    generalize tagsC l = tc at *
    generalize tagsR l = tr at *
    generalize l.length = n at *
    generalize headsC l = hcode at *
    go_enter Tryd.func18, Tryd.ntmps18
    go_wp2_with fail
    refine (HA.out _ ((Below.refl _ _).alloc (Nat.le_refl _) _)).mono ?_
    rintro e w2 ⟨rfl, hb1⟩
    rw [World.size_alloc] at hb1
    have KB : Hid (Below w.heap.size w w2) := ((Below.refl _ _).alloc (Nat.le_refl _) _).trans (hb1.mono (Nat.le_succ _))
    have p0 : w2.cell? ⟨w.heap.size, 0, none⟩ = some (.int .i64 0) := by rw [hb1.cell (p := ⟨w.heap.size, 0, none⟩) (by simp)]; simp
    have p1 : w2.cell? ⟨w.heap.size, 1, none⟩ = some (.slice none 0 0) := by rw [hb1.cell (p := ⟨w.heap.size, 1, none⟩) (by simp)]; simp
    have f0 : w2.frozen? ⟨w.heap.size, 0, none⟩ = false := by rw [hb1.frozen (p := ⟨w.heap.size, 0, none⟩) (by simp)]; simp
    have f1 : w2.frozen? ⟨w.heap.size, 1, none⟩ = false := by rw [hb1.frozen (p := ⟨w.heap.size, 1, none⟩) (by simp)]; simp
    clear hb1 HA
    obtain ⟨q0, q1⟩ := two_set (v0 := .int .i64 hcode) (v1 := .slice none 0 0) p0 p1
    go_wp2_with fail
    refine bodyPost_ret (v := .agg #[.int .i64 hcode, .slice none 0 0]) (by simp [results, Tryd.results18, go_sem, q0, q1]) rfl ⟨⟨_, by rw [HC.out.1], ?_⟩, (KB.out.setCell (Nat.le_refl _) _).setCell (Nat.le_refl _) _⟩
    rw [HC.out.2]
    exact OwnS.nil _ _
end Go.Proofs.YtbandckkgdnlpaaDoor
/-
  The laws' copy of head lines: what it holds may be written.
-/
namespace Go.Proofs.YtbandckkgdnlpaaDoor
open Go.ChangeShapes Go.WideShapes Go.ChangeAt Go.RowKit Go.Sort
set_option maxHeartbeats 2000000 in
theorem toHeaderS_free (w : World) (a : Option Addr) (cap : Nat) (l : List Hdr) (hl : l.length ≤ 1048576) (hi : l = [] ∨ ∃ b off, a = some ⟨b, off, none⟩ ∧ HeadsAt w b off l) :
    Calls Tryd.prog 8 #[.slice a l.length cap] w fun e w' => e = .returned (.slice (some ⟨w.heap.size, 0, none⟩) l.length l.length) ∧ HeadsAt w' w.heap.size 0 l ∧ w.heap.size < w'.heap.size ∧ (∀ o, w'.frozen? ⟨w.heap.size, o, none⟩ = false) ∧ Below w.heap.size w w' := by
  have HI : Hid (l = [] ∨ ∃ b off, a = some ⟨b, off, none⟩ ∧ HeadsAt w b off l) := hi
  obtain ⟨i0, hi0, hz0, hz1, hz2⟩ := info_parts infoHeader
  clear hi
  generalize hn : l.length = n at *
  have HN : Hid (l.length = n) := hn
  clear hn
  go_enter Tryd.func8, Tryd.ntmps8
  go_wp2_with (at_make; refine wpList_make_full w rfl _ _ 27 rfl w.heap.size 49 i0 _ 2 Tryd.underlying27 hi0 hz0 hz1 _ _ _ _ n rfl rfl rfl rfl (by rw [hz2]; omega) (by unfold maxLen; omega) (Nat.le_refl _) ?_; intro w1 hown hgrow)
  have HR1 : Hid (HRoom w1 w.heap.size (n * 2) ∧ (w.heap.size < w1.heap.size ∧ ∀ o, w1.frozen? ⟨w.heap.size, o, none⟩ = false) ∧ Below w.heap.size w w1) := by
    refine ⟨fun j hj => ⟨?_, hown.frozenAt j⟩, ⟨?lt, fun o => hown.frozenAt o⟩, (Below.refl _ _).grown hgrow (Nat.le_refl _) (fun q hq => by cases hq)⟩
    case lt =>
      obtain ⟨_, h | ⟨g, c, cur, e, _, hh, _⟩⟩ := hown
      · cases h.1
      · simp only [Value.slice.injEq, Option.some.injEq] at e
        have e1 := congrArg Addr.block e.1
        simp only at e1
        rw [e1]
        exact (Array.getElem?_eq_some_iff.1 hh).1
    have h1 := hown.cellAt j hj
    have h2 : j < (madeCells (Value.agg #[.string ⟨#[]⟩, .string ⟨#[]⟩]).cells (n * 2)).toList.length := by have := hown.1; omega
    exact ⟨_, h1.trans (List.getElem?_eq_getElem h2)⟩
  clear hown hgrow
  go_loopw [4] (fun i wr => ∃ k : Nat, k ≤ n ∧ i = .int .i64 k ∧ HeadsAt wr w.heap.size 0 (l.take k) ∧ HRoom wr w.heap.size (n * 2) ∧ (w.heap.size < wr.heap.size ∧ ∀ o, wr.frozen? ⟨w.heap.size, o, none⟩ = false) ∧ Below w.heap.size w wr) (fun i _ => n - (intOf i).toNat)
  case atStart => exact ⟨0, Nat.zero_le _, rfl, fun i r hr => by simp at hr, HR1.out.1, HR1.out.2.1, HR1.out.2.2⟩
  case round =>
    obtain ⟨k, hk, rfl, hat, hroom, hfr, hb⟩ := hrel
    have HFR : Hid (w.heap.size < wr.heap.size ∧ ∀ o, wr.frozen? ⟨w.heap.size, o, none⟩ = false) := hfr
    clear hfr
    clear HR1
    by_cases hlt : k < n
    · obtain ⟨r, hr⟩ : ∃ r, l[k]? = some r := ⟨l[k]'(by have := HN.out; omega), List.getElem?_eq_getElem _⟩
      rcases HI.out with h | ⟨b, off, rfl, hsrc⟩
      · subst h; simp at hr
      have hblt : b < w.heap.size := block_lt_of_cell (hsrc k r hr).1
      have hkeep := (hsrc.keep (w' := w) (Below.refl _ _)) k r hr
      have p1 : wr.cell? ⟨b, off + k * 2, none⟩ = some (.string r.name) := by rw [hb.cell (p := ⟨b, off + k * 2, none⟩) hblt]; exact hkeep.1
      have p3 : wr.cell? ⟨b, off + k * 2 + 1, none⟩ = some (.string r.value) := by rw [hb.cell (p := ⟨b, off + k * 2 + 1, none⟩) hblt]; exact hkeep.2
      have HA : Hid (HeadsAt wr w.heap.size 0 (l.take k)) := hat
      have HM : Hid (HRoom wr w.heap.size (n * 2)) := hroom
      have HR : Hid (l[k]? = some r) := hr
      have g : (k : Int) < n := by omega
      clear hat hroom hr hsrc hkeep HI
      go_wp2_with fail
      refine (toHeader_any r _).mono ?_
      rintro e w2 ⟨rfl, hb2⟩
      have HA2 : Hid (HeadsAt w2 w.heap.size 0 (l.take k)) := HA.out.keep hb2
      have HM2 : Hid (HRoom w2 w.heap.size (n * 2)) := HM.out.keep hb2
      have hbb : Below w.heap.size w w2 := hb.trans (hb2.mono hb.size)
      have HFR2 : Hid (w.heap.size < w2.heap.size ∧ ∀ o, w2.frozen? ⟨w.heap.size, o, none⟩ = false) := ⟨Nat.lt_of_lt_of_le HFR.out.1 hb2.size, fun o => by rw [hb2.frozen (p := ⟨w.heap.size, o, none⟩) HFR.out.1]; exact HFR.out.2 o⟩
      obtain ⟨⟨u0, g0⟩, f0⟩ := HM2.out (k * 2) (by omega)
      obtain ⟨⟨u1, g1⟩, f1⟩ := HM2.out (k * 2 + 1) (by omega)
      have HP : Hid (HeadsAt (put2 w2 w.heap.size k r) w.heap.size 0 (l.take (k + 1)) ∧ HRoom (put2 w2 w.heap.size k r) w.heap.size (n * 2)) := ⟨HA2.out.put HR.out HM2.out hlt, HM2.out.put k r⟩
      clear HA HM HA2 HM2 hb2 hb p1 p3
      obtain ⟨rn, rv⟩ := r
      go_wp2_with fail
      go_roundw
      case rel => exact ⟨k + 1, by omega, by go_num, HP.out.1, HP.out.2, ⟨by simpa using HFR2.out.1, fun o => by rw [World.frozen?_setCell, World.frozen?_setCell]; exact HFR2.out.2 o⟩, (hbb.setCell (Nat.le_refl _) _).setCell (Nat.le_refl _) _⟩
      case measure => simp [intOf]; omega
    · have HF : Hid (HeadsAt wr w.heap.size 0 l) := by
        have e : l.take k = l := List.take_of_length_le (by have := HN.out; omega)
        rw [e] at hat
        exact hat
      clear hat hroom
      go_wp2_with fail
      go_ret
      exact ⟨rfl, HF.out, HFR.out.1, HFR.out.2, hb⟩
end Go.Proofs.YtbandckkgdnlpaaDoor
